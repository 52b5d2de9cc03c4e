/- The mathematics of tokens: plain theorems, no claim of their own. -/
import Derived.Lib.Hide
namespace Go.Proofs.Ytjjpfpgjpmedmaa
/-- Kinds of characters, by number. -/
def letterN (n : Nat) : Bool := decide (97 ≤ n) && decide (n ≤ 122)
def digitN (n : Nat) : Bool := decide (48 ≤ n) && decide (n ≤ 57)
def partN (n : Nat) : Bool := letterN n || (digitN n || decide (n = 95))
def markN (n : Nat) : Bool := [123, 125, 40, 41, 58, 44, 64, 43, 45, 61].contains n
/-- A token. -/
structure Tk where
  kind : Int
  text : List UInt8
  value : Int
  at_ : Int
def Tk.zero : Tk := ⟨0, [], 0, 0⟩
def Tk.put (t : Tk) (k : Int) : Tk := ⟨t.kind, t.text, t.value, k⟩
/-- The longest beginning whose bytes belong to B. -/
def fits (B : Nat → Bool) (l : List UInt8) : List UInt8 := l.takeWhile fun c => B c.toNat
def numV (l : List UInt8) : Nat := l.foldl (fun v c => v * 10 + (c.toNat - 48)) 0
/-- The first token of a text that is not empty, and the error. -/
def oneT : List UInt8 → Tk × Int
  | [] => (.zero, 2)
  | c :: r =>
    if letterN c.toNat = true then (if 12 < (fits partN (c :: r)).length then (.zero, 3) else (⟨1, fits partN (c :: r), 0, 0⟩, 0))
    else if digitN c.toNat = true then
      (if c.toNat = 48 ∧ 1 < (fits digitN (c :: r)).length then (.zero, 2)
       else if 9 < (fits digitN (c :: r)).length then (.zero, 4)
       else (⟨2, fits digitN (c :: r), (numV (fits digitN (c :: r)) : Nat), 0⟩, 0))
    else if markN c.toNat = true then (⟨3, [c], 0, 0⟩, 0)
    else (.zero, 2)
/-- Tokens lie one after the other from a place on, with spaces alone between them. -/
def Cov (l : List UInt8) : Nat → List Tk → Prop
  | p, [] => ∀ j c, p ≤ j → l[j]? = some c → c.toNat = 32
  | p, t :: ts => ∃ k : Nat, t.at_ = k ∧ p ≤ k ∧ oneT (l.drop k) = (t.put 0, 0) ∧ t.text ≠ [] ∧ k + t.text.length ≤ l.length ∧ (l.drop k).take t.text.length = t.text ∧ (∀ j c, p ≤ j → j < k → l[j]? = some c → c.toNat = 32) ∧ Cov l (k + t.text.length) ts
theorem Cov.back {l : List UInt8} {k : Nat} {ts : List Tk} {c : UInt8} (h : Cov l (k + 1) ts) (hc : l[k]? = some c) (h32 : c.toNat = 32) : Cov l k ts := by
  cases ts with
  | nil =>
    intro j d hj hd
    rcases Nat.lt_or_ge k j with a | a
    · exact h j d (by omega) hd
    · have : j = k := by omega
      subst this; rw [hc] at hd; injection hd with hd; rw [← hd]; exact h32
  | cons t ts =>
    obtain ⟨q, a1, a2, a3, a4, a5, a6, a7, a8⟩ := h
    refine ⟨q, a1, by omega, a3, a4, a5, a6, fun j d hj hq hd => ?_, a8⟩
    rcases Nat.lt_or_ge k j with a | a
    · exact a7 j d (by omega) hq hd
    · have : j = k := by omega
      subst this; rw [hc] at hd; injection hd with hd; rw [← hd]; exact h32
end Go.Proofs.Ytjjpfpgjpmedmaa
