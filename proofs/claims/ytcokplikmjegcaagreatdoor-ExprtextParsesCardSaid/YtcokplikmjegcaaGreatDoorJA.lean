/- MathL, LBase, MathB, joined: no claim of its own. -/
import Derived.Lib.Hide
import Derived.Test.YtcokplikmjegcaaGreatDoorChecked
import Derived.WalkKit
import Derived.Below
import Derived.Laws.OwnMore
import Derived.Deep.AppendLies
import Derived.Deep.Draws
import Derived.Maps.AppendAt
import Derived.RegionTactic
import Derived.OwnWalk
import Derived.Deep.QuietTactic
import Derived.BigQuiet
import Derived.BigRegion
import Derived.WalkSpells
import Derived.Outline
import Derived.StillTailTactics
import Derived.Laws.RangeAny
namespace Go.Proofs.YtcokplikmjegcaaGreatDoor
/-- Kinds of characters, by number. -/
def letterN (n : Nat) : Bool := decide (97 ≤ n) && decide (n ≤ 122)
def digitN (n : Nat) : Bool := decide (48 ≤ n) && decide (n ≤ 57)
def partN (n : Nat) : Bool := letterN n || (digitN n || decide (n = 95))
def markN (n : Nat) : Bool := [123, 125, 40, 41, 58, 44, 64, 43, 45, 61].contains n
theorem letterN_yes {n : Nat} : letterN n = true ↔ 97 ≤ n ∧ n ≤ 122 := by simp [letterN]
theorem digitN_yes {n : Nat} : digitN n = true ↔ 48 ≤ n ∧ n ≤ 57 := by simp [digitN]
theorem letterN_no {n : Nat} : letterN n = false ↔ n < 97 ∨ 122 < n := by
  cases h : letterN n with
  | true => have := letterN_yes.1 h; simp; omega
  | false => simp only [true_iff]; exact (by rcases Nat.lt_or_ge n 97 with a | a; exact .inl a; rcases Nat.lt_or_ge 122 n with b | b; exact .inr b; rw [letterN_yes.2 ⟨a, b⟩] at h; cases h)
theorem digitN_no {n : Nat} : digitN n = false ↔ n < 48 ∨ 57 < n := by
  cases h : digitN n with
  | true => have := digitN_yes.1 h; simp; omega
  | false => simp only [true_iff]; exact (by rcases Nat.lt_or_ge n 48 with a | a; exact .inl a; rcases Nat.lt_or_ge 57 n with b | b; exact .inr b; rw [digitN_yes.2 ⟨a, b⟩] at h; cases h)
theorem markN_yes {n : Nat} : markN n = true ↔ n = 123 ∨ n = 125 ∨ n = 40 ∨ n = 41 ∨ n = 58 ∨ n = 44 ∨ n = 64 ∨ n = 43 ∨ n = 45 ∨ n = 61 := by simp [markN]
theorem partN_lt {n : Nat} (h : partN n = true) : n < 128 := by
  unfold partN at h
  simp only [Bool.or_eq_true, decide_eq_true_eq] at h
  rcases h with h | h | h
  · have := letterN_yes.1 h; omega
  · have := digitN_yes.1 h; omega
  · omega
theorem digitN_lt {n : Nat} (h : digitN n = true) : n < 128 := by have := digitN_yes.1 h; omega
theorem part_of_letter {n : Nat} (h : letterN n = true) : partN n = true := by unfold partN; rw [h]; rfl
/-- A token. -/
structure Tk where
  kind : Int
  text : List UInt8
  value : Int
  at_ : Int
def Tk.zero : Tk := ⟨0, [], 0, 0⟩
def Tk.put (t : Tk) (k : Int) : Tk := ⟨t.kind, t.text, t.value, k⟩
/-- The longest beginning whose bytes belong to B. -/
def fits (B : Nat → Bool) (l : List UInt8) : List UInt8 := l.takeWhile fun c => B c.toNat
def numV (l : List UInt8) : Nat := l.foldl (fun v c => v * 10 + (c.toNat - 48)) 0
/-- The first token of a text that is not empty, and the error. -/
def oneT : List UInt8 → Tk × Int
  | [] => (.zero, 2)
  | c :: r =>
    if letterN c.toNat = true then (if 12 < (fits partN (c :: r)).length then (.zero, 3) else (⟨1, fits partN (c :: r), 0, 0⟩, 0))
    else if digitN c.toNat = true then
      (if c.toNat = 48 ∧ 1 < (fits digitN (c :: r)).length then (.zero, 2)
       else if 9 < (fits digitN (c :: r)).length then (.zero, 4)
       else (⟨2, fits digitN (c :: r), (numV (fits digitN (c :: r)) : Nat), 0⟩, 0))
    else if markN c.toNat = true then (⟨3, [c], 0, 0⟩, 0)
    else (.zero, 2)
theorem oneT_cons (c : UInt8) (r : List UInt8) : oneT (c :: r) =
    if letterN c.toNat = true then (if 12 < (fits partN (c :: r)).length then (.zero, 3) else (⟨1, fits partN (c :: r), 0, 0⟩, 0))
    else if digitN c.toNat = true then
      (if c.toNat = 48 ∧ 1 < (fits digitN (c :: r)).length then (.zero, 2)
       else if 9 < (fits digitN (c :: r)).length then (.zero, 4)
       else (⟨2, fits digitN (c :: r), (numV (fits digitN (c :: r)) : Nat), 0⟩, 0))
    else if markN c.toNat = true then (⟨3, [c], 0, 0⟩, 0)
    else (.zero, 2) := rfl
/-- The tokens of the rest of a text, behind those that stand before. -/
def toksA : Nat → Nat → List UInt8 → List Tk → List Tk × Int
  | 0, _, _, out => (out, 0)
  | _ + 1, _, [], out => (out, 0)
  | f + 1, at_, c :: r, out =>
    if c.toNat = 32 then toksA f (at_ + 1) r out
    else if (oneT (c :: r)).2 = 0 then toksA f (at_ + (oneT (c :: r)).1.text.length) ((c :: r).drop (oneT (c :: r)).1.text.length) (out ++ [(oneT (c :: r)).1.put at_])
    else ([], (oneT (c :: r)).2)
def toks (l : List UInt8) : List Tk × Int := if 4000 < l.length then ([], 3) else toksA (l.length + 1) 0 l []
theorem fits_le (B : Nat → Bool) (l : List UInt8) : (fits B l).length ≤ l.length := (List.takeWhile_sublist _).length_le
theorem fits_take (B : Nat → Bool) (l : List UInt8) : l.take (fits B l).length = fits B l := (List.prefix_iff_eq_take.1 (List.takeWhile_prefix _)).symm
theorem fits_cons {B : Nat → Bool} {c : UInt8} {r : List UInt8} (h : B c.toNat = true) : fits B (c :: r) = c :: fits B r := List.takeWhile_cons_of_pos h
/-- Every byte before the end belongs to it; the byte at the end does not. -/
theorem fits_in (B : Nat → Bool) : ∀ (l : List UInt8) (k : Nat), k < (fits B l).length → ∃ c, l[k]? = some c ∧ B c.toNat = true := by
  intro l
  induction l with
  | nil => intro k h; simp [fits] at h
  | cons c r ih =>
    intro k h
    by_cases hc : B c.toNat = true
    · rw [fits_cons hc] at h
      cases k with
      | zero => exact ⟨c, rfl, hc⟩
      | succ k => obtain ⟨d, h1, h2⟩ := ih k (by simpa using h); exact ⟨d, by simpa using h1, h2⟩
    · have : fits B (c :: r) = [] := List.takeWhile_cons_of_neg hc
      rw [this] at h; simp at h
theorem fits_end (B : Nat → Bool) : ∀ (l : List UInt8), (fits B l).length < l.length → ∃ c, l[(fits B l).length]? = some c ∧ B c.toNat = false := by
  intro l
  induction l with
  | nil => intro h; simp [fits] at h
  | cons c r ih =>
    intro h
    by_cases hc : B c.toNat = true
    · rw [fits_cons hc] at h ⊢
      obtain ⟨d, h1, h2⟩ := ih (by simpa using h)
      exact ⟨d, by simpa using h1, h2⟩
    · have : fits B (c :: r) = [] := List.takeWhile_cons_of_neg hc
      rw [this]; exact ⟨c, rfl, by simpa using hc⟩
/-- Where the first k belong to it and the next does not (or there is none), the beginning has k bytes. -/
theorem fits_eq {B : Nat → Bool} {l : List UInt8} {k : Nat} (h1 : k ≤ (fits B l).length) (h2 : k < l.length → ∃ c, l[k]? = some c ∧ B c.toNat = false) : (fits B l).length = k := by
  rcases Nat.lt_or_ge k (fits B l).length with h | h
  · obtain ⟨c, e1, e2⟩ := fits_in B l k h
    have := fits_le B l
    obtain ⟨d, e3, e4⟩ := h2 (by omega)
    rw [e1] at e3; injection e3 with e3; subst e3; rw [e2] at e4; cases e4
  · omega
theorem numV_snoc (l : List UInt8) (c : UInt8) : numV (l ++ [c]) = numV l * 10 + (c.toNat - 48) := by simp [numV]
theorem numV_lt : ∀ (l : List UInt8), numV l < 256 * 10 ^ l.length := by
  suffices h : ∀ (l : List UInt8) (v k : Nat), v + 23 < 256 * k → l.foldl (fun v c => v * 10 + (c.toNat - 48)) v + 23 < 256 * (k * 10 ^ l.length) by
    intro l
    have := h l 0 1 (by decide)
    rw [Nat.one_mul] at this
    exact Nat.lt_of_le_of_lt (Nat.le_add_right _ _) this
  intro l
  induction l with
  | nil => intro v k h; simpa using h
  | cons c r ih =>
    intro v k h
    have hc := c.toNat_lt
    have := ih (v * 10 + (c.toNat - 48)) (k * 10) (by omega)
    rw [List.foldl_cons, List.length_cons, Nat.pow_succ, Nat.mul_comm (10 ^ r.length) 10, ← Nat.mul_assoc k 10]
    exact this
/-- The first token: it lies at the beginning and is not empty. -/
theorem oneT_nil_or {l : List UInt8} (h : (oneT l).2 = 0) : (oneT l).1.text ≠ [] ∧ l.take (oneT l).1.text.length = (oneT l).1.text ∧ (oneT l).1.text.length ≤ l.length := by
  cases l with
  | nil => simp [oneT] at h
  | cons c r =>
    rw [oneT_cons] at h ⊢
    by_cases h1 : letterN c.toNat = true
    · rw [if_pos h1] at h ⊢
      by_cases h2 : 12 < (fits partN (c :: r)).length
      · rw [if_pos h2] at h; simp at h
      · rw [if_neg h2]
        exact ⟨by rw [fits_cons (part_of_letter h1)]; simp, fits_take _ _, fits_le _ _⟩
    · rw [if_neg h1] at h ⊢
      by_cases h2 : digitN c.toNat = true
      · rw [if_pos h2] at h ⊢
        by_cases h3 : c.toNat = 48 ∧ 1 < (fits digitN (c :: r)).length
        · rw [if_pos h3] at h; simp at h
        · rw [if_neg h3] at h ⊢
          by_cases h4 : 9 < (fits digitN (c :: r)).length
          · rw [if_pos h4] at h; simp at h
          · rw [if_neg h4]
            exact ⟨by rw [fits_cons h2]; simp, fits_take _ _, fits_le _ _⟩
      · rw [if_neg h2] at h ⊢
        by_cases h3 : markN c.toNat = true
        · rw [if_pos h3]
          exact ⟨by simp, by simp, by simp⟩
        · rw [if_neg h3] at h; simp at h
theorem oneT_len {l : List UInt8} (h : (oneT l).2 = 0) : 1 ≤ (oneT l).1.text.length ∧ (oneT l).1.text.length ≤ l.length := by
  obtain ⟨a, _, b⟩ := oneT_nil_or h
  exact ⟨by cases hh : (oneT l).1.text with | nil => exact absurd hh a | cons _ _ => simp, b⟩
/-- The steps of the loop. -/
theorem toksA_end {f k : Nat} {l : List UInt8} {out : List Tk} (h : l.length ≤ k) : toksA f k (l.drop k) out = (out, 0) := by
  rw [List.drop_of_length_le h]; cases f <;> rfl
theorem toksA_space {f k : Nat} {l : List UInt8} {out : List Tk} {c : UInt8} (hc : l[k]? = some c) (h : c.toNat = 32) : toksA (f + 1) k (l.drop k) out = toksA f (k + 1) (l.drop (k + 1)) out := by
  obtain ⟨hk, rfl⟩ := List.getElem?_eq_some_iff.1 hc
  rw [List.drop_eq_getElem_cons hk, toksA, if_pos h]
theorem toksA_tok {f k : Nat} {l : List UInt8} {out : List Tk} {c : UInt8} (hc : l[k]? = some c) (h : c.toNat ≠ 32) (h1 : (oneT (l.drop k)).2 = 0) :
    toksA (f + 1) k (l.drop k) out = toksA f (k + (oneT (l.drop k)).1.text.length) (l.drop (k + (oneT (l.drop k)).1.text.length)) (out ++ [(oneT (l.drop k)).1.put k]) := by
  obtain ⟨hk, rfl⟩ := List.getElem?_eq_some_iff.1 hc
  have e := List.drop_eq_getElem_cons hk
  conv => lhs; rw [e, toksA, if_neg h, ← e, if_pos h1]
  rw [List.drop_drop]
theorem toksA_bad {f k : Nat} {l : List UInt8} {out : List Tk} {c : UInt8} (hc : l[k]? = some c) (h : c.toNat ≠ 32) (h1 : (oneT (l.drop k)).2 ≠ 0) :
    toksA (f + 1) k (l.drop k) out = ([], (oneT (l.drop k)).2) := by
  obtain ⟨hk, rfl⟩ := List.getElem?_eq_some_iff.1 hc
  have e := List.drop_eq_getElem_cons hk
  rw [e, toksA, if_neg h, ← e, if_neg h1]
/-- Tokens lie one after the other from a place on, with spaces alone between them. -/
def Cov (l : List UInt8) : Nat → List Tk → Prop
  | p, [] => ∀ j c, p ≤ j → l[j]? = some c → c.toNat = 32
  | p, t :: ts => ∃ k : Nat, t.at_ = k ∧ p ≤ k ∧ oneT (l.drop k) = (t.put 0, 0) ∧ t.text ≠ [] ∧ k + t.text.length ≤ l.length ∧ (l.drop k).take t.text.length = t.text ∧ (∀ j c, p ≤ j → j < k → l[j]? = some c → c.toNat = 32) ∧ Cov l (k + t.text.length) ts
theorem Cov.back {l : List UInt8} {k : Nat} {ts : List Tk} {c : UInt8} (h : Cov l (k + 1) ts) (hc : l[k]? = some c) (h32 : c.toNat = 32) : Cov l k ts := by
  cases ts with
  | nil =>
    intro j d hj hd
    rcases Nat.lt_or_ge k j with a | a
    · exact h j d (by omega) hd
    · have : j = k := by omega
      subst this; rw [hc] at hd; injection hd with hd; rw [← hd]; exact h32
  | cons t ts =>
    obtain ⟨q, a1, a2, a3, a4, a5, a6, a7, a8⟩ := h
    refine ⟨q, a1, by omega, a3, a4, a5, a6, fun j d hj hq hd => ?_, a8⟩
    rcases Nat.lt_or_ge k j with a | a
    · exact a7 j d (by omega) hq hd
    · have : j = k := by omega
      subst this; rw [hc] at hd; injection hd with hd; rw [← hd]; exact h32
/-- A name. -/
def nameB (l : List UInt8) : Bool := match l with
  | [] => false
  | c :: r => decide ((c :: r).length ≤ 12) && (letterN c.toNat && decide (fits partN (c :: r) = c :: r))
end Go.Proofs.YtcokplikmjegcaaGreatDoor
namespace Go.Proofs.YtcokplikmjegcaaGreatDoor
open Go.RowKit
/-- A call hands back v; nothing that was there has turned. -/
def Gives (v : Value) (w : World) (e : Ending) (w' : World) : Prop := e = .returned v ∧ Below w.heap.size w w'
theorem below_new (w : World) (o : Obj) : Below w.heap.size w (w.alloc o) := (Below.refl _ _).alloc (Nat.le_refl _) _
theorem below_drawn (w : World) : Below w.heap.size w w.drew := (Below.refl _ _).drew
theorem below_drewN {w W : World} {B : Nat} (h : Below B W w) (q : Nat) : Below B W (w.drewN q) := by
  induction q with
  | zero => exact h
  | succ q ih => exact ih.drew
theorem heap_new (w : World) (o : Obj) : (w.alloc o).heap[w.heap.size]? = some o := Array.getElem?_push_size
/-- The text of a list of bytes. -/
def str (l : List UInt8) : ByteArray := ⟨l.toArray⟩
theorem str_data (l : List UInt8) : (str l).data.toList = l := by simp [str]
theorem str_size (l : List UInt8) : (str l).size = l.length := by simp [str, ByteArray.size]
theorem size_list (s : ByteArray) : s.data.toList.length = s.size := by simp
theorem bytes_eq (s t : ByteArray) (h : s.data.toList = t.data.toList) : s = t := by
  cases s with
  | mk d =>
    cases t with
    | mk e =>
      have : d = e := Array.toList_inj.1 h
      rw [this]
theorem str_self (s : ByteArray) : str s.data.toList = s := bytes_eq _ _ (str_data _)
theorem append_data (s t : ByteArray) : (s ++ t).data.toList = s.data.toList ++ t.data.toList := by simp
theorem str_append (l m : List UInt8) : str l ++ str m = str (l ++ m) := bytes_eq _ _ (by rw [append_data, str_data, str_data, str_data])
theorem at_list (s : ByteArray) (k : Nat) (h : k < s.size) : s.data.toList[k]? = some s[k] := by
  rw [List.getElem?_eq_getElem (by simpa using h)]; rfl
theorem take_data (s : ByteArray) (k : Nat) : (s.extract 0 k).data.toList = s.data.toList.take k := by
  rw [ByteArray.data_extract, Array.toList_extract]
  simp
theorem drop_data (s : ByteArray) (k : Nat) : (s.extract k s.size).data.toList = s.data.toList.drop k := by
  rw [ByteArray.data_extract, Array.toList_extract]
  exact List.take_of_length_le (by simp)
theorem str_take (s : ByteArray) (k : Nat) : s.extract 0 k = str (s.data.toList.take k) := bytes_eq _ _ (by rw [take_data, str_data])
theorem test_no {a b : ByteArray} (h : a.data.toList ≠ b.data.toList) : (a.toList == b.toList) = false := by
  rw [ByteArray.toList_eq, ByteArray.toList_eq]
  exact beq_eq_false_iff_ne.2 h
theorem test_yes {a b : ByteArray} (h : a.data.toList = b.data.toList) : (a.toList == b.toList) = true := by
  rw [ByteArray.toList_eq, ByteArray.toList_eq]
  exact beq_iff_eq.2 h
theorem block_of_add (a : Addr) (n : Nat) : (a.add n).block = a.block := by unfold Addr.add; split <;> rfl
theorem add_of_add (a : Addr) (i j : Nat) : (a.add i).add j = a.add (i + j) := by
  unfold Addr.add
  by_cases hi : i = 0 <;> by_cases hj : j = 0 <;> simp [hi, hj, Nat.add_assoc]
theorem addr_add (g o j : Nat) : (⟨g, o, none⟩ : Addr).add j = ⟨g, o + j, none⟩ := by unfold Addr.add; split <;> simp_all

def Reads (w : World) (B size : Nat) (A : Option Addr) (n : Nat) (xs : List Value) : Prop :=
  xs.length = n * size ∧ (0 < n → ∃ ad, A = some ad ∧ ad.block < B ∧ ∀ j u, xs[j]? = some u → w.cell? (ad.add j) = some u)
section
variable {w w' : World} {B B' size n : Nat} {A : Option Addr} {xs : List Value}
theorem Reads.none_ : Reads w B size A 0 [] := ⟨by simp, fun h => absurd h (by omega)⟩
theorem Reads.keep (h : Reads w B size A n xs) (hk : ∀ p : Addr, p.block < B → w'.cell? p = w.cell? p) : Reads w' B size A n xs :=
  ⟨h.1, fun hn => by
    obtain ⟨ad, e, hb, hc⟩ := h.2 hn
    exact ⟨ad, e, hb, fun j u hu => (hk _ (by rw [block_of_add]; exact hb)).trans (hc j u hu)⟩⟩
theorem Reads.more (h : Reads w B size A n xs) (hB : B ≤ B') : Reads w B' size A n xs :=
  ⟨h.1, fun hn => by
    obtain ⟨ad, e, hb, hc⟩ := h.2 hn
    exact ⟨ad, e, by omega, hc⟩⟩
theorem Reads.below (h : Reads w B size A n xs) (hb : Below B w w') : Reads w' B size A n xs := h.keep fun _ hp => hb.cell hp
theorem Reads.cut (h : Reads w B size A n xs) {k cap : Nat} (hk : k ≤ n) (hc : n ≤ cap) :
    Reads w B size (if cap = k then A else A.map (·.add (k * size))) (n - k) (xs.drop (k * size)) := by
  refine ⟨by rw [List.length_drop, h.1, Nat.sub_mul], fun hn => ?_⟩
  obtain ⟨ad, rfl, hb, hcell⟩ := h.2 (by omega)
  rw [if_neg (by omega)]
  refine ⟨ad.add (k * size), rfl, by rw [block_of_add]; exact hb, fun j u hu => ?_⟩
  rw [add_of_add]
  exact hcell _ u (by rw [← hu, List.getElem?_drop])
theorem Reads.of_own {base : Nat} {e : TypeId} {c : Nat} (h : w.ownsRow base e size (.slice A n c) n xs) : Reads w w.heap.size size A n xs := by
  refine ⟨h.1, fun hn => ?_⟩
  obtain ⟨g, cap, hv, _, hlt⟩ := h.form hn
  have hA : A = some ⟨g, 0, none⟩ := by injection hv
  subst hA
  exact ⟨_, rfl, hlt, h.cells (g := g) rfl⟩
end
/-- A token's cells. -/
def cellsT (t : Tk) : List Value := [.int .i64 t.kind, .string (str t.text), .int .i64 t.value, .int .i64 t.at_]
def cellsTs (ts : List Tk) : List Value := ts.flatMap cellsT
/-- A token by value. -/
def aggT (t : Tk) : Value := .agg #[.int .i64 t.kind, .string (str t.text), .int .i64 t.value, .int .i64 t.at_]
theorem cellsTs_length (ts : List Tk) : (cellsTs ts).length = ts.length * 4 := by
  induction ts with
  | nil => rfl
  | cons t r ih => show (cellsT t ++ cellsTs r).length = _; rw [List.length_append, ih]; simp [cellsT]; omega
theorem cellsTs_append (a b : List Tk) : cellsTs (a ++ b) = cellsTs a ++ cellsTs b := by simp [cellsTs]
theorem cellsTs_one (t : Tk) : cellsTs [t] = cellsT t := by simp [cellsTs]
theorem cellsTs_drop (ts : List Tk) (k : Nat) : (cellsTs ts).drop (k * 4) = cellsTs (ts.drop k) := by
  induction ts generalizing k with
  | nil => simp [cellsTs]
  | cons t r ih =>
    cases k with
    | zero => simp
    | succ k =>
      show (cellsT t ++ cellsTs r).drop ((k + 1) * 4) = cellsTs (r.drop k)
      rw [← ih k, List.drop_append, show (cellsT t).drop ((k + 1) * 4) = [] from List.drop_of_length_le (by simp [cellsT]; omega), List.nil_append]
      congr 1
      simp [cellsT]; omega
theorem cellsTs_at (ts : List Tk) (k i : Nat) (h : k < ts.length) (hi : i < 4) : (cellsTs ts)[k * 4 + i]? = (cellsT ts[k])[i]? := by
  have e := cellsTs_drop ts k
  rw [List.drop_eq_getElem_cons h] at e
  have : (cellsTs ts)[k * 4 + i]? = ((cellsTs ts).drop (k * 4))[i]? := by rw [List.getElem?_drop]
  rw [this, e]
  show (cellsT ts[k] ++ cellsTs (ts.drop (k + 1)))[i]? = _
  rw [List.getElem?_append_left (by simp [cellsT]; omega)]
/-- A slice of tokens that reads as ts. -/
structure Tks (w : World) (A : Option Addr) (n c : Nat) (ts : List Tk) : Prop where
  reads : Reads w w.heap.size 4 A n (cellsTs ts)
  len : ts.length = n
  cap : n ≤ c
  few : n ≤ 100000
section
variable {w w' : World} {A : Option Addr} {n c : Nat} {ts : List Tk}
theorem Tks.keep (h : Tks w A n c ts) (hb : Below w.heap.size w w') : Tks w' A n c ts := ⟨(h.reads.below hb).more hb.size, h.len, h.cap, h.few⟩
theorem Tks.nil (w : World) : Tks w none 0 0 [] := ⟨Reads.none_, rfl, Nat.le_refl _, Nat.zero_le _⟩
theorem Tks.at_ (h : Tks w A n c ts) {k : Nat} (hk : k < n) : ∃ (ad : Addr) (t : Tk), A = some ad ∧ ts[k]? = some t ∧ ad.block < w.heap.size ∧
    w.cell? (ad.add (k * 4)) = some (.int .i64 t.kind) ∧ w.cell? ⟨(ad.add (k * 4)).block, (ad.add (k * 4)).off + 1, none⟩ = some (.string (str t.text)) ∧
    w.cell? ⟨(ad.add (k * 4)).block, (ad.add (k * 4)).off + 2, none⟩ = some (.int .i64 t.value) ∧ w.cell? ⟨(ad.add (k * 4)).block, (ad.add (k * 4)).off + 3, none⟩ = some (.int .i64 t.at_) := by
  obtain ⟨ad, e, hb, hc⟩ := h.reads.2 (by omega)
  have hl : k < ts.length := by rw [h.len]; exact hk
  have c0 := hc (k * 4 + 0) _ ((cellsTs_at ts k 0 hl (by decide)).trans rfl)
  have c1 := hc (k * 4 + 1) _ ((cellsTs_at ts k 1 hl (by decide)).trans rfl)
  have c2 := hc (k * 4 + 2) _ ((cellsTs_at ts k 2 hl (by decide)).trans rfl)
  have c3 := hc (k * 4 + 3) _ ((cellsTs_at ts k 3 hl (by decide)).trans rfl)
  rw [show ad.add (k * 4 + 1) = ⟨(ad.add (k * 4)).block, (ad.add (k * 4)).off + 1, none⟩ by rw [← Addr.add_add]; rfl] at c1
  rw [show ad.add (k * 4 + 2) = ⟨(ad.add (k * 4)).block, (ad.add (k * 4)).off + 2, none⟩ by rw [← Addr.add_add]; rfl] at c2
  rw [show ad.add (k * 4 + 3) = ⟨(ad.add (k * 4)).block, (ad.add (k * 4)).off + 3, none⟩ by rw [← Addr.add_add]; rfl] at c3
  exact ⟨ad, ts[k], e, List.getElem?_eq_getElem hl, hb, c0, c1, c2, c3⟩
end
theorem infoTok : (Tryz.prog.info? 97).map (fun i => (i.zero, i.size, i.bytes)) = some (some (.agg #[.int .i64 0, .string ⟨#[]⟩, .int .i64 0, .int .i64 0]), 4, 40) := by kernel_rfl
theorem infoRTok : (Tryz.prog.info? 105).map (fun i => (i.zero, i.size, i.bytes)) = some (some (.agg #[.int .i64 0, .string ⟨#[]⟩, .int .i64 0, .int .i64 0]), 4, 40) := by kernel_rfl
/-- The call's own row of tokens. -/
def OwnT (e : TypeId) (w : World) (B : Nat) (v : Value) (ts : List Tk) : Prop := w.ownsRow B e 4 v ts.length (cellsTs ts)
theorem OwnT.nil (e : TypeId) (w : World) (B : Nat) : OwnT e w B (.slice none 0 0) [] := World.ownsRow_nil _ _ _ _
theorem OwnT.form {e : TypeId} {w : World} {B : Nat} {v : Value} {ts : List Tk} (h : OwnT e w B v ts) (hn : ts.length ≤ 100000) : ∃ A c, v = .slice A ts.length c ∧ Tks w A ts.length c ts := by
  rcases h.2 with ⟨rfl, h0⟩ | ⟨g, cap, cur, rfl, hg, hh, hc, hm, hsz, ht⟩
  · have : ts = [] := List.eq_nil_of_length_eq_zero h0
    subst this
    exact ⟨none, 0, rfl, Tks.nil _⟩
  · exact ⟨_, _, rfl, ⟨Reads.of_own (A := some ⟨g, 0, none⟩) (c := cap) h, rfl, hc, hn⟩⟩
theorem OwnT.form2 {e : TypeId} {w : World} {B : Nat} {v : Value} {ts : List Tk} (h : OwnT e w B v ts) (hn : ts.length ≤ 100000) : ∃ A c, v = .slice A ts.length c ∧ Tks w A ts.length c ts ∧ ∀ ad, A = some ad → B ≤ ad.block ∧ ad.block < w.heap.size := by
  obtain ⟨A, c, hv, ht⟩ := h.form hn
  refine ⟨A, c, hv, ht, fun ad ha => ?_⟩
  subst ha
  exact World.ownsRow.lt h ad.block (by rw [hv]; rfl)
/-- A call hands back tokens and an error. -/
def GivesToks (r : List Tk × Int) (w : World) (e : Ending) (w' : World) : Prop := ∃ A n c, e = .returned (.tuple #[.slice A n c, .int .i64 r.2]) ∧ Tks w' A n c r.1 ∧ Below w.heap.size w w'
/-- A call hands back a token and an error. -/
def GivesTk (r : Tk × Int) (w : World) (e : Ending) (w' : World) : Prop := e = .returned (.tuple #[aggT r.1, .int .i64 r.2]) ∧ Below w.heap.size w w'
/-- Block g holds four cells. -/
def TB (w : World) (g : Nat) (T : TypeId) (a b c d : Value) : Prop := w.heap[g]? = some (.cells #[a, b, c, d] T (0, 0))
section
variable {w w' : World} {g : Nat} {T : TypeId} {a b c d : Value}
theorem TB.new (w : World) (T : TypeId) (a b c d : Value) : TB (w.alloc (.cells #[a, b, c, d] T)) w.heap.size T a b c d := heap_new w _
theorem TB.lt (h : TB w g T a b c d) : g < w.heap.size := (Array.getElem?_eq_some_iff.1 h).1
theorem TB.keep (h : TB w g T a b c d) (hb : Below w.heap.size w w') : TB w' g T a b c d := (hb.block g h.lt).trans h
theorem TB.drew (h : TB w g T a b c d) : TB w.drew g T a b c d := h
theorem TB.cells (h : TB w g T a b c d) : w.cell? ⟨g, 0, none⟩ = some a ∧ w.cell? ⟨g, 1, none⟩ = some b ∧ w.cell? ⟨g, 2, none⟩ = some c ∧ w.cell? ⟨g, 3, none⟩ = some d := by
  have h' : w.heap[g]? = some (.cells #[a, b, c, d] T (0, 0)) := h
  exact ⟨by rw [cell_of_row w g 0 _ _ _ h']; rfl, by rw [cell_of_row w g 1 _ _ _ h']; rfl, by rw [cell_of_row w g 2 _ _ _ h']; rfl, by rw [cell_of_row w g 3 _ _ _ h']; rfl⟩
theorem TB.free (h : TB w g T a b c d) : w.frozen? ⟨g, 0, none⟩ = false ∧ w.frozen? ⟨g, 1, none⟩ = false ∧ w.frozen? ⟨g, 2, none⟩ = false ∧ w.frozen? ⟨g, 3, none⟩ = false := by
  have h' : w.heap[g]? = some (.cells #[a, b, c, d] T (0, 0)) := h
  refine ⟨?_, ?_, ?_, ?_⟩ <;> simp [World.frozen?, h']
end
theorem TB.row {w : World} {g : Nat} {T : TypeId} {a b c d : Value} (h : TB w g T a b c d) : ∀ j u, [a, b, c, d][j]? = some u → w.cell? ((⟨g, 0, none⟩ : Addr).add j) = some u := by
  intro j u hu
  have h' : w.heap[g]? = some (.cells #[a, b, c, d] T (0, 0)) := h
  rw [addr_add, Nat.zero_add, cell_of_row w g j _ _ _ h']
  simpa using hu
theorem cellsT_one (t : Tk) : ∀ u ∈ cellsT t, u.oneCell' = true := by
  intro u hu
  simp only [cellsT, List.mem_cons, List.not_mem_nil, or_false] at hu
  rcases hu with rfl | rfl | rfl | rfl <;> rfl
theorem iter_pos (w : World) (o : Obj) (s : ByteArray) (k : Nat) : ((w.alloc o).iter s k).iterPos (w.heap.size + 1) = k := by
  have := World.iterPos_iter (w.alloc o) s k
  rwa [show (w.alloc o).heap.size = w.heap.size + 1 by simp] at this
theorem below_iter (w : World) (s : ByteArray) (k : Nat) : Below w.heap.size w (w.iter s k) := below_new w _
end Go.Proofs.YtcokplikmjegcaaGreatDoor
namespace Go.Proofs.YtcokplikmjegcaaGreatDoor.MB
/-- The quantity of product i. -/
def at_ (b : List Int) (i : Nat) : Int := b.getD i 0
/-- The number of bundles over the first i products. -/
def P (s : List Int) : Nat → Nat
  | 0 => 1
  | i + 1 => P s i * ((at_ s i).toNat + 1)
/-- The digits of n over the first i products. -/
def D (s : List Int) : Nat → Nat → List Int
  | 0, _ => []
  | i + 1, n => D s i (n / ((at_ s i).toNat + 1)) ++ [((n % ((at_ s i).toNat + 1) : Nat) : Int)]
/-- The rank of the first i quantities. -/
def R (s b : List Int) : Nat → Nat
  | 0 => 0
  | i + 1 => R s b i * ((at_ s i).toNat + 1) + (at_ b i).toNat
/-- Digits, filled up with zeros to six products. -/
def pad (l : List Int) : List Int := l ++ List.replicate (6 - l.length) 0
theorem pad_length {l : List Int} (h : l.length ≤ 6) : (pad l).length = 6 := by unfold pad; rw [List.length_append, List.length_replicate]; omega
theorem pad_at {l : List Int} {j : Nat} (h : j < l.length) : at_ (pad l) j = at_ l j := by
  show List.getD (pad l) j 0 = List.getD l j 0
  rw [pad, List.getD_eq_getElem?_getD, List.getD_eq_getElem?_getD, List.getElem?_append_left h]
theorem pad_rest {l : List Int} {j : Nat} (h : l.length ≤ j) : at_ (pad l) j = 0 := by
  show List.getD (pad l) j 0 = 0
  rw [pad, List.getD_eq_getElem?_getD, List.getElem?_append_right h]
  rcases Nat.lt_or_ge (j - l.length) (6 - l.length) with g | g
  · rw [List.getElem?_replicate, if_pos g]; rfl
  · rw [List.getElem?_replicate, if_neg (by omega)]; rfl
/-- The bundles over the first i products, in order. -/
def row (s : List Int) (i n : Nat) : List (List Int) := (List.range n).map fun k => pad (D s i k)
/-- A valid bundle; the error. -/
def okB (b : List Int) : Bool := b.all fun q => decide (0 ≤ q) && decide (q ≤ 4)
theorem ext6 {a b : List Int} (ha : a.length = 6) (hb : b.length = 6) (h : ∀ j, j < 6 → at_ a j = at_ b j) : a = b := by
  apply List.ext_getElem (by omega)
  intro j h1 h2
  have := h j (by omega)
  unfold at_ at this
  rw [List.getD_eq_getElem?_getD, List.getD_eq_getElem?_getD, List.getElem?_eq_getElem h1, List.getElem?_eq_getElem h2] at this
  simpa using this
end Go.Proofs.YtcokplikmjegcaaGreatDoor.MB
