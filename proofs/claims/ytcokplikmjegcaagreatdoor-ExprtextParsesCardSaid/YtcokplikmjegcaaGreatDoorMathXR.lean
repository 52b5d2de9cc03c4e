/- The text of an expression is read back: plain theorems, no claim of their own. -/
import Derived.Test.YtcokplikmjegcaaGreatDoorJD
namespace Go.Proofs.YtcokplikmjegcaaGreatDoor.MX
open MC (Pr isO isM wrongE scanL mkT nmT flat)
open ME (F Nd)
def joinC : List (List UInt8) → List UInt8
  | [] => []
  | [x] => x
  | x :: y :: r => x ++ 44 :: joinC (y :: r)
def bidT (L : List Pr) (b : List Int) (v : Int) : List UInt8 := MC.textL L b ++ 64 :: MU.num v
/-- The text of a node, by those of its arguments. -/
def nodeT (L : List Pr) (o : Int) (b : List Int) (v : Int) (ks : List (List UInt8)) : List UInt8 :=
  if o = 1 then bidT L b v
  else if o = 2 then xorW ++ 40 :: (joinC ks ++ [41])
  else if o = 3 then orW ++ 40 :: (joinC ks ++ [41])
  else if o = 4 then bonusW ++ 40 :: (joinC ks ++ 44 :: (bidT L b v ++ [41]))
  else limitW ++ 40 :: (joinC ks ++ 44 :: (MU.num v ++ [41]))
def txF (L : List Pr) : F → List (List UInt8)
  | .nil => []
  | .cons o b v k r => nodeT L o b v (txF L k) :: txF L r
def txN (L : List Pr) (n : Nd) : List UInt8 := nodeT L n.o n.b n.v (txF L n.k)
def FitN (L : List Pr) (n : Nd) : Prop := ∀ x ∈ n.pre, MC.Fits L x.b
open Classical in
/-- What Format answers. -/
noncomputable def fmtE (L : List Pr) (n : Nd) : List UInt8 × Int :=
  if MC.chkL L ≠ 0 then ([], MC.chkL L) else if ME.checkE n ≠ 0 then ([], ME.checkE n) else if ¬ FitN L n then ([], 4) else if 4000 < (txN L n).length then ([], 3) else (txN L n, 0)
/-- The tokens of a text. -/
def amT (v : Int) : Tk := ⟨2, MU.num v, v, 0⟩
/-! Words and numbers stand before marks. -/
def Mk (t : Tk) : Prop := ∃ c : UInt8, markN c.toNat = true ∧ t = mkT c
def Wd (t : Tk) : Prop := (∃ n, nameB n = true ∧ t = nmT n) ∨ ∃ v : Int, 0 ≤ v ∧ v ≤ 1000000 ∧ t = amT v
def Good : List Tk → Prop
  | [] => True
  | t :: r => (Mk t ∨ (Wd t ∧ ∀ u s, r = u :: s → Mk u)) ∧ Good r
/-- What is known of the nodes of an expression with a text. -/
def OkN (L : List Pr) (x : Nd) : Prop := ME.nodeE x = 0 ∧ MC.Fits L x.b ∧ x.b.length = 6
theorem node_form {x : Nd} (h : ME.nodeE x = 0) : ME.formB x = true ∧ ME.rangeB x = true := by
  unfold ME.nodeE at h
  cases h1 : ME.formB x with
  | false => rw [h1] at h; simp at h
  | true =>
    cases h2 : ME.rangeB x with
    | false => rw [h1, h2] at h; simp at h
    | true => exact ⟨rfl, rfl⟩
/-- The five kinds of nodes. -/
theorem node_ways {x : Nd} (h : ME.nodeE x = 0) : (x.o = 1 ∧ x.k.len = 0 ∧ 1 ≤ x.v ∧ x.v ≤ 1000000) ∨ ((x.o = 2 ∨ x.o = 3) ∧ 1 ≤ x.k.len ∧ x.b = ME.zero6 ∧ x.v = 0) ∨ (x.o = 4 ∧ x.k.len = 1 ∧ 1 ≤ x.v ∧ x.v ≤ 1000000) ∨ (x.o = 5 ∧ x.k.len = 1 ∧ x.b = ME.zero6 ∧ 1 ≤ x.v ∧ x.v ≤ 1000000) := by
  obtain ⟨h1, h2⟩ := node_form h
  unfold ME.formB at h1
  unfold ME.rangeB at h2
  by_cases c1 : x.o = 1
  · rw [if_pos c1] at h1
    rw [if_neg (by omega)] at h2
    by_cases hv : x.v < 1 ∨ 1000000 < x.v
    · rw [if_pos hv] at h2; cases h2
    · exact .inl ⟨c1, of_decide_eq_true h1, by omega, by omega⟩
  · rw [if_neg c1] at h1
    by_cases c2 : x.o = 2 ∨ x.o = 3
    · rw [if_pos c2] at h1
      simp only [Bool.and_eq_true, decide_eq_true_eq] at h1
      exact .inr (.inl ⟨c2, h1.1.1.1, h1.1.2, h1.2⟩)
    · rw [if_neg c2] at h1 h2
      have hv : ¬ (x.v < 1 ∨ 1000000 < x.v) := fun hv => by rw [if_pos hv] at h2; cases h2
      by_cases c4 : x.o = 4
      · rw [if_pos c4] at h1
        exact .inr (.inr (.inl ⟨c4, of_decide_eq_true h1, by omega, by omega⟩))
      · rw [if_neg c4] at h1
        by_cases c5 : x.o = 5
        · rw [if_pos c5] at h1
          simp only [Bool.and_eq_true, decide_eq_true_eq] at h1
          exact .inr (.inr (.inr ⟨c5, h1.1, h1.2, by omega, by omega⟩))
        · rw [if_neg c5] at h1; cases h1
/-! Reading. -/
theorem mkF_roots : ∀ k : F, mkF k.roots = k
  | .nil => rfl
  | .cons o b v k r => by rw [F.roots, mkF, mkF_roots r]
/-! Spaces. -/
/-! A closing parenthesis behind the text. -/
theorem ok_of {L : List Pr} {n : Nd} (hn : ME.checkE n = 0) (hf : FitN L n) (h6 : ∀ x ∈ n.pre, x.b.length = 6) : ∀ x ∈ n.pre, OkN L x :=
  fun x hx => ⟨(ME.checkE_zero.1 hn).2.2.2 x hx, hf x hx, h6 x hx⟩
end Go.Proofs.YtcokplikmjegcaaGreatDoor.MX
