/- Valid and the sums of the reference: no claim of its own. -/
import Derived.Test.YtigfgeanofccgaaGreatDoorJCc
import Derived.Test.YtigfgeanofccgaaGreatDoorJMu
namespace Go.Proofs.YtigfgeanofccgaaGreatDoor
open Go.RowKit
open MC (Pr)
theorem okB_bad {b : List Int} {k : Nat} (hl : b.length = 6) (hk : k < 6) (h : MB.at_ b k < 0 ∨ 4 < MB.at_ b k) : MB.okB b = false := by
  cases e : MB.okB b with
  | false => rfl
  | true => have := okB_at e (k := k) (by rw [hl]; exact hk); omega
theorem okB_good {b : List Int} (hl : b.length = 6) (h : ∀ k, k < 6 → 0 ≤ MB.at_ b k ∧ MB.at_ b k ≤ 4) : MB.okB b = true := by
  unfold MB.okB
  rw [List.all_eq_true]
  intro q hq
  obtain ⟨k, hk, rfl⟩ := List.getElem_of_mem hq
  have := h k (by omega)
  unfold MB.at_ at this
  rw [List.getD_eq_getElem?_getD, List.getElem?_eq_getElem hk] at this
  simp at this
  simp [this]
/-- What the reference's sums answer. -/
def sumsV (g : Int) (L : List Pr) (b : List Int) : Value := .tuple #[.int .i64 (MC.sumG fP L b), .int .i64 (MC.sumG fR L b), .int .i64 (MC.sumG (fU g) L b)]
theorem sums_no {g : Int} {L : List Pr} {b : List Int} (h : ¬ (MC.chkL L = 0 ∧ MB.okB b = true)) : Ending.returned (.tuple #[.int .i64 0, .int .i64 0, .int .i64 0]) = .returned (sumsV g L b) := by
  unfold sumsV; rw [MC.sumG_no h, MC.sumG_no h, MC.sumG_no h]
theorem sums_yes {g : Int} {L : List Pr} {b : List Int} {x y z : Int} (h : MC.chkL L = 0) (hb : MB.okB b = true) (hx : x = MC.sumK fP L b L.length) (hy : y = MC.sumK fR L b L.length) (hz : z = MC.sumK (fU g) L b L.length) :
    Ending.returned (.tuple #[.int .i64 x, .int .i64 y, .int .i64 z]) = .returned (sumsV g L b) := by
  unfold sumsV; rw [MC.sumG_yes h hb, MC.sumG_yes h hb, MC.sumG_yes h hb, hx, hy, hz]
/-- The three sums over the first i products and k units of the next. -/
structure Part (g : Int) (L : List Pr) (b : List Int) (i : Nat) (p : Pr) (k : Nat) (x y z : Int) : Prop where
  x_ : x = MC.sumK fP L b i + k * fP p
  y_ : y = MC.sumK fR L b i + k * fR p
  z_ : z = MC.sumK (fU g) L b i + k * fU g p
structure Whole (g : Int) (L : List Pr) (b : List Int) (i : Nat) (x y z : Int) : Prop where
  x_ : x = MC.sumK fP L b i
  y_ : y = MC.sumK fR L b i
  z_ : z = MC.sumK (fU g) L b i
theorem Whole.start (g : Int) (L : List Pr) (b : List Int) : Whole g L b 0 0 0 0 := ⟨rfl, rfl, rfl⟩
theorem Whole.part {g : Int} {L : List Pr} {b : List Int} {i : Nat} {x y z : Int} (h : Whole g L b i x y z) (p : Pr) : Part g L b i p 0 x y z :=
  ⟨by rw [h.x_]; simp, by rw [h.y_]; simp, by rw [h.z_]; simp⟩
theorem Part.whole {g : Int} {L : List Pr} {b : List Int} {i : Nat} {p : Pr} {k : Nat} {x y z : Int} (h : Part g L b i p k x y z) (hp : L[i]? = some p) (hk : (k : Int) = MB.at_ b i) : Whole g L b (i + 1) x y z :=
  ⟨sum_next hp hk h.x_, sum_next hp hk h.y_, sum_next hp hk h.z_⟩
theorem Part.yes {g : Int} {L : List Pr} {b : List Int} {i : Nat} {p : Pr} {k : Nat} {x y z : Int} (h : Part g L b i p k x y z) (hL : MC.Good L) (hb : MB.okB b = true) (hi : i ≤ 6) (ho : p.ok) (hk : k < 4) (hg : p.group = g) :
    Part g L b i p (k + 1) (wrap64 (x + p.points)) (wrap64 (y + p.reserve)) (wrap64 (z + 1)) :=
  ⟨add_unit h.x_ (sumK_small small_P hL hb hi) (small_P p ho) hk, add_unit h.y_ (sumK_small small_R hL hb hi) (small_R p ho) hk, by
    have := add_unit h.z_ (sumK_small (small_U g) hL hb hi) (small_U g p ho) hk
    rw [fU_yes hg] at this ⊢; exact this⟩
theorem Part.no {g : Int} {L : List Pr} {b : List Int} {i : Nat} {p : Pr} {k : Nat} {x y z : Int} (h : Part g L b i p k x y z) (hL : MC.Good L) (hb : MB.okB b = true) (hi : i ≤ 6) (ho : p.ok) (hk : k < 4) (hg : p.group ≠ g) :
    Part g L b i p (k + 1) (wrap64 (x + p.points)) (wrap64 (y + p.reserve)) z :=
  ⟨add_unit h.x_ (sumK_small small_P hL hb hi) (small_P p ho) hk, add_unit h.y_ (sumK_small small_R hL hb hi) (small_R p ho) hk, by
    have := h.z_
    rw [fU_no hg] at this ⊢; rw [this]; simp⟩
end Go.Proofs.YtigfgeanofccgaaGreatDoor
