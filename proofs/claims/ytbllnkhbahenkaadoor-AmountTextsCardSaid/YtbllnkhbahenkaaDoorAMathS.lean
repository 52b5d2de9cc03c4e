/- The mathematics of AmountShares: no claim of its own. -/
import Derived.Test.YtbllnkhbahenkaaDoorAF
namespace Go.Proofs.YtbllnkhbahenkaaDoor
open Go.RowKit MA
/-- The weight x and the part p at place k. -/
structure PA (t : Int) (ws : List Int) (k x p : Nat) : Prop where
  wx : ws.getD k 0 = (x : Int)
  px : (parts t ws).getD k 0 = (p : Int)
  x1 : x ≤ 1000000
  pt : (p : Int) ≤ t
  lo : p * ws.sum.toNat < t.toNat * x + ws.sum.toNat
  hi : t.toNat * x < p * ws.sum.toNat + ws.sum.toNat
section
variable {t : Int} {ws : List Int}
theorem parts_get {k : Nat} (hk : k < ws.length) : (parts t ws).getD k 0 = (MA.part t.toNat (wN ws) ws.length ws.sum.toNat k : Int) := by
  unfold parts; rw [partsAt_get _ _ _ hk, partAt_miss]
theorem parts_len : (parts t ws).length = ws.length := partsAt_len _ _ _
theorem ShareIn.pa (h : ShareIn t ws) (k : Nat) (hk : k < ws.length) : ∃ x p, PA t ws k x p := by
  have h1 := h.div.near k
  have h2 := h.div.part_le hk
  have h3 := h.t0
  exact ⟨wN ws k, MA.part t.toNat (wN ws) ws.length ws.sum.toNat k, (wN_cast h.ok hk).symm, parts_get hk, wN_le h.ok k, by omega, h1.1, h1.2⟩
theorem PA.x_eq {k x p : Nat} (h : PA t ws k x p) : wN ws k = x := by unfold wN; rw [h.wx]; rfl
theorem PA.p_eq {k x p : Nat} (h : PA t ws k x p) (hk : k < ws.length) : MA.part t.toNat (wN ws) ws.length ws.sum.toNat k = p := by
  have := h.px; rw [parts_get hk] at this; omega
theorem PA.mono {i k x p y q : Nat} (h : PA t ws i x p) (g : PA t ws k y q) (hi : i < ws.length) (hk : k < ws.length) (hlt : y < x) : q ≤ p := by
  rw [← h.p_eq hi, ← g.p_eq hk]
  exact Div.order hi (by rw [h.x_eq, g.x_eq]; exact hlt)
/-- The first k parts add up to z. -/
structure SP (t : Int) (ws : List Int) (k : Nat) (z : Int) : Prop where
  eq : z = ((S (MA.part t.toNat (wN ws) ws.length ws.sum.toNat) k : Nat) : Int)
theorem SP.zero (t : Int) (ws : List Int) : SP t ws 0 0 := ⟨by simp [S]⟩
theorem SP.next {k x p : Nat} {z : Int} (h : SP t ws k z) (g : PA t ws k x p) (hk : k < ws.length) : SP t ws (k + 1) (z + p) := by
  refine ⟨?_⟩
  have := h.eq
  simp only [S, g.p_eq hk]
  push_cast
  omega
theorem SP.range {k : Nat} {z : Int} (h : SP t ws k z) (g : ShareIn t ws) (hk : k ≤ ws.length) : 0 ≤ z ∧ z ≤ 1000000 := by
  have := h.eq
  have h1 := S_mono (MA.part t.toNat (wN ws) ws.length ws.sum.toNat) k ws.length hk
  rw [g.div.total] at h1
  have := g.t1
  omega
theorem SP.fin {z : Int} (h : SP t ws ws.length z) (g : ShareIn t ws) : z = t := by
  have := h.eq
  rw [g.div.total] at this
  have := g.t0
  omega
end
end Go.Proofs.YtbllnkhbahenkaaDoor
