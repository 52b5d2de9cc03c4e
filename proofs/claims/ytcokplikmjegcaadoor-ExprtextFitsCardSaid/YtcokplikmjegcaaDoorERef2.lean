/- The reference's Check: no claim of its own. -/
import Derived.Test.YtcokplikmjegcaaDoorJR
import Derived.Test.YtcokplikmjegcaaDoorJK
namespace Go.Proofs.YtcokplikmjegcaaDoor
open Go.RowKit
open ME (F Nd)
theorem rangeB_eq (x : NT) : ME.rangeB x.n = if x.o = 2 ∨ x.o = 3 then true else if x.v < 1 ∨ 1000000 < x.v then false else decide (x.o = 5) || (decide (chk x.b = 0) && decide (1 ≤ totB x.b 6)) := rfl
/-- The i-th node of a list, as the walk spells it. -/
theorem nt_at {w : World} {Al : Option Addr} {n cl : Nat} {L : List NT} (h : Lst ntE w Al n cl L) {i : Nat} (hi : i < n) : ∃ (ad : Addr) (o y0 y1 y2 y3 y4 y5 v : Int) (A' : Option Addr) (c' : Nat) (k : FT), Al = some ad ∧ L[i]? = some ⟨o, [y0, y1, y2, y3, y4, y5], v, A', c', k⟩ ∧ w.cell? (ad.add (i * 9)) = some (.int .i64 o) ∧ w.cell? ⟨(ad.add (i * 9)).block, (ad.add (i * 9)).off + 1, none⟩ = some (.int .i64 y0) ∧ w.cell? ⟨(ad.add (i * 9)).block, (ad.add (i * 9)).off + 2, none⟩ = some (.int .i64 y1) ∧ w.cell? ⟨(ad.add (i * 9)).block, (ad.add (i * 9)).off + 3, none⟩ = some (.int .i64 y2) ∧ w.cell? ⟨(ad.add (i * 9)).block, (ad.add (i * 9)).off + 4, none⟩ = some (.int .i64 y3) ∧ w.cell? ⟨(ad.add (i * 9)).block, (ad.add (i * 9)).off + 5, none⟩ = some (.int .i64 y4) ∧ w.cell? ⟨(ad.add (i * 9)).block, (ad.add (i * 9)).off + 6, none⟩ = some (.int .i64 y5) ∧ w.cell? ⟨(ad.add (i * 9)).block, (ad.add (i * 9)).off + 7, none⟩ = some (.int .i64 v) ∧ w.cell? ⟨(ad.add (i * 9)).block, (ad.add (i * 9)).off + 8, none⟩ = some (.slice A' k.len c') := by
  obtain ⟨ad, x, e, hx, hf, _, hc⟩ := h.at0 hi
  obtain ⟨o, b, v, A', c', k⟩ := x
  obtain ⟨y0, y1, y2, y3, y4, y5, rfl⟩ := six (show b.length = 6 from hf)
  refine ⟨ad, o, y0, y1, y2, y3, y4, y5, v, A', c', k, e, hx, ?_, ?_, ?_, ?_, ?_, ?_, ?_, ?_, ?_⟩
  · have := hc 0 _ rfl; rwa [show ∀ a : Addr, a.add 0 = a from fun a => by unfold Addr.add; simp] at this
  all_goals first | exact hc 1 _ rfl | exact hc 2 _ rfl | exact hc 3 _ rfl | exact hc 4 _ rfl | exact hc 5 _ rfl | exact hc 6 _ rfl | exact hc 7 _ rfl | exact hc 8 _ rfl
/-- The same, in later worlds too. -/
theorem nt_at2 {w : World} {Al : Option Addr} {n cl : Nat} {L : List NT} (h : Lst ntE w Al n cl L) {i : Nat} (hi : i < n) : ∃ (ad : Addr) (o y0 y1 y2 y3 y4 y5 v : Int) (A' : Option Addr) (c' : Nat) (k : FT), Al = some ad ∧ L[i]? = some ⟨o, [y0, y1, y2, y3, y4, y5], v, A', c', k⟩ ∧ ∀ w', Below w.heap.size w w' → w'.cell? (ad.add (i * 9)) = some (.int .i64 o) ∧ w'.cell? ⟨(ad.add (i * 9)).block, (ad.add (i * 9)).off + 1, none⟩ = some (.int .i64 y0) ∧ w'.cell? ⟨(ad.add (i * 9)).block, (ad.add (i * 9)).off + 2, none⟩ = some (.int .i64 y1) ∧ w'.cell? ⟨(ad.add (i * 9)).block, (ad.add (i * 9)).off + 3, none⟩ = some (.int .i64 y2) ∧ w'.cell? ⟨(ad.add (i * 9)).block, (ad.add (i * 9)).off + 4, none⟩ = some (.int .i64 y3) ∧ w'.cell? ⟨(ad.add (i * 9)).block, (ad.add (i * 9)).off + 5, none⟩ = some (.int .i64 y4) ∧ w'.cell? ⟨(ad.add (i * 9)).block, (ad.add (i * 9)).off + 6, none⟩ = some (.int .i64 y5) ∧ w'.cell? ⟨(ad.add (i * 9)).block, (ad.add (i * 9)).off + 7, none⟩ = some (.int .i64 v) ∧ w'.cell? ⟨(ad.add (i * 9)).block, (ad.add (i * 9)).off + 8, none⟩ = some (.slice A' k.len c') := by
  obtain ⟨ad, o, y0, y1, y2, y3, y4, y5, v, A', c', k, e, hx, _⟩ := nt_at h hi
  refine ⟨ad, o, y0, y1, y2, y3, y4, y5, v, A', c', k, e, hx, fun w' hb => ?_⟩
  obtain ⟨ad2, o2, z0, z1, z2, z3, z4, z5, v2, A2, c2, k2, e2, hx2, hc⟩ := nt_at (h.keep hb) hi
  rw [e] at e2
  rw [hx] at hx2
  injection e2 with e2
  injection hx2 with hx2
  injection hx2 with q1 q2 q3 q4 q5 q6
  injection q2 with r0 q2
  injection q2 with r1 q2
  injection q2 with r2 q2
  injection q2 with r3 q2
  injection q2 with r4 q2
  injection q2 with r5 q2
  subst e2 q1 q3 q4 q5 q6 r0 r1 r2 r3 r4 r5
  exact hc
theorem drop_n {L : List NT} {i : Nat} {x : NT} (h : L[i]? = some x) : (L.drop i).map NT.n = x.n :: (L.drop (i + 1)).map NT.n := by
  obtain ⟨hl, rfl⟩ := List.getElem?_eq_some_iff.1 h
  rw [List.drop_eq_getElem_cons hl, List.map_cons]
end Go.Proofs.YtcokplikmjegcaaDoor
