/- The reference's all. No claim of its own. -/
import Derived.Test.YtbnillkihmooeaaJVR
import Derived.Test.YtbnillkihmooeaaJVL
import Derived.Test.YtbnillkihmooeaaMathVF
namespace Go.Proofs.Ytbnillkihmooeaa
open Go.RowKit
/-- The expression, the supply and the table to be. -/
structure RA (w : World) (u0 u1 u2 u3 u4 u5 u6 u7 u8 : Value) (s : List Int) (Bo n : Nat) (go : Nat → Int) (X : World) : Prop where
  below : Below w.heap.size w X
  e : B9 X w.heap.size u0 u1 u2 u3 u4 u5 u6 u7 u8
  s : BB X (w.heap.size + 1) 23 s
  out : Blk X Bo (F go n) 2
  bo : w.heap.size + 1 < Bo
section
variable {w X Y : World} {u0 u1 u2 u3 u4 u5 u6 u7 u8 : Value} {s : List Int} {Bo n : Nat} {go go' : Nat → Int}
theorem RA.same (h : RA w u0 u1 u2 u3 u4 u5 u6 u7 u8 s Bo n go X) (e : ∀ k, k < n → go k = go' k) : RA w u0 u1 u2 u3 u4 u5 u6 u7 u8 s Bo n go' X :=
  ⟨h.below, h.e, h.s, by rw [← F_congr e]; exact h.out, h.bo⟩
theorem RA.keep (h : RA w u0 u1 u2 u3 u4 u5 u6 u7 u8 s Bo n go X) (hb : Below X.heap.size X Y) : RA w u0 u1 u2 u3 u4 u5 u6 u7 u8 s Bo n go Y :=
  ⟨h.below.trans (hb.mono h.below.size), h.e.keep hb, h.s.keep hb h.s.lt, h.out.keep hb, h.bo⟩
theorem RA.put (h : RA w u0 u1 u2 u3 u4 u5 u6 u7 u8 s Bo n go X) {i : Nat} {v : Int} (hgo : ∀ k, k < n → go' k = if k = i then v else go k) : RA w u0 u1 u2 u3 u4 u5 u6 u7 u8 s Bo n go' (X.setCell ⟨Bo, i, none⟩ (.int .i64 v)) := by
  have hw := h.bo
  refine ⟨h.below.setCell (p := ⟨Bo, i, none⟩) (by show w.heap.size ≤ Bo; omega) _, h.e.same (Below.heap_setCell _ _ _ _ (fun e => by have : w.heap.size = Bo := e; omega)), h.s.other _ (by omega), ?_, h.bo⟩
  have := h.out.set i (.int .i64 v)
  rwa [F_set go go' v hgo] at this
end
attribute [local go_sem] Oper.semAt_some
end Go.Proofs.Ytbnillkihmooeaa
