/- Contracts of the reference's Mul over fractions: no claim of its own. -/
import Derived.Test.YtbllnkhbahenkaaGreatDoorRArith
namespace Go.Proofs.YtbllnkhbahenkaaGreatDoor
open Go.RowKit
theorem Num.al {w : World} {A : Option Addr} {n c a : Nat} {xs : List Nat} (h : Num w A n c xs a) (o : Obj) : Num (w.alloc o) A n c xs a := h.keep (below_alloc w o)
theorem Num.ad {w : World} {A : Option Addr} {n c a : Nat} {xs : List Nat} (h : Num w.drew A n c xs a) (o : Obj) : Num (w.alloc o).drew A n c xs a := h.keep (below_alloc w.drew o)
theorem name_world {K : Exit → Act → World → Prop} {e : Exit} {a : Act} {w : World} (h : ∀ wx, wx = w → K e a wx) : K e a w := h w rfl
theorem al_keep {w : World} {o : Obj} {p : Addr} {v : Value} (h : w.cell? p = some v) : (w.alloc o).cell? p = some v := by
  rw [World.cell?_alloc_lt w o p (World.block_lt_of_cell? w _ h)]; exact h
theorem ad_keep {w : World} {o : Obj} {p : Addr} {v : Value} (h : w.drew.cell? p = some v) : (w.alloc o).drew.cell? p = some v := al_keep (w := w.drew) h
theorem below_al {w w' : World} {o : Obj} (hb : Below (w.alloc o).heap.size (w.alloc o) w') : Below w.heap.size w w' := (below_alloc w o).trans (hb.mono (by simp))
theorem below_ad {w w' : World} {o : Obj} (hb : Below (w.alloc o).drew.heap.size (w.alloc o).drew w') : Below w.drew.heap.size w.drew w' := below_al (w := w.drew) (o := o) hb
theorem FB.al {w w' : World} {s : Bool} {A B : Option Addr} {n c m d : Nat} (hb : Below (w.alloc (.cells #[.bool s, .slice A n c, .slice B m d] 25)).heap.size (w.alloc (.cells #[.bool s, .slice A n c, .slice B m d] 25)) w') : FB w' w.heap.size s A n c B m d := (FB.new w s A n c B m d).keep hb
theorem FB.ad {w w' : World} {s : Bool} {A B : Option Addr} {n c m d : Nat} (hb : Below (w.alloc (.cells #[.bool s, .slice A n c, .slice B m d] 25)).drew.heap.size (w.alloc (.cells #[.bool s, .slice A n c, .slice B m d] 25)).drew w') : FB w' w.heap.size s A n c B m d := (FB.new w s A n c B m d).drew.keep hb
theorem FB.off3 {w w1 : World} {g : Nat} {s : Bool} {A B : Option Addr} {n c m d : Nat} (h : FB w g s A n c B m d) {g' : Nat} (hg : w.grownBy w1 (some g')) (hne : g ≠ g') : FB w1 g s A n c B m d := (hg.block g h.lt (by intro e; injection e with e; exact hne e)).trans h
/-- A fraction read back from a variable of the call's own, and laid into the result. -/
theorem backFr {w wx : World} {T : Fr} {g r : Nat} {z : Bool} {X Y A B C D : Option Addr} {x1 x2 y1 y2 n c m d n' c' m' d' : Nat} {xs ys : List Nat} {u : Bool} (zB : Below w.heap.size w wx) (zF : FB wx g u C n' c' D m' d') (zR : FB wx r z X x1 x2 Y y1 y2) (zP : Num wx A n c xs T.p) (zQ : Num wx B m d ys T.q) (hr : w.heap.size ≤ r) (hg : r < g) :
    FB (stFr wx g T.s A n c B m d) g T.s A n c B m d ∧ FB (stFr wx g T.s A n c B m d) r z X x1 x2 Y y1 y2 ∧ Num (stFr wx g T.s A n c B m d) A n c xs T.p ∧ Num (stFr wx g T.s A n c B m d) B m d ys T.q ∧ Below w.heap.size w (stFr wx g T.s A n c B m d) :=
  ⟨zF.st _ _ _ _ _ _ _, zR.off3 (grown_st _ _ _ _ _ _ _ _ _) (by omega), zP.grown zF (grown_st _ _ _ _ _ _ _ _ _), zQ.grown zF (grown_st _ _ _ _ _ _ _ _ _), zB.trans (grown_below (grown_st _ _ _ _ _ _ _ _ _) (by omega) zB.size)⟩
end Go.Proofs.YtbllnkhbahenkaaGreatDoor
