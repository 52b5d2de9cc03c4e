/- Fractions in memory, and the contract of fraction.clone: no claim of its own. -/
import Derived.Test.YtgmjpkkpkdcncaaDoorFrac
namespace Go.Proofs.YtgmjpkkpkdcncaaDoor
open Go.RowKit
theorem clone_num {A : Option Addr} {n c a : Nat} {xs : List Nat} {w : World} (hx : Num w A n c xs a) (hn : n ≤ 900000) : Calls Tryd.prog 42 #[.slice A n c] w (GivesNum a w) :=
  (clone_any A n c xs w hx.toLst).mono fun e w' ⟨v, he, hO, hb⟩ => by
    obtain ⟨A1, c1, rfl, hN⟩ := hO.numOf (by rw [hx.len]; omega) hx.tight hx.val
    exact ⟨A1, _, c1, xs, he, hN, hb⟩
/-- Block g is a fraction's variable. -/
def FB (w : World) (g : Nat) (s : Bool) (A : Option Addr) (n c : Nat) (B : Option Addr) (m d : Nat) : Prop := w.heap[g]? = some (.cells #[.bool s, .slice A n c, .slice B m d] 41 (0, 0))
section
variable {w w1 : World} {g : Nat} {s : Bool} {A B : Option Addr} {n c m d : Nat}
theorem FB.lt (h : FB w g s A n c B m d) : g < w.heap.size := (Array.getElem?_eq_some_iff.1 h).1
theorem FB.keep (h : FB w g s A n c B m d) (hb : Below w.heap.size w w1) : FB w1 g s A n c B m d := (hb.block g h.lt).trans h
theorem FB.drew (h : FB w g s A n c B m d) : FB w.drew g s A n c B m d := h
theorem FB.drewN (h : FB w g s A n c B m d) (q : Nat) : FB (w.drewN q) g s A n c B m d := h
theorem FB.alloc (h : FB w g s A n c B m d) (o : Obj) : FB (w.alloc o) g s A n c B m d := h.keep ((Below.refl _ _).alloc (Nat.le_refl _) _)
theorem FB.new (w : World) (s : Bool) (A : Option Addr) (n c : Nat) (B : Option Addr) (m d : Nat) : FB (w.alloc (.cells #[.bool s, .slice A n c, .slice B m d] 41)) w.heap.size s A n c B m d := heap_alloc_new w _
theorem FB.facts (h : FB w g s A n c B m d) : w.cell? ⟨g, 0, none⟩ = some (.bool s) ∧ w.cell? ⟨g, 1, none⟩ = some (.slice A n c) ∧ w.cell? ⟨g, 2, none⟩ = some (.slice B m d) ∧ w.frozen? ⟨g, 0, none⟩ = false ∧ w.frozen? ⟨g, 1, none⟩ = false ∧ w.frozen? ⟨g, 2, none⟩ = false := by
  have e : w.heap[g]? = some (.cells #[.bool s, .slice A n c, .slice B m d] 41 (0, 0)) := h
  refine ⟨?_, ?_, ?_, ?_, ?_, ?_⟩
  all_goals first | (rw [cell_of_row w g _ _ _ _ e]; rfl) | simp [World.frozen?, e]
/-- A number's digits lie in no fraction's variable. -/
theorem Num.apart {A' : Option Addr} {k l a : Nat} {xs : List Nat} (h : Num w A' k l xs a) (b : FB w g s A n c B m d) : 0 < k → ∀ ad, A' = some ad → ad.block ≠ g := by
  intro hk ad e he
  obtain ⟨ad', e', _, hc⟩ := h.toLst.at_ hk
  rw [e] at e'
  injection e' with e'
  subst e'
  rw [add_zero_] at hc
  have hb : w.heap[ad.block]? = some (.cells #[.bool s, .slice A n c, .slice B m d] 41 (0, 0)) := by rw [he]; exact b
  unfold World.cell? at hc
  rw [hb] at hc
  simp only at hc
  split at hc
  · cases hc
  · rcases ad with ⟨bl, off, sp⟩
    simp only at hc
    match off with
    | 0 => simp at hc
    | 1 => simp at hc
    | 2 => simp at hc
    | k + 3 => simp at hc
theorem Num.grown {A' : Option Addr} {k l a : Nat} {xs : List Nat} (h : Num w A' k l xs a) (b : FB w g s A n c B m d) (hg : w.grownBy w1 (some g)) : Num w1 A' k l xs a :=
  ⟨h.toLst.off hg (h.apart b), h.tight, h.val⟩
end
/-- A fraction stored into a variable. -/
def stFr (w : World) (g : Nat) (s : Bool) (A : Option Addr) (n c : Nat) (B : Option Addr) (m d : Nat) : World :=
  ((w.setCell ⟨g, 0, none⟩ (.bool s)).setCell ⟨g, 1, none⟩ (.slice A n c)).setCell ⟨g, 2, none⟩ (.slice B m d)
theorem grown_st (w : World) (g : Nat) (s : Bool) (A : Option Addr) (n c : Nat) (B : Option Addr) (m d : Nat) : w.grownBy (stFr w g s A n c B m d) (some g) :=
  grown_trans (grown_trans (grown_set _ _ _ _) (grown_set _ _ _ _)) (grown_set _ _ _ _)
theorem FB.st {w : World} {g : Nat} {z : Bool} {X Y : Option Addr} {x1 x2 y1 y2 : Nat} (h : FB w g z X x1 x2 Y y1 y2) (s : Bool) (A : Option Addr) (n c : Nat) (B : Option Addr) (m d : Nat) : FB (stFr w g s A n c B m d) g s A n c B m d := by
  have e : w.heap[g]? = some (.cells #[.bool z, .slice X x1 x2, .slice Y y1 y2] 41 (0, 0)) := h
  have h1 := heap_setCell_same w g 0 _ _ (.bool s) e
  have h2 := heap_setCell_same _ g 1 _ _ (.slice A n c) h1
  have h3 := heap_setCell_same _ g 2 _ _ (.slice B m d) h2
  unfold FB stFr
  rw [h3]
  rfl
theorem giveFr {W w2 : World} {g : Nat} {t : Fr} {z : Bool} {X Y A B : Option Addr} {x1 x2 y1 y2 n c m d : Nat} {xs ys : List Nat} (hb : Below W.heap.size W w2) (hg : W.heap.size ≤ g) (b : FB w2 g z X x1 x2 Y y1 y2) (N1 : Num w2 A n c xs t.p) (N2 : Num w2 B m d ys t.q) :
    GivesFr t W (.returned (.agg #[.bool t.s, .slice A n c, .slice B m d])) (stFr w2 g t.s A n c B m d) :=
  ⟨A, n, c, xs, B, m, d, ys, rfl, N1.grown b (grown_st _ _ _ _ _ _ _ _ _), N2.grown b (grown_st _ _ _ _ _ _ _ _ _), hb.trans (grown_below (grown_st _ _ _ _ _ _ _ _ _) hg hb.size)⟩
set_option maxRecDepth 100000 in
set_option maxHeartbeats 1000000 in
theorem cloneFr_any (s : Bool) (A B : Option Addr) (n c m d p q : Nat) (xs ys : List Nat) (w : World) (hx : Num w A n c xs p) (hy : Num w B m d ys q) (hn : n ≤ 900000) (hm : m ≤ 900000) :
    Calls Tryd.prog 73 #[.agg #[.bool s, .slice A n c, .slice B m d]] w (GivesFr ⟨s, p, q⟩ w) := by
  have HX := Lib.hid hx
  have HY := Lib.hid hy
  clear hx hy
  have b0 := Lib.hid ((((Below.refl w.heap.size w).alloc (Nat.le_refl _) (.cells #[.bool s, .slice A n c, .slice B m d] 41)).alloc (by simp) (.cells #[.bool false, .slice none 0 0, .slice none 0 0] 41)).drew)
  have H0 := Lib.hid (((FB.new w s A n c B m d).alloc (.cells #[.bool false, .slice none 0 0, .slice none 0 0] 41)).drew)
  have R0 := Lib.hid ((FB.new (w.alloc (.cells #[.bool s, .slice A n c, .slice B m d] 41)) false none 0 0 none 0 0).drew)
  rw [show (w.alloc (.cells #[.bool s, .slice A n c, .slice B m d] 41)).heap.size = w.heap.size + 1 by simp] at R0
  go_enter Tryd.func73, Tryd.ntmps73
  go_wp2
  go_region_held3 (fun w' => w'.cell? ⟨w.heap.size, 0, none⟩ = some (.bool s) ∧ w'.cell? ⟨w.heap.size, 1, none⟩ = some (.slice A n c) ∧ w'.cell? ⟨w.heap.size, 2, none⟩ = some (.slice B m d)) (go_keep) (first | (go_at_call 42; refine (clone_num (HX.out.keep b0.out) hn).mono ?_; rintro e w1 ⟨A1, n1, c1, x1, rfl, hN1, hb1⟩; have N1 := Lib.hid hN1; have B1 := Lib.hid (b0.out.trans (hb1.mono (by simp; omega))); have H1 := Lib.hid (H0.out.keep hb1); have R1 := Lib.hid (R0.out.keep hb1); obtain ⟨k0, k1, k2, _, _, _⟩ := H1.out.facts; clear hN1 hb1) | (go_at_call 42; refine (clone_num (HY.out.keep B1.out) hm).mono ?_; rintro e w2 ⟨A2, n2, c2, x2, rfl, hN2, hb2⟩; have N2 := Lib.hid hN2; have N1' := Lib.hid (N1.out.keep hb2); have B2 := Lib.hid (B1.out.trans (hb2.mono B1.out.size)); have H2 := Lib.hid (H1.out.keep hb2); have R2 := Lib.hid (R1.out.keep hb2); obtain ⟨j0, j1, j2, _, _, _⟩ := H2.out.facts; obtain ⟨r0, r1, r2, f0, f1, f2⟩ := R2.out.facts; clear hN2 hb2))
  go_wp2
  go_goals
  refine bodyPost_ret (v := .agg #[.bool s, .slice A1 n1 c1, .slice A2 n2 c2]) (by simp [results, Tryd.results73, go_sem, r0, r1, r2]) rfl ?_
  exact giveFr (t := ⟨s, p, q⟩) B2.out (by omega) R2.out N1'.out N2.out
end Go.Proofs.YtgmjpkkpkdcncaaDoor
