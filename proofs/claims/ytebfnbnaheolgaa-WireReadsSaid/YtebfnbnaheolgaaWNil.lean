/- A reader with an error, or none, reads no fraction: no claim of its own. -/
import Derived.Test.YtebfnbnaheolgaaWLives
namespace Go.Proofs.Ytebfnbnaheolgaa
open Go.RowKit
set_option maxRecDepth 100000 in
theorem numberR_dead (p : Nat) (v : Value) (e : Int) (w : World) (hp : w.cell? ⟨p, 0, none⟩ = some v) (h : Dead w v e) :
    Calls Try.prog 44 #[.pointer (some ⟨p, 0, none⟩)] w fun en w' => en = .returned (.slice none 0 0) ∧ w = w' := by
  have U := Lib.hid (uintR_dead v e 2000 w h)
  clear h
  go_enter Try.func44, Try.ntmps44
  go_wp2_with fail
  refine U.out.mono ?_
  rintro en w' ⟨rfl, rfl⟩
  go_wp2_with fail
  refine wp_loop_rounds 1 ?_
  rw [rounds_succ]
  go_wp2
  go_ret
  exact ⟨rfl, rfl⟩
/-- One reader's variable. -/
def PV (w : World) (p : Nat) (v : Value) : Prop := w.heap[p]? = some (.cells #[v] 25 (0, 0))
theorem PV.lt {w : World} {p : Nat} {v : Value} (h : PV w p v) : p < w.heap.size := (Array.getElem?_eq_some_iff.1 h).1
theorem PV.cell {w : World} {p : Nat} {v : Value} (h : PV w p v) : w.cell? ⟨p, 0, none⟩ = some v := by
  have h' : w.heap[p]? = some (.cells #[v] 25 (0, 0)) := h
  rw [cell_of_row w p 0 _ _ _ h']; rfl
theorem PV.keep {w w1 : World} {p : Nat} {v : Value} (h : PV w p v) (hb : Below w.heap.size w w1) : PV w1 p v := (hb.block p h.lt).trans h
theorem PV.off {w w1 : World} {p g : Nat} {v : Value} (h : PV w p v) (hg : w.grownBy w1 (some g)) (hne : p ≠ g) : PV w1 p v := (hg.block p h.lt (by intro e; injection e with e; exact hne e)).trans h
/-- The world in which a reader's Fraction begins. -/
def fracWorld (w : World) (q : Option Addr) : World := ((w.alloc (.cells #[.pointer q] 25)).alloc (.cells #[.bool false, .slice none 0 0, .slice none 0 0] 40)).alloc (.cells #[.bool false, .slice none 0 0, .slice none 0 0] 40)
theorem fracWorld_below (w : World) (q : Option Addr) : Below w.heap.size w (fracWorld w q) := ((below_new w _).alloc (by simp) _).alloc (by simp; omega) _
theorem fracWorld_p (w : World) (q : Option Addr) : PV (fracWorld w q) w.heap.size (.pointer q) := by
  unfold PV fracWorld
  rw [Below.heap_alloc _ _ _ (by simp; omega), Below.heap_alloc _ _ _ (by simp)]
  exact heap_new w _
theorem fracWorld_r (w : World) (q : Option Addr) : FB (fracWorld w q) (w.heap.size + 1) false none 0 0 none 0 0 := by
  have h := (FB.new (w.alloc (.cells #[.pointer q] 25)) false none 0 0 none 0 0).alloc (.cells #[.bool false, .slice none 0 0, .slice none 0 0] 40)
  unfold fracWorld
  simpa using h
theorem fracWorld_f (w : World) (q : Option Addr) : FB (fracWorld w q) (w.heap.size + 1 + 1) false none 0 0 none 0 0 := by
  have h := FB.new ((w.alloc (.cells #[.pointer q] 25)).alloc (.cells #[.bool false, .slice none 0 0, .slice none 0 0] 40)) false none 0 0 none 0 0
  unfold fracWorld
  simpa using h
theorem fracWorld_eq (w : World) (q : Option Addr) : ((w.alloc (.cells #[.pointer q] 25)).alloc (.cells #[.bool false, .slice none 0 0, .slice none 0 0] 40)).alloc (.cells #[.bool false, .slice none 0 0, .slice none 0 0] 40) = fracWorld w q := rfl
theorem FB.s0 {w : World} {g : Nat} {s : Bool} {A B : Option Addr} {n c m d : Nat} (h : FB w g s A n c B m d) (s' : Bool) : FB (w.setCell ⟨g, 0, none⟩ (.bool s')) g s' A n c B m d := by
  have h' : w.heap[g]? = some (.cells #[.bool s, .slice A n c, .slice B m d] 40 (0, 0)) := h
  have := heap_setCell_same w g 0 _ _ (.bool s') h'
  unfold FB; rw [this]; rfl
theorem FB.s1 {w : World} {g : Nat} {s : Bool} {A B : Option Addr} {n c m d : Nat} (h : FB w g s A n c B m d) (A' : Option Addr) (n' c' : Nat) : FB (w.setCell ⟨g, 1, none⟩ (.slice A' n' c')) g s A' n' c' B m d := by
  have h' : w.heap[g]? = some (.cells #[.bool s, .slice A n c, .slice B m d] 40 (0, 0)) := h
  have := heap_setCell_same w g 1 _ _ (.slice A' n' c') h'
  unfold FB; rw [this]; rfl
theorem FB.s2 {w : World} {g : Nat} {s : Bool} {A B : Option Addr} {n c m d : Nat} (h : FB w g s A n c B m d) (B' : Option Addr) (m' d' : Nat) : FB (w.setCell ⟨g, 2, none⟩ (.slice B' m' d')) g s A n c B' m' d' := by
  have h' : w.heap[g]? = some (.cells #[.bool s, .slice A n c, .slice B m d] 40 (0, 0)) := h
  have := heap_setCell_same w g 2 _ _ (.slice B' m' d') h'
  unfold FB; rw [this]; rfl
theorem FB.off1 {w w1 : World} {g g' : Nat} {s : Bool} {A B : Option Addr} {n c m d : Nat} (h : FB w g s A n c B m d) (hg : w.grownBy w1 (some g')) (hne : g ≠ g') : FB w1 g s A n c B m d := (hg.block g h.lt (by intro e; injection e with e; exact hne e)).trans h
theorem Dead.set {w : World} {q : Option Addr} {e : Int} (h : Dead w (.pointer q) e) {f : Nat} {o : Nat} {x : Value} (hf : ∀ g, q = some ⟨g, 0, none⟩ → g ≠ f) : Dead (w.setCell ⟨f, o, none⟩ x) (.pointer q) e := by
  rcases h with h | ⟨g, h1, h2, h3⟩
  · exact .inl h
  · exact .inr ⟨g, h1, h2.off (grown_set w f o x) (hf g (by injection h1)), h3⟩
theorem Dead.ptr {w : World} {q : Option Addr} {e : Int} (h : Dead w (.pointer q) e) : ∀ g, q = some ⟨g, 0, none⟩ → g < w.heap.size := by
  intro g hg
  rcases h with ⟨h1, _⟩ | ⟨g', h1, h2, _⟩
  · injection h1 with h1; rw [hg] at h1; cases h1
  · injection h1 with h1
    rw [hg] at h1
    injection h1 with h1
    injection h1 with h1
    rw [h1]; exact h2.lt
set_option maxRecDepth 100000 in
set_option maxHeartbeats 2000000 in
theorem fractionR_dead (q : Option Addr) (e : Int) (w : World) (h : Dead w (.pointer q) e) :
    Calls Try.prog 26 #[.pointer q] w (Gives (.agg #[.bool false, .slice none 0 0, .slice none 0 0]) w) := by
  have hmf : ∀ (fn : Fn) (first cap : Array Value) (w : World), (Instr.makeFunc fn first cap).run Try.prog w = .ok (.func fn first cap) w := fun _ _ _ _ => rfl
  have n0 : (e != 0) = true := bne_iff_ne.2 h.ne
  have hq := h.ptr
  have B0 := Lib.hid (fracWorld_below w q)
  have H0 := Lib.hid (h.keep (fracWorld_below w q))
  obtain ⟨p0, p1⟩ : (fracWorld w q).cell? ⟨w.heap.size, 0, none⟩ = some (.pointer q) ∧ True := ⟨(fracWorld_p w q).cell, trivial⟩
  have P0 := Lib.hid (fracWorld_p w q)
  have R0 := Lib.hid (fracWorld_r w q)
  have F0 := Lib.hid (fracWorld_f w q)
  obtain ⟨f0, f1, f2, f3, f4, f5⟩ := F0.out.facts
  have U := Lib.hid (uintR_dead (.pointer q) e 1 (fracWorld w q) H0.out)
  have EQ := fracWorld_eq w q
  clear h p1
  go_enter Try.func26, Try.ntmps26
  go_wp2_with fail
  clear EQ
  generalize hW : fracWorld w q = W at *
  refine U.out.mono ?_
  rintro en w' ⟨rfl, rfl⟩
  go_wp2_with fail
  have hpl := P0.out.lt
  have hs0 := B0.out.size
  have hql : ∀ g, q = some ⟨g, 0, none⟩ → g ≠ w.heap.size + 1 + 1 := fun g hg => by have := hq g hg; omega
  have H1 := Lib.hid (H0.out.set (f := w.heap.size + 1 + 1) (o := 0) (x := .bool false) hql)
  have P1 := Lib.hid (P0.out.off (grown_set W (w.heap.size + 1 + 1) 0 (.bool false)) (by omega))
  have R1 := Lib.hid (R0.out.off1 (grown_set W (w.heap.size + 1 + 1) 0 (.bool false)) (by omega))
  have F1 := Lib.hid (F0.out.s0 false)
  have B1 := Lib.hid (B0.out.setCell (p := ⟨w.heap.size + 1 + 1, 0, none⟩) (show w.heap.size ≤ w.heap.size + 1 + 1 by omega) (.bool false))
  clear H0 P0 R0 F0 B0 hW f0 f1 f2 f3 f4 f5 p0 hpl hs0
  generalize W.setCell ⟨w.heap.size + 1 + 1, 0, none⟩ (.bool false) = W1 at *
  obtain ⟨f0, f1, f2, f3, f4, f5⟩ := F1.out.facts
  have NU := Lib.hid (numberR_dead w.heap.size (.pointer q) e W1 P1.out.cell H1.out)
  refine NU.out.mono ?_
  rintro en w' ⟨rfl, rfl⟩
  go_wp2_with fail
  have H2 := Lib.hid (H1.out.set (f := w.heap.size + 1 + 1) (o := 1) (x := .slice none 0 0) hql)
  have P2 := Lib.hid (P1.out.off (grown_set W1 (w.heap.size + 1 + 1) 1 (.slice none 0 0)) (by omega))
  have R2 := Lib.hid (R1.out.off1 (grown_set W1 (w.heap.size + 1 + 1) 1 (.slice none 0 0)) (by omega))
  have F2 := Lib.hid (F1.out.s1 none 0 0)
  have B2 := Lib.hid (B1.out.setCell (p := ⟨w.heap.size + 1 + 1, 1, none⟩) (show w.heap.size ≤ w.heap.size + 1 + 1 by omega) (.slice none 0 0))
  clear H1 P1 R1 F1 B1 f0 f1 f2 f3 f4 f5 NU
  generalize W1.setCell ⟨w.heap.size + 1 + 1, 1, none⟩ (.slice none 0 0) = W2 at *
  obtain ⟨f0, f1, f2, f3, f4, f5⟩ := F2.out.facts
  have NU := Lib.hid (numberR_dead w.heap.size (.pointer q) e W2 P2.out.cell H2.out)
  refine NU.out.mono ?_
  rintro en w' ⟨rfl, rfl⟩
  have H3 := Lib.hid (H2.out.set (f := w.heap.size + 1 + 1) (o := 2) (x := .slice none 0 0) hql)
  have P3 := (P2.out.off (grown_set W2 (w.heap.size + 1 + 1) 2 (.slice none 0 0)) (by omega)).cell
  have R3 := Lib.hid (R2.out.off1 (grown_set W2 (w.heap.size + 1 + 1) 2 (.slice none 0 0)) (by omega))
  have B3 := Lib.hid (B2.out.setCell (p := ⟨w.heap.size + 1 + 1, 2, none⟩) (show w.heap.size ≤ w.heap.size + 1 + 1 by omega) (.slice none 0 0))
  have EE := Lib.hid (err_dead (.pointer q) e _ H3.out)
  obtain ⟨r0, r1, r2, r3, r4, r5⟩ := R3.out.facts
  go_wp2_with fail
  clear H2 P2 R2 F2 B2 f0 f1 f2 f3 f4 f5 NU
  generalize W2.setCell ⟨w.heap.size + 1 + 1, 2, none⟩ (.slice none 0 0) = W3 at *
  refine EE.out.mono ?_
  rintro en w' ⟨rfl, rfl⟩
  go_wp2
  refine bodyPost_ret (v := .agg #[.bool false, .slice none 0 0, .slice none 0 0]) (by simp [results, Try.results26, go_sem, r0, r1, r2]) rfl ⟨rfl, ?_⟩
  exact B3.out.trans (grown_below (grown_st W3 (w.heap.size + 1) false none 0 0 none 0 0) (by omega) B3.out.size)
/-- Two fractions that are both zero values: Same. -/
theorem zeroLst (w : World) : Lst w none 0 0 [] := ⟨Reads.none_, rfl, Nat.le_refl _, by decide, by simp⟩
set_option maxRecDepth 100000 in
set_option maxHeartbeats 2000000 in
theorem same04_yes (s : Bool) (A B A' B' : Option Addr) (n c m d n' c' m' d' : Nat) (xs ys : List Nat) (w : World) (hx : Lst w A n c xs) (hy : Lst w B m d ys) (hx' : Lst w A' n' c' xs) (hy' : Lst w B' m' d' ys) :
    Calls Try.prog 25 #[.agg #[.bool s, .slice A n c, .slice B m d], .agg #[.bool s, .slice A' n' c', .slice B' m' d']] w (Gives (.bool true) w) := by
  have hn : n = n' := hx.len.symm.trans hx'.len
  have hm : m = m' := hy.len.symm.trans hy'.len
  subst hn
  subst hm
  have b1 := below_new w (.cells #[.bool s, .slice A n c, .slice B m d] 40)
  have b2 := b1.alloc b1.size (.cells #[.bool s, .slice A' n c', .slice B' m d'] 40)
  have X0 := Lib.hid ((FB.new w s A n c B m d).alloc (.cells #[.bool s, .slice A' n c', .slice B' m d'] 40))
  have Y0' := FB.new (w.alloc (.cells #[.bool s, .slice A n c, .slice B m d] 40)) s A' n c' B' m d'
  rw [show (w.alloc (.cells #[.bool s, .slice A n c, .slice B m d] 40)).heap.size = w.heap.size + 1 by simp] at Y0'
  have Y0 := Lib.hid Y0'
  have KX := Lib.hid (hx.keep b2)
  have KY := Lib.hid (hy.keep b2)
  have KX' := Lib.hid (hx'.keep b2)
  have KY' := Lib.hid (hy'.keep b2)
  have B0 := Lib.hid b2
  obtain ⟨x0, x1, x2, _, _, _⟩ := X0.out.facts
  obtain ⟨y0, y1, y2, _, _, _⟩ := Y0.out.facts
  have ss : (s == s) = true := by cases s <;> rfl
  clear hx hy hx' hy' b1 b2 Y0'
  go_enter Try.func25, Try.ntmps25
  go_wp2_with fail
  refine (same_yes A A' n c n c' xs _ KX.out KX'.out).mono ?_
  rintro e w1 ⟨rfl, hb⟩
  have B1 := Lib.hid (B0.out.trans (hb.mono B0.out.size))
  have X1 := Lib.hid (X0.out.keep hb)
  have Y1 := Lib.hid (Y0.out.keep hb)
  have LY := Lib.hid (KY.out.keep hb)
  have LY' := Lib.hid (KY'.out.keep hb)
  clear hb B0 X0 Y0 x0 x1 x2 y0 y1 y2
  obtain ⟨x0, x1, x2, _, _, _⟩ := X1.out.facts
  obtain ⟨y0, y1, y2, _, _, _⟩ := Y1.out.facts
  go_wp2_with fail
  refine (same_yes B B' m d m d' ys _ LY.out LY'.out).mono ?_
  rintro e w2 ⟨rfl, hb⟩
  have B2 := Lib.hid (B1.out.trans (hb.mono B1.out.size))
  clear hb
  go_wp2
  go_ret
  exact ⟨rfl, B2.out⟩
end Go.Proofs.Ytebfnbnaheolgaa
