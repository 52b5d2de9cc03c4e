/- VLim, VBon, joined: no claim of its own. -/
import Derived.Test.YtjjpfpgjpmedmaaJVX
import Derived.Deep.RegionHeld3
import Derived.Deep.DeepCutAuto
import Derived.Test.YtjjpfpgjpmedmaaVJoin
namespace Go.Proofs.Ytjjpfpgjpmedmaa
open Go.RowKit
theorem limitL_snoc (v : Int) (S : VV.St) (p : List Int × Int) : VV.limitL v (S ++ [p]) = VV.limitL v S ++ [(p.1, min p.2 v)] := by unfold VV.limitL; rw [List.map_append]; rfl
theorem limitL_ok {v : Int} (hv : 0 ≤ v) {S : VV.St} (h : ∀ p ∈ S, VV.Bu p.1 ∧ 0 ≤ p.2) : ∀ p ∈ VV.limitL v S, VV.Bu p.1 ∧ 0 ≤ p.2 := fun p hp => by
  obtain ⟨q, hq, rfl⟩ := List.mem_map.1 hp
  have := h q hq
  exact ⟨this.1, by have := this.2; show 0 ≤ min q.2 v; omega⟩
/-- A child's cells. -/
def Cell9 (w : World) (ad : Addr) (o' y0 y1 y2 y3 y4 y5 v' : Int) (sl : Value) : Prop :=
  w.cell? ad = some (.int .i64 o') ∧ w.cell? ⟨ad.block, ad.off + 1, none⟩ = some (.int .i64 y0) ∧ w.cell? ⟨ad.block, ad.off + 2, none⟩ = some (.int .i64 y1) ∧ w.cell? ⟨ad.block, ad.off + 3, none⟩ = some (.int .i64 y2) ∧ w.cell? ⟨ad.block, ad.off + 4, none⟩ = some (.int .i64 y3) ∧
  w.cell? ⟨ad.block, ad.off + 5, none⟩ = some (.int .i64 y4) ∧ w.cell? ⟨ad.block, ad.off + 6, none⟩ = some (.int .i64 y5) ∧ w.cell? ⟨ad.block, ad.off + 7, none⟩ = some (.int .i64 v') ∧ w.cell? ⟨ad.block, ad.off + 8, none⟩ = some sl
theorem Cell9.keep {w w' : World} {ad : Addr} {o' y0 y1 y2 y3 y4 y5 v' : Int} {sl : Value} (h : ad.block < w.heap.size ∧ Cell9 w ad o' y0 y1 y2 y3 y4 y5 v' sl) (hb : Below w.heap.size w w') : ad.block < w'.heap.size ∧ Cell9 w' ad o' y0 y1 y2 y3 y4 y5 v' sl := by
  obtain ⟨hl, h0, h1, h2, h3, h4, h5, h6, h7, h8⟩ := h
  exact ⟨Nat.lt_of_lt_of_le hl hb.size, (hb.cell hl).trans h0, (hb.cell (p := ⟨ad.block, ad.off + 1, none⟩) hl).trans h1, (hb.cell (p := ⟨ad.block, ad.off + 2, none⟩) hl).trans h2, (hb.cell (p := ⟨ad.block, ad.off + 3, none⟩) hl).trans h3, (hb.cell (p := ⟨ad.block, ad.off + 4, none⟩) hl).trans h4, (hb.cell (p := ⟨ad.block, ad.off + 5, none⟩) hl).trans h5, (hb.cell (p := ⟨ad.block, ad.off + 6, none⟩) hl).trans h6, (hb.cell (p := ⟨ad.block, ad.off + 7, none⟩) hl).trans h7, (hb.cell (p := ⟨ad.block, ad.off + 8, none⟩) hl).trans h8⟩
attribute [local go_sem] Oper.semAt_some
set_option maxRecDepth 100000 in
set_option maxHeartbeats 8000000 in
theorem steps_limit (x0 x1 x2 x3 x4 x5 v s0 s1 s2 s3 s4 s5 o' y0 y1 y2 y3 y4 y5 v' : Int) (A A' : Option Addr) (c c' : Nat) (k' : FT) (ok : Nat → Prop) (w : World) (hs4 : K4 [s0, s1, s2, s3, s4, s5]) (hkids : Kids w ok A c (.cons o' [y0, y1, y2, y3, y4, y5] v' A' c' k' .nil)) (hv0 : 0 ≤ v)
    (IH : ∀ (w' : World) (ok' : Nat → Prop), NT.Ok ⟨o', [y0, y1, y2, y3, y4, y5], v', A', c', k'⟩ w' ok' → Calls Try.prog 82 #[NT.val ⟨o', [y0, y1, y2, y3, y4, y5], v', A', c', k'⟩, .agg #[.int .i64 s0, .int .i64 s1, .int .i64 s2, .int .i64 s3, .int .i64 s4, .int .i64 s5]] w' (GivesSteps [s0, s1, s2, s3, s4, s5] (VV.valN (NT.n ⟨o', [y0, y1, y2, y3, y4, y5], v', A', c', k'⟩)) w')) :
    Calls Try.prog 82 #[.agg #[.int .i64 5, .int .i64 x0, .int .i64 x1, .int .i64 x2, .int .i64 x3, .int .i64 x4, .int .i64 x5, .int .i64 v, .slice A 1 c], .agg #[.int .i64 s0, .int .i64 s1, .int .i64 s2, .int .i64 s3, .int .i64 s4, .int .i64 s5]] w
      (GivesSteps [s0, s1, s2, s3, s4, s5] (VV.nodeV 5 [x0, x1, x2, x3, x4, x5] v [VV.valN (NT.n ⟨o', [y0, y1, y2, y3, y4, y5], v', A', c', k'⟩)]) w) := by
  have hmf : ∀ (fn : Fn) (first cap : Array Value) (w : World), (Instr.makeFunc fn first cap).run Try.prog w = .ok (.func fn first cap) w := fun _ _ _ _ => rfl
  have HK : ∃ ad : Addr, A = some ad ∧ NT.Ok ⟨o', [y0, y1, y2, y3, y4, y5], v', A', c', k'⟩ w ok ∧ (ad.block < w.heap.size ∧ Cell9 w ad o' y0 y1 y2 y3 y4 y5 v' (.slice A' k'.len c')) := by
    obtain ⟨ad, o2, _, _, _, _, _, _, _, _, _, _, r2, rfl, hcons, hyok, _, hlt, _, h0, h1, h2, h3, h4, h5, h6, h7, h8⟩ := hkids.rest.open_ (show 0 < 1 by decide)
    simp only [FT.cons.injEq, List.cons.injEq, and_true] at hcons
    obtain ⟨rfl, ⟨rfl, rfl, rfl, rfl, rfl, rfl⟩, rfl, rfl, rfl, rfl, rfl⟩ := hcons
    rw [show ad.add (0 * 9) = ad by unfold Addr.add; simp] at h0 h1 h2 h3 h4 h5 h6 h7 h8
    exact ⟨ad, rfl, hyok, hlt, h0, h1, h2, h3, h4, h5, h6, h7, h8⟩
  obtain ⟨ad, rfl, hyok, hcell⟩ := HK
  have YO := Lib.hid hyok
  have C0 := Lib.hid hcell
  have HIH := Lib.hid IH
  clear IH hkids hyok hcell
  go_enter Try.func82, Try.ntmps82
  go_upto_region 1 with (fail)
  have D0 := Lib.hid (below_two w (.cells #[.int .i64 5, .int .i64 x0, .int .i64 x1, .int .i64 x2, .int .i64 x3, .int .i64 x4, .int .i64 x5, .int .i64 v, .slice (some ad) 1 c] 28) (.cells #[.int .i64 s0, .int .i64 s1, .int .i64 s2, .int .i64 s3, .int .i64 s4, .int .i64 s5] 24))
  have E0 := Lib.hid (show B9 ((w.alloc (.cells #[.int .i64 5, .int .i64 x0, .int .i64 x1, .int .i64 x2, .int .i64 x3, .int .i64 x4, .int .i64 x5, .int .i64 v, .slice (some ad) 1 c] 28)).alloc (.cells #[.int .i64 s0, .int .i64 s1, .int .i64 s2, .int .i64 s3, .int .i64 s4, .int .i64 s5] 24)) w.heap.size (.int .i64 5) (.int .i64 x0) (.int .i64 x1) (.int .i64 x2) (.int .i64 x3) (.int .i64 x4) (.int .i64 x5) (.int .i64 v) (.slice (some ad) 1 c) from ((below_new (w.alloc (.cells #[.int .i64 5, .int .i64 x0, .int .i64 x1, .int .i64 x2, .int .i64 x3, .int .i64 x4, .int .i64 x5, .int .i64 v, .slice (some ad) 1 c] 28)) (.cells #[.int .i64 s0, .int .i64 s1, .int .i64 s2, .int .i64 s3, .int .i64 s4, .int .i64 s5] 24)).block w.heap.size (by simp)).trans (heap_new w (.cells #[.int .i64 5, .int .i64 x0, .int .i64 x1, .int .i64 x2, .int .i64 x3, .int .i64 x4, .int .i64 x5, .int .i64 v, .slice (some ad) 1 c] 28)))
  have S0 := Lib.hid (show BB ((w.alloc (.cells #[.int .i64 5, .int .i64 x0, .int .i64 x1, .int .i64 x2, .int .i64 x3, .int .i64 x4, .int .i64 x5, .int .i64 v, .slice (some ad) 1 c] 28)).alloc (.cells #[.int .i64 s0, .int .i64 s1, .int .i64 s2, .int .i64 s3, .int .i64 s4, .int .i64 s5] 24)) (w.heap.size + 1) 24 [s0, s1, s2, s3, s4, s5] from by
    have := BB.new (w.alloc (.cells #[.int .i64 5, .int .i64 x0, .int .i64 x1, .int .i64 x2, .int .i64 x3, .int .i64 x4, .int .i64 x5, .int .i64 v, .slice (some ad) 1 c] 28)) 24 s0 s1 s2 s3 s4 s5
    rwa [World.size_alloc] at this)
  generalize (w.alloc (.cells #[.int .i64 5, .int .i64 x0, .int .i64 x1, .int .i64 x2, .int .i64 x3, .int .i64 x4, .int .i64 x5, .int .i64 v, .slice (some ad) 1 c] 28)).alloc (.cells #[.int .i64 s0, .int .i64 s1, .int .i64 s2, .int .i64 s3, .int .i64 s4, .int .i64 s5] 24) = w1 at *
  have hmm := run_makeMap (P := Try.prog) 124 w1
  obtain ⟨w3, hrun, hown3, hg3⟩ := (World.ownsMap_made (H := Unit) w1 Try.prog 24 (plainElem Try.prog 2)).update bLaw bMap (by unfold maxLen; omega) key_z (plainElem_int bInt64 (wf_small (x := 0) (by omega) (by omega)))
  go_upto_region 2 with (fail)
  have hS1 := S0.out.lt
  have hE1 := E0.out.lt
  have hW2 : (w1.alloc (.map #[] 0)).heap.size = w1.heap.size + 1 := by simp
  have D3 := Lib.hid ((D0.out.alloc D0.out.size (.map #[] 0)).grown hg3 (by rw [hW2]; have := D0.out.size; omega) (fun k hk => by injection hk with hk; rw [← hk]; exact D0.out.size))
  have n2 := below_new w1 (.map #[] 0)
  have S3 := Lib.hid (show BB w3 (w.heap.size + 1) 24 [s0, s1, s2, s3, s4, s5] from ⟨((hg3.block (w.heap.size + 1) (by rw [hW2]; omega) (by simp; omega)).trans (n2.block _ hS1)).trans S0.out.1, S0.out.2⟩)
  have E3 := Lib.hid (show B9 w3 w.heap.size (.int .i64 5) (.int .i64 x0) (.int .i64 x1) (.int .i64 x2) (.int .i64 x3) (.int .i64 x4) (.int .i64 x5) (.int .i64 v) (.slice (some ad) 1 c) from ((hg3.block w.heap.size (by rw [hW2]; omega) (by simp; omega)).trans (n2.block _ hE1)).trans E0.out)
  have hsz3 : w1.heap.size < w3.heap.size := by have := hg3.size; rw [hW2] at this; omega
  have O3 := Lib.hid (show OwnV w3 w1.heap.size 1 VV.M0 from ⟨_, hown3, reads_m0⟩)
  have k4 := below_new w3 (.cells #[.map (some w1.heap.size)] 124)
  have F4 := Lib.hid (show Fr w w.heap.size (w.heap.size + 1) w1.heap.size w3.heap.size [s0, s1, s2, s3, s4, s5] VV.M0 (w3.alloc (.cells #[.map (some w1.heap.size)] 124)) from
    ⟨S3.out.keep k4 S3.out.lt, (cell_of_row _ _ 0 _ _ _ (heap_new w3 _)).trans rfl, by simp, (O3.out.kept (grown_of k4) (by simp)).small hs4 (m0_le hs4), D0.out.size, by omega, by omega, D3.out.trans (k4.mono D3.out.size)⟩)
  have E4 := Lib.hid (E3.out.keep k4)
  have hge : w.heap.size < w1.heap.size := hE1
  generalize w3.alloc (.cells #[.map (some w1.heap.size)] 124) = w4 at *
  generalize w3.heap.size = gm at *
  clear hrun hmm hown3 hg3 S0 E0 D0 n2 k4 D3 S3 E3 O3 hS1 hE1 hW2
  generalize w1.heap.size = g at *
  have G0 := Lib.hid (VV.good0 hs4.bu)
  have hbw : Below w.heap.size w w4 := F4.out.below
  have C4 := Lib.hid (Cell9.keep C0.out hbw)
  have Y4 := Lib.hid (YO.out.below hbw)
  obtain ⟨e0, e1, e2, e3, e4, e5, e6, e7, e8⟩ := E4.out.cells
  go_upto_region 41 with (fail)
  clear e0 e1 e2 e3 e4 e5 e6 e7 e8 hbw C0 YO
  have F5 := Lib.hid (F4.out.keep (below_drawn w4))
  have E5 := Lib.hid (E4.out.keep (below_drawn w4))
  have C5 := Lib.hid (Cell9.keep C4.out (below_drawn w4))
  have HC := Lib.hid (HIH.out w4.drew ok (Y4.out.below (below_drawn w4)))
  rw [NT.val_lit] at HC
  clear F4 E4 C4 Y4 HIH
  refine wp_region_held_drew (S := fun w' => B9 w' w.heap.size (.int .i64 5) (.int .i64 x0) (.int .i64 x1) (.int .i64 x2) (.int .i64 x3) (.int .i64 x4) (.int .i64 x5) (.int .i64 v) (.slice (some ad) 1 c) ∧ BB w' (w.heap.size + 1) 24 [s0, s1, s2, s3, s4, s5] ∧ Cell9 w' ad o' y0 y1 y2 y3 y4 y5 v' (.slice A' k'.len c')) (by kernel_rfl) ⟨E5.out, F5.out.sup, C5.out.2⟩ (fun hHeld => ?_)
  generalize w4.drew = X at *
  refine wpAnyH_take (i := 0) (oi := { dst := some 144, op := Op.fieldAddr 28 (Operand.tmp 2) 3, type := 0, pos := "steps.go:63", after := #[], guard := none }) (v := ?_) rfl (by kernel_rfl) (by kernel_rfl) (by kernel_rfl) (fun _ _ _ h => h) (Or.inl ⟨by rfl, ?_⟩) (by assumption) ?_
  rotate_left
  · intro w hSw; (try dsimp only at hSw); obtain ⟨hE, hB, a0, a1, a2, a3, a4, a5, a6, a7, a8⟩ := hSw; obtain ⟨e0, e1, e2, e3, e4, e5, e6, e7, e8⟩ := hE.cells; obtain ⟨r0, r1, r3, r4, r5, r6⟩ := cells6 hB; go_simp; try with_reducible rfl
  (try simp only [Act.put, List.setIfInBounds_toArray, List.set_cons_zero, List.set_cons_succ])
  refine wpAnyH_take (i := 1) (oi := { dst := some 145, op := Op.load 26 (Operand.tmp 144), type := 26, pos := "steps.go:63", after := #[{ on := 0, ground := Ground.data }], guard := none }) (v := ?_) rfl (by kernel_rfl) (by kernel_rfl) (by kernel_rfl) (fun _ _ _ h => h) (Or.inl ⟨by rfl, ?_⟩) (by assumption) ?_
  rotate_left
  · intro w hSw; (try dsimp only at hSw); obtain ⟨hE, hB, a0, a1, a2, a3, a4, a5, a6, a7, a8⟩ := hSw; obtain ⟨e0, e1, e2, e3, e4, e5, e6, e7, e8⟩ := hE.cells; obtain ⟨r0, r1, r3, r4, r5, r6⟩ := cells6 hB; go_simp; try with_reducible rfl
  (try simp only [Act.put, List.setIfInBounds_toArray, List.set_cons_zero, List.set_cons_succ])
  refine wpAnyH_take (i := 2) (oi := { dst := some 146, op := Op.indexAddr 26 (Operand.tmp 145) (Operand.const (Value.int IntKind.i64 0)), type := 0, pos := "steps.go:63", after := #[{ on := 1, ground := Ground.data }], guard := none }) (v := ?_) rfl (by kernel_rfl) (by kernel_rfl) (by kernel_rfl) (fun _ _ _ h => h) (Or.inl ⟨by rfl, ?_⟩) (by assumption) ?_
  rotate_left
  · intro w hSw; (try dsimp only at hSw); obtain ⟨hE, hB, a0, a1, a2, a3, a4, a5, a6, a7, a8⟩ := hSw; obtain ⟨e0, e1, e2, e3, e4, e5, e6, e7, e8⟩ := hE.cells; obtain ⟨r0, r1, r3, r4, r5, r6⟩ := cells6 hB; go_simp; try with_reducible rfl
  (try simp only [Act.put, List.setIfInBounds_toArray, List.set_cons_zero, List.set_cons_succ])
  refine wpAnyH_take (i := 3) (oi := { dst := some 147, op := Op.load 28 (Operand.tmp 146), type := 28, pos := "steps.go:63", after := #[{ on := 2, ground := Ground.data }], guard := none }) (v := ?_) rfl (by kernel_rfl) (by kernel_rfl) (by kernel_rfl) (fun _ _ _ h => h) (Or.inl ⟨by rfl, ?_⟩) (by assumption) ?_
  rotate_left
  · intro w hSw; (try dsimp only at hSw); obtain ⟨hE, hB, a0, a1, a2, a3, a4, a5, a6, a7, a8⟩ := hSw; obtain ⟨e0, e1, e2, e3, e4, e5, e6, e7, e8⟩ := hE.cells; obtain ⟨r0, r1, r3, r4, r5, r6⟩ := cells6 hB; go_simp; try with_reducible rfl
  (try simp only [Act.put, List.setIfInBounds_toArray, List.set_cons_zero, List.set_cons_succ])
  refine wpAnyH_take (i := 4) (oi := { dst := some 148, op := Op.load 24 (Operand.tmp 3), type := 24, pos := "steps.go:63", after := #[], guard := none }) (v := ?_) rfl (by kernel_rfl) (by kernel_rfl) (by kernel_rfl) (fun _ _ _ h => h) (Or.inl ⟨by rfl, ?_⟩) (by assumption) ?_
  rotate_left
  · intro w hSw; (try dsimp only at hSw); obtain ⟨hE, hB, a0, a1, a2, a3, a4, a5, a6, a7, a8⟩ := hSw; obtain ⟨e0, e1, e2, e3, e4, e5, e6, e7, e8⟩ := hE.cells; obtain ⟨r0, r1, r3, r4, r5, r6⟩ := cells6 hB; go_simp; try with_reducible rfl
  (try simp only [Act.put, List.setIfInBounds_toArray, List.set_cons_zero, List.set_cons_succ])
  refine wpAnyH_take (i := 7) (oi := { dst := some 151, op := Op.move (Operand.const (Value.int IntKind.i64 0)), type := 3, pos := "steps.go:63", after := #[], guard := none }) (v := ?_) rfl (by kernel_rfl) (by kernel_rfl) (by kernel_rfl) (fun _ _ _ h => h) (Or.inl ⟨by rfl, ?_⟩) (by assumption) ?_
  rotate_left
  · intro w hSw; (try dsimp only at hSw); obtain ⟨hE, hB, a0, a1, a2, a3, a4, a5, a6, a7, a8⟩ := hSw; obtain ⟨e0, e1, e2, e3, e4, e5, e6, e7, e8⟩ := hE.cells; obtain ⟨r0, r1, r3, r4, r5, r6⟩ := cells6 hB; go_simp; try with_reducible rfl
  (try simp only [Act.put, List.setIfInBounds_toArray, List.set_cons_zero, List.set_cons_succ])
  refine wpAnyH_ready (rs := [5]) (by kernel_rfl) (by simp) ?_
  refine AllReadyH.cons (o := { dst := some 149, op := Op.call { callee := Callee.value (Operand.func 82), args := #[Operand.tmp 147, Operand.tmp 148], argTypes := #[28, 24] }, type := 113, pos := "steps.go:63", after := #[{ on := 3, ground := Ground.data }, { on := 4, ground := Ground.data }], guard := none }) rfl (fun K hK => ?_) AllReadyH.nil
  go_simp
  refine HC.out.mono ?_
  rintro e9 w6 ⟨A1, n1, c1, S, rfl, hst, hgood, hb6⟩
  have F6 := Lib.hid (F5.out.keep hb6)
  have E6 := Lib.hid (E5.out.keep hb6)
  have C6 := Lib.hid (Cell9.keep C5.out hb6)
  have T6 := Lib.hid hst
  have GD := Lib.hid hgood
  have SL := Lib.hid hst.len
  have hfew := hst.few
  clear hst hgood hb6 F5 E5 C5 HC
  refine hK.out _ _ ?_ (fun hHeld => ?_)
  · exact ⟨E6.out, F6.out.sup, C6.out.2⟩
  clear hK K
  (try simp only [Act.put, List.setIfInBounds_toArray, List.set_cons_zero, List.set_cons_succ])
  refine wpAnyH_take (i := 6) (oi := { dst := some 150, op := Op.call { callee := Callee.builtin Builtin.len, args := #[Operand.tmp 149], argTypes := #[113] }, type := 3, pos := "steps.go:63", after := #[{ on := 5, ground := Ground.data }], guard := none }) (v := ?_) rfl (by kernel_rfl) (by kernel_rfl) (by kernel_rfl) (fun _ _ _ h => h) (Or.inl ⟨by rfl, ?_⟩) (by assumption) ?_
  rotate_left
  · intro w hSw; (try dsimp only at hSw); obtain ⟨hE, hB, a0, a1, a2, a3, a4, a5, a6, a7, a8⟩ := hSw; obtain ⟨e0, e1, e2, e3, e4, e5, e6, e7, e8⟩ := hE.cells; obtain ⟨r0, r1, r3, r4, r5, r6⟩ := cells6 hB; go_simp; try with_reducible rfl
  (try simp only [Act.put, List.setIfInBounds_toArray, List.set_cons_zero, List.set_cons_succ])
  refine wpAnyH_done (by kernel_rfl) ?_ _
  clear hHeld C6
  obtain ⟨e0, e1, e2, e3, e4, e5, e6, e7, e8⟩ := E6.out.cells
  go_wp2_with fail
  go_loopw [151] (fun t wr => ∃ j : Nat, j ≤ n1 ∧ t = .int .i64 j ∧ StW wr A1 n1 c1 S ∧ B9 wr w.heap.size (.int .i64 5) (.int .i64 x0) (.int .i64 x1) (.int .i64 x2) (.int .i64 x3) (.int .i64 x4) (.int .i64 x5) (.int .i64 v) (.slice (some ad) 1 c) ∧ Fr w w.heap.size (w.heap.size + 1) g gm [s0, s1, s2, s3, s4, s5] (VV.upsM [s0, s1, s2, s3, s4, s5] (VV.limitL v (S.take j)) VV.M0) wr) (fun t _ => n1 - (intOf t).toNat)
  case atStart => exact ⟨0, Nat.zero_le _, rfl, T6.out, E6.out, F6.out⟩
  case round =>
    obtain ⟨j, hj, rfl, hst, hew, hfr⟩ := hrel
    have F := Lib.hid hfr
    have T := Lib.hid hst
    have E := Lib.hid hew
    clear hst hfr hew T6 F6 E6 e0 e1 e2 e3 e4 e5 e6 e7 e8
    by_cases hjl : j < n1
    · obtain ⟨az, z0, z1, z2, z3, z4, z5, q, rfl, hrow, hazl, c0, c1', c2, c3, c4, c5, c6⟩ := T.out.at_ hjl
      have GL := good_len GD.out (List.mem_of_getElem? hrow)
      have HU := Lib.hid (show VV.upsM [s0, s1, s2, s3, s4, s5] (VV.limitL v (S.take (j + 1))) VV.M0 = VV.upM [s0, s1, s2, s3, s4, s5] (VV.upsM [s0, s1, s2, s3, s4, s5] (VV.limitL v (S.take j)) VV.M0) [z0, z1, z2, z3, z4, z5] (min q v) by rw [take_snoc' hrow, limitL_snoc, upsM_snoc])
      have HG := Lib.hid (G0.out.raises (S := VV.limitL v (S.take (j + 1))) (limitL_ok hv0 fun p hp => ⟨(good_len GD.out (List.mem_of_mem_take hp)).1, (good_len GD.out (List.mem_of_mem_take hp)).2.1⟩))
      clear hrow
      go_upto_region 44 with (fail)
      have nb := below_new wr (.cells #[.int .i64 z0, .int .i64 z1, .int .i64 z2, .int .i64 z3, .int .i64 z4, .int .i64 z5, .int .i64 q] 127)
      have hh := heap_new wr (.cells #[.int .i64 z0, .int .i64 z1, .int .i64 z2, .int .i64 z3, .int .i64 z4, .int .i64 z5, .int .i64 q] 127)
      have d0 := (cell_of_row _ _ 0 _ _ _ hh).trans rfl
      have d1 := (cell_of_row _ _ 1 _ _ _ hh).trans rfl
      have d2 := (cell_of_row _ _ 2 _ _ _ hh).trans rfl
      have d3 := (cell_of_row _ _ 3 _ _ _ hh).trans rfl
      have d4 := (cell_of_row _ _ 4 _ _ _ hh).trans rfl
      have d5 := (cell_of_row _ _ 5 _ _ _ hh).trans rfl
      have d6 := (cell_of_row _ _ 6 _ _ _ hh).trans rfl
      have F7 := Lib.hid (F.out.keep nb)
      have T7 := Lib.hid (T.out.keep nb)
      have E7 := Lib.hid (E.out.keep nb)
      clear c0 c1' c2 c3 c4 c5 c6 hazl F T E nb hh
      generalize wr.alloc (.cells #[.int .i64 z0, .int .i64 z1, .int .i64 z2, .int .i64 z3, .int .i64 z4, .int .i64 z5, .int .i64 q] 127) = w7 at *
      generalize wr.heap.size = gz at *
      obtain ⟨e0, e1, e2, e3, e4, e5, e6, e7, e8⟩ := E7.out.cells
      obtain ⟨mq, hmq⟩ : ∃ mq, mq = min q v := ⟨_, rfl⟩
      rw [← hmq] at HU
      have hcs : (v < q ∧ mq = v) ∨ (¬ v < q ∧ mq = q) := by omega
      have HM2 : Hid (mq ≤ q ∧ 0 ≤ v) := Lib.hid (by omega)
      clear hmq
      rcases hcs with ⟨hvq, hq9⟩ | ⟨hvq, hq9⟩
      · rw [hq9] at HU HM2
        clear hq9
        go_wp2_with fail
        refine (raise_any z0 z1 z2 z3 z4 z5 v s0 s1 s2 s3 s4 s5 (w.heap.size + 1) gm g 15625 _ w7 F7.out.sup hs4 F7.out.cell F7.out.cellLt F7.out.own (by omega) GL.1 (by have := GL.2.1; omega) (by have := GL.2.2; have := HM2.out; omega)).mono ?_
        rintro e9 w8 ⟨rfl, hO8, hg8⟩
        rw [← HU.out] at hO8
        have F8 := Lib.hid (F7.out.raise hs4 (fun b' v' h => (HG.out.mem b' v' h).2.1) hO8 hg8)
        have T8 := Lib.hid (T7.out.raise F7.out.own hg8)
        have E8 := Lib.hid (show B9 w8 w.heap.size (.int .i64 5) (.int .i64 x0) (.int .i64 x1) (.int .i64 x2) (.int .i64 x3) (.int .i64 x4) (.int .i64 x5) (.int .i64 v) (.slice (some ad) 1 c) from (hg8.block w.heap.size E7.out.lt (by simp; omega)).trans E7.out)
        clear d0 d1 d2 d3 d4 d5 d6 e0 e1 e2 e3 e4 e5 e6 e7 e8 F7 T7 E7 hO8 hg8 HU HG GL
        go_wp2
        go_roundw
        case rel => exact ⟨j + 1, hjl, by go_num, T8.out, E8.out, F8.out⟩
        case measure => simp [intOf]; omega
      · rw [hq9] at HU HM2
        clear hq9
        go_wp2_with fail
        refine (raise_any z0 z1 z2 z3 z4 z5 q s0 s1 s2 s3 s4 s5 (w.heap.size + 1) gm g 15625 _ w7 F7.out.sup hs4 F7.out.cell F7.out.cellLt F7.out.own (by omega) GL.1 (by have := GL.2.1; omega) (by have := GL.2.2; have := HM2.out; omega)).mono ?_
        rintro e9 w8 ⟨rfl, hO8, hg8⟩
        rw [← HU.out] at hO8
        have F8 := Lib.hid (F7.out.raise hs4 (fun b' v' h => (HG.out.mem b' v' h).2.1) hO8 hg8)
        have T8 := Lib.hid (T7.out.raise F7.out.own hg8)
        have E8 := Lib.hid (show B9 w8 w.heap.size (.int .i64 5) (.int .i64 x0) (.int .i64 x1) (.int .i64 x2) (.int .i64 x3) (.int .i64 x4) (.int .i64 x5) (.int .i64 v) (.slice (some ad) 1 c) from (hg8.block w.heap.size E7.out.lt (by simp; omega)).trans E7.out)
        clear d0 d1 d2 d3 d4 d5 d6 e0 e1 e2 e3 e4 e5 e6 e7 e8 F7 T7 E7 hO8 hg8 HU HG GL
        go_wp2
        go_roundw
        case rel => exact ⟨j + 1, hjl, by go_num, T8.out, E8.out, F8.out⟩
        case measure => simp [intOf]; omega
    · obtain rfl : j = n1 := by omega
      have hS : S.take j = S := by rw [← SL.out, List.take_length]
      rw [hS] at F
      have G9 := Lib.hid (G0.out.raises (S := VV.limitL v S) (limitL_ok hv0 fun p hp => ⟨(good_len GD.out hp).1, (good_len GD.out hp).2.1⟩))
      have f5 := F.out.cell
      clear hS T E
      go_wp2_with fail
      refine (listOf_any g 15625 _ wr F.out.own (by omega)).mono ?_
      rintro e9 w6 ⟨A2, n2, c2, S2, rfl, hst, hent, hb6⟩
      have R9 := Lib.hid (show GivesSteps [s0, s1, s2, s3, s4, s5] (VV.nodeV 5 [x0, x1, x2, x3, x4, x5] v [VV.valN (NT.n ⟨o', [y0, y1, y2, y3, y4, y5], v', A', c', k'⟩)]) w (.returned (.slice A2 n2 c2)) w6 from
        ⟨_, _, _, S2, rfl, hst, (G9.out.same fun x hx hl => VV.limit_val GD.out hv0 hx hl).entries hent, F.out.below.trans (hb6.mono F.out.below.size)⟩)
      clear hst hent hb6 F f5 G9
      go_wp2
      go_ret
      exact R9.out
end Go.Proofs.Ytjjpfpgjpmedmaa
namespace Go.Proofs.Ytjjpfpgjpmedmaa
open Go.RowKit
theorem bonusL_snoc (b : List Int) (v : Int) (S : VV.St) (p : List Int × Int) : VV.bonusL b v (S ++ [p]) = VV.bonusL b v S ++ [(p.1, p.2), (VV.join p.1 b, p.2 + v)] := by unfold VV.bonusL; rw [List.flatMap_append]; rfl
theorem bonusL_ok {b : List Int} (hb : VV.Bu b) {v : Int} (hv : 0 ≤ v) {S : VV.St} (h : ∀ p ∈ S, VV.Bu p.1 ∧ 0 ≤ p.2) : ∀ p ∈ VV.bonusL b v S, VV.Bu p.1 ∧ 0 ≤ p.2 := fun p hp => by
  obtain ⟨q, hq, hqp⟩ := List.mem_flatMap.1 hp
  have := h q hq
  simp only [List.mem_cons, List.not_mem_nil, or_false] at hqp
  rcases hqp with rfl | rfl
  · exact this
  · exact ⟨this.1.join hb, by have := this.2; show 0 ≤ q.2 + v; omega⟩
attribute [local go_sem] Oper.semAt_some
set_option maxRecDepth 100000 in
set_option maxHeartbeats 3000000 in
theorem steps_bonus (x0 x1 x2 x3 x4 x5 v s0 s1 s2 s3 s4 s5 o' y0 y1 y2 y3 y4 y5 v' : Int) (A A' : Option Addr) (c c' : Nat) (k' : FT) (ok : Nat → Prop) (w : World) (hs4 : K4 [s0, s1, s2, s3, s4, s5]) (hkids : Kids w ok A c (.cons o' [y0, y1, y2, y3, y4, y5] v' A' c' k' .nil)) (hb : VV.Bu [x0, x1, x2, x3, x4, x5]) (hv0 : 0 ≤ v) (hv1 : v ≤ 1000000)
    (IH : ∀ (w' : World) (ok' : Nat → Prop), NT.Ok ⟨o', [y0, y1, y2, y3, y4, y5], v', A', c', k'⟩ w' ok' → Calls Try.prog 82 #[NT.val ⟨o', [y0, y1, y2, y3, y4, y5], v', A', c', k'⟩, .agg #[.int .i64 s0, .int .i64 s1, .int .i64 s2, .int .i64 s3, .int .i64 s4, .int .i64 s5]] w' (GivesSteps [s0, s1, s2, s3, s4, s5] (VV.valN (NT.n ⟨o', [y0, y1, y2, y3, y4, y5], v', A', c', k'⟩)) w')) :
    Calls Try.prog 82 #[.agg #[.int .i64 4, .int .i64 x0, .int .i64 x1, .int .i64 x2, .int .i64 x3, .int .i64 x4, .int .i64 x5, .int .i64 v, .slice A 1 c], .agg #[.int .i64 s0, .int .i64 s1, .int .i64 s2, .int .i64 s3, .int .i64 s4, .int .i64 s5]] w
      (GivesSteps [s0, s1, s2, s3, s4, s5] (VV.nodeV 4 [x0, x1, x2, x3, x4, x5] v [VV.valN (NT.n ⟨o', [y0, y1, y2, y3, y4, y5], v', A', c', k'⟩)]) w) := by
  have hmf : ∀ (fn : Fn) (first cap : Array Value) (w : World), (Instr.makeFunc fn first cap).run Try.prog w = .ok (.func fn first cap) w := fun _ _ _ _ => rfl
  have HK : ∃ ad : Addr, A = some ad ∧ NT.Ok ⟨o', [y0, y1, y2, y3, y4, y5], v', A', c', k'⟩ w ok ∧ (ad.block < w.heap.size ∧ Cell9 w ad o' y0 y1 y2 y3 y4 y5 v' (.slice A' k'.len c')) := by
    obtain ⟨ad, o2, _, _, _, _, _, _, _, _, _, _, r2, rfl, hcons, hyok, _, hlt, _, h0, h1, h2, h3, h4, h5, h6, h7, h8⟩ := hkids.rest.open_ (show 0 < 1 by decide)
    simp only [FT.cons.injEq, List.cons.injEq, and_true] at hcons
    obtain ⟨rfl, ⟨rfl, rfl, rfl, rfl, rfl, rfl⟩, rfl, rfl, rfl, rfl, rfl⟩ := hcons
    rw [show ad.add (0 * 9) = ad by unfold Addr.add; simp] at h0 h1 h2 h3 h4 h5 h6 h7 h8
    exact ⟨ad, rfl, hyok, hlt, h0, h1, h2, h3, h4, h5, h6, h7, h8⟩
  obtain ⟨ad, rfl, hyok, hcell⟩ := HK
  have YO := Lib.hid hyok
  have C0 := Lib.hid hcell
  have HIH := Lib.hid IH
  clear IH hkids hyok hcell
  go_enter Try.func82, Try.ntmps82
  go_upto_region 1 with (fail)
  have D0 := Lib.hid (below_two w (.cells #[.int .i64 4, .int .i64 x0, .int .i64 x1, .int .i64 x2, .int .i64 x3, .int .i64 x4, .int .i64 x5, .int .i64 v, .slice (some ad) 1 c] 28) (.cells #[.int .i64 s0, .int .i64 s1, .int .i64 s2, .int .i64 s3, .int .i64 s4, .int .i64 s5] 24))
  have E0 := Lib.hid (show B9 ((w.alloc (.cells #[.int .i64 4, .int .i64 x0, .int .i64 x1, .int .i64 x2, .int .i64 x3, .int .i64 x4, .int .i64 x5, .int .i64 v, .slice (some ad) 1 c] 28)).alloc (.cells #[.int .i64 s0, .int .i64 s1, .int .i64 s2, .int .i64 s3, .int .i64 s4, .int .i64 s5] 24)) w.heap.size (.int .i64 4) (.int .i64 x0) (.int .i64 x1) (.int .i64 x2) (.int .i64 x3) (.int .i64 x4) (.int .i64 x5) (.int .i64 v) (.slice (some ad) 1 c) from ((below_new (w.alloc (.cells #[.int .i64 4, .int .i64 x0, .int .i64 x1, .int .i64 x2, .int .i64 x3, .int .i64 x4, .int .i64 x5, .int .i64 v, .slice (some ad) 1 c] 28)) (.cells #[.int .i64 s0, .int .i64 s1, .int .i64 s2, .int .i64 s3, .int .i64 s4, .int .i64 s5] 24)).block w.heap.size (by simp)).trans (heap_new w (.cells #[.int .i64 4, .int .i64 x0, .int .i64 x1, .int .i64 x2, .int .i64 x3, .int .i64 x4, .int .i64 x5, .int .i64 v, .slice (some ad) 1 c] 28)))
  have S0 := Lib.hid (show BB ((w.alloc (.cells #[.int .i64 4, .int .i64 x0, .int .i64 x1, .int .i64 x2, .int .i64 x3, .int .i64 x4, .int .i64 x5, .int .i64 v, .slice (some ad) 1 c] 28)).alloc (.cells #[.int .i64 s0, .int .i64 s1, .int .i64 s2, .int .i64 s3, .int .i64 s4, .int .i64 s5] 24)) (w.heap.size + 1) 24 [s0, s1, s2, s3, s4, s5] from by
    have := BB.new (w.alloc (.cells #[.int .i64 4, .int .i64 x0, .int .i64 x1, .int .i64 x2, .int .i64 x3, .int .i64 x4, .int .i64 x5, .int .i64 v, .slice (some ad) 1 c] 28)) 24 s0 s1 s2 s3 s4 s5
    rwa [World.size_alloc] at this)
  generalize (w.alloc (.cells #[.int .i64 4, .int .i64 x0, .int .i64 x1, .int .i64 x2, .int .i64 x3, .int .i64 x4, .int .i64 x5, .int .i64 v, .slice (some ad) 1 c] 28)).alloc (.cells #[.int .i64 s0, .int .i64 s1, .int .i64 s2, .int .i64 s3, .int .i64 s4, .int .i64 s5] 24) = w1 at *
  have hmm := run_makeMap (P := Try.prog) 124 w1
  obtain ⟨w3, hrun, hown3, hg3⟩ := (World.ownsMap_made (H := Unit) w1 Try.prog 24 (plainElem Try.prog 2)).update bLaw bMap (by unfold maxLen; omega) key_z (plainElem_int bInt64 (wf_small (x := 0) (by omega) (by omega)))
  go_upto_region 2 with (fail)
  have hS1 := S0.out.lt
  have hE1 := E0.out.lt
  have hW2 : (w1.alloc (.map #[] 0)).heap.size = w1.heap.size + 1 := by simp
  have D3 := Lib.hid ((D0.out.alloc D0.out.size (.map #[] 0)).grown hg3 (by rw [hW2]; have := D0.out.size; omega) (fun k hk => by injection hk with hk; rw [← hk]; exact D0.out.size))
  have n2 := below_new w1 (.map #[] 0)
  have S3 := Lib.hid (show BB w3 (w.heap.size + 1) 24 [s0, s1, s2, s3, s4, s5] from ⟨((hg3.block (w.heap.size + 1) (by rw [hW2]; omega) (by simp; omega)).trans (n2.block _ hS1)).trans S0.out.1, S0.out.2⟩)
  have E3 := Lib.hid (show B9 w3 w.heap.size (.int .i64 4) (.int .i64 x0) (.int .i64 x1) (.int .i64 x2) (.int .i64 x3) (.int .i64 x4) (.int .i64 x5) (.int .i64 v) (.slice (some ad) 1 c) from ((hg3.block w.heap.size (by rw [hW2]; omega) (by simp; omega)).trans (n2.block _ hE1)).trans E0.out)
  have hsz3 : w1.heap.size < w3.heap.size := by have := hg3.size; rw [hW2] at this; omega
  have O3 := Lib.hid (show OwnV w3 w1.heap.size 1 VV.M0 from ⟨_, hown3, reads_m0⟩)
  have k4 := below_new w3 (.cells #[.map (some w1.heap.size)] 124)
  have F4 := Lib.hid (show Fr w w.heap.size (w.heap.size + 1) w1.heap.size w3.heap.size [s0, s1, s2, s3, s4, s5] VV.M0 (w3.alloc (.cells #[.map (some w1.heap.size)] 124)) from
    ⟨S3.out.keep k4 S3.out.lt, (cell_of_row _ _ 0 _ _ _ (heap_new w3 _)).trans rfl, by simp, (O3.out.kept (grown_of k4) (by simp)).small hs4 (m0_le hs4), D0.out.size, by omega, by omega, D3.out.trans (k4.mono D3.out.size)⟩)
  have E4 := Lib.hid (E3.out.keep k4)
  have hge : w.heap.size < w1.heap.size := hE1
  generalize w3.alloc (.cells #[.map (some w1.heap.size)] 124) = w4 at *
  generalize w3.heap.size = gm at *
  clear hrun hmm hown3 hg3 S0 E0 D0 n2 k4 D3 S3 E3 O3 hS1 hE1 hW2
  generalize w1.heap.size = g at *
  have G0 := Lib.hid (VV.good0 hs4.bu)
  have hbw : Below w.heap.size w w4 := F4.out.below
  have C4 := Lib.hid (Cell9.keep C0.out hbw)
  have Y4 := Lib.hid (YO.out.below hbw)
  obtain ⟨e0, e1, e2, e3, e4, e5, e6, e7, e8⟩ := E4.out.cells
  go_upto_region 34 with (fail)
  clear e0 e1 e2 e3 e4 e5 e6 e7 e8 hbw C0 YO
  have F5 := Lib.hid (F4.out.keep (below_drawn w4))
  have E5 := Lib.hid (E4.out.keep (below_drawn w4))
  have C5 := Lib.hid (Cell9.keep C4.out (below_drawn w4))
  have HC := Lib.hid (HIH.out w4.drew ok (Y4.out.below (below_drawn w4)))
  rw [NT.val_lit] at HC
  clear F4 E4 C4 Y4 HIH
  refine wp_region_held_drew (S := fun w' => B9 w' w.heap.size (.int .i64 4) (.int .i64 x0) (.int .i64 x1) (.int .i64 x2) (.int .i64 x3) (.int .i64 x4) (.int .i64 x5) (.int .i64 v) (.slice (some ad) 1 c) ∧ BB w' (w.heap.size + 1) 24 [s0, s1, s2, s3, s4, s5] ∧ Cell9 w' ad o' y0 y1 y2 y3 y4 y5 v' (.slice A' k'.len c')) (by kernel_rfl) ⟨E5.out, F5.out.sup, C5.out.2⟩ (fun hHeld => ?_)
  generalize w4.drew = X at *
  refine wpAnyH_take (i := 0) (oi := { dst := some 112, op := Op.fieldAddr 28 (Operand.tmp 2) 3, type := 0, pos := "steps.go:58", after := #[], guard := none }) (v := ?_) rfl (by kernel_rfl) (by kernel_rfl) (by kernel_rfl) (fun _ _ _ h => h) (Or.inl ⟨by rfl, ?_⟩) (by assumption) ?_
  rotate_left
  · intro w hSw; (try dsimp only at hSw); obtain ⟨hE, hB, a0, a1, a2, a3, a4, a5, a6, a7, a8⟩ := hSw; obtain ⟨e0, e1, e2, e3, e4, e5, e6, e7, e8⟩ := hE.cells; obtain ⟨r0, r1, r3, r4, r5, r6⟩ := cells6 hB; go_simp; try with_reducible rfl
  (try simp only [Act.put, List.setIfInBounds_toArray, List.set_cons_zero, List.set_cons_succ])
  refine wpAnyH_take (i := 1) (oi := { dst := some 113, op := Op.load 26 (Operand.tmp 112), type := 26, pos := "steps.go:58", after := #[{ on := 0, ground := Ground.data }], guard := none }) (v := ?_) rfl (by kernel_rfl) (by kernel_rfl) (by kernel_rfl) (fun _ _ _ h => h) (Or.inl ⟨by rfl, ?_⟩) (by assumption) ?_
  rotate_left
  · intro w hSw; (try dsimp only at hSw); obtain ⟨hE, hB, a0, a1, a2, a3, a4, a5, a6, a7, a8⟩ := hSw; obtain ⟨e0, e1, e2, e3, e4, e5, e6, e7, e8⟩ := hE.cells; obtain ⟨r0, r1, r3, r4, r5, r6⟩ := cells6 hB; go_simp; try with_reducible rfl
  (try simp only [Act.put, List.setIfInBounds_toArray, List.set_cons_zero, List.set_cons_succ])
  refine wpAnyH_take (i := 2) (oi := { dst := some 114, op := Op.indexAddr 26 (Operand.tmp 113) (Operand.const (Value.int IntKind.i64 0)), type := 0, pos := "steps.go:58", after := #[{ on := 1, ground := Ground.data }], guard := none }) (v := ?_) rfl (by kernel_rfl) (by kernel_rfl) (by kernel_rfl) (fun _ _ _ h => h) (Or.inl ⟨by rfl, ?_⟩) (by assumption) ?_
  rotate_left
  · intro w hSw; (try dsimp only at hSw); obtain ⟨hE, hB, a0, a1, a2, a3, a4, a5, a6, a7, a8⟩ := hSw; obtain ⟨e0, e1, e2, e3, e4, e5, e6, e7, e8⟩ := hE.cells; obtain ⟨r0, r1, r3, r4, r5, r6⟩ := cells6 hB; go_simp; try with_reducible rfl
  (try simp only [Act.put, List.setIfInBounds_toArray, List.set_cons_zero, List.set_cons_succ])
  refine wpAnyH_take (i := 3) (oi := { dst := some 115, op := Op.load 28 (Operand.tmp 114), type := 28, pos := "steps.go:58", after := #[{ on := 2, ground := Ground.data }], guard := none }) (v := ?_) rfl (by kernel_rfl) (by kernel_rfl) (by kernel_rfl) (fun _ _ _ h => h) (Or.inl ⟨by rfl, ?_⟩) (by assumption) ?_
  rotate_left
  · intro w hSw; (try dsimp only at hSw); obtain ⟨hE, hB, a0, a1, a2, a3, a4, a5, a6, a7, a8⟩ := hSw; obtain ⟨e0, e1, e2, e3, e4, e5, e6, e7, e8⟩ := hE.cells; obtain ⟨r0, r1, r3, r4, r5, r6⟩ := cells6 hB; go_simp; try with_reducible rfl
  (try simp only [Act.put, List.setIfInBounds_toArray, List.set_cons_zero, List.set_cons_succ])
  refine wpAnyH_take (i := 4) (oi := { dst := some 116, op := Op.load 24 (Operand.tmp 3), type := 24, pos := "steps.go:58", after := #[], guard := none }) (v := ?_) rfl (by kernel_rfl) (by kernel_rfl) (by kernel_rfl) (fun _ _ _ h => h) (Or.inl ⟨by rfl, ?_⟩) (by assumption) ?_
  rotate_left
  · intro w hSw; (try dsimp only at hSw); obtain ⟨hE, hB, a0, a1, a2, a3, a4, a5, a6, a7, a8⟩ := hSw; obtain ⟨e0, e1, e2, e3, e4, e5, e6, e7, e8⟩ := hE.cells; obtain ⟨r0, r1, r3, r4, r5, r6⟩ := cells6 hB; go_simp; try with_reducible rfl
  (try simp only [Act.put, List.setIfInBounds_toArray, List.set_cons_zero, List.set_cons_succ])
  refine wpAnyH_take (i := 7) (oi := { dst := some 119, op := Op.move (Operand.const (Value.int IntKind.i64 0)), type := 3, pos := "steps.go:58", after := #[], guard := none }) (v := ?_) rfl (by kernel_rfl) (by kernel_rfl) (by kernel_rfl) (fun _ _ _ h => h) (Or.inl ⟨by rfl, ?_⟩) (by assumption) ?_
  rotate_left
  · intro w hSw; (try dsimp only at hSw); obtain ⟨hE, hB, a0, a1, a2, a3, a4, a5, a6, a7, a8⟩ := hSw; obtain ⟨e0, e1, e2, e3, e4, e5, e6, e7, e8⟩ := hE.cells; obtain ⟨r0, r1, r3, r4, r5, r6⟩ := cells6 hB; go_simp; try with_reducible rfl
  (try simp only [Act.put, List.setIfInBounds_toArray, List.set_cons_zero, List.set_cons_succ])
  refine wpAnyH_ready (rs := [5]) (by kernel_rfl) (by simp) ?_
  refine AllReadyH.cons (o := { dst := some 117, op := Op.call { callee := Callee.value (Operand.func 82), args := #[Operand.tmp 115, Operand.tmp 116], argTypes := #[28, 24] }, type := 113, pos := "steps.go:58", after := #[{ on := 3, ground := Ground.data }, { on := 4, ground := Ground.data }], guard := none }) rfl (fun K hK => ?_) AllReadyH.nil
  go_simp
  refine HC.out.mono ?_
  rintro e9 w6 ⟨A1, n1, c1, S, rfl, hst, hgood, hb6⟩
  have F6 := Lib.hid (F5.out.keep hb6)
  have E6 := Lib.hid (E5.out.keep hb6)
  have C6 := Lib.hid (Cell9.keep C5.out hb6)
  have T6 := Lib.hid hst
  have GD := Lib.hid hgood
  have SL := Lib.hid hst.len
  have hfew := hst.few
  clear hst hgood hb6 F5 E5 C5 HC
  refine hK.out _ _ ?_ (fun hHeld => ?_)
  · exact ⟨E6.out, F6.out.sup, C6.out.2⟩
  clear hK K
  (try simp only [Act.put, List.setIfInBounds_toArray, List.set_cons_zero, List.set_cons_succ])
  refine wpAnyH_take (i := 6) (oi := { dst := some 118, op := Op.call { callee := Callee.builtin Builtin.len, args := #[Operand.tmp 117], argTypes := #[113] }, type := 3, pos := "steps.go:58", after := #[{ on := 5, ground := Ground.data }], guard := none }) (v := ?_) rfl (by kernel_rfl) (by kernel_rfl) (by kernel_rfl) (fun _ _ _ h => h) (Or.inl ⟨by rfl, ?_⟩) (by assumption) ?_
  rotate_left
  · intro w hSw; (try dsimp only at hSw); obtain ⟨hE, hB, a0, a1, a2, a3, a4, a5, a6, a7, a8⟩ := hSw; obtain ⟨e0, e1, e2, e3, e4, e5, e6, e7, e8⟩ := hE.cells; obtain ⟨r0, r1, r3, r4, r5, r6⟩ := cells6 hB; go_simp; try with_reducible rfl
  (try simp only [Act.put, List.setIfInBounds_toArray, List.set_cons_zero, List.set_cons_succ])
  refine wpAnyH_done (by kernel_rfl) ?_ _
  clear hHeld C6
  obtain ⟨e0, e1, e2, e3, e4, e5, e6, e7, e8⟩ := E6.out.cells
  go_wp2_with fail
  go_loopw [119] (fun t wr => ∃ j : Nat, j ≤ n1 ∧ t = .int .i64 j ∧ StW wr A1 n1 c1 S ∧ B9 wr w.heap.size (.int .i64 4) (.int .i64 x0) (.int .i64 x1) (.int .i64 x2) (.int .i64 x3) (.int .i64 x4) (.int .i64 x5) (.int .i64 v) (.slice (some ad) 1 c) ∧ Fr w w.heap.size (w.heap.size + 1) g gm [s0, s1, s2, s3, s4, s5] (VV.upsM [s0, s1, s2, s3, s4, s5] (VV.bonusL [x0, x1, x2, x3, x4, x5] v (S.take j)) VV.M0) wr) (fun t _ => n1 - (intOf t).toNat)
  case atStart => exact ⟨0, Nat.zero_le _, rfl, T6.out, E6.out, F6.out⟩
  case round =>
    obtain ⟨j, hj, rfl, hst, hew, hfr⟩ := hrel
    have F := Lib.hid hfr
    have T := Lib.hid hst
    have E := Lib.hid hew
    clear hst hfr hew T6 F6 E6 e0 e1 e2 e3 e4 e5 e6 e7 e8
    by_cases hjl : j < n1
    · obtain ⟨az, z0, z1, z2, z3, z4, z5, q, rfl, hrow, hazl, c0, c1', c2, c3, c4, c5, c6⟩ := T.out.at_ hjl
      have GL := good_len GD.out (List.mem_of_getElem? hrow)
      have hall := bonusL_ok hb hv0 (S := S.take j) fun p hp => ⟨(good_len GD.out (List.mem_of_mem_take hp)).1, (good_len GD.out (List.mem_of_mem_take hp)).2.1⟩
      have HU := Lib.hid (show VV.upsM [s0, s1, s2, s3, s4, s5] (VV.bonusL [x0, x1, x2, x3, x4, x5] v (S.take (j + 1))) VV.M0 = VV.upM [s0, s1, s2, s3, s4, s5] (VV.upM [s0, s1, s2, s3, s4, s5] (VV.upsM [s0, s1, s2, s3, s4, s5] (VV.bonusL [x0, x1, x2, x3, x4, x5] v (S.take j)) VV.M0) [z0, z1, z2, z3, z4, z5] q) (joinB [z0, z1, z2, z3, z4, z5] [x0, x1, x2, x3, x4, x5]) (q + v) by rw [take_snoc' hrow, bonusL_snoc, VV.upsM_append]; rfl)
      have HG1 := Lib.hid (show VV.GoodM [s0, s1, s2, s3, s4, s5] (VV.upM [s0, s1, s2, s3, s4, s5] (VV.upsM [s0, s1, s2, s3, s4, s5] (VV.bonusL [x0, x1, x2, x3, x4, x5] v (S.take j)) VV.M0) [z0, z1, z2, z3, z4, z5] q) _ from (G0.out.raises hall).raise GL.1 GL.2.1)
      have hbj : VV.Bu (joinB [z0, z1, z2, z3, z4, z5] [x0, x1, x2, x3, x4, x5]) := GL.1.join hb
      have hgz : wr.heap.size ≠ g := by have := F.out.own.lt; omega
      clear hall
      have HG := Lib.hid (G0.out.raises (S := VV.bonusL [x0, x1, x2, x3, x4, x5] v (S.take (j + 1))) (bonusL_ok hb hv0 fun p hp => ⟨(good_len GD.out (List.mem_of_mem_take hp)).1, (good_len GD.out (List.mem_of_mem_take hp)).2.1⟩))
      clear hrow
      go_upto_region 37 with (fail)
      have nb := below_new wr (.cells #[.int .i64 z0, .int .i64 z1, .int .i64 z2, .int .i64 z3, .int .i64 z4, .int .i64 z5, .int .i64 q] 127)
      have hh := heap_new wr (.cells #[.int .i64 z0, .int .i64 z1, .int .i64 z2, .int .i64 z3, .int .i64 z4, .int .i64 z5, .int .i64 q] 127)
      have Z7 := Lib.hid hh
      have hz7 : wr.heap.size < (wr.alloc (.cells #[.int .i64 z0, .int .i64 z1, .int .i64 z2, .int .i64 z3, .int .i64 z4, .int .i64 z5, .int .i64 q] 127)).heap.size := by simp
      have F7 := Lib.hid (F.out.keep nb)
      have T7 := Lib.hid (T.out.keep nb)
      have E7 := Lib.hid (E.out.keep nb)
      clear c0 c1' c2 c3 c4 c5 c6 hazl F T E nb hh
      generalize wr.alloc (.cells #[.int .i64 z0, .int .i64 z1, .int .i64 z2, .int .i64 z3, .int .i64 z4, .int .i64 z5, .int .i64 q] 127) = w7 at *
      generalize wr.heap.size = gz at *
      obtain ⟨e0, e1, e2, e3, e4, e5, e6, e7, e8⟩ := E7.out.cells
      have d0 := (cell_of_row _ _ 0 _ _ _ Z7.out).trans rfl
      have d1 := (cell_of_row _ _ 1 _ _ _ Z7.out).trans rfl
      have d2 := (cell_of_row _ _ 2 _ _ _ Z7.out).trans rfl
      have d3 := (cell_of_row _ _ 3 _ _ _ Z7.out).trans rfl
      have d4 := (cell_of_row _ _ 4 _ _ _ Z7.out).trans rfl
      have d5 := (cell_of_row _ _ 5 _ _ _ Z7.out).trans rfl
      have d6 := (cell_of_row _ _ 6 _ _ _ Z7.out).trans rfl
      go_wp2_with fail
      refine (raise_any z0 z1 z2 z3 z4 z5 q s0 s1 s2 s3 s4 s5 (w.heap.size + 1) gm g 15625 _ w7 F7.out.sup hs4 F7.out.cell F7.out.cellLt F7.out.own (by omega) GL.1 GL.2.1 (by have := GL.2.2; omega)).mono ?_
      rintro e9 w8 ⟨rfl, hO8, hg8⟩
      have F8 := Lib.hid (F7.out.raise hs4 (fun b' v' h => (HG1.out.mem b' v' h).2.1) hO8 hg8)
      have T8 := Lib.hid (T7.out.raise F7.out.own hg8)
      have E8 := Lib.hid (show B9 w8 w.heap.size (.int .i64 4) (.int .i64 x0) (.int .i64 x1) (.int .i64 x2) (.int .i64 x3) (.int .i64 x4) (.int .i64 x5) (.int .i64 v) (.slice (some ad) 1 c) from (hg8.block w.heap.size E7.out.lt (by simp; omega)).trans E7.out)
      have Z8 := Lib.hid ((hg8.block gz hz7 (fun e => hgz (by simpa using e))).trans Z7.out)
      have hz8 : gz < w8.heap.size := Nat.lt_of_lt_of_le hz7 hg8.size
      clear d0 d1 d2 d3 d4 d5 d6 e0 e1 e2 e3 e4 e5 e6 e7 e8 F7 T7 E7 Z7 hz7 hO8 hg8 HG1
      obtain ⟨t0, t1, t2, t3, t4, t5, hj6⟩ := six (xs := joinB [z0, z1, z2, z3, z4, z5] [x0, x1, x2, x3, x4, x5]) rfl
      have HJ := Lib.hid (fun w => join_any z0 z1 z2 z3 z4 z5 x0 x1 x2 x3 x4 x5 w)
      simp only [hj6, aggB_lit] at HJ
      rw [hj6] at HU hbj
      have HBJ := Lib.hid hbj
      have hw6 : wrap64 (q + v) = q + v := by have := GL.2; unfold wrap64; omega
      have HW7 : Hid (IntKind.i64.wrap (q + v) = q + v) := Lib.hid (by have h2 := GL.2; first | exact Go.i64_in _ (by omega) | exact IntWalk.i64_in _ (by omega) | exact i64_in _ (by omega) | (simp only [IntKind.wrap, IntKind.bits, IntKind.signed]; simp; omega))
      have HGL := Lib.hid GL
      clear hj6 hbj GL
      go_upto_region 38 with (fail)
      have F9 := Lib.hid (F8.out.keep (below_drawn w8))
      have T9 := Lib.hid (T8.out.keep (below_drawn w8))
      have E9 := Lib.hid (E8.out.keep (below_drawn w8))
      have Z9 := Lib.hid (((below_drawn w8).block gz hz8).trans Z8.out)
      have hz9 : gz < w8.drew.heap.size := hz8
      clear F8 T8 E8 Z8 hz8
      refine wp_region_held_drew (S := fun w' => B9 w' w.heap.size (.int .i64 4) (.int .i64 x0) (.int .i64 x1) (.int .i64 x2) (.int .i64 x3) (.int .i64 x4) (.int .i64 x5) (.int .i64 v) (.slice (some ad) 1 c) ∧ w'.heap[gz]? = some (.cells #[.int .i64 z0, .int .i64 z1, .int .i64 z2, .int .i64 z3, .int .i64 z4, .int .i64 z5, .int .i64 q] 127 (0, 0))) (by kernel_rfl) ⟨E9.out, Z9.out⟩ (fun hHeld => ?_)
      generalize w8.drew = Y at *
      refine wpAnyH_take (i := 0) (oi := { dst := some 129, op := Op.move (Operand.tmp 6), type := 125, pos := "steps.go:60", after := #[], guard := none }) (v := ?_) rfl (by kernel_rfl) (by kernel_rfl) (by kernel_rfl) (fun _ _ _ h => h) (Or.inl ⟨by rfl, ?_⟩) (by assumption) ?_
      rotate_left
      · intro w hSw; (try dsimp only at hSw); obtain ⟨hE, hZ⟩ := hSw; obtain ⟨e0, e1, e2, e3, e4, e5, e6, e7, e8⟩ := hE.cells; have d0 := (cell_of_row _ _ 0 _ _ _ hZ).trans rfl; have d1 := (cell_of_row _ _ 1 _ _ _ hZ).trans rfl; have d2 := (cell_of_row _ _ 2 _ _ _ hZ).trans rfl; have d3 := (cell_of_row _ _ 3 _ _ _ hZ).trans rfl; have d4 := (cell_of_row _ _ 4 _ _ _ hZ).trans rfl; have d5 := (cell_of_row _ _ 5 _ _ _ hZ).trans rfl; have d6 := (cell_of_row _ _ 6 _ _ _ hZ).trans rfl; go_simp; try with_reducible rfl
      (try simp only [Act.put, List.setIfInBounds_toArray, List.set_cons_zero, List.set_cons_succ])
      refine wpAnyH_take (i := 1) (oi := { dst := some 130, op := Op.fieldAddr 127 (Operand.tmp 20) 0, type := 0, pos := "steps.go:60", after := #[], guard := none }) (v := ?_) rfl (by kernel_rfl) (by kernel_rfl) (by kernel_rfl) (fun _ _ _ h => h) (Or.inl ⟨by rfl, ?_⟩) (by assumption) ?_
      rotate_left
      · intro w hSw; (try dsimp only at hSw); obtain ⟨hE, hZ⟩ := hSw; obtain ⟨e0, e1, e2, e3, e4, e5, e6, e7, e8⟩ := hE.cells; have d0 := (cell_of_row _ _ 0 _ _ _ hZ).trans rfl; have d1 := (cell_of_row _ _ 1 _ _ _ hZ).trans rfl; have d2 := (cell_of_row _ _ 2 _ _ _ hZ).trans rfl; have d3 := (cell_of_row _ _ 3 _ _ _ hZ).trans rfl; have d4 := (cell_of_row _ _ 4 _ _ _ hZ).trans rfl; have d5 := (cell_of_row _ _ 5 _ _ _ hZ).trans rfl; have d6 := (cell_of_row _ _ 6 _ _ _ hZ).trans rfl; go_simp; try with_reducible rfl
      (try simp only [Act.put, List.setIfInBounds_toArray, List.set_cons_zero, List.set_cons_succ])
      refine wpAnyH_take (i := 2) (oi := { dst := some 131, op := Op.load 24 (Operand.tmp 130), type := 24, pos := "steps.go:60", after := #[{ on := 1, ground := Ground.data }], guard := none }) (v := ?_) rfl (by kernel_rfl) (by kernel_rfl) (by kernel_rfl) (fun _ _ _ h => h) (Or.inl ⟨by rfl, ?_⟩) (by assumption) ?_
      rotate_left
      · intro w hSw; (try dsimp only at hSw); obtain ⟨hE, hZ⟩ := hSw; obtain ⟨e0, e1, e2, e3, e4, e5, e6, e7, e8⟩ := hE.cells; have d0 := (cell_of_row _ _ 0 _ _ _ hZ).trans rfl; have d1 := (cell_of_row _ _ 1 _ _ _ hZ).trans rfl; have d2 := (cell_of_row _ _ 2 _ _ _ hZ).trans rfl; have d3 := (cell_of_row _ _ 3 _ _ _ hZ).trans rfl; have d4 := (cell_of_row _ _ 4 _ _ _ hZ).trans rfl; have d5 := (cell_of_row _ _ 5 _ _ _ hZ).trans rfl; have d6 := (cell_of_row _ _ 6 _ _ _ hZ).trans rfl; go_simp; try with_reducible rfl
      (try simp only [Act.put, List.setIfInBounds_toArray, List.set_cons_zero, List.set_cons_succ])
      refine wpAnyH_take (i := 3) (oi := { dst := some 132, op := Op.fieldAddr 28 (Operand.tmp 2) 1, type := 0, pos := "steps.go:60", after := #[], guard := none }) (v := ?_) rfl (by kernel_rfl) (by kernel_rfl) (by kernel_rfl) (fun _ _ _ h => h) (Or.inl ⟨by rfl, ?_⟩) (by assumption) ?_
      rotate_left
      · intro w hSw; (try dsimp only at hSw); obtain ⟨hE, hZ⟩ := hSw; obtain ⟨e0, e1, e2, e3, e4, e5, e6, e7, e8⟩ := hE.cells; have d0 := (cell_of_row _ _ 0 _ _ _ hZ).trans rfl; have d1 := (cell_of_row _ _ 1 _ _ _ hZ).trans rfl; have d2 := (cell_of_row _ _ 2 _ _ _ hZ).trans rfl; have d3 := (cell_of_row _ _ 3 _ _ _ hZ).trans rfl; have d4 := (cell_of_row _ _ 4 _ _ _ hZ).trans rfl; have d5 := (cell_of_row _ _ 5 _ _ _ hZ).trans rfl; have d6 := (cell_of_row _ _ 6 _ _ _ hZ).trans rfl; go_simp; try with_reducible rfl
      (try simp only [Act.put, List.setIfInBounds_toArray, List.set_cons_zero, List.set_cons_succ])
      refine wpAnyH_take (i := 4) (oi := { dst := some 133, op := Op.load 24 (Operand.tmp 132), type := 24, pos := "steps.go:60", after := #[{ on := 3, ground := Ground.data }], guard := none }) (v := ?_) rfl (by kernel_rfl) (by kernel_rfl) (by kernel_rfl) (fun _ _ _ h => h) (Or.inl ⟨by rfl, ?_⟩) (by assumption) ?_
      rotate_left
      · intro w hSw; (try dsimp only at hSw); obtain ⟨hE, hZ⟩ := hSw; obtain ⟨e0, e1, e2, e3, e4, e5, e6, e7, e8⟩ := hE.cells; have d0 := (cell_of_row _ _ 0 _ _ _ hZ).trans rfl; have d1 := (cell_of_row _ _ 1 _ _ _ hZ).trans rfl; have d2 := (cell_of_row _ _ 2 _ _ _ hZ).trans rfl; have d3 := (cell_of_row _ _ 3 _ _ _ hZ).trans rfl; have d4 := (cell_of_row _ _ 4 _ _ _ hZ).trans rfl; have d5 := (cell_of_row _ _ 5 _ _ _ hZ).trans rfl; have d6 := (cell_of_row _ _ 6 _ _ _ hZ).trans rfl; go_simp; try with_reducible rfl
      (try simp only [Act.put, List.setIfInBounds_toArray, List.set_cons_zero, List.set_cons_succ])
      refine wpAnyH_take (i := 6) (oi := { dst := some 135, op := Op.fieldAddr 127 (Operand.tmp 20) 1, type := 0, pos := "steps.go:60", after := #[], guard := none }) (v := ?_) rfl (by kernel_rfl) (by kernel_rfl) (by kernel_rfl) (fun _ _ _ h => h) (Or.inl ⟨by rfl, ?_⟩) (by assumption) ?_
      rotate_left
      · intro w hSw; (try dsimp only at hSw); obtain ⟨hE, hZ⟩ := hSw; obtain ⟨e0, e1, e2, e3, e4, e5, e6, e7, e8⟩ := hE.cells; have d0 := (cell_of_row _ _ 0 _ _ _ hZ).trans rfl; have d1 := (cell_of_row _ _ 1 _ _ _ hZ).trans rfl; have d2 := (cell_of_row _ _ 2 _ _ _ hZ).trans rfl; have d3 := (cell_of_row _ _ 3 _ _ _ hZ).trans rfl; have d4 := (cell_of_row _ _ 4 _ _ _ hZ).trans rfl; have d5 := (cell_of_row _ _ 5 _ _ _ hZ).trans rfl; have d6 := (cell_of_row _ _ 6 _ _ _ hZ).trans rfl; go_simp; try with_reducible rfl
      (try simp only [Act.put, List.setIfInBounds_toArray, List.set_cons_zero, List.set_cons_succ])
      refine wpAnyH_take (i := 7) (oi := { dst := some 136, op := Op.load 2 (Operand.tmp 135), type := 2, pos := "steps.go:60", after := #[{ on := 6, ground := Ground.data }], guard := none }) (v := ?_) rfl (by kernel_rfl) (by kernel_rfl) (by kernel_rfl) (fun _ _ _ h => h) (Or.inl ⟨by rfl, ?_⟩) (by assumption) ?_
      rotate_left
      · intro w hSw; (try dsimp only at hSw); obtain ⟨hE, hZ⟩ := hSw; obtain ⟨e0, e1, e2, e3, e4, e5, e6, e7, e8⟩ := hE.cells; have d0 := (cell_of_row _ _ 0 _ _ _ hZ).trans rfl; have d1 := (cell_of_row _ _ 1 _ _ _ hZ).trans rfl; have d2 := (cell_of_row _ _ 2 _ _ _ hZ).trans rfl; have d3 := (cell_of_row _ _ 3 _ _ _ hZ).trans rfl; have d4 := (cell_of_row _ _ 4 _ _ _ hZ).trans rfl; have d5 := (cell_of_row _ _ 5 _ _ _ hZ).trans rfl; have d6 := (cell_of_row _ _ 6 _ _ _ hZ).trans rfl; go_simp; try with_reducible rfl
      (try simp only [Act.put, List.setIfInBounds_toArray, List.set_cons_zero, List.set_cons_succ])
      refine wpAnyH_take (i := 8) (oi := { dst := some 137, op := Op.fieldAddr 28 (Operand.tmp 2) 2, type := 0, pos := "steps.go:60", after := #[], guard := none }) (v := ?_) rfl (by kernel_rfl) (by kernel_rfl) (by kernel_rfl) (fun _ _ _ h => h) (Or.inl ⟨by rfl, ?_⟩) (by assumption) ?_
      rotate_left
      · intro w hSw; (try dsimp only at hSw); obtain ⟨hE, hZ⟩ := hSw; obtain ⟨e0, e1, e2, e3, e4, e5, e6, e7, e8⟩ := hE.cells; have d0 := (cell_of_row _ _ 0 _ _ _ hZ).trans rfl; have d1 := (cell_of_row _ _ 1 _ _ _ hZ).trans rfl; have d2 := (cell_of_row _ _ 2 _ _ _ hZ).trans rfl; have d3 := (cell_of_row _ _ 3 _ _ _ hZ).trans rfl; have d4 := (cell_of_row _ _ 4 _ _ _ hZ).trans rfl; have d5 := (cell_of_row _ _ 5 _ _ _ hZ).trans rfl; have d6 := (cell_of_row _ _ 6 _ _ _ hZ).trans rfl; go_simp; try with_reducible rfl
      (try simp only [Act.put, List.setIfInBounds_toArray, List.set_cons_zero, List.set_cons_succ])
      refine wpAnyH_take (i := 9) (oi := { dst := some 138, op := Op.load 2 (Operand.tmp 137), type := 2, pos := "steps.go:60", after := #[{ on := 8, ground := Ground.data }], guard := none }) (v := ?_) rfl (by kernel_rfl) (by kernel_rfl) (by kernel_rfl) (fun _ _ _ h => h) (Or.inl ⟨by rfl, ?_⟩) (by assumption) ?_
      rotate_left
      · intro w hSw; (try dsimp only at hSw); obtain ⟨hE, hZ⟩ := hSw; obtain ⟨e0, e1, e2, e3, e4, e5, e6, e7, e8⟩ := hE.cells; have d0 := (cell_of_row _ _ 0 _ _ _ hZ).trans rfl; have d1 := (cell_of_row _ _ 1 _ _ _ hZ).trans rfl; have d2 := (cell_of_row _ _ 2 _ _ _ hZ).trans rfl; have d3 := (cell_of_row _ _ 3 _ _ _ hZ).trans rfl; have d4 := (cell_of_row _ _ 4 _ _ _ hZ).trans rfl; have d5 := (cell_of_row _ _ 5 _ _ _ hZ).trans rfl; have d6 := (cell_of_row _ _ 6 _ _ _ hZ).trans rfl; go_simp; try with_reducible rfl
      (try simp only [Act.put, List.setIfInBounds_toArray, List.set_cons_zero, List.set_cons_succ])
      refine wpAnyH_take (i := 10) (oi := { dst := some 139, op := Op.binOp BinOp.add 2 (Operand.tmp 136) (Operand.tmp 138) 2, type := 2, pos := "steps.go:60", after := #[{ on := 7, ground := Ground.data }, { on := 9, ground := Ground.data }], guard := none }) (v := ?_) rfl (by kernel_rfl) (by kernel_rfl) (by kernel_rfl) (fun _ _ _ h => h) (Or.inl ⟨by rfl, ?_⟩) (by assumption) ?_
      rotate_left
      · intro w hSw; (try dsimp only at hSw); obtain ⟨hE, hZ⟩ := hSw; obtain ⟨e0, e1, e2, e3, e4, e5, e6, e7, e8⟩ := hE.cells; have d0 := (cell_of_row _ _ 0 _ _ _ hZ).trans rfl; have d1 := (cell_of_row _ _ 1 _ _ _ hZ).trans rfl; have d2 := (cell_of_row _ _ 2 _ _ _ hZ).trans rfl; have d3 := (cell_of_row _ _ 3 _ _ _ hZ).trans rfl; have d4 := (cell_of_row _ _ 4 _ _ _ hZ).trans rfl; have d5 := (cell_of_row _ _ 5 _ _ _ hZ).trans rfl; have d6 := (cell_of_row _ _ 6 _ _ _ hZ).trans rfl; go_simp; try with_reducible rfl
      (try simp only [Act.put, List.setIfInBounds_toArray, List.set_cons_zero, List.set_cons_succ])
      refine wpAnyH_ready (rs := [5]) (by kernel_rfl) (by simp) ?_
      refine AllReadyH.cons (o := { dst := some 134, op := Op.call { callee := Callee.value (Operand.func 102), args := #[Operand.tmp 131, Operand.tmp 133], argTypes := #[24, 24] }, type := 24, pos := "steps.go:60", after := #[{ on := 2, ground := Ground.data }, { on := 4, ground := Ground.data }], guard := none }) rfl (fun K hK => ?_) AllReadyH.nil
      go_simp
      refine (HJ.out _).mono ?_
      rintro e9 w9 ⟨rfl, hb9⟩
      have F10 := Lib.hid (F9.out.keep hb9)
      have T10 := Lib.hid (T9.out.keep hb9)
      have E10 := Lib.hid (E9.out.keep hb9)
      have Z10 := Lib.hid ((hb9.block gz hz9).trans Z9.out)
      have hz10 : gz < w9.heap.size := Nat.lt_of_lt_of_le hz9 hb9.size
      clear F9 T9 E9 Z9 hz9 hb9 HJ
      refine hK.out _ _ ?_ (fun hHeld => ?_)
      · exact ⟨E10.out, Z10.out⟩
      clear hK K
      (try simp only [Act.put, List.setIfInBounds_toArray, List.set_cons_zero, List.set_cons_succ])
      refine wpAnyH_ready (rs := [11]) (by kernel_rfl) (by simp) ?_
      refine AllReadyH.cons (o := { dst := some 140, op := Op.call { callee := Callee.value (Operand.tmp 129), args := #[Operand.tmp 134, Operand.tmp 139], argTypes := #[24, 2] }, type := 0, pos := "steps.go:60", after := #[{ on := 0, ground := Ground.data }, { on := 5, ground := Ground.data }, { on := 10, ground := Ground.data }, { on := 5, ground := Ground.chain }], guard := none }) rfl (fun K hK => ?_) AllReadyH.nil
      go_simp
      simp only [HW7.out]
      refine (raise_any t0 t1 t2 t3 t4 t5 (q + v) s0 s1 s2 s3 s4 s5 (w.heap.size + 1) gm g 15625 _ w9 F10.out.sup hs4 F10.out.cell F10.out.cellLt F10.out.own (by omega) HBJ.out (by have := HGL.out.2; omega) (by have := HGL.out.2; omega)).mono ?_
      rintro e9 w11 ⟨rfl, hO8, hg8⟩
      rw [← HU.out] at hO8
      have F11 := Lib.hid (F10.out.raise hs4 (fun b' v' h => (HG.out.mem b' v' h).2.1) hO8 hg8)
      have T11 := Lib.hid (T10.out.raise F10.out.own hg8)
      have E11 := Lib.hid (show B9 w11 w.heap.size (.int .i64 4) (.int .i64 x0) (.int .i64 x1) (.int .i64 x2) (.int .i64 x3) (.int .i64 x4) (.int .i64 x5) (.int .i64 v) (.slice (some ad) 1 c) from (hg8.block w.heap.size E10.out.lt (by simp; omega)).trans E10.out)
      have Z11 := Lib.hid ((hg8.block gz hz10 (fun e => hgz (by simpa using e))).trans Z10.out)
      clear F10 T10 E10 Z10 hz10 hO8 hg8 HU HG HBJ HGL
      refine hK.out _ _ ?_ (fun hHeld => ?_)
      · exact ⟨E11.out, Z11.out⟩
      clear hK K
      (try simp only [Act.put, List.setIfInBounds_toArray, List.set_cons_zero, List.set_cons_succ])
      refine wpAnyH_done (by kernel_rfl) ?_ _
      clear hHeld Z11
      go_wp2
      go_roundw
      case rel => exact ⟨j + 1, hjl, by go_num, T11.out, E11.out, F11.out⟩
      case measure => simp [intOf]; omega
    · obtain rfl : j = n1 := by omega
      have hS : S.take j = S := by rw [← SL.out, List.take_length]
      rw [hS] at F
      have G9 := Lib.hid (G0.out.raises (S := VV.bonusL [x0, x1, x2, x3, x4, x5] v S) (bonusL_ok hb hv0 fun p hp => ⟨(good_len GD.out hp).1, (good_len GD.out hp).2.1⟩))
      have f5 := F.out.cell
      clear hS T E
      go_wp2_with fail
      refine (listOf_any g 15625 _ wr F.out.own (by omega)).mono ?_
      rintro e9 w6 ⟨A2, n2, c2, S2, rfl, hst, hent, hb6⟩
      have R9 := Lib.hid (show GivesSteps [s0, s1, s2, s3, s4, s5] (VV.nodeV 4 [x0, x1, x2, x3, x4, x5] v [VV.valN (NT.n ⟨o', [y0, y1, y2, y3, y4, y5], v', A', c', k'⟩)]) w (.returned (.slice A2 n2 c2)) w6 from
        ⟨_, _, _, S2, rfl, hst, (G9.out.same fun x hx hl => VV.bonus_val GD.out hv0 hx hl).entries hent, F.out.below.trans (hb6.mono F.out.below.size)⟩)
      clear hst hent hb6 F f5 G9
      go_wp2
      go_ret
      exact R9.out
end Go.Proofs.Ytjjpfpgjpmedmaa
