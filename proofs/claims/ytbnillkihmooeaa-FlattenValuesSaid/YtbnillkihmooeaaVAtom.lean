/- stepsOf: how it starts, and an atom's steps. No claim of its own. -/
import Derived.Test.YtbnillkihmooeaaJVV
import Derived.Test.YtbnillkihmooeaaJK
import Derived.Carry
namespace Go.Proofs.Ytbnillkihmooeaa
open Go.RowKit
set_option maxRecDepth 100000 in
theorem k4_z : K4 VV.Z := ⟨rfl, rfl⟩
set_option maxRecDepth 100000 in
theorem key_z : keyOf Try.prog 23 (.agg #[.int .i64 0, .int .i64 0, .int .i64 0, .int .i64 0, .int .i64 0, .int .i64 0]) = some (kb VV.Z) := keyOf_bun k4_z
set_option maxRecDepth 100000 in
theorem reads_m0 : ReadsM ((.map [] : DV).put (kb VV.Z) (.lit (.int .i64 0))) VV.M0 := by
  have := ReadsM.nil.put k4_z (v := 0) (by omega) (by omega)
  exact this
set_option maxRecDepth 100000 in
theorem m0_le {s : List Int} (hs : K4 s) : ∀ b v, VV.M0 b = some v → VV.Le b s := fun b v h => ((VV.good0 hs.bu).mem b v h).2.1
attribute [local go_sem] Oper.semAt_some
def GivesSteps (s : List Int) (f : List Int → Int) (w : World) (e : Ending) (w' : World) : Prop := ∃ A n c S, e = .returned (.slice A n c) ∧ StW w' A n c S ∧ VV.Good s S f ∧ Below w.heap.size w w'
set_option maxRecDepth 100000 in
set_option maxHeartbeats 4000000 in
theorem steps_atom (x0 x1 x2 x3 x4 x5 v s0 s1 s2 s3 s4 s5 : Int) (A : Option Addr) (c : Nat) (w : World) (hs4 : K4 [s0, s1, s2, s3, s4, s5]) (hb : VV.Bu [x0, x1, x2, x3, x4, x5]) (hv0 : 0 ≤ v) (hv1 : v ≤ 1000000) :
    Calls Try.prog 80 #[.agg #[.int .i64 1, .int .i64 x0, .int .i64 x1, .int .i64 x2, .int .i64 x3, .int .i64 x4, .int .i64 x5, .int .i64 v, .slice A 0 c], .agg #[.int .i64 s0, .int .i64 s1, .int .i64 s2, .int .i64 s3, .int .i64 s4, .int .i64 s5]] w
      (GivesSteps [s0, s1, s2, s3, s4, s5] (VV.nodeV 1 [x0, x1, x2, x3, x4, x5] v []) w) := by
  have hmf : ∀ (fn : Fn) (first cap : Array Value) (w : World), (Instr.makeFunc fn first cap).run Try.prog w = .ok (.func fn first cap) w := fun _ _ _ _ => rfl
  go_enter Try.func80, Try.ntmps80
  go_upto_region 1 with (fail)
  have D0 := Lib.hid (below_two w (.cells #[.int .i64 1, .int .i64 x0, .int .i64 x1, .int .i64 x2, .int .i64 x3, .int .i64 x4, .int .i64 x5, .int .i64 v, .slice A 0 c] 26) (.cells #[.int .i64 s0, .int .i64 s1, .int .i64 s2, .int .i64 s3, .int .i64 s4, .int .i64 s5] 23))
  have E0 := Lib.hid (show B9 ((w.alloc (.cells #[.int .i64 1, .int .i64 x0, .int .i64 x1, .int .i64 x2, .int .i64 x3, .int .i64 x4, .int .i64 x5, .int .i64 v, .slice A 0 c] 26)).alloc (.cells #[.int .i64 s0, .int .i64 s1, .int .i64 s2, .int .i64 s3, .int .i64 s4, .int .i64 s5] 23)) w.heap.size (.int .i64 1) (.int .i64 x0) (.int .i64 x1) (.int .i64 x2) (.int .i64 x3) (.int .i64 x4) (.int .i64 x5) (.int .i64 v) (.slice A 0 c) from ((below_new (w.alloc (.cells #[.int .i64 1, .int .i64 x0, .int .i64 x1, .int .i64 x2, .int .i64 x3, .int .i64 x4, .int .i64 x5, .int .i64 v, .slice A 0 c] 26)) (.cells #[.int .i64 s0, .int .i64 s1, .int .i64 s2, .int .i64 s3, .int .i64 s4, .int .i64 s5] 23)).block w.heap.size (by simp)).trans (heap_new w (.cells #[.int .i64 1, .int .i64 x0, .int .i64 x1, .int .i64 x2, .int .i64 x3, .int .i64 x4, .int .i64 x5, .int .i64 v, .slice A 0 c] 26)))
  have S0 := Lib.hid (show BB ((w.alloc (.cells #[.int .i64 1, .int .i64 x0, .int .i64 x1, .int .i64 x2, .int .i64 x3, .int .i64 x4, .int .i64 x5, .int .i64 v, .slice A 0 c] 26)).alloc (.cells #[.int .i64 s0, .int .i64 s1, .int .i64 s2, .int .i64 s3, .int .i64 s4, .int .i64 s5] 23)) (w.heap.size + 1) 23 [s0, s1, s2, s3, s4, s5] from by
    have := BB.new (w.alloc (.cells #[.int .i64 1, .int .i64 x0, .int .i64 x1, .int .i64 x2, .int .i64 x3, .int .i64 x4, .int .i64 x5, .int .i64 v, .slice A 0 c] 26)) 23 s0 s1 s2 s3 s4 s5
    rwa [World.size_alloc] at this)
  generalize (w.alloc (.cells #[.int .i64 1, .int .i64 x0, .int .i64 x1, .int .i64 x2, .int .i64 x3, .int .i64 x4, .int .i64 x5, .int .i64 v, .slice A 0 c] 26)).alloc (.cells #[.int .i64 s0, .int .i64 s1, .int .i64 s2, .int .i64 s3, .int .i64 s4, .int .i64 s5] 23) = w1 at *
  have hmm := run_makeMap (P := Try.prog) 123 w1
  obtain ⟨w3, hrun, hown3, hg3⟩ := (World.ownsMap_made (H := Unit) w1 Try.prog 23 (plainElem Try.prog 2)).update bLaw bMap (by unfold maxLen; omega) key_z (plainElem_int bInt64 (wf_small (x := 0) (by omega) (by omega)))
  go_upto_region 2 with (fail)
  have hS1 := S0.out.lt
  have hE1 := E0.out.lt
  have hW2 : (w1.alloc (.map #[] 0)).heap.size = w1.heap.size + 1 := by simp
  have D3 := Lib.hid ((D0.out.alloc D0.out.size (.map #[] 0)).grown hg3 (by rw [hW2]; have := D0.out.size; omega) (fun k hk => by injection hk with hk; rw [← hk]; exact D0.out.size))
  have n2 := below_new w1 (.map #[] 0)
  have S3 := Lib.hid (show BB w3 (w.heap.size + 1) 23 [s0, s1, s2, s3, s4, s5] from ⟨((hg3.block (w.heap.size + 1) (by rw [hW2]; omega) (by simp; omega)).trans (n2.block _ hS1)).trans S0.out.1, S0.out.2⟩)
  have E3 := Lib.hid (show B9 w3 w.heap.size (.int .i64 1) (.int .i64 x0) (.int .i64 x1) (.int .i64 x2) (.int .i64 x3) (.int .i64 x4) (.int .i64 x5) (.int .i64 v) (.slice A 0 c) from ((hg3.block w.heap.size (by rw [hW2]; omega) (by simp; omega)).trans (n2.block _ hE1)).trans E0.out)
  have hsz3 : w1.heap.size < w3.heap.size := by have := hg3.size; rw [hW2] at this; omega
  have O3 := Lib.hid (show OwnV w3 w1.heap.size 1 VV.M0 from ⟨_, hown3, reads_m0⟩)
  have k4 := below_new w3 (.cells #[.map (some w1.heap.size)] 123)
  have F4 := Lib.hid (show Fr w w.heap.size (w.heap.size + 1) w1.heap.size w3.heap.size [s0, s1, s2, s3, s4, s5] VV.M0 (w3.alloc (.cells #[.map (some w1.heap.size)] 123)) from
    ⟨S3.out.keep k4 S3.out.lt, (cell_of_row _ _ 0 _ _ _ (heap_new w3 _)).trans rfl, by simp, (O3.out.kept (grown_of k4) (by simp)).small hs4 (m0_le hs4), D0.out.size, by omega, by omega, D3.out.trans (k4.mono D3.out.size)⟩)
  have E4 := Lib.hid (E3.out.keep k4)
  have hge : w.heap.size < w1.heap.size := hE1
  generalize w3.alloc (.cells #[.map (some w1.heap.size)] 123) = w4 at *
  generalize w3.heap.size = gm at *
  clear hrun hmm hown3 hg3 S0 E0 D0 n2 k4 D3 S3 E3 O3 hS1 hE1 hW2
  generalize w1.heap.size = g at *
  obtain ⟨e0, e1, e2, e3, e4, e5, e6, e7, e8⟩ := E4.out.cells
  have f1 := F4.out.cell
  go_wp2_with fail
  refine (raise_any x0 x1 x2 x3 x4 x5 v s0 s1 s2 s3 s4 s5 (w.heap.size + 1) gm g 15625 VV.M0 w4 F4.out.sup hs4 F4.out.cell F4.out.cellLt F4.out.own (by omega) hb hv0 (by omega)).mono ?_
  rintro e9 w5 ⟨rfl, hO5, hg5⟩
  have G := Lib.hid (show VV.GoodM [s0, s1, s2, s3, s4, s5] (VV.upM [s0, s1, s2, s3, s4, s5] VV.M0 [x0, x1, x2, x3, x4, x5] v) (VV.nodeV 1 [x0, x1, x2, x3, x4, x5] v []) from
    ((VV.good0 hs4.bu).raises (S := [([x0, x1, x2, x3, x4, x5], v)]) (fun p hp => by rw [List.mem_singleton.1 hp]; exact ⟨hb, hv0⟩)).same fun x _ _ => VV.atom_val (_s := [s0, s1, s2, s3, s4, s5]) hv0 hv1 x)
  have F5 := Lib.hid (F4.out.raise hs4 (fun b' v' h => (G.out.mem b' v' h).2.1) hO5 hg5)
  clear e0 e1 e2 e3 e4 e5 e6 e7 e8 f1 F4 E4 hO5 hg5
  have f5 := F5.out.cell
  go_wp2_with fail
  refine (listOf_any g 15625 _ w5 F5.out.own (by omega)).mono ?_
  rintro e9 w6 ⟨A', n', c', S, rfl, hst, hent, hb6⟩
  have R := Lib.hid (show GivesSteps [s0, s1, s2, s3, s4, s5] (VV.nodeV 1 [x0, x1, x2, x3, x4, x5] v []) w (.returned (.slice A' n' c')) w6 from ⟨_, _, _, S, rfl, hst, G.out.entries hent, F5.out.below.trans (hb6.mono F5.out.below.size)⟩)
  clear hst hent hb6 F5 f5 G
  go_wp2
  go_ret
  exact R.out
end Go.Proofs.Ytbnillkihmooeaa
