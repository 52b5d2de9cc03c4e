/- VAtom, VXor, VOr, joined: no claim of its own. -/
import Derived.Test.YtjjpfpgjpmedmaaJVV
import Derived.Test.YtjjpfpgjpmedmaaJK
import Derived.Carry
import Derived.Test.YtjjpfpgjpmedmaaVWorth
import Derived.Deep.RegionHeld3
import Derived.Deep.DeepCutAuto
namespace Go.Proofs.Ytjjpfpgjpmedmaa
open Go.RowKit
set_option maxRecDepth 100000 in
theorem k4_z : K4 VV.Z := ⟨rfl, rfl⟩
set_option maxRecDepth 100000 in
theorem key_z : keyOf Try.prog 24 (.agg #[.int .i64 0, .int .i64 0, .int .i64 0, .int .i64 0, .int .i64 0, .int .i64 0]) = some (kb VV.Z) := keyOf_bun k4_z
set_option maxRecDepth 100000 in
theorem reads_m0 : ReadsM ((.map [] : DV).put (kb VV.Z) (.lit (.int .i64 0))) VV.M0 := by
  have := ReadsM.nil.put k4_z (v := 0) (by omega) (by omega)
  exact this
set_option maxRecDepth 100000 in
theorem m0_le {s : List Int} (hs : K4 s) : ∀ b v, VV.M0 b = some v → VV.Le b s := fun b v h => ((VV.good0 hs.bu).mem b v h).2.1
attribute [local go_sem] Oper.semAt_some
def GivesSteps (s : List Int) (f : List Int → Int) (w : World) (e : Ending) (w' : World) : Prop := ∃ A n c S, e = .returned (.slice A n c) ∧ StW w' A n c S ∧ VV.Good s S f ∧ Below w.heap.size w w'
set_option maxRecDepth 100000 in
set_option maxHeartbeats 4000000 in
theorem steps_atom (x0 x1 x2 x3 x4 x5 v s0 s1 s2 s3 s4 s5 : Int) (A : Option Addr) (c : Nat) (w : World) (hs4 : K4 [s0, s1, s2, s3, s4, s5]) (hb : VV.Bu [x0, x1, x2, x3, x4, x5]) (hv0 : 0 ≤ v) (hv1 : v ≤ 1000000) :
    Calls Try.prog 82 #[.agg #[.int .i64 1, .int .i64 x0, .int .i64 x1, .int .i64 x2, .int .i64 x3, .int .i64 x4, .int .i64 x5, .int .i64 v, .slice A 0 c], .agg #[.int .i64 s0, .int .i64 s1, .int .i64 s2, .int .i64 s3, .int .i64 s4, .int .i64 s5]] w
      (GivesSteps [s0, s1, s2, s3, s4, s5] (VV.nodeV 1 [x0, x1, x2, x3, x4, x5] v []) w) := by
  have hmf : ∀ (fn : Fn) (first cap : Array Value) (w : World), (Instr.makeFunc fn first cap).run Try.prog w = .ok (.func fn first cap) w := fun _ _ _ _ => rfl
  go_enter Try.func82, Try.ntmps82
  go_upto_region 1 with (fail)
  have D0 := Lib.hid (below_two w (.cells #[.int .i64 1, .int .i64 x0, .int .i64 x1, .int .i64 x2, .int .i64 x3, .int .i64 x4, .int .i64 x5, .int .i64 v, .slice A 0 c] 28) (.cells #[.int .i64 s0, .int .i64 s1, .int .i64 s2, .int .i64 s3, .int .i64 s4, .int .i64 s5] 24))
  have E0 := Lib.hid (show B9 ((w.alloc (.cells #[.int .i64 1, .int .i64 x0, .int .i64 x1, .int .i64 x2, .int .i64 x3, .int .i64 x4, .int .i64 x5, .int .i64 v, .slice A 0 c] 28)).alloc (.cells #[.int .i64 s0, .int .i64 s1, .int .i64 s2, .int .i64 s3, .int .i64 s4, .int .i64 s5] 24)) w.heap.size (.int .i64 1) (.int .i64 x0) (.int .i64 x1) (.int .i64 x2) (.int .i64 x3) (.int .i64 x4) (.int .i64 x5) (.int .i64 v) (.slice A 0 c) from ((below_new (w.alloc (.cells #[.int .i64 1, .int .i64 x0, .int .i64 x1, .int .i64 x2, .int .i64 x3, .int .i64 x4, .int .i64 x5, .int .i64 v, .slice A 0 c] 28)) (.cells #[.int .i64 s0, .int .i64 s1, .int .i64 s2, .int .i64 s3, .int .i64 s4, .int .i64 s5] 24)).block w.heap.size (by simp)).trans (heap_new w (.cells #[.int .i64 1, .int .i64 x0, .int .i64 x1, .int .i64 x2, .int .i64 x3, .int .i64 x4, .int .i64 x5, .int .i64 v, .slice A 0 c] 28)))
  have S0 := Lib.hid (show BB ((w.alloc (.cells #[.int .i64 1, .int .i64 x0, .int .i64 x1, .int .i64 x2, .int .i64 x3, .int .i64 x4, .int .i64 x5, .int .i64 v, .slice A 0 c] 28)).alloc (.cells #[.int .i64 s0, .int .i64 s1, .int .i64 s2, .int .i64 s3, .int .i64 s4, .int .i64 s5] 24)) (w.heap.size + 1) 24 [s0, s1, s2, s3, s4, s5] from by
    have := BB.new (w.alloc (.cells #[.int .i64 1, .int .i64 x0, .int .i64 x1, .int .i64 x2, .int .i64 x3, .int .i64 x4, .int .i64 x5, .int .i64 v, .slice A 0 c] 28)) 24 s0 s1 s2 s3 s4 s5
    rwa [World.size_alloc] at this)
  generalize (w.alloc (.cells #[.int .i64 1, .int .i64 x0, .int .i64 x1, .int .i64 x2, .int .i64 x3, .int .i64 x4, .int .i64 x5, .int .i64 v, .slice A 0 c] 28)).alloc (.cells #[.int .i64 s0, .int .i64 s1, .int .i64 s2, .int .i64 s3, .int .i64 s4, .int .i64 s5] 24) = w1 at *
  have hmm := run_makeMap (P := Try.prog) 124 w1
  obtain ⟨w3, hrun, hown3, hg3⟩ := (World.ownsMap_made (H := Unit) w1 Try.prog 24 (plainElem Try.prog 2)).update bLaw bMap (by unfold maxLen; omega) key_z (plainElem_int bInt64 (wf_small (x := 0) (by omega) (by omega)))
  go_upto_region 2 with (fail)
  have hS1 := S0.out.lt
  have hE1 := E0.out.lt
  have hW2 : (w1.alloc (.map #[] 0)).heap.size = w1.heap.size + 1 := by simp
  have D3 := Lib.hid ((D0.out.alloc D0.out.size (.map #[] 0)).grown hg3 (by rw [hW2]; have := D0.out.size; omega) (fun k hk => by injection hk with hk; rw [← hk]; exact D0.out.size))
  have n2 := below_new w1 (.map #[] 0)
  have S3 := Lib.hid (show BB w3 (w.heap.size + 1) 24 [s0, s1, s2, s3, s4, s5] from ⟨((hg3.block (w.heap.size + 1) (by rw [hW2]; omega) (by simp; omega)).trans (n2.block _ hS1)).trans S0.out.1, S0.out.2⟩)
  have E3 := Lib.hid (show B9 w3 w.heap.size (.int .i64 1) (.int .i64 x0) (.int .i64 x1) (.int .i64 x2) (.int .i64 x3) (.int .i64 x4) (.int .i64 x5) (.int .i64 v) (.slice A 0 c) from ((hg3.block w.heap.size (by rw [hW2]; omega) (by simp; omega)).trans (n2.block _ hE1)).trans E0.out)
  have hsz3 : w1.heap.size < w3.heap.size := by have := hg3.size; rw [hW2] at this; omega
  have O3 := Lib.hid (show OwnV w3 w1.heap.size 1 VV.M0 from ⟨_, hown3, reads_m0⟩)
  have k4 := below_new w3 (.cells #[.map (some w1.heap.size)] 124)
  have F4 := Lib.hid (show Fr w w.heap.size (w.heap.size + 1) w1.heap.size w3.heap.size [s0, s1, s2, s3, s4, s5] VV.M0 (w3.alloc (.cells #[.map (some w1.heap.size)] 124)) from
    ⟨S3.out.keep k4 S3.out.lt, (cell_of_row _ _ 0 _ _ _ (heap_new w3 _)).trans rfl, by simp, (O3.out.kept (grown_of k4) (by simp)).small hs4 (m0_le hs4), D0.out.size, by omega, by omega, D3.out.trans (k4.mono D3.out.size)⟩)
  have E4 := Lib.hid (E3.out.keep k4)
  have hge : w.heap.size < w1.heap.size := hE1
  generalize w3.alloc (.cells #[.map (some w1.heap.size)] 124) = w4 at *
  generalize w3.heap.size = gm at *
  clear hrun hmm hown3 hg3 S0 E0 D0 n2 k4 D3 S3 E3 O3 hS1 hE1 hW2
  generalize w1.heap.size = g at *
  obtain ⟨e0, e1, e2, e3, e4, e5, e6, e7, e8⟩ := E4.out.cells
  have f1 := F4.out.cell
  go_wp2_with fail
  refine (raise_any x0 x1 x2 x3 x4 x5 v s0 s1 s2 s3 s4 s5 (w.heap.size + 1) gm g 15625 VV.M0 w4 F4.out.sup hs4 F4.out.cell F4.out.cellLt F4.out.own (by omega) hb hv0 (by omega)).mono ?_
  rintro e9 w5 ⟨rfl, hO5, hg5⟩
  have G := Lib.hid (show VV.GoodM [s0, s1, s2, s3, s4, s5] (VV.upM [s0, s1, s2, s3, s4, s5] VV.M0 [x0, x1, x2, x3, x4, x5] v) (VV.nodeV 1 [x0, x1, x2, x3, x4, x5] v []) from
    ((VV.good0 hs4.bu).raises (S := [([x0, x1, x2, x3, x4, x5], v)]) (fun p hp => by rw [List.mem_singleton.1 hp]; exact ⟨hb, hv0⟩)).same fun x _ _ => VV.atom_val (_s := [s0, s1, s2, s3, s4, s5]) hv0 hv1 x)
  have F5 := Lib.hid (F4.out.raise hs4 (fun b' v' h => (G.out.mem b' v' h).2.1) hO5 hg5)
  clear e0 e1 e2 e3 e4 e5 e6 e7 e8 f1 F4 E4 hO5 hg5
  have f5 := F5.out.cell
  go_wp2_with fail
  refine (listOf_any g 15625 _ w5 F5.out.own (by omega)).mono ?_
  rintro e9 w6 ⟨A', n', c', S, rfl, hst, hent, hb6⟩
  have R := Lib.hid (show GivesSteps [s0, s1, s2, s3, s4, s5] (VV.nodeV 1 [x0, x1, x2, x3, x4, x5] v []) w (.returned (.slice A' n' c')) w6 from ⟨_, _, _, S, rfl, hst, G.out.entries hent, F5.out.below.trans (hb6.mono F5.out.below.size)⟩)
  clear hst hent hb6 F5 f5 G
  go_wp2
  go_ret
  exact R.out
end Go.Proofs.Ytjjpfpgjpmedmaa
namespace Go.Proofs.Ytjjpfpgjpmedmaa
open Go.RowKit
theorem args_snoc2 (fs : List (List Int → Int)) (g : List Int → Int) : VV.argsV 2 (fs ++ [g]) = VV.stepV 2 (VV.argsV 2 fs) g := by
  cases fs with
  | nil => rfl
  | cons a r => exact VV.argsV_snoc 2 a r g
theorem StW.raise {w w' : World} {A : Option Addr} {n c : Nat} {S : VV.St} {g m : Nat} {M : VV.Vm} (h : StW w A n c S) (hO : OwnV w g m M) (hg : w.grownBy w' (some g)) : StW w' A n c S := by
  refine ⟨⟨h.reads.1, fun hn => ?_⟩, h.len, h.cap, h.few, h.all⟩
  obtain ⟨ad, e, hb, hc⟩ := h.reads.2 hn
  have hne : ad.block ≠ g := fun e => by
    obtain ⟨D, ⟨es, clock, hm, _⟩, _⟩ := hO
    have hl := h.reads.1
    have h0 : 0 < (cellsSs S).length := by rw [hl]; omega
    have c0 := hc 0 _ (List.getElem?_eq_getElem h0)
    unfold World.cell? at c0
    rw [block_of_add, e, hm] at c0
    simp at c0
  exact ⟨ad, e, Nat.lt_of_lt_of_le hb hg.size, fun j u hu => (cell_same (hg.block (ad.add j).block (by rw [block_of_add]; exact hb) (fun e => hne (by rw [block_of_add] at e; simpa using e)))).trans (hc j u hu)⟩
theorem good_len {s : List Int} {S : VV.St} {f : List Int → Int} (h : VV.Good s S f) {p : List Int × Int} (hp : p ∈ S) : VV.Bu p.1 ∧ 0 ≤ p.2 ∧ p.2 ≤ 1000000 := ⟨(h.mem p hp).1, (h.mem p hp).2.2.1, (h.mem p hp).2.2.2⟩
theorem upsM_snoc (s : List Int) (S : VV.St) (p : List Int × Int) (M : VV.Vm) : VV.upsM s (S ++ [p]) M = VV.upM s (VV.upsM s S M) p.1 p.2 := by rw [VV.upsM_append]; rfl
attribute [local go_sem] Oper.semAt_some
set_option maxRecDepth 100000 in
set_option maxHeartbeats 8000000 in
theorem steps_xor (x0 x1 x2 x3 x4 x5 v s0 s1 s2 s3 s4 s5 : Int) (A : Option Addr) (c : Nat) (k : FT) (ok : Nat → Prop) (w : World) (hs4 : K4 [s0, s1, s2, s3, s4, s5]) (hkids : Kids w ok A c k) (hkl : k.len ≤ 2000000)
    (IH : ∀ y : NT, y.n ∈ k.f.roots → ∀ (w' : World) (ok' : Nat → Prop), y.Ok w' ok' → Calls Try.prog 82 #[y.val, .agg #[.int .i64 s0, .int .i64 s1, .int .i64 s2, .int .i64 s3, .int .i64 s4, .int .i64 s5]] w' (GivesSteps [s0, s1, s2, s3, s4, s5] (VV.valN y.n) w')) :
    Calls Try.prog 82 #[.agg #[.int .i64 2, .int .i64 x0, .int .i64 x1, .int .i64 x2, .int .i64 x3, .int .i64 x4, .int .i64 x5, .int .i64 v, .slice A k.len c], .agg #[.int .i64 s0, .int .i64 s1, .int .i64 s2, .int .i64 s3, .int .i64 s4, .int .i64 s5]] w
      (GivesSteps [s0, s1, s2, s3, s4, s5] (VV.nodeV 2 [x0, x1, x2, x3, x4, x5] v (VV.valF k.f)) w) := by
  have hmf : ∀ (fn : Fn) (first cap : Array Value) (w : World), (Instr.makeFunc fn first cap).run Try.prog w = .ok (.func fn first cap) w := fun _ _ _ _ => rfl
  have HK := Lib.hid hkids.rest
  have HIH := Lib.hid IH
  clear IH hkids
  go_enter Try.func82, Try.ntmps82
  go_upto_region 1 with (fail)
  have D0 := Lib.hid (below_two w (.cells #[.int .i64 2, .int .i64 x0, .int .i64 x1, .int .i64 x2, .int .i64 x3, .int .i64 x4, .int .i64 x5, .int .i64 v, .slice A k.len c] 28) (.cells #[.int .i64 s0, .int .i64 s1, .int .i64 s2, .int .i64 s3, .int .i64 s4, .int .i64 s5] 24))
  have E0 := Lib.hid (show B9 ((w.alloc (.cells #[.int .i64 2, .int .i64 x0, .int .i64 x1, .int .i64 x2, .int .i64 x3, .int .i64 x4, .int .i64 x5, .int .i64 v, .slice A k.len c] 28)).alloc (.cells #[.int .i64 s0, .int .i64 s1, .int .i64 s2, .int .i64 s3, .int .i64 s4, .int .i64 s5] 24)) w.heap.size (.int .i64 2) (.int .i64 x0) (.int .i64 x1) (.int .i64 x2) (.int .i64 x3) (.int .i64 x4) (.int .i64 x5) (.int .i64 v) (.slice A k.len c) from ((below_new (w.alloc (.cells #[.int .i64 2, .int .i64 x0, .int .i64 x1, .int .i64 x2, .int .i64 x3, .int .i64 x4, .int .i64 x5, .int .i64 v, .slice A k.len c] 28)) (.cells #[.int .i64 s0, .int .i64 s1, .int .i64 s2, .int .i64 s3, .int .i64 s4, .int .i64 s5] 24)).block w.heap.size (by simp)).trans (heap_new w (.cells #[.int .i64 2, .int .i64 x0, .int .i64 x1, .int .i64 x2, .int .i64 x3, .int .i64 x4, .int .i64 x5, .int .i64 v, .slice A k.len c] 28)))
  have S0 := Lib.hid (show BB ((w.alloc (.cells #[.int .i64 2, .int .i64 x0, .int .i64 x1, .int .i64 x2, .int .i64 x3, .int .i64 x4, .int .i64 x5, .int .i64 v, .slice A k.len c] 28)).alloc (.cells #[.int .i64 s0, .int .i64 s1, .int .i64 s2, .int .i64 s3, .int .i64 s4, .int .i64 s5] 24)) (w.heap.size + 1) 24 [s0, s1, s2, s3, s4, s5] from by
    have := BB.new (w.alloc (.cells #[.int .i64 2, .int .i64 x0, .int .i64 x1, .int .i64 x2, .int .i64 x3, .int .i64 x4, .int .i64 x5, .int .i64 v, .slice A k.len c] 28)) 24 s0 s1 s2 s3 s4 s5
    rwa [World.size_alloc] at this)
  generalize (w.alloc (.cells #[.int .i64 2, .int .i64 x0, .int .i64 x1, .int .i64 x2, .int .i64 x3, .int .i64 x4, .int .i64 x5, .int .i64 v, .slice A k.len c] 28)).alloc (.cells #[.int .i64 s0, .int .i64 s1, .int .i64 s2, .int .i64 s3, .int .i64 s4, .int .i64 s5] 24) = w1 at *
  have hmm := run_makeMap (P := Try.prog) 124 w1
  obtain ⟨w3, hrun, hown3, hg3⟩ := (World.ownsMap_made (H := Unit) w1 Try.prog 24 (plainElem Try.prog 2)).update bLaw bMap (by unfold maxLen; omega) key_z (plainElem_int bInt64 (wf_small (x := 0) (by omega) (by omega)))
  go_upto_region 2 with (fail)
  have hS1 := S0.out.lt
  have hE1 := E0.out.lt
  have hW2 : (w1.alloc (.map #[] 0)).heap.size = w1.heap.size + 1 := by simp
  have D3 := Lib.hid ((D0.out.alloc D0.out.size (.map #[] 0)).grown hg3 (by rw [hW2]; have := D0.out.size; omega) (fun k hk => by injection hk with hk; rw [← hk]; exact D0.out.size))
  have n2 := below_new w1 (.map #[] 0)
  have S3 := Lib.hid (show BB w3 (w.heap.size + 1) 24 [s0, s1, s2, s3, s4, s5] from ⟨((hg3.block (w.heap.size + 1) (by rw [hW2]; omega) (by simp; omega)).trans (n2.block _ hS1)).trans S0.out.1, S0.out.2⟩)
  have E3 := Lib.hid (show B9 w3 w.heap.size (.int .i64 2) (.int .i64 x0) (.int .i64 x1) (.int .i64 x2) (.int .i64 x3) (.int .i64 x4) (.int .i64 x5) (.int .i64 v) (.slice A k.len c) from ((hg3.block w.heap.size (by rw [hW2]; omega) (by simp; omega)).trans (n2.block _ hE1)).trans E0.out)
  have hsz3 : w1.heap.size < w3.heap.size := by have := hg3.size; rw [hW2] at this; omega
  have O3 := Lib.hid (show OwnV w3 w1.heap.size 1 VV.M0 from ⟨_, hown3, reads_m0⟩)
  have k4 := below_new w3 (.cells #[.map (some w1.heap.size)] 124)
  have F4 := Lib.hid (show Fr w w.heap.size (w.heap.size + 1) w1.heap.size w3.heap.size [s0, s1, s2, s3, s4, s5] VV.M0 (w3.alloc (.cells #[.map (some w1.heap.size)] 124)) from
    ⟨S3.out.keep k4 S3.out.lt, (cell_of_row _ _ 0 _ _ _ (heap_new w3 _)).trans rfl, by simp, (O3.out.kept (grown_of k4) (by simp)).small hs4 (m0_le hs4), D0.out.size, by omega, by omega, D3.out.trans (k4.mono D3.out.size)⟩)
  have E4 := Lib.hid (E3.out.keep k4)
  have hge : w.heap.size < w1.heap.size := hE1
  generalize w3.alloc (.cells #[.map (some w1.heap.size)] 124) = w4 at *
  generalize w3.heap.size = gm at *
  clear hrun hmm hown3 hg3 S0 E0 D0 n2 k4 D3 S3 E3 O3 hS1 hE1 hW2
  generalize w1.heap.size = g at *
  obtain ⟨e0, e1, e2, e3, e4, e5, e6, e7, e8⟩ := E4.out.cells
  have f1 := F4.out.cell
  go_wp2_with fail
  clear e0 e1 e2 e3 e4 e5 e6 e7 e8 f1 E4
  have G0 := Lib.hid (VV.good0 hs4.bu)
  go_loopw [42] (fun t wr => ∃ (i : Nat) (rs : FT) (fs : List (List Int → Int)) (f : List Int → Int) (M : VV.Vm) (dn : List ME.Nd), i ≤ k.len ∧ t = .int .i64 i ∧ Rest w ok A i rs k.len ∧ k.f.roots = dn ++ rs.f.roots ∧ VV.valF k.f = fs ++ VV.valF rs.f ∧ VV.GoodM [s0, s1, s2, s3, s4, s5] M f ∧ VV.Fits [s0, s1, s2, s3, s4, s5] f (VV.argsV 2 fs) ∧ Fr w w.heap.size (w.heap.size + 1) g gm [s0, s1, s2, s3, s4, s5] M wr) (fun t _ => k.len - (intOf t).toNat)
  case atStart => exact ⟨0, k, [], fun _ => 0, VV.M0, [], Nat.zero_le _, rfl, HK.out, rfl, rfl, G0.out, fun x _ _ => rfl, F4.out⟩
  case round =>
    obtain ⟨i, rs, fs, f, M, dn, hi, rfl, hrest, hroots, hval, hgm, hfit, hfr⟩ := hrel
    have F := Lib.hid hfr
    have R := Lib.hid hrest
    have RT := Lib.hid hroots
    have VL := Lib.hid hval
    have G := Lib.hid hgm
    have FT_ := Lib.hid hfit
    clear hfr hrest hroots hval hgm hfit F4 G0 HK
    by_cases hlt : i < k.len
    · have hRk := R.out.keep (w' := wr) (ok' := ok) (fun k _ hk => F.out.below.block k hk) F.out.below.size (fun _ h _ => h)
      obtain ⟨ad, o', y0, y1, y2, y3, y4, y5, v', A', c', k', r, rfl, rfl, hyok, hrest', hadl, _, a0, a1, a2, a3, a4, a5, a6, a7, a8⟩ := hRk.open_ hlt
      have YO := Lib.hid hyok
      have R2 : Hid (Rest w ok (some ad) (i + 1) r k.len) := Lib.hid (by
        obtain ⟨ad2, o2, _, _, _, _, _, _, _, _, _, _, r2, _, hcons, _, hr2, _⟩ := R.out.open_ hlt
        simp only [FT.cons.injEq] at hcons
        obtain ⟨_, _, _, _, _, _, rfl⟩ := hcons
        exact hr2)
      clear hRk hyok hrest' R
      go_upto_region 10 with (fail)
      have nb := below_new wr (.cells #[.int .i64 o', .int .i64 y0, .int .i64 y1, .int .i64 y2, .int .i64 y3, .int .i64 y4, .int .i64 y5, .int .i64 v', .slice A' k'.len c'] 28)
      have X1 := Lib.hid (show B9 (wr.alloc (.cells #[.int .i64 o', .int .i64 y0, .int .i64 y1, .int .i64 y2, .int .i64 y3, .int .i64 y4, .int .i64 y5, .int .i64 v', .slice A' k'.len c'] 28)) wr.heap.size (.int .i64 o') (.int .i64 y0) (.int .i64 y1) (.int .i64 y2) (.int .i64 y3) (.int .i64 y4) (.int .i64 y5) (.int .i64 v') (.slice A' k'.len c') from heap_new wr (.cells #[.int .i64 o', .int .i64 y0, .int .i64 y1, .int .i64 y2, .int .i64 y3, .int .i64 y4, .int .i64 y5, .int .i64 v', .slice A' k'.len c'] 28))
      have F1 := Lib.hid (F.out.keep nb)
      have Y1 := Lib.hid (YO.out.below nb)
      clear a0 a1 a2 a3 a4 a5 a6 a7 a8 hadl F YO nb
      generalize wr.alloc (.cells #[.int .i64 o', .int .i64 y0, .int .i64 y1, .int .i64 y2, .int .i64 y3, .int .i64 y4, .int .i64 y5, .int .i64 v', .slice A' k'.len c'] 28) = w5 at *
      generalize wr.heap.size = ge at *
      obtain ⟨b0, b1, b2, b3, b4, b5, b6, b7, b8⟩ := X1.out.cells
      obtain ⟨r0, r1, r3, r4, r5, r6⟩ := cells6 F1.out.sup
      have hin : NT.n ⟨o', [y0, y1, y2, y3, y4, y5], v', A', c', k'⟩ ∈ k.f.roots := by rw [RT.out]; exact List.mem_append_right _ List.mem_cons_self
      have HC := Lib.hid (HIH.out ⟨o', [y0, y1, y2, y3, y4, y5], v', A', c', k'⟩ hin w5 ok Y1.out)
      rw [NT.val_lit] at HC
      clear hin
      generalize hgn : VV.valN (NT.n ⟨o', [y0, y1, y2, y3, y4, y5], v', A', c', k'⟩) = gn at HC
      have GN := Lib.hid hgn
      clear hgn
      go_wp2_with fail
      refine HC.out.mono ?_
      rintro e9 w6 ⟨A1, n1, c1, S, rfl, hst, hgood, hb6⟩
      have F6 := Lib.hid (F1.out.keep hb6)
      have T6 := Lib.hid hst
      have GD := Lib.hid hgood
      have SL := Lib.hid hst.len
      have hfew := hst.few
      clear b0 b1 b2 b3 b4 b5 b6 b7 b8 r0 r1 r3 r4 r5 r6 F1 Y1 X1 HC hst hgood hb6
      go_wp2_with fail
      go_loopw [50] (fun t wr => ∃ j : Nat, j ≤ n1 ∧ t = .int .i64 j ∧ StW wr A1 n1 c1 S ∧ Fr w w.heap.size (w.heap.size + 1) g gm [s0, s1, s2, s3, s4, s5] (VV.upsM [s0, s1, s2, s3, s4, s5] (S.take j) M) wr) (fun t _ => n1 - (intOf t).toNat)
      case atStart => exact ⟨0, Nat.zero_le _, rfl, T6.out, F6.out⟩
      case round =>
        obtain ⟨j, hj, rfl, hst, hfr⟩ := hrel
        have F := Lib.hid hfr
        have T := Lib.hid hst
        clear hst hfr T6 F6
        by_cases hjl : j < n1
        · obtain ⟨az, z0, z1, z2, z3, z4, z5, q, rfl, hrow, hazl, c0, c1', c2, c3, c4, c5, c6⟩ := T.out.at_ hjl
          have GL := good_len GD.out (List.mem_of_getElem? hrow)
          have HU := Lib.hid (show VV.upsM [s0, s1, s2, s3, s4, s5] (S.take (j + 1)) M = VV.upM [s0, s1, s2, s3, s4, s5] (VV.upsM [s0, s1, s2, s3, s4, s5] (S.take j) M) [z0, z1, z2, z3, z4, z5] q by rw [take_snoc' hrow, upsM_snoc])
          have HG := Lib.hid (G.out.raises (S := S.take (j + 1)) fun p hp => ⟨(good_len GD.out (List.mem_of_mem_take hp)).1, (good_len GD.out (List.mem_of_mem_take hp)).2.1⟩)
          clear hrow
          go_upto_region 13 with (fail)
          have nb := below_new wr (.cells #[.int .i64 z0, .int .i64 z1, .int .i64 z2, .int .i64 z3, .int .i64 z4, .int .i64 z5, .int .i64 q] 127)
          have hh := heap_new wr (.cells #[.int .i64 z0, .int .i64 z1, .int .i64 z2, .int .i64 z3, .int .i64 z4, .int .i64 z5, .int .i64 q] 127)
          have d0 := (cell_of_row _ _ 0 _ _ _ hh).trans rfl
          have d1 := (cell_of_row _ _ 1 _ _ _ hh).trans rfl
          have d2 := (cell_of_row _ _ 2 _ _ _ hh).trans rfl
          have d3 := (cell_of_row _ _ 3 _ _ _ hh).trans rfl
          have d4 := (cell_of_row _ _ 4 _ _ _ hh).trans rfl
          have d5 := (cell_of_row _ _ 5 _ _ _ hh).trans rfl
          have d6 := (cell_of_row _ _ 6 _ _ _ hh).trans rfl
          have F7 := Lib.hid (F.out.keep nb)
          have T7 := Lib.hid (T.out.keep nb)
          clear c0 c1' c2 c3 c4 c5 c6 hazl F T nb hh
          generalize wr.alloc (.cells #[.int .i64 z0, .int .i64 z1, .int .i64 z2, .int .i64 z3, .int .i64 z4, .int .i64 z5, .int .i64 q] 127) = w7 at *
          generalize wr.heap.size = gz at *
          go_wp2_with fail
          refine (raise_any z0 z1 z2 z3 z4 z5 q s0 s1 s2 s3 s4 s5 (w.heap.size + 1) gm g 15625 _ w7 F7.out.sup hs4 F7.out.cell F7.out.cellLt F7.out.own (by omega) GL.1 GL.2.1 (by have := GL.2.2; omega)).mono ?_
          rintro e9 w8 ⟨rfl, hO8, hg8⟩
          rw [← HU.out] at hO8
          have F8 := Lib.hid (F7.out.raise hs4 (fun b' v' h => (HG.out.mem b' v' h).2.1) hO8 hg8)
          have T8 := Lib.hid (T7.out.raise F7.out.own hg8)
          clear d0 d1 d2 d3 d4 d5 d6 F7 T7 hO8 hg8 HU HG GL
          go_wp2
          go_roundw
          case rel => exact ⟨j + 1, hjl, by go_num, T8.out, F8.out⟩
          case measure => simp [intOf]; omega
        · obtain rfl : j = n1 := by omega
          have hS : S.take j = S := by rw [← SL.out, List.take_length]
          rw [hS] at F
          have G9 := Lib.hid (G.out.raises (S := S) fun p hp => ⟨(good_len GD.out hp).1, (good_len GD.out hp).2.1⟩)
          have FT9 := Lib.hid (FT_.out.xor GD.out)
          rw [← args_snoc2] at FT9
          clear hS T
          go_wp2
          go_roundw
          case rel => exact ⟨i + 1, _, fs ++ [gn], _, _, dn ++ [NT.n ⟨o', [y0, y1, y2, y3, y4, y5], v', A', c', k'⟩], hlt, by go_num, R2.out, by rw [RT.out, List.append_assoc]; rfl, by rw [VL.out, List.append_assoc, ← GN.out]; rfl, G9.out, FT9.out, F.out⟩
          case measure => simp [intOf]; omega
    · obtain ⟨rfl, rfl⟩ := R.out.end_ hlt
      have f5 := F.out.cell
      have hvl := VL.out
      rw [show VV.valF (FT.f .nil) = [] from rfl, List.append_nil] at hvl
      have HV := Lib.hid hvl
      clear hvl
      go_wp2_with fail
      refine (listOf_any g 15625 _ wr F.out.own (by omega)).mono ?_
      rintro e9 w6 ⟨A', n', c', S, rfl, hst, hent, hb6⟩
      have R9 := Lib.hid (show GivesSteps [s0, s1, s2, s3, s4, s5] (VV.nodeV 2 [x0, x1, x2, x3, x4, x5] v (VV.valF k.f)) w (.returned (.slice A' n' c')) w6 from
        ⟨_, _, _, S, rfl, hst, (G.out.same fun x hx hl => by rw [HV.out]; exact VV.fits_end (.inl rfl) FT_.out hx hl).entries hent, F.out.below.trans (hb6.mono F.out.below.size)⟩)
      clear hst hent hb6 F f5 G
      go_wp2
      go_ret
      exact R9.out
end Go.Proofs.Ytjjpfpgjpmedmaa
namespace Go.Proofs.Ytjjpfpgjpmedmaa
open Go.RowKit
theorem fits_or {s : List Int} {f g : List Int → Int} {fs : List (List Int → Int)} (h : VV.Fits s f (VV.argsV 3 fs)) (hm : VV.Mono g) {S B : VV.St} (hg : VV.Good s S g) (hf : VV.Good s B f) : VV.Fits s (VV.upsF f (VV.orL s S B)) (VV.argsV 3 (fs ++ [g])) := by
  cases fs with
  | nil =>
    have h1 := h.or hg hf
    intro x hx hl
    rw [h1 x hx hl]
    show min 1000000 (VV.stepV 3 (fun _ => 0) g x) = min 1000000 (max 0 (g x))
    unfold VV.stepV
    rw [if_pos rfl, VV.orF_zero hm hx]
    have := hm.pos x hx
    omega
  | cons a r =>
    rw [VV.argsV_snoc 3 a r g]
    exact h.or hg hf
def orOne (s : List Int) (p : List Int × Int) (B : VV.St) : VV.St := (B.filter fun o => VV.leB o.1 (VV.sub s p.1)).map fun o => (VV.add p.1 o.1, p.2 + o.2)
theorem orL_snoc (s : List Int) (S B : VV.St) (p : List Int × Int) : VV.orL s (S ++ [p]) B = VV.orL s S B ++ orOne s p B := by
  unfold VV.orL orOne
  rw [List.flatMap_append]; simp
theorem orOne_yes {s : List Int} {p o : List Int × Int} {B : VV.St} {l : Nat} (h : B[l]? = some o) (hw : MB.withinB o.1 (VV.sub s p.1) 6 = true) : orOne s p (B.take (l + 1)) = orOne s p (B.take l) ++ [(VV.add p.1 o.1, p.2 + o.2)] := by
  unfold orOne
  rw [take_snoc' h, List.filter_append, List.map_append]
  have : ([o].filter fun o => VV.leB o.1 (VV.sub s p.1)) = [o] := by rw [List.filter_cons, if_pos (show VV.leB o.1 (VV.sub s p.1) = true from hw)]; rfl
  rw [this]; rfl
theorem orOne_no {s : List Int} {p o : List Int × Int} {B : VV.St} {l : Nat} (h : B[l]? = some o) (hw : MB.withinB o.1 (VV.sub s p.1) 6 = false) : orOne s p (B.take (l + 1)) = orOne s p (B.take l) := by
  unfold orOne
  rw [take_snoc' h, List.filter_append, List.map_append]
  have : ([o].filter fun o => VV.leB o.1 (VV.sub s p.1)) = [] := by rw [List.filter_cons, show VV.leB o.1 (VV.sub s p.1) = false from hw]; rfl
  rw [this]; simp
theorem orL_ok {s : List Int} {S B : VV.St} (hS : ∀ p ∈ S, VV.Bu p.1 ∧ 0 ≤ p.2) (hB : ∀ p ∈ B, VV.Bu p.1 ∧ 0 ≤ p.2) : ∀ p ∈ VV.orL s S B, VV.Bu p.1 ∧ 0 ≤ p.2 := fun x hx => by
  obtain ⟨p, hp, o, ho, _, rfl⟩ := VV.orL_mem.1 hx
  exact ⟨(hS p hp).1.add (hB o ho).1, by have := (hS p hp).2; have := (hB o ho).2; show 0 ≤ p.2 + o.2; omega⟩
theorem orOne_ok {s : List Int} {p : List Int × Int} {B : VV.St} (hp : VV.Bu p.1 ∧ 0 ≤ p.2) (hB : ∀ p ∈ B, VV.Bu p.1 ∧ 0 ≤ p.2) : ∀ x ∈ orOne s p B, VV.Bu x.1 ∧ 0 ≤ x.2 := fun x hx => by
  obtain ⟨o, ho, rfl⟩ := List.mem_map.1 hx
  have ho := (List.mem_filter.1 ho).1
  exact ⟨hp.1.add (hB o ho).1, by have := hp.2; have := (hB o ho).2; show 0 ≤ p.2 + o.2; omega⟩
theorem orAll_ok {s : List Int} {S B : VV.St} {p : List Int × Int} (hS : ∀ p ∈ S, VV.Bu p.1 ∧ 0 ≤ p.2) (hp : VV.Bu p.1 ∧ 0 ≤ p.2) (hB : ∀ p ∈ B, VV.Bu p.1 ∧ 0 ≤ p.2) (l : Nat) : ∀ x ∈ VV.orL s S B ++ orOne s p (B.take l), VV.Bu x.1 ∧ 0 ≤ x.2 := fun x hx => by
  rcases List.mem_append.1 hx with h | h
  · exact orL_ok hS hB x h
  · exact orOne_ok hp (fun q hq => hB q (List.mem_of_mem_take hq)) x h
theorem addB_small {a b : List Int} (ha : ∀ k, k < 6 → 0 ≤ MB.at_ a k ∧ MB.at_ a k ≤ 4) (hb : ∀ k, k < 6 → 0 ≤ MB.at_ b k ∧ MB.at_ b k ≤ 4) : addB a b = VV.add a b := by
  refine MB.ext6 rfl rfl fun j hj => ?_
  rw [VV.add_at hj]
  unfold addB
  rw [mapB_at _ hj]
  have := ha j hj; have := hb j hj
  unfold wrap64; omega
theorem subB_small {a b : List Int} (ha : ∀ k, k < 6 → 0 ≤ MB.at_ a k ∧ MB.at_ a k ≤ 4) (hb : ∀ k, k < 6 → 0 ≤ MB.at_ b k ∧ MB.at_ b k ≤ 4) : subB a b = VV.sub a b := by
  refine MB.ext6 rfl rfl fun j hj => ?_
  rw [VV.sub_at hj]
  unfold subB
  rw [mapB_at _ hj]
  have := ha j hj; have := hb j hj
  unfold wrap64; omega
theorem good_in {s : List Int} (hs : K4 s) {S : VV.St} {f : List Int → Int} (h : VV.Good s S f) {p : List Int × Int} (hp : p ∈ S) : ∀ k, k < 6 → 0 ≤ MB.at_ p.1 k ∧ MB.at_ p.1 k ≤ 4 := fun k hk => by
  obtain ⟨h1, h2, _⟩ := h.mem p hp
  have := h1.pos k hk; have := h2 k hk; have := okB_at hs.ok (k := k) (by rw [hs.len]; exact hk)
  omega
attribute [local go_sem] Oper.semAt_some
set_option maxRecDepth 100000 in
set_option maxHeartbeats 8000000 in
theorem steps_or (x0 x1 x2 x3 x4 x5 v s0 s1 s2 s3 s4 s5 : Int) (A : Option Addr) (c : Nat) (k : FT) (ok : Nat → Prop) (w : World) (hs4 : K4 [s0, s1, s2, s3, s4, s5]) (hkids : Kids w ok A c k) (hkl : k.len ≤ 2000000) (hmono : ∀ y ∈ k.f.roots, VV.Mono (VV.valN y))
    (IH : ∀ y : NT, y.n ∈ k.f.roots → ∀ (w' : World) (ok' : Nat → Prop), y.Ok w' ok' → Calls Try.prog 82 #[y.val, .agg #[.int .i64 s0, .int .i64 s1, .int .i64 s2, .int .i64 s3, .int .i64 s4, .int .i64 s5]] w' (GivesSteps [s0, s1, s2, s3, s4, s5] (VV.valN y.n) w')) :
    Calls Try.prog 82 #[.agg #[.int .i64 3, .int .i64 x0, .int .i64 x1, .int .i64 x2, .int .i64 x3, .int .i64 x4, .int .i64 x5, .int .i64 v, .slice A k.len c], .agg #[.int .i64 s0, .int .i64 s1, .int .i64 s2, .int .i64 s3, .int .i64 s4, .int .i64 s5]] w
      (GivesSteps [s0, s1, s2, s3, s4, s5] (VV.nodeV 3 [x0, x1, x2, x3, x4, x5] v (VV.valF k.f)) w) := by
  have hmf : ∀ (fn : Fn) (first cap : Array Value) (w : World), (Instr.makeFunc fn first cap).run Try.prog w = .ok (.func fn first cap) w := fun _ _ _ _ => rfl
  have HK := Lib.hid hkids.rest
  have HIH := Lib.hid IH
  have HMO := Lib.hid hmono
  have SIN := Lib.hid (show ∀ k, k < 6 → 0 ≤ MB.at_ [s0, s1, s2, s3, s4, s5] k ∧ MB.at_ [s0, s1, s2, s3, s4, s5] k ≤ 4 from fun k hk => okB_at hs4.ok (k := k) (by rw [hs4.len]; exact hk))
  clear IH hkids hmono
  go_enter Try.func82, Try.ntmps82
  go_upto_region 1 with (fail)
  have D0 := Lib.hid (below_two w (.cells #[.int .i64 3, .int .i64 x0, .int .i64 x1, .int .i64 x2, .int .i64 x3, .int .i64 x4, .int .i64 x5, .int .i64 v, .slice A k.len c] 28) (.cells #[.int .i64 s0, .int .i64 s1, .int .i64 s2, .int .i64 s3, .int .i64 s4, .int .i64 s5] 24))
  have E0 := Lib.hid (show B9 ((w.alloc (.cells #[.int .i64 3, .int .i64 x0, .int .i64 x1, .int .i64 x2, .int .i64 x3, .int .i64 x4, .int .i64 x5, .int .i64 v, .slice A k.len c] 28)).alloc (.cells #[.int .i64 s0, .int .i64 s1, .int .i64 s2, .int .i64 s3, .int .i64 s4, .int .i64 s5] 24)) w.heap.size (.int .i64 3) (.int .i64 x0) (.int .i64 x1) (.int .i64 x2) (.int .i64 x3) (.int .i64 x4) (.int .i64 x5) (.int .i64 v) (.slice A k.len c) from ((below_new (w.alloc (.cells #[.int .i64 3, .int .i64 x0, .int .i64 x1, .int .i64 x2, .int .i64 x3, .int .i64 x4, .int .i64 x5, .int .i64 v, .slice A k.len c] 28)) (.cells #[.int .i64 s0, .int .i64 s1, .int .i64 s2, .int .i64 s3, .int .i64 s4, .int .i64 s5] 24)).block w.heap.size (by simp)).trans (heap_new w (.cells #[.int .i64 3, .int .i64 x0, .int .i64 x1, .int .i64 x2, .int .i64 x3, .int .i64 x4, .int .i64 x5, .int .i64 v, .slice A k.len c] 28)))
  have S0 := Lib.hid (show BB ((w.alloc (.cells #[.int .i64 3, .int .i64 x0, .int .i64 x1, .int .i64 x2, .int .i64 x3, .int .i64 x4, .int .i64 x5, .int .i64 v, .slice A k.len c] 28)).alloc (.cells #[.int .i64 s0, .int .i64 s1, .int .i64 s2, .int .i64 s3, .int .i64 s4, .int .i64 s5] 24)) (w.heap.size + 1) 24 [s0, s1, s2, s3, s4, s5] from by
    have := BB.new (w.alloc (.cells #[.int .i64 3, .int .i64 x0, .int .i64 x1, .int .i64 x2, .int .i64 x3, .int .i64 x4, .int .i64 x5, .int .i64 v, .slice A k.len c] 28)) 24 s0 s1 s2 s3 s4 s5
    rwa [World.size_alloc] at this)
  generalize (w.alloc (.cells #[.int .i64 3, .int .i64 x0, .int .i64 x1, .int .i64 x2, .int .i64 x3, .int .i64 x4, .int .i64 x5, .int .i64 v, .slice A k.len c] 28)).alloc (.cells #[.int .i64 s0, .int .i64 s1, .int .i64 s2, .int .i64 s3, .int .i64 s4, .int .i64 s5] 24) = w1 at *
  have hmm := run_makeMap (P := Try.prog) 124 w1
  obtain ⟨w3, hrun, hown3, hg3⟩ := (World.ownsMap_made (H := Unit) w1 Try.prog 24 (plainElem Try.prog 2)).update bLaw bMap (by unfold maxLen; omega) key_z (plainElem_int bInt64 (wf_small (x := 0) (by omega) (by omega)))
  go_upto_region 2 with (fail)
  have hS1 := S0.out.lt
  have hE1 := E0.out.lt
  have hW2 : (w1.alloc (.map #[] 0)).heap.size = w1.heap.size + 1 := by simp
  have D3 := Lib.hid ((D0.out.alloc D0.out.size (.map #[] 0)).grown hg3 (by rw [hW2]; have := D0.out.size; omega) (fun k hk => by injection hk with hk; rw [← hk]; exact D0.out.size))
  have n2 := below_new w1 (.map #[] 0)
  have S3 := Lib.hid (show BB w3 (w.heap.size + 1) 24 [s0, s1, s2, s3, s4, s5] from ⟨((hg3.block (w.heap.size + 1) (by rw [hW2]; omega) (by simp; omega)).trans (n2.block _ hS1)).trans S0.out.1, S0.out.2⟩)
  have E3 := Lib.hid (show B9 w3 w.heap.size (.int .i64 3) (.int .i64 x0) (.int .i64 x1) (.int .i64 x2) (.int .i64 x3) (.int .i64 x4) (.int .i64 x5) (.int .i64 v) (.slice A k.len c) from ((hg3.block w.heap.size (by rw [hW2]; omega) (by simp; omega)).trans (n2.block _ hE1)).trans E0.out)
  have hsz3 : w1.heap.size < w3.heap.size := by have := hg3.size; rw [hW2] at this; omega
  have O3 := Lib.hid (show OwnV w3 w1.heap.size 1 VV.M0 from ⟨_, hown3, reads_m0⟩)
  have k4 := below_new w3 (.cells #[.map (some w1.heap.size)] 124)
  have F4 := Lib.hid (show Fr w w.heap.size (w.heap.size + 1) w1.heap.size w3.heap.size [s0, s1, s2, s3, s4, s5] VV.M0 (w3.alloc (.cells #[.map (some w1.heap.size)] 124)) from
    ⟨S3.out.keep k4 S3.out.lt, (cell_of_row _ _ 0 _ _ _ (heap_new w3 _)).trans rfl, by simp, (O3.out.kept (grown_of k4) (by simp)).small hs4 (m0_le hs4), D0.out.size, by omega, by omega, D3.out.trans (k4.mono D3.out.size)⟩)
  have E4 := Lib.hid (E3.out.keep k4)
  have hge : w.heap.size < w1.heap.size := hE1
  generalize w3.alloc (.cells #[.map (some w1.heap.size)] 124) = w4 at *
  generalize w3.heap.size = gm at *
  clear hrun hmm hown3 hg3 S0 E0 D0 n2 k4 D3 S3 E3 O3 hS1 hE1 hW2
  generalize w1.heap.size = g at *
  obtain ⟨e0, e1, e2, e3, e4, e5, e6, e7, e8⟩ := E4.out.cells
  have f1 := F4.out.cell
  go_wp2_with fail
  clear e0 e1 e2 e3 e4 e5 e6 e7 e8 f1 E4
  have G0 := Lib.hid (VV.good0 hs4.bu)
  go_loopw [67] (fun t wr => ∃ (i : Nat) (rs : FT) (fs : List (List Int → Int)) (f : List Int → Int) (M : VV.Vm) (dn : List ME.Nd), i ≤ k.len ∧ t = .int .i64 i ∧ Rest w ok A i rs k.len ∧ k.f.roots = dn ++ rs.f.roots ∧ VV.valF k.f = fs ++ VV.valF rs.f ∧ VV.GoodM [s0, s1, s2, s3, s4, s5] M f ∧ VV.Fits [s0, s1, s2, s3, s4, s5] f (VV.argsV 3 fs) ∧ Fr w w.heap.size (w.heap.size + 1) g gm [s0, s1, s2, s3, s4, s5] M wr) (fun t _ => k.len - (intOf t).toNat)
  case atStart => exact ⟨0, k, [], fun _ => 0, VV.M0, [], Nat.zero_le _, rfl, HK.out, rfl, rfl, G0.out, fun x _ _ => rfl, F4.out⟩
  case round =>
    obtain ⟨i, rs, fs, f, M, dn, hi, rfl, hrest, hroots, hval, hgm, hfit, hfr⟩ := hrel
    have F := Lib.hid hfr
    have R := Lib.hid hrest
    have RT := Lib.hid hroots
    have VL := Lib.hid hval
    have G := Lib.hid hgm
    have FT_ := Lib.hid hfit
    clear hfr hrest hroots hval hgm hfit F4 G0 HK
    by_cases hlt : i < k.len
    · have hRk := R.out.keep (w' := wr) (ok' := ok) (fun k _ hk => F.out.below.block k hk) F.out.below.size (fun _ h _ => h)
      obtain ⟨ad, o', y0, y1, y2, y3, y4, y5, v', A', c', k', r, rfl, rfl, hyok, hrest', hadl, _, a0, a1, a2, a3, a4, a5, a6, a7, a8⟩ := hRk.open_ hlt
      have YO := Lib.hid hyok
      have R2 : Hid (Rest w ok (some ad) (i + 1) r k.len) := Lib.hid (by
        obtain ⟨ad2, o2, _, _, _, _, _, _, _, _, _, _, r2, _, hcons, _, hr2, _⟩ := R.out.open_ hlt
        simp only [FT.cons.injEq] at hcons
        obtain ⟨_, _, _, _, _, _, rfl⟩ := hcons
        exact hr2)
      clear hRk hyok hrest' R
      go_upto_region 20 with (fail)
      have nb := below_new wr (.cells #[.int .i64 o', .int .i64 y0, .int .i64 y1, .int .i64 y2, .int .i64 y3, .int .i64 y4, .int .i64 y5, .int .i64 v', .slice A' k'.len c'] 28)
      have X1 := Lib.hid (show B9 (wr.alloc (.cells #[.int .i64 o', .int .i64 y0, .int .i64 y1, .int .i64 y2, .int .i64 y3, .int .i64 y4, .int .i64 y5, .int .i64 v', .slice A' k'.len c'] 28)) wr.heap.size (.int .i64 o') (.int .i64 y0) (.int .i64 y1) (.int .i64 y2) (.int .i64 y3) (.int .i64 y4) (.int .i64 y5) (.int .i64 v') (.slice A' k'.len c') from heap_new wr (.cells #[.int .i64 o', .int .i64 y0, .int .i64 y1, .int .i64 y2, .int .i64 y3, .int .i64 y4, .int .i64 y5, .int .i64 v', .slice A' k'.len c'] 28))
      have F1 := Lib.hid (F.out.keep nb)
      have Y1 := Lib.hid (YO.out.below nb)
      clear a0 a1 a2 a3 a4 a5 a6 a7 a8 hadl F YO nb
      generalize wr.alloc (.cells #[.int .i64 o', .int .i64 y0, .int .i64 y1, .int .i64 y2, .int .i64 y3, .int .i64 y4, .int .i64 y5, .int .i64 v', .slice A' k'.len c'] 28) = w5 at *
      generalize wr.heap.size = ge at *
      have f5 := F1.out.cell
      go_wp2_with fail
      refine (listOf_any g 15625 _ w5 F1.out.own (by omega)).mono ?_
      rintro e9 w6 ⟨A0, n0, c0, B, rfl, hst0, hent, hb5⟩
      have F2 := Lib.hid (F1.out.keep hb5)
      have X2 := Lib.hid (X1.out.keep hb5)
      have Y2 := Lib.hid (Y1.out.below hb5)
      have TB2 := Lib.hid hst0
      have GB := Lib.hid (G.out.entries hent)
      have BL := Lib.hid hst0.len
      have hfew0 := hst0.few
      clear f5 F1 X1 Y1 hst0 hent hb5
      obtain ⟨b0, b1, b2, b3, b4, b5, b6, b7, b8⟩ := X2.out.cells
      obtain ⟨r0, r1, r3, r4, r5, r6⟩ := cells6 F2.out.sup
      have hin : NT.n ⟨o', [y0, y1, y2, y3, y4, y5], v', A', c', k'⟩ ∈ k.f.roots := by rw [RT.out]; exact List.mem_append_right _ List.mem_cons_self
      have HC := Lib.hid (HIH.out ⟨o', [y0, y1, y2, y3, y4, y5], v', A', c', k'⟩ hin w6 ok Y2.out)
      have HMG := Lib.hid (HMO.out _ hin)
      rw [NT.val_lit] at HC
      clear hin
      generalize hgn : VV.valN (NT.n ⟨o', [y0, y1, y2, y3, y4, y5], v', A', c', k'⟩) = gn at HC HMG
      have GN := Lib.hid hgn
      clear hgn
      go_wp2_with fail
      refine HC.out.mono ?_
      rintro e9 w7 ⟨A1, n1, c1, S, rfl, hst, hgood, hb6⟩
      have F6 := Lib.hid (F2.out.keep hb6)
      have TB6 := Lib.hid (TB2.out.keep hb6)
      have T6 := Lib.hid hst
      have GD := Lib.hid hgood
      have SL := Lib.hid hst.len
      have hfew := hst.few
      clear b0 b1 b2 b3 b4 b5 b6 b7 b8 r0 r1 r3 r4 r5 r6 F2 Y2 X2 TB2 HC hst hgood hb6
      go_wp2_with fail
      go_loopw [77] (fun t wr => ∃ j : Nat, j ≤ n1 ∧ t = .int .i64 j ∧ StW wr A1 n1 c1 S ∧ StW wr A0 n0 c0 B ∧ Fr w w.heap.size (w.heap.size + 1) g gm [s0, s1, s2, s3, s4, s5] (VV.upsM [s0, s1, s2, s3, s4, s5] (VV.orL [s0, s1, s2, s3, s4, s5] (S.take j) B) M) wr) (fun t _ => n1 - (intOf t).toNat)
      case atStart => exact ⟨0, Nat.zero_le _, rfl, T6.out, TB6.out, F6.out⟩
      case round =>
        obtain ⟨j, hj, rfl, hst, hst0, hfr⟩ := hrel
        have F := Lib.hid hfr
        have T := Lib.hid hst
        have TB := Lib.hid hst0
        clear hst hst0 hfr T6 TB6 F6
        by_cases hjl : j < n1
        · obtain ⟨az, z0, z1, z2, z3, z4, z5, q, rfl, hrow, hazl, c0', c1', c2, c3, c4, c5, c6⟩ := T.out.at_ hjl
          have hmem := List.mem_of_getElem? hrow
          have GL := good_len GD.out hmem
          have ZIN := Lib.hid (good_in hs4 GD.out hmem)
          have HSN := Lib.hid (show VV.orL [s0, s1, s2, s3, s4, s5] (S.take (j + 1)) B = VV.orL [s0, s1, s2, s3, s4, s5] (S.take j) B ++ orOne [s0, s1, s2, s3, s4, s5] ([z0, z1, z2, z3, z4, z5], q) B by rw [take_snoc' hrow, orL_snoc])
          have hgz : wr.heap.size ≠ g := by have := F.out.own.lt; omega
          clear hrow hmem
          go_upto_region 24 with (fail)
          have nb := below_new wr (.cells #[.int .i64 z0, .int .i64 z1, .int .i64 z2, .int .i64 z3, .int .i64 z4, .int .i64 z5, .int .i64 q] 127)
          have hh := heap_new wr (.cells #[.int .i64 z0, .int .i64 z1, .int .i64 z2, .int .i64 z3, .int .i64 z4, .int .i64 z5, .int .i64 q] 127)
          have Z7 := Lib.hid hh
          have hz7 : wr.heap.size < (wr.alloc (.cells #[.int .i64 z0, .int .i64 z1, .int .i64 z2, .int .i64 z3, .int .i64 z4, .int .i64 z5, .int .i64 q] 127)).heap.size := by simp
          have F7 := Lib.hid (F.out.keep nb)
          have T7 := Lib.hid (T.out.keep nb)
          have TB7 := Lib.hid (TB.out.keep nb)
          clear c0' c1' c2 c3 c4 c5 c6 hazl F T TB nb hh
          generalize wr.alloc (.cells #[.int .i64 z0, .int .i64 z1, .int .i64 z2, .int .i64 z3, .int .i64 z4, .int .i64 z5, .int .i64 q] 127) = w8 at *
          generalize wr.heap.size = gz at *
          have HJ := Lib.hid (sub_any s0 s1 s2 s3 s4 s5 z0 z1 z2 z3 z4 z5 w8)
          rw [subB_small SIN.out ZIN.out] at HJ
          obtain ⟨r0, r1, r2, r3, r4, r5, hr6⟩ := six (xs := VV.sub [s0, s1, s2, s3, s4, s5] [z0, z1, z2, z3, z4, z5]) rfl
          rw [hr6, aggB_lit] at HJ
          have HR6 := Lib.hid hr6
          clear hr6
          have d0 := (cell_of_row _ _ 0 _ _ _ Z7.out).trans rfl
          have d1 := (cell_of_row _ _ 1 _ _ _ Z7.out).trans rfl
          have d2 := (cell_of_row _ _ 2 _ _ _ Z7.out).trans rfl
          have d3 := (cell_of_row _ _ 3 _ _ _ Z7.out).trans rfl
          have d4 := (cell_of_row _ _ 4 _ _ _ Z7.out).trans rfl
          have d5 := (cell_of_row _ _ 5 _ _ _ Z7.out).trans rfl
          obtain ⟨p0, p1, p3, p4, p5, p6⟩ := cells6 F7.out.sup
          go_wp2_with fail
          refine HJ.out.mono ?_
          rintro e9 w9 ⟨rfl, hb9⟩
          have F8 := Lib.hid (F7.out.keep hb9)
          have T8 := Lib.hid (T7.out.keep hb9)
          have TB8 := Lib.hid (TB7.out.keep hb9)
          have Z8 := Lib.hid ((hb9.block gz hz7).trans Z7.out)
          have hz8 : gz < w9.heap.size := Nat.lt_of_lt_of_le hz7 hb9.size
          clear d0 d1 d2 d3 d4 d5 p0 p1 p3 p4 p5 p6 F7 T7 TB7 Z7 hz7 hb9 HJ
          go_upto_region 25 with (fail)
          have nb := below_new w9 (.cells #[.int .i64 r0, .int .i64 r1, .int .i64 r2, .int .i64 r3, .int .i64 r4, .int .i64 r5] 24)
          have RR9 := Lib.hid (BB.new w9 24 r0 r1 r2 r3 r4 r5)
          have hgr : w9.heap.size ≠ g := by have := F8.out.own.lt; omega
          have F9 := Lib.hid (F8.out.keep nb)
          have T9 := Lib.hid (T8.out.keep nb)
          have TB9 := Lib.hid (TB8.out.keep nb)
          have Z9 := Lib.hid ((nb.block gz hz8).trans Z8.out)
          have hz9 : gz < (w9.alloc (.cells #[.int .i64 r0, .int .i64 r1, .int .i64 r2, .int .i64 r3, .int .i64 r4, .int .i64 r5] 24)).heap.size := Nat.lt_of_lt_of_le hz8 nb.size
          clear F8 T8 TB8 Z8 hz8 nb
          generalize w9.alloc (.cells #[.int .i64 r0, .int .i64 r1, .int .i64 r2, .int .i64 r3, .int .i64 r4, .int .i64 r5] 24) = w10 at *
          generalize w9.heap.size = gr at *
          go_wp2_with fail
          go_loopw [87] (fun t wr => ∃ l : Nat, l ≤ n0 ∧ t = .int .i64 l ∧ StW wr (some az) n1 c1 S ∧ StW wr A0 n0 c0 B ∧ wr.heap[gz]? = some (.cells #[.int .i64 z0, .int .i64 z1, .int .i64 z2, .int .i64 z3, .int .i64 z4, .int .i64 z5, .int .i64 q] 127 (0, 0)) ∧ gz < wr.heap.size ∧ BB wr gr 24 [r0, r1, r2, r3, r4, r5] ∧ Fr w w.heap.size (w.heap.size + 1) g gm [s0, s1, s2, s3, s4, s5] (VV.upsM [s0, s1, s2, s3, s4, s5] (VV.orL [s0, s1, s2, s3, s4, s5] (S.take j) B ++ orOne [s0, s1, s2, s3, s4, s5] ([z0, z1, z2, z3, z4, z5], q) (B.take l)) M) wr) (fun t _ => n0 - (intOf t).toNat)
          case atStart => exact ⟨0, Nat.zero_le _, rfl, T9.out, TB9.out, Z9.out, hz9, RR9.out, by rw [show orOne [s0, s1, s2, s3, s4, s5] ([z0, z1, z2, z3, z4, z5], q) (B.take 0) = [] from rfl, List.append_nil]; exact F9.out⟩
          case round =>
            obtain ⟨l, hl, rfl, hst, hst0, hZ, hz, hR, hfr⟩ := hrel
            have F := Lib.hid hfr
            have T := Lib.hid hst
            have TB := Lib.hid hst0
            have Z := Lib.hid hZ
            have RR := Lib.hid hR
            clear hst hst0 hfr hZ hR T9 TB9 F9 Z9 RR9 hz9
            by_cases hll : l < n0
            · obtain ⟨au, u0, u1, u2, u3, u4, u5, p, rfl, hrow, hazl, c0', c1', c2, c3, c4, c5, c6⟩ := TB.out.at_ hll
              have hmem := List.mem_of_getElem? hrow
              have GU := good_len GB.out hmem
              have UIN := Lib.hid (good_in hs4 GB.out hmem)
              have HY := Lib.hid (fun h => orOne_yes (s := [s0, s1, s2, s3, s4, s5]) (p := ([z0, z1, z2, z3, z4, z5], q)) hrow h)
              have HNo := Lib.hid (fun h => orOne_no (s := [s0, s1, s2, s3, s4, s5]) (p := ([z0, z1, z2, z3, z4, z5], q)) hrow h)
              have HWi := Lib.hid (fun w => within_any u0 u1 u2 u3 u4 u5 r0 r1 r2 r3 r4 r5 w)
              have hgu : wr.heap.size ≠ g := by have := F.out.own.lt; omega
              clear hrow hmem
              rw [HR6.out] at HY HNo
              go_upto_region 28 with (fail)
              have nb := below_new wr (.cells #[.int .i64 u0, .int .i64 u1, .int .i64 u2, .int .i64 u3, .int .i64 u4, .int .i64 u5, .int .i64 p] 127)
              have hh := heap_new wr (.cells #[.int .i64 u0, .int .i64 u1, .int .i64 u2, .int .i64 u3, .int .i64 u4, .int .i64 u5, .int .i64 p] 127)
              have U7 := Lib.hid hh
              have hu7 : wr.heap.size < (wr.alloc (.cells #[.int .i64 u0, .int .i64 u1, .int .i64 u2, .int .i64 u3, .int .i64 u4, .int .i64 u5, .int .i64 p] 127)).heap.size := by simp
              have F7 := Lib.hid (F.out.keep nb)
              have T7 := Lib.hid (T.out.keep nb)
              have TB7 := Lib.hid (TB.out.keep nb)
              have Z7 := Lib.hid ((nb.block gz hz).trans Z.out)
              have hz7 : gz < (wr.alloc (.cells #[.int .i64 u0, .int .i64 u1, .int .i64 u2, .int .i64 u3, .int .i64 u4, .int .i64 u5, .int .i64 p] 127)).heap.size := Nat.lt_of_lt_of_le hz nb.size
              have RR7 := Lib.hid (RR.out.keep nb RR.out.lt)
              clear c0' c1' c2 c3 c4 c5 c6 hazl F T TB Z RR hz nb hh
              generalize wr.alloc (.cells #[.int .i64 u0, .int .i64 u1, .int .i64 u2, .int .i64 u3, .int .i64 u4, .int .i64 u5, .int .i64 p] 127) = w11 at *
              generalize wr.heap.size = gu at *
              have d0 := (cell_of_row _ _ 0 _ _ _ U7.out).trans rfl
              have d1 := (cell_of_row _ _ 1 _ _ _ U7.out).trans rfl
              have d2 := (cell_of_row _ _ 2 _ _ _ U7.out).trans rfl
              have d3 := (cell_of_row _ _ 3 _ _ _ U7.out).trans rfl
              have d4 := (cell_of_row _ _ 4 _ _ _ U7.out).trans rfl
              have d5 := (cell_of_row _ _ 5 _ _ _ U7.out).trans rfl
              obtain ⟨p0, p1, p3, p4, p5, p6⟩ := cells6 RR7.out
              by_cases h : MB.withinB [u0, u1, u2, u3, u4, u5] [r0, r1, r2, r3, r4, r5] 6 = true
              · rw [h] at HWi
                have HU := Lib.hid (show VV.upsM [s0, s1, s2, s3, s4, s5] (VV.orL [s0, s1, s2, s3, s4, s5] (S.take j) B ++ orOne [s0, s1, s2, s3, s4, s5] ([z0, z1, z2, z3, z4, z5], q) (B.take (l + 1))) M = VV.upM [s0, s1, s2, s3, s4, s5] (VV.upsM [s0, s1, s2, s3, s4, s5] (VV.orL [s0, s1, s2, s3, s4, s5] (S.take j) B ++ orOne [s0, s1, s2, s3, s4, s5] ([z0, z1, z2, z3, z4, z5], q) (B.take l)) M) (VV.add [z0, z1, z2, z3, z4, z5] [u0, u1, u2, u3, u4, u5]) (q + p) by rw [HY.out h, ← List.append_assoc, upsM_snoc])
                have HG := Lib.hid (G.out.raises (S := VV.orL [s0, s1, s2, s3, s4, s5] (S.take j) B ++ orOne [s0, s1, s2, s3, s4, s5] ([z0, z1, z2, z3, z4, z5], q) (B.take (l + 1))) (orAll_ok (fun x hx => ⟨(good_len GD.out (List.mem_of_mem_take hx)).1, (good_len GD.out (List.mem_of_mem_take hx)).2.1⟩) ⟨GL.1, GL.2.1⟩ (fun x hx => ⟨(good_len GB.out hx).1, (good_len GB.out hx).2.1⟩) (l + 1)))
                go_wp2_with fail
                refine (HWi.out _).mono ?_
                rintro e9 w8 ⟨rfl, hb8⟩
                have F8 := Lib.hid (F7.out.keep hb8)
                have T8 := Lib.hid (T7.out.keep hb8)
                have TB8 := Lib.hid (TB7.out.keep hb8)
                have Z8 := Lib.hid ((hb8.block gz hz7).trans Z7.out)
                have hz8 : gz < w8.heap.size := Nat.lt_of_lt_of_le hz7 hb8.size
                have U8 := Lib.hid ((hb8.block gu hu7).trans U7.out)
                have hu8 : gu < w8.heap.size := Nat.lt_of_lt_of_le hu7 hb8.size
                have RR8 := Lib.hid (RR7.out.keep hb8 RR7.out.lt)
                clear d0 d1 d2 d3 d4 d5 p0 p1 p3 p4 p5 p6 F7 T7 TB7 Z7 U7 RR7 hz7 hu7 hb8 HWi HY HNo
                obtain ⟨t0, t1, t2, t3, t4, t5, hj6⟩ := six (xs := VV.add [z0, z1, z2, z3, z4, z5] [u0, u1, u2, u3, u4, u5]) rfl
                have HJ := Lib.hid (fun w => add_any z0 z1 z2 z3 z4 z5 u0 u1 u2 u3 u4 u5 w)
                simp only [addB_small ZIN.out UIN.out, hj6, aggB_lit] at HJ
                have hbj : VV.Bu (VV.add [z0, z1, z2, z3, z4, z5] [u0, u1, u2, u3, u4, u5]) := GL.1.add GU.1
                rw [hj6] at HU hbj
                have HBJ := Lib.hid hbj
                have hgl : 0 ≤ q ∧ q ≤ 1000000 ∧ 0 ≤ p ∧ p ≤ 1000000 := ⟨GL.2.1, GL.2.2, GU.2.1, GU.2.2⟩
                have HW7 : Hid (IntKind.i64.wrap (q + p) = q + p) := Lib.hid (by first | exact Go.i64_in _ (by omega) | exact IntWalk.i64_in _ (by omega) | exact i64_in _ (by omega) | (simp only [IntKind.wrap, IntKind.bits, IntKind.signed]; simp; omega))
                have HGL := Lib.hid hgl
                clear hj6 hbj GU hgl h
                go_upto_region 29 with (fail)
                have F9 := Lib.hid (F8.out.keep (below_drawn w8))
                have T9 := Lib.hid (T8.out.keep (below_drawn w8))
                have TB9 := Lib.hid (TB8.out.keep (below_drawn w8))
                have Z9 := Lib.hid (((below_drawn w8).block gz hz8).trans Z8.out)
                have hz9 : gz < w8.drew.heap.size := hz8
                have U9 := Lib.hid (((below_drawn w8).block gu hu8).trans U8.out)
                have hu9 : gu < w8.drew.heap.size := hu8
                have RR9 := Lib.hid (RR8.out.keep (below_drawn w8) RR8.out.lt)
                clear F8 T8 TB8 Z8 hz8 U8 hu8 RR8
                refine wp_region_held_drew (S := fun w' => w'.heap[gz]? = some (.cells #[.int .i64 z0, .int .i64 z1, .int .i64 z2, .int .i64 z3, .int .i64 z4, .int .i64 z5, .int .i64 q] 127 (0, 0)) ∧ w'.heap[gu]? = some (.cells #[.int .i64 u0, .int .i64 u1, .int .i64 u2, .int .i64 u3, .int .i64 u4, .int .i64 u5, .int .i64 p] 127 (0, 0))) (by kernel_rfl) ⟨Z9.out, U9.out⟩ (fun hHeld => ?_)
                generalize w8.drew = Y at *
                refine wpAnyH_take (i := 0) (oi := { dst := some 95, op := Op.move (Operand.tmp 6), type := 125, pos := "steps.go:52", after := #[], guard := none }) (v := ?_) rfl (by kernel_rfl) (by kernel_rfl) (by kernel_rfl) (fun _ _ _ h => h) (Or.inl ⟨by rfl, ?_⟩) (by assumption) ?_
                rotate_left
                · intro w hSw; (try dsimp only at hSw); obtain ⟨hZ, hU⟩ := hSw; have d0 := (cell_of_row _ _ 0 _ _ _ hZ).trans rfl; have d1 := (cell_of_row _ _ 1 _ _ _ hZ).trans rfl; have d2 := (cell_of_row _ _ 2 _ _ _ hZ).trans rfl; have d3 := (cell_of_row _ _ 3 _ _ _ hZ).trans rfl; have d4 := (cell_of_row _ _ 4 _ _ _ hZ).trans rfl; have d5 := (cell_of_row _ _ 5 _ _ _ hZ).trans rfl; have d6 := (cell_of_row _ _ 6 _ _ _ hZ).trans rfl; have k0 := (cell_of_row _ _ 0 _ _ _ hU).trans rfl; have k1 := (cell_of_row _ _ 1 _ _ _ hU).trans rfl; have k2 := (cell_of_row _ _ 2 _ _ _ hU).trans rfl; have k3 := (cell_of_row _ _ 3 _ _ _ hU).trans rfl; have k4 := (cell_of_row _ _ 4 _ _ _ hU).trans rfl; have k5 := (cell_of_row _ _ 5 _ _ _ hU).trans rfl; have k6 := (cell_of_row _ _ 6 _ _ _ hU).trans rfl; go_simp; try with_reducible rfl
                (try simp only [Act.put, List.setIfInBounds_toArray, List.set_cons_zero, List.set_cons_succ])
                refine wpAnyH_take (i := 1) (oi := { dst := some 96, op := Op.fieldAddr 127 (Operand.tmp 15) 0, type := 0, pos := "steps.go:52", after := #[], guard := none }) (v := ?_) rfl (by kernel_rfl) (by kernel_rfl) (by kernel_rfl) (fun _ _ _ h => h) (Or.inl ⟨by rfl, ?_⟩) (by assumption) ?_
                rotate_left
                · intro w hSw; (try dsimp only at hSw); obtain ⟨hZ, hU⟩ := hSw; have d0 := (cell_of_row _ _ 0 _ _ _ hZ).trans rfl; have d1 := (cell_of_row _ _ 1 _ _ _ hZ).trans rfl; have d2 := (cell_of_row _ _ 2 _ _ _ hZ).trans rfl; have d3 := (cell_of_row _ _ 3 _ _ _ hZ).trans rfl; have d4 := (cell_of_row _ _ 4 _ _ _ hZ).trans rfl; have d5 := (cell_of_row _ _ 5 _ _ _ hZ).trans rfl; have d6 := (cell_of_row _ _ 6 _ _ _ hZ).trans rfl; have k0 := (cell_of_row _ _ 0 _ _ _ hU).trans rfl; have k1 := (cell_of_row _ _ 1 _ _ _ hU).trans rfl; have k2 := (cell_of_row _ _ 2 _ _ _ hU).trans rfl; have k3 := (cell_of_row _ _ 3 _ _ _ hU).trans rfl; have k4 := (cell_of_row _ _ 4 _ _ _ hU).trans rfl; have k5 := (cell_of_row _ _ 5 _ _ _ hU).trans rfl; have k6 := (cell_of_row _ _ 6 _ _ _ hU).trans rfl; go_simp; try with_reducible rfl
                (try simp only [Act.put, List.setIfInBounds_toArray, List.set_cons_zero, List.set_cons_succ])
                refine wpAnyH_take (i := 2) (oi := { dst := some 97, op := Op.load 24 (Operand.tmp 96), type := 24, pos := "steps.go:52", after := #[{ on := 1, ground := Ground.data }], guard := none }) (v := ?_) rfl (by kernel_rfl) (by kernel_rfl) (by kernel_rfl) (fun _ _ _ h => h) (Or.inl ⟨by rfl, ?_⟩) (by assumption) ?_
                rotate_left
                · intro w hSw; (try dsimp only at hSw); obtain ⟨hZ, hU⟩ := hSw; have d0 := (cell_of_row _ _ 0 _ _ _ hZ).trans rfl; have d1 := (cell_of_row _ _ 1 _ _ _ hZ).trans rfl; have d2 := (cell_of_row _ _ 2 _ _ _ hZ).trans rfl; have d3 := (cell_of_row _ _ 3 _ _ _ hZ).trans rfl; have d4 := (cell_of_row _ _ 4 _ _ _ hZ).trans rfl; have d5 := (cell_of_row _ _ 5 _ _ _ hZ).trans rfl; have d6 := (cell_of_row _ _ 6 _ _ _ hZ).trans rfl; have k0 := (cell_of_row _ _ 0 _ _ _ hU).trans rfl; have k1 := (cell_of_row _ _ 1 _ _ _ hU).trans rfl; have k2 := (cell_of_row _ _ 2 _ _ _ hU).trans rfl; have k3 := (cell_of_row _ _ 3 _ _ _ hU).trans rfl; have k4 := (cell_of_row _ _ 4 _ _ _ hU).trans rfl; have k5 := (cell_of_row _ _ 5 _ _ _ hU).trans rfl; have k6 := (cell_of_row _ _ 6 _ _ _ hU).trans rfl; go_simp; try with_reducible rfl
                (try simp only [Act.put, List.setIfInBounds_toArray, List.set_cons_zero, List.set_cons_succ])
                refine wpAnyH_take (i := 3) (oi := { dst := some 98, op := Op.fieldAddr 127 (Operand.tmp 18) 0, type := 0, pos := "steps.go:52", after := #[], guard := none }) (v := ?_) rfl (by kernel_rfl) (by kernel_rfl) (by kernel_rfl) (fun _ _ _ h => h) (Or.inl ⟨by rfl, ?_⟩) (by assumption) ?_
                rotate_left
                · intro w hSw; (try dsimp only at hSw); obtain ⟨hZ, hU⟩ := hSw; have d0 := (cell_of_row _ _ 0 _ _ _ hZ).trans rfl; have d1 := (cell_of_row _ _ 1 _ _ _ hZ).trans rfl; have d2 := (cell_of_row _ _ 2 _ _ _ hZ).trans rfl; have d3 := (cell_of_row _ _ 3 _ _ _ hZ).trans rfl; have d4 := (cell_of_row _ _ 4 _ _ _ hZ).trans rfl; have d5 := (cell_of_row _ _ 5 _ _ _ hZ).trans rfl; have d6 := (cell_of_row _ _ 6 _ _ _ hZ).trans rfl; have k0 := (cell_of_row _ _ 0 _ _ _ hU).trans rfl; have k1 := (cell_of_row _ _ 1 _ _ _ hU).trans rfl; have k2 := (cell_of_row _ _ 2 _ _ _ hU).trans rfl; have k3 := (cell_of_row _ _ 3 _ _ _ hU).trans rfl; have k4 := (cell_of_row _ _ 4 _ _ _ hU).trans rfl; have k5 := (cell_of_row _ _ 5 _ _ _ hU).trans rfl; have k6 := (cell_of_row _ _ 6 _ _ _ hU).trans rfl; go_simp; try with_reducible rfl
                (try simp only [Act.put, List.setIfInBounds_toArray, List.set_cons_zero, List.set_cons_succ])
                refine wpAnyH_take (i := 4) (oi := { dst := some 99, op := Op.load 24 (Operand.tmp 98), type := 24, pos := "steps.go:52", after := #[{ on := 3, ground := Ground.data }], guard := none }) (v := ?_) rfl (by kernel_rfl) (by kernel_rfl) (by kernel_rfl) (fun _ _ _ h => h) (Or.inl ⟨by rfl, ?_⟩) (by assumption) ?_
                rotate_left
                · intro w hSw; (try dsimp only at hSw); obtain ⟨hZ, hU⟩ := hSw; have d0 := (cell_of_row _ _ 0 _ _ _ hZ).trans rfl; have d1 := (cell_of_row _ _ 1 _ _ _ hZ).trans rfl; have d2 := (cell_of_row _ _ 2 _ _ _ hZ).trans rfl; have d3 := (cell_of_row _ _ 3 _ _ _ hZ).trans rfl; have d4 := (cell_of_row _ _ 4 _ _ _ hZ).trans rfl; have d5 := (cell_of_row _ _ 5 _ _ _ hZ).trans rfl; have d6 := (cell_of_row _ _ 6 _ _ _ hZ).trans rfl; have k0 := (cell_of_row _ _ 0 _ _ _ hU).trans rfl; have k1 := (cell_of_row _ _ 1 _ _ _ hU).trans rfl; have k2 := (cell_of_row _ _ 2 _ _ _ hU).trans rfl; have k3 := (cell_of_row _ _ 3 _ _ _ hU).trans rfl; have k4 := (cell_of_row _ _ 4 _ _ _ hU).trans rfl; have k5 := (cell_of_row _ _ 5 _ _ _ hU).trans rfl; have k6 := (cell_of_row _ _ 6 _ _ _ hU).trans rfl; go_simp; try with_reducible rfl
                (try simp only [Act.put, List.setIfInBounds_toArray, List.set_cons_zero, List.set_cons_succ])
                refine wpAnyH_take (i := 6) (oi := { dst := some 101, op := Op.fieldAddr 127 (Operand.tmp 15) 1, type := 0, pos := "steps.go:52", after := #[], guard := none }) (v := ?_) rfl (by kernel_rfl) (by kernel_rfl) (by kernel_rfl) (fun _ _ _ h => h) (Or.inl ⟨by rfl, ?_⟩) (by assumption) ?_
                rotate_left
                · intro w hSw; (try dsimp only at hSw); obtain ⟨hZ, hU⟩ := hSw; have d0 := (cell_of_row _ _ 0 _ _ _ hZ).trans rfl; have d1 := (cell_of_row _ _ 1 _ _ _ hZ).trans rfl; have d2 := (cell_of_row _ _ 2 _ _ _ hZ).trans rfl; have d3 := (cell_of_row _ _ 3 _ _ _ hZ).trans rfl; have d4 := (cell_of_row _ _ 4 _ _ _ hZ).trans rfl; have d5 := (cell_of_row _ _ 5 _ _ _ hZ).trans rfl; have d6 := (cell_of_row _ _ 6 _ _ _ hZ).trans rfl; have k0 := (cell_of_row _ _ 0 _ _ _ hU).trans rfl; have k1 := (cell_of_row _ _ 1 _ _ _ hU).trans rfl; have k2 := (cell_of_row _ _ 2 _ _ _ hU).trans rfl; have k3 := (cell_of_row _ _ 3 _ _ _ hU).trans rfl; have k4 := (cell_of_row _ _ 4 _ _ _ hU).trans rfl; have k5 := (cell_of_row _ _ 5 _ _ _ hU).trans rfl; have k6 := (cell_of_row _ _ 6 _ _ _ hU).trans rfl; go_simp; try with_reducible rfl
                (try simp only [Act.put, List.setIfInBounds_toArray, List.set_cons_zero, List.set_cons_succ])
                refine wpAnyH_take (i := 7) (oi := { dst := some 102, op := Op.load 2 (Operand.tmp 101), type := 2, pos := "steps.go:52", after := #[{ on := 6, ground := Ground.data }], guard := none }) (v := ?_) rfl (by kernel_rfl) (by kernel_rfl) (by kernel_rfl) (fun _ _ _ h => h) (Or.inl ⟨by rfl, ?_⟩) (by assumption) ?_
                rotate_left
                · intro w hSw; (try dsimp only at hSw); obtain ⟨hZ, hU⟩ := hSw; have d0 := (cell_of_row _ _ 0 _ _ _ hZ).trans rfl; have d1 := (cell_of_row _ _ 1 _ _ _ hZ).trans rfl; have d2 := (cell_of_row _ _ 2 _ _ _ hZ).trans rfl; have d3 := (cell_of_row _ _ 3 _ _ _ hZ).trans rfl; have d4 := (cell_of_row _ _ 4 _ _ _ hZ).trans rfl; have d5 := (cell_of_row _ _ 5 _ _ _ hZ).trans rfl; have d6 := (cell_of_row _ _ 6 _ _ _ hZ).trans rfl; have k0 := (cell_of_row _ _ 0 _ _ _ hU).trans rfl; have k1 := (cell_of_row _ _ 1 _ _ _ hU).trans rfl; have k2 := (cell_of_row _ _ 2 _ _ _ hU).trans rfl; have k3 := (cell_of_row _ _ 3 _ _ _ hU).trans rfl; have k4 := (cell_of_row _ _ 4 _ _ _ hU).trans rfl; have k5 := (cell_of_row _ _ 5 _ _ _ hU).trans rfl; have k6 := (cell_of_row _ _ 6 _ _ _ hU).trans rfl; go_simp; try with_reducible rfl
                (try simp only [Act.put, List.setIfInBounds_toArray, List.set_cons_zero, List.set_cons_succ])
                refine wpAnyH_take (i := 8) (oi := { dst := some 103, op := Op.fieldAddr 127 (Operand.tmp 18) 1, type := 0, pos := "steps.go:52", after := #[], guard := none }) (v := ?_) rfl (by kernel_rfl) (by kernel_rfl) (by kernel_rfl) (fun _ _ _ h => h) (Or.inl ⟨by rfl, ?_⟩) (by assumption) ?_
                rotate_left
                · intro w hSw; (try dsimp only at hSw); obtain ⟨hZ, hU⟩ := hSw; have d0 := (cell_of_row _ _ 0 _ _ _ hZ).trans rfl; have d1 := (cell_of_row _ _ 1 _ _ _ hZ).trans rfl; have d2 := (cell_of_row _ _ 2 _ _ _ hZ).trans rfl; have d3 := (cell_of_row _ _ 3 _ _ _ hZ).trans rfl; have d4 := (cell_of_row _ _ 4 _ _ _ hZ).trans rfl; have d5 := (cell_of_row _ _ 5 _ _ _ hZ).trans rfl; have d6 := (cell_of_row _ _ 6 _ _ _ hZ).trans rfl; have k0 := (cell_of_row _ _ 0 _ _ _ hU).trans rfl; have k1 := (cell_of_row _ _ 1 _ _ _ hU).trans rfl; have k2 := (cell_of_row _ _ 2 _ _ _ hU).trans rfl; have k3 := (cell_of_row _ _ 3 _ _ _ hU).trans rfl; have k4 := (cell_of_row _ _ 4 _ _ _ hU).trans rfl; have k5 := (cell_of_row _ _ 5 _ _ _ hU).trans rfl; have k6 := (cell_of_row _ _ 6 _ _ _ hU).trans rfl; go_simp; try with_reducible rfl
                (try simp only [Act.put, List.setIfInBounds_toArray, List.set_cons_zero, List.set_cons_succ])
                refine wpAnyH_take (i := 9) (oi := { dst := some 104, op := Op.load 2 (Operand.tmp 103), type := 2, pos := "steps.go:52", after := #[{ on := 8, ground := Ground.data }], guard := none }) (v := ?_) rfl (by kernel_rfl) (by kernel_rfl) (by kernel_rfl) (fun _ _ _ h => h) (Or.inl ⟨by rfl, ?_⟩) (by assumption) ?_
                rotate_left
                · intro w hSw; (try dsimp only at hSw); obtain ⟨hZ, hU⟩ := hSw; have d0 := (cell_of_row _ _ 0 _ _ _ hZ).trans rfl; have d1 := (cell_of_row _ _ 1 _ _ _ hZ).trans rfl; have d2 := (cell_of_row _ _ 2 _ _ _ hZ).trans rfl; have d3 := (cell_of_row _ _ 3 _ _ _ hZ).trans rfl; have d4 := (cell_of_row _ _ 4 _ _ _ hZ).trans rfl; have d5 := (cell_of_row _ _ 5 _ _ _ hZ).trans rfl; have d6 := (cell_of_row _ _ 6 _ _ _ hZ).trans rfl; have k0 := (cell_of_row _ _ 0 _ _ _ hU).trans rfl; have k1 := (cell_of_row _ _ 1 _ _ _ hU).trans rfl; have k2 := (cell_of_row _ _ 2 _ _ _ hU).trans rfl; have k3 := (cell_of_row _ _ 3 _ _ _ hU).trans rfl; have k4 := (cell_of_row _ _ 4 _ _ _ hU).trans rfl; have k5 := (cell_of_row _ _ 5 _ _ _ hU).trans rfl; have k6 := (cell_of_row _ _ 6 _ _ _ hU).trans rfl; go_simp; try with_reducible rfl
                (try simp only [Act.put, List.setIfInBounds_toArray, List.set_cons_zero, List.set_cons_succ])
                refine wpAnyH_take (i := 10) (oi := { dst := some 105, op := Op.binOp BinOp.add 2 (Operand.tmp 102) (Operand.tmp 104) 2, type := 2, pos := "steps.go:52", after := #[{ on := 7, ground := Ground.data }, { on := 9, ground := Ground.data }], guard := none }) (v := ?_) rfl (by kernel_rfl) (by kernel_rfl) (by kernel_rfl) (fun _ _ _ h => h) (Or.inl ⟨by rfl, ?_⟩) (by assumption) ?_
                rotate_left
                · intro w hSw; (try dsimp only at hSw); obtain ⟨hZ, hU⟩ := hSw; have d0 := (cell_of_row _ _ 0 _ _ _ hZ).trans rfl; have d1 := (cell_of_row _ _ 1 _ _ _ hZ).trans rfl; have d2 := (cell_of_row _ _ 2 _ _ _ hZ).trans rfl; have d3 := (cell_of_row _ _ 3 _ _ _ hZ).trans rfl; have d4 := (cell_of_row _ _ 4 _ _ _ hZ).trans rfl; have d5 := (cell_of_row _ _ 5 _ _ _ hZ).trans rfl; have d6 := (cell_of_row _ _ 6 _ _ _ hZ).trans rfl; have k0 := (cell_of_row _ _ 0 _ _ _ hU).trans rfl; have k1 := (cell_of_row _ _ 1 _ _ _ hU).trans rfl; have k2 := (cell_of_row _ _ 2 _ _ _ hU).trans rfl; have k3 := (cell_of_row _ _ 3 _ _ _ hU).trans rfl; have k4 := (cell_of_row _ _ 4 _ _ _ hU).trans rfl; have k5 := (cell_of_row _ _ 5 _ _ _ hU).trans rfl; have k6 := (cell_of_row _ _ 6 _ _ _ hU).trans rfl; go_simp; try with_reducible rfl
                (try simp only [Act.put, List.setIfInBounds_toArray, List.set_cons_zero, List.set_cons_succ])
                refine wpAnyH_ready (rs := [5]) (by kernel_rfl) (by simp) ?_
                refine AllReadyH.cons (o := { dst := some 100, op := Op.call { callee := Callee.value (Operand.func 101), args := #[Operand.tmp 97, Operand.tmp 99], argTypes := #[24, 24] }, type := 24, pos := "steps.go:52", after := #[{ on := 2, ground := Ground.data }, { on := 4, ground := Ground.data }], guard := none }) rfl (fun K hK => ?_) AllReadyH.nil
                go_simp
                refine (HJ.out _).mono ?_
                rintro e9 w9 ⟨rfl, hb9⟩
                have F10 := Lib.hid (F9.out.keep hb9)
                have T10 := Lib.hid (T9.out.keep hb9)
                have TB10 := Lib.hid (TB9.out.keep hb9)
                have Z10 := Lib.hid ((hb9.block gz hz9).trans Z9.out)
                have hz10 : gz < w9.heap.size := Nat.lt_of_lt_of_le hz9 hb9.size
                have U10 := Lib.hid ((hb9.block gu hu9).trans U9.out)
                have hu10 : gu < w9.heap.size := Nat.lt_of_lt_of_le hu9 hb9.size
                have RR10 := Lib.hid (RR9.out.keep hb9 RR9.out.lt)
                clear F9 T9 TB9 Z9 U9 RR9 hz9 hu9 hb9 HJ
                refine hK.out _ _ ?_ (fun hHeld => ?_)
                · exact ⟨Z10.out, U10.out⟩
                clear hK K
                (try simp only [Act.put, List.setIfInBounds_toArray, List.set_cons_zero, List.set_cons_succ])
                refine wpAnyH_ready (rs := [11]) (by kernel_rfl) (by simp) ?_
                refine AllReadyH.cons (o := { dst := some 106, op := Op.call { callee := Callee.value (Operand.tmp 95), args := #[Operand.tmp 100, Operand.tmp 105], argTypes := #[24, 2] }, type := 0, pos := "steps.go:52", after := #[{ on := 0, ground := Ground.data }, { on := 5, ground := Ground.data }, { on := 10, ground := Ground.data }, { on := 5, ground := Ground.chain }], guard := none }) rfl (fun K hK => ?_) AllReadyH.nil
                go_simp
                simp only [HW7.out]
                refine (raise_any t0 t1 t2 t3 t4 t5 (q + p) s0 s1 s2 s3 s4 s5 (w.heap.size + 1) gm g 15625 _ w9 F10.out.sup hs4 F10.out.cell F10.out.cellLt F10.out.own (by omega) HBJ.out (by have := HGL.out; omega) (by have := HGL.out; omega)).mono ?_
                rintro e9 w11 ⟨rfl, hO8, hg8⟩
                rw [← HU.out] at hO8
                have F11 := Lib.hid (F10.out.raise hs4 (fun b' v' h => (HG.out.mem b' v' h).2.1) hO8 hg8)
                have T11 := Lib.hid (T10.out.raise F10.out.own hg8)
                have TB11 := Lib.hid (TB10.out.raise F10.out.own hg8)
                have Z11 := Lib.hid ((hg8.block gz hz10 (fun e => hgz (by simpa using e))).trans Z10.out)
                have hz11 : gz < w11.heap.size := Nat.lt_of_lt_of_le hz10 hg8.size
                have U11 := Lib.hid ((hg8.block gu hu10 (fun e => hgu (by simpa using e))).trans U10.out)
                have RR11 := Lib.hid (show BB w11 gr 24 [r0, r1, r2, r3, r4, r5] from ⟨(hg8.block gr RR10.out.lt (fun e => hgr (by simpa using e))).trans RR10.out.1, RR10.out.2⟩)
                clear F10 T10 TB10 Z10 U10 RR10 hz10 hu10 hO8 hg8 HU HG HBJ HGL
                refine hK.out _ _ ?_ (fun hHeld => ?_)
                · exact ⟨Z11.out, U11.out⟩
                clear hK K
                (try simp only [Act.put, List.setIfInBounds_toArray, List.set_cons_zero, List.set_cons_succ])
                refine wpAnyH_done (by kernel_rfl) ?_ _
                clear hHeld U11
                go_wp2
                go_roundw
                case rel => exact ⟨l + 1, hll, by go_num, T11.out, TB11.out, Z11.out, hz11, RR11.out, F11.out⟩
                case measure => simp [intOf]; omega
              · have h' : MB.withinB [u0, u1, u2, u3, u4, u5] [r0, r1, r2, r3, r4, r5] 6 = false := by simpa using h
                rw [h'] at HWi
                have HE := Lib.hid (HNo.out h')
                go_wp2_with fail
                refine (HWi.out _).mono ?_
                rintro e9 w8 ⟨rfl, hb8⟩
                have F8 := Lib.hid (F7.out.keep hb8)
                have T8 := Lib.hid (T7.out.keep hb8)
                have TB8 := Lib.hid (TB7.out.keep hb8)
                have Z8 := Lib.hid ((hb8.block gz hz7).trans Z7.out)
                have hz8 : gz < w8.heap.size := Nat.lt_of_lt_of_le hz7 hb8.size
                have RR8 := Lib.hid (RR7.out.keep hb8 RR7.out.lt)
                clear d0 d1 d2 d3 d4 d5 p0 p1 p3 p4 p5 p6 F7 T7 TB7 Z7 U7 RR7 hz7 hu7 hb8 HWi HY HNo h h'
                go_wp2
                go_roundw
                case rel => exact ⟨l + 1, hll, by go_num, T8.out, TB8.out, Z8.out, hz8, RR8.out, by rw [HE.out]; exact F8.out⟩
                case measure => simp [intOf]; omega
            · obtain rfl : l = n0 := by omega
              have hB : B.take l = B := by rw [← BL.out, List.take_length]
              rw [hB, ← HSN.out] at F
              clear hB Z RR hz
              go_wp2
              go_roundw
              case rel => exact ⟨j + 1, hjl, by go_num, T.out, TB.out, F.out⟩
              case measure => simp [intOf]; omega
        · obtain rfl : j = n1 := by omega
          have hS : S.take j = S := by rw [← SL.out, List.take_length]
          rw [hS] at F
          have G9 := Lib.hid (G.out.raises (S := VV.orL [s0, s1, s2, s3, s4, s5] S B) (orL_ok (fun p hp => ⟨(good_len GD.out hp).1, (good_len GD.out hp).2.1⟩) (fun p hp => ⟨(good_len GB.out hp).1, (good_len GB.out hp).2.1⟩)))
          have FT9 := Lib.hid (fits_or FT_.out HMG.out GD.out GB.out)
          clear hS T TB
          go_wp2
          go_roundw
          case rel => exact ⟨i + 1, _, fs ++ [gn], _, _, dn ++ [NT.n ⟨o', [y0, y1, y2, y3, y4, y5], v', A', c', k'⟩], hlt, by go_num, R2.out, by rw [RT.out, List.append_assoc]; rfl, by rw [VL.out, List.append_assoc, ← GN.out]; rfl, G9.out, FT9.out, F.out⟩
          case measure => simp [intOf]; omega
    · obtain ⟨rfl, rfl⟩ := R.out.end_ hlt
      have f5 := F.out.cell
      have hvl := VL.out
      rw [show VV.valF (FT.f .nil) = [] from rfl, List.append_nil] at hvl
      have HV := Lib.hid hvl
      clear hvl
      go_wp2_with fail
      refine (listOf_any g 15625 _ wr F.out.own (by omega)).mono ?_
      rintro e9 w6 ⟨A', n', c', S, rfl, hst, hent, hb6⟩
      have R9 := Lib.hid (show GivesSteps [s0, s1, s2, s3, s4, s5] (VV.nodeV 3 [x0, x1, x2, x3, x4, x5] v (VV.valF k.f)) w (.returned (.slice A' n' c')) w6 from
        ⟨_, _, _, S, rfl, hst, (G.out.same fun x hx hl => by rw [HV.out]; exact VV.fits_end (.inr rfl) FT_.out hx hl).entries hent, F.out.below.trans (hb6.mono F.out.below.size)⟩)
      clear hst hent hb6 F f5 G
      go_wp2
      go_ret
      exact R9.out
end Go.Proofs.Ytjjpfpgjpmedmaa
