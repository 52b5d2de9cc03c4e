/- Products: no claim of its own. -/
import Derived.Test.YtpemamkhaiiaaaaECount
import Derived.Test.YtpemamkhaiiaaaaBArith
import Derived.Deep.DeepCutAuto
namespace Go.Proofs.Ytpemamkhaiiaaaa
open Go.RowKit
open ME (F Nd)
/-- The greatest quantities so far. -/
def prodSt (s : List Int) (n : Nd) : List Int × Bool := (joinB s n.b, true)
theorem prod_vis : ∀ (l : List Nd) (s : List Int), visL prodSt s l = (ME.prodL l s, true)
  | [], _ => rfl
  | n :: r, s => by rw [visL_cons]; exact prod_vis r _
def InB (g : Nat) (s : List Int) (D : Nat → Prop) (w : World) : Prop := D = (fun k => k = g) ∧ BB w g 23 s
theorem Kx.set {D : Nat → Prop} {w w' : World} (h : Kx D w w') {g : Nat} (hg : D g) (k : Nat) (v : Value) : Kx D w (w'.setCell ⟨g, k, none⟩ v) :=
  ⟨h.os, h.tape, h.output, by rw [World.size_setCell]; exact h.size, fun j hj hd => (Below.heap_setCell w' ⟨g, k, none⟩ v j (fun e => hd (by rw [e]; exact hg))).trans (h.block j hj hd)⟩
theorem kx_six {w w1 : World} (h : Below w.heap.size w w1) (g : Nat) (v0 v1 v2 v3 v4 v5 : Value) :
    Kx (fun k => k = g) w ((((((w1.setCell ⟨g, 0, none⟩ v0).setCell ⟨g, 1, none⟩ v1).setCell ⟨g, 2, none⟩ v2).setCell ⟨g, 3, none⟩ v3).setCell ⟨g, 4, none⟩ v4).setCell ⟨g, 5, none⟩ v5) :=
  ((((((Kx.of_below (D := fun k => k = g) h).set rfl 0 v0).set rfl 1 v1).set rfl 2 v2).set rfl 3 v3).set rfl 4 v4).set rfl 5 v5
theorem BB.six {w : World} {g : Nat} {T : TypeId} {xs : List Int} (h : BB w g T xs) (y0 y1 y2 y3 y4 y5 : Int) :
    BB ((((((w.setCell ⟨g, 0, none⟩ (.int .i64 y0)).setCell ⟨g, 1, none⟩ (.int .i64 y1)).setCell ⟨g, 2, none⟩ (.int .i64 y2)).setCell ⟨g, 3, none⟩ (.int .i64 y3)).setCell ⟨g, 4, none⟩ (.int .i64 y4)).setCell ⟨g, 5, none⟩ (.int .i64 y5)) g T [y0, y1, y2, y3, y4, y5] := by
  obtain ⟨a, b, c, d, e, f, rfl⟩ := _root_.Go.Proofs.Ytpemamkhaiiaaaa.six h.2
  have := (((((h.set 0 y0).set 1 y1).set 2 y2).set 3 y3).set 4 y4).set 5 y5
  exact this
set_option maxRecDepth 100000 in
set_option maxHeartbeats 4000000 in
theorem prod_step (g : Nat) : Steps 29 #[.pointer (some ⟨g, 0, none⟩)] (InB g) prodSt (fun _ _ => True) where
  less _ _ _ := trivial
  next _ _ _ _ := trivial
  enters := enters_of Try.func29 (by kernel_rfl) rfl
  lt s D w h k hk := by rw [h.1] at hk; rw [show k = g from hk]; exact h.2.lt
  keep s D w w' h hb := ⟨h.1, h.2.keep hb h.2.lt⟩
  call s D w x _ _ h hok := by
    obtain ⟨rfl, hv⟩ := h
    obtain ⟨o, b, v, A, c, k⟩ := x
    obtain ⟨x0, x1, x2, x3, x4, x5, rfl⟩ := six hok.six
    obtain ⟨s0, s1, s2, s3, s4, s5, rfl⟩ := six hv.2
    have HB := Lib.hid (below_new w (.cells #[.int .i64 o, .int .i64 x0, .int .i64 x1, .int .i64 x2, .int .i64 x3, .int .i64 x4, .int .i64 x5, .int .i64 v, .slice A k.len c] 26))
    have BV := Lib.hid (hv.keep HB.out hv.lt)
    obtain ⟨c0, c1, c2, c3, c4, c5⟩ := cells6 BV.out
    have CJ := Lib.hid (bjoin_any s0 s1 s2 s3 s4 s5 x0 x1 x2 x3 x4 x5)
    obtain ⟨j0, j1, j2, j3, j4, j5, hj⟩ := six (show (joinB [s0, s1, s2, s3, s4, s5] [x0, x1, x2, x3, x4, x5]).length = 6 from rfl)
    rw [hj, aggB_lit] at CJ
    have HS : Hid (prodSt [s0, s1, s2, s3, s4, s5] (NT.n ⟨o, [x0, x1, x2, x3, x4, x5], v, A, c, k⟩) = ([j0, j1, j2, j3, j4, j5], true)) := Lib.hid (by unfold prodSt; rw [← hj]; rfl)
    rw [NT.val_lit, HS.out]
    clear hok hv hj
    show Calls _ _ #[_, _] _ _
    go_enter Try.func29, Try.ntmps29
    go_wp2_with fail
    refine (CJ.out _).mono ?_
    rintro ev w3 ⟨rfl, hb3⟩
    have B3 := Lib.hid (BV.out.keep hb3 BV.out.lt)
    have HB3 := Lib.hid (HB.out.trans (hb3.mono HB.out.size))
    clear hb3 HB BV c0 c1 c2 c3 c4 c5 CJ
    obtain ⟨c0, c1, c2, c3, c4, c5⟩ := cells6 B3.out
    obtain ⟨f0, f1, f2, f3, f4, f5⟩ := free6 B3.out
    go_wp2
    go_ret
    exact ⟨rfl, _, ⟨⟨rfl, B3.out.six j0 j1 j2 j3 j4 j5⟩, kx_six HB3.out g _ _ _ _ _ _, fun _ h => .inl h⟩⟩
theorem prod_results {w : World} {R1 : Nat} {z0 z1 z2 z3 z4 z5 : Int} (tmps : Array Value) (h2 : tmps.getD 2 undef = .pointer (some ⟨R1, 0, none⟩)) (b1 : BB w R1 23 [z0, z1, z2, z3, z4, z5]) :
    (results Try.f16 tmps).run Try.prog w = .ok (.agg #[.int .i64 z0, .int .i64 z1, .int .i64 z2, .int .i64 z3, .int .i64 z4, .int .i64 z5]) w := by
  have h2' : tmps[2]?.getD undef = .pointer (some ⟨R1, 0, none⟩) := by simpa using h2
  obtain ⟨r0, r1, r2, r3, r4, r5⟩ := cells6 b1
  simp [results, Try.results16, h2', go_sem, r0, r1, r2, r3, r4, r5]
theorem prodL_len : ∀ (l : List Nd) (z : List Int), z.length = 6 → (ME.prodL l z).length = 6
  | [], _, h => h
  | n :: r, z, _ => prodL_len r (joinB z n.b) rfl
set_option maxRecDepth 100000 in
set_option maxHeartbeats 4000000 in
theorem prod_any (x : NT) (hx : x.size ≤ 2000000) (w : World) (ok : Nat → Prop) (hok : x.Ok w ok) : Calls Try.prog 16 #[x.val] w (Gives (aggB (ME.prodL x.n.pre ME.zero6)) w) := by
  obtain ⟨o, b, v, A, c, k⟩ := x
  obtain ⟨x0, x1, x2, x3, x4, x5, rfl⟩ := six hok.six
  have HB := Lib.hid (below_new w (.cells #[.int .i64 o, .int .i64 x0, .int .i64 x1, .int .i64 x2, .int .i64 x3, .int .i64 x4, .int .i64 x5, .int .i64 v, .slice A k.len c] 26))
  have HB2 := Lib.hid (HB.out.alloc HB.out.size (.cells #[.int .i64 0, .int .i64 0, .int .i64 0, .int .i64 0, .int .i64 0, .int .i64 0] 23))
  have HB3 := Lib.hid (HB2.out.alloc HB2.out.size (.cells #[.int .i64 0, .int .i64 0, .int .i64 0, .int .i64 0, .int .i64 0, .int .i64 0] 23))
  obtain ⟨W1, hW1⟩ : ∃ W1, W1 = w.alloc (.cells #[.int .i64 o, .int .i64 x0, .int .i64 x1, .int .i64 x2, .int .i64 x3, .int .i64 x4, .int .i64 x5, .int .i64 v, .slice A k.len c] 26) := ⟨_, rfl⟩
  have hs1 : W1.heap.size = w.heap.size + 1 := by rw [hW1]; simp
  have hs2 : (W1.alloc (.cells #[.int .i64 0, .int .i64 0, .int .i64 0, .int .i64 0, .int .i64 0, .int .i64 0] 23)).heap.size = w.heap.size + 2 := by rw [World.size_alloc, hs1]
  have BR := Lib.hid ((BB.new W1 23 0 0 0 0 0 0).alloc (.cells #[.int .i64 0, .int .i64 0, .int .i64 0, .int .i64 0, .int .i64 0, .int .i64 0] 23))
  have BM := Lib.hid (BB.new (W1.alloc (.cells #[.int .i64 0, .int .i64 0, .int .i64 0, .int .i64 0, .int .i64 0, .int .i64 0] 23)) 23 0 0 0 0 0 0)
  rw [← hW1] at HB HB2 HB3
  rw [hs1] at BR
  rw [hs2] at BM
  have CE := Lib.hid (eachNode_any (prod_step (w.heap.size + 2)) _ hx ⟨o, [x0, x1, x2, x3, x4, x5], v, A, c, k⟩ (Nat.le_refl _) ME.zero6 _ _ trivial ⟨rfl, BM.out⟩ (hok.keep (fun j _ hj => HB3.out.block j hj) HB3.out.size (fun j _ hj => by show ¬ j = w.heap.size + 2; omega)))
  rw [prod_vis, NT.val_lit] at CE
  have HL := Lib.hid (prodL_len (NT.n ⟨o, [x0, x1, x2, x3, x4, x5], v, A, c, k⟩).pre ME.zero6 rfl)
  rw [NT.val_lit]
  clear hok BM
  generalize ME.prodL (NT.n ⟨o, [x0, x1, x2, x3, x4, x5], v, A, c, k⟩).pre ME.zero6 = R at *
  obtain ⟨j0, j1, j2, j3, j4, j5, rfl⟩ := six HL.out
  rw [aggB_lit]
  go_enter Try.func16, Try.ntmps16
  go_wp2_with fail
  rw [← hW1]
  clear hW1
  refine CE.out.mono ?_
  rintro ev w1 ⟨rfl, D1, h1⟩
  obtain ⟨rfl, hv⟩ := h1.inv
  have B1 := Lib.hid (show Below w.heap.size w w1 from HB3.out.trans ⟨h1.kx.os, h1.kx.tape, h1.kx.output, h1.kx.size, fun j hj => h1.kx.block j (by have := HB3.out.size; omega) (by show ¬ j = w.heap.size + 2; omega)⟩)
  have BR1 : Hid (BB w1 (w.heap.size + 1) 23 [0, 0, 0, 0, 0, 0]) := Lib.hid ⟨(h1.kx.block (w.heap.size + 1) BR.out.lt (by show ¬ w.heap.size + 1 = w.heap.size + 2; omega)).trans BR.out.1, rfl⟩
  obtain ⟨c0, c1, c2, c3, c4, c5⟩ := cells6 hv
  obtain ⟨d0, d1, d2, d3, d4, d5⟩ := cells6 BR1.out
  obtain ⟨f0, f1, f2, f3, f4, f5⟩ := free6 BR1.out
  clear h1 hv CE HB HB2 HB3 BR
  go_wp2
  exact bodyPost_ret (prod_results _ rfl (BR1.out.six j0 j1 j2 j3 j4 j5)) rfl ⟨rfl, below_six B1.out _ (by omega) _ _ _ _ _ _⟩
end Go.Proofs.Ytpemamkhaiiaaaa
