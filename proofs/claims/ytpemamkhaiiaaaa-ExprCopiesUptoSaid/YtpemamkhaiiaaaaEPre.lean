/- The reference's Preorder and Size: no claim of its own. -/
import Derived.Test.YtpemamkhaiiaaaaEVis
import Derived.Lib.AppendIntMem
import Derived.Deep.AppendLies
import Derived.Deep.DeepCutAuto
namespace Go.Proofs.Ytpemamkhaiiaaaa
open Go.RowKit
open ME (F Nd)
/-- A node as an element. -/
def ntE : El NT where
  cells x := cellsE x.o x.b x.v x.A x.k.len x.c
  sz := 9
  fine x := x.b.length = 6
  len x h := by simp only [cellsE, List.length_cons, List.length_append, List.length_map, List.length_nil]; rw [h]
  one a u hu := by
    simp only [cellsE, List.mem_cons, List.mem_append, List.mem_map, List.not_mem_nil, or_false] at hu
    rcases hu with rfl | ⟨x, _, rfl⟩ | rfl | rfl <;> rfl
  pos := by decide
def FT.pre : FT → List NT
  | .nil => []
  | .cons o b v A c k r => ⟨o, b, v, A, c, k⟩ :: (k.pre ++ r.pre)
def NT.pre (x : NT) : List NT := x :: x.k.pre
theorem FT.pre_f : ∀ t : FT, t.pre.map NT.n = t.f.pre
  | .nil => rfl
  | .cons o b v A c k r => by simp [FT.pre, FT.f, ME.F.pre, FT.pre_f k, FT.pre_f r, NT.n]
theorem NT.pre_n (x : NT) : x.pre.map NT.n = x.n.pre := by simp [NT.pre, ME.Nd.pre, FT.pre_f, NT.n]
theorem FT.pre_length (t : FT) : t.pre.length = t.size := by rw [← List.length_map (f := NT.n), FT.pre_f, ME.F.pre_length, FT.size_f]
theorem NT.pre_length (x : NT) : x.pre.length = x.size := by simp [NT.pre, NT.size, FT.pre_length]
theorem FT.pre_ok {w : World} {ok : Nat → Prop} : ∀ (t : FT) {a : Addr}, Lay w ok a t → ∀ y ∈ t.pre, y.Ok w ok
  | .nil, _, _, y, hy => by cases hy
  | .cons o b v A c k r, a, ⟨⟨_, _, h3, _⟩, ⟨h5, h6, h7⟩, ⟨h8, h9⟩, h10, h11⟩, y, hy => by
    simp only [FT.pre, List.mem_cons, List.mem_append] at hy
    rcases hy with rfl | g | g
    · exact ⟨h3, h5, h6, h7, h8, h9, h10⟩
    · rcases h10 with rfl | ⟨ad, _, hl⟩
      · cases g
      · exact FT.pre_ok k hl y g
    · exact FT.pre_ok r h11 y g
theorem NT.pre_ok {w : World} {ok : Nat → Prop} {x : NT} (h : x.Ok w ok) : ∀ y ∈ x.pre, y.Ok w ok := fun y hy => by
  rcases List.mem_cons.1 hy with rfl | g
  · exact h
  · rcases h.kids.lay with e | ⟨ad, _, hl⟩
    · rw [e] at g; cases g
    · exact FT.pre_ok _ hl y g
theorem NT.pre_fine {w : World} {ok : Nat → Prop} {x : NT} (h : x.Ok w ok) : ntE.Fine x.pre := fun y hy => (NT.pre_ok h y hy).six
theorem OwnL.apps {α : Type} {E : El α} {e : TypeId} {w wr w1 : World} {B : Nat} {v v' : Value} {l ys : List α} (h : OwnL E e wr B v l) (hy : E.Fine ys) (hB : Below B w wr) (hs : B ≤ wr.heap.size)
    (hown : w1.ownsRow B e E.sz v' (l.length + ys.length) (E.all l ++ E.all ys)) (hg : wr.grownBy w1 v.ownBlock) : OwnL E e w1 B v' (l ++ ys) ∧ Below B w w1 := by
  refine ⟨⟨?_, fun z hz => ?_⟩, hB.grown hg hs (fun k hk => (World.ownsRow.lt h.1 k hk).1)⟩
  · rw [El.all_append, List.length_append]
    exact hown
  · rcases List.mem_append.1 hz with g | g
    · exact h.2 z g
    · exact hy z g
/-- A slice's cells, wherever they lie. -/
theorem Lst.news {α : Type} {E : El α} {w : World} {A : Option Addr} {n c : Nat} {l : List α} (h : Lst E w A n c l) (hn : 0 < n) : ∃ ad, A = some ad ∧ (E.all l).length = n * E.sz ∧ ∀ j u, (E.all l)[j]? = some u → w.cell? (ad.add j) = some u := by
  obtain ⟨ad, e, _, hc⟩ := h.reads.2 hn
  exact ⟨ad, e, by rw [El.all_length h.fine, h.len], hc⟩
theorem one_all {α : Type} {E : El α} (l : List α) : ∀ u ∈ E.all l, u.oneCell' = true := fun u hu => by
  obtain ⟨x, _, hx⟩ := List.mem_flatMap.1 hu
  exact E.one x u hx
theorem infoExpr : (Try.prog.info? 26).map (fun i => (i.zero, i.size, i.bytes)) = some (some (.agg #[.int .i64 0, .int .i64 0, .int .i64 0, .int .i64 0, .int .i64 0, .int .i64 0, .int .i64 0, .int .i64 0, .slice none 0 0]), 9, 88) := by kernel_rfl
set_option maxRecDepth 100000 in
set_option maxHeartbeats 4000000 in
theorem rpre_any : ∀ (N : Nat), N ≤ 2000000 → ∀ (x : NT), x.size ≤ N → ∀ (w : World) (ok : Nat → Prop), x.Ok w ok → Calls Try.prog 22 #[x.val] w (GivesL ntE x.pre w) := by
  intro N
  induction N with
  | zero => intro _ x hx; unfold NT.size at hx; omega
  | succ N ih =>
    intro hN x hx w ok hok
    have IH := Lib.hid (ih (by omega))
    have hsz : x.k.size ≤ N := by unfold NT.size at hx; omega
    clear ih hx
    obtain ⟨o, b, vv, A, c, k⟩ := x
    obtain ⟨x0, x1, x2, x3, x4, x5, rfl⟩ := six hok.six
    have HP := Lib.hid (NT.pre_length ⟨o, [x0, x1, x2, x3, x4, x5], vv, A, c, k⟩)
    have HO := Lib.hid hok
    have hn := hok.kids.few
    have hc := hok.kids.cap
    obtain ⟨i0, hi, hz0, hz1, hz2⟩ := info_parts infoExpr
    have B0 := Lib.hid (below_new w (.cells #[.int .i64 o, .int .i64 x0, .int .i64 x1, .int .i64 x2, .int .i64 x3, .int .i64 x4, .int .i64 x5, .int .i64 vv, .slice A k.len c] 26))
    have N0 := Lib.hid (heap_new w (.cells #[.int .i64 o, .int .i64 x0, .int .i64 x1, .int .i64 x2, .int .i64 x3, .int .i64 x4, .int .i64 x5, .int .i64 vv, .slice A k.len c] 26))
    rw [NT.val_lit]
    clear hok
    go_enter Try.func22, Try.ntmps22
    obtain ⟨W0, hW0⟩ : ∃ W0, W0 = w.alloc (.cells #[.int .i64 o, .int .i64 x0, .int .i64 x1, .int .i64 x2, .int .i64 x3, .int .i64 x4, .int .i64 x5, .int .i64 vv, .slice A k.len c] 26) := ⟨_, rfl⟩
    go_upto_region 1 with (fail)
    rw [← hW0] at N0 B0 ⊢
    have hs0 : W0.heap.size = w.heap.size + 1 := by rw [hW0]; simp
    clear hW0
    have x8 : W0.cell? ⟨w.heap.size, 0, none⟩ = some (.int .i64 o) ∧ W0.cell? ⟨w.heap.size, 1, none⟩ = some (.int .i64 x0) ∧ W0.cell? ⟨w.heap.size, 2, none⟩ = some (.int .i64 x1) ∧ W0.cell? ⟨w.heap.size, 3, none⟩ = some (.int .i64 x2) ∧ W0.cell? ⟨w.heap.size, 4, none⟩ = some (.int .i64 x3) ∧ W0.cell? ⟨w.heap.size, 5, none⟩ = some (.int .i64 x4) ∧ W0.cell? ⟨w.heap.size, 6, none⟩ = some (.int .i64 x5) ∧ W0.cell? ⟨w.heap.size, 7, none⟩ = some (.int .i64 vv) ∧ W0.cell? ⟨w.heap.size, 8, none⟩ = some (.slice A k.len c) := by
      refine ⟨?_, ?_, ?_, ?_, ?_, ?_, ?_, ?_, ?_⟩ <;> (rw [cell_of_row _ _ _ _ _ _ N0.out]; rfl)
    obtain ⟨b0, b1, b2, b3, b4, b5, b6, b7, b8⟩ := x8
    have O1 : Hid (OwnL ntE 26 (W0.alloc (.cells #[.int .i64 o, .int .i64 x0, .int .i64 x1, .int .i64 x2, .int .i64 x3, .int .i64 x4, .int .i64 x5, .int .i64 vv, .slice A k.len c] 26)) (w.heap.size + 1) (.slice (some ⟨W0.heap.size, 0, none⟩) 1 1) [⟨o, [x0, x1, x2, x3, x4, x5], vv, A, c, k⟩]) :=
      Lib.hid ⟨⟨rfl, .inr ⟨W0.heap.size, 1, _, rfl, by omega, heap_new _ _, Nat.le_refl _, by unfold maxLen; omega, rfl, rfl⟩⟩, fun y hy => by rw [List.mem_singleton.1 hy]; rfl⟩
    have HR0 : Hid (Rest (W0.alloc (.cells #[.int .i64 o, .int .i64 x0, .int .i64 x1, .int .i64 x2, .int .i64 x3, .int .i64 x4, .int .i64 x5, .int .i64 vv, .slice A k.len c] 26)) (fun j => ok j ∧ j < w.heap.size) A 0 k k.len) :=
      Lib.hid (HO.out.kids.rest.keep (fun j _ hj => (Below.heap_alloc W0 _ j (by omega)).trans (B0.out.block j hj)) (by rw [World.size_alloc]; omega) (fun j hj hk => ⟨hj, hk⟩))
    have BB0 : Hid (Below (w.heap.size + 1) W0 (W0.alloc (.cells #[.int .i64 o, .int .i64 x0, .int .i64 x1, .int .i64 x2, .int .i64 x3, .int .i64 x4, .int .i64 x5, .int .i64 vv, .slice A k.len c] 26))) := Lib.hid ((Below.refl _ _).alloc (by omega) _)
    have NB : Hid (∀ w', Below (w.heap.size + 1) W0 w' → w'.cell? ⟨w.heap.size, 8, none⟩ = some (.slice A k.len c)) := Lib.hid (fun w' hb => by rw [cell_of_row _ _ _ _ _ _ ((hb.block w.heap.size (by omega)).trans N0.out)]; rfl)
    have BW : Hid (∀ w', Below (w.heap.size + 1) W0 w' → Below w.heap.size w w') := Lib.hid (fun w' hb => B0.out.trans (hb.mono (by omega)))
    clear N0 B0 HO
    go_wp2
    have HS1 : w.heap.size < W0.heap.size := by omega
    rw [← hs0] at *
    clear b0 b1 b2 b3 b4 b5 b6 b7 b8
    go_loopw [3, 4] (fun v i wr => ∃ (q : Nat) (rs : FT) (L : List NT), q ≤ k.len ∧ rs.size ≤ N ∧ i = .int .i64 q ∧ Hid (OwnL ntE 26 wr W0.heap.size v L) ∧ Hid (Rest wr (fun j => ok j ∧ j < w.heap.size) A q rs k.len) ∧ Hid (Below W0.heap.size W0 wr) ∧ Hid (L ++ rs.pre = NT.pre ⟨o, [x0, x1, x2, x3, x4, x5], vv, A, c, k⟩)) (fun _ i _ => k.len - (intOf i).toNat)
    case atStart => exact ⟨0, k, _, Nat.zero_le _, hsz, rfl, O1, HR0, BB0, Lib.hid rfl⟩
    case round =>
      clear O1 HR0 BB0
      obtain ⟨q, rs, L, hq, hrs, rfl, HOL, HK, HB, HL⟩ := hrel
      have hLL : L.length + rs.size ≤ 2000000 := by have := congrArg List.length HL.out; rw [List.length_append, FT.pre_length, NT.pre_length] at this; unfold NT.size at this; have : (NT.k ⟨o, [x0, x1, x2, x3, x4, x5], vv, A, c, k⟩).size = k.size := rfl; omega
      have b8 := NB.out wr HB.out
      by_cases hlt : q < k.len
      · obtain ⟨ad, o', y0, y1, y2, y3, y4, y5, v', A', c', k', r', rfl, rfl, hok', hnx, hbk, _, z0, z1, z2, z3, z4, z5, z6, z7, z8⟩ := HK.out.open_ hlt
        have HN := Lib.hid hnx
        have hs2 : NT.size ⟨o', [y0, y1, y2, y3, y4, y5], v', A', c', k'⟩ ≤ N := by unfold FT.size at hrs; unfold NT.size; show k'.size + 1 ≤ N; omega
        have hr2 : r'.size ≤ N := by unfold FT.size at hrs; omega
        have CE := Lib.hid (IH.out _ hs2 wr _ hok')
        have HLY := Lib.hid (NT.pre_length ⟨o', [y0, y1, y2, y3, y4, y5], v', A', c', k'⟩)
        have hL1 : L.length + NT.size ⟨o', [y0, y1, y2, y3, y4, y5], v', A', c', k'⟩ ≤ 2000000 := by unfold FT.size at hLL; unfold NT.size; show L.length + (k'.size + 1) ≤ 2000000; omega
        have HL2 : Hid ((L ++ NT.pre ⟨o', [y0, y1, y2, y3, y4, y5], v', A', c', k'⟩) ++ r'.pre = NT.pre ⟨o, [x0, x1, x2, x3, x4, x5], vv, some ad, c, k⟩) := Lib.hid (by rw [← HL.out]; simp [FT.pre, NT.pre])
        have hsy : 0 < NT.size ⟨o', [y0, y1, y2, y3, y4, y5], v', A', c', k'⟩ := Nat.succ_pos _
        rw [NT.val_lit] at CE
        clear hok' hnx HK HL hLL
        generalize NT.pre ⟨o', [y0, y1, y2, y3, y4, y5], v', A', c', k'⟩ = Y at *
        generalize NT.size ⟨o', [y0, y1, y2, y3, y4, y5], v', A', c', k'⟩ = ny at *
        have hlt' : (q : Int) < (k.len : Int) := by omega
        go_wp2_with fail
        refine CE.out.mono ?_
        rintro ev w3 ⟨A3, n3, c3, rfl, hl3, hb3⟩
        have hn3 : n3 = ny := hl3.len.symm.trans HLY.out
        subst hn3
        obtain ⟨ad3, rfl, hd1, hd2⟩ := hl3.news hsy
        have HD1 := Lib.hid hd1
        have HD2 := Lib.hid hd2
        have HF3 := Lib.hid hl3.fine
        have O2 := Lib.hid (HOL.out.keep hb3)
        have B3 := Lib.hid (HB.out.trans (hb3.mono HB.out.size))
        have HN3 := Lib.hid (HN.out.below hb3)
        clear hl3 hb3 hd1 hd2 HOL HB CE HN z0 z1 z2 z3 z4 z5 z6 z7 z8 b8
        go_wp2_with (at_builtin; refine wpList_append_own _ rfl _ _ 24 rfl W0.heap.size 26 i0 (.agg #[.int .i64 0, .int .i64 0, .int .i64 0, .int .i64 0, .int .i64 0, .int .i64 0, .int .i64 0, .int .i64 0, .slice none 0 0]) 9 88 Try.underlying24 hi hz0 hz1 hz2 rfl (by decide) _ _ _ rfl O2.out.1 ad3 n3 c3 (ntE.all Y) rfl ?c0 ?c1 ?c2 ?c3 ?c4 ?c5 ?_)
        case c0 => exact HD1.out
        case c1 => exact HD2.out
        case c2 => exact one_all _
        case c3 => unfold maxLen; omega
        case c4 => omega
        case c5 => exact B3.out.size
        intro v'' w4 hown' hgrow _
        rw [← HLY.out] at hown'
        have R := OwnL.apps O2.out HF3.out B3.out B3.out.size hown' hgrow
        have O3 := Lib.hid R.1
        have B4 := Lib.hid R.2
        have HN4 := Lib.hid (HN3.out.keep (w' := w4) (ok' := fun j => ok j ∧ j < w.heap.size) (fun j hj _ => (B4.out.block j (by have := hj.2; omega)).trans (B3.out.block j (by have := hj.2; omega)).symm) hgrow.size (fun _ h _ => h))
        clear R hown' hgrow O2 B3 HN3 HD1 HD2 HF3
        go_wp2
        go_roundw
        case rel => exact ⟨q + 1, r', L ++ Y, by omega, hr2, by go_num, O3, HN4, B4, HL2⟩
        case measure => simp [intOf]; omega
      · obtain ⟨rfl, _⟩ := HK.out.end_ hlt
        have hlt' : ¬ (q : Int) < (k.len : Int) := by omega
        have hLx := HL.out
        rw [show FT.pre .nil = [] from rfl, List.append_nil] at hLx
        obtain ⟨Ar, cr, rfl, hl⟩ := HOL.out.form (by omega)
        have HRES : Hid (GivesL ntE (NT.pre ⟨o, [x0, x1, x2, x3, x4, x5], vv, A, c, k⟩) w (.returned (.slice Ar L.length cr)) wr) := Lib.hid (by rw [← hLx]; exact ⟨_, _, _, rfl, hl, BW.out _ HB.out⟩)
        clear hLx hl HOL HL HK HB
        go_wp2
        go_ret
        exact HRES.out
set_option maxRecDepth 100000 in
set_option maxHeartbeats 1000000 in
theorem rsize_any (x : NT) (hx : x.size ≤ 2000000) (w : World) (ok : Nat → Prop) (hok : x.Ok w ok) : Calls Try.prog 10 #[x.val] w (Gives (.int .i64 x.size) w) := by
  obtain ⟨o, b, v, A, c, k⟩ := x
  obtain ⟨x0, x1, x2, x3, x4, x5, rfl⟩ := six hok.six
  have HB := Lib.hid (below_new w (.cells #[.int .i64 o, .int .i64 x0, .int .i64 x1, .int .i64 x2, .int .i64 x3, .int .i64 x4, .int .i64 x5, .int .i64 v, .slice A k.len c] 26))
  have CE := Lib.hid (rpre_any _ hx _ (Nat.le_refl _) _ ok (hok.below HB.out))
  have HLY := Lib.hid (NT.pre_length ⟨o, [x0, x1, x2, x3, x4, x5], v, A, c, k⟩)
  rw [NT.val_lit] at CE
  rw [NT.val_lit]
  clear hok
  generalize NT.pre ⟨o, [x0, x1, x2, x3, x4, x5], v, A, c, k⟩ = Y at *
  generalize NT.size ⟨o, [x0, x1, x2, x3, x4, x5], v, A, c, k⟩ = ny at *
  go_enter Try.func10, Try.ntmps10
  go_wp2_with fail
  refine CE.out.mono ?_
  rintro ev w3 ⟨A3, n3, c3, rfl, hl3, hb3⟩
  have hn3 : n3 = ny := hl3.len.symm.trans HLY.out
  subst hn3
  have B := Lib.hid (HB.out.trans (hb3.mono HB.out.size))
  clear hl3 hb3 CE
  go_wp2
  go_ret
  exact ⟨rfl, B.out⟩
set_option maxRecDepth 100000 in
set_option maxHeartbeats 1000000 in
theorem few_any (x : NT) (hx : x.size ≤ 2000000) (w : World) (ok : Nat → Prop) (hok : x.Ok w ok) : Calls Try.prog 4 #[x.val] w (Gives (.bool (decide (x.size ≤ 400))) w) := by
  obtain ⟨o, b, v, A, c, k⟩ := x
  obtain ⟨x0, x1, x2, x3, x4, x5, rfl⟩ := six hok.six
  have HB := Lib.hid (below_new w (.cells #[.int .i64 o, .int .i64 x0, .int .i64 x1, .int .i64 x2, .int .i64 x3, .int .i64 x4, .int .i64 x5, .int .i64 v, .slice A k.len c] 26))
  have CE := Lib.hid (rsize_any _ hx _ ok (hok.below HB.out))
  rw [NT.val_lit] at CE
  rw [NT.val_lit]
  clear hok
  generalize NT.size ⟨o, [x0, x1, x2, x3, x4, x5], v, A, c, k⟩ = ny at *
  go_enter Try.func4, Try.ntmps4
  go_wp2_with fail
  refine CE.out.mono ?_
  rintro ev w3 ⟨rfl, hb3⟩
  have B := Lib.hid (HB.out.trans (hb3.mono HB.out.size))
  have e : decide ((ny : Int) ≤ 400) = decide (ny ≤ 400) := decide_eq_decide.2 ⟨fun h => by omega, fun h => by omega⟩
  clear hb3 CE
  go_wp2
  go_ret
  exact ⟨by rw [← e]; simp, B.out⟩
end Go.Proofs.Ytpemamkhaiiaaaa
