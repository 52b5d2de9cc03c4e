/- EDepth, ECheck4, joined: no claim of its own. -/
import Derived.Test.YtjjpfpgjpmedmaaJK
import Derived.Deep.DeepCutAuto
import Derived.Test.YtjjpfpgjpmedmaaJO
namespace Go.Proofs.Ytjjpfpgjpmedmaa
open Go.RowKit
set_option maxRecDepth 100000 in
set_option maxHeartbeats 4000000 in
theorem rdepth_any : ∀ (N : Nat), N ≤ 2000000 → ∀ (x : NT), x.size ≤ N → ∀ (w : World) (ok : Nat → Prop), x.Ok w ok → Calls Try.prog 64 #[x.val] w (Gives (.int .i64 x.n.depth) w) := by
  intro N
  induction N with
  | zero => intro _ x hx; unfold NT.size at hx; omega
  | succ N ih =>
    intro hN x hx w ok hok
    have IH := Lib.hid (ih (by omega))
    have hsz : x.k.size ≤ N := by unfold NT.size at hx; omega
    have hdz : x.k.f.depth ≤ N := Nat.le_trans (ME.F.depth_size _) (by rw [FT.size_f]; exact hsz)
    clear ih hx
    obtain ⟨o, b, v, A, c, k⟩ := x
    obtain ⟨x0, x1, x2, x3, x4, x5, rfl⟩ := six hok.six
    have hn := hok.kids.few
    have hc := hok.kids.cap
    have HB := Lib.hid (below_new w (.cells #[.int .i64 o, .int .i64 x0, .int .i64 x1, .int .i64 x2, .int .i64 x3, .int .i64 x4, .int .i64 x5, .int .i64 v, .slice A k.len c] 28))
    have HR0 := Lib.hid ((hok.below HB.out).kids.rest)
    have N0 := Lib.hid (heap_new w (.cells #[.int .i64 o, .int .i64 x0, .int .i64 x1, .int .i64 x2, .int .i64 x3, .int .i64 x4, .int .i64 x5, .int .i64 v, .slice A k.len c] 28))
    have HD : Hid ((NT.n ⟨o, [x0, x1, x2, x3, x4, x5], v, A, c, k⟩).depth = k.f.depth + 1) := Lib.hid rfl
    rw [NT.val_lit]
    clear hok
    obtain ⟨R, hR⟩ : ∃ R, (NT.n ⟨o, [x0, x1, x2, x3, x4, x5], v, A, c, k⟩).depth = R := ⟨_, rfl⟩
    rw [hR] at HD ⊢
    clear hR
    obtain ⟨W0, hW0⟩ : ∃ W0, W0 = w.alloc (.cells #[.int .i64 o, .int .i64 x0, .int .i64 x1, .int .i64 x2, .int .i64 x3, .int .i64 x4, .int .i64 x5, .int .i64 v, .slice A k.len c] 28) := ⟨_, rfl⟩
    go_enter Try.func64, Try.ntmps64
    go_upto_region 1 with (fail)
    rw [← hW0] at N0 HB HR0 ⊢
    clear hW0
    have NB : Hid (∀ w', Below W0.heap.size W0 w' → w'.cell? ⟨w.heap.size, 8, none⟩ = some (.slice A k.len c)) := Lib.hid (fun w' hb => by rw [cell_of_row _ _ _ _ _ _ ((hb.block w.heap.size (Array.getElem?_eq_some_iff.1 N0.out).1).trans N0.out)]; rfl)
    have b8 := NB.out W0 (Below.refl _ _)
    clear N0
    go_wp2_with fail
    go_loopw [3, 4] (fun d i wr => ∃ (q : Nat) (rs : FT) (m : Nat), q ≤ k.len ∧ rs.size ≤ N ∧ m ≤ N ∧ i = .int .i64 q ∧ d = .int .i64 m ∧ Hid (Rest wr ok A q rs k.len) ∧ Hid (Below W0.heap.size W0 wr) ∧ Hid (max m rs.f.depth = k.f.depth)) (fun _ i _ => k.len - (intOf i).toNat)
    case atStart => exact ⟨0, k, 0, Nat.zero_le _, hsz, Nat.zero_le _, rfl, rfl, HR0, Lib.hid (Below.refl _ _), Lib.hid (by omega)⟩
    case round =>
      clear HR0 b8
      obtain ⟨q, rs, m, hq, hrs, hm, rfl, rfl, HK, HW, HM⟩ := hrel
      have b8 := NB.out wr HW.out
      by_cases hlt : q < k.len
      · obtain ⟨ad, o', y0, y1, y2, y3, y4, y5, v', A', c', k', r', rfl, rfl, hok', hnx, hbk, _, z0, z1, z2, z3, z4, z5, z6, z7, z8⟩ := HK.out.open_ hlt
        have HN := Lib.hid hnx
        have hs2 : NT.size ⟨o', [y0, y1, y2, y3, y4, y5], v', A', c', k'⟩ ≤ N := by unfold FT.size at hrs; unfold NT.size; show k'.size + 1 ≤ N; omega
        have hr2 : r'.size ≤ N := by unfold FT.size at hrs; omega
        have HB3 := Lib.hid (Below.refl wr.heap.size wr)
        have CE := Lib.hid (IH.out ⟨o', [y0, y1, y2, y3, y4, y5], v', A', c', k'⟩ hs2 _ ok (hok'.below HB3.out))
        have hde : (NT.n ⟨o', [y0, y1, y2, y3, y4, y5], v', A', c', k'⟩).depth ≤ N := Nat.le_trans (ME.Nd.depth_size _) (by rw [NT.size_n]; exact hs2)
        have HM2 : Hid (max (max m (NT.n ⟨o', [y0, y1, y2, y3, y4, y5], v', A', c', k'⟩).depth) r'.f.depth = k.f.depth) := Lib.hid (by rw [← HM.out]; show _ = max m (max (k'.f.depth + 1) r'.f.depth); exact Nat.max_assoc _ _ _)
        rw [NT.val_lit] at CE
        clear hok' hnx HK HM
        generalize (NT.n ⟨o', [y0, y1, y2, y3, y4, y5], v', A', c', k'⟩).depth = e at *
        have hlt' : (q : Int) < (k.len : Int) := by omega
        go_wp2_with fail
        refine CE.out.mono ?_
        rintro ev w3 ⟨rfl, hb3⟩
        have HW3 := Lib.hid (HW.out.trans ((HB3.out.trans (hb3.mono HB3.out.size)).mono HW.out.size))
        have HN3 := Lib.hid ((HN.out.below HB3.out).below hb3)
        clear hb3 HB3 HW HN CE z0 z1 z2 z3 z4 z5 z6 z7 z8 b8
        rcases Nat.lt_or_ge m e with hme | hme
        · have hmi : (m : Int) < (e : Int) := by omega
          have hma : max (m : Int) (e : Int) = (e : Int) := by omega
          have hmn : max m e = e := by omega
          rw [hmn] at HM2
          go_wp2
          go_roundw
          case rel => exact ⟨q + 1, r', e, by omega, hr2, hde, by go_num, by simp, HN3, HW3, HM2⟩
          case measure => simp [intOf]; omega
        · have hmi : ¬ (m : Int) < (e : Int) := by omega
          have hma : max (m : Int) (e : Int) = (m : Int) := by omega
          have hmn : max m e = m := by omega
          rw [hmn] at HM2
          go_wp2
          go_roundw
          case rel => exact ⟨q + 1, r', m, by omega, hr2, hm, by go_num, by simp, HN3, HW3, HM2⟩
          case measure => simp [intOf]; omega
      · obtain ⟨rfl, _⟩ := HK.out.end_ hlt
        have hlt' : ¬ (q : Int) < (k.len : Int) := by omega
        have hmR : m + 1 = R := by have h1 := HM.out; have h2 := HD.out; rw [show FT.f .nil = .nil from rfl, show ME.F.depth .nil = 0 from rfl] at h1; omega
        have E := Lib.hid (HB.out.trans (HW.out.mono HB.out.size))
        clear HK HM HW
        go_wp2
        go_ret
        exact ⟨by subst hmR; go_num, E.out⟩
set_option maxRecDepth 100000 in
set_option maxHeartbeats 4000000 in
theorem deeper_any : ∀ (N : Nat) (x : NT), x.size ≤ N → ∀ (w : World) (ok : Nat → Prop) (l : Nat), l ≤ 100 → x.Ok w ok → Calls Try.prog 41 #[x.val, .int .i64 l] w (Gives (.bool (decide (l < x.n.depth))) w) := by
  intro N
  induction N with
  | zero => intro x hx; unfold NT.size at hx; omega
  | succ N ih =>
    intro x hx w ok l hl hok
    have IH := Lib.hid ih
    have hsz : x.k.size ≤ N := by unfold NT.size at hx; omega
    clear ih hx
    obtain ⟨o, b, v, A, c, k⟩ := x
    obtain ⟨x0, x1, x2, x3, x4, x5, rfl⟩ := six hok.six
    have hn := hok.kids.few
    have hc := hok.kids.cap
    have HB := Lib.hid (below_new w (.cells #[.int .i64 o, .int .i64 x0, .int .i64 x1, .int .i64 x2, .int .i64 x3, .int .i64 x4, .int .i64 x5, .int .i64 v, .slice A k.len c] 28))
    have HR0 := Lib.hid ((hok.below HB.out).kids.rest)
    have N0 := Lib.hid (heap_new w (.cells #[.int .i64 o, .int .i64 x0, .int .i64 x1, .int .i64 x2, .int .i64 x3, .int .i64 x4, .int .i64 x5, .int .i64 v, .slice A k.len c] 28))
    have HD : Hid ((NT.n ⟨o, [x0, x1, x2, x3, x4, x5], v, A, c, k⟩).depth = k.f.depth + 1) := Lib.hid rfl
    rw [NT.val_lit]
    clear hok
    obtain ⟨R, hR⟩ : ∃ R, (NT.n ⟨o, [x0, x1, x2, x3, x4, x5], v, A, c, k⟩).depth = R := ⟨_, rfl⟩
    rw [hR] at HD ⊢
    clear hR
    obtain ⟨W0, hW0⟩ : ∃ W0, W0 = w.alloc (.cells #[.int .i64 o, .int .i64 x0, .int .i64 x1, .int .i64 x2, .int .i64 x3, .int .i64 x4, .int .i64 x5, .int .i64 v, .slice A k.len c] 28) := ⟨_, rfl⟩
    rcases Nat.eq_zero_or_pos l with rfl | hl0
    · have E : Hid (decide (0 < R) = true) := Lib.hid (decide_eq_true (by have := HD.out; omega))
      rw [E.out]
      clear N0 HR0
      go_enter Try.func41, Try.ntmps41
      go_wp2
      go_ret
      exact ⟨rfl, HB.out⟩
    have hl1 : ((l : Int) == 0) = false := by rw [beq_eq_false_iff_ne]; omega
    obtain ⟨l', hl'⟩ : ∃ l' : Nat, l = l' + 1 := ⟨l - 1, by omega⟩
    subst hl'
    go_enter Try.func41, Try.ntmps41
    go_upto_region 1 with (fail)
    rw [← hW0] at N0 HB HR0 ⊢
    clear hW0
    have b8 : W0.cell? ⟨w.heap.size, 8, none⟩ = some (.slice A k.len c) := by rw [cell_of_row _ _ _ _ _ _ N0.out]; rfl
    clear N0
    go_wp2_with fail
    go_loopw [12] (fun i wr => ∃ (q : Nat) (rs : FT), q ≤ k.len ∧ rs.size ≤ N ∧ i = .int .i64 q ∧ Hid (Rest wr ok A q rs k.len) ∧ Hid (Below W0.heap.size W0 wr) ∧ Hid (decide (l' + 1 < R) = decide (l' < rs.f.depth))) (fun i _ => k.len - (intOf i).toNat)
    case atStart => exact ⟨0, k, Nat.zero_le _, hsz, rfl, HR0, Lib.hid (Below.refl _ _), Lib.hid (decide_eq_decide.2 (by rw [HD.out]; omega))⟩
    case round =>
      clear HR0 b8
      obtain ⟨q, rs, hq, hrs, rfl, HK, HW, HM⟩ := hrel
      by_cases hlt : q < k.len
      · obtain ⟨ad, o', y0, y1, y2, y3, y4, y5, v', A', c', k', r', rfl, rfl, hok', hnx, hbk, _, z0, z1, z2, z3, z4, z5, z6, z7, z8⟩ := HK.out.open_ hlt
        have HN := Lib.hid hnx
        have hs2 : NT.size ⟨o', [y0, y1, y2, y3, y4, y5], v', A', c', k'⟩ ≤ N := by unfold FT.size at hrs; unfold NT.size; show k'.size + 1 ≤ N; omega
        have hr2 : r'.size ≤ N := by unfold FT.size at hrs; omega
        have HB3 := Lib.hid (below_new wr (.cells #[.int .i64 o', .int .i64 y0, .int .i64 y1, .int .i64 y2, .int .i64 y3, .int .i64 y4, .int .i64 y5, .int .i64 v', .slice A' k'.len c'] 28))
        have CE := Lib.hid (IH.out ⟨o', [y0, y1, y2, y3, y4, y5], v', A', c', k'⟩ hs2 _ ok l' (by omega) (hok'.below HB3.out))
        have HM2 : Hid (decide (l' + 1 < R) = decide (l' < max (NT.n ⟨o', [y0, y1, y2, y3, y4, y5], v', A', c', k'⟩).depth r'.f.depth)) := HM
        rw [NT.val_lit] at CE
        clear hok' hnx HK HM
        generalize (NT.n ⟨o', [y0, y1, y2, y3, y4, y5], v', A', c', k'⟩).depth = e at *
        have hlt' : (q : Int) < (k.len : Int) := by omega
        have hli : IntKind.i64.wrap ((l' : Int) + 1 - 1) = (l' : Int) := by rw [IntKind.wrap_i64]; omega
        have hli2 : wrap64 ((l' : Int) + 1 - 1) = (l' : Int) := by unfold wrap64; omega
        have hli3 : (l' : Int) + 1 - 1 = (l' : Int) := by omega
        go_wp2_with fail
        refine CE.out.mono ?_
        rintro ev w3 ⟨rfl, hb3⟩
        have HW3 := Lib.hid (HW.out.trans ((HB3.out.trans (hb3.mono HB3.out.size)).mono HW.out.size))
        have HN3 := Lib.hid ((HN.out.below HB3.out).below hb3)
        clear hb3 HB3 HW HN CE z0 z1 z2 z3 z4 z5 z6 z7 z8
        by_cases hme : l' < e
        · have hd : decide (l' < e) = true := decide_eq_true hme
          have E2 := Lib.hid (HB.out.trans (HW3.out.mono HB.out.size))
          have E : Hid (decide (l' + 1 < R) = true) := Lib.hid (by rw [HM2.out]; exact decide_eq_true (by omega))
          rw [hd]
          clear HM2 HN3 HW3
          go_wp2
          go_ret
          exact ⟨by rw [E.out]; rfl, E2.out⟩
        · have hd : decide (l' < e) = false := decide_eq_false hme
          have HM3 : Hid (decide (l' + 1 < R) = decide (l' < r'.f.depth)) := Lib.hid (by rw [HM2.out]; exact decide_eq_decide.2 (by omega))
          rw [hd]
          clear HM2
          go_wp2
          go_roundw
          case rel => exact ⟨q + 1, r', by omega, hr2, by go_num, HN3, HW3, HM3⟩
          case measure => simp [intOf]; omega
      · obtain ⟨rfl, _⟩ := HK.out.end_ hlt
        have hlt' : ¬ (q : Int) < (k.len : Int) := by omega
        have E2 := Lib.hid (HB.out.trans (HW.out.mono HB.out.size))
        have E : Hid (decide (l' + 1 < R) = false) := Lib.hid (by rw [HM.out]; rfl)
        clear HK HM HW
        go_wp2
        go_ret
        exact ⟨by rw [E.out]; rfl, E2.out⟩
end Go.Proofs.Ytjjpfpgjpmedmaa
namespace Go.Proofs.Ytjjpfpgjpmedmaa
open Go.RowKit
open ME (F Nd)
def checkSt (_ : Int) (n : Nd) : Int × Bool := (ME.nodeE n, decide (ME.nodeE n = 0))
theorem check_vis : ∀ (l : List Nd), (visL checkSt 0 l).1 = ME.firstN l
  | [] => rfl
  | n :: r => by
    rw [visL_cons, ME.firstN]
    by_cases h : ME.nodeE n = 0
    · rw [if_pos (show (checkSt 0 n).2 = true from decide_eq_true h), if_neg (fun g => g h)]
      show (visL checkSt (ME.nodeE n) r).1 = _
      rw [h]
      exact check_vis r
    · rw [if_neg (show ¬ (checkSt 0 n).2 = true by show ¬ decide (ME.nodeE n = 0) = true; rw [decide_eq_false h]; decide), if_pos h]
      rfl
def largeSt (s : Int) (n : Nd) : Int × Bool := (wrap64 (s + 1), decide (wrap64 (s + 1) ≤ 40) && decide (n.k.len ≤ 8))
theorem large_vis : ∀ (l : List Nd) (s : Int), 0 ≤ s → s ≤ 40 → (visL largeSt s l).2 = (decide (s + l.length ≤ 40) && ME.wideB l)
  | [], s, _, h => by
    show true = _
    rw [decide_eq_true (by simpa using h)]; rfl
  | n :: r, s, h0, h1 => by
    have e : wrap64 (s + 1) = s + 1 := by unfold wrap64; omega
    have ew : ME.wideB (n :: r) = (decide (n.k.len ≤ 8) && ME.wideB r) := rfl
    rw [visL_cons, ew]
    have es : largeSt s n = (s + 1, decide (s + 1 ≤ 40) && decide (n.k.len ≤ 8)) := by unfold largeSt; rw [e]
    rw [es]
    by_cases h2 : s + 1 ≤ 40
    · rw [decide_eq_true h2, Bool.true_and]
      by_cases h3 : n.k.len ≤ 8
      · rw [decide_eq_true h3, if_pos rfl, large_vis r (s + 1) (by omega) h2, Bool.true_and]
        congr 1
        refine decide_eq_decide.2 ?_
        rw [List.length_cons]; omega
      · rw [decide_eq_false h3, if_neg (fun q => by cases q)]
        simp
    · rw [decide_eq_false h2, Bool.false_and, if_neg (fun q => by cases q), decide_eq_false (show ¬ s + ((n :: r).length : Int) ≤ 40 by rw [List.length_cons]; omega), Bool.false_and]
set_option maxRecDepth 100000 in
set_option maxHeartbeats 2000000 in
theorem check_step (g : Nat) : Steps 44 #[.pointer (some ⟨g, 0, none⟩)] (InV g 29 (fun s : Int => Value.int .i64 s)) checkSt (fun _ _ => True) :=
  steps_var (enters_of Try.func44 (by kernel_rfl) rfl) fun s w x hv hok => by
    obtain ⟨o, b, v, A, c, k⟩ := x
    obtain ⟨x0, x1, x2, x3, x4, x5, rfl⟩ := six hok.six
    have HB := Lib.hid (below_new w (.cells #[.int .i64 o, .int .i64 x0, .int .i64 x1, .int .i64 x2, .int .i64 x3, .int .i64 x4, .int .i64 x5, .int .i64 v, .slice A k.len c] 28))
    have HV := Lib.hid (hv.keep HB.out)
    have CN := Lib.hid (checkNode_any _ _ _ (hok.below HB.out))
    rw [NT.val_lit] at CN
    show Calls _ _ #[_, _] _ (fun e w' => e = .returned (.bool (decide (ME.nodeE (NT.n ⟨o, [x0, x1, x2, x3, x4, x5], v, A, c, k⟩) = 0))) ∧ ∃ w1, Below w.heap.size w w1 ∧ w' = w1.setCell ⟨g, 0, none⟩ (.int .i64 (ME.nodeE (NT.n ⟨o, [x0, x1, x2, x3, x4, x5], v, A, c, k⟩))))
    rw [NT.val_lit]
    generalize ME.nodeE (NT.n ⟨o, [x0, x1, x2, x3, x4, x5], v, A, c, k⟩) = R at *
    clear hok hv
    go_enter Try.func44, Try.ntmps44
    go_wp2_with fail
    refine CN.out.mono ?_
    rintro ev w3 ⟨rfl, hb⟩
    have HB3 := Lib.hid (HB.out.trans (hb.mono HB.out.size))
    have V3 := Lib.hid (HV.out.keep hb)
    clear hb HB HV CN
    have c1 := V3.out.cell
    have f1 := V3.out.free
    have c2 := (V3.out.set (.int .i64 R)).cell
    have e1 : (R == 0) = decide (R = 0) := rfl
    go_wp2
    go_ret
    exact ⟨by simp, _, HB3.out, rfl⟩
set_option maxRecDepth 100000 in
set_option maxHeartbeats 2000000 in
theorem large_step (g : Nat) : Steps 73 #[.pointer (some ⟨g, 0, none⟩)] (InV g 3 (fun s : Int => Value.int .i64 s)) largeSt (fun _ _ => True) :=
  steps_var (enters_of Try.func73 (by kernel_rfl) rfl) fun s w x hv hok => by
    obtain ⟨o, b, v, A, c, k⟩ := x
    obtain ⟨x0, x1, x2, x3, x4, x5, rfl⟩ := six hok.six
    have hn := hok.kids.few
    have HB := Lib.hid (below_new w (.cells #[.int .i64 o, .int .i64 x0, .int .i64 x1, .int .i64 x2, .int .i64 x3, .int .i64 x4, .int .i64 x5, .int .i64 v, .slice A k.len c] 28))
    have N0 := Lib.hid (heap_new w (.cells #[.int .i64 o, .int .i64 x0, .int .i64 x1, .int .i64 x2, .int .i64 x3, .int .i64 x4, .int .i64 x5, .int .i64 v, .slice A k.len c] 28))
    have HV := Lib.hid (hv.keep HB.out)
    have hg := hv.lt
    have hl : (NT.n ⟨o, [x0, x1, x2, x3, x4, x5], v, A, c, k⟩).k.len = k.len := FT.len_f k
    show Calls _ _ #[_, _] _ (fun e w' => e = .returned (.bool (decide (wrap64 (s + 1) ≤ 40) && decide ((NT.n ⟨o, [x0, x1, x2, x3, x4, x5], v, A, c, k⟩).k.len ≤ 8))) ∧ ∃ w1, Below w.heap.size w w1 ∧ w' = w1.setCell ⟨g, 0, none⟩ (.int .i64 (wrap64 (s + 1))))
    rw [NT.val_lit, hl]
    clear hok hv hl
    obtain ⟨W0, hW0⟩ : ∃ W0, W0 = w.alloc (.cells #[.int .i64 o, .int .i64 x0, .int .i64 x1, .int .i64 x2, .int .i64 x3, .int .i64 x4, .int .i64 x5, .int .i64 v, .slice A k.len c] 28) := ⟨_, rfl⟩
    go_enter Try.func73, Try.ntmps73
    go_upto_region 1 with (fail)
    rw [← hW0] at N0 HB HV ⊢
    clear hW0
    have c1 := HV.out.cell
    have f1 := HV.out.free
    have a8 : W0.cell? ⟨w.heap.size, 8, none⟩ = some (.slice A k.len c) := by rw [cell_of_row _ _ _ _ _ _ N0.out]; rfl
    have hne : ¬ g = w.heap.size := by omega
    have hne' : ¬ w.heap.size = g := by omega
    by_cases h1 : wrap64 (s + 1) ≤ 40
    · have d1 : decide (wrap64 (s + 1) ≤ 40) = true := decide_eq_true h1
      have e2 : decide ((k.len : Int) ≤ 8) = decide (k.len ≤ 8) := decide_eq_decide.2 ⟨fun q => by omega, fun q => by omega⟩
      go_wp2
      go_ret
      exact ⟨rfl, _, HB.out, rfl⟩
    · have d1 : decide (wrap64 (s + 1) ≤ 40) = false := decide_eq_false h1
      go_wp2
      go_ret
      exact ⟨rfl, _, HB.out, rfl⟩
set_option maxRecDepth 100000 in
set_option maxHeartbeats 2000000 in
theorem large_any (x : NT) (hx : x.size ≤ 2000000) (w : World) (ok : Nat → Prop) (hok : x.Ok w ok) : Calls Try.prog 42 #[x.val] w (Gives (.bool (!(decide (x.size ≤ 40) && ME.wideB x.n.pre))) w) := by
  obtain ⟨o, b, v, A, c, k⟩ := x
  obtain ⟨x0, x1, x2, x3, x4, x5, rfl⟩ := six hok.six
  have HB := Lib.hid (below_new w (.cells #[.int .i64 o, .int .i64 x0, .int .i64 x1, .int .i64 x2, .int .i64 x3, .int .i64 x4, .int .i64 x5, .int .i64 v, .slice A k.len c] 28))
  have HB2 := Lib.hid (HB.out.alloc HB.out.size (.cells #[.int .i64 0] 3))
  have hsz : (w.alloc (.cells #[.int .i64 o, .int .i64 x0, .int .i64 x1, .int .i64 x2, .int .i64 x3, .int .i64 x4, .int .i64 x5, .int .i64 v, .slice A k.len c] 28)).heap.size = w.heap.size + 1 := by simp
  have CE := Lib.hid (eachNode_any (large_step (w.heap.size + 1)) _ hx _ (Nat.le_refl _) (0 : Int) _ _ trivial (by have := InV.start (T := 3) (enc := fun s : Int => Value.int .i64 s) (w.alloc (.cells #[.int .i64 o, .int .i64 x0, .int .i64 x1, .int .i64 x2, .int .i64 x3, .int .i64 x4, .int .i64 x5, .int .i64 v, .slice A k.len c] 28)) (0 : Int); rwa [hsz] at this)
    (hok.keep (fun j _ hj => HB2.out.block j hj) HB2.out.size (fun j _ hj => by show ¬ j = w.heap.size + 1; omega)))
  have HV : Hid ((visL largeSt (0 : Int) (NT.n ⟨o, [x0, x1, x2, x3, x4, x5], v, A, c, k⟩).pre).2 = (decide (NT.size ⟨o, [x0, x1, x2, x3, x4, x5], v, A, c, k⟩ ≤ 40) && ME.wideB (NT.n ⟨o, [x0, x1, x2, x3, x4, x5], v, A, c, k⟩).pre)) := Lib.hid (by
    rw [large_vis _ _ (Int.le_refl _) (by decide), ME.Nd.pre_length, NT.size_n]
    congr 1
    exact decide_eq_decide.2 ⟨fun q => by omega, fun q => by omega⟩)
  rw [← HV.out]
  rw [NT.val_lit] at CE
  rw [NT.val_lit]
  clear hok HV hx
  generalize visL largeSt (0 : Int) (NT.n ⟨o, [x0, x1, x2, x3, x4, x5], v, A, c, k⟩).pre = R at *
  obtain ⟨s1, b1⟩ := R
  go_enter Try.func42, Try.ntmps42
  go_wp2_with fail
  refine CE.out.mono ?_
  rintro ev w1 ⟨rfl, D1, h1⟩
  have B1 := Lib.hid (show Below w.heap.size w w1 by
    obtain ⟨_, _⟩ := h1.inv
    exact HB2.out.trans ⟨h1.kx.os, h1.kx.tape, h1.kx.output, h1.kx.size, fun j hj => h1.kx.block j (by have := HB2.out.size; omega) (by show ¬ j = w.heap.size + 1; omega)⟩)
  clear h1 CE HB HB2
  go_wp2
  go_ret
  exact ⟨rfl, B1.out⟩
set_option maxRecDepth 100000 in
set_option maxHeartbeats 4000000 in
theorem check_any (x : NT) (hx : x.size ≤ 2000000) (w : World) (ok : Nat → Prop) (hok : x.Ok w ok) : Calls Try.prog 16 #[x.val] w (Gives (.int .i64 (ME.checkE x.n)) w) := by
  have hsz : x.n.size = x.size := NT.size_n x
  have HE : Hid (ME.checkE x.n = if 6 < x.n.depth then 9 else if 40 < x.size then 3 else if ME.wideB x.n.pre = false then 3 else ME.firstN x.n.pre) := Lib.hid (by unfold ME.checkE; rw [hsz])
  obtain ⟨o, b, v, A, c, k⟩ := x
  obtain ⟨x0, x1, x2, x3, x4, x5, rfl⟩ := six hok.six
  have HB := Lib.hid (below_new w (.cells #[.int .i64 o, .int .i64 x0, .int .i64 x1, .int .i64 x2, .int .i64 x3, .int .i64 x4, .int .i64 x5, .int .i64 v, .slice A k.len c] 28))
  have N0 := Lib.hid (heap_new w (.cells #[.int .i64 o, .int .i64 x0, .int .i64 x1, .int .i64 x2, .int .i64 x3, .int .i64 x4, .int .i64 x5, .int .i64 v, .slice A k.len c] 28))
  have CD := Lib.hid (deeper_any _ _ (Nat.le_refl _) _ ok 6 (by decide) (hok.below HB.out))
  have CL := Lib.hid (fun w' (hb : Below w.heap.size w w') => large_any _ hx w' ok (hok.below hb))
  have CS := Lib.hid (fun (w' : World) (hb : Below w.heap.size w w') => eachNode_any (check_step w'.heap.size) _ hx ⟨o, [x0, x1, x2, x3, x4, x5], v, A, c, k⟩ (Nat.le_refl _) (0 : Int) _ _ trivial (InV.start (T := 29) (enc := fun s : Int => Value.int .i64 s) w' (0 : Int))
    (hok.keep (fun j _ hj => (Below.heap_alloc w' _ j (by have := hb.size; omega)).trans (hb.block j hj)) (by rw [World.size_alloc]; have := hb.size; omega) (fun j _ hj => by show ¬ j = w'.heap.size; have := hb.size; omega)))
  have HV := Lib.hid (check_vis (NT.n ⟨o, [x0, x1, x2, x3, x4, x5], v, A, c, k⟩).pre)
  rw [NT.val_lit] at CD CL CS
  rw [NT.val_lit]
  clear hok hsz hx
  generalize visL checkSt (0 : Int) (NT.n ⟨o, [x0, x1, x2, x3, x4, x5], v, A, c, k⟩).pre = VR at *
  generalize ME.checkE (NT.n ⟨o, [x0, x1, x2, x3, x4, x5], v, A, c, k⟩) = R at *
  generalize ME.firstN (NT.n ⟨o, [x0, x1, x2, x3, x4, x5], v, A, c, k⟩).pre = fn at *
  generalize ME.wideB (NT.n ⟨o, [x0, x1, x2, x3, x4, x5], v, A, c, k⟩).pre = wd at *
  generalize NT.size ⟨o, [x0, x1, x2, x3, x4, x5], v, A, c, k⟩ = sz at *
  generalize (NT.n ⟨o, [x0, x1, x2, x3, x4, x5], v, A, c, k⟩).depth = dp at *
  obtain ⟨W0, hW0⟩ : ∃ W0, W0 = w.alloc (.cells #[.int .i64 o, .int .i64 x0, .int .i64 x1, .int .i64 x2, .int .i64 x3, .int .i64 x4, .int .i64 x5, .int .i64 v, .slice A k.len c] 28) := ⟨_, rfl⟩
  have CB : Hid (∀ w' : World, w'.heap[w.heap.size]? = some (.cells #[.int .i64 o, .int .i64 x0, .int .i64 x1, .int .i64 x2, .int .i64 x3, .int .i64 x4, .int .i64 x5, .int .i64 v, .slice A k.len c] 28 (0, 0)) →
      w'.cell? ⟨w.heap.size, 0, none⟩ = some (.int .i64 o) ∧ w'.cell? ⟨w.heap.size, 1, none⟩ = some (.int .i64 x0) ∧ w'.cell? ⟨w.heap.size, 2, none⟩ = some (.int .i64 x1) ∧ w'.cell? ⟨w.heap.size, 3, none⟩ = some (.int .i64 x2) ∧ w'.cell? ⟨w.heap.size, 4, none⟩ = some (.int .i64 x3) ∧ w'.cell? ⟨w.heap.size, 5, none⟩ = some (.int .i64 x4) ∧ w'.cell? ⟨w.heap.size, 6, none⟩ = some (.int .i64 x5) ∧ w'.cell? ⟨w.heap.size, 7, none⟩ = some (.int .i64 v) ∧ w'.cell? ⟨w.heap.size, 8, none⟩ = some (.slice A k.len c)) := Lib.hid (fun w' h => by
    refine ⟨?_, ?_, ?_, ?_, ?_, ?_, ?_, ?_, ?_⟩ <;> (rw [cell_of_row _ _ _ _ _ _ h]; rfl))
  go_enter Try.func16, Try.ntmps16
  go_upto_region 1 with (fail)
  rw [← hW0] at N0 HB CD ⊢
  clear hW0
  obtain ⟨a0, a1, a2, a3, a4, a5, a6, a7, a8⟩ := CB.out W0 N0.out
  go_wp2_with fail
  refine CD.out.mono ?_
  rintro ev w1 ⟨rfl, hb⟩
  have B1 := Lib.hid (HB.out.trans (hb.mono HB.out.size))
  have N1 := Lib.hid ((hb.block _ (Array.getElem?_eq_some_iff.1 N0.out).1).trans N0.out)
  clear hb CD HB N0 a0 a1 a2 a3 a4 a5 a6 a7 a8
  by_cases h1 : 6 < dp
  · have d1 : decide (6 < dp) = true := decide_eq_true h1
    have ER : Hid (R = 9) := Lib.hid (by rw [HE.out, if_pos h1])
    rw [d1]
    go_wp2
    go_ret
    exact ⟨by rw [ER.out]; rfl, B1.out⟩
  have d1 : decide (6 < dp) = false := decide_eq_false h1
  have HE2 := Lib.hid (HE.out.trans (if_neg h1))
  rw [d1]
  clear HE d1 h1
  obtain ⟨a0, a1, a2, a3, a4, a5, a6, a7, a8⟩ := CB.out w1 N1.out
  go_wp2_with fail
  refine (CL.out _ B1.out).mono ?_
  rintro ev w2 ⟨rfl, hb⟩
  have B2 := Lib.hid (B1.out.trans (hb.mono B1.out.size))
  have N2 := Lib.hid ((hb.block _ (Array.getElem?_eq_some_iff.1 N1.out).1).trans N1.out)
  clear hb B1 N1 a0 a1 a2 a3 a4 a5 a6 a7 a8
  by_cases h2 : sz ≤ 40 ∧ wd = true
  · have e : (!(decide (sz ≤ 40) && wd)) = false := by rw [decide_eq_true h2.1, h2.2]; rfl
    have HE3 : Hid (R = fn) := Lib.hid (by rw [HE2.out, if_neg (by omega), if_neg (by rw [h2.2]; decide)])
    rw [e]
    clear HE2 h2 e CL
    have CS2 := Lib.hid (CS.out w2 B2.out)
    have B3 := Lib.hid (B2.out.alloc B2.out.size (.cells #[.int .i64 0] 29))
    have N3 := Lib.hid ((Below.heap_alloc w2 (.cells #[.int .i64 0] 29) _ (Array.getElem?_eq_some_iff.1 N2.out).1).trans N2.out)
    have hg : w.heap.size ≤ w2.heap.size := B2.out.size
    clear CS B2 N2
    go_upto_region 6 with (fail)
    obtain ⟨W3, hW3⟩ : ∃ W3, W3 = w2.alloc (.cells #[.int .i64 0] 29) := ⟨_, rfl⟩
    rw [← hW3] at CS2 B3 N3 ⊢
    clear hW3
    obtain ⟨a0, a1, a2, a3, a4, a5, a6, a7, a8⟩ := CB.out W3 N3.out
    go_wp2_with fail
    refine CS2.out.mono ?_
    rintro ev w4 ⟨rfl, D1, h1⟩
    obtain ⟨_, hv⟩ := h1.inv
    rw [HV.out] at hv
    have B4 := Lib.hid (show Below w.heap.size w w4 from B3.out.trans ⟨h1.kx.os, h1.kx.tape, h1.kx.output, h1.kx.size, fun j hj => h1.kx.block j (by have := B3.out.size; omega) (by show ¬ j = w2.heap.size; omega)⟩)
    have c1 := hv.cell
    clear h1 hv CS2 B3 N3 a0 a1 a2 a3 a4 a5 a6 a7 a8
    go_wp2
    go_ret
    exact ⟨by rw [HE3.out]; rfl, B4.out⟩
  · have e : (!(decide (sz ≤ 40) && wd)) = true := by
      by_cases h3 : sz ≤ 40
      · cases wd with
        | true => exact absurd ⟨h3, rfl⟩ h2
        | false => simp
      · rw [decide_eq_false h3]; rfl
    have HE3 : Hid (R = 3) := Lib.hid (by
      rw [HE2.out]
      by_cases h3 : sz ≤ 40
      · cases wd with
        | true => exact absurd ⟨h3, rfl⟩ h2
        | false => rw [if_neg (by omega), if_pos rfl]
      · rw [if_pos (by omega)])
    rw [e]
    clear HE2 h2 e CL CS
    go_wp2
    go_ret
    exact ⟨by rw [HE3.out]; rfl, B2.out⟩
end Go.Proofs.Ytjjpfpgjpmedmaa
