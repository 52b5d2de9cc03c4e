/- The law's sets, and the reference's Sets: no claim of its own. -/
import Derived.Test.YtooeafpcbejpdaaRRange
import Derived.Deep.DeepCutAuto
namespace Go.Proofs.Ytooeafpcbejpdaa
open Go.RowKit
attribute [local go_sem] Oper.semAt_some
set_option maxRecDepth 100000 in
set_option maxHeartbeats 1000000 in
theorem rsets_any (n : Int) (w : World) :
    Calls Try.prog 10 #[.int .i64 n] w (GivesL intE (MR.setsL n) w) := by
  by_cases hn : 0 ≤ n ∧ n ≤ 8
  · obtain ⟨N, rfl⟩ := Int.eq_ofNat_of_zero_le hn.1
    have hN : N ≤ 8 := by omega
    have e := Lib.hid (MR.setsL_in hN)
    rw [e.out]
    have hM : (2 ^ N : Nat) ≤ 256 := by
      calc 2 ^ N ≤ 2 ^ 8 := Nat.pow_le_pow_right (by decide) hN
        _ = 256 := by decide
    have BA := Lib.hid (fun w' => bit_any N (by omega) w')
    clear e
    generalize (2 ^ N : Nat) = M at *
    have d1 : decide ((N : Int) < 0) = false := decide_eq_false (by omega)
    have d2 : decide (8 < (N : Int)) = false := decide_eq_false (by omega)
    obtain ⟨i0, hi, hz0, hz1, hz2⟩ := info_parts infoInt
    go_enter Try.func10, Try.ntmps10
    go_wp2
    go_loopw [3, 4] (fun v i wr => ∃ k : Nat, k ≤ M ∧ i = .int .i64 k ∧ Hid (OwnL intE 3 wr w.heap.size v (MR.setsP k)) ∧ Hid (Below w.heap.size w wr)) (fun _ i _ => M - (intOf i).toNat)
    case atStart => exact ⟨0, Nat.zero_le _, rfl, Lib.hid (OwnL.nil _ _ _), Lib.hid (Below.refl _ _)⟩
    case round =>
      obtain ⟨k, hk, rfl, HO, HB⟩ := hrel
      have hlen := MR.setsP_len k
      by_cases hlt : k < M
      · go_wp2_with fail
        refine (BA.out _).mono ?_
        rintro e w1 ⟨rfl, hb⟩
        have B1 := Lib.hid (HB.out.trans (hb.mono HB.out.size))
        have O1 := Lib.hid (HO.out.keep hb)
        clear hb HO HB
        have d3 : decide ((k : Int) < (M : Int)) = true := decide_eq_true (by omega)
        have O2 := Lib.hid (O1.out.keep (below_new w1 (.cells #[.int .i64 (k : Int)] 3)))
        have B2 := Lib.hid (B1.out.alloc B1.out.size (.cells #[.int .i64 (k : Int)] 3))
        have HX := Lib.hid (lone (heap_new w1 (.cells #[.int .i64 (k : Int)] 3)))
        have hsz := B1.out.size
        clear B1 O1
        go_wp2_with (at_builtin; refine wpList_append_own _ rfl _ _ 22 rfl w.heap.size 3 i0 (.int .i64 0) 1 8 Try.underlying22 hi hz0 hz1 hz2 rfl (by decide) _ _ _ rfl O2.out.1 ⟨w1.heap.size, 0, none⟩ 1 1 [.int .i64 (k : Int)] rfl rfl ?c1 ?c2 ?c3 ?c4 ?c5 ?_)
        case c1 => exact HX.out
        case c2 => intro u hu; rw [List.mem_singleton.1 hu]; rfl
        case c3 => unfold maxLen; omega
        case c4 => omega
        case c5 => simp; omega
        intro v' w2 hown' hgrow _
        have R := OwnL.app (x := (k : Int)) O2.out (by show _ ∧ _; constructor <;> omega) B2.out B2.out.size (by rw [hlen]; exact hown') hgrow
        rw [MR.setsP_succ] at R
        have O3 := Lib.hid R.1
        have B3 := Lib.hid R.2
        clear R hown' hgrow O2 B2 HX
        go_wp2
        go_roundw
        case rel => exact ⟨k + 1, by omega, by go_num, O3, B3⟩
        case measure => simp [intOf]; omega
      · obtain rfl : k = M := by omega
        obtain ⟨A', c', rfl, hl⟩ := HO.out.form (by omega)
        rw [MR.setsP_len] at hl ⊢
        have HL := Lib.hid hl
        clear hl HO
        have d3 : decide ((k : Int) < (k : Int)) = false := decide_eq_false (by omega)
        go_wp2_with fail
        refine (BA.out _).mono ?_
        rintro e w1 ⟨rfl, hb⟩
        have B1 := Lib.hid (HB.out.trans (hb.mono HB.out.size))
        have L1 := Lib.hid (HL.out.keep hb)
        clear hb HL HB
        go_wp2
        go_ret
        exact ⟨_, _, _, rfl, L1.out, B1.out⟩
  · have e := MR.setsL_out hn
    rw [e]
    by_cases h1 : n < 0
    · have d1 : decide (n < 0) = true := decide_eq_true h1
      go_enter Try.func10, Try.ntmps10
      go_wp2
      go_ret
      exact ⟨_, _, _, rfl, Lst.nil _, Below.refl _ _⟩
    · have d1 : decide (n < 0) = false := decide_eq_false h1
      have d2 : decide (8 < n) = true := decide_eq_true (by omega)
      go_enter Try.func10, Try.ntmps10
      go_wp2
      go_ret
      exact ⟨_, _, _, rfl, Lst.nil _, Below.refl _ _⟩
/-- What lay when the loop began. -/
structure OldL (w : World) (most : Int) (X : World) : Prop where
  most : Boxed X w.heap.size 3 (.int .i64 most)
  below : Below w.heap.size w X
theorem OldL.keep {w X Y : World} {most : Int} (h : OldL w most X) (hb : Below (w.heap.size + 1) X Y) : OldL w most Y :=
  ⟨(hb.block _ (by omega)).trans h.most, h.below.trans (hb.mono (by omega))⟩
theorem OldL.step {w X Y : World} {most : Int} {b e : Nat} (h : OldL w most X) (hs : Stp b e X Y) (hL : w.heap.size + 1 ≤ b) : OldL w most Y := h.keep (hs.isBelow hL h.most.lt)
def GivesS (xs : List Int) (w : World) (e : Ending) (w' : World) : Prop := ∃ A n c, e = .returned (.tuple #[.slice A n c, .bool true]) ∧ Lst intE w' A n c xs ∧ Below w.heap.size w w'
set_option maxRecDepth 100000 in
set_option maxHeartbeats 4000000 in
theorem lsets_any (n most : Int) (w : World) : Calls Try.prog 8 #[.int .i64 n, .int .i64 most] w (GivesS ((MR.setsL n).take most.toNat) w) := by
  obtain ⟨M, hM, hxs⟩ := MR.setsL_P n
  have HIt := Lib.hid (fun Bn w h => sets_iter n Bn w h)
  have HLen := Lib.hid (show (MR.setsL n).length ≤ 256 by rw [hxs, MR.setsP_len]; exact hM)
  have HFi := Lib.hid (show ∀ x ∈ MR.setsL n, intE.fine x by rw [hxs]; exact MR.setsP_fine M (by omega))
  clear hM hxs
  generalize MR.setsL n = xs at *
  refine (callsIn_wide (n := 5)).1 ?_
  refine callsIn_of_wp_marks Try.func8 rfl trivial ?_ rfl
  simp only [Try.ntmps8, List.size_toArray, List.length_cons, List.length_nil, Nat.reduceAdd, Nat.reduceSub, Array.replicate_succ, Array.replicate_zero, List.push_toArray, List.append_toArray, List.nil_append, List.cons_append]
  refine wpIn_wide.2 ?_
  obtain ⟨i0, hi, hz0', hz1', hz2'⟩ := info_parts infoInt
  have O0 := Lib.hid (show OldL w most (w.alloc (.cells #[.int .i64 most] 3)) from ⟨Boxed.new w _ _, below_new _ _⟩)
  have hs0 : (w.alloc (.cells #[.int .i64 most] 3)).heap.size = w.heap.size + 1 := by simp
  go_upto_region 1 with (fail)
  generalize w.alloc (.cells #[.int .i64 most] 3) = W0 at *
  have hnf : ∀ B w, (binOp .eql 46 (.func (.func 32) #[] #[.pointer (some ⟨B, 0, none⟩)]) .nilFunc).run Try.prog w = .ok (.bool false) w := fun B w => by kernel_rfl
  go_wp2_with fail
  refine (sets_any n _).mono ?_
  rintro ev2 W1 ⟨rfl, rfl⟩
  go_upto_region 4 with (fail)
  try rw [hs0]
  have G1 := Lib.hid (Boxed.new W0 3 (.int .i64 n))
  have O1 := Lib.hid (O0.out.keep (Y := W0.alloc (.cells #[.int .i64 n] 3)) (by rw [← hs0]; exact below_new _ _))
  have hs1 : (W0.alloc (.cells #[.int .i64 n] 3)).heap.size = w.heap.size + 2 := by simp; omega
  clear O0 hnf
  generalize W0.alloc (.cells #[.int .i64 n] 3) = W1 at *
  rw [hs0] at G1
  have O4 := Lib.hid (O1.out.keep (Y := W1.alloc (.cells #[.slice none 0 0] 22)) ((below_new _ _).mono (by omega)))
  have T4 := Lib.hid (Boxed.new W1 22 (.slice none 0 0))
  have G4 := Lib.hid (G1.out.alloc (.cells #[.slice none 0 0] 22))
  rw [hs1] at T4
  have hs4 : (W1.alloc (.cells #[.slice none 0 0] 22)).heap.size = w.heap.size + 3 := by simp; omega
  clear O1 G1
  go_wp2
  try rw [hs1]
  generalize W1.alloc (.cells #[.slice none 0 0] 22) = W4 at *
  clear hs0 hs1
  refine (wpIn_wide (n := 5)).1 (range_int 14 8 (gf := 32) (lb := #[.pointer (some ⟨w.heap.size + 1, 0, none⟩)]) (xs := xs) (Bn := w.heap.size + 1) rfl (enters_of Try.func32 (by kernel_rfl) rfl)
    (HIt.out _ W4 G4.out) (by omega) (fun _ => rfl)
    (fun e pre X => OldL w most X ∧ ∃ v, Boxed X (w.heap.size + 2) 22 v ∧ OwnL intE 3 X e v pre ∧ pre.length ≤ most.toNat)
    (fun c e pre X => c = .exit 0 ∧ OldL w most X ∧ ∃ v, Boxed X (w.heap.size + 2) 22 v ∧ OwnL intE 3 X e v (pre.take most.toNat) ∧ most.toNat ≤ pre.length)
    ?hI ?hIx ?h0 ?assign ?body ?done ?stop)
  case hI =>
    rintro e pre X Y he heX ⟨ho, v, hv, hr, hle⟩ hs
    exact ⟨ho.step hs (by omega), v, (hs.heap hv.lt (.inl (by omega))).trans hv, hr.step hs (Nat.le_refl _), hle⟩
  case hIx =>
    rintro c e pre X Y he heX ⟨rfl, ho, v, hv, hr, hle⟩ hs
    exact ⟨rfl, ho.step hs (by omega), v, (hs.heap hv.lt (.inl (by omega))).trans hv, hr.step hs (Nat.le_refl _), hle⟩
  case h0 =>
    intro e X he heX hb
    exact ⟨O4.out.keep (hb.mono (by omega)), _, (hb.block _ (by omega)).trans T4.out, OwnL.nil _ _ _, Nat.zero_le _⟩
  case assign =>
    rintro l e pre x X he heX ⟨ho, v, hv, hr, hle⟩ hpre
    unfold encI
    simp only [List.setIfInBounds_toArray, List.set_cons_zero, List.set_cons_succ]
    gi_wp2
    exact ⟨Kpt.refl _ _ _ _, ⟨ho, v, hv, hr, hle⟩, by trivial⟩
  case body =>
    rintro l e pre x X he heX ⟨ho, v, hv, hr, hle⟩ hpre
    have hlen : pre.length + 1 ≤ 256 := by have := hpre.length_le; have h2 := HLen.out; rw [List.length_append, List.length_singleton] at this; omega
    have hfx : intE.fine x := HFi.out x (hpre.subset (by simp))
    have hfx' := hfx
    obtain ⟨A', c', rfl, hl, hbd⟩ := hr.form2 (by omega)
    have HXf := Lib.hid hfx
    simp only [List.setIfInBounds_toArray, List.set_cons_zero, List.set_cons_succ]
    have cv := hv.cell
    have cm := ho.most.cell
    have HV := Lib.hid hv
    have HR := Lib.hid hr
    have HO := Lib.hid ho
    clear hv hr ho hl hfx hfx' hpre
    by_cases hge : most ≤ (pre.length : Int)
    · have d : decide (most ≤ (pre.length : Int)) = true := decide_eq_true hge
      gi_wp2
      exact ⟨Kpt.refl _ _ _ _, rfl, HO.out, _, HV.out, by rw [List.take_left' (by omega)]; exact HR.out, by rw [List.length_append]; omega⟩
    · have d : decide (most ≤ (pre.length : Int)) = false := decide_eq_false hge
      have HX2 := Lib.hid (lone (heap_new X (.cells #[.int .i64 x] 3)))
      have LT := Lib.hid (fun g hg => HR.out.1.lt g hg)
      gi_wp2_with (gi_at_builtin; refine wpListIn_append_own _ rfl _ _ 22 rfl e 3 i0 (.int .i64 0) 1 8 Try.underlying22 hi hz0' hz1' hz2' rfl (by decide) _ _ _ rfl (HR.out.1.alloc _) ⟨X.heap.size, 0, none⟩ 1 1 [.int .i64 x] rfl rfl HX2.out (by intro u hu; rw [List.mem_singleton.1 hu]; rfl) (by unfold maxLen; omega) (by omega) (by simp; omega) ?_; intro v' w1 hown' hgrow _; obtain ⟨g', cap', rfl⟩ := ownsRow_succ hown'; have hv1 := (HV.out.alloc (.cells #[.int .i64 x] 3)).kept hgrow (fun he => absurd (LT.out _ he.symm).1 (by omega)); have hc1 := hv1.cell; have hf1 := hv1.frozen)
      have hg1 := LT.out
      have k1 : Kpt (w.heap.size + 1) W4.heap.size e X w1 := by
        refine (Kpt.alloc X (.cells #[.int .i64 x] 3) (by omega) heX).trans ⟨hgrow.size, hgrow.block (w.heap.size + 1) (by simp; omega) (fun he => absurd (hg1 _ he.symm) (by omega)), fun k _ h2 => hgrow.block k (by simp; omega) (fun he => absurd (hg1 _ he.symm) (by omega))⟩
      have b1 : Below (w.heap.size + 1) X w1 := ((Below.refl _ X).alloc (by omega) _).grown hgrow (by simp; omega) (fun k hk => by have := hg1 k hk; omega)
      have hown2 := hown'.lt g' rfl
      rw [hs4] at k1
      refine ⟨k1.trans (Kpt.setCell _ 0 _ (by omega) (.inl (by omega))), HO.out.keep (b1.setCell (p := ⟨w.heap.size + 2, 0, none⟩) (by show w.heap.size + 1 ≤ w.heap.size + 2; omega) _), _, hv1.set _, ⟨?_, HR.out.2.snoc HXf.out⟩, ?_⟩
      · rw [List.length_append, El.all_append, El.all_one]
        exact hown'.kept (grownBy_setCell' w1 (w.heap.size + 2) _) (.inr fun he => by
          have : g' = w.heap.size + 2 := by simpa [Value.ownBlock] using he
          omega)
      · rw [List.length_append, List.length_singleton]; omega
  case done =>
    rintro e Y he heY ⟨ho, v, hv, hr, hle⟩ hD
    dsimp only
    have hr2 := hr.step (b := W4.heap.size) (Stp.putObj Y (.deferred none) (Nat.le_refl W4.heap.size) (by omega : W4.heap.size < e)) (Nat.le_refl _)
    obtain ⟨A', c', rfl, hl⟩ := hr2.form (by have := HLen.out; omega)
    have cv := hv.cell
    have HR := Lib.hid hl
    have HO := Lib.hid ho
    have HD := Lib.hid hD
    clear hr hr2 hl ho hv hD
    go_wp2
    refine ⟨by simp, .inl ⟨_, _, rfl, run_takeDeferred HD.out, ?_⟩⟩
    refine ⟨.tuple #[.slice A' xs.length c', .bool true], by simp [results, Try.results8, go_sem], A', _, c', rfl, ?_, ?_⟩
    · rw [List.take_of_length_le hle]; exact HR.out
    · exact HO.out.below.trans (((Below.refl _ Y)).grown (grownBy_putObj' Y W4.heap.size _) HO.out.below.size (fun k hk => by injection hk with hk; omega))
  case stop =>
    rintro c e pre Y he heY hpre ⟨rfl, ho, v, hv, hr, hle⟩ hD
    dsimp only
    refine (wpIn_wide (n := 5)).2 ?_
    have hpl : pre.length ≤ 256 := Nat.le_trans hpre.length_le HLen.out
    have htk : pre.take most.toNat = xs.take most.toNat := by
      obtain ⟨t, rfl⟩ := hpre
      rw [List.take_append_of_le_length hle]
    rw [htk] at hr
    have hr2 := hr.step (b := W4.heap.size) (Stp.putObj Y (.deferred none) (Nat.le_refl W4.heap.size) (by omega : W4.heap.size < e)) (Nat.le_refl _)
    obtain ⟨A', c', rfl, hl⟩ := hr2.form (by rw [List.length_take]; have := HLen.out; omega)
    have cv := hv.cell
    have HR := Lib.hid hl
    have HO := Lib.hid ho
    have HD := Lib.hid hD
    clear hr hr2 hl ho hv hD
    go_wp2
    refine ⟨by simp, .inl ⟨_, _, rfl, run_takeDeferred HD.out, ?_⟩⟩
    refine ⟨.tuple #[.slice A' _ c', .bool true], by simp [results, Try.results8, go_sem], A', _, c', rfl, HR.out, ?_⟩
    exact HO.out.below.trans (((Below.refl _ Y)).grown (grownBy_putObj' Y W4.heap.size _) HO.out.below.size (fun k hk => by injection hk with hk; omega))
end Go.Proofs.Ytooeafpcbejpdaa
