/- Names of the program: no claim of its own. -/
import Derived.Test.YtooeafpcbejpdaaRNReg
import Derived.Test.YtooeafpcbejpdaaMathR5
import Derived.Deep.DeepCutAuto
namespace Go.Proofs.Ytooeafpcbejpdaa
open Go.RowKit
open MR (Bd)
attribute [local go_sem] Oper.semAt_some
/-- What lay when the loop began. -/
structure OldN (w : World) (A : Option Addr) (n c : Nat) (L : List Bd) (X : World) : Prop where
  box : Boxed X w.heap.size 29 (.slice A n c)
  lst : Reads X w.heap.size 4 A n (bdE.all L)
  below : Below w.heap.size w X
section
variable {w X Y : World} {A : Option Addr} {n c : Nat} {L : List Bd} {b e : Nat}
theorem OldN.keep (h : OldN w A n c L X) (hb : Below (w.heap.size + 1) X Y) : OldN w A n c L Y :=
  ⟨(hb.block _ (by omega)).trans h.box, h.lst.below (hb.mono (by omega)), h.below.trans (hb.mono (by omega))⟩
theorem OldN.step (h : OldN w A n c L X) (hs : Stp b e X Y) (hL : w.heap.size + 1 ≤ b) : OldN w A n c L Y := h.keep (hs.isBelow hL h.box.lt)
end
set_option maxRecDepth 100000 in
set_option maxHeartbeats 4000000 in
theorem names_any (A : Option Addr) (n c : Nat) (L : List Bd) (m : Int) (w : World) (h : Lst bdE w A n c L) :
    Calls Try.prog 22 #[.slice A n c, .int .i64 m] w (GivesL strE (MR.namesL L m) w) := by
  have hn := h.few
  have hc := h.cap
  have HL := Lib.hid h.len
  have HF := Lib.hid h.fine
  have H := Lib.hid h.reads
  have HIt := Lib.hid (fun Bn w h => elements_iter m Bn w h)
  clear h
  rw [← MR.nmF_8]
  obtain ⟨xs, hxs⟩ : ∃ xs, xs = MR.elemsK m 8 := ⟨_, rfl⟩
  have HX := Lib.hid hxs
  have HLen := Lib.hid (show xs.length ≤ 8 by rw [hxs]; exact MR.elemsK_len m 8)
  have HMem := Lib.hid (show ∀ x ∈ xs, ∃ j : Nat, j < 8 ∧ x = (j : Int) by rw [hxs]; exact fun x hx => MR.elemsK_mem hx)
  have HStop := Lib.hid (show ∀ (pre : List Int) (x : Int), (pre ++ [x]) <+: xs → (L.length : Int) ≤ x → MR.nmF L xs = MR.nmF L pre by rw [hxs]; exact fun pre x h1 h2 => MR.nmF_stop h1 h2)
  rw [← hxs] at HIt ⊢
  clear hxs
  refine (callsIn_wide (n := 5)).1 ?_
  refine callsIn_of_wp_marks Try.func22 rfl trivial ?_ rfl
  simp only [Try.ntmps22, List.size_toArray, List.length_cons, List.length_nil, Nat.reduceAdd, Nat.reduceSub, Array.replicate_succ, Array.replicate_zero, List.push_toArray, List.append_toArray, List.nil_append, List.cons_append]
  refine wpIn_wide.2 ?_
  obtain ⟨i0, hi, hz0', hz1', hz2'⟩ := info_parts infoStr
  have O0 := Lib.hid (show OldN w A n c L (w.alloc (.cells #[.slice A n c] 29)) from ⟨Boxed.new w _ _, H.out.below (below_new _ _), below_new _ _⟩)
  have hs0 : (w.alloc (.cells #[.slice A n c] 29)).heap.size = w.heap.size + 1 := by simp
  go_upto_region 1 with (fail)
  generalize w.alloc (.cells #[.slice A n c] 29) = W0 at *
  have O1 := Lib.hid (O0.out.keep (Y := W0.alloc (.cells #[.slice none 0 0] 37)) (by rw [← hs0]; exact below_new _ _))
  have T1 := Lib.hid (Boxed.new W0 37 (.slice none 0 0))
  rw [hs0] at T1
  have hs1 : (W0.alloc (.cells #[.slice none 0 0] 37)).heap.size = w.heap.size + 2 := by simp; omega
  go_upto_region 2 with (fail)
  try rw [hs0]
  generalize W0.alloc (.cells #[.slice none 0 0] 37) = W1 at *
  clear O0 hs0
  go_wp2_with fail
  refine (elements_any m _).mono ?_
  rintro ev2 W2 ⟨rfl, rfl⟩
  have O4 := Lib.hid (O1.out.keep (Y := W1.alloc (.cells #[.int .i64 m] 3)) ((below_new _ _).mono (by omega)))
  have T4 := Lib.hid (T1.out.alloc (.cells #[.int .i64 m] 3))
  have G4 := Lib.hid (Boxed.new W1 3 (.int .i64 m))
  rw [hs1] at G4
  have hs4 : (W1.alloc (.cells #[.int .i64 m] 3)).heap.size = w.heap.size + 3 := by simp; omega
  clear O1 T1
  go_wp2
  try rw [hs1]
  generalize W1.alloc (.cells #[.int .i64 m] 3) = W4 at *
  clear hs1
  refine (wpIn_wide (n := 5)).1 (range_int 9 6 (gf := 36) (lb := #[.pointer (some ⟨w.heap.size + 2, 0, none⟩)]) (xs := xs) (Bn := w.heap.size + 2) rfl (enters_of Try.func36 (by kernel_rfl) rfl)
    (HIt.out _ W4 G4.out) (by omega) (fun _ => rfl)
    (fun e pre X => OldN w A n c L X ∧ ∃ v, Boxed X (w.heap.size + 1) 37 v ∧ OwnL strE 9 X e v (MR.nmF L pre))
    (fun c' e pre X => c' = .exit 0 ∧ OldN w A n c L X ∧ ∃ v, Boxed X (w.heap.size + 1) 37 v ∧ OwnL strE 9 X e v (MR.nmF L xs))
    ?hI ?hIx ?h0 ?assign ?body ?done ?stop)
  case hI =>
    rintro e pre X Y he heX ⟨ho, v, hv, hr⟩ hs
    exact ⟨ho.step hs (by omega), v, (hs.heap hv.lt (.inl (by omega))).trans hv, hr.step hs (Nat.le_refl _)⟩
  case hIx =>
    rintro c e pre X Y he heX ⟨rfl, ho, v, hv, hr⟩ hs
    exact ⟨rfl, ho.step hs (by omega), v, (hs.heap hv.lt (.inl (by omega))).trans hv, hr.step hs (Nat.le_refl _)⟩
  case h0 =>
    intro e X he heX hb
    exact ⟨O4.out.keep (hb.mono (by omega)), _, (hb.block _ (by omega)).trans T4.out, OwnL.nil _ _ _⟩
  case assign =>
    rintro l e pre x X he heX ⟨ho, v, hv, hr⟩ hpre
    unfold encI
    simp only [List.setIfInBounds_toArray, List.set_cons_zero, List.set_cons_succ]
    gi_wp2
    exact ⟨Kpt.refl _ _ _ _, ⟨ho, v, hv, hr⟩, by trivial⟩
  case body =>
    rintro l e pre x X he heX ⟨ho, v, hv, hr⟩ hpre
    have hlen : pre.length + 1 ≤ 8 := by have := hpre.length_le; have h2 := HLen.out; rw [List.length_append, List.length_singleton] at this; omega
    have hnl := MR.nmF_len L pre
    obtain ⟨j, hj8, rfl⟩ := HMem.out x (hpre.subset (by simp))
    obtain ⟨A', c', rfl, hl, hbd⟩ := hr.form2 (by omega)
    simp only [List.setIfInBounds_toArray, List.set_cons_zero, List.set_cons_succ]
    have cv := hv.cell
    have cb := ho.box.cell
    have HV := Lib.hid hv
    have HR := Lib.hid hr
    have HO := Lib.hid ho
    clear hv hr ho hl
    by_cases hge : n ≤ j
    · have d : decide ((n : Int) ≤ (j : Int)) = true := decide_eq_true (by omega)
      have HS := Lib.hid (HStop.out pre (j : Int) hpre (by rw [HL.out]; omega))
      clear hpre
      gi_wp2
      exact ⟨Kpt.refl _ _ _ _, rfl, HO.out, _, HV.out, by rw [HS.out]; exact HR.out⟩
    · have d : decide ((n : Int) ≤ (j : Int)) = false := decide_eq_false (by omega)
      have LX : Lst bdE X A n c L := ⟨HO.out.lst.more HO.out.below.size, HL.out, hc, hn, HF.out⟩
      obtain ⟨ad, p, rfl, q1, hfi, hbk, x0, x1, x2, x3⟩ := bd_at LX (show j < n by omega)
      have HE : Hid (MR.nmF L (pre ++ [(j : Int)]) = MR.nmF L pre ++ [p.name]) := Lib.hid (by rw [MR.nmF_append, MR.nmF_one, Int.toNat_natCast, q1]; rfl)
      have HFp := Lib.hid hfi.1
      clear x1 x2 x3 hfi q1 LX hpre
      generalize hz : str p.name = s at *
      have HZ := Lib.hid hz
      clear hz
      have B0 : Below X.heap.size X X.drew := below_drawn X
      have HRV := Lib.hid (HR.out.keep B0)
      have HOV := Lib.hid (HO.out.keep (B0.mono HO.out.box.lt))
      have HVV := Lib.hid (show Boxed X.drew (w.heap.size + 1) 37 _ from (B0.block _ HV.out.lt).trans HV.out)
      have hsz : X.drew.heap.size = X.heap.size := rfl
      have KV : Kpt (w.heap.size + 2) W4.heap.size e X X.drew := Kpt.below B0 (by omega) heX
      have y0 := (B0.cell (p := ad.add (j * 4)) (by rw [block_of_add]; exact hbk)).trans x0
      gi_wp2_with fail
      obtain ⟨V, hV⟩ : ∃ V, X.drew = V := ⟨_, rfl⟩
      rw [hV] at HRV HOV HVV hsz KV y0
      have NA := (HVV.out.alloc (.cells #[.string s] 9)).cell
      refine names_region (X := V) _ _ _ _ _ _ _ _ _ _ _ _ _ _ _ _ _ _ _ _ hV (show Boxed V _ _ _ from HVV.out).cell HOV.out.box.cell y0 (by omega) NA ?_
      clear NA hV y0 x0 cv cb HR HO HV hbk
      unfold namesO7 namesO8
      have HX2 := Lib.hid (lone (heap_new V (.cells #[.string s] 9)))
      have LT := Lib.hid (fun g hg => HRV.out.1.lt g hg)
      gi_wp2_with (gi_at_builtin; refine wpListIn_append_own _ rfl _ _ 37 rfl e 9 i0 (.string ⟨#[]⟩) 1 16 Try.underlying37 hi hz0' hz1' hz2' rfl (by decide) _ _ _ rfl (HRV.out.1.alloc _) ⟨V.heap.size, 0, none⟩ 1 1 [.string s] rfl rfl HX2.out (by intro u hu; rw [List.mem_singleton.1 hu]; rfl) (by unfold maxLen; omega) (by omega) (by simp; omega) ?_; intro v' w1 hown' hgrow _; obtain ⟨g', cap', rfl⟩ := ownsRow_succ hown'; have hv1 := ((show Boxed V (w.heap.size + 1) 37 _ from HVV.out).alloc (.cells #[.string s] 9)).kept hgrow (fun he => absurd (LT.out _ he.symm).1 (by omega)); have hc1 := hv1.cell; have hf1 := hv1.frozen)
      have hg1 := LT.out
      have k1 : Kpt (w.heap.size + 2) W4.heap.size e X w1 := by
        refine (KV.trans (Kpt.alloc V (.cells #[.string s] 9) (by omega) (by omega))).trans ⟨hgrow.size, hgrow.block (w.heap.size + 2) (by simp; omega) (fun he => absurd (hg1 _ he.symm) (by omega)), fun k _ h2 => hgrow.block k (by simp; omega) (fun he => absurd (hg1 _ he.symm) (by omega))⟩
      have b1 : Below (w.heap.size + 1) V w1 := ((Below.refl _ V).alloc (by omega) _).grown hgrow (by simp; omega) (fun k hk => by have := hg1 k hk; omega)
      have hown2 := hown'.lt g' rfl
      refine ⟨k1.trans (Kpt.setCell _ 0 _ (by omega) (.inl (by omega))), HOV.out.keep (b1.setCell (p := ⟨w.heap.size + 1, 0, none⟩) (Nat.le_refl _) _), _, hv1.set _, ?_⟩
      rw [HE.out]
      refine ⟨?_, HRV.out.2.snoc HFp.out⟩
      rw [List.length_append, El.all_append, El.all_one]
      rw [← HZ.out] at hown'
      exact hown'.kept (grownBy_setCell' w1 (w.heap.size + 1) _) (.inr fun he => by
        have : g' = w.heap.size + 1 := by simpa [Value.ownBlock] using he
        omega)
  case done =>
    rintro e Y he heY ⟨ho, v, hv, hr⟩ hD
    dsimp only
    have hnl := Nat.le_trans (MR.nmF_len L xs) HLen.out
    have hr2 := hr.step (b := W4.heap.size) (Stp.putObj Y (.deferred none) (Nat.le_refl W4.heap.size) (by omega : W4.heap.size < e)) (Nat.le_refl _)
    obtain ⟨A', c', rfl, hl⟩ := hr2.form (by omega)
    have cv := hv.cell
    have HR := Lib.hid hl
    have HO := Lib.hid ho
    have HD := Lib.hid hD
    clear hr hr2 hl ho hv hD
    go_wp2
    refine ⟨by simp, .inl ⟨_, _, rfl, run_takeDeferred HD.out, ?_⟩⟩
    refine ⟨.slice A' _ c', by simp [results, Try.results22, go_sem], A', _, c', rfl, HR.out, ?_⟩
    exact HO.out.below.trans (((Below.refl _ Y)).grown (grownBy_putObj' Y W4.heap.size _) HO.out.below.size (fun k hk => by injection hk with hk; omega))
  case stop =>
    rintro c e pre Y he heY hpre ⟨rfl, ho, v, hv, hr⟩ hD
    dsimp only
    refine (wpIn_wide (n := 5)).2 ?_
    have hnl := Nat.le_trans (MR.nmF_len L xs) HLen.out
    have hr2 := hr.step (b := W4.heap.size) (Stp.putObj Y (.deferred none) (Nat.le_refl W4.heap.size) (by omega : W4.heap.size < e)) (Nat.le_refl _)
    obtain ⟨A', c', rfl, hl⟩ := hr2.form (by omega)
    have cv := hv.cell
    have HR := Lib.hid hl
    have HO := Lib.hid ho
    have HD := Lib.hid hD
    clear hr hr2 hl ho hv hD
    go_wp2
    refine ⟨by simp, .inl ⟨_, _, rfl, run_takeDeferred HD.out, ?_⟩⟩
    refine ⟨.slice A' _ c', by simp [results, Try.results22, go_sem], A', _, c', rfl, HR.out, ?_⟩
    exact HO.out.below.trans (((Below.refl _ Y)).grown (grownBy_putObj' Y W4.heap.size _) HO.out.below.size (fun k hk => by injection hk with hk; omega))
end Go.Proofs.Ytooeafpcbejpdaa
