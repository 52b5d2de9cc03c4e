/- The reference's Check: no claim of its own. -/
import Derived.Test.YtjjpfpgjpmedmaaERef
import Derived.Test.YtjjpfpgjpmedmaaJK
namespace Go.Proofs.Ytjjpfpgjpmedmaa
open Go.RowKit
open ME (F Nd)
theorem rangeB_eq (x : NT) : ME.rangeB x.n = if x.o = 2 ∨ x.o = 3 then true else if x.v < 1 ∨ 1000000 < x.v then false else decide (x.o = 5) || (decide (chk x.b = 0) && decide (1 ≤ totB x.b 6)) := rfl
set_option maxRecDepth 100000 in
set_option maxHeartbeats 8000000 in
theorem ranged_any (x : NT) (w : World) (ok : Nat → Prop) (hok : x.Ok w ok) : Calls Try.prog 67 #[x.val] w (Gives (.bool (ME.rangeB x.n)) w) := by
  have HF := Lib.hid (rangeB_eq x)
  obtain ⟨o, b, v, A, c, k⟩ := x
  obtain ⟨x0, x1, x2, x3, x4, x5, rfl⟩ := six hok.six
  have hn := hok.kids.few
  have HB := Lib.hid (below_new w (.cells #[.int .i64 o, .int .i64 x0, .int .i64 x1, .int .i64 x2, .int .i64 x3, .int .i64 x4, .int .i64 x5, .int .i64 v, .slice A k.len c] 28))
  have X0 := Lib.hid (show B9 (w.alloc (.cells #[.int .i64 o, .int .i64 x0, .int .i64 x1, .int .i64 x2, .int .i64 x3, .int .i64 x4, .int .i64 x5, .int .i64 v, .slice A k.len c] 28)) w.heap.size (.int .i64 o) (.int .i64 x0) (.int .i64 x1) (.int .i64 x2) (.int .i64 x3) (.int .i64 x4) (.int .i64 x5) (.int .i64 v) (.slice A k.len c) from heap_new _ _)
  have CC := Lib.hid (rbcheck_any x0 x1 x2 x3 x4 x5)
  have CT := Lib.hid (rtotal_any x0 x1 x2 x3 x4 x5)
  dsimp only at HF
  rw [NT.val_lit]
  generalize ME.rangeB (NT.n ⟨o, [x0, x1, x2, x3, x4, x5], v, A, c, k⟩) = R at *
  generalize chk [x0, x1, x2, x3, x4, x5] = ce at *
  generalize totB [x0, x1, x2, x3, x4, x5] 6 = tt at *
  clear hok
  obtain ⟨W0, hW0⟩ : ∃ W0, W0 = w.alloc (.cells #[.int .i64 o, .int .i64 x0, .int .i64 x1, .int .i64 x2, .int .i64 x3, .int .i64 x4, .int .i64 x5, .int .i64 v, .slice A k.len c] 28) := ⟨_, rfl⟩
  rw [← hW0] at X0 HB
  obtain ⟨a0, a1, a2, a3, a4, a5, a6, a7, a8⟩ := X0.out.cells
  go_enter Try.func67, Try.ntmps67
  go_upto_region 1 with (fail)
  rw [← hW0]
  clear hW0
  by_cases h2 : o = 2
  · have e2 : (o == 2) = true := beq_iff_eq.2 h2
    have ER2 : Hid (R = true) := Lib.hid (by rw [HF.out, if_pos (Or.inl h2)])
    clear HF
    go_wp2
    go_ret
    exact ⟨by rw [ER2.out]; rfl, HB.out⟩
  have e2 : (o == 2) = false := beq_eq_false_iff_ne.2 h2
  by_cases h3 : o = 3
  · have e3 : (o == 3) = true := beq_iff_eq.2 h3
    have ER2 : Hid (R = true) := Lib.hid (by rw [HF.out, if_pos (Or.inr h3)])
    clear HF
    go_wp2
    go_ret
    exact ⟨by rw [ER2.out]; rfl, HB.out⟩
  have e3 : (o == 3) = false := beq_eq_false_iff_ne.2 h3
  have HF1 := Lib.hid (HF.out.trans (if_neg (by rintro (q | q) <;> contradiction)))
  clear HF h2 h3
  by_cases hv1 : v < 1
  · have d1 : decide (v < 1) = true := decide_eq_true hv1
    have ER2 : Hid (R = false) := Lib.hid (by rw [HF1.out, if_pos (Or.inl hv1)])
    clear HF1
    go_wp2
    go_ret
    exact ⟨by rw [ER2.out]; rfl, HB.out⟩
  have d1 : decide (v < 1) = false := decide_eq_false hv1
  by_cases hv2 : 1000000 < v
  · have d2 : decide (1000000 < v) = true := decide_eq_true hv2
    have ER2 : Hid (R = false) := Lib.hid (by rw [HF1.out, if_pos (Or.inr hv2)])
    clear HF1
    go_wp2
    go_ret
    exact ⟨by rw [ER2.out]; rfl, HB.out⟩
  have d2 : decide (1000000 < v) = false := decide_eq_false hv2
  have HF2 := Lib.hid (HF1.out.trans (if_neg (by rintro (q | q) <;> contradiction)))
  clear HF1
  by_cases h5 : o = 5
  · have e5 : (o == 5) = true := beq_iff_eq.2 h5
    have ER2 : Hid (R = true) := Lib.hid (by rw [HF2.out, decide_eq_true h5, Bool.true_or])
    clear HF2
    go_wp2
    go_ret
    exact ⟨by rw [ER2.out]; rfl, HB.out⟩
  have e5 : (o == 5) = false := beq_eq_false_iff_ne.2 h5
  have HF3 : Hid (R = (decide (ce = 0) && decide (1 ≤ tt))) := Lib.hid (by rw [HF2.out, decide_eq_false h5, Bool.false_or])
  clear HF2
  go_wp2_with fail
  refine (CC.out _).mono ?_
  rintro ev w1 ⟨rfl, hb⟩
  have HB1 := Lib.hid (HB.out.trans (hb.mono HB.out.size))
  have X1 := Lib.hid (X0.out.keep hb)
  clear hb HB X0 CC a0 a1 a2 a3 a4 a5 a6 a7 a8
  obtain ⟨a0, a1, a2, a3, a4, a5, a6, a7, a8⟩ := X1.out.cells
  by_cases hc : ce = 0
  · have qc : (ce == 0) = true := beq_iff_eq.2 hc
    have ER1 : Hid (R = decide (1 ≤ tt)) := Lib.hid (by rw [HF3.out, decide_eq_true hc, Bool.true_and])
    clear HF3
    go_wp2_with fail
    refine (CT.out _).mono ?_
    rintro ev w2 ⟨rfl, hb⟩
    have HB2 := Lib.hid (HB1.out.trans (hb.mono HB1.out.size))
    clear hb HB1 X1 a0 a1 a2 a3 a4 a5 a6 a7 a8
    by_cases ht : 1 ≤ tt
    · have dt : decide (1 ≤ tt) = true := decide_eq_true ht
      have ER2 : Hid (R = true) := Lib.hid (by rw [ER1.out, dt])
      clear ER1
      go_wp2
      go_ret
      exact ⟨by rw [ER2.out]; rfl, HB2.out⟩
    · have dt : decide (1 ≤ tt) = false := decide_eq_false ht
      have ER2 : Hid (R = false) := Lib.hid (by rw [ER1.out, dt])
      clear ER1
      go_wp2
      go_ret
      exact ⟨by rw [ER2.out]; rfl, HB2.out⟩
  · have qc : (ce == 0) = false := beq_eq_false_iff_ne.2 hc
    have ER2 : Hid (R = false) := Lib.hid (by rw [HF3.out, decide_eq_false hc, Bool.false_and])
    clear HF3
    go_wp2
    go_ret
    exact ⟨by rw [ER2.out]; rfl, HB1.out⟩
/-- The i-th node of a list, as the walk spells it. -/
theorem nt_at {w : World} {Al : Option Addr} {n cl : Nat} {L : List NT} (h : Lst ntE w Al n cl L) {i : Nat} (hi : i < n) : ∃ (ad : Addr) (o y0 y1 y2 y3 y4 y5 v : Int) (A' : Option Addr) (c' : Nat) (k : FT), Al = some ad ∧ L[i]? = some ⟨o, [y0, y1, y2, y3, y4, y5], v, A', c', k⟩ ∧ w.cell? (ad.add (i * 9)) = some (.int .i64 o) ∧ w.cell? ⟨(ad.add (i * 9)).block, (ad.add (i * 9)).off + 1, none⟩ = some (.int .i64 y0) ∧ w.cell? ⟨(ad.add (i * 9)).block, (ad.add (i * 9)).off + 2, none⟩ = some (.int .i64 y1) ∧ w.cell? ⟨(ad.add (i * 9)).block, (ad.add (i * 9)).off + 3, none⟩ = some (.int .i64 y2) ∧ w.cell? ⟨(ad.add (i * 9)).block, (ad.add (i * 9)).off + 4, none⟩ = some (.int .i64 y3) ∧ w.cell? ⟨(ad.add (i * 9)).block, (ad.add (i * 9)).off + 5, none⟩ = some (.int .i64 y4) ∧ w.cell? ⟨(ad.add (i * 9)).block, (ad.add (i * 9)).off + 6, none⟩ = some (.int .i64 y5) ∧ w.cell? ⟨(ad.add (i * 9)).block, (ad.add (i * 9)).off + 7, none⟩ = some (.int .i64 v) ∧ w.cell? ⟨(ad.add (i * 9)).block, (ad.add (i * 9)).off + 8, none⟩ = some (.slice A' k.len c') := by
  obtain ⟨ad, x, e, hx, hf, _, hc⟩ := h.at0 hi
  obtain ⟨o, b, v, A', c', k⟩ := x
  obtain ⟨y0, y1, y2, y3, y4, y5, rfl⟩ := six (show b.length = 6 from hf)
  refine ⟨ad, o, y0, y1, y2, y3, y4, y5, v, A', c', k, e, hx, ?_, ?_, ?_, ?_, ?_, ?_, ?_, ?_, ?_⟩
  · have := hc 0 _ rfl; rwa [show ∀ a : Addr, a.add 0 = a from fun a => by unfold Addr.add; simp] at this
  all_goals first | exact hc 1 _ rfl | exact hc 2 _ rfl | exact hc 3 _ rfl | exact hc 4 _ rfl | exact hc 5 _ rfl | exact hc 6 _ rfl | exact hc 7 _ rfl | exact hc 8 _ rfl
/-- The same, in later worlds too. -/
theorem nt_at2 {w : World} {Al : Option Addr} {n cl : Nat} {L : List NT} (h : Lst ntE w Al n cl L) {i : Nat} (hi : i < n) : ∃ (ad : Addr) (o y0 y1 y2 y3 y4 y5 v : Int) (A' : Option Addr) (c' : Nat) (k : FT), Al = some ad ∧ L[i]? = some ⟨o, [y0, y1, y2, y3, y4, y5], v, A', c', k⟩ ∧ ∀ w', Below w.heap.size w w' → w'.cell? (ad.add (i * 9)) = some (.int .i64 o) ∧ w'.cell? ⟨(ad.add (i * 9)).block, (ad.add (i * 9)).off + 1, none⟩ = some (.int .i64 y0) ∧ w'.cell? ⟨(ad.add (i * 9)).block, (ad.add (i * 9)).off + 2, none⟩ = some (.int .i64 y1) ∧ w'.cell? ⟨(ad.add (i * 9)).block, (ad.add (i * 9)).off + 3, none⟩ = some (.int .i64 y2) ∧ w'.cell? ⟨(ad.add (i * 9)).block, (ad.add (i * 9)).off + 4, none⟩ = some (.int .i64 y3) ∧ w'.cell? ⟨(ad.add (i * 9)).block, (ad.add (i * 9)).off + 5, none⟩ = some (.int .i64 y4) ∧ w'.cell? ⟨(ad.add (i * 9)).block, (ad.add (i * 9)).off + 6, none⟩ = some (.int .i64 y5) ∧ w'.cell? ⟨(ad.add (i * 9)).block, (ad.add (i * 9)).off + 7, none⟩ = some (.int .i64 v) ∧ w'.cell? ⟨(ad.add (i * 9)).block, (ad.add (i * 9)).off + 8, none⟩ = some (.slice A' k.len c') := by
  obtain ⟨ad, o, y0, y1, y2, y3, y4, y5, v, A', c', k, e, hx, _⟩ := nt_at h hi
  refine ⟨ad, o, y0, y1, y2, y3, y4, y5, v, A', c', k, e, hx, fun w' hb => ?_⟩
  obtain ⟨ad2, o2, z0, z1, z2, z3, z4, z5, v2, A2, c2, k2, e2, hx2, hc⟩ := nt_at (h.keep hb) hi
  rw [e] at e2
  rw [hx] at hx2
  injection e2 with e2
  injection hx2 with hx2
  injection hx2 with q1 q2 q3 q4 q5 q6
  injection q2 with r0 q2
  injection q2 with r1 q2
  injection q2 with r2 q2
  injection q2 with r3 q2
  injection q2 with r4 q2
  injection q2 with r5 q2
  subst e2 q1 q3 q4 q5 q6 r0 r1 r2 r3 r4 r5
  exact hc
theorem drop_n {L : List NT} {i : Nat} {x : NT} (h : L[i]? = some x) : (L.drop i).map NT.n = x.n :: (L.drop (i + 1)).map NT.n := by
  obtain ⟨hl, rfl⟩ := List.getElem?_eq_some_iff.1 h
  rw [List.drop_eq_getElem_cons hl, List.map_cons]
set_option maxRecDepth 100000 in
set_option maxHeartbeats 8000000 in
theorem rcheck_any (x : NT) (hx : x.size ≤ 1000000) (w : World) (ok : Nat → Prop) (hok : x.Ok w ok) : Calls Try.prog 38 #[x.val] w (Gives (.int .i64 (ME.checkE x.n)) w) := by
  have hsz : x.n.size = x.size := NT.size_n x
  have HE : Hid (ME.checkE x.n = if 6 < x.n.depth then 9 else if 40 < x.size then 3 else if ME.wideB x.n.pre = false then 3 else ME.firstN x.n.pre) := Lib.hid (by unfold ME.checkE; rw [hsz])
  have CD := Lib.hid (fun w' (hb : Below w.heap.size w w') => rdepth_any 2000000 (Nat.le_refl _) x (by omega) w' _ (hok.below hb))
  have CP := Lib.hid (fun w' (hb : Below w.heap.size w w') => rpre_any 2000000 (Nat.le_refl _) x (by omega) w' _ (hok.below hb))
  have POK := Lib.hid (fun (w' : World) (hb : Below w.heap.size w w') => NT.pre_ok (hok.below hb))
  have PN := Lib.hid (NT.pre_n x)
  have PL := Lib.hid (NT.pre_length x)
  obtain ⟨o, b, v, A, c, k⟩ := x
  obtain ⟨x0, x1, x2, x3, x4, x5, rfl⟩ := six hok.six
  have hn := hok.kids.few
  have HB := Lib.hid (below_new w (.cells #[.int .i64 o, .int .i64 x0, .int .i64 x1, .int .i64 x2, .int .i64 x3, .int .i64 x4, .int .i64 x5, .int .i64 v, .slice A k.len c] 28))
  have X0 := Lib.hid (show B9 (w.alloc (.cells #[.int .i64 o, .int .i64 x0, .int .i64 x1, .int .i64 x2, .int .i64 x3, .int .i64 x4, .int .i64 x5, .int .i64 v, .slice A k.len c] 28)) w.heap.size (.int .i64 o) (.int .i64 x0) (.int .i64 x1) (.int .i64 x2) (.int .i64 x3) (.int .i64 x4) (.int .i64 x5) (.int .i64 v) (.slice A k.len c) from heap_new _ _)
  rw [NT.val_lit] at CD CP
  rw [NT.val_lit]
  clear hok hsz
  generalize ME.checkE (NT.n ⟨o, [x0, x1, x2, x3, x4, x5], v, A, c, k⟩) = R at *
  generalize (NT.n ⟨o, [x0, x1, x2, x3, x4, x5], v, A, c, k⟩).pre = P at *
  generalize NT.pre ⟨o, [x0, x1, x2, x3, x4, x5], v, A, c, k⟩ = L at *
  generalize (NT.n ⟨o, [x0, x1, x2, x3, x4, x5], v, A, c, k⟩).depth = dp at *
  generalize NT.size ⟨o, [x0, x1, x2, x3, x4, x5], v, A, c, k⟩ = sz at *
  obtain ⟨W0, hW0⟩ : ∃ W0, W0 = w.alloc (.cells #[.int .i64 o, .int .i64 x0, .int .i64 x1, .int .i64 x2, .int .i64 x3, .int .i64 x4, .int .i64 x5, .int .i64 v, .slice A k.len c] 28) := ⟨_, rfl⟩
  rw [← hW0] at X0 HB
  obtain ⟨a0, a1, a2, a3, a4, a5, a6, a7, a8⟩ := X0.out.cells
  go_enter Try.func38, Try.ntmps38
  go_upto_region 1 with (fail)
  rw [← hW0]
  clear hW0
  go_wp2_with fail
  refine (CD.out _ HB.out).mono ?_
  rintro ev w1 ⟨rfl, hb⟩
  have HB1 := Lib.hid (HB.out.trans (hb.mono HB.out.size))
  have X1 := Lib.hid (X0.out.keep hb)
  clear hb HB X0 CD a0 a1 a2 a3 a4 a5 a6 a7 a8
  obtain ⟨a0, a1, a2, a3, a4, a5, a6, a7, a8⟩ := X1.out.cells
  by_cases h1 : 6 < dp
  · have d1 : (6 : Int) < (dp : Int) := by omega
    have d1' : decide ((6 : Int) < (dp : Int)) = true := decide_eq_true d1
    have ER2 : Hid (R = 9) := Lib.hid (by rw [HE.out, if_pos h1])
    clear HE CP POK
    go_wp2
    go_ret
    exact ⟨by rw [ER2.out]; rfl, HB1.out⟩
  have d1 : ¬ (6 : Int) < (dp : Int) := by omega
  have d1' : decide ((6 : Int) < (dp : Int)) = false := decide_eq_false d1
  have HE1 := Lib.hid (HE.out.trans (if_neg h1))
  clear HE
  go_wp2_with fail
  refine (CP.out _ HB1.out).mono ?_
  rintro ev w2 ⟨Al, nl, cl, rfl, hl, hb⟩
  have HB2 := Lib.hid (HB1.out.trans (hb.mono HB1.out.size))
  have HL := Lib.hid hl
  have hnl : nl = sz := hl.len.symm.trans PL.out
  subst hnl
  have hcl := hl.cap
  clear hb hl HB1 X1 CP a0 a1 a2 a3 a4 a5 a6 a7 a8
  by_cases h2 : 40 < nl
  · have d2 : (40 : Int) < (nl : Int) := by omega
    have d2' : decide ((40 : Int) < (nl : Int)) = true := decide_eq_true d2
    have ER2 : Hid (R = 3) := Lib.hid (by rw [HE1.out, if_pos h2])
    clear HE1 POK
    go_wp2
    go_ret
    exact ⟨by rw [ER2.out]; rfl, HB2.out⟩
  have d2 : ¬ (40 : Int) < (nl : Int) := by omega
  have d2' : decide ((40 : Int) < (nl : Int)) = false := decide_eq_false d2
  have HE2 := Lib.hid (HE1.out.trans (if_neg h2))
  clear HE1
  have FM := Lib.hid (fun (w' : World) (hb : Below w.heap.size w w') (y : NT) (hy : y ∈ L) => formed_any y w' _ (POK.out w' hb y hy))
  have RG := Lib.hid (fun (w' : World) (hb : Below w.heap.size w w') (y : NT) (hy : y ∈ L) => ranged_any y w' _ (POK.out w' hb y hy))
  have PK := Lib.hid (fun (y : NT) (hy : y ∈ L) => (POK.out w (Below.refl _ _) y hy).kids.few)
  clear POK
  go_wp2
  go_loopw [4] (fun q wr => ∃ i : Nat, i ≤ nl ∧ q = .int .i64 i ∧ Hid (w2 = wr) ∧ Hid (ME.wideB P = ME.wideB ((L.drop i).map NT.n))) (fun q _ => nl - (intOf q).toNat)
  case atStart => exact ⟨0, Nat.zero_le _, rfl, Lib.hid rfl, Lib.hid (by rw [← PN.out]; rfl)⟩
  case round =>
    obtain ⟨i, hi, rfl, hEW, HW⟩ := hrel
    obtain rfl : w2 = wr := hEW.out
    clear hEW
    by_cases hlt : i < nl
    · obtain ⟨ad, o', y0, y1, y2, y3, y4, y5, v', A', c', k', rfl, hLi, z0, z1, z2, z3, z4, z5, z6, z7, z8⟩ := nt_at HL.out hlt
      have hlt' : (i : Int) < (nl : Int) := by omega
      have hpk := PK.out _ (List.mem_of_getElem? hLi)
      have hpk' : k'.len ≤ 9223372036854775807 := hpk
      have HW2 : Hid (ME.wideB P = (decide (k'.len ≤ 8) && ME.wideB ((L.drop (i + 1)).map NT.n))) := Lib.hid (by
        rw [HW.out, drop_n hLi, show k'.len = (NT.n ⟨o', [y0, y1, y2, y3, y4, y5], v', A', c', k'⟩).k.len from (FT.len_f k').symm]; rfl)
      clear HW hLi hpk z0 z1 z2 z3 z4 z5 z6 z7
      by_cases h8 : k'.len ≤ 8
      · have i8 : ¬ (8 : Int) < (k'.len : Int) := by omega
        have d8 : decide ((8 : Int) < (k'.len : Int)) = false := decide_eq_false i8
        have HW3 : Hid (ME.wideB P = ME.wideB ((L.drop (i + 1)).map NT.n)) := Lib.hid (by rw [HW2.out, decide_eq_true h8, Bool.true_and])
        clear HW2
        go_wp2
        go_roundw
        case rel => exact ⟨i + 1, by omega, by go_num, Lib.hid (by first | rfl | trivial), HW3⟩
        case measure => simp [intOf]; omega
      · have i8 : (8 : Int) < (k'.len : Int) := by omega
        have d8 : decide ((8 : Int) < (k'.len : Int)) = true := decide_eq_true i8
        have ER2 : Hid (R = 3) := Lib.hid (by rw [HE2.out, if_pos (by rw [HW2.out, decide_eq_false h8, Bool.false_and])])
        clear HW2
        go_wp2
        exact bodyPost_ret (v := .int .i64 3) (by simp [results, Try.results38, go_sem]) rfl ⟨by rw [ER2.out], HB2.out⟩
    · have hlt' : ¬ (i : Int) < (nl : Int) := by omega
      have HW3 : Hid (ME.wideB P = true) := Lib.hid (by rw [HW.out, List.drop_of_length_le (by rw [PL.out]; omega)]; rfl)
      have HE3 := Lib.hid (HE2.out.trans (if_neg (by rw [HW3.out]; decide)))
      clear HW HW3 HE2
      go_wp2
      go_loopw [5] (fun q wr => ∃ i : Nat, i ≤ nl ∧ q = .int .i64 i ∧ Hid (Below w2.heap.size w2 wr) ∧ Hid (ME.firstN P = ME.firstN ((L.drop i).map NT.n))) (fun q _ => nl - (intOf q).toNat)
      case atStart => exact ⟨0, Nat.zero_le _, rfl, Lib.hid (Below.refl _ _), Lib.hid (by rw [← PN.out]; rfl)⟩
      case round =>
        obtain ⟨j, hj, rfl, HQ, HW⟩ := hrel
        by_cases hlj : j < nl
        · obtain ⟨ad, o', y0, y1, y2, y3, y4, y5, v', A', c', k', rfl, hLi, hZ⟩ := nt_at2 (HL.out.keep HQ.out) hlj
          have HZ := Lib.hid hZ
          clear hZ
          obtain ⟨z0, z1, z2, z3, z4, z5, z6, z7, z8⟩ := HZ.out wr (Below.refl _ _)
          have hlj' : (j : Int) < (nl : Int) := by omega
          have BQ := Lib.hid (HB2.out.trans (HQ.out.mono HB2.out.size))
          have FM1 := Lib.hid (fun w' hb => FM.out w' hb _ (List.mem_of_getElem? hLi))
          have RG1 := Lib.hid (fun w' hb => RG.out w' hb _ (List.mem_of_getElem? hLi))
          rw [NT.val_lit] at FM1 RG1
          have HN : Hid (ME.firstN P = if ME.nodeE (NT.n ⟨o', [y0, y1, y2, y3, y4, y5], v', A', c', k'⟩) ≠ 0 then ME.nodeE (NT.n ⟨o', [y0, y1, y2, y3, y4, y5], v', A', c', k'⟩) else ME.firstN ((L.drop (j + 1)).map NT.n)) := Lib.hid (by rw [HW.out, drop_n hLi]; rfl)
          have HND : Hid (ME.nodeE (NT.n ⟨o', [y0, y1, y2, y3, y4, y5], v', A', c', k'⟩) = if ME.formB (NT.n ⟨o', [y0, y1, y2, y3, y4, y5], v', A', c', k'⟩) = false then 2 else if ME.rangeB (NT.n ⟨o', [y0, y1, y2, y3, y4, y5], v', A', c', k'⟩) = false then 4 else 0) := Lib.hid rfl
          clear hLi HW FM RG
          generalize ME.nodeE (NT.n ⟨o', [y0, y1, y2, y3, y4, y5], v', A', c', k'⟩) = ne at *
          generalize ME.formB (NT.n ⟨o', [y0, y1, y2, y3, y4, y5], v', A', c', k'⟩) = fb at *
          generalize ME.rangeB (NT.n ⟨o', [y0, y1, y2, y3, y4, y5], v', A', c', k'⟩) = gb at *
          obtain ⟨fr, hfr⟩ : ∃ fr, fr = ME.firstN ((L.drop (j + 1)).map NT.n) := ⟨_, rfl⟩
          have HFR := Lib.hid hfr
          rw [← hfr] at HN
          clear hfr
          go_wp2_with fail
          refine (FM1.out _ BQ.out).mono ?_
          rintro ev w3 ⟨rfl, hb⟩
          have BQ3 := Lib.hid (BQ.out.trans (hb.mono BQ.out.size))
          have HQ3 := Lib.hid (HQ.out.trans (hb.mono HQ.out.size))
          clear z0 z1 z2 z3 z4 z5 z6 z7 z8 BQ HQ FM1
          obtain ⟨z0, z1, z2, z3, z4, z5, z6, z7, z8⟩ := HZ.out _ hb
          clear hb HZ
          cases fb
          · have ER2 : Hid (R = 2) := Lib.hid (by rw [HE3.out, HN.out, HND.out]; rfl)
            clear HN HND HE3
            go_wp2
            exact bodyPost_ret (v := .int .i64 2) (by simp [results, Try.results38, go_sem]) rfl ⟨by rw [ER2.out], BQ3.out⟩
          · go_wp2_with fail
            refine (RG1.out _ BQ3.out).mono ?_
            rintro ev w4 ⟨rfl, hb⟩
            have BQ4 := Lib.hid (BQ3.out.trans (hb.mono BQ3.out.size))
            have HQ4 := Lib.hid (HQ3.out.trans (hb.mono HQ3.out.size))
            clear hb z0 z1 z2 z3 z4 z5 z6 z7 z8 BQ3 HQ3 RG1
            cases gb
            · have ER2 : Hid (R = 4) := Lib.hid (by rw [HE3.out, HN.out, HND.out]; rfl)
              clear HN HND HE3
              go_wp2
              exact bodyPost_ret (v := .int .i64 4) (by simp [results, Try.results38, go_sem]) rfl ⟨by rw [ER2.out], BQ4.out⟩
            · have HW2 : Hid (ME.firstN P = ME.firstN ((L.drop (j + 1)).map NT.n)) := Lib.hid (by rw [HN.out, HND.out, HFR.out]; rfl)
              clear HN HND
              go_wp2
              go_roundw
              case rel => exact ⟨j + 1, by omega, by go_num, HQ4, HW2⟩
              case measure => simp [intOf]; omega
        · have hlj' : ¬ (j : Int) < (nl : Int) := by omega
          have ER2 : Hid (R = 0) := Lib.hid (by rw [HE3.out, HW.out, List.drop_of_length_le (by rw [PL.out]; omega)]; rfl)
          have BQ := Lib.hid (HB2.out.trans (HQ.out.mono HB2.out.size))
          clear HW HE3
          go_wp2
          exact bodyPost_ret (v := .int .i64 0) (by simp [results, Try.results38, go_sem]) rfl ⟨by rw [ER2.out], BQ.out⟩
end Go.Proofs.Ytjjpfpgjpmedmaa
