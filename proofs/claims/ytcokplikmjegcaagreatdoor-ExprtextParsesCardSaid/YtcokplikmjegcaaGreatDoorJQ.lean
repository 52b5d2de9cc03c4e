/- The program's Format: no claim of its own. -/
import Derived.Test.YtcokplikmjegcaaGreatDoorJN
import Derived.Test.YtcokplikmjegcaaGreatDoorJP
import Derived.Test.YtcokplikmjegcaaGreatDoorJG
namespace Go.Proofs.YtcokplikmjegcaaGreatDoor
open Go.RowKit
open MC (Pr)
open ME (F Nd)
/-- What Format hands back. -/
noncomputable def fmtV (L : List Pr) (n : Nd) : Value := .tuple #[.string (str (MX.fmtE L n).1), .int .i64 (MX.fmtE L n).2]
theorem ret_fmt {L : List Pr} {n : Nd} {s : List UInt8} {e : Int} (h : MX.fmtE L n = (s, e)) : Ending.returned (.tuple #[.string (str s), .int .i64 e]) = .returned (fmtV L n) := by unfold fmtV; rw [h]
theorem Lay.six_pre {w : World} {ok : Nat → Prop} : ∀ (t : FT) {a : Addr}, Lay w ok a t → ∀ z ∈ t.f.pre, z.b.length = 6
  | .nil, _, _ => fun z hz => by cases hz
  | .cons o b v A c k r, _, h => fun z hz => by
    have hz : z ∈ (⟨o, b, v, k.f⟩ : Nd) :: (k.f.pre ++ r.f.pre) := hz
    rcases List.mem_cons.1 hz with rfl | hz
    · exact h.1.2.2.1
    · rcases List.mem_append.1 hz with hz | hz
      · rcases h.2.2.2.1 with hk | ⟨ad, _, hk⟩
        · subst hk; cases hz
        · exact Lay.six_pre k hk z hz
      · exact Lay.six_pre r h.2.2.2.2 z hz
theorem NT.Ok.six_pre {x : NT} {w : World} {ok : Nat → Prop} (h : x.Ok w ok) : ∀ z ∈ x.n.pre, z.b.length = 6 := fun z hz => by
  rcases List.mem_cons.1 hz with rfl | hz
  · exact h.six
  · rcases h.kids.lay with hk | ⟨ad, _, hk⟩
    · rw [show x.n.k = x.k.f from rfl, hk] at hz; cases hz
    · exact Lay.six_pre x.k hk z hz
theorem str_ne {l : List UInt8} (h : l ≠ []) : ((str l).toList == ([] : List UInt8)) = false := by rw [ByteArray.toList_eq, str_data]; exact beq_eq_false_iff_ne.2 h
theorem textL_ne {L : List Pr} {b : List Int} : MC.textL L b ≠ [] := by unfold MC.textL; simp
set_option maxRecDepth 100000 in
set_option maxHeartbeats 8000000 in
theorem format12_any (A : Option Addr) (n cp : Nat) (L : List Pr) (x : NT) (hx : x.size ≤ 2000000) (w : World) (hp : Prs w A n cp L) (hok : x.Ok w (fun _ => True)) (ht : Tab w) (hops : Ops w) :
    Calls Tryz.prog 8 #[.slice A n cp, x.val] w (Gives (fmtV L x.n) w) := by
  obtain ⟨o, bb, v, A1, c1, k⟩ := x
  obtain ⟨x0, x1, x2, x3, x4, x5, rfl⟩ := six hok.six
  have h6 : ∀ z ∈ (NT.n (⟨o, [x0, x1, x2, x3, x4, x5], v, A1, c1, k⟩ : NT)).pre, z.b.length = 6 := hok.six_pre
  have B0 := Lib.hid (below_new w (.cells #[.int .i64 o, .int .i64 x0, .int .i64 x1, .int .i64 x2, .int .i64 x3, .int .i64 x4, .int .i64 x5, .int .i64 v, .slice A1 k.len c1] 27))
  have X0 : Hid (B9 (w.alloc (.cells #[.int .i64 o, .int .i64 x0, .int .i64 x1, .int .i64 x2, .int .i64 x3, .int .i64 x4, .int .i64 x5, .int .i64 v, .slice A1 k.len c1] 27)) w.heap.size (.int .i64 o) (.int .i64 x0) (.int .i64 x1) (.int .i64 x2) (.int .i64 x3) (.int .i64 x4) (.int .i64 x5) (.int .i64 v) (.slice A1 k.len c1)) := Lib.hid (heap_new _ _)
  have CL := Lib.hid (fun w' (hb : Below w.heap.size w w') => check_any A n cp L w' (hp.keep hb))
  have CX := Lib.hid (fun w' (hb : Below w.heap.size w w') => echeck_any (⟨o, [x0, x1, x2, x3, x4, x5], v, A1, c1, k⟩ : NT) hx w' (fun _ => True) (hok.below hb))
  have CP := Lib.hid (fun w' (hb : Below w.heap.size w w') => prod_any (⟨o, [x0, x1, x2, x3, x4, x5], v, A1, c1, k⟩ : NT) hx w' (fun _ => True) (hok.below hb))
  have HP := Lib.hid hp
  have HO := Lib.hid hok
  have HT := Lib.hid ht
  have HQ := Lib.hid hops
  rw [NT.val_lit] at CX CP ⊢
  clear hp hok ht hops
  go_enter Tryz.func8, Tryz.ntmps8
  go_upto_region 1 with (fail)
  obtain ⟨W0, hW0⟩ : ∃ W0, W0 = w.alloc (.cells #[.int .i64 o, .int .i64 x0, .int .i64 x1, .int .i64 x2, .int .i64 x3, .int .i64 x4, .int .i64 x5, .int .i64 v, .slice A1 k.len c1] 27) := ⟨_, rfl⟩
  rw [← hW0] at B0 X0 ⊢
  clear hW0
  go_wp2_with fail
  refine (CL.out _ B0.out).mono ?_
  rintro ev w1 ⟨rfl, hb⟩
  have B1 := Lib.hid (B0.out.trans (hb.mono B0.out.size))
  have X1 := Lib.hid (X0.out.keep hb)
  clear hb B0 X0 CL
  by_cases hL : MC.chkL L = 0
  case neg =>
    have hne : (MC.chkL L != 0) = true := bne_iff_ne.2 hL
    have R := Lib.hid (ret_fmt (L := L) (n := NT.n (⟨o, [x0, x1, x2, x3, x4, x5], v, A1, c1, k⟩ : NT)) (s := []) (e := MC.chkL L) (by unfold MX.fmtE; rw [if_pos hL]))
    generalize MC.chkL L = kk at *
    clear hL CX CP
    go_wp2
    refine bodyPost_ret (v := .tuple #[.string ⟨#[]⟩, .int .i64 kk]) (by simp [results, Tryz.results8, go_sem]) rfl ?_
    exact ⟨R.out, B1.out⟩
  rw [hL]
  obtain ⟨a0, a1, a2, a3, a4, a5, a6, a7, a8⟩ := X1.out.cells
  go_wp2_with fail
  refine (CX.out _ B1.out).mono ?_
  rintro ev w2 ⟨rfl, hb⟩
  have B2 := Lib.hid (B1.out.trans (hb.mono B1.out.size))
  have X2 := Lib.hid (X1.out.keep hb)
  clear hb B1 X1 CX a0 a1 a2 a3 a4 a5 a6 a7 a8
  by_cases hN : ME.checkE (NT.n (⟨o, [x0, x1, x2, x3, x4, x5], v, A1, c1, k⟩ : NT)) = 0
  case neg =>
    have hne : (ME.checkE (NT.n (⟨o, [x0, x1, x2, x3, x4, x5], v, A1, c1, k⟩ : NT)) != 0) = true := bne_iff_ne.2 hN
    have R := Lib.hid (ret_fmt (L := L) (n := NT.n (⟨o, [x0, x1, x2, x3, x4, x5], v, A1, c1, k⟩ : NT)) (s := []) (e := ME.checkE (NT.n (⟨o, [x0, x1, x2, x3, x4, x5], v, A1, c1, k⟩ : NT))) (by unfold MX.fmtE; rw [if_neg (by simpa using hL), if_pos hN]))
    generalize ME.checkE (NT.n (⟨o, [x0, x1, x2, x3, x4, x5], v, A1, c1, k⟩ : NT)) = kk at *
    clear hL hN CP
    go_wp2
    refine bodyPost_ret (v := .tuple #[.string ⟨#[]⟩, .int .i64 kk]) (by simp [results, Tryz.results8, go_sem]) rfl ?_
    exact ⟨R.out, B2.out⟩
  rw [hN]
  have FI := Lib.hid (MX.fit_iff hL hN h6)
  obtain ⟨a0, a1, a2, a3, a4, a5, a6, a7, a8⟩ := X2.out.cells
  obtain ⟨p0, p1, p2, p3, p4, p5, hpl⟩ : ∃ p0 p1 p2 p3 p4 p5, ME.prodL (NT.n (⟨o, [x0, x1, x2, x3, x4, x5], v, A1, c1, k⟩ : NT)).pre ME.zero6 = [p0, p1, p2, p3, p4, p5] := by
    have : ∀ (l : List Nd) (z : List Int), z.length = 6 → (ME.prodL l z).length = 6 := by
      intro l
      induction l with
      | nil => intro z h; exact h
      | cons y r ih => intro z _; exact ih _ rfl
    have h := this (NT.n (⟨o, [x0, x1, x2, x3, x4, x5], v, A1, c1, k⟩ : NT)).pre ME.zero6 rfl
    match hq : ME.prodL (NT.n (⟨o, [x0, x1, x2, x3, x4, x5], v, A1, c1, k⟩ : NT)).pre ME.zero6, h with
    | [p0, p1, p2, p3, p4, p5], _ => exact ⟨p0, p1, p2, p3, p4, p5, rfl⟩
  rw [hpl] at FI CP
  go_wp2_with fail
  refine (CP.out _ B2.out).mono ?_
  rintro ev w3 ⟨rfl, hb⟩
  have B3 := Lib.hid (B2.out.trans (hb.mono B2.out.size))
  have X3 := Lib.hid (X2.out.keep hb)
  clear hb B2 X2 CP a0 a1 a2 a3 a4 a5 a6 a7 a8 hpl
  have CF := Lib.hid (fun w' (hb : Below w.heap.size w w') => format_any A n cp L p0 p1 p2 p3 p4 p5 w' (HP.out.keep hb))
  simp only [aggB]
  go_wp2_with fail
  refine (CF.out _ B3.out).mono ?_
  rintro ev w4 ⟨rfl, hb⟩
  have B4 := Lib.hid (B3.out.trans (hb.mono B3.out.size))
  have X4 := Lib.hid (X3.out.keep hb)
  clear hb B3 X3 CF
  by_cases hF : MC.Fits L [p0, p1, p2, p3, p4, p5]
  case neg =>
    have hs : ((str (MC.fmtL L [p0, p1, p2, p3, p4, p5])).toList == ([] : List UInt8)) = true := by rw [fmt_no hF, ByteArray.toList_eq, str_data]; rfl
    have R := Lib.hid (ret_fmt (L := L) (n := NT.n (⟨o, [x0, x1, x2, x3, x4, x5], v, A1, c1, k⟩ : NT)) (s := []) (e := 4) (by unfold MX.fmtE; rw [if_neg (by simpa using hL), if_neg (by simpa using hN), if_pos (fun h => hF (FI.out.2 h))]))
    generalize str (MC.fmtL L [p0, p1, p2, p3, p4, p5]) = sf at *
    clear hL hN hF FI
    go_wp2
    refine bodyPost_ret (v := .tuple #[.string ⟨#[]⟩, .int .i64 4]) (by simp [results, Tryz.results8, go_sem]) rfl ?_
    exact ⟨R.out, B4.out⟩
  have hFN := FI.out.1 hF
  have hs : ((str (MC.fmtL L [p0, p1, p2, p3, p4, p5])).toList == ([] : List UInt8)) = false := by rw [fmt_yes hF]; exact str_ne textL_ne
  have HOK := MX.ok_of hN hFN h6
  have hlen := MX.tx_len HOK
  have hsz := (ME.checkE_zero.1 hN).2.1
  have hlen' : (MX.txN L (NT.n (⟨o, [x0, x1, x2, x3, x4, x5], v, A1, c1, k⟩ : NT))).length ≤ 10000 := by omega
  have EF := Lib.hid (show MX.fmtE L (NT.n (⟨o, [x0, x1, x2, x3, x4, x5], v, A1, c1, k⟩ : NT)) = if 4000 < (MX.txN L (NT.n (⟨o, [x0, x1, x2, x3, x4, x5], v, A1, c1, k⟩ : NT))).length then ([], 3) else (MX.txN L (NT.n (⟨o, [x0, x1, x2, x3, x4, x5], v, A1, c1, k⟩ : NT)), 0) by unfold MX.fmtE; rw [if_neg (by simpa using hL), if_neg (by simpa using hN), if_neg (by simpa using hFN)])
  have hTN : MX.txN L (NT.n (⟨o, [x0, x1, x2, x3, x4, x5], v, A1, c1, k⟩ : NT)) ≠ [] := MX.tx_ne
  have WB := below_new w4 (.cells #[.slice A n cp, .pointer none, .slice none 0 0] 49)
  have B5 := B4.out.trans (WB.mono B4.out.size)
  have X5 := Lib.hid (X4.out.keep WB)
  have hb4 : w.heap.size < w4.heap.size := X4.out.lt
  have HW := Lib.hid (write_any w4.heap.size A n cp L 2000000 (⟨o, [x0, x1, x2, x3, x4, x5], v, A1, c1, k⟩ : NT) [] (w4.alloc (.cells #[.slice A n cp, .pointer none, .slice none 0 0] 49)) hx
    (fun w' hb => by
      have hb' : Below w.heap.size w w' := B5.trans (hb.mono (Nat.le_of_lt hb4))
      exact ⟨HP.out.keep hb', HT.out.keep hb', HQ.out.keep hb'⟩)
    (HO.out.keep (fun j _ hj => B5.block j hj) B5.size (fun j _ hj => by show j < _; omega)) HOK (Wr.new w4 _) (by simp only [List.length_nil]; omega))
  rw [NT.val_lit, List.nil_append] at HW
  clear HOK hFN hF FI hlen hsz hL hN WB h6
  generalize str (MC.fmtL L [p0, p1, p2, p3, p4, p5]) = sf at *
  generalize htx : MX.txN L (NT.n (⟨o, [x0, x1, x2, x3, x4, x5], v, A1, c1, k⟩ : NT)) = tx at *
  clear htx
  go_upto_region 10 with (fail)
  have B5h := Lib.hid B5
  clear B5
  obtain ⟨W5, hW5⟩ : ∃ W5, W5 = w4.alloc (.cells #[.slice A n cp, .pointer none, .slice none 0 0] 49) := ⟨_, rfl⟩
  rw [← hW5] at HW X5 B5h ⊢
  clear hW5
  generalize w4.heap.size = b at *
  obtain ⟨a0, a1, a2, a3, a4, a5, a6, a7, a8⟩ := X5.out.cells
  go_wp2_with fail
  refine HW.out.mono ?_
  rintro ev w6 ⟨rfl, hw, hO⟩
  have B6 := Lib.hid (B5h.out.trans (hO.below.mono (Nat.le_of_lt hb4)))
  have LN := Lib.hid (len1 b (.slice A n cp) tx w6 hw)
  have SN := Lib.hid (string1 b (.slice A n cp) tx w6 hw hTN)
  clear hw hO HW X5 B5h a0 a1 a2 a3 a4 a5 a6 a7 a8
  go_wp2_with fail
  refine LN.out.mono ?_
  rintro ev w7 ⟨rfl, hw7⟩
  obtain rfl : w6 = w7 := hw7.symm
  clear LN hw7
  by_cases h4 : 4000 < tx.length
  · have R := Lib.hid (ret_fmt (EF.out.trans (if_pos h4)))
    have h4' : (4000 : Int) < (tx.length : Int) := by omega
    clear EF SN h4
    generalize (tx.length : Int) = q at *
    go_wp2
    refine bodyPost_ret (v := .tuple #[.string ⟨#[]⟩, .int .i64 3]) (by simp [results, Tryz.results8, go_sem]) rfl ?_
    exact ⟨R.out, B6.out⟩
  · have R := Lib.hid (ret_fmt (EF.out.trans (if_neg h4)))
    have h4' : ¬ (4000 : Int) < (tx.length : Int) := by omega
    clear EF h4
    generalize (tx.length : Int) = q at *
    go_wp2_with fail
    refine SN.out.mono ?_
    rintro ev w8 ⟨rfl, hb8⟩
    have B8 := Lib.hid (B6.out.trans (hb8.mono (Nat.le_of_lt hb4)))
    clear hb8 SN B6
    go_wp2
    refine bodyPost_ret (v := .tuple #[.string (str tx), .int .i64 0]) (by simp [results, Tryz.results8, go_sem]) rfl ?_
    exact ⟨R.out, B8.out⟩
end Go.Proofs.YtcokplikmjegcaaGreatDoor
