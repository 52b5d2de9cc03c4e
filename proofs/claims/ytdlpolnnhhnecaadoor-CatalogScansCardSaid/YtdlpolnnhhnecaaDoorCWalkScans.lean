/- The walk of CatalogScans: no claim of its own. -/
import Derived.Test.YtdlpolnnhhnecaaDoorCWalkChecks
import Derived.Test.YtdlpolnnhhnecaaDoorCNil
import Derived.Test.YtdlpolnnhhnecaaDoorCRTok
import Derived.Deep.RegionHeld3
namespace Go.Proofs.YtdlpolnnhhnecaaDoor
open Go.RowKit
open MC (Pr)
/-- What is kept while the law asks its last questions. -/
structure ScH (wo : World) (A2 : Option Addr) (n1 c2 : Nat) (ts us : List Tk) (g T : Nat) (t : Tk) (wr : World) : Prop where
  below : Below wo.heap.size wo wr
  tks : Tks wr A2 n1 c2 ts
  sp : SP (fun k => g ≤ k) wr g us 0
  tok : TB wr T 57 (.int .i64 t.kind) (.string (str t.text)) (.int .i64 t.value) (.int .i64 t.at_)
theorem ScH.keep {wo wr w' : World} {A2 : Option Addr} {n1 c2 : Nat} {ts us : List Tk} {g T : Nat} {t : Tk} (h : ScH wo A2 n1 c2 ts us g T t wr) (hb : Below wr.heap.size wr w') : ScH wo A2 n1 c2 ts us g T t w' :=
  ⟨h.below.trans (hb.mono h.below.size), h.tks.keep hb, h.sp.keep hb, h.tok.keep hb⟩
theorem ScH.drew {wo wr : World} {A2 : Option Addr} {n1 c2 : Nat} {ts us : List Tk} {g T : Nat} {t : Tk} (h : ScH wo A2 n1 c2 ts us g T t wr) : ScH wo A2 n1 c2 ts us g T t wr.drew := h.keep (Below.drew (Below.refl _ _))
set_option maxRecDepth 100000 in
set_option maxHeartbeats 16000000 in
theorem scans_long (A : Option Addr) (n c : Nat) (s : ByteArray) (w : World) (h100 : 100 < n) (hs : s.size ≤ 9223372036854775807) : Calls Tryd.prog 9 #[.slice A n c, .string s] w (Gives (.bool true) w) := by
  have AW := Lib.hid (fun w' => awake8 w')
  go_enter Tryd.func9, Tryd.ntmps9
  go_wp2_with fail
  refine (AW.out _).mono ?_
  rintro e w1 ⟨rfl, hb⟩
  have B1 := Lib.hid hb
  clear hb
  go_wp2
  go_ret
  exact ⟨rfl, B1.out⟩
set_option maxRecDepth 100000 in
set_option maxHeartbeats 16000000 in
theorem scans_text (A : Option Addr) (n c : Nat) (s : ByteArray) (w : World) (h100 : n ≤ 100) (h5 : 1000 < s.size) (hs : s.size ≤ 9223372036854775807) : Calls Tryd.prog 9 #[.slice A n c, .string s] w (Gives (.bool true) w) := by
  have AW := Lib.hid (fun w' => awake8 w')
  have d1 : decide (100 < (n : Int)) = false := decide_eq_false (by omega)
  have d2 : decide (1000 < (s.size : Int)) = true := decide_eq_true (by omega)
  go_enter Tryd.func9, Tryd.ntmps9
  go_wp2_with fail
  refine (AW.out _).mono ?_
  rintro e w1 ⟨rfl, hb⟩
  have B1 := Lib.hid hb
  clear hb
  go_wp2
  go_ret
  exact ⟨rfl, B1.out⟩
set_option maxRecDepth 100000 in
set_option maxHeartbeats 16000000 in
theorem scans_bad (A : Option Addr) (n c : Nat) (L : List Pr) (s : ByteArray) (w : World) (ts : List Tk) (er : Int) (h : Prs w A n c L) (h5 : s.size ≤ 1000) (hs : s.size ≤ 9223372036854775807) (hT : toks s.data.toList = (ts, er)) (he : er ≠ 0) : Calls Tryd.prog 9 #[.slice A n c, .string s] w (Gives (.bool true) w) := by
  have AW := Lib.hid (fun w' => awake8 w')
  have d1 : decide (100 < (n : Int)) = false := decide_eq_false (by have := h.few; omega)
  have d2 : decide (1000 < (s.size : Int)) = false := decide_eq_false (by omega)
  have H := Lib.hid h
  have hb : ((er : Int) != 0) = true := bne_iff_ne.2 he
  have TK := Lib.hid (fun w' => tokens_any s hs w')
  have RTK := Lib.hid (fun w' => rtokens_any s hs w')
  rw [hT] at TK RTK
  clear h hT he
  go_enter Tryd.func9, Tryd.ntmps9
  go_wp2_with fail
  refine (TK.out _).mono ?_
  rintro q1 w1 ⟨A1, n1, c1, rfl, htk, hb⟩
  have B1 := Lib.hid hb
  have T1 := Lib.hid htk
  clear hb htk TK
  simp only
  go_wp2_with fail
  refine (RTK.out _).mono ?_
  rintro q2 w2 ⟨A2, n2, c2, rfl, htk, hb⟩
  obtain rfl : n1 = n2 := T1.out.len.symm.trans htk.len
  have B2 := Lib.hid (B1.out.trans (hb.mono B1.out.size))
  have T2 := Lib.hid htk
  have T1' := Lib.hid (T1.out.keep hb)
  clear hb htk RTK T1 B1
  simp only
  go_wp2_with fail
  refine (AW.out _).mono ?_
  rintro e w3 ⟨rfl, hb⟩
  have B3 := Lib.hid (B2.out.trans (hb.mono B2.out.size))
  clear hb
  go_wp2
  go_ret
  exact ⟨rfl, B3.out⟩
set_option maxRecDepth 100000 in
set_option maxHeartbeats 16000000 in
theorem scans_chk (A : Option Addr) (n c : Nat) (L : List Pr) (s : ByteArray) (w : World) (ts : List Tk) (h : Prs w A n c L) (h5 : s.size ≤ 1000) (hs : s.size ≤ 9223372036854775807) (hT : toks s.data.toList = (ts, 0)) (hc : MC.chkL L ≠ 0) : Calls Tryd.prog 9 #[.slice A n c, .string s] w (Gives (.bool true) w) := by
  have AW := Lib.hid (fun w' => awake8 w')
  have d1 : decide (100 < (n : Int)) = false := decide_eq_false (by have := h.few; omega)
  have d2 : decide (1000 < (s.size : Int)) = false := decide_eq_false (by omega)
  have H := Lib.hid h
  have hb : ((MC.chkL L : Int) != 0) = true := bne_iff_ne.2 hc
  have TK := Lib.hid (fun w' => tokens_any s hs w')
  have RTK := Lib.hid (fun w' => rtokens_any s hs w')
  rw [hT] at TK RTK
  have SC := Lib.hid (fun (N g : Nat) (w' : World) (h1 : SP (fun k => g ≤ k) w' g ts 0) (h2 : N ≤ g) (h3 : N ≤ w'.heap.size) (h4 : ∀ w'', Below N w' w'' → Prs w'' A n c L) => scan_bad_any A n c L N g ts w' h1 h2 h3 h4 hc)
  have RC := Lib.hid (fun w' (hb : Below w.heap.size w w') => rcheck8_any A n c L w' (H.out.keep hb))
  have E0 := same_lit 0 0 0 0 0 0
  generalize MC.chkL L = ck at *
  clear h hT hc
  go_enter Tryd.func9, Tryd.ntmps9
  go_wp2_with fail
  refine (TK.out _).mono ?_
  rintro q1 w1 ⟨A1, n1, c1, rfl, htk, hb⟩
  have B1 := Lib.hid hb
  have T1 := Lib.hid htk
  clear hb htk TK
  simp only
  go_wp2_with fail
  refine (RTK.out _).mono ?_
  rintro q2 w2 ⟨A2, n2, c2, rfl, htk, hb⟩
  obtain rfl : n1 = n2 := T1.out.len.symm.trans htk.len
  have B2 := Lib.hid (B1.out.trans (hb.mono B1.out.size))
  have T2 := Lib.hid htk
  have T1' := Lib.hid (T1.out.keep hb)
  clear hb htk RTK T1 B1
  simp only
  go_wp2_with fail
  refine (new_any A1 n1 c1 ts w2 T1'.out).mono ?_
  rintro q3 w3 ⟨g, A3, n3, c3, rfl, hblk, htk, hfar, hge, hb⟩
  have S3 := Lib.hid (fresh_sp hblk htk (fun ad ha => (hfar ad ha).2))
  have B3 := Lib.hid (B2.out.trans (hb.mono B2.out.size))
  have T3 := Lib.hid (T2.out.keep hb)
  have HG := Lib.hid hge
  have HSZ := Lib.hid hb.size
  clear hblk htk hfar hge hb T2 T1'
  have SCN := Lib.hid (SC.out w2.heap.size g w3 S3.out HG.out HSZ.out (fun w'' hw => H.out.keep (B3.out.trans (hw.mono B2.out.size))))
  clear SC S3
  go_wp2_with fail
  refine SCN.out.mono ?_
  rintro q4 w4 ⟨rfl, hsp, hb⟩
  have B4 := Lib.hid (B3.out.trans (hb.mono B2.out.size))
  have S5 := Lib.hid (hsp.keep (below_new w4 (.cells #[.int .i64 0, .int .i64 0, .int .i64 0, .int .i64 0, .int .i64 0, .int .i64 0] 29)))
  have B5 := Lib.hid (B4.out.trans ((below_new w4 (.cells #[.int .i64 0, .int .i64 0, .int .i64 0, .int .i64 0, .int .i64 0, .int .i64 0] 29)).mono B4.out.size))
  have Q5 := Lib.hid (BB.new w4 29 0 0 0 0 0 0)
  clear hsp hb SCN B3 B4
  rw [show aggB MC.Z6 = .agg #[.int .i64 0, .int .i64 0, .int .i64 0, .int .i64 0, .int .i64 0, .int .i64 0] from rfl]
  go_wp2_with fail
  generalize w4.heap.size = Qb at *
  refine (RC.out _ B5.out).mono ?_
  rintro q6 w6 ⟨rfl, hb⟩
  have B6 := Lib.hid (B5.out.trans (hb.mono B5.out.size))
  have S6 := Lib.hid (S5.out.keep hb)
  have Q6 := Lib.hid (Q5.out.keep hb Q5.out.lt)
  have hl6 := Q6.out.lt
  obtain ⟨c0, c1', c2', c3', c4, c5⟩ := cells6 Q6.out
  have ER := Lib.hid (errU S6.out)
  clear hb B5 S5 Q5 S6
  go_wp2_with fail
  refine ER.out.mono ?_
  rintro q7 w7 ⟨rfl, rfl⟩
  clear ER
  go_wp2_with fail
  refine (RC.out _ B6.out).mono ?_
  rintro q8 w8 ⟨rfl, hb⟩
  have B8 := Lib.hid (B6.out.trans (hb.mono B6.out.size))
  clear hb B6
  go_wp2_with fail
  refine (AW.out _).mono ?_
  rintro e w9 ⟨rfl, hb⟩
  have B9 := Lib.hid (B8.out.trans (hb.mono B8.out.size))
  clear hb
  go_wp2
  go_ret
  exact ⟨rfl, B9.out⟩
set_option maxRecDepth 100000 in
set_option maxHeartbeats 16000000 in
theorem scans_err (A : Option Addr) (n c : Nat) (L : List Pr) (s : ByteArray) (w : World) (ts us : List Tk) (z0 z1 z2 z3 z4 z5 er : Int) (h : Prs w A n c L) (h5 : s.size ≤ 1000) (hs : s.size ≤ 9223372036854775807) (hT : toks s.data.toList = (ts, 0)) (hc : MC.chkL L = 0) (hR : MC.scanL L ts = ([z0, z1, z2, z3, z4, z5], us, er)) (he : er ≠ 0) : Calls Tryd.prog 9 #[.slice A n c, .string s] w (Gives (.bool true) w) := by
  have AW := Lib.hid (fun w' => awake8 w')
  have d1 : decide (100 < (n : Int)) = false := decide_eq_false (by have := h.few; omega)
  have d2 : decide (1000 < (s.size : Int)) = false := decide_eq_false (by omega)
  have H := Lib.hid h
  have hb : ((er : Int) != 0) = true := bne_iff_ne.2 he
  have TK := Lib.hid (fun w' => tokens_any s hs w')
  have RTK := Lib.hid (fun w' => rtokens_any s hs w')
  rw [hT] at TK RTK
  have SC := Lib.hid (fun (N g : Nat) (w' : World) (h1 : SP (fun k => g ≤ k) w' g ts 0) (h2 : N ≤ g) (h3 : N ≤ w'.heap.size) (h4 : ∀ w'', Below N w' w'' → Prs w'' A n c L) => scan_any A n c L N g ts w' h1 h2 h3 h4 hc)
  have RC := Lib.hid (fun w' (hb : Below w.heap.size w w') => rcheck8_any A n c L w' (H.out.keep hb))
  rw [hc] at RC
  have HC := Lib.hid hc
  have RT := Lib.hid (fun (A2 : Option Addr) (m c2 : Nat) w' (hb : Below w.heap.size w w') (ht : Tks w' A2 m c2 ts) => rtok_any A n c L (MC.chk_good hc).few A2 m c2 ts w' (H.out.keep hb) ht)
  rw [hR] at SC RT
  unfold tokV at RT
  have E0 := same_lit 0 0 0 0 0 0
  have E1 := same_lit z0 z1 z2 z3 z4 z5
  clear h hT hc hR he HC
  go_enter Tryd.func9, Tryd.ntmps9
  go_wp2_with fail
  refine (TK.out _).mono ?_
  rintro q1 w1 ⟨A1, n1, c1, rfl, htk, hb⟩
  have B1 := Lib.hid hb
  have T1 := Lib.hid htk
  clear hb htk TK
  simp only
  go_wp2_with fail
  refine (RTK.out _).mono ?_
  rintro q2 w2 ⟨A2, n2, c2, rfl, htk, hb⟩
  obtain rfl : n1 = n2 := T1.out.len.symm.trans htk.len
  have B2 := Lib.hid (B1.out.trans (hb.mono B1.out.size))
  have T2 := Lib.hid htk
  have T1' := Lib.hid (T1.out.keep hb)
  clear hb htk RTK T1 B1
  simp only
  go_wp2_with fail
  refine (new_any A1 n1 c1 ts w2 T1'.out).mono ?_
  rintro q3 w3 ⟨g, A3, n3, c3, rfl, hblk, htk, hfar, hge, hb⟩
  have S3 := Lib.hid (fresh_sp hblk htk (fun ad ha => (hfar ad ha).2))
  have B3 := Lib.hid (B2.out.trans (hb.mono B2.out.size))
  have T2' := Lib.hid T2.out
  have HB3 := Lib.hid hb
  have HG := Lib.hid hge
  have HSZ := Lib.hid hb.size
  clear hblk htk hfar hge hb T2 T1'
  have TF : Hid (∀ w4, Below w2.heap.size w3 w4 → Tks w4 A2 n1 c2 ts) := Lib.hid (fun w4 hb => T2'.out.keep (HB3.out.trans hb))
  have SCN := Lib.hid (SC.out w2.heap.size g w3 S3.out HG.out HSZ.out (fun w'' hw => H.out.keep (B3.out.trans (hw.mono B2.out.size))))
  clear SC S3
  go_wp2_with fail
  refine SCN.out.mono ?_
  rintro q4 w4 ⟨rfl, hsp, hb⟩
  have B4 := Lib.hid (B3.out.trans (hb.mono B2.out.size))
  have S5 := Lib.hid (hsp.keep (below_new w4 (.cells #[.int .i64 z0, .int .i64 z1, .int .i64 z2, .int .i64 z3, .int .i64 z4, .int .i64 z5] 29)))
  have T4 : Hid (Tks w4 A2 n1 c2 ts) := Lib.hid (TF.out w4 hb)
  have T5 := Lib.hid (T4.out.keep (below_new w4 (.cells #[.int .i64 z0, .int .i64 z1, .int .i64 z2, .int .i64 z3, .int .i64 z4, .int .i64 z5] 29)))
  have B5 := Lib.hid (B4.out.trans ((below_new w4 (.cells #[.int .i64 z0, .int .i64 z1, .int .i64 z2, .int .i64 z3, .int .i64 z4, .int .i64 z5] 29)).mono B4.out.size))
  have Q5 := Lib.hid (BB.new w4 29 z0 z1 z2 z3 z4 z5)
  clear hsp hb SCN B3 B4 T4 TF
  simp only
  rw [aggB_lit]
  go_wp2_with fail
  generalize w4.heap.size = Qb at *
  refine (RC.out _ B5.out).mono ?_
  rintro q6 w6 ⟨rfl, hb⟩
  have B6 := Lib.hid (B5.out.trans (hb.mono B5.out.size))
  have S6 := Lib.hid (S5.out.keep hb)
  have T6 := Lib.hid (T5.out.keep hb)
  have Q6 := Lib.hid (Q5.out.keep hb Q5.out.lt)
  clear hb B5 S5 Q5 T5 RC
  go_wp2_with fail
  refine (RT.out A2 n1 c2 _ B6.out T6.out).mono ?_
  rintro q7 w7 ⟨rfl, hb⟩
  have B7 := Lib.hid (B6.out.trans (hb.mono B6.out.size))
  have S7 := Lib.hid (S6.out.keep hb)
  have T7 := Lib.hid (T6.out.keep hb)
  have Q7 := Lib.hid (Q6.out.keep hb Q6.out.lt)
  have bn := below_new w7 (.cells #[.int .i64 z0, .int .i64 z1, .int .i64 z2, .int .i64 z3, .int .i64 z4, .int .i64 z5] 29)
  have B8 := Lib.hid (B7.out.trans (bn.mono B7.out.size))
  have S8 := Lib.hid (S7.out.keep bn)
  have T8 := Lib.hid (T7.out.keep bn)
  have Q8 := Lib.hid (Q7.out.keep bn Q7.out.lt)
  have hl8 := Q8.out.lt
  have P8 := Lib.hid (BB.new w7 29 z0 z1 z2 z3 z4 z5)
  clear hb bn B6 S6 T6 Q6 RT B7 S7 T7 Q7
  obtain ⟨c0, c1', c2', c3', c4, c5⟩ := cells6 Q8.out
  obtain ⟨p0, p1, p2, p3, p4, p5⟩ := cells6 P8.out
  have ER := Lib.hid (errU S8.out)
  simp only
  rw [aggB_lit]
  go_wp2_with fail
  refine ER.out.mono ?_
  rintro q9 w9 ⟨rfl, rfl⟩
  clear ER
  go_wp2_with fail
  refine (AW.out _).mono ?_
  rintro e w10 ⟨rfl, hb⟩
  have B9 := Lib.hid (B8.out.trans (hb.mono B8.out.size))
  clear hb
  go_wp2
  go_ret
  exact ⟨rfl, B9.out⟩
set_option maxRecDepth 100000 in
set_option maxHeartbeats 16000000 in
theorem scans_end (A : Option Addr) (n c : Nat) (L : List Pr) (s : ByteArray) (w : World) (ts us : List Tk) (z0 z1 z2 z3 z4 z5 : Int) (hu : us = []) (h : Prs w A n c L) (h5 : s.size ≤ 1000) (hs : s.size ≤ 9223372036854775807) (hT : toks s.data.toList = (ts, 0)) (hc : MC.chkL L = 0) (hR : MC.scanL L ts = ([z0, z1, z2, z3, z4, z5], us, 0)) : Calls Tryd.prog 9 #[.slice A n c, .string s] w (Gives (.bool true) w) := by
  have AW := Lib.hid (fun w' => awake8 w')
  have d1 : decide (100 < (n : Int)) = false := decide_eq_false (by have := h.few; omega)
  have d2 : decide (1000 < (s.size : Int)) = false := decide_eq_false (by omega)
  have H := Lib.hid h
  have TK := Lib.hid (fun w' => tokens_any s hs w')
  have RTK := Lib.hid (fun w' => rtokens_any s hs w')
  rw [hT] at TK RTK
  have SC := Lib.hid (fun (N g : Nat) (w' : World) (h1 : SP (fun k => g ≤ k) w' g ts 0) (h2 : N ≤ g) (h3 : N ≤ w'.heap.size) (h4 : ∀ w'', Below N w' w'' → Prs w'' A n c L) => scan_any A n c L N g ts w' h1 h2 h3 h4 hc)
  have RC := Lib.hid (fun w' (hb : Below w.heap.size w w') => rcheck8_any A n c L w' (H.out.keep hb))
  rw [hc] at RC
  have HC := Lib.hid hc
  have RT := Lib.hid (fun (A2 : Option Addr) (m c2 : Nat) w' (hb : Below w.heap.size w w') (ht : Tks w' A2 m c2 ts) => rtok_any A n c L (MC.chk_good hc).few A2 m c2 ts w' (H.out.keep hb) ht)
  rw [hR] at SC RT
  unfold tokV at RT
  have E0 := same_lit 0 0 0 0 0 0
  have E1 := same_lit z0 z1 z2 z3 z4 z5
  have HEnd : Hid (endE us 0 = 0) := Lib.hid (by rw [hu]; rfl)
  have HUs : Hid (used ts ([z0, z1, z2, z3, z4, z5], us, 0) = ts.length) := Lib.hid (by rw [hu]; exact if_pos rfl)
  rw [HUs.out] at RT
  clear h hT hc hR hu HUs
  go_enter Tryd.func9, Tryd.ntmps9
  go_wp2_with fail
  refine (TK.out _).mono ?_
  rintro q1 w1 ⟨A1, n1, c1, rfl, htk, hb⟩
  have B1 := Lib.hid hb
  have T1 := Lib.hid htk
  clear hb htk TK
  simp only
  go_wp2_with fail
  refine (RTK.out _).mono ?_
  rintro q2 w2 ⟨A2, n2, c2, rfl, htk, hb⟩
  obtain rfl : n1 = n2 := T1.out.len.symm.trans htk.len
  have B2 := Lib.hid (B1.out.trans (hb.mono B1.out.size))
  have T2 := Lib.hid htk
  have T1' := Lib.hid (T1.out.keep hb)
  clear hb htk RTK T1 B1
  simp only
  rw [T2.out.len] at RT
  go_wp2_with fail
  refine (new_any A1 n1 c1 ts w2 T1'.out).mono ?_
  rintro q3 w3 ⟨g, A3, n3, c3, rfl, hblk, htk, hfar, hge, hb⟩
  have S3 := Lib.hid (fresh_sp hblk htk (fun ad ha => (hfar ad ha).2))
  have B3 := Lib.hid (B2.out.trans (hb.mono B2.out.size))
  have T2' := Lib.hid T2.out
  have HB3 := Lib.hid hb
  have HG := Lib.hid hge
  have HSZ := Lib.hid hb.size
  clear hblk htk hfar hge hb T2 T1'
  have TF : Hid (∀ w4, Below w2.heap.size w3 w4 → Tks w4 A2 n1 c2 ts) := Lib.hid (fun w4 hb => T2'.out.keep (HB3.out.trans hb))
  have SCN := Lib.hid (SC.out w2.heap.size g w3 S3.out HG.out HSZ.out (fun w'' hw => H.out.keep (B3.out.trans (hw.mono B2.out.size))))
  clear SC S3
  go_wp2_with fail
  refine SCN.out.mono ?_
  rintro q4 w4 ⟨rfl, hsp, hb⟩
  have B4 := Lib.hid (B3.out.trans (hb.mono B2.out.size))
  have S5 := Lib.hid (hsp.keep (below_new w4 (.cells #[.int .i64 z0, .int .i64 z1, .int .i64 z2, .int .i64 z3, .int .i64 z4, .int .i64 z5] 29)))
  have T4 : Hid (Tks w4 A2 n1 c2 ts) := Lib.hid (TF.out w4 hb)
  have T5 := Lib.hid (T4.out.keep (below_new w4 (.cells #[.int .i64 z0, .int .i64 z1, .int .i64 z2, .int .i64 z3, .int .i64 z4, .int .i64 z5] 29)))
  have B5 := Lib.hid (B4.out.trans ((below_new w4 (.cells #[.int .i64 z0, .int .i64 z1, .int .i64 z2, .int .i64 z3, .int .i64 z4, .int .i64 z5] 29)).mono B4.out.size))
  have Q5 := Lib.hid (BB.new w4 29 z0 z1 z2 z3 z4 z5)
  clear hsp hb SCN B3 B4 T4 TF
  simp only
  rw [aggB_lit]
  go_wp2_with fail
  generalize w4.heap.size = Qb at *
  refine (RC.out _ B5.out).mono ?_
  rintro q6 w6 ⟨rfl, hb⟩
  have B6 := Lib.hid (B5.out.trans (hb.mono B5.out.size))
  have S6 := Lib.hid (S5.out.keep hb)
  have T6 := Lib.hid (T5.out.keep hb)
  have Q6 := Lib.hid (Q5.out.keep hb Q5.out.lt)
  clear hb B5 S5 Q5 T5 RC
  go_wp2_with fail
  refine (RT.out A2 n1 c2 _ B6.out T6.out).mono ?_
  rintro q7 w7 ⟨rfl, hb⟩
  have B7 := Lib.hid (B6.out.trans (hb.mono B6.out.size))
  have S7 := Lib.hid (S6.out.keep hb)
  have T7 := Lib.hid (T6.out.keep hb)
  have Q7 := Lib.hid (Q6.out.keep hb Q6.out.lt)
  have bn := below_new w7 (.cells #[.int .i64 z0, .int .i64 z1, .int .i64 z2, .int .i64 z3, .int .i64 z4, .int .i64 z5] 29)
  have B8 := Lib.hid (B7.out.trans (bn.mono B7.out.size))
  have S8 := Lib.hid (S7.out.keep bn)
  have T8 := Lib.hid (T7.out.keep bn)
  have Q8 := Lib.hid (Q7.out.keep bn Q7.out.lt)
  have hl8 := Q8.out.lt
  have P8 := Lib.hid (BB.new w7 29 z0 z1 z2 z3 z4 z5)
  clear hb bn B6 S6 T6 Q6 RT B7 S7 T7 Q7
  obtain ⟨c0, c1', c2', c3', c4, c5⟩ := cells6 Q8.out
  obtain ⟨p0, p1, p2, p3, p4, p5⟩ := cells6 P8.out
  have ER := Lib.hid (errU S8.out)
  simp only
  rw [aggB_lit]
  go_wp2_with fail
  refine ER.out.mono ?_
  rintro q9 w9 ⟨rfl, rfl⟩
  clear ER
  obtain ⟨t, ht⟩ : ∃ t, t = headT us := ⟨_, rfl⟩
  have PK : Hid (Calls Tryd.prog 33 #[.pointer (some ⟨g, 0, none⟩)] _ (Gives (aggT t) _)) := Lib.hid (by obtain ⟨A9, n9, c9, hs9, _⟩ := S8.out; rw [ht]; exact peek_any hs9)
  have HT := Lib.hid ht
  clear ht
  go_wp2_with fail
  refine PK.out.mono ?_
  rintro q10 w10 ⟨rfl, hb⟩
  have bn := below_new w10 (.cells #[.int .i64 t.kind, .string (str t.text), .int .i64 t.value, .int .i64 t.at_] 57)
  have HU : Hid (ScH w A2 n1 c2 ts us g w10.heap.size t (w10.alloc (.cells #[.int .i64 t.kind, .string (str t.text), .int .i64 t.value, .int .i64 t.at_] 57))) :=
    Lib.hid ⟨(B8.out.trans (hb.mono B8.out.size)).trans (bn.mono (Nat.le_trans B8.out.size hb.size)), (T8.out.keep hb).keep bn, (S8.out.keep hb).keep bn, TB.new w10 _ _ _ _ _⟩
  clear hb bn PK B8 S8 T8 P8 Q8
  unfold aggT
  go_wp2_with fail
  generalize w10.alloc (.cells #[.int .i64 t.kind, .string (str t.text), .int .i64 t.value, .int .i64 t.at_] 57) = W at *
  generalize w10.heap.size = T at *
  have KN : True := trivial
  refine wp_region_held_drew (S := fun w' => ScH w A2 n1 c2 ts us g T t w') (by kernel_rfl) HU.out.drew (fun hHeld => ?_)
  refine wpAnyH_take (i := 0) (oi := { dst := some 103, op := Op.move (Operand.tmp 12), type := 3, pos := "law.go:111", after := #[], guard := none }) (v := ?_) rfl (by kernel_rfl) (by kernel_rfl) (by kernel_rfl) (fun _ _ _ h => h) (Or.inl ⟨by rfl, ?_⟩) (by assumption) ?_
  rotate_left
  · intro w hSw; (try dsimp only at hSw); have y := hSw.tok.cells; obtain ⟨y0, y1, y2, y3⟩ := y; go_simp; (try rw [KN]); (try rw [beq_self_eq_true]); (try rw [E0]); try with_reducible rfl
  (try simp only [Act.put, List.setIfInBounds_toArray, List.set_cons_zero, List.set_cons_succ])
  refine wpAnyH_take (i := 1) (oi := { dst := some 104, op := Op.move (Operand.tmp 7), type := 47, pos := "law.go:111", after := #[], guard := none }) (v := ?_) rfl (by kernel_rfl) (by kernel_rfl) (by kernel_rfl) (fun _ _ _ h => h) (Or.inl ⟨by rfl, ?_⟩) (by assumption) ?_
  rotate_left
  · intro w hSw; (try dsimp only at hSw); have y := hSw.tok.cells; obtain ⟨y0, y1, y2, y3⟩ := y; go_simp; (try rw [KN]); (try rw [beq_self_eq_true]); (try rw [E0]); try with_reducible rfl
  (try simp only [Act.put, List.setIfInBounds_toArray, List.set_cons_zero, List.set_cons_succ])
  refine wpAnyH_take (i := 2) (oi := { dst := some 105, op := Op.call { callee := Callee.builtin Builtin.len, args := #[Operand.tmp 104], argTypes := #[47] }, type := 3, pos := "law.go:111", after := #[{ on := 1, ground := Ground.data }], guard := none }) (v := ?_) rfl (by kernel_rfl) (by kernel_rfl) (by kernel_rfl) (fun _ _ _ h => h) (Or.inl ⟨by rfl, ?_⟩) (by assumption) ?_
  rotate_left
  · intro w hSw; (try dsimp only at hSw); have y := hSw.tok.cells; obtain ⟨y0, y1, y2, y3⟩ := y; go_simp; (try rw [KN]); (try rw [beq_self_eq_true]); (try rw [E0]); try with_reducible rfl
  (try simp only [Act.put, List.setIfInBounds_toArray, List.set_cons_zero, List.set_cons_succ])
  refine wpAnyH_take (i := 3) (oi := { dst := some 106, op := Op.binOp BinOp.eql 3 (Operand.tmp 103) (Operand.tmp 105) 3, type := 4, pos := "law.go:111", after := #[{ on := 0, ground := Ground.data }, { on := 2, ground := Ground.data }], guard := none }) (v := ?_) rfl (by kernel_rfl) (by kernel_rfl) (by kernel_rfl) (fun _ _ _ h => h) (Or.inl ⟨by rfl, ?_⟩) (by assumption) ?_
  rotate_left
  · intro w hSw; (try dsimp only at hSw); have y := hSw.tok.cells; obtain ⟨y0, y1, y2, y3⟩ := y; go_simp; (try rw [KN]); (try rw [beq_self_eq_true]); (try rw [E0]); try with_reducible rfl
  (try simp only [Act.put, List.setIfInBounds_toArray, List.set_cons_zero, List.set_cons_succ])
  refine wpAnyH_take (i := 4) (oi := { dst := some 107, op := Op.move (Operand.tmp 9), type := 50, pos := "law.go:111", after := #[], guard := none }) (v := ?_) rfl (by kernel_rfl) (by kernel_rfl) (by kernel_rfl) (fun _ _ _ h => h) (Or.inl ⟨by rfl, ?_⟩) (by assumption) ?_
  rotate_left
  · intro w hSw; (try dsimp only at hSw); have y := hSw.tok.cells; obtain ⟨y0, y1, y2, y3⟩ := y; go_simp; (try rw [KN]); (try rw [beq_self_eq_true]); (try rw [E0]); try with_reducible rfl
  (try simp only [Act.put, List.setIfInBounds_toArray, List.set_cons_zero, List.set_cons_succ])
  refine wpAnyH_ready (rs := [5]) (by kernel_rfl) (by simp) ?_
  refine AllReadyH.cons (o := { dst := some 108, op := Op.call { callee := Callee.value (Operand.func 34), args := #[Operand.tmp 107], argTypes := #[50] }, type := 26, pos := "law.go:111", after := #[{ on := 4, ground := Ground.data }], guard := none }) rfl (fun K hK => ?_) AllReadyH.nil
  go_simp
  have EN := Lib.hid (endU hHeld.sp)
  rw [HEnd.out] at EN
  refine EN.out.mono ?_
  rintro qq vv ⟨rfl, rfl⟩
  clear EN
  refine hK.out _ _ ?_ (fun hHeld => ?_)
  · exact hHeld
  clear hK K
  (try simp only [Act.put, List.setIfInBounds_toArray, List.set_cons_zero, List.set_cons_succ])
  refine wpAnyH_take (i := 6) (oi := { dst := some 109, op := Op.binOp BinOp.eql 26 (Operand.tmp 108) (Operand.const (Value.int IntKind.i64 0)) 26, type := 4, pos := "law.go:111", after := #[{ on := 5, ground := Ground.data }], guard := none }) (v := ?_) rfl (by kernel_rfl) (by kernel_rfl) (by kernel_rfl) (fun _ _ _ h => h) (Or.inl ⟨by rfl, ?_⟩) (by assumption) ?_
  rotate_left
  · intro w hSw; (try dsimp only at hSw); have y := hSw.tok.cells; obtain ⟨y0, y1, y2, y3⟩ := y; go_simp; (try rw [KN]); (try rw [beq_self_eq_true]); (try rw [E0]); try with_reducible rfl
  (try simp only [Act.put, List.setIfInBounds_toArray, List.set_cons_zero, List.set_cons_succ])
  refine wpAnyH_take (i := 7) (oi := { dst := some 110, op := Op.binOp BinOp.eql 4 (Operand.tmp 106) (Operand.tmp 109) 4, type := 4, pos := "law.go:111", after := #[{ on := 3, ground := Ground.data }, { on := 6, ground := Ground.data }], guard := none }) (v := ?_) rfl (by kernel_rfl) (by kernel_rfl) (by kernel_rfl) (fun _ _ _ h => h) (Or.inl ⟨by rfl, ?_⟩) (by assumption) ?_
  rotate_left
  · intro w hSw; (try dsimp only at hSw); have y := hSw.tok.cells; obtain ⟨y0, y1, y2, y3⟩ := y; go_simp; (try rw [KN]); (try rw [beq_self_eq_true]); (try rw [E0]); try with_reducible rfl
  (try simp only [Act.put, List.setIfInBounds_toArray, List.set_cons_zero, List.set_cons_succ])
  refine wpAnyH_take (i := 8) (oi := { dst := some 111, op := Op.move (Operand.tmp 110), type := 4, pos := "law.go:111", after := #[{ on := 7, ground := Ground.data }, { on := 5, ground := Ground.chain }], guard := none }) (v := ?_) rfl (by kernel_rfl) (by kernel_rfl) (by kernel_rfl) (fun _ _ _ h => h) (Or.inl ⟨by rfl, ?_⟩) (by assumption) ?_
  rotate_left
  · intro w hSw; (try dsimp only at hSw); have y := hSw.tok.cells; obtain ⟨y0, y1, y2, y3⟩ := y; go_simp; (try rw [KN]); (try rw [beq_self_eq_true]); (try rw [E0]); try with_reducible rfl
  (try simp only [Act.put, List.setIfInBounds_toArray, List.set_cons_zero, List.set_cons_succ])
  refine wpAnyH_take (i := 9) (oi := { dst := some 112, op := Op.move (Operand.tmp 12), type := 3, pos := "law.go:111", after := #[{ on := 8, ground := Ground.guard }], guard := some (8, true) }) (v := ?_) rfl (by kernel_rfl) (by kernel_rfl) (by kernel_rfl) (fun _ _ _ h => h) (Or.inl ⟨by rfl, ?_⟩) (by assumption) ?_
  rotate_left
  · intro w hSw; (try dsimp only at hSw); have y := hSw.tok.cells; obtain ⟨y0, y1, y2, y3⟩ := y; go_simp; (try rw [KN]); (try rw [beq_self_eq_true]); (try rw [E0]); try with_reducible rfl
  (try simp only [Act.put, List.setIfInBounds_toArray, List.set_cons_zero, List.set_cons_succ])
  refine wpAnyH_take (i := 10) (oi := { dst := some 113, op := Op.move (Operand.tmp 7), type := 47, pos := "law.go:111", after := #[{ on := 8, ground := Ground.guard }], guard := some (8, true) }) (v := ?_) rfl (by kernel_rfl) (by kernel_rfl) (by kernel_rfl) (fun _ _ _ h => h) (Or.inl ⟨by rfl, ?_⟩) (by assumption) ?_
  rotate_left
  · intro w hSw; (try dsimp only at hSw); have y := hSw.tok.cells; obtain ⟨y0, y1, y2, y3⟩ := y; go_simp; (try rw [KN]); (try rw [beq_self_eq_true]); (try rw [E0]); try with_reducible rfl
  (try simp only [Act.put, List.setIfInBounds_toArray, List.set_cons_zero, List.set_cons_succ])
  refine wpAnyH_take (i := 11) (oi := { dst := some 114, op := Op.call { callee := Callee.builtin Builtin.len, args := #[Operand.tmp 113], argTypes := #[47] }, type := 3, pos := "law.go:111", after := #[{ on := 10, ground := Ground.data }, { on := 8, ground := Ground.guard }], guard := some (8, true) }) (v := ?_) rfl (by kernel_rfl) (by kernel_rfl) (by kernel_rfl) (fun _ _ _ h => h) (Or.inl ⟨by rfl, ?_⟩) (by assumption) ?_
  rotate_left
  · intro w hSw; (try dsimp only at hSw); have y := hSw.tok.cells; obtain ⟨y0, y1, y2, y3⟩ := y; go_simp; (try rw [KN]); (try rw [beq_self_eq_true]); (try rw [E0]); try with_reducible rfl
  (try simp only [Act.put, List.setIfInBounds_toArray, List.set_cons_zero, List.set_cons_succ])
  refine wpAnyH_take (i := 12) (oi := { dst := some 115, op := Op.binOp BinOp.eql 3 (Operand.tmp 112) (Operand.tmp 114) 3, type := 4, pos := "law.go:111", after := #[{ on := 9, ground := Ground.data }, { on := 11, ground := Ground.data }, { on := 8, ground := Ground.guard }], guard := some (8, true) }) (v := ?_) rfl (by kernel_rfl) (by kernel_rfl) (by kernel_rfl) (fun _ _ _ h => h) (Or.inl ⟨by rfl, ?_⟩) (by assumption) ?_
  rotate_left
  · intro w hSw; (try dsimp only at hSw); have y := hSw.tok.cells; obtain ⟨y0, y1, y2, y3⟩ := y; go_simp; (try rw [KN]); (try rw [beq_self_eq_true]); (try rw [E0]); try with_reducible rfl
  (try simp only [Act.put, List.setIfInBounds_toArray, List.set_cons_zero, List.set_cons_succ])
  refine wpAnyH_take (i := 13) (oi := { dst := some 116, op := Op.move (Operand.tmp 115), type := 4, pos := "law.go:111", after := #[{ on := 12, ground := Ground.data }, { on := 8, ground := Ground.chain }, { on := 8, ground := Ground.guard }], guard := some (8, true) }) (v := ?_) rfl (by kernel_rfl) (by kernel_rfl) (by kernel_rfl) (fun _ _ _ h => h) (Or.inl ⟨by rfl, ?_⟩) (by assumption) ?_
  rotate_left
  · intro w hSw; (try dsimp only at hSw); have y := hSw.tok.cells; obtain ⟨y0, y1, y2, y3⟩ := y; go_simp; (try rw [KN]); (try rw [beq_self_eq_true]); (try rw [E0]); try with_reducible rfl
  (try simp only [Act.put, List.setIfInBounds_toArray, List.set_cons_zero, List.set_cons_succ])
  refine wpAnyH_take (i := 14) (oi := { dst := some 117, op := Op.fieldAddr 57 (Operand.tmp 14) 3, type := 0, pos := "law.go:111", after := #[{ on := 13, ground := Ground.guard }], guard := some (13, false) }) (v := undef) rfl (by kernel_rfl) (by kernel_rfl) (by kernel_rfl) (fun _ _ _ h => h) (Or.inr ⟨by rfl, rfl⟩) (by assumption) ?_
  (try simp only [Act.put, List.setIfInBounds_toArray, List.set_cons_zero, List.set_cons_succ])
  refine wpAnyH_take (i := 15) (oi := { dst := some 118, op := Op.load 3 (Operand.tmp 117), type := 3, pos := "law.go:111", after := #[{ on := 14, ground := Ground.data }, { on := 13, ground := Ground.guard }], guard := some (13, false) }) (v := undef) rfl (by kernel_rfl) (by kernel_rfl) (by kernel_rfl) (fun _ _ _ h => h) (Or.inr ⟨by rfl, rfl⟩) (by assumption) ?_
  (try simp only [Act.put, List.setIfInBounds_toArray, List.set_cons_zero, List.set_cons_succ])
  refine wpAnyH_take (i := 16) (oi := { dst := some 119, op := Op.move (Operand.tmp 7), type := 47, pos := "law.go:111", after := #[{ on := 13, ground := Ground.guard }], guard := some (13, false) }) (v := undef) rfl (by kernel_rfl) (by kernel_rfl) (by kernel_rfl) (fun _ _ _ h => h) (Or.inr ⟨by rfl, rfl⟩) (by assumption) ?_
  (try simp only [Act.put, List.setIfInBounds_toArray, List.set_cons_zero, List.set_cons_succ])
  refine wpAnyH_take (i := 17) (oi := { dst := some 120, op := Op.move (Operand.tmp 12), type := 3, pos := "law.go:111", after := #[{ on := 13, ground := Ground.guard }], guard := some (13, false) }) (v := undef) rfl (by kernel_rfl) (by kernel_rfl) (by kernel_rfl) (fun _ _ _ h => h) (Or.inr ⟨by rfl, rfl⟩) (by assumption) ?_
  (try simp only [Act.put, List.setIfInBounds_toArray, List.set_cons_zero, List.set_cons_succ])
  refine wpAnyH_take (i := 18) (oi := { dst := some 121, op := Op.indexAddr 47 (Operand.tmp 119) (Operand.tmp 120), type := 0, pos := "law.go:111", after := #[{ on := 16, ground := Ground.data }, { on := 17, ground := Ground.data }, { on := 13, ground := Ground.guard }], guard := some (13, false) }) (v := undef) rfl (by kernel_rfl) (by kernel_rfl) (by kernel_rfl) (fun _ _ _ h => h) (Or.inr ⟨by rfl, rfl⟩) (by assumption) ?_
  (try simp only [Act.put, List.setIfInBounds_toArray, List.set_cons_zero, List.set_cons_succ])
  refine wpAnyH_take (i := 19) (oi := { dst := some 122, op := Op.fieldAddr 59 (Operand.tmp 121) 3, type := 0, pos := "law.go:111", after := #[{ on := 18, ground := Ground.data }, { on := 13, ground := Ground.guard }], guard := some (13, false) }) (v := undef) rfl (by kernel_rfl) (by kernel_rfl) (by kernel_rfl) (fun _ _ _ h => h) (Or.inr ⟨by rfl, rfl⟩) (by assumption) ?_
  (try simp only [Act.put, List.setIfInBounds_toArray, List.set_cons_zero, List.set_cons_succ])
  refine wpAnyH_take (i := 20) (oi := { dst := some 123, op := Op.load 3 (Operand.tmp 122), type := 3, pos := "law.go:111", after := #[{ on := 19, ground := Ground.data }, { on := 13, ground := Ground.guard }], guard := some (13, false) }) (v := undef) rfl (by kernel_rfl) (by kernel_rfl) (by kernel_rfl) (fun _ _ _ h => h) (Or.inr ⟨by rfl, rfl⟩) (by assumption) ?_
  (try simp only [Act.put, List.setIfInBounds_toArray, List.set_cons_zero, List.set_cons_succ])
  refine wpAnyH_take (i := 21) (oi := { dst := some 124, op := Op.binOp BinOp.eql 3 (Operand.tmp 118) (Operand.tmp 123) 3, type := 4, pos := "law.go:111", after := #[{ on := 15, ground := Ground.data }, { on := 20, ground := Ground.data }, { on := 13, ground := Ground.guard }], guard := some (13, false) }) (v := undef) rfl (by kernel_rfl) (by kernel_rfl) (by kernel_rfl) (fun _ _ _ h => h) (Or.inr ⟨by rfl, rfl⟩) (by assumption) ?_
  (try simp only [Act.put, List.setIfInBounds_toArray, List.set_cons_zero, List.set_cons_succ])
  refine wpAnyH_take (i := 22) (oi := { dst := some 125, op := Op.move (Operand.tmp 124), type := 4, pos := "law.go:111", after := #[{ on := 21, ground := Ground.data }, { on := 13, ground := Ground.chain }, { on := 13, ground := Ground.guard }], guard := some (13, false) }) (v := undef) rfl (by kernel_rfl) (by kernel_rfl) (by kernel_rfl) (fun _ _ _ h => h) (Or.inr ⟨by rfl, rfl⟩) (by assumption) ?_
  (try simp only [Act.put, List.setIfInBounds_toArray, List.set_cons_zero, List.set_cons_succ])
  refine wpAnyH_take (i := 23) (oi := { dst := some 126, op := Op.fieldAddr 57 (Operand.tmp 14) 1, type := 0, pos := "law.go:111", after := #[{ on := 22, ground := Ground.guard }], guard := some (22, true) }) (v := undef) rfl (by kernel_rfl) (by kernel_rfl) (by kernel_rfl) (fun _ _ _ h => h) (Or.inr ⟨by rfl, rfl⟩) (by assumption) ?_
  (try simp only [Act.put, List.setIfInBounds_toArray, List.set_cons_zero, List.set_cons_succ])
  refine wpAnyH_take (i := 24) (oi := { dst := some 127, op := Op.load 9 (Operand.tmp 126), type := 9, pos := "law.go:111", after := #[{ on := 23, ground := Ground.data }, { on := 22, ground := Ground.guard }], guard := some (22, true) }) (v := undef) rfl (by kernel_rfl) (by kernel_rfl) (by kernel_rfl) (fun _ _ _ h => h) (Or.inr ⟨by rfl, rfl⟩) (by assumption) ?_
  (try simp only [Act.put, List.setIfInBounds_toArray, List.set_cons_zero, List.set_cons_succ])
  refine wpAnyH_take (i := 25) (oi := { dst := some 128, op := Op.move (Operand.tmp 7), type := 47, pos := "law.go:111", after := #[{ on := 22, ground := Ground.guard }], guard := some (22, true) }) (v := undef) rfl (by kernel_rfl) (by kernel_rfl) (by kernel_rfl) (fun _ _ _ h => h) (Or.inr ⟨by rfl, rfl⟩) (by assumption) ?_
  (try simp only [Act.put, List.setIfInBounds_toArray, List.set_cons_zero, List.set_cons_succ])
  refine wpAnyH_take (i := 26) (oi := { dst := some 129, op := Op.move (Operand.tmp 12), type := 3, pos := "law.go:111", after := #[{ on := 22, ground := Ground.guard }], guard := some (22, true) }) (v := undef) rfl (by kernel_rfl) (by kernel_rfl) (by kernel_rfl) (fun _ _ _ h => h) (Or.inr ⟨by rfl, rfl⟩) (by assumption) ?_
  (try simp only [Act.put, List.setIfInBounds_toArray, List.set_cons_zero, List.set_cons_succ])
  refine wpAnyH_take (i := 27) (oi := { dst := some 130, op := Op.indexAddr 47 (Operand.tmp 128) (Operand.tmp 129), type := 0, pos := "law.go:111", after := #[{ on := 25, ground := Ground.data }, { on := 26, ground := Ground.data }, { on := 22, ground := Ground.guard }], guard := some (22, true) }) (v := undef) rfl (by kernel_rfl) (by kernel_rfl) (by kernel_rfl) (fun _ _ _ h => h) (Or.inr ⟨by rfl, rfl⟩) (by assumption) ?_
  (try simp only [Act.put, List.setIfInBounds_toArray, List.set_cons_zero, List.set_cons_succ])
  refine wpAnyH_take (i := 28) (oi := { dst := some 131, op := Op.fieldAddr 59 (Operand.tmp 130) 1, type := 0, pos := "law.go:111", after := #[{ on := 27, ground := Ground.data }, { on := 22, ground := Ground.guard }], guard := some (22, true) }) (v := undef) rfl (by kernel_rfl) (by kernel_rfl) (by kernel_rfl) (fun _ _ _ h => h) (Or.inr ⟨by rfl, rfl⟩) (by assumption) ?_
  (try simp only [Act.put, List.setIfInBounds_toArray, List.set_cons_zero, List.set_cons_succ])
  refine wpAnyH_take (i := 29) (oi := { dst := some 132, op := Op.load 9 (Operand.tmp 131), type := 9, pos := "law.go:111", after := #[{ on := 28, ground := Ground.data }, { on := 22, ground := Ground.guard }], guard := some (22, true) }) (v := undef) rfl (by kernel_rfl) (by kernel_rfl) (by kernel_rfl) (fun _ _ _ h => h) (Or.inr ⟨by rfl, rfl⟩) (by assumption) ?_
  (try simp only [Act.put, List.setIfInBounds_toArray, List.set_cons_zero, List.set_cons_succ])
  refine wpAnyH_take (i := 30) (oi := { dst := some 133, op := Op.binOp BinOp.eql 9 (Operand.tmp 127) (Operand.tmp 132) 9, type := 4, pos := "law.go:111", after := #[{ on := 24, ground := Ground.data }, { on := 29, ground := Ground.data }, { on := 22, ground := Ground.guard }], guard := some (22, true) }) (v := undef) rfl (by kernel_rfl) (by kernel_rfl) (by kernel_rfl) (fun _ _ _ h => h) (Or.inr ⟨by rfl, rfl⟩) (by assumption) ?_
  (try simp only [Act.put, List.setIfInBounds_toArray, List.set_cons_zero, List.set_cons_succ])
  refine wpAnyH_take (i := 31) (oi := { dst := some 134, op := Op.pick (Operand.tmp 125) (Operand.tmp 133) (Operand.const (Value.bool false)), type := 4, pos := "law.go:111", after := #[{ on := 22, ground := Ground.data }, { on := 30, ground := Ground.data }, { on := 13, ground := Ground.guard }], guard := some (13, false) }) (v := undef) rfl (by kernel_rfl) (by kernel_rfl) (by kernel_rfl) (fun _ _ _ h => h) (Or.inr ⟨by rfl, rfl⟩) (by assumption) ?_
  (try simp only [Act.put, List.setIfInBounds_toArray, List.set_cons_zero, List.set_cons_succ])
  refine wpAnyH_take (i := 32) (oi := { dst := some 135, op := Op.pick (Operand.tmp 116) (Operand.const (Value.bool true)) (Operand.tmp 134), type := 4, pos := "law.go:111", after := #[{ on := 13, ground := Ground.data }, { on := 31, ground := Ground.data }, { on := 8, ground := Ground.guard }], guard := some (8, true) }) (v := ?_) rfl (by kernel_rfl) (by kernel_rfl) (by kernel_rfl) (fun _ _ _ h => h) (Or.inl ⟨by rfl, ?_⟩) (by assumption) ?_
  rotate_left
  · intro w hSw; (try dsimp only at hSw); have y := hSw.tok.cells; obtain ⟨y0, y1, y2, y3⟩ := y; go_simp; (try rw [KN]); (try rw [beq_self_eq_true]); (try rw [E0]); try with_reducible rfl
  (try simp only [Act.put, List.setIfInBounds_toArray, List.set_cons_zero, List.set_cons_succ])
  refine wpAnyH_take (i := 33) (oi := { dst := some 136, op := Op.pick (Operand.tmp 111) (Operand.tmp 135) (Operand.const (Value.bool false)), type := 4, pos := "law.go:111", after := #[{ on := 8, ground := Ground.data }, { on := 32, ground := Ground.data }], guard := none }) (v := ?_) rfl (by kernel_rfl) (by kernel_rfl) (by kernel_rfl) (fun _ _ _ h => h) (Or.inl ⟨by rfl, ?_⟩) (by assumption) ?_
  rotate_left
  · intro w hSw; (try dsimp only at hSw); have y := hSw.tok.cells; obtain ⟨y0, y1, y2, y3⟩ := y; go_simp; (try rw [KN]); (try rw [beq_self_eq_true]); (try rw [E0]); try with_reducible rfl
  (try simp only [Act.put, List.setIfInBounds_toArray, List.set_cons_zero, List.set_cons_succ])
  refine wpAnyH_take (i := 34) (oi := { dst := some 137, op := Op.move (Operand.tmp 136), type := 4, pos := "law.go:111", after := #[{ on := 33, ground := Ground.data }, { on := 22, ground := Ground.chain }], guard := none }) (v := ?_) rfl (by kernel_rfl) (by kernel_rfl) (by kernel_rfl) (fun _ _ _ h => h) (Or.inl ⟨by rfl, ?_⟩) (by assumption) ?_
  rotate_left
  · intro w hSw; (try dsimp only at hSw); have y := hSw.tok.cells; obtain ⟨y0, y1, y2, y3⟩ := y; go_simp; (try rw [KN]); (try rw [beq_self_eq_true]); (try rw [E0]); try with_reducible rfl
  (try simp only [Act.put, List.setIfInBounds_toArray, List.set_cons_zero, List.set_cons_succ])
  refine wpAnyH_take (i := 35) (oi := { dst := some 138, op := Op.move (Operand.tmp 0), type := 22, pos := "law.go:111", after := #[{ on := 34, ground := Ground.guard }], guard := some (34, true) }) (v := ?_) rfl (by kernel_rfl) (by kernel_rfl) (by kernel_rfl) (fun _ _ _ h => h) (Or.inl ⟨by rfl, ?_⟩) (by assumption) ?_
  rotate_left
  · intro w hSw; (try dsimp only at hSw); have y := hSw.tok.cells; obtain ⟨y0, y1, y2, y3⟩ := y; go_simp; (try rw [KN]); (try rw [beq_self_eq_true]); (try rw [E0]); try with_reducible rfl
  (try simp only [Act.put, List.setIfInBounds_toArray, List.set_cons_zero, List.set_cons_succ])
  refine wpAnyH_take (i := 37) (oi := { dst := some 140, op := Op.build 29 #[], type := 29, pos := "law.go:111", after := #[{ on := 34, ground := Ground.guard }], guard := some (34, true) }) (v := ?_) rfl (by kernel_rfl) (by kernel_rfl) (by kernel_rfl) (fun _ _ _ h => h) (Or.inl ⟨by rfl, ?_⟩) (by assumption) ?_
  rotate_left
  · intro w hSw; (try dsimp only at hSw); have y := hSw.tok.cells; obtain ⟨y0, y1, y2, y3⟩ := y; go_simp; (try rw [KN]); (try rw [beq_self_eq_true]); (try rw [E0]); try with_reducible rfl
  (try simp only [Act.put, List.setIfInBounds_toArray, List.set_cons_zero, List.set_cons_succ])
  refine wpAnyH_ready (rs := [36]) (by kernel_rfl) (by simp) ?_
  refine AllReadyH.cons (o := { dst := some 139, op := Op.call { callee := Callee.value (Operand.func 30), args := #[Operand.tmp 138, Operand.const (Value.pointer none)], argTypes := #[22, 50] }, type := 29, pos := "law.go:111", after := #[{ on := 35, ground := Ground.data }, { on := 34, ground := Ground.chain }, { on := 34, ground := Ground.guard }], guard := some (34, true) }) rfl (fun K hK => ?_) AllReadyH.nil
  go_simp
  refine (scan_nil_lit A n c L _ (H.out.keep hHeld.below) HC.out).mono ?_
  rintro qq vv ⟨rfl, hb⟩
  have HK := Lib.hid (hHeld.keep hb)
  clear hb hHeld
  refine hK.out _ _ ?_ (fun hHeld => ?_)
  · exact HK.out
  clear HK
  clear hK K
  (try simp only [Act.put, List.setIfInBounds_toArray, List.set_cons_zero, List.set_cons_succ])
  refine wpAnyH_take (i := 38) (oi := { dst := some 141, op := Op.binOp BinOp.eql 29 (Operand.tmp 139) (Operand.tmp 140) 29, type := 4, pos := "law.go:111", after := #[{ on := 36, ground := Ground.data }, { on := 37, ground := Ground.data }, { on := 34, ground := Ground.guard }], guard := some (34, true) }) (v := ?_) rfl (by kernel_rfl) (by kernel_rfl) (by kernel_rfl) (fun _ _ _ h => h) (Or.inl ⟨by rfl, ?_⟩) (by assumption) ?_
  rotate_left
  · intro w hSw; (try dsimp only at hSw); have y := hSw.tok.cells; obtain ⟨y0, y1, y2, y3⟩ := y; go_simp; (try rw [KN]); (try rw [beq_self_eq_true]); (try rw [E0]); try with_reducible rfl
  (try simp only [Act.put, List.setIfInBounds_toArray, List.set_cons_zero, List.set_cons_succ])
  refine wpAnyH_take (i := 39) (oi := { dst := some 142, op := Op.pick (Operand.tmp 137) (Operand.tmp 141) (Operand.const (Value.bool false)), type := 4, pos := "law.go:111", after := #[{ on := 34, ground := Ground.data }, { on := 38, ground := Ground.data }], guard := none }) (v := ?_) rfl (by kernel_rfl) (by kernel_rfl) (by kernel_rfl) (fun _ _ _ h => h) (Or.inl ⟨by rfl, ?_⟩) (by assumption) ?_
  rotate_left
  · intro w hSw; (try dsimp only at hSw); have y := hSw.tok.cells; obtain ⟨y0, y1, y2, y3⟩ := y; go_simp; (try rw [KN]); (try rw [beq_self_eq_true]); (try rw [E0]); try with_reducible rfl
  (try simp only [Act.put, List.setIfInBounds_toArray, List.set_cons_zero, List.set_cons_succ])
  refine wpAnyH_take (i := 40) (oi := { dst := some 143, op := Op.move (Operand.tmp 142), type := 4, pos := "law.go:111", after := #[{ on := 39, ground := Ground.data }, { on := 36, ground := Ground.chain }], guard := none }) (v := ?_) rfl (by kernel_rfl) (by kernel_rfl) (by kernel_rfl) (fun _ _ _ h => h) (Or.inl ⟨by rfl, ?_⟩) (by assumption) ?_
  rotate_left
  · intro w hSw; (try dsimp only at hSw); have y := hSw.tok.cells; obtain ⟨y0, y1, y2, y3⟩ := y; go_simp; (try rw [KN]); (try rw [beq_self_eq_true]); (try rw [E0]); try with_reducible rfl
  (try simp only [Act.put, List.setIfInBounds_toArray, List.set_cons_zero, List.set_cons_succ])
  refine wpAnyH_ready (rs := [41]) (by kernel_rfl) (by simp) ?_
  refine AllReadyH.cons (o := { dst := some 144, op := Op.call { callee := Callee.value (Operand.func 10), args := #[], argTypes := #[] }, type := 4, pos := "law.go:111", after := #[{ on := 40, ground := Ground.chain }, { on := 40, ground := Ground.guard }], guard := some (40, true) }) rfl (fun K hK => ?_) AllReadyH.nil
  go_simp
  refine (AW.out _).mono ?_
  rintro qq vv ⟨rfl, hb⟩
  have HK := Lib.hid (hHeld.keep hb)
  clear hb hHeld
  refine hK.out _ _ ?_ (fun hHeld => ?_)
  · exact HK.out
  clear HK
  clear hK K
  (try simp only [Act.put, List.setIfInBounds_toArray, List.set_cons_zero, List.set_cons_succ])
  refine wpAnyH_take (i := 42) (oi := { dst := some 145, op := Op.pick (Operand.tmp 143) (Operand.tmp 144) (Operand.const (Value.bool false)), type := 4, pos := "law.go:111", after := #[{ on := 40, ground := Ground.data }, { on := 41, ground := Ground.data }], guard := none }) (v := ?_) rfl (by kernel_rfl) (by kernel_rfl) (by kernel_rfl) (fun _ _ _ h => h) (Or.inl ⟨by rfl, ?_⟩) (by assumption) ?_
  rotate_left
  · intro w hSw; (try dsimp only at hSw); have y := hSw.tok.cells; obtain ⟨y0, y1, y2, y3⟩ := y; go_simp; (try rw [KN]); (try rw [beq_self_eq_true]); (try rw [E0]); try with_reducible rfl
  (try simp only [Act.put, List.setIfInBounds_toArray, List.set_cons_zero, List.set_cons_succ])
  refine wpAnyH_take (i := 43) (oi := { dst := some 4, op := Op.assign (Operand.tmp 145), type := 4, pos := "law.go:111", after := #[{ on := 42, ground := Ground.data }, { on := 41, ground := Ground.chain }, { on := 0, ground := Ground.phase }, { on := 1, ground := Ground.phase }, { on := 2, ground := Ground.phase }, { on := 3, ground := Ground.phase }, { on := 4, ground := Ground.phase }, { on := 5, ground := Ground.phase }, { on := 6, ground := Ground.phase }, { on := 7, ground := Ground.phase }, { on := 8, ground := Ground.phase }, { on := 9, ground := Ground.phase }, { on := 10, ground := Ground.phase }, { on := 11, ground := Ground.phase }, { on := 12, ground := Ground.phase }, { on := 13, ground := Ground.phase }, { on := 14, ground := Ground.phase }, { on := 15, ground := Ground.phase }, { on := 16, ground := Ground.phase }, { on := 17, ground := Ground.phase }, { on := 18, ground := Ground.phase }, { on := 19, ground := Ground.phase }, { on := 20, ground := Ground.phase }, { on := 21, ground := Ground.phase }, { on := 22, ground := Ground.phase }, { on := 23, ground := Ground.phase }, { on := 24, ground := Ground.phase }, { on := 25, ground := Ground.phase }, { on := 26, ground := Ground.phase }, { on := 27, ground := Ground.phase }, { on := 28, ground := Ground.phase }, { on := 29, ground := Ground.phase }, { on := 30, ground := Ground.phase }, { on := 31, ground := Ground.phase }, { on := 32, ground := Ground.phase }, { on := 33, ground := Ground.phase }, { on := 34, ground := Ground.phase }, { on := 35, ground := Ground.phase }, { on := 36, ground := Ground.phase }, { on := 37, ground := Ground.phase }, { on := 38, ground := Ground.phase }, { on := 39, ground := Ground.phase }, { on := 40, ground := Ground.phase }, { on := 41, ground := Ground.phase }, { on := 42, ground := Ground.phase }], guard := none }) (v := ?_) rfl (by kernel_rfl) (by kernel_rfl) (by kernel_rfl) (fun _ _ _ h => h) (Or.inl ⟨by rfl, ?_⟩) (by assumption) ?_
  rotate_left
  · intro w hSw; (try dsimp only at hSw); have y := hSw.tok.cells; obtain ⟨y0, y1, y2, y3⟩ := y; go_simp; (try rw [KN]); (try rw [beq_self_eq_true]); (try rw [E0]); try with_reducible rfl
  (try simp only [Act.put, List.setIfInBounds_toArray, List.set_cons_zero, List.set_cons_succ])
  refine wpAnyH_done (by kernel_rfl) ?_ _
  have B8 := Lib.hid hHeld.below
  clear hHeld
  go_wp2
  go_ret
  exact ⟨rfl, B8.out⟩
set_option maxRecDepth 100000 in
set_option maxHeartbeats 16000000 in
theorem scans_left (A : Option Addr) (n c : Nat) (L : List Pr) (s : ByteArray) (w : World) (ts us : List Tk) (z0 z1 z2 z3 z4 z5 : Int) (k : Nat) (hk : k < ts.length) (hu : us = ts.drop k) (h : Prs w A n c L) (h5 : s.size ≤ 1000) (hs : s.size ≤ 9223372036854775807) (hT : toks s.data.toList = (ts, 0)) (hc : MC.chkL L = 0) (hR : MC.scanL L ts = ([z0, z1, z2, z3, z4, z5], us, 0)) : Calls Tryd.prog 9 #[.slice A n c, .string s] w (Gives (.bool true) w) := by
  have AW := Lib.hid (fun w' => awake8 w')
  have d1 : decide (100 < (n : Int)) = false := decide_eq_false (by have := h.few; omega)
  have d2 : decide (1000 < (s.size : Int)) = false := decide_eq_false (by omega)
  have H := Lib.hid h
  have TK := Lib.hid (fun w' => tokens_any s hs w')
  have RTK := Lib.hid (fun w' => rtokens_any s hs w')
  rw [hT] at TK RTK
  have SC := Lib.hid (fun (N g : Nat) (w' : World) (h1 : SP (fun k => g ≤ k) w' g ts 0) (h2 : N ≤ g) (h3 : N ≤ w'.heap.size) (h4 : ∀ w'', Below N w' w'' → Prs w'' A n c L) => scan_any A n c L N g ts w' h1 h2 h3 h4 hc)
  have RC := Lib.hid (fun w' (hb : Below w.heap.size w w') => rcheck8_any A n c L w' (H.out.keep hb))
  rw [hc] at RC
  have HC := Lib.hid hc
  have RT := Lib.hid (fun (A2 : Option Addr) (m c2 : Nat) w' (hb : Below w.heap.size w w') (ht : Tks w' A2 m c2 ts) => rtok_any A n c L (MC.chk_good hc).few A2 m c2 ts w' (H.out.keep hb) ht)
  rw [hR] at SC RT
  unfold tokV at RT
  have E0 := same_lit 0 0 0 0 0 0
  have E1 := same_lit z0 z1 z2 z3 z4 z5
  have hne : us ≠ [] := by rw [hu]; intro e; have := List.drop_eq_nil_iff.1 e; omega
  have HEnd : Hid (endE us 0 = 3) := Lib.hid (if_neg hne)
  have HUs : Hid (used ts ([z0, z1, z2, z3, z4, z5], us, 0) = k) := Lib.hid ((if_pos rfl).trans (by show ts.length - us.length = k; rw [hu, List.length_drop]; omega))
  rw [HUs.out] at RT
  have HDk : Hid (ts[k]? = some (headT us)) := Lib.hid (by
    rw [hu]
    cases hd : ts.drop k with
    | nil => have := List.drop_eq_nil_iff.1 hd; omega
    | cons t r =>
      have : (ts.drop k)[0]? = some t := by rw [hd]; rfl
      rwa [List.getElem?_drop, Nat.add_zero] at this)
  have HK := Lib.hid hk
  clear hne hk
  clear h hT hc hR hu HUs
  go_enter Tryd.func9, Tryd.ntmps9
  go_wp2_with fail
  refine (TK.out _).mono ?_
  rintro q1 w1 ⟨A1, n1, c1, rfl, htk, hb⟩
  have B1 := Lib.hid hb
  have T1 := Lib.hid htk
  clear hb htk TK
  simp only
  go_wp2_with fail
  refine (RTK.out _).mono ?_
  rintro q2 w2 ⟨A2, n2, c2, rfl, htk, hb⟩
  obtain rfl : n1 = n2 := T1.out.len.symm.trans htk.len
  have B2 := Lib.hid (B1.out.trans (hb.mono B1.out.size))
  have T2 := Lib.hid htk
  have T1' := Lib.hid (T1.out.keep hb)
  clear hb htk RTK T1 B1
  simp only
  go_wp2_with fail
  refine (new_any A1 n1 c1 ts w2 T1'.out).mono ?_
  rintro q3 w3 ⟨g, A3, n3, c3, rfl, hblk, htk, hfar, hge, hb⟩
  have S3 := Lib.hid (fresh_sp hblk htk (fun ad ha => (hfar ad ha).2))
  have B3 := Lib.hid (B2.out.trans (hb.mono B2.out.size))
  have T2' := Lib.hid T2.out
  have HB3 := Lib.hid hb
  have HG := Lib.hid hge
  have HSZ := Lib.hid hb.size
  clear hblk htk hfar hge hb T2 T1'
  have TF : Hid (∀ w4, Below w2.heap.size w3 w4 → Tks w4 A2 n1 c2 ts) := Lib.hid (fun w4 hb => T2'.out.keep (HB3.out.trans hb))
  have SCN := Lib.hid (SC.out w2.heap.size g w3 S3.out HG.out HSZ.out (fun w'' hw => H.out.keep (B3.out.trans (hw.mono B2.out.size))))
  clear SC S3
  go_wp2_with fail
  refine SCN.out.mono ?_
  rintro q4 w4 ⟨rfl, hsp, hb⟩
  have B4 := Lib.hid (B3.out.trans (hb.mono B2.out.size))
  have S5 := Lib.hid (hsp.keep (below_new w4 (.cells #[.int .i64 z0, .int .i64 z1, .int .i64 z2, .int .i64 z3, .int .i64 z4, .int .i64 z5] 29)))
  have T4 : Hid (Tks w4 A2 n1 c2 ts) := Lib.hid (TF.out w4 hb)
  have T5 := Lib.hid (T4.out.keep (below_new w4 (.cells #[.int .i64 z0, .int .i64 z1, .int .i64 z2, .int .i64 z3, .int .i64 z4, .int .i64 z5] 29)))
  have B5 := Lib.hid (B4.out.trans ((below_new w4 (.cells #[.int .i64 z0, .int .i64 z1, .int .i64 z2, .int .i64 z3, .int .i64 z4, .int .i64 z5] 29)).mono B4.out.size))
  have Q5 := Lib.hid (BB.new w4 29 z0 z1 z2 z3 z4 z5)
  clear hsp hb SCN B3 B4 T4 TF
  simp only
  rw [aggB_lit]
  go_wp2_with fail
  generalize w4.heap.size = Qb at *
  refine (RC.out _ B5.out).mono ?_
  rintro q6 w6 ⟨rfl, hb⟩
  have B6 := Lib.hid (B5.out.trans (hb.mono B5.out.size))
  have S6 := Lib.hid (S5.out.keep hb)
  have T6 := Lib.hid (T5.out.keep hb)
  have Q6 := Lib.hid (Q5.out.keep hb Q5.out.lt)
  clear hb B5 S5 Q5 T5 RC
  go_wp2_with fail
  refine (RT.out A2 n1 c2 _ B6.out T6.out).mono ?_
  rintro q7 w7 ⟨rfl, hb⟩
  have B7 := Lib.hid (B6.out.trans (hb.mono B6.out.size))
  have S7 := Lib.hid (S6.out.keep hb)
  have T7 := Lib.hid (T6.out.keep hb)
  have Q7 := Lib.hid (Q6.out.keep hb Q6.out.lt)
  have bn := below_new w7 (.cells #[.int .i64 z0, .int .i64 z1, .int .i64 z2, .int .i64 z3, .int .i64 z4, .int .i64 z5] 29)
  have B8 := Lib.hid (B7.out.trans (bn.mono B7.out.size))
  have S8 := Lib.hid (S7.out.keep bn)
  have T8 := Lib.hid (T7.out.keep bn)
  have Q8 := Lib.hid (Q7.out.keep bn Q7.out.lt)
  have hl8 := Q8.out.lt
  have P8 := Lib.hid (BB.new w7 29 z0 z1 z2 z3 z4 z5)
  clear hb bn B6 S6 T6 Q6 RT B7 S7 T7 Q7
  obtain ⟨c0, c1', c2', c3', c4, c5⟩ := cells6 Q8.out
  obtain ⟨p0, p1, p2, p3, p4, p5⟩ := cells6 P8.out
  have ER := Lib.hid (errU S8.out)
  simp only
  rw [aggB_lit]
  go_wp2_with fail
  refine ER.out.mono ?_
  rintro q9 w9 ⟨rfl, rfl⟩
  clear ER
  obtain ⟨t, ht⟩ : ∃ t, t = headT us := ⟨_, rfl⟩
  have PK : Hid (Calls Tryd.prog 33 #[.pointer (some ⟨g, 0, none⟩)] _ (Gives (aggT t) _)) := Lib.hid (by obtain ⟨A9, n9, c9, hs9, _⟩ := S8.out; rw [ht]; exact peek_any hs9)
  have HT := Lib.hid ht
  clear ht
  go_wp2_with fail
  refine PK.out.mono ?_
  rintro q10 w10 ⟨rfl, hb⟩
  have bn := below_new w10 (.cells #[.int .i64 t.kind, .string (str t.text), .int .i64 t.value, .int .i64 t.at_] 57)
  have HU : Hid (ScH w A2 n1 c2 ts us g w10.heap.size t (w10.alloc (.cells #[.int .i64 t.kind, .string (str t.text), .int .i64 t.value, .int .i64 t.at_] 57))) :=
    Lib.hid ⟨(B8.out.trans (hb.mono B8.out.size)).trans (bn.mono (Nat.le_trans B8.out.size hb.size)), (T8.out.keep hb).keep bn, (S8.out.keep hb).keep bn, TB.new w10 _ _ _ _ _⟩
  clear hb bn PK B8 S8 T8 P8 Q8
  unfold aggT
  go_wp2_with fail
  generalize w10.alloc (.cells #[.int .i64 t.kind, .string (str t.text), .int .i64 t.value, .int .i64 t.at_] 57) = W at *
  generalize w10.heap.size = T at *
  have hkn : k < n1 := by rw [← HU.out.tks.len]; exact HK.out
  have KN : ((k : Int) == (n1 : Int)) = false := beq_eq_false_iff_ne.2 (by omega)
  obtain ⟨ad, t', rfl, ht', _⟩ := HU.out.tks.at_ hkn
  obtain rfl : t' = t := by rw [HDk.out] at ht'; injection ht' with ht'; rw [← ht', HT.out]
  have EK : Hid (∀ w', Tks w' (some ad) n1 c2 ts → w'.cell? (ad.add (k * 4)) = some (.int .i64 t'.kind) ∧ w'.cell? ⟨(ad.add (k * 4)).block, (ad.add (k * 4)).off + 1, none⟩ = some (.string (str t'.text)) ∧ w'.cell? ⟨(ad.add (k * 4)).block, (ad.add (k * 4)).off + 2, none⟩ = some (.int .i64 t'.value) ∧ w'.cell? ⟨(ad.add (k * 4)).block, (ad.add (k * 4)).off + 3, none⟩ = some (.int .i64 t'.at_)) := Lib.hid (fun w' hk' => by
    obtain ⟨ad', t'', e1, e2, _, x0, x1, x2, x3⟩ := hk'.at_ hkn
    injection e1 with e1
    subst e1
    obtain rfl : t'' = t' := by rw [ht'] at e2; injection e2 with e2; exact e2.symm
    exact ⟨x0, x1, x2, x3⟩)
  clear HT ht' HDk HK
  refine wp_region_held_drew (S := fun w' => ScH w (some ad) n1 c2 ts us g T t' w') (by kernel_rfl) HU.out.drew (fun hHeld => ?_)
  refine wpAnyH_take (i := 0) (oi := { dst := some 103, op := Op.move (Operand.tmp 12), type := 3, pos := "law.go:111", after := #[], guard := none }) (v := ?_) rfl (by kernel_rfl) (by kernel_rfl) (by kernel_rfl) (fun _ _ _ h => h) (Or.inl ⟨by rfl, ?_⟩) (by assumption) ?_
  rotate_left
  · intro w hSw; (try dsimp only at hSw); have y := hSw.tok.cells; obtain ⟨y0, y1, y2, y3⟩ := y; obtain ⟨x0, x1, x2, x3⟩ := EK.out w hSw.tks; go_simp; (try rw [KN]); (try rw [beq_self_eq_true]); (try rw [E0]); try with_reducible rfl
  (try simp only [Act.put, List.setIfInBounds_toArray, List.set_cons_zero, List.set_cons_succ])
  refine wpAnyH_take (i := 1) (oi := { dst := some 104, op := Op.move (Operand.tmp 7), type := 47, pos := "law.go:111", after := #[], guard := none }) (v := ?_) rfl (by kernel_rfl) (by kernel_rfl) (by kernel_rfl) (fun _ _ _ h => h) (Or.inl ⟨by rfl, ?_⟩) (by assumption) ?_
  rotate_left
  · intro w hSw; (try dsimp only at hSw); have y := hSw.tok.cells; obtain ⟨y0, y1, y2, y3⟩ := y; obtain ⟨x0, x1, x2, x3⟩ := EK.out w hSw.tks; go_simp; (try rw [KN]); (try rw [beq_self_eq_true]); (try rw [E0]); try with_reducible rfl
  (try simp only [Act.put, List.setIfInBounds_toArray, List.set_cons_zero, List.set_cons_succ])
  refine wpAnyH_take (i := 2) (oi := { dst := some 105, op := Op.call { callee := Callee.builtin Builtin.len, args := #[Operand.tmp 104], argTypes := #[47] }, type := 3, pos := "law.go:111", after := #[{ on := 1, ground := Ground.data }], guard := none }) (v := ?_) rfl (by kernel_rfl) (by kernel_rfl) (by kernel_rfl) (fun _ _ _ h => h) (Or.inl ⟨by rfl, ?_⟩) (by assumption) ?_
  rotate_left
  · intro w hSw; (try dsimp only at hSw); have y := hSw.tok.cells; obtain ⟨y0, y1, y2, y3⟩ := y; obtain ⟨x0, x1, x2, x3⟩ := EK.out w hSw.tks; go_simp; (try rw [KN]); (try rw [beq_self_eq_true]); (try rw [E0]); try with_reducible rfl
  (try simp only [Act.put, List.setIfInBounds_toArray, List.set_cons_zero, List.set_cons_succ])
  refine wpAnyH_take (i := 3) (oi := { dst := some 106, op := Op.binOp BinOp.eql 3 (Operand.tmp 103) (Operand.tmp 105) 3, type := 4, pos := "law.go:111", after := #[{ on := 0, ground := Ground.data }, { on := 2, ground := Ground.data }], guard := none }) (v := ?_) rfl (by kernel_rfl) (by kernel_rfl) (by kernel_rfl) (fun _ _ _ h => h) (Or.inl ⟨by rfl, ?_⟩) (by assumption) ?_
  rotate_left
  · intro w hSw; (try dsimp only at hSw); have y := hSw.tok.cells; obtain ⟨y0, y1, y2, y3⟩ := y; obtain ⟨x0, x1, x2, x3⟩ := EK.out w hSw.tks; go_simp; (try rw [KN]); (try rw [beq_self_eq_true]); (try rw [E0]); try with_reducible rfl
  (try simp only [Act.put, List.setIfInBounds_toArray, List.set_cons_zero, List.set_cons_succ])
  refine wpAnyH_take (i := 4) (oi := { dst := some 107, op := Op.move (Operand.tmp 9), type := 50, pos := "law.go:111", after := #[], guard := none }) (v := ?_) rfl (by kernel_rfl) (by kernel_rfl) (by kernel_rfl) (fun _ _ _ h => h) (Or.inl ⟨by rfl, ?_⟩) (by assumption) ?_
  rotate_left
  · intro w hSw; (try dsimp only at hSw); have y := hSw.tok.cells; obtain ⟨y0, y1, y2, y3⟩ := y; obtain ⟨x0, x1, x2, x3⟩ := EK.out w hSw.tks; go_simp; (try rw [KN]); (try rw [beq_self_eq_true]); (try rw [E0]); try with_reducible rfl
  (try simp only [Act.put, List.setIfInBounds_toArray, List.set_cons_zero, List.set_cons_succ])
  refine wpAnyH_ready (rs := [5]) (by kernel_rfl) (by simp) ?_
  refine AllReadyH.cons (o := { dst := some 108, op := Op.call { callee := Callee.value (Operand.func 34), args := #[Operand.tmp 107], argTypes := #[50] }, type := 26, pos := "law.go:111", after := #[{ on := 4, ground := Ground.data }], guard := none }) rfl (fun K hK => ?_) AllReadyH.nil
  go_simp
  have EN := Lib.hid (endU hHeld.sp)
  rw [HEnd.out] at EN
  refine EN.out.mono ?_
  rintro qq vv ⟨rfl, rfl⟩
  clear EN
  refine hK.out _ _ ?_ (fun hHeld => ?_)
  · exact hHeld
  clear hK K
  (try simp only [Act.put, List.setIfInBounds_toArray, List.set_cons_zero, List.set_cons_succ])
  refine wpAnyH_take (i := 6) (oi := { dst := some 109, op := Op.binOp BinOp.eql 26 (Operand.tmp 108) (Operand.const (Value.int IntKind.i64 0)) 26, type := 4, pos := "law.go:111", after := #[{ on := 5, ground := Ground.data }], guard := none }) (v := ?_) rfl (by kernel_rfl) (by kernel_rfl) (by kernel_rfl) (fun _ _ _ h => h) (Or.inl ⟨by rfl, ?_⟩) (by assumption) ?_
  rotate_left
  · intro w hSw; (try dsimp only at hSw); have y := hSw.tok.cells; obtain ⟨y0, y1, y2, y3⟩ := y; obtain ⟨x0, x1, x2, x3⟩ := EK.out w hSw.tks; go_simp; (try rw [KN]); (try rw [beq_self_eq_true]); (try rw [E0]); try with_reducible rfl
  (try simp only [Act.put, List.setIfInBounds_toArray, List.set_cons_zero, List.set_cons_succ])
  refine wpAnyH_take (i := 7) (oi := { dst := some 110, op := Op.binOp BinOp.eql 4 (Operand.tmp 106) (Operand.tmp 109) 4, type := 4, pos := "law.go:111", after := #[{ on := 3, ground := Ground.data }, { on := 6, ground := Ground.data }], guard := none }) (v := ?_) rfl (by kernel_rfl) (by kernel_rfl) (by kernel_rfl) (fun _ _ _ h => h) (Or.inl ⟨by rfl, ?_⟩) (by assumption) ?_
  rotate_left
  · intro w hSw; (try dsimp only at hSw); have y := hSw.tok.cells; obtain ⟨y0, y1, y2, y3⟩ := y; obtain ⟨x0, x1, x2, x3⟩ := EK.out w hSw.tks; go_simp; (try rw [KN]); (try rw [beq_self_eq_true]); (try rw [E0]); try with_reducible rfl
  (try simp only [Act.put, List.setIfInBounds_toArray, List.set_cons_zero, List.set_cons_succ])
  refine wpAnyH_take (i := 8) (oi := { dst := some 111, op := Op.move (Operand.tmp 110), type := 4, pos := "law.go:111", after := #[{ on := 7, ground := Ground.data }, { on := 5, ground := Ground.chain }], guard := none }) (v := ?_) rfl (by kernel_rfl) (by kernel_rfl) (by kernel_rfl) (fun _ _ _ h => h) (Or.inl ⟨by rfl, ?_⟩) (by assumption) ?_
  rotate_left
  · intro w hSw; (try dsimp only at hSw); have y := hSw.tok.cells; obtain ⟨y0, y1, y2, y3⟩ := y; obtain ⟨x0, x1, x2, x3⟩ := EK.out w hSw.tks; go_simp; (try rw [KN]); (try rw [beq_self_eq_true]); (try rw [E0]); try with_reducible rfl
  (try simp only [Act.put, List.setIfInBounds_toArray, List.set_cons_zero, List.set_cons_succ])
  refine wpAnyH_take (i := 9) (oi := { dst := some 112, op := Op.move (Operand.tmp 12), type := 3, pos := "law.go:111", after := #[{ on := 8, ground := Ground.guard }], guard := some (8, true) }) (v := ?_) rfl (by kernel_rfl) (by kernel_rfl) (by kernel_rfl) (fun _ _ _ h => h) (Or.inl ⟨by rfl, ?_⟩) (by assumption) ?_
  rotate_left
  · intro w hSw; (try dsimp only at hSw); have y := hSw.tok.cells; obtain ⟨y0, y1, y2, y3⟩ := y; obtain ⟨x0, x1, x2, x3⟩ := EK.out w hSw.tks; go_simp; (try rw [KN]); (try rw [beq_self_eq_true]); (try rw [E0]); try with_reducible rfl
  (try simp only [Act.put, List.setIfInBounds_toArray, List.set_cons_zero, List.set_cons_succ])
  refine wpAnyH_take (i := 10) (oi := { dst := some 113, op := Op.move (Operand.tmp 7), type := 47, pos := "law.go:111", after := #[{ on := 8, ground := Ground.guard }], guard := some (8, true) }) (v := ?_) rfl (by kernel_rfl) (by kernel_rfl) (by kernel_rfl) (fun _ _ _ h => h) (Or.inl ⟨by rfl, ?_⟩) (by assumption) ?_
  rotate_left
  · intro w hSw; (try dsimp only at hSw); have y := hSw.tok.cells; obtain ⟨y0, y1, y2, y3⟩ := y; obtain ⟨x0, x1, x2, x3⟩ := EK.out w hSw.tks; go_simp; (try rw [KN]); (try rw [beq_self_eq_true]); (try rw [E0]); try with_reducible rfl
  (try simp only [Act.put, List.setIfInBounds_toArray, List.set_cons_zero, List.set_cons_succ])
  refine wpAnyH_take (i := 11) (oi := { dst := some 114, op := Op.call { callee := Callee.builtin Builtin.len, args := #[Operand.tmp 113], argTypes := #[47] }, type := 3, pos := "law.go:111", after := #[{ on := 10, ground := Ground.data }, { on := 8, ground := Ground.guard }], guard := some (8, true) }) (v := ?_) rfl (by kernel_rfl) (by kernel_rfl) (by kernel_rfl) (fun _ _ _ h => h) (Or.inl ⟨by rfl, ?_⟩) (by assumption) ?_
  rotate_left
  · intro w hSw; (try dsimp only at hSw); have y := hSw.tok.cells; obtain ⟨y0, y1, y2, y3⟩ := y; obtain ⟨x0, x1, x2, x3⟩ := EK.out w hSw.tks; go_simp; (try rw [KN]); (try rw [beq_self_eq_true]); (try rw [E0]); try with_reducible rfl
  (try simp only [Act.put, List.setIfInBounds_toArray, List.set_cons_zero, List.set_cons_succ])
  refine wpAnyH_take (i := 12) (oi := { dst := some 115, op := Op.binOp BinOp.eql 3 (Operand.tmp 112) (Operand.tmp 114) 3, type := 4, pos := "law.go:111", after := #[{ on := 9, ground := Ground.data }, { on := 11, ground := Ground.data }, { on := 8, ground := Ground.guard }], guard := some (8, true) }) (v := ?_) rfl (by kernel_rfl) (by kernel_rfl) (by kernel_rfl) (fun _ _ _ h => h) (Or.inl ⟨by rfl, ?_⟩) (by assumption) ?_
  rotate_left
  · intro w hSw; (try dsimp only at hSw); have y := hSw.tok.cells; obtain ⟨y0, y1, y2, y3⟩ := y; obtain ⟨x0, x1, x2, x3⟩ := EK.out w hSw.tks; go_simp; (try rw [KN]); (try rw [beq_self_eq_true]); (try rw [E0]); try with_reducible rfl
  (try simp only [Act.put, List.setIfInBounds_toArray, List.set_cons_zero, List.set_cons_succ])
  refine wpAnyH_take (i := 13) (oi := { dst := some 116, op := Op.move (Operand.tmp 115), type := 4, pos := "law.go:111", after := #[{ on := 12, ground := Ground.data }, { on := 8, ground := Ground.chain }, { on := 8, ground := Ground.guard }], guard := some (8, true) }) (v := ?_) rfl (by kernel_rfl) (by kernel_rfl) (by kernel_rfl) (fun _ _ _ h => h) (Or.inl ⟨by rfl, ?_⟩) (by assumption) ?_
  rotate_left
  · intro w hSw; (try dsimp only at hSw); have y := hSw.tok.cells; obtain ⟨y0, y1, y2, y3⟩ := y; obtain ⟨x0, x1, x2, x3⟩ := EK.out w hSw.tks; go_simp; (try rw [KN]); (try rw [beq_self_eq_true]); (try rw [E0]); try with_reducible rfl
  (try simp only [Act.put, List.setIfInBounds_toArray, List.set_cons_zero, List.set_cons_succ])
  refine wpAnyH_take (i := 14) (oi := { dst := some 117, op := Op.fieldAddr 57 (Operand.tmp 14) 3, type := 0, pos := "law.go:111", after := #[{ on := 13, ground := Ground.guard }], guard := some (13, false) }) (v := ?_) rfl (by kernel_rfl) (by kernel_rfl) (by kernel_rfl) (fun _ _ _ h => h) (Or.inl ⟨by rfl, ?_⟩) (by assumption) ?_
  rotate_left
  · intro w hSw; (try dsimp only at hSw); have y := hSw.tok.cells; obtain ⟨y0, y1, y2, y3⟩ := y; obtain ⟨x0, x1, x2, x3⟩ := EK.out w hSw.tks; go_simp; (try rw [KN]); (try rw [beq_self_eq_true]); (try rw [E0]); try with_reducible rfl
  (try simp only [Act.put, List.setIfInBounds_toArray, List.set_cons_zero, List.set_cons_succ])
  refine wpAnyH_take (i := 15) (oi := { dst := some 118, op := Op.load 3 (Operand.tmp 117), type := 3, pos := "law.go:111", after := #[{ on := 14, ground := Ground.data }, { on := 13, ground := Ground.guard }], guard := some (13, false) }) (v := ?_) rfl (by kernel_rfl) (by kernel_rfl) (by kernel_rfl) (fun _ _ _ h => h) (Or.inl ⟨by rfl, ?_⟩) (by assumption) ?_
  rotate_left
  · intro w hSw; (try dsimp only at hSw); have y := hSw.tok.cells; obtain ⟨y0, y1, y2, y3⟩ := y; obtain ⟨x0, x1, x2, x3⟩ := EK.out w hSw.tks; go_simp; (try rw [KN]); (try rw [beq_self_eq_true]); (try rw [E0]); try with_reducible rfl
  (try simp only [Act.put, List.setIfInBounds_toArray, List.set_cons_zero, List.set_cons_succ])
  refine wpAnyH_take (i := 16) (oi := { dst := some 119, op := Op.move (Operand.tmp 7), type := 47, pos := "law.go:111", after := #[{ on := 13, ground := Ground.guard }], guard := some (13, false) }) (v := ?_) rfl (by kernel_rfl) (by kernel_rfl) (by kernel_rfl) (fun _ _ _ h => h) (Or.inl ⟨by rfl, ?_⟩) (by assumption) ?_
  rotate_left
  · intro w hSw; (try dsimp only at hSw); have y := hSw.tok.cells; obtain ⟨y0, y1, y2, y3⟩ := y; obtain ⟨x0, x1, x2, x3⟩ := EK.out w hSw.tks; go_simp; (try rw [KN]); (try rw [beq_self_eq_true]); (try rw [E0]); try with_reducible rfl
  (try simp only [Act.put, List.setIfInBounds_toArray, List.set_cons_zero, List.set_cons_succ])
  refine wpAnyH_take (i := 17) (oi := { dst := some 120, op := Op.move (Operand.tmp 12), type := 3, pos := "law.go:111", after := #[{ on := 13, ground := Ground.guard }], guard := some (13, false) }) (v := ?_) rfl (by kernel_rfl) (by kernel_rfl) (by kernel_rfl) (fun _ _ _ h => h) (Or.inl ⟨by rfl, ?_⟩) (by assumption) ?_
  rotate_left
  · intro w hSw; (try dsimp only at hSw); have y := hSw.tok.cells; obtain ⟨y0, y1, y2, y3⟩ := y; obtain ⟨x0, x1, x2, x3⟩ := EK.out w hSw.tks; go_simp; (try rw [KN]); (try rw [beq_self_eq_true]); (try rw [E0]); try with_reducible rfl
  (try simp only [Act.put, List.setIfInBounds_toArray, List.set_cons_zero, List.set_cons_succ])
  refine wpAnyH_take (i := 18) (oi := { dst := some 121, op := Op.indexAddr 47 (Operand.tmp 119) (Operand.tmp 120), type := 0, pos := "law.go:111", after := #[{ on := 16, ground := Ground.data }, { on := 17, ground := Ground.data }, { on := 13, ground := Ground.guard }], guard := some (13, false) }) (v := ?_) rfl (by kernel_rfl) (by kernel_rfl) (by kernel_rfl) (fun _ _ _ h => h) (Or.inl ⟨by rfl, ?_⟩) (by assumption) ?_
  rotate_left
  · intro w hSw; (try dsimp only at hSw); have y := hSw.tok.cells; obtain ⟨y0, y1, y2, y3⟩ := y; obtain ⟨x0, x1, x2, x3⟩ := EK.out w hSw.tks; go_simp; (try rw [KN]); (try rw [beq_self_eq_true]); (try rw [E0]); try with_reducible rfl
  (try simp only [Act.put, List.setIfInBounds_toArray, List.set_cons_zero, List.set_cons_succ])
  refine wpAnyH_take (i := 19) (oi := { dst := some 122, op := Op.fieldAddr 59 (Operand.tmp 121) 3, type := 0, pos := "law.go:111", after := #[{ on := 18, ground := Ground.data }, { on := 13, ground := Ground.guard }], guard := some (13, false) }) (v := ?_) rfl (by kernel_rfl) (by kernel_rfl) (by kernel_rfl) (fun _ _ _ h => h) (Or.inl ⟨by rfl, ?_⟩) (by assumption) ?_
  rotate_left
  · intro w hSw; (try dsimp only at hSw); have y := hSw.tok.cells; obtain ⟨y0, y1, y2, y3⟩ := y; obtain ⟨x0, x1, x2, x3⟩ := EK.out w hSw.tks; go_simp; (try rw [KN]); (try rw [beq_self_eq_true]); (try rw [E0]); try with_reducible rfl
  (try simp only [Act.put, List.setIfInBounds_toArray, List.set_cons_zero, List.set_cons_succ])
  refine wpAnyH_take (i := 20) (oi := { dst := some 123, op := Op.load 3 (Operand.tmp 122), type := 3, pos := "law.go:111", after := #[{ on := 19, ground := Ground.data }, { on := 13, ground := Ground.guard }], guard := some (13, false) }) (v := ?_) rfl (by kernel_rfl) (by kernel_rfl) (by kernel_rfl) (fun _ _ _ h => h) (Or.inl ⟨by rfl, ?_⟩) (by assumption) ?_
  rotate_left
  · intro w hSw; (try dsimp only at hSw); have y := hSw.tok.cells; obtain ⟨y0, y1, y2, y3⟩ := y; obtain ⟨x0, x1, x2, x3⟩ := EK.out w hSw.tks; go_simp; (try rw [KN]); (try rw [beq_self_eq_true]); (try rw [E0]); try with_reducible rfl
  (try simp only [Act.put, List.setIfInBounds_toArray, List.set_cons_zero, List.set_cons_succ])
  refine wpAnyH_take (i := 21) (oi := { dst := some 124, op := Op.binOp BinOp.eql 3 (Operand.tmp 118) (Operand.tmp 123) 3, type := 4, pos := "law.go:111", after := #[{ on := 15, ground := Ground.data }, { on := 20, ground := Ground.data }, { on := 13, ground := Ground.guard }], guard := some (13, false) }) (v := ?_) rfl (by kernel_rfl) (by kernel_rfl) (by kernel_rfl) (fun _ _ _ h => h) (Or.inl ⟨by rfl, ?_⟩) (by assumption) ?_
  rotate_left
  · intro w hSw; (try dsimp only at hSw); have y := hSw.tok.cells; obtain ⟨y0, y1, y2, y3⟩ := y; obtain ⟨x0, x1, x2, x3⟩ := EK.out w hSw.tks; go_simp; (try rw [KN]); (try rw [beq_self_eq_true]); (try rw [E0]); try with_reducible rfl
  (try simp only [Act.put, List.setIfInBounds_toArray, List.set_cons_zero, List.set_cons_succ])
  refine wpAnyH_take (i := 22) (oi := { dst := some 125, op := Op.move (Operand.tmp 124), type := 4, pos := "law.go:111", after := #[{ on := 21, ground := Ground.data }, { on := 13, ground := Ground.chain }, { on := 13, ground := Ground.guard }], guard := some (13, false) }) (v := ?_) rfl (by kernel_rfl) (by kernel_rfl) (by kernel_rfl) (fun _ _ _ h => h) (Or.inl ⟨by rfl, ?_⟩) (by assumption) ?_
  rotate_left
  · intro w hSw; (try dsimp only at hSw); have y := hSw.tok.cells; obtain ⟨y0, y1, y2, y3⟩ := y; obtain ⟨x0, x1, x2, x3⟩ := EK.out w hSw.tks; go_simp; (try rw [KN]); (try rw [beq_self_eq_true]); (try rw [E0]); try with_reducible rfl
  (try simp only [Act.put, List.setIfInBounds_toArray, List.set_cons_zero, List.set_cons_succ])
  refine wpAnyH_take (i := 23) (oi := { dst := some 126, op := Op.fieldAddr 57 (Operand.tmp 14) 1, type := 0, pos := "law.go:111", after := #[{ on := 22, ground := Ground.guard }], guard := some (22, true) }) (v := ?_) rfl (by kernel_rfl) (by kernel_rfl) (by kernel_rfl) (fun _ _ _ h => h) (Or.inl ⟨by rfl, ?_⟩) (by assumption) ?_
  rotate_left
  · intro w hSw; (try dsimp only at hSw); have y := hSw.tok.cells; obtain ⟨y0, y1, y2, y3⟩ := y; obtain ⟨x0, x1, x2, x3⟩ := EK.out w hSw.tks; go_simp; (try rw [KN]); (try rw [beq_self_eq_true]); (try rw [E0]); try with_reducible rfl
  (try simp only [Act.put, List.setIfInBounds_toArray, List.set_cons_zero, List.set_cons_succ])
  refine wpAnyH_take (i := 24) (oi := { dst := some 127, op := Op.load 9 (Operand.tmp 126), type := 9, pos := "law.go:111", after := #[{ on := 23, ground := Ground.data }, { on := 22, ground := Ground.guard }], guard := some (22, true) }) (v := ?_) rfl (by kernel_rfl) (by kernel_rfl) (by kernel_rfl) (fun _ _ _ h => h) (Or.inl ⟨by rfl, ?_⟩) (by assumption) ?_
  rotate_left
  · intro w hSw; (try dsimp only at hSw); have y := hSw.tok.cells; obtain ⟨y0, y1, y2, y3⟩ := y; obtain ⟨x0, x1, x2, x3⟩ := EK.out w hSw.tks; go_simp; (try rw [KN]); (try rw [beq_self_eq_true]); (try rw [E0]); try with_reducible rfl
  (try simp only [Act.put, List.setIfInBounds_toArray, List.set_cons_zero, List.set_cons_succ])
  refine wpAnyH_take (i := 25) (oi := { dst := some 128, op := Op.move (Operand.tmp 7), type := 47, pos := "law.go:111", after := #[{ on := 22, ground := Ground.guard }], guard := some (22, true) }) (v := ?_) rfl (by kernel_rfl) (by kernel_rfl) (by kernel_rfl) (fun _ _ _ h => h) (Or.inl ⟨by rfl, ?_⟩) (by assumption) ?_
  rotate_left
  · intro w hSw; (try dsimp only at hSw); have y := hSw.tok.cells; obtain ⟨y0, y1, y2, y3⟩ := y; obtain ⟨x0, x1, x2, x3⟩ := EK.out w hSw.tks; go_simp; (try rw [KN]); (try rw [beq_self_eq_true]); (try rw [E0]); try with_reducible rfl
  (try simp only [Act.put, List.setIfInBounds_toArray, List.set_cons_zero, List.set_cons_succ])
  refine wpAnyH_take (i := 26) (oi := { dst := some 129, op := Op.move (Operand.tmp 12), type := 3, pos := "law.go:111", after := #[{ on := 22, ground := Ground.guard }], guard := some (22, true) }) (v := ?_) rfl (by kernel_rfl) (by kernel_rfl) (by kernel_rfl) (fun _ _ _ h => h) (Or.inl ⟨by rfl, ?_⟩) (by assumption) ?_
  rotate_left
  · intro w hSw; (try dsimp only at hSw); have y := hSw.tok.cells; obtain ⟨y0, y1, y2, y3⟩ := y; obtain ⟨x0, x1, x2, x3⟩ := EK.out w hSw.tks; go_simp; (try rw [KN]); (try rw [beq_self_eq_true]); (try rw [E0]); try with_reducible rfl
  (try simp only [Act.put, List.setIfInBounds_toArray, List.set_cons_zero, List.set_cons_succ])
  refine wpAnyH_take (i := 27) (oi := { dst := some 130, op := Op.indexAddr 47 (Operand.tmp 128) (Operand.tmp 129), type := 0, pos := "law.go:111", after := #[{ on := 25, ground := Ground.data }, { on := 26, ground := Ground.data }, { on := 22, ground := Ground.guard }], guard := some (22, true) }) (v := ?_) rfl (by kernel_rfl) (by kernel_rfl) (by kernel_rfl) (fun _ _ _ h => h) (Or.inl ⟨by rfl, ?_⟩) (by assumption) ?_
  rotate_left
  · intro w hSw; (try dsimp only at hSw); have y := hSw.tok.cells; obtain ⟨y0, y1, y2, y3⟩ := y; obtain ⟨x0, x1, x2, x3⟩ := EK.out w hSw.tks; go_simp; (try rw [KN]); (try rw [beq_self_eq_true]); (try rw [E0]); try with_reducible rfl
  (try simp only [Act.put, List.setIfInBounds_toArray, List.set_cons_zero, List.set_cons_succ])
  refine wpAnyH_take (i := 28) (oi := { dst := some 131, op := Op.fieldAddr 59 (Operand.tmp 130) 1, type := 0, pos := "law.go:111", after := #[{ on := 27, ground := Ground.data }, { on := 22, ground := Ground.guard }], guard := some (22, true) }) (v := ?_) rfl (by kernel_rfl) (by kernel_rfl) (by kernel_rfl) (fun _ _ _ h => h) (Or.inl ⟨by rfl, ?_⟩) (by assumption) ?_
  rotate_left
  · intro w hSw; (try dsimp only at hSw); have y := hSw.tok.cells; obtain ⟨y0, y1, y2, y3⟩ := y; obtain ⟨x0, x1, x2, x3⟩ := EK.out w hSw.tks; go_simp; (try rw [KN]); (try rw [beq_self_eq_true]); (try rw [E0]); try with_reducible rfl
  (try simp only [Act.put, List.setIfInBounds_toArray, List.set_cons_zero, List.set_cons_succ])
  refine wpAnyH_take (i := 29) (oi := { dst := some 132, op := Op.load 9 (Operand.tmp 131), type := 9, pos := "law.go:111", after := #[{ on := 28, ground := Ground.data }, { on := 22, ground := Ground.guard }], guard := some (22, true) }) (v := ?_) rfl (by kernel_rfl) (by kernel_rfl) (by kernel_rfl) (fun _ _ _ h => h) (Or.inl ⟨by rfl, ?_⟩) (by assumption) ?_
  rotate_left
  · intro w hSw; (try dsimp only at hSw); have y := hSw.tok.cells; obtain ⟨y0, y1, y2, y3⟩ := y; obtain ⟨x0, x1, x2, x3⟩ := EK.out w hSw.tks; go_simp; (try rw [KN]); (try rw [beq_self_eq_true]); (try rw [E0]); try with_reducible rfl
  (try simp only [Act.put, List.setIfInBounds_toArray, List.set_cons_zero, List.set_cons_succ])
  refine wpAnyH_take (i := 30) (oi := { dst := some 133, op := Op.binOp BinOp.eql 9 (Operand.tmp 127) (Operand.tmp 132) 9, type := 4, pos := "law.go:111", after := #[{ on := 24, ground := Ground.data }, { on := 29, ground := Ground.data }, { on := 22, ground := Ground.guard }], guard := some (22, true) }) (v := ?_) rfl (by kernel_rfl) (by kernel_rfl) (by kernel_rfl) (fun _ _ _ h => h) (Or.inl ⟨by rfl, ?_⟩) (by assumption) ?_
  rotate_left
  · intro w hSw; (try dsimp only at hSw); have y := hSw.tok.cells; obtain ⟨y0, y1, y2, y3⟩ := y; obtain ⟨x0, x1, x2, x3⟩ := EK.out w hSw.tks; go_simp; (try rw [KN]); (try rw [beq_self_eq_true]); (try rw [E0]); try with_reducible rfl
  (try simp only [Act.put, List.setIfInBounds_toArray, List.set_cons_zero, List.set_cons_succ])
  refine wpAnyH_take (i := 31) (oi := { dst := some 134, op := Op.pick (Operand.tmp 125) (Operand.tmp 133) (Operand.const (Value.bool false)), type := 4, pos := "law.go:111", after := #[{ on := 22, ground := Ground.data }, { on := 30, ground := Ground.data }, { on := 13, ground := Ground.guard }], guard := some (13, false) }) (v := ?_) rfl (by kernel_rfl) (by kernel_rfl) (by kernel_rfl) (fun _ _ _ h => h) (Or.inl ⟨by rfl, ?_⟩) (by assumption) ?_
  rotate_left
  · intro w hSw; (try dsimp only at hSw); have y := hSw.tok.cells; obtain ⟨y0, y1, y2, y3⟩ := y; obtain ⟨x0, x1, x2, x3⟩ := EK.out w hSw.tks; go_simp; (try rw [KN]); (try rw [beq_self_eq_true]); (try rw [E0]); try with_reducible rfl
  (try simp only [Act.put, List.setIfInBounds_toArray, List.set_cons_zero, List.set_cons_succ])
  refine wpAnyH_take (i := 32) (oi := { dst := some 135, op := Op.pick (Operand.tmp 116) (Operand.const (Value.bool true)) (Operand.tmp 134), type := 4, pos := "law.go:111", after := #[{ on := 13, ground := Ground.data }, { on := 31, ground := Ground.data }, { on := 8, ground := Ground.guard }], guard := some (8, true) }) (v := ?_) rfl (by kernel_rfl) (by kernel_rfl) (by kernel_rfl) (fun _ _ _ h => h) (Or.inl ⟨by rfl, ?_⟩) (by assumption) ?_
  rotate_left
  · intro w hSw; (try dsimp only at hSw); have y := hSw.tok.cells; obtain ⟨y0, y1, y2, y3⟩ := y; obtain ⟨x0, x1, x2, x3⟩ := EK.out w hSw.tks; go_simp; (try rw [KN]); (try rw [beq_self_eq_true]); (try rw [E0]); try with_reducible rfl
  (try simp only [Act.put, List.setIfInBounds_toArray, List.set_cons_zero, List.set_cons_succ])
  refine wpAnyH_take (i := 33) (oi := { dst := some 136, op := Op.pick (Operand.tmp 111) (Operand.tmp 135) (Operand.const (Value.bool false)), type := 4, pos := "law.go:111", after := #[{ on := 8, ground := Ground.data }, { on := 32, ground := Ground.data }], guard := none }) (v := ?_) rfl (by kernel_rfl) (by kernel_rfl) (by kernel_rfl) (fun _ _ _ h => h) (Or.inl ⟨by rfl, ?_⟩) (by assumption) ?_
  rotate_left
  · intro w hSw; (try dsimp only at hSw); have y := hSw.tok.cells; obtain ⟨y0, y1, y2, y3⟩ := y; obtain ⟨x0, x1, x2, x3⟩ := EK.out w hSw.tks; go_simp; (try rw [KN]); (try rw [beq_self_eq_true]); (try rw [E0]); try with_reducible rfl
  (try simp only [Act.put, List.setIfInBounds_toArray, List.set_cons_zero, List.set_cons_succ])
  refine wpAnyH_take (i := 34) (oi := { dst := some 137, op := Op.move (Operand.tmp 136), type := 4, pos := "law.go:111", after := #[{ on := 33, ground := Ground.data }, { on := 22, ground := Ground.chain }], guard := none }) (v := ?_) rfl (by kernel_rfl) (by kernel_rfl) (by kernel_rfl) (fun _ _ _ h => h) (Or.inl ⟨by rfl, ?_⟩) (by assumption) ?_
  rotate_left
  · intro w hSw; (try dsimp only at hSw); have y := hSw.tok.cells; obtain ⟨y0, y1, y2, y3⟩ := y; obtain ⟨x0, x1, x2, x3⟩ := EK.out w hSw.tks; go_simp; (try rw [KN]); (try rw [beq_self_eq_true]); (try rw [E0]); try with_reducible rfl
  (try simp only [Act.put, List.setIfInBounds_toArray, List.set_cons_zero, List.set_cons_succ])
  refine wpAnyH_take (i := 35) (oi := { dst := some 138, op := Op.move (Operand.tmp 0), type := 22, pos := "law.go:111", after := #[{ on := 34, ground := Ground.guard }], guard := some (34, true) }) (v := ?_) rfl (by kernel_rfl) (by kernel_rfl) (by kernel_rfl) (fun _ _ _ h => h) (Or.inl ⟨by rfl, ?_⟩) (by assumption) ?_
  rotate_left
  · intro w hSw; (try dsimp only at hSw); have y := hSw.tok.cells; obtain ⟨y0, y1, y2, y3⟩ := y; obtain ⟨x0, x1, x2, x3⟩ := EK.out w hSw.tks; go_simp; (try rw [KN]); (try rw [beq_self_eq_true]); (try rw [E0]); try with_reducible rfl
  (try simp only [Act.put, List.setIfInBounds_toArray, List.set_cons_zero, List.set_cons_succ])
  refine wpAnyH_take (i := 37) (oi := { dst := some 140, op := Op.build 29 #[], type := 29, pos := "law.go:111", after := #[{ on := 34, ground := Ground.guard }], guard := some (34, true) }) (v := ?_) rfl (by kernel_rfl) (by kernel_rfl) (by kernel_rfl) (fun _ _ _ h => h) (Or.inl ⟨by rfl, ?_⟩) (by assumption) ?_
  rotate_left
  · intro w hSw; (try dsimp only at hSw); have y := hSw.tok.cells; obtain ⟨y0, y1, y2, y3⟩ := y; obtain ⟨x0, x1, x2, x3⟩ := EK.out w hSw.tks; go_simp; (try rw [KN]); (try rw [beq_self_eq_true]); (try rw [E0]); try with_reducible rfl
  (try simp only [Act.put, List.setIfInBounds_toArray, List.set_cons_zero, List.set_cons_succ])
  refine wpAnyH_ready (rs := [36]) (by kernel_rfl) (by simp) ?_
  refine AllReadyH.cons (o := { dst := some 139, op := Op.call { callee := Callee.value (Operand.func 30), args := #[Operand.tmp 138, Operand.const (Value.pointer none)], argTypes := #[22, 50] }, type := 29, pos := "law.go:111", after := #[{ on := 35, ground := Ground.data }, { on := 34, ground := Ground.chain }, { on := 34, ground := Ground.guard }], guard := some (34, true) }) rfl (fun K hK => ?_) AllReadyH.nil
  go_simp
  refine (scan_nil_lit A n c L _ (H.out.keep hHeld.below) HC.out).mono ?_
  rintro qq vv ⟨rfl, hb⟩
  have HK := Lib.hid (hHeld.keep hb)
  clear hb hHeld
  refine hK.out _ _ ?_ (fun hHeld => ?_)
  · exact HK.out
  clear HK
  clear hK K
  (try simp only [Act.put, List.setIfInBounds_toArray, List.set_cons_zero, List.set_cons_succ])
  refine wpAnyH_take (i := 38) (oi := { dst := some 141, op := Op.binOp BinOp.eql 29 (Operand.tmp 139) (Operand.tmp 140) 29, type := 4, pos := "law.go:111", after := #[{ on := 36, ground := Ground.data }, { on := 37, ground := Ground.data }, { on := 34, ground := Ground.guard }], guard := some (34, true) }) (v := ?_) rfl (by kernel_rfl) (by kernel_rfl) (by kernel_rfl) (fun _ _ _ h => h) (Or.inl ⟨by rfl, ?_⟩) (by assumption) ?_
  rotate_left
  · intro w hSw; (try dsimp only at hSw); have y := hSw.tok.cells; obtain ⟨y0, y1, y2, y3⟩ := y; obtain ⟨x0, x1, x2, x3⟩ := EK.out w hSw.tks; go_simp; (try rw [KN]); (try rw [beq_self_eq_true]); (try rw [E0]); try with_reducible rfl
  (try simp only [Act.put, List.setIfInBounds_toArray, List.set_cons_zero, List.set_cons_succ])
  refine wpAnyH_take (i := 39) (oi := { dst := some 142, op := Op.pick (Operand.tmp 137) (Operand.tmp 141) (Operand.const (Value.bool false)), type := 4, pos := "law.go:111", after := #[{ on := 34, ground := Ground.data }, { on := 38, ground := Ground.data }], guard := none }) (v := ?_) rfl (by kernel_rfl) (by kernel_rfl) (by kernel_rfl) (fun _ _ _ h => h) (Or.inl ⟨by rfl, ?_⟩) (by assumption) ?_
  rotate_left
  · intro w hSw; (try dsimp only at hSw); have y := hSw.tok.cells; obtain ⟨y0, y1, y2, y3⟩ := y; obtain ⟨x0, x1, x2, x3⟩ := EK.out w hSw.tks; go_simp; (try rw [KN]); (try rw [beq_self_eq_true]); (try rw [E0]); try with_reducible rfl
  (try simp only [Act.put, List.setIfInBounds_toArray, List.set_cons_zero, List.set_cons_succ])
  refine wpAnyH_take (i := 40) (oi := { dst := some 143, op := Op.move (Operand.tmp 142), type := 4, pos := "law.go:111", after := #[{ on := 39, ground := Ground.data }, { on := 36, ground := Ground.chain }], guard := none }) (v := ?_) rfl (by kernel_rfl) (by kernel_rfl) (by kernel_rfl) (fun _ _ _ h => h) (Or.inl ⟨by rfl, ?_⟩) (by assumption) ?_
  rotate_left
  · intro w hSw; (try dsimp only at hSw); have y := hSw.tok.cells; obtain ⟨y0, y1, y2, y3⟩ := y; obtain ⟨x0, x1, x2, x3⟩ := EK.out w hSw.tks; go_simp; (try rw [KN]); (try rw [beq_self_eq_true]); (try rw [E0]); try with_reducible rfl
  (try simp only [Act.put, List.setIfInBounds_toArray, List.set_cons_zero, List.set_cons_succ])
  refine wpAnyH_ready (rs := [41]) (by kernel_rfl) (by simp) ?_
  refine AllReadyH.cons (o := { dst := some 144, op := Op.call { callee := Callee.value (Operand.func 10), args := #[], argTypes := #[] }, type := 4, pos := "law.go:111", after := #[{ on := 40, ground := Ground.chain }, { on := 40, ground := Ground.guard }], guard := some (40, true) }) rfl (fun K hK => ?_) AllReadyH.nil
  go_simp
  refine (AW.out _).mono ?_
  rintro qq vv ⟨rfl, hb⟩
  have HK := Lib.hid (hHeld.keep hb)
  clear hb hHeld
  refine hK.out _ _ ?_ (fun hHeld => ?_)
  · exact HK.out
  clear HK
  clear hK K
  (try simp only [Act.put, List.setIfInBounds_toArray, List.set_cons_zero, List.set_cons_succ])
  refine wpAnyH_take (i := 42) (oi := { dst := some 145, op := Op.pick (Operand.tmp 143) (Operand.tmp 144) (Operand.const (Value.bool false)), type := 4, pos := "law.go:111", after := #[{ on := 40, ground := Ground.data }, { on := 41, ground := Ground.data }], guard := none }) (v := ?_) rfl (by kernel_rfl) (by kernel_rfl) (by kernel_rfl) (fun _ _ _ h => h) (Or.inl ⟨by rfl, ?_⟩) (by assumption) ?_
  rotate_left
  · intro w hSw; (try dsimp only at hSw); have y := hSw.tok.cells; obtain ⟨y0, y1, y2, y3⟩ := y; obtain ⟨x0, x1, x2, x3⟩ := EK.out w hSw.tks; go_simp; (try rw [KN]); (try rw [beq_self_eq_true]); (try rw [E0]); try with_reducible rfl
  (try simp only [Act.put, List.setIfInBounds_toArray, List.set_cons_zero, List.set_cons_succ])
  refine wpAnyH_take (i := 43) (oi := { dst := some 4, op := Op.assign (Operand.tmp 145), type := 4, pos := "law.go:111", after := #[{ on := 42, ground := Ground.data }, { on := 41, ground := Ground.chain }, { on := 0, ground := Ground.phase }, { on := 1, ground := Ground.phase }, { on := 2, ground := Ground.phase }, { on := 3, ground := Ground.phase }, { on := 4, ground := Ground.phase }, { on := 5, ground := Ground.phase }, { on := 6, ground := Ground.phase }, { on := 7, ground := Ground.phase }, { on := 8, ground := Ground.phase }, { on := 9, ground := Ground.phase }, { on := 10, ground := Ground.phase }, { on := 11, ground := Ground.phase }, { on := 12, ground := Ground.phase }, { on := 13, ground := Ground.phase }, { on := 14, ground := Ground.phase }, { on := 15, ground := Ground.phase }, { on := 16, ground := Ground.phase }, { on := 17, ground := Ground.phase }, { on := 18, ground := Ground.phase }, { on := 19, ground := Ground.phase }, { on := 20, ground := Ground.phase }, { on := 21, ground := Ground.phase }, { on := 22, ground := Ground.phase }, { on := 23, ground := Ground.phase }, { on := 24, ground := Ground.phase }, { on := 25, ground := Ground.phase }, { on := 26, ground := Ground.phase }, { on := 27, ground := Ground.phase }, { on := 28, ground := Ground.phase }, { on := 29, ground := Ground.phase }, { on := 30, ground := Ground.phase }, { on := 31, ground := Ground.phase }, { on := 32, ground := Ground.phase }, { on := 33, ground := Ground.phase }, { on := 34, ground := Ground.phase }, { on := 35, ground := Ground.phase }, { on := 36, ground := Ground.phase }, { on := 37, ground := Ground.phase }, { on := 38, ground := Ground.phase }, { on := 39, ground := Ground.phase }, { on := 40, ground := Ground.phase }, { on := 41, ground := Ground.phase }, { on := 42, ground := Ground.phase }], guard := none }) (v := ?_) rfl (by kernel_rfl) (by kernel_rfl) (by kernel_rfl) (fun _ _ _ h => h) (Or.inl ⟨by rfl, ?_⟩) (by assumption) ?_
  rotate_left
  · intro w hSw; (try dsimp only at hSw); have y := hSw.tok.cells; obtain ⟨y0, y1, y2, y3⟩ := y; obtain ⟨x0, x1, x2, x3⟩ := EK.out w hSw.tks; go_simp; (try rw [KN]); (try rw [beq_self_eq_true]); (try rw [E0]); try with_reducible rfl
  (try simp only [Act.put, List.setIfInBounds_toArray, List.set_cons_zero, List.set_cons_succ])
  refine wpAnyH_done (by kernel_rfl) ?_ _
  have B8 := Lib.hid hHeld.below
  clear hHeld
  go_wp2
  go_ret
  exact ⟨rfl, B8.out⟩
theorem scans_walk (A : Option Addr) (n c : Nat) (L : List Pr) (s : ByteArray) (w : World) (h : PrsIn w A n c L) (hs : s.size ≤ maxLen) : Calls Tryd.prog 9 #[.slice A n c, .string s] w (Gives (.bool true) w) := by
  have hs' : s.size ≤ 9223372036854775807 := hs
  by_cases h100 : 100 < n
  · exact scans_long A n c s w h100 hs'
  by_cases h5 : 1000 < s.size
  · exact scans_text A n c s w (by omega) h5 hs'
  have h' := h.prs (by omega)
  have h5' : s.size ≤ 1000 := by omega
  cases hT : toks s.data.toList with
  | mk ts er =>
    by_cases he : er = 0
    · subst he
      by_cases hc : MC.chkL L = 0
      · obtain ⟨z0, z1, z2, z3, z4, z5, hz⟩ := six (scan_length L ts)
        have hR0 : MC.scanL L ts = ([z0, z1, z2, z3, z4, z5], (MC.scanL L ts).2.1, (MC.scanL L ts).2.2) := by rw [← hz]
        by_cases he2 : (MC.scanL L ts).2.2 = 0
        · rw [he2] at hR0
          obtain ⟨k, _, hk, hd⟩ := MC.scan_rest he2
          by_cases hkl : k = ts.length
          · exact scans_end A n c L s w ts _ z0 z1 z2 z3 z4 z5 (by rw [hd, hkl, List.drop_length]) h' h5' hs' hT hc hR0
          · exact scans_left A n c L s w ts _ z0 z1 z2 z3 z4 z5 k (by omega) hd h' h5' hs' hT hc hR0
        · exact scans_err A n c L s w ts _ z0 z1 z2 z3 z4 z5 _ h' h5' hs' hT hc hR0 he2
      · exact scans_chk A n c L s w ts h' h5' hs' hT hc
    · exact scans_bad A n c L s w ts er h' h5' hs' hT he
end Go.Proofs.YtdlpolnnhhnecaaDoor
