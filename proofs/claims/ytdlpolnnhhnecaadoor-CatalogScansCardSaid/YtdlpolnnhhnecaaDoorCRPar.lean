/- Parse of the reference: no claim of its own. -/
import Derived.Test.YtdlpolnnhhnecaaDoorCRTok
namespace Go.Proofs.YtdlpolnnhhnecaaDoor
open Go.RowKit
open MC (Pr)
theorem parse_err {L : List Pr} {s : List UInt8} (h : MC.chkL L = 0) (h1 : (toks s).2 = 0) (h2 : (MC.scanL L (toks s).1).2.2 ≠ 0) : MC.parseL L s = (MC.Z6, (MC.scanL L (toks s).1).2.2) := by
  unfold MC.parseL; rw [if_pos h, if_pos h1, if_neg h2]
theorem parse_long {L : List Pr} {s : List UInt8} (h : MC.chkL L = 0) (h1 : (toks s).2 = 0) (h2 : (MC.scanL L (toks s).1).2.2 = 0) (h3 : used (toks s).1 (MC.scanL L (toks s).1) < (toks s).1.length) : MC.parseL L s = (MC.Z6, 3) := by
  unfold MC.parseL
  rw [if_pos h, if_pos h1, if_pos h2, if_neg]
  intro e
  unfold used at h3
  rw [if_pos h2, e] at h3
  simp at h3
theorem parse_done {L : List Pr} {s : List UInt8} (h : MC.chkL L = 0) (h1 : (toks s).2 = 0) (h2 : (MC.scanL L (toks s).1).2.2 = 0) (h3 : ¬ used (toks s).1 (MC.scanL L (toks s).1) < (toks s).1.length) : MC.parseL L s = ((MC.scanL L (toks s).1).1, 0) := by
  unfold MC.parseL
  rw [if_pos h, if_pos h1, if_pos h2, if_pos]
  unfold used at h3
  rw [if_pos h2] at h3
  obtain ⟨n, a, b, c⟩ := MC.scan_rest h2
  rw [c] at h3 ⊢
  rw [List.length_drop] at h3
  exact List.drop_of_length_le (by omega)
set_option maxRecDepth 100000 in
set_option maxHeartbeats 8000000 in
theorem rparse_any (A : Option Addr) (n cp : Nat) (L : List Pr) (s : ByteArray) (hs : s.size ≤ 9223372036854775807) (w : World) (h : Prs w A n cp L) :
    Calls Tryd.prog 25 #[.slice A n cp, .string s] w (Gives (parV (MC.parseL L s.data.toList)) w) := by
  have B0 := Lib.hid (below_new w (.cells #[.int .i64 0, .int .i64 0, .int .i64 0, .int .i64 0, .int .i64 0, .int .i64 0] 29))
  have R0 := Lib.hid (BB.new w 29 0 0 0 0 0 0)
  have H := Lib.hid h
  have CK := Lib.hid (fun w' (hb : Below w.heap.size w w') => rcheck8_any A n cp L w' (h.keep hb))
  clear h
  by_cases hc : MC.chkL L = 0
  · rw [hc] at CK
    have TK := Lib.hid (fun w' => rtokens_any s hs w')
    have GL := Lib.hid (MC.chk_good hc)
    by_cases ht : (toks s.data.toList).2 = 0
    · have SL := Lib.hid (scan_length L (toks s.data.toList).1)
      have P1 := Lib.hid (parse_err hc ht)
      have P2 := Lib.hid (parse_long hc ht)
      have P3 := Lib.hid (parse_done hc ht)
      obtain ⟨er, her⟩ : ∃ er, (toks s.data.toList).2 = er := ⟨_, rfl⟩
      obtain ⟨ts, hts⟩ : ∃ ts, (toks s.data.toList).1 = ts := ⟨_, rfl⟩
      have hT : toks s.data.toList = (ts, er) := by rw [← her, ← hts]
      rw [hT] at TK
      rw [hts] at SL P1 P2 P3
      rw [her] at ht
      subst ht
      have TO := Lib.hid (fun A1 m c1 w' (h1 : Prs w' A n cp L) (h2 : Tks w' A1 m c1 ts) => rtok_any A n cp L GL.out.few A1 m c1 ts w' h1 h2)
      obtain ⟨R, hR⟩ : ∃ R, MC.scanL L ts = R := ⟨_, rfl⟩
      rw [hR] at TO SL P1 P2 P3
      clear hT her hts hc hR
      obtain ⟨z0, z1, z2, z3, z4, z5, hz⟩ := six SL.out
      obtain ⟨xs, us, ee⟩ := R
      simp only at hz SL P1 P2 P3
      subst hz
      unfold tokV at TO
      simp only at TO
      obtain ⟨u, hu⟩ : ∃ u, used ts ([z0, z1, z2, z3, z4, z5], us, ee) = u := ⟨_, rfl⟩
      rw [hu] at TO P2 P3
      clear hu SL
      generalize MC.parseL L s.data.toList = P at *
      go_enter Tryd.func25, Tryd.ntmps25
      go_wp2_with fail
      refine (CK.out _ B0.out).mono ?_
      rintro q1 w1 ⟨rfl, hb⟩
      have B1 := Lib.hid (B0.out.trans (hb.mono B0.out.size))
      have R1 := Lib.hid (R0.out.keep hb R0.out.lt)
      clear hb B0 R0 CK
      go_wp2_with fail
      refine (TK.out _).mono ?_
      rintro q2 w2 ⟨A1, n1, c1, rfl, htk, hb⟩
      have B2 := Lib.hid (B1.out.trans (hb.mono B1.out.size))
      have R2 := Lib.hid (R1.out.keep hb R1.out.lt)
      have TO1 := Lib.hid (TO.out A1 n1 c1 w2 (H.out.keep B2.out) htk)
      have hn1 := Lib.hid htk.len
      have hf1 := htk.few
      have hc1 := htk.cap
      clear hb htk B1 R1 TK TO
      simp only
      rw [aggB_lit] at TO1
      go_wp2_with fail
      refine TO1.out.mono ?_
      rintro q3 w3 ⟨rfl, hb⟩
      have B3 := Lib.hid (B2.out.trans (hb.mono B2.out.size))
      have R3 := Lib.hid (R2.out.keep hb R2.out.lt)
      clear hb B2 R2 TO1
      have hR3 := R3.out.lt
      by_cases he : ee = 0
      · by_cases hl : u < ts.length
        · have HP := Lib.hid (P2.out he hl)
          rw [hn1.out] at hl
          have hd : decide ((u : Int) < (n1 : Int)) = true := decide_eq_true (by omega)
          obtain ⟨r0, r1, r2, r3, r4, r5⟩ := cells6 R3.out
          obtain ⟨g0, g1, g2, g3, g4, g5⟩ := free6 R3.out
          have hsz := R3.out.lt
          clear P1 P2 P3
          subst he
          go_wp2_with fail
          rw [HP.out]
          have RR := ((((((R3.out.set 0 0).set 1 0).set 2 0).set 3 0).set 4 0).set 5 0).alloc (.cells #[.int .i64 z0, .int .i64 z1, .int .i64 z2, .int .i64 z3, .int .i64 z4, .int .i64 z5] 29)
          change BB _ _ _ [0, 0, 0, 0, 0, 0] at RR
          obtain ⟨r0', r1', r2', r3', r4', r5'⟩ := cells6 RR
          clear RR
          exact bodyPost_ret (v := .tuple #[.agg #[.int .i64 0, .int .i64 0, .int .i64 0, .int .i64 0, .int .i64 0, .int .i64 0], .int .i64 3]) (by simp only [results, Tryd.results25, go_sem]; try simp [r0', r1', r2', r3', r4', r5', go_sem]) rfl ⟨rfl, (below_six B3.out w.heap.size (Nat.le_refl _) _ _ _ _ _ _).alloc (by simpa [World.setCell] using B3.out.size) _⟩
        · have HP := Lib.hid (P3.out he hl)
          rw [hn1.out] at hl
          have hd : decide ((u : Int) < (n1 : Int)) = false := decide_eq_false (by omega)
          obtain ⟨r0, r1, r2, r3, r4, r5⟩ := cells6 R3.out
          obtain ⟨g0, g1, g2, g3, g4, g5⟩ := free6 R3.out
          have hsz := R3.out.lt
          clear P1 P2 P3
          subst he
          go_wp2_with fail
          rw [HP.out]
          have RR := ((((((R3.out.set 0 z0).set 1 z1).set 2 z2).set 3 z3).set 4 z4).set 5 z5).alloc (.cells #[.int .i64 z0, .int .i64 z1, .int .i64 z2, .int .i64 z3, .int .i64 z4, .int .i64 z5] 29)
          change BB _ _ _ [z0, z1, z2, z3, z4, z5] at RR
          obtain ⟨r0', r1', r2', r3', r4', r5'⟩ := cells6 RR
          clear RR
          exact bodyPost_ret (v := .tuple #[.agg #[.int .i64 z0, .int .i64 z1, .int .i64 z2, .int .i64 z3, .int .i64 z4, .int .i64 z5], .int .i64 0]) (by simp only [results, Tryd.results25, go_sem]; try simp [r0', r1', r2', r3', r4', r5', go_sem]) rfl ⟨rfl, (below_six B3.out w.heap.size (Nat.le_refl _) _ _ _ _ _ _).alloc (by simpa [World.setCell] using B3.out.size) _⟩
      · have HP := Lib.hid (P1.out he)
        have hb0 : (ee != 0) = true := bne_iff_ne.2 he
        obtain ⟨r0, r1, r2, r3, r4, r5⟩ := cells6 R3.out
        obtain ⟨g0, g1, g2, g3, g4, g5⟩ := free6 R3.out
        have hsz := R3.out.lt
        clear P1 P2 P3 he
        go_wp2_with fail
        rw [HP.out]
        have RR := ((((((R3.out.set 0 0).set 1 0).set 2 0).set 3 0).set 4 0).set 5 0).alloc (.cells #[.int .i64 z0, .int .i64 z1, .int .i64 z2, .int .i64 z3, .int .i64 z4, .int .i64 z5] 29)
        change BB _ _ _ [0, 0, 0, 0, 0, 0] at RR
        obtain ⟨r0', r1', r2', r3', r4', r5'⟩ := cells6 RR
        clear RR
        exact bodyPost_ret (v := .tuple #[.agg #[.int .i64 0, .int .i64 0, .int .i64 0, .int .i64 0, .int .i64 0, .int .i64 0], .int .i64 ee]) (by simp only [results, Tryd.results25, go_sem]; try simp [r0', r1', r2', r3', r4', r5', go_sem]) rfl ⟨rfl, (below_six B3.out w.heap.size (Nat.le_refl _) _ _ _ _ _ _).alloc (by simpa [World.setCell] using B3.out.size) _⟩
    · have HP := Lib.hid (parse_tok hc ht)
      rw [HP.out]
      clear HP
      obtain ⟨er, her⟩ : ∃ er, (toks s.data.toList).2 = er := ⟨_, rfl⟩
      obtain ⟨ts, hts⟩ : ∃ ts, (toks s.data.toList).1 = ts := ⟨_, rfl⟩
      have hT : toks s.data.toList = (ts, er) := by rw [← her, ← hts]
      rw [hT] at TK
      rw [her] at ht ⊢
      have hb0 : (er != 0) = true := bne_iff_ne.2 ht
      clear hT her hts hc ht
      go_enter Tryd.func25, Tryd.ntmps25
      go_wp2_with fail
      refine (CK.out _ B0.out).mono ?_
      rintro q1 w1 ⟨rfl, hb⟩
      have B1 := Lib.hid (B0.out.trans (hb.mono B0.out.size))
      have R1 := Lib.hid (R0.out.keep hb R0.out.lt)
      clear hb B0 R0 CK
      go_wp2_with fail
      refine (TK.out _).mono ?_
      rintro q2 w2 ⟨A1, n1, c1, rfl, htk, hb⟩
      have B2 := Lib.hid (B1.out.trans (hb.mono B1.out.size))
      have R2 := R1.out.keep hb R1.out.lt
      obtain ⟨r0, r1, r2, r3, r4, r5⟩ := cells6 R2
      obtain ⟨g0, g1, g2, g3, g4, g5⟩ := free6 R2
      have hsz := R2.lt
      clear hb htk B1 R1 TK R2
      simp only
      go_wp2_with fail
      exact bodyPost_ret (v := .tuple #[.agg #[.int .i64 0, .int .i64 0, .int .i64 0, .int .i64 0, .int .i64 0, .int .i64 0], .int .i64 er]) (by simp [results, Tryd.results25, go_sem, r0, r1, r2, r3, r4, r5]) rfl ⟨rfl, below_six B2.out _ (by omega) _ _ _ _ _ _⟩
  · rw [parse_chk hc]
    have hb0 : (MC.chkL L != 0) = true := bne_iff_ne.2 hc
    clear hc
    generalize MC.chkL L = er at *
    go_enter Tryd.func25, Tryd.ntmps25
    go_wp2_with fail
    refine (CK.out _ B0.out).mono ?_
    rintro q1 w1 ⟨rfl, hb⟩
    have B1 := Lib.hid (B0.out.trans (hb.mono B0.out.size))
    have R1 := R0.out.keep hb R0.out.lt
    obtain ⟨r0, r1, r2, r3, r4, r5⟩ := cells6 R1
    obtain ⟨g0, g1, g2, g3, g4, g5⟩ := free6 R1
    have hsz := R1.lt
    clear hb B0 R0 CK R1
    go_wp2_with fail
    exact bodyPost_ret (v := .tuple #[.agg #[.int .i64 0, .int .i64 0, .int .i64 0, .int .i64 0, .int .i64 0, .int .i64 0], .int .i64 er]) (by simp [results, Tryd.results25, go_sem, r0, r1, r2, r3, r4, r5]) rfl ⟨rfl, below_six B1.out _ (by omega) _ _ _ _ _ _⟩
end Go.Proofs.YtdlpolnnhhnecaaDoor
