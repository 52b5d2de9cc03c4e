/- Parse of the program; Scan of no scanner: no claim of its own. -/
import Derived.Test.YtdlpolnnhhnecaaDoorCScan
import Derived.Test.YtdlpolnnhhnecaaDoorLNew
namespace Go.Proofs.YtdlpolnnhhnecaaDoor
open Go.RowKit
open MC (Pr)
theorem elems_dead (L : List Pr) : ∀ (f : Nat) (b : List Int) (ts : List Tk), (MC.elems L f b ts).2.2 ≠ 0 → (MC.elems L f b ts).2.1 = [] ∧ (MC.elems L f b ts).1 = MC.Z6
  | 0, _, _, _ => ⟨rfl, rfl⟩
  | f + 1, b, ts, h => by
    by_cases h0 : MC.elE L b ts = 0
    · cases h1 : MC.isO 125 ts[3]? with
      | true => rw [MC.elems_end h0 h1] at h; exact absurd rfl h
      | false => rw [MC.elems_on h0 h1] at h ⊢; exact elems_dead L f _ _ h
    · rw [MC.elems_bad h0]; exact ⟨rfl, rfl⟩
theorem scan_dead {L : List Pr} {ts : List Tk} (h : (MC.scanL L ts).2.2 ≠ 0) : (MC.scanL L ts).2.1 = [] ∧ (MC.scanL L ts).1 = MC.Z6 := by
  cases h0 : MC.isO 123 ts[0]? with
  | false => rw [MC.scan_bad h0]; exact ⟨rfl, rfl⟩
  | true =>
    cases h1 : MC.isO 125 ts[1]? with
    | true => rw [MC.scan_empty h0 h1] at h; exact absurd rfl h
    | false => rw [MC.scan_on h0 h1] at h ⊢; exact elems_dead L _ _ _ h
theorem elems_length (L : List Pr) : ∀ (f : Nat) (b : List Int) (ts : List Tk), b.length = 6 → (MC.elems L f b ts).1.length = 6
  | 0, _, _, _ => rfl
  | f + 1, b, ts, h => by
    by_cases h0 : MC.elE L b ts = 0
    · have hb : (MC.elB L b ts).length = 6 := by unfold MC.elB; rw [List.length_set, h]
      cases h1 : MC.isO 125 ts[3]? with
      | true => rw [MC.elems_end h0 h1]; exact hb
      | false => rw [MC.elems_on h0 h1]; exact elems_length L f _ _ hb
    · rw [MC.elems_bad h0]; rfl
theorem scan_length (L : List Pr) (ts : List Tk) : (MC.scanL L ts).1.length = 6 := by
  cases h0 : MC.isO 123 ts[0]? with
  | false => rw [MC.scan_bad h0]; rfl
  | true =>
    cases h1 : MC.isO 125 ts[1]? with
    | true => rw [MC.scan_empty h0 h1]; rfl
    | false => rw [MC.scan_on h0 h1]; exact elems_length L _ _ _ rfl
/-- What Parse answers. -/
def parV (R : List Int × Int) : Value := .tuple #[aggB R.1, .int .i64 R.2]
theorem parse_chk {L : List Pr} {s : List UInt8} (h : MC.chkL L ≠ 0) : MC.parseL L s = (MC.Z6, MC.chkL L) := by unfold MC.parseL; rw [if_neg h]
theorem parse_tok {L : List Pr} {s : List UInt8} (h : MC.chkL L = 0) (h1 : (toks s).2 ≠ 0) : MC.parseL L s = (MC.Z6, (toks s).2) := by unfold MC.parseL; rw [if_pos h, if_neg h1]
theorem parse_end {L : List Pr} {s : List UInt8} (h : MC.chkL L = 0) (h1 : (toks s).2 = 0) :
    MC.parseL L s = if endE (MC.scanL L (toks s).1).2.1 (MC.scanL L (toks s).1).2.2 = 0 then ((MC.scanL L (toks s).1).1, 0) else (MC.Z6, endE (MC.scanL L (toks s).1).2.1 (MC.scanL L (toks s).1).2.2) := by
  unfold MC.parseL
  rw [if_pos h, if_pos h1]
  by_cases h2 : (MC.scanL L (toks s).1).2.2 = 0
  · rw [if_pos h2]
    unfold endE
    by_cases h3 : (MC.scanL L (toks s).1).2.1 = []
    · rw [if_pos h3, if_pos h3, if_pos h2]
    · rw [if_neg h3, if_neg h3, if_neg (by decide)]
  · have h3 := (scan_dead h2).1
    rw [if_neg h2]
    unfold endE
    rw [if_pos h3, if_neg h2]
theorem fresh_sp {w : World} {g : Nat} {A : Option Addr} {n c : Nat} {L : List Tk} (hb : w.heap[g]? = some (.cells #[.slice A n c, .int .i64 0] 78 (0, 0))) (ht : Tks w A n c L) (hf : ∀ ad, A = some ad → ad.block < g) : SP (fun k => g ≤ k) w g L 0 :=
  ⟨A, n, c, ⟨hb, ht, fun ad ha hh => by have := hf ad ha; omega, Nat.le_refl _⟩, fun h => absurd rfl h⟩
set_option maxRecDepth 100000 in
set_option maxHeartbeats 8000000 in
theorem parse_any (A : Option Addr) (n cp : Nat) (L : List Pr) (s : ByteArray) (hs : s.size ≤ 9223372036854775807) (w : World) (h : Prs w A n cp L) :
    Calls Tryd.prog 24 #[.slice A n cp, .string s] w (Gives (parV (MC.parseL L s.data.toList)) w) := by
  have B0 := Lib.hid (below_new w (.cells #[.int .i64 0, .int .i64 0, .int .i64 0, .int .i64 0, .int .i64 0, .int .i64 0] 29))
  have R0 := Lib.hid (BB.new w 29 0 0 0 0 0 0)
  have H := Lib.hid h
  have CK := Lib.hid (fun w' (hb : Below w.heap.size w w') => check_any A n cp L w' (h.keep hb))
  clear h
  by_cases hc : MC.chkL L = 0
  · rw [hc] at CK
    have TK := Lib.hid (fun w' => tokens_any s hs w')
    by_cases ht : (toks s.data.toList).2 = 0
    · have HP := Lib.hid (parse_end hc ht)
      have SL := Lib.hid (scan_length L (toks s.data.toList).1)
      rw [HP.out]
      clear HP
      obtain ⟨er, her⟩ : ∃ er, (toks s.data.toList).2 = er := ⟨_, rfl⟩
      obtain ⟨ts, hts⟩ : ∃ ts, (toks s.data.toList).1 = ts := ⟨_, rfl⟩
      have hT : toks s.data.toList = (ts, er) := by rw [← her, ← hts]
      rw [hT] at TK
      rw [hts] at SL ⊢
      rw [her] at ht
      subst ht
      have HC := Lib.hid hc
      have SC := Lib.hid (fun (N g : Nat) (w' : World) (h1 : SP (fun k => g ≤ k) w' g ts 0) (h2 : N ≤ g) (h3 : N ≤ w'.heap.size) (h4 : ∀ w'', Below N w' w'' → Prs w'' A n cp L) => scan_any A n cp L N g ts w' h1 h2 h3 h4 hc)
      obtain ⟨R, hR⟩ : ∃ R, MC.scanL L ts = R := ⟨_, rfl⟩
      rw [hR] at SC SL ⊢
      clear hT her hts hc hR HC
      obtain ⟨z0, z1, z2, z3, z4, z5, hz⟩ := six SL.out
      obtain ⟨xs, us, ee⟩ := R
      simp only at hz SL ⊢
      subst hz
      obtain ⟨e9, he9⟩ : ∃ e9, endE us ee = e9 := ⟨_, rfl⟩
      rw [he9]
      have H9 := Lib.hid he9
      clear he9 SL
      by_cases h9 : e9 = 0
      · subst h9
        rw [if_pos rfl]
        go_enter Tryd.func24, Tryd.ntmps24
        go_wp2_with fail
        refine (CK.out _ B0.out).mono ?_
        rintro q1 w1 ⟨rfl, hb⟩
        have B1 := Lib.hid (B0.out.trans (hb.mono B0.out.size))
        have R1 := Lib.hid (R0.out.keep hb R0.out.lt)
        clear hb B0 R0 CK
        go_wp2_with fail
        refine (TK.out _).mono ?_
        rintro q2 w2 ⟨A1, n1, c1, rfl, htk, hb⟩
        have B2 := Lib.hid (B1.out.trans (hb.mono B1.out.size))
        have R2 := Lib.hid (R1.out.keep hb R1.out.lt)
        have NW := Lib.hid (new_any A1 n1 c1 ts w2 htk)
        clear hb htk B1 R1 TK
        simp only
        go_wp2_with fail
        refine NW.out.mono ?_
        rintro q3 w3 ⟨g, A2, n2, c2, rfl, hblk, htk, hfar, hge, hb⟩
        have S3 := Lib.hid (fresh_sp hblk htk (fun ad ha => (hfar ad ha).2))
        have B3 := Lib.hid (B2.out.trans (hb.mono B2.out.size))
        have R3 := Lib.hid (R2.out.keep hb R2.out.lt)
        have hRl := R2.out.lt
        have SCN := Lib.hid (SC.out w2.heap.size g w3 S3.out hge hb.size (fun w'' hw => H.out.keep (B3.out.trans (hw.mono B2.out.size))))
        have HM := Lib.hid hb.size
        clear hblk htk hfar hge hb R2 NW SC S3
        go_wp2_with fail
        refine SCN.out.mono ?_
        rintro q4 w4 ⟨rfl, hsp, hb⟩
        have B4 := Lib.hid (B3.out.trans (hb.mono B2.out.size))
        have R4 := Lib.hid (R3.out.keep hb hRl)
        have S5 := Lib.hid (hsp.keep (below_new w4 (.cells #[.int .i64 z0, .int .i64 z1, .int .i64 z2, .int .i64 z3, .int .i64 z4, .int .i64 z5] 29)))
        have EN := Lib.hid (endU S5.out)
        rw [H9.out] at EN
        clear hb SCN R3 B3
        have B5 := Lib.hid (B4.out.trans ((below_new w4 (.cells #[.int .i64 z0, .int .i64 z1, .int .i64 z2, .int .i64 z3, .int .i64 z4, .int .i64 z5] 29)).mono B4.out.size))
        have R5 := Lib.hid (R4.out.alloc (.cells #[.int .i64 z0, .int .i64 z1, .int .i64 z2, .int .i64 z3, .int .i64 z4, .int .i64 z5] 29))
        have Q5 := BB.new w4 29 z0 z1 z2 z3 z4 z5
        obtain ⟨c0, c1', c2', c3, c4, c5⟩ := cells6 Q5
        obtain ⟨r0, r1, r2, r3, r4, r5⟩ := cells6 R5.out
        obtain ⟨g0, g1, g2, g3, g4, g5⟩ := free6 R5.out
        have hsz := R5.out.lt
        clear hsp B4 R4 S5 Q5
        rw [aggB_lit]
        go_wp2_with fail
        refine EN.out.mono ?_
        rintro q5 w5 ⟨rfl, rfl⟩
        clear EN
        go_wp2_with fail
        exact bodyPost_ret (v := .tuple #[.agg #[.int .i64 z0, .int .i64 z1, .int .i64 z2, .int .i64 z3, .int .i64 z4, .int .i64 z5], .int .i64 0]) (by simp [results, Tryd.results24, go_sem, r0, r1, r2, r3, r4, r5]) rfl ⟨rfl, below_six B5.out _ (by omega) _ _ _ _ _ _⟩
      · rw [if_neg h9]
        have hb9 : (e9 != 0) = true := bne_iff_ne.2 h9
        clear h9
        go_enter Tryd.func24, Tryd.ntmps24
        go_wp2_with fail
        refine (CK.out _ B0.out).mono ?_
        rintro q1 w1 ⟨rfl, hb⟩
        have B1 := Lib.hid (B0.out.trans (hb.mono B0.out.size))
        have R1 := Lib.hid (R0.out.keep hb R0.out.lt)
        clear hb B0 R0 CK
        go_wp2_with fail
        refine (TK.out _).mono ?_
        rintro q2 w2 ⟨A1, n1, c1, rfl, htk, hb⟩
        have B2 := Lib.hid (B1.out.trans (hb.mono B1.out.size))
        have R2 := Lib.hid (R1.out.keep hb R1.out.lt)
        have NW := Lib.hid (new_any A1 n1 c1 ts w2 htk)
        clear hb htk B1 R1 TK
        simp only
        go_wp2_with fail
        refine NW.out.mono ?_
        rintro q3 w3 ⟨g, A2, n2, c2, rfl, hblk, htk, hfar, hge, hb⟩
        have S3 := Lib.hid (fresh_sp hblk htk (fun ad ha => (hfar ad ha).2))
        have B3 := Lib.hid (B2.out.trans (hb.mono B2.out.size))
        have R3 := Lib.hid (R2.out.keep hb R2.out.lt)
        have hRl := R2.out.lt
        have SCN := Lib.hid (SC.out w2.heap.size g w3 S3.out hge hb.size (fun w'' hw => H.out.keep (B3.out.trans (hw.mono B2.out.size))))
        have HM := Lib.hid hb.size
        clear hblk htk hfar hge hb R2 NW SC S3
        go_wp2_with fail
        refine SCN.out.mono ?_
        rintro q4 w4 ⟨rfl, hsp, hb⟩
        have B4 := Lib.hid (B3.out.trans (hb.mono B2.out.size))
        have R4 := Lib.hid (R3.out.keep hb hRl)
        have S5 := Lib.hid (hsp.keep (below_new w4 (.cells #[.int .i64 z0, .int .i64 z1, .int .i64 z2, .int .i64 z3, .int .i64 z4, .int .i64 z5] 29)))
        have EN := Lib.hid (endU S5.out)
        rw [H9.out] at EN
        clear hb SCN R3 B3
        have B5 := Lib.hid (B4.out.trans ((below_new w4 (.cells #[.int .i64 z0, .int .i64 z1, .int .i64 z2, .int .i64 z3, .int .i64 z4, .int .i64 z5] 29)).mono B4.out.size))
        have R5 := Lib.hid (R4.out.alloc (.cells #[.int .i64 z0, .int .i64 z1, .int .i64 z2, .int .i64 z3, .int .i64 z4, .int .i64 z5] 29))
        have Q5 := BB.new w4 29 z0 z1 z2 z3 z4 z5
        obtain ⟨c0, c1', c2', c3, c4, c5⟩ := cells6 Q5
        obtain ⟨r0, r1, r2, r3, r4, r5⟩ := cells6 R5.out
        obtain ⟨g0, g1, g2, g3, g4, g5⟩ := free6 R5.out
        have hsz := R5.out.lt
        clear hsp B4 R4 S5 Q5
        rw [aggB_lit]
        go_wp2_with fail
        refine EN.out.mono ?_
        rintro q5 w5 ⟨rfl, rfl⟩
        clear EN
        go_wp2_with fail
        exact bodyPost_ret (v := .tuple #[.agg #[.int .i64 0, .int .i64 0, .int .i64 0, .int .i64 0, .int .i64 0, .int .i64 0], .int .i64 e9]) (by simp [results, Tryd.results24, go_sem, r0, r1, r2, r3, r4, r5]) rfl ⟨rfl, below_six B5.out _ (by omega) _ _ _ _ _ _⟩
    · have HP := Lib.hid (parse_tok hc ht)
      rw [HP.out]
      clear HP
      obtain ⟨er, her⟩ : ∃ er, (toks s.data.toList).2 = er := ⟨_, rfl⟩
      obtain ⟨ts, hts⟩ : ∃ ts, (toks s.data.toList).1 = ts := ⟨_, rfl⟩
      have hT : toks s.data.toList = (ts, er) := by rw [← her, ← hts]
      rw [hT] at TK
      rw [her] at ht ⊢
      have hb0 : (er != 0) = true := bne_iff_ne.2 ht
      clear hT her hts hc ht
      go_enter Tryd.func24, Tryd.ntmps24
      go_wp2_with fail
      refine (CK.out _ B0.out).mono ?_
      rintro q1 w1 ⟨rfl, hb⟩
      have B1 := Lib.hid (B0.out.trans (hb.mono B0.out.size))
      have R1 := Lib.hid (R0.out.keep hb R0.out.lt)
      clear hb B0 R0 CK
      go_wp2_with fail
      refine (TK.out _).mono ?_
      rintro q2 w2 ⟨A1, n1, c1, rfl, htk, hb⟩
      have B2 := Lib.hid (B1.out.trans (hb.mono B1.out.size))
      have R2 := R1.out.keep hb R1.out.lt
      obtain ⟨r0, r1, r2, r3, r4, r5⟩ := cells6 R2
      obtain ⟨g0, g1, g2, g3, g4, g5⟩ := free6 R2
      have hsz := R2.lt
      clear hb htk B1 R1 TK R2
      simp only
      go_wp2_with fail
      exact bodyPost_ret (v := .tuple #[.agg #[.int .i64 0, .int .i64 0, .int .i64 0, .int .i64 0, .int .i64 0, .int .i64 0], .int .i64 er]) (by simp [results, Tryd.results24, go_sem, r0, r1, r2, r3, r4, r5]) rfl ⟨rfl, below_six B2.out _ (by omega) _ _ _ _ _ _⟩
  · rw [parse_chk hc]
    have hb0 : (MC.chkL L != 0) = true := bne_iff_ne.2 hc
    clear hc
    generalize MC.chkL L = er at *
    go_enter Tryd.func24, Tryd.ntmps24
    go_wp2_with fail
    refine (CK.out _ B0.out).mono ?_
    rintro q1 w1 ⟨rfl, hb⟩
    have B1 := Lib.hid (B0.out.trans (hb.mono B0.out.size))
    have R1 := R0.out.keep hb R0.out.lt
    obtain ⟨r0, r1, r2, r3, r4, r5⟩ := cells6 R1
    obtain ⟨g0, g1, g2, g3, g4, g5⟩ := free6 R1
    have hsz := R1.lt
    clear hb B0 R0 CK R1
    go_wp2_with fail
    exact bodyPost_ret (v := .tuple #[.agg #[.int .i64 0, .int .i64 0, .int .i64 0, .int .i64 0, .int .i64 0, .int .i64 0], .int .i64 er]) (by simp [results, Tryd.results24, go_sem, r0, r1, r2, r3, r4, r5]) rfl ⟨rfl, below_six B1.out _ (by omega) _ _ _ _ _ _⟩
end Go.Proofs.YtdlpolnnhhnecaaDoor
