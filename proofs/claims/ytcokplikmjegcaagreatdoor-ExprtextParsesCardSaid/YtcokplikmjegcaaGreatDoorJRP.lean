/- RExp, RTok12, RParse, joined: no claim of its own. -/
import Derived.Test.YtcokplikmjegcaaGreatDoorRExpO
import Derived.Test.YtcokplikmjegcaaGreatDoorJRB
import Derived.Test.YtcokplikmjegcaaGreatDoorJU
import Derived.Test.YtcokplikmjegcaaGreatDoorJZ
import Derived.Test.YtcokplikmjegcaaGreatDoorERef2
import Derived.Test.YtcokplikmjegcaaGreatDoorJH
namespace Go.Proofs.YtcokplikmjegcaaGreatDoor
open Go.RowKit
open ME (F Nd)
open MC (Pr)
theorem opW_two {w : List UInt8} (h : MX.opW w = 2) : w = MX.xorW := by
  unfold MX.opW at h
  split at h
  · assumption
  · split at h
    · cases h
    · split at h
      · cases h
      · split at h <;> cases h
theorem opW_three {w : List UInt8} (h : MX.opW w = 3) : w = MX.orW := by
  unfold MX.opW at h
  split at h
  · cases h
  · split at h
    · assumption
    · split at h
      · cases h
      · split at h <;> cases h
theorem opW_four {w : List UInt8} (h : MX.opW w = 4) : w = MX.bonusW := by
  unfold MX.opW at h
  split at h
  · cases h
  · split at h
    · cases h
    · split at h
      · assumption
      · split at h <;> cases h
theorem opW_five {w : List UInt8} (h : MX.opW w = 5) : w = MX.limitW := by
  unfold MX.opW at h
  split at h
  · cases h
  · split at h
    · cases h
    · split at h
      · cases h
      · split at h
        · assumption
        · cases h
theorem rexp_any (A : Option Addr) (n cp : Nat) (LP : List Pr) (hc : MC.chkL LP = 0) (N : Nat) : ∀ f, RExOk A n cp LP N f
  | 0 => fun _ _ _ _ h => absurd h (Nat.not_lt_zero _)
  | f + 1 => by
    have IH := rexp_any A n cp LP hc N f
    intro g ts er w hts hf h hN hNw hP hne
    cases hO : MC.isO 123 ts[0]? with
    | true =>
      obtain ⟨t, r, rfl, hm⟩ := MX.isO_cons hO
      obtain ⟨h1, h2⟩ := isM_iff.1 hm
      obtain rfl : er = 0 := by
        by_cases e : er = 0
        · exact e
        · have := h.dead e; cases this
      obtain ⟨kd, tx, vl, at9⟩ := t
      dsimp only at h1 h2
      subst h1 h2
      exact rexp_atom A n cp LP N f g vl at9 r w h hf hN hNw hP hc
    | false =>
      by_cases hk : MX.hk ts ≠ 1
      · exact rexp_bad1 A n cp LP N f g ts er w h hk hO hf hN hNw hP hc
      · cases ts with
        | nil => exact absurd (show MX.hk [] ≠ 1 by simp [MX.hk]) hk
        | cons t r =>
          obtain rfl : er = 0 := by
            by_cases e : er = 0
            · exact e
            · have := h.dead e; cases this
          obtain ⟨kd, tx, vl, at9⟩ := t
          have hkd : kd = 1 := by
            by_cases e : kd = 1
            · exact e
            · exact absurd (show MX.hk (⟨kd, tx, vl, at9⟩ :: r) ≠ 1 from e) hk
          subst hkd
          have hrl : r.length < f := by simp only [List.length_cons] at hts; omega
          have hwd : ∀ t ∈ r, t.kind = 1 → t.text ≠ [] := fun t ht => hne t (List.mem_cons_of_mem _ ht)
          rcases MX.op_ways tx with q | q | q | q | q
          · exact rexp_bad2 A n cp LP N f g tx vl at9 r w h q hf hN hNw hP hc
          · obtain rfl := opW_two q
            exact rexp_xor A n cp LP N f g vl at9 r w IH h hrl hwd hf hN hNw hP hc
          · obtain rfl := opW_three q
            exact rexp_orr A n cp LP N f g vl at9 r w IH h hrl hwd hf hN hNw hP hc
          · obtain rfl := opW_four q
            exact rexp_bonus A n cp LP N f g vl at9 r w IH h hrl hwd hf hN hNw hP hc
          · obtain rfl := opW_five q
            exact rexp_limit A n cp LP N f g vl at9 r w IH h hrl hwd hf hN hNw hP hc
end Go.Proofs.YtcokplikmjegcaaGreatDoor
namespace Go.Proofs.YtcokplikmjegcaaGreatDoor
open Go.RowKit
def GivesToksB (r : List Tk × Int) (w : World) (e : Ending) (w' : World) : Prop := ∃ A n c, e = .returned (.tuple #[.slice A n c, .int .i64 r.2]) ∧ Tks w' A n c r.1 ∧ (∀ ad, A = some ad → ad.block < w'.heap.size) ∧ Below w.heap.size w w'
set_option maxRecDepth 100000 in
set_option maxHeartbeats 4000000 in
theorem rtokens12_any (s : ByteArray) (hs : s.size ≤ 9223372036854775807) (w : World) :
    Calls Tryz.prog 30 #[.string s] w (GivesToksB (toks s.data.toList) w) := by
  by_cases h4 : 4000 < s.size
  · rw [toks_long (by rw [size_list]; exact h4)]
    have G : Hid (GivesToksB ([], 3) w (.returned (.tuple #[.slice none 0 0, .int .i64 3])) w) := Lib.hid ⟨none, 0, 0, rfl, Tks.nil _, (fun ad h => by cases h), Below.refl _ _⟩
    go_enter Tryz.func30, Tryz.ntmps30
    go_wp2
    go_ret2
    exact G.out
  · obtain ⟨i0, hi, hz0, hz1, hz2⟩ := info_parts infoRTok
    have A0 := Lib.hid (At.start (l := s.data.toList) (by rw [size_list]; exact h4))
    have O0 := Lib.hid (OwnT.nil 105 w w.heap.size)
    have B0 := Lib.hid (Below.refl w.heap.size w)
    go_enter Tryz.func30, Tryz.ntmps30
    go_wp2
    go_loopw [4, 5] (fun v i wr => ∃ (k f : Nat) (out : List Tk), k ≤ s.size ∧ i = .int .i64 k ∧ Hid (OwnT 105 wr w.heap.size v out) ∧ Hid (Below w.heap.size w wr) ∧ Hid (At s.data.toList f k out)) (fun _ i _ => s.size - (intOf i).toNat)
    case atStart => exact ⟨0, _, [], by omega, rfl, O0, B0, A0⟩
    case round =>
      clear A0 O0 B0
      rename_i v0 _ wr
      obtain ⟨k, f, out, hk, rfl, HO, HB, HA⟩ := hrel
      by_cases hlt : k < s.size
      · by_cases h32 : (s[k]).toNat = 32
        · have A1 := Lib.hid (HA.out.space hlt h32)
          have hb : (((s[k]).toNat : Int) == 32) = true := by rw [h32]; rfl
          clear HA h32
          go_wp2_with fail
          go_roundw
          case rel => exact ⟨k + 1, _, out, by omega, by go_num, HO, HB, A1⟩
          case measure => simp [intOf]; omega
        · have hb : (((s[k]).toNat : Int) == 32) = false := beq_eq_false_iff_ne.2 (by omega)
          obtain ⟨T, hT⟩ : ∃ T, oneT (s.data.toList.drop k) = T := ⟨_, rfl⟩
          have FT : Hid (∀ w', Calls Tryz.prog 62 #[.string (s.extract k s.size)] w' (GivesTk T w')) := Lib.hid fun w' => by
            have := one_any (s.extract k s.size) (by rw [ByteArray.size_extract]; omega) (by rw [ByteArray.size_extract]; omega) w'
            rw [drop_data, hT] at this
            exact this
          by_cases he : T.2 = 0
          · have A1 := Lib.hid (HA.out.tok hlt h32 hT he)
            have FW := Lib.hid HA.out.few
            clear HA h32 hT
            obtain ⟨⟨kd, t, vv, a⟩, er⟩ := T
            simp only at he
            subst he
            obtain ⟨a1, a2, a3⟩ := A1.out
            have A2 := Lib.hid a1
            have a2' : 1 ≤ t.length := a2
            have a3' : k + t.length ≤ s.size := a3
            clear A1 a1 a2 a3
            go_wp2_with fail
            (with_reducible refine (FT.out _).mono ?_)
            rintro e w1 ⟨rfl, hb1⟩
            have O1 := Lib.hid (HO.out.keep hb1)
            have B1 := Lib.hid (HB.out.trans (hb1.mono HB.out.size))
            clear hb1 HO HB FT
            unfold aggT
            have b1 := below_new w1 (.cells #[.int .i64 kd, .string (str t), .int .i64 vv, .int .i64 k] 105)
            have b2 := b1.trans ((below_new (w1.alloc (.cells #[.int .i64 kd, .string (str t), .int .i64 vv, .int .i64 k] 105)) (.cells #[.int .i64 kd, .string (str t), .int .i64 vv, .int .i64 k] 105)).mono b1.size)
            have O2 := Lib.hid (O1.out.keep b2)
            have B2 := Lib.hid (B1.out.trans (b2.mono B1.out.size))
            have X1 := ((TB.new w1 105 (.int .i64 kd) (.string (str t)) (.int .i64 vv) (.int .i64 k)).keep (below_new _ (.cells #[.int .i64 kd, .string (str t), .int .i64 vv, .int .i64 k] 105)))
            have X2 := TB.new (w1.alloc (.cells #[.int .i64 kd, .string (str t), .int .i64 vv, .int .i64 k] 105)) 105 (.int .i64 kd) (.string (str t)) (.int .i64 vv) (.int .i64 k)
            rw [show (w1.alloc (.cells #[.int .i64 kd, .string (str t), .int .i64 vv, .int .i64 k] 105)).heap.size = w1.heap.size + 1 by simp] at X2
            have HX1 := Lib.hid X1
            have HX2 := Lib.hid X2.row
            have LT := Lib.hid (fun g hg => (World.ownsRow.lt O1.out g hg).2)
            have hB1 := B1.out.size
            clear b1 b2 O1 B1 X1 X2
            go_wp2_with (at_builtin; refine wpList_append_own _ rfl _ _ 63 rfl w.heap.size 105 i0 (.agg #[.int .i64 0, .string ⟨#[]⟩, .int .i64 0, .int .i64 0]) 4 40 Tryz.underlying63 hi hz0 hz1 hz2 rfl (by decide) _ _ _ rfl O2.out ⟨w1.heap.size + 1, 0, none⟩ 1 1 (cellsT ⟨kd, t, vv, k⟩) rfl rfl ?c1 ?c2 ?c3 ?c4 ?c5 ?_)
            case c1 => exact HX2.out
            case c2 => exact cellsT_one _
            case c3 => have := FW.out; unfold maxLen; omega
            case c4 => have := FW.out; omega
            case c5 => simp; omega
            intro v' w2 hown' hgrow _
            have R := OwnT.app O2.out B2.out B2.out.size hown' hgrow
            have X3 : TB w2 w1.heap.size 105 (.int .i64 kd) (.string (str t)) (.int .i64 vv) (.int .i64 k) := (hgrow.block w1.heap.size (by simp; omega) (fun e => absurd (LT.out _ e.symm) (by omega))).trans HX1.out
            obtain ⟨_, c1, _, _⟩ := X3.cells
            have O3 := Lib.hid R.1
            have B3 := Lib.hid R.2
            have SZ := Lib.hid (str_size t)
            have hsb : k + (str t).size ≤ s.size := by rw [SZ.out]; exact a3'
            clear R X3 hown' hgrow HX1 HX2 LT O2 B2
            go_wp2
            go_roundw
            case rel => exact ⟨k + t.length, _, _, by omega, by rw [← SZ.out]; go_num, O3, B3, A2⟩
            case measure => simp [intOf, SZ.out]; omega
          · have E := Lib.hid (HA.out.bad hlt h32 hT he)
            clear HA h32 hT
            obtain ⟨⟨kd, t, vv, a⟩, er⟩ := T
            simp only at he
            have hne : ((er : Int) != 0) = true := bne_iff_ne.2 he
            go_wp2_with fail
            (with_reducible refine (FT.out _).mono ?_)
            rintro e w1 ⟨rfl, hb1⟩
            have B1 := Lib.hid (HB.out.trans (hb1.mono HB.out.size))
            clear hb1 HO HB FT he
            unfold aggT
            go_wp2_with fail
            go_ret2
            rw [E.out]
            exact ⟨none, 0, 0, rfl, Tks.nil _, (fun ad h => by cases h), B1.out.trans ((below_new _ _).mono B1.out.size)⟩
      · have E := Lib.hid (HA.out.fin (by omega))
        have FW := HA.out.few
        obtain ⟨A, c, hv, ht⟩ := HO.out.form (by omega)
        subst hv
        have HLT := Lib.hid (fun ad (ha : A = some ad) => (World.ownsRow.lt HO.out ad.block (by rw [ha]; rfl)).2)
        have H := Lib.hid ht
        clear HA HO ht
        go_wp2_with fail
        go_ret2
        rw [E.out]
        exact ⟨_, _, _, rfl, H.out, HLT.out, HB.out⟩
end Go.Proofs.YtcokplikmjegcaaGreatDoor
namespace Go.Proofs.YtcokplikmjegcaaGreatDoor
open Go.RowKit
open ME (F Nd)
open MC (Pr)
theorem rparse12_results {w : World} {R1 : Nat} {z0 z1 z2 z3 z4 z5 z6 z7 z8 : Value} {q : Value} (tmps : Array Value) (h2 : tmps.getD 4 undef = .pointer (some ⟨R1, 0, none⟩)) (h3 : tmps.getD 5 undef = q) (b1 : B9 w R1 z0 z1 z2 z3 z4 z5 z6 z7 z8) :
    (results Tryz.f11 tmps).run Tryz.prog w = .ok (.tuple #[.agg #[z0, z1, z2, z3, z4, z5, z6, z7, z8], q]) w := by
  have h2' : tmps[4]?.getD undef = .pointer (some ⟨R1, 0, none⟩) := by simpa using h2
  have h3' : tmps[5]?.getD undef = q := by simpa using h3
  obtain ⟨r0, r1, r2, r3, r4, r5, r6, r7, r8⟩ := b1.cells
  simp [results, Tryz.results11, h2', h3', go_sem, r0, r1, r2, r3, r4, r5, r6, r7, r8]
set_option maxRecDepth 100000 in
set_option maxHeartbeats 16000000 in
theorem rparse12_any (A : Option Addr) (n cp : Nat) (L : List Pr) (s : ByteArray) (hs : s.size ≤ 9223372036854775807) (w : World) (h : Prs w A n cp L) :
    Calls Tryz.prog 11 #[.slice A n cp, .string s] w (GivesE (MX.parseE L s.data.toList) w) := by
  refine (show ∀ (POST0 : Ending → World → Prop), (∀ e w', GivesE (MX.parseE L s.data.toList) w e w' → POST0 e w') → Calls Tryz.prog 11 #[.slice A n cp, .string s] w POST0 from ?_) _ (fun _ _ h => h)
  intro POST0 hpost
  have POST := Lib.hid hpost
  have B0 := Lib.hid (below_new w (.cells #[.int .i64 0, .int .i64 0, .int .i64 0, .int .i64 0, .int .i64 0, .int .i64 0, .int .i64 0, .int .i64 0, .slice none 0 0] 27))
  have R0 : Hid (B9 (w.alloc (.cells #[.int .i64 0, .int .i64 0, .int .i64 0, .int .i64 0, .int .i64 0, .int .i64 0, .int .i64 0, .int .i64 0, .slice none 0 0] 27)) w.heap.size (.int .i64 0) (.int .i64 0) (.int .i64 0) (.int .i64 0) (.int .i64 0) (.int .i64 0) (.int .i64 0) (.int .i64 0) (.slice none 0 0)) := Lib.hid (heap_new w (.cells #[.int .i64 0, .int .i64 0, .int .i64 0, .int .i64 0, .int .i64 0, .int .i64 0, .int .i64 0, .int .i64 0, .slice none 0 0] 27))
  have H := Lib.hid h
  have CK := Lib.hid (fun w' (hb : Below w.heap.size w w') => rcheck8_any A n cp L w' (h.keep hb))
  have TK := Lib.hid (fun w' => rtokens12_any s hs w')
  clear hpost h
  obtain ⟨R, hR⟩ : ∃ R, MX.parseE L s.data.toList = R := ⟨_, rfl⟩
  have HRr := Lib.hid hR
  rw [hR] at POST
  clear hR
  go_enter Tryz.func11, Tryz.ntmps11
  go_upto_region 1 with (fail)
  obtain ⟨W0, hW0⟩ : ∃ W0, W0 = w.alloc (.cells #[.int .i64 0, .int .i64 0, .int .i64 0, .int .i64 0, .int .i64 0, .int .i64 0, .int .i64 0, .int .i64 0, .slice none 0 0] 27) := ⟨_, rfl⟩
  rw [← hW0] at B0 R0 ⊢
  clear hW0
  go_wp2_with fail
  refine (CK.out _ B0.out).mono ?_
  rintro q1 w1 ⟨rfl, hb⟩
  have B1 := Lib.hid (B0.out.trans (hb.mono B0.out.size))
  have R1 := Lib.hid (R0.out.keep hb)
  clear hb B0 R0 CK
  by_cases hc : MC.chkL L = 0
  case neg =>
    have hb0 : (MC.chkL L != 0) = true := bne_iff_ne.2 hc
    have HE : Hid (R = (MX.nd0, MC.chkL L)) := Lib.hid (by rw [← HRr.out]; unfold MX.parseE; rw [if_pos hc])
    clear hc HRr TK
    generalize MC.chkL L = er at *
    obtain ⟨r0, r1, r2, r3, r4, r5, r6, r7, r8⟩ := R1.out.cells
    obtain ⟨f0, f1, f2, f3, f4, f5, f6, f7, f8⟩ := R1.out.free
    have hzr := R1.out.lt
    have FB := Lib.hid (below_sets (o := 0) (l := [.int .i64 0, .int .i64 0, .int .i64 0, .int .i64 0, .int .i64 0, .int .i64 0, .int .i64 0, .int .i64 0, .slice none 0 0]) B1.out (Nat.le_refl w.heap.size))
    have FR := Lib.hid (R1.out.put (.int .i64 0) (.int .i64 0) (.int .i64 0) (.int .i64 0) (.int .i64 0) (.int .i64 0) (.int .i64 0) (.int .i64 0) (.slice none 0 0))
    have FP := Lib.hid (fun w' (hb : Below w.heap.size w w') => POST.out (.returned (.tuple #[.agg #[.int .i64 0, .int .i64 0, .int .i64 0, .int .i64 0, .int .i64 0, .int .i64 0, .int .i64 0, .int .i64 0, .slice none 0 0], .int .i64 er])) w' (zero_gives HE.out hb))
    clear B1 R1 POST
    go_wp2
    refine bodyPost_ret (rparse12_results _ rfl rfl (by rw [nest_0]; exact FR.out)) rfl ?_
    rw [nest_0]
    exact FP.out _ FB.out
  have hb0 : (MC.chkL L != 0) = false := by rw [hc]; rfl
  have HC := Lib.hid hc
  have HP1 : Hid (R = if (toks s.data.toList).2 ≠ 0 then (MX.nd0, (toks s.data.toList).2) else MX.parse2 (MX.rdE L ((toks s.data.toList).1.length + 1) (toks s.data.toList).1 0)) := Lib.hid (by rw [← HRr.out]; unfold MX.parseE; rw [if_neg (by rw [hc]; decide)])
  have TOK := Lib.hid (MX.toks_ok s.data.toList)
  rw [hc]
  clear hc HRr hb0
  obtain ⟨ts, er, hT⟩ : ∃ ts er, toks s.data.toList = (ts, er) := ⟨_, _, rfl⟩
  rw [hT] at TK HP1 TOK
  dsimp only at HP1 TOK
  clear hT
  go_wp2_with fail
  refine (TK.out _).mono ?_
  rintro q2 w2 ⟨A1, n1, c1, rfl, htk, hlt, hb⟩
  dsimp only at htk ⊢
  have B2 := Lib.hid (B1.out.trans (hb.mono B1.out.size))
  have R2 := Lib.hid (R1.out.keep hb)
  have HTK := Lib.hid htk
  have HLT := Lib.hid hlt
  clear hb B1 R1 TK htk hlt
  by_cases ht : er = 0
  case neg =>
    have hb0 : (er != 0) = true := bne_iff_ne.2 ht
    have HE : Hid (R = (MX.nd0, er)) := Lib.hid (by rw [HP1.out, if_pos ht])
    clear ht HP1 HTK TOK
    obtain ⟨r0, r1, r2, r3, r4, r5, r6, r7, r8⟩ := R2.out.cells
    obtain ⟨f0, f1, f2, f3, f4, f5, f6, f7, f8⟩ := R2.out.free
    have hzr := R2.out.lt
    have FB := Lib.hid (below_sets (o := 0) (l := [.int .i64 0, .int .i64 0, .int .i64 0, .int .i64 0, .int .i64 0, .int .i64 0, .int .i64 0, .int .i64 0, .slice none 0 0]) B2.out (Nat.le_refl w.heap.size))
    have FR := Lib.hid (R2.out.put (.int .i64 0) (.int .i64 0) (.int .i64 0) (.int .i64 0) (.int .i64 0) (.int .i64 0) (.int .i64 0) (.int .i64 0) (.slice none 0 0))
    have FP := Lib.hid (fun w' (hb : Below w.heap.size w w') => POST.out (.returned (.tuple #[.agg #[.int .i64 0, .int .i64 0, .int .i64 0, .int .i64 0, .int .i64 0, .int .i64 0, .int .i64 0, .int .i64 0, .slice none 0 0], .int .i64 er])) w' (zero_gives HE.out hb))
    clear B2 R2 POST
    go_wp2
    refine bodyPost_ret (rparse12_results _ rfl rfl (by rw [nest_0]; exact FR.out)) rfl ?_
    rw [nest_0]
    exact FP.out _ FB.out
  subst ht
  have HP2 : Hid (R = MX.parse2 (MX.rdE L (ts.length + 1) ts 0)) := Lib.hid (by rw [HP1.out, if_neg (by decide)])
  have TOK2 := TOK.out
  obtain ⟨tw, tl⟩ := TOK2
  have TW := Lib.hid (fun t (ht : t ∈ ts) (_ : t.kind = 1) => tw t ht)
  have SZ := Lib.hid (MX.rd_size L (ts.length + 1) ts 0)
  have BX := below_new w2 (.cells #[.slice A1 n1 c1, .int .i64 0] 68)
  have S4 : Hid (SR (fun k => w2.heap.size ≤ k) (w2.alloc (.cells #[.slice A1 n1 c1, .int .i64 0] 68)) w2.heap.size ts 0) := Lib.hid ⟨A1, n1, c1, ts, ⟨heap_new w2 _, HTK.out.keep BX, fun ad ha hh => by
      have h1 := HLT.out ad ha
      have h2 : w2.heap.size ≤ ad.block := hh
      omega, Nat.le_refl _⟩, fun _ => rfl, fun q => absurd rfl q⟩
  have R4 := Lib.hid (R2.out.keep BX)
  have B4 := Lib.hid (B2.out.trans (BX.mono B2.out.size))
  have hgR : w.heap.size < w2.heap.size := R2.out.lt
  clear HP1 HTK TOK tw BX R2 B2 HLT
  go_upto_region 8 with (fail)
  obtain ⟨W4, hW4⟩ : ∃ W4, W4 = w2.alloc (.cells #[.slice A1 n1 c1, .int .i64 0] 68) := ⟨_, rfl⟩
  rw [← hW4] at S4 R4 B4 ⊢
  clear hW4
  obtain ⟨g, hge⟩ : ∃ g, g = w2.heap.size := ⟨_, rfl⟩
  rw [← hge] at S4 hgR ⊢
  clear hge w2
  have hgw : w.heap.size ≤ g := Nat.le_of_lt hgR
  have RD := Lib.hid (rexp_any A n cp L HC.out w.heap.size (ts.length + 1) g ts 0 W4 (by omega) (by omega) S4.out hgw B4.out.size (fun w' hb => H.out.keep (B4.out.trans hb)) TW.out)
  obtain ⟨Rn, Rt, Re, hRR⟩ : ∃ Rn Rt Re, MX.rdE L (ts.length + 1) ts 0 = (Rn, Rt, Re) := ⟨_, _, _, rfl⟩
  rw [hRR] at RD SZ HP2
  dsimp only at RD SZ
  clear hRR TW
  go_wp2_with fail
  refine RD.out.mono ?_
  rintro q4 w4 ⟨y, rfl, hyn, hyo, hsp, hmv⟩
  have R5 := R4.out.same (hmv.rest _ R4.out.lt (by omega) (by omega))
  have B5 := B4.out.trans hmv.below
  obtain ⟨oy, byy, vy, Ay, cy, ky⟩ := y
  obtain ⟨q0, q1, q2, q3, q4, q5, rfl⟩ := six hyo.six
  rw [NT.val_lit]
  have BY := below_new w4 (.cells #[.int .i64 oy, .int .i64 q0, .int .i64 q1, .int .i64 q2, .int .i64 q3, .int .i64 q4, .int .i64 q5, .int .i64 vy, .slice Ay ky.len cy] 27)
  have R6 := Lib.hid (R5.keep BY)
  have B6 := Lib.hid (B5.trans (BY.mono B5.size))
  have S6 := Lib.hid (hsp.keep BY)
  have YB : Hid (B9 (w4.alloc (.cells #[.int .i64 oy, .int .i64 q0, .int .i64 q1, .int .i64 q2, .int .i64 q3, .int .i64 q4, .int .i64 q5, .int .i64 vy, .slice Ay ky.len cy] 27)) w4.heap.size (.int .i64 oy) (.int .i64 q0) (.int .i64 q1) (.int .i64 q2) (.int .i64 q3) (.int .i64 q4) (.int .i64 q5) (.int .i64 vy) (.slice Ay ky.len cy)) := Lib.hid (heap_new w4 _)
  have OK6 := Lib.hid ((hyo.keep (ok' := fun k => w.heap.size < k) (fun _ _ _ => rfl) (Nat.le_refl _) (fun k q _ => Nat.lt_of_lt_of_le R4.out.lt q)).below BY)
  have HYN := Lib.hid hyn
  have EN := Lib.hid (rendU S6.out)
  clear R5 B5 BY hsp hmv hyo hyn S4 R4 B4 RD S6
  go_upto_region 9 with (fail)
  obtain ⟨W6, hW6⟩ : ∃ W6, W6 = w4.alloc (.cells #[.int .i64 oy, .int .i64 q0, .int .i64 q1, .int .i64 q2, .int .i64 q3, .int .i64 q4, .int .i64 q5, .int .i64 vy, .slice Ay ky.len cy] 27) := ⟨_, rfl⟩
  rw [← hW6] at R6 B6 YB OK6 EN ⊢
  clear hW6
  obtain ⟨gy, hgy⟩ : ∃ gy, gy = w4.heap.size := ⟨_, rfl⟩
  rw [← hgy] at YB ⊢
  clear hgy w4
  go_wp2_with fail
  refine EN.out.mono ?_
  rintro q6 w6 ⟨rfl, rfl⟩
  clear EN
  by_cases he : MX.endE Rt Re = 0
  case neg =>
    have hb0 : (MX.endE Rt Re != 0) = true := bne_iff_ne.2 he
    have HE : Hid (R = (MX.nd0, MX.endE Rt Re)) := Lib.hid (by rw [HP2.out]; unfold MX.parse2; rw [if_pos he])
    clear he HP2 HYN OK6 YB SZ
    generalize MX.endE Rt Re = er at *
    obtain ⟨r0, r1, r2, r3, r4, r5, r6, r7, r8⟩ := R6.out.cells
    obtain ⟨f0, f1, f2, f3, f4, f5, f6, f7, f8⟩ := R6.out.free
    have hzr := R6.out.lt
    have FB := Lib.hid (below_sets (o := 0) (l := [.int .i64 0, .int .i64 0, .int .i64 0, .int .i64 0, .int .i64 0, .int .i64 0, .int .i64 0, .int .i64 0, .slice none 0 0]) B6.out (Nat.le_refl w.heap.size))
    have FR := Lib.hid (R6.out.put (.int .i64 0) (.int .i64 0) (.int .i64 0) (.int .i64 0) (.int .i64 0) (.int .i64 0) (.int .i64 0) (.int .i64 0) (.slice none 0 0))
    have FP := Lib.hid (fun w' (hb : Below w.heap.size w w') => POST.out (.returned (.tuple #[.agg #[.int .i64 0, .int .i64 0, .int .i64 0, .int .i64 0, .int .i64 0, .int .i64 0, .int .i64 0, .int .i64 0, .slice none 0 0], .int .i64 er])) w' (zero_gives HE.out hb))
    clear B6 R6 POST
    go_wp2
    refine bodyPost_ret (rparse12_results _ rfl rfl (by rw [nest_0]; exact FR.out)) rfl ?_
    rw [nest_0]
    exact FP.out _ FB.out
  have HP3 : Hid (R = if ME.checkE Rn ≠ 0 then (MX.nd0, ME.checkE Rn) else (Rn, 0)) := Lib.hid (by rw [HP2.out]; unfold MX.parse2; rw [if_neg (by rw [he]; decide)])
  have hre : Re = 0 := by
    unfold MX.endE at he
    split at he
    · exact he
    · cases he
  have HYN2 : Hid (NT.n (⟨oy, [q0, q1, q2, q3, q4, q5], vy, Ay, cy, ky⟩ : NT) = Rn) := Lib.hid (HYN.out hre)
  have hysz : NT.size (⟨oy, [q0, q1, q2, q3, q4, q5], vy, Ay, cy, ky⟩ : NT) ≤ 1000000 := by
    rw [← NT.size_n, HYN2.out]
    have := SZ.out
    omega
  clear HYN SZ hre
  have HYN := HYN2
  clear HYN2
  rw [he]
  clear he HP2
  have CE := Lib.hid (rcheck_any (⟨oy, [q0, q1, q2, q3, q4, q5], vy, Ay, cy, ky⟩ : NT) hysz W6 (fun k => w.heap.size < k) OK6.out)
  rw [HYN.out, NT.val_lit] at CE
  obtain ⟨a0, a1, a2, a3, a4, a5, a6, a7, a8⟩ := YB.out.cells
  go_wp2_with fail
  refine CE.out.mono ?_
  rintro q7 w7 ⟨rfl, hb⟩
  have B7 := Lib.hid (B6.out.trans (hb.mono B6.out.size))
  have R7 := Lib.hid (R6.out.keep hb)
  have Y7 := Lib.hid (YB.out.keep hb)
  have OK7 := Lib.hid (OK6.out.below hb)
  clear hb B6 R6 YB OK6 CE a0 a1 a2 a3 a4 a5 a6 a7 a8
  by_cases he : ME.checkE Rn = 0
  case neg =>
    have hb0 : (ME.checkE Rn != 0) = true := bne_iff_ne.2 he
    have HE : Hid (R = (MX.nd0, ME.checkE Rn)) := Lib.hid (by rw [HP3.out, if_pos he])
    clear he HP3 HYN OK7 Y7
    generalize ME.checkE Rn = er at *
    obtain ⟨r0, r1, r2, r3, r4, r5, r6, r7, r8⟩ := R7.out.cells
    obtain ⟨f0, f1, f2, f3, f4, f5, f6, f7, f8⟩ := R7.out.free
    have hzr := R7.out.lt
    have FB := Lib.hid (below_sets (o := 0) (l := [.int .i64 0, .int .i64 0, .int .i64 0, .int .i64 0, .int .i64 0, .int .i64 0, .int .i64 0, .int .i64 0, .slice none 0 0]) B7.out (Nat.le_refl w.heap.size))
    have FR := Lib.hid (R7.out.put (.int .i64 0) (.int .i64 0) (.int .i64 0) (.int .i64 0) (.int .i64 0) (.int .i64 0) (.int .i64 0) (.int .i64 0) (.slice none 0 0))
    have FP := Lib.hid (fun w' (hb : Below w.heap.size w w') => POST.out (.returned (.tuple #[.agg #[.int .i64 0, .int .i64 0, .int .i64 0, .int .i64 0, .int .i64 0, .int .i64 0, .int .i64 0, .int .i64 0, .slice none 0 0], .int .i64 er])) w' (zero_gives HE.out hb))
    clear B7 R7 POST
    go_wp2
    refine bodyPost_ret (rparse12_results _ rfl rfl (by rw [nest_0]; exact FR.out)) rfl ?_
    rw [nest_0]
    exact FP.out _ FB.out
  have HE : Hid (R = (Rn, 0)) := Lib.hid (by rw [HP3.out, if_neg (by rw [he]; decide)])
  rw [he]
  clear he HP3
  obtain ⟨a0, a1, a2, a3, a4, a5, a6, a7, a8⟩ := Y7.out.cells
  obtain ⟨r0, r1, r2, r3, r4, r5, r6, r7, r8⟩ := R7.out.cells
  obtain ⟨f0, f1, f2, f3, f4, f5, f6, f7, f8⟩ := R7.out.free
  have hzr := R7.out.lt
  have FB := Lib.hid (below_sets (o := 0) (l := [.int .i64 oy, .int .i64 q0, .int .i64 q1, .int .i64 q2, .int .i64 q3, .int .i64 q4, .int .i64 q5, .int .i64 vy, .slice Ay ky.len cy]) B7.out (Nat.le_refl w.heap.size))
  have FR := Lib.hid (R7.out.put (.int .i64 oy) (.int .i64 q0) (.int .i64 q1) (.int .i64 q2) (.int .i64 q3) (.int .i64 q4) (.int .i64 q5) (.int .i64 vy) (.slice Ay ky.len cy))
  have hgr := grown_setsP (w := w7) (g := w.heap.size) [.int .i64 oy, .int .i64 q0, .int .i64 q1, .int .i64 q2, .int .i64 q3, .int .i64 q4, .int .i64 q5, .int .i64 vy, .slice Ay ky.len cy] 0
  have OK8 := Lib.hid (OK7.out)
  clear B7 R7 Y7
  go_wp2
  refine bodyPost_ret (rparse12_results _ rfl rfl (by rw [nest_0]; exact FR.out)) rfl ?_
  rw [nest_0]
  refine POST.out _ _ ⟨(⟨oy, [q0, q1, q2, q3, q4, q5], vy, Ay, cy, ky⟩ : NT), ?_, ?_, ?_, FB.out⟩
  · rw [HE.out]; rfl
  · rw [HE.out]; exact HYN.out
  · exact OK7.out.keep (fun k q hl => hgr.block k hl (fun e => by have := Option.some.inj e; omega)) hgr.size (fun k q _ => Nat.le_of_lt q)
end Go.Proofs.YtcokplikmjegcaaGreatDoor
