/- The reference's Format: no claim of its own. -/
import Derived.Test.YtigfgeanofccgaaGreatDoorUPFmt
import Derived.Test.YtigfgeanofccgaaGreatDoorJRk
import Derived.Test.YtigfgeanofccgaaGreatDoorJSp
import Derived.Test.YtigfgeanofccgaaGreatDoorJMu
import Derived.Lib.QuietBelow
import Derived.BigQuiet
import Derived.Deep.DeepCutAuto
namespace Go.Proofs.YtigfgeanofccgaaGreatDoor
open Go.RowKit
open MC (Pr)
open MR (Bd)
open MU (Su Cp As)
def txW (ws : List (List (List UInt8))) : List UInt8 := (ws.map MU.joinW).flatMap fun l => l ++ [10]
theorem txW_snoc (ws : List (List (List UInt8))) (x : List (List UInt8)) : txW (ws ++ [x]) = txW ws ++ (MU.joinW x ++ [10]) := by
  unfold txW
  rw [List.map_append, List.flatMap_append]
  simp
theorem txW_app (a b : List (List (List UInt8))) : txW (a ++ b) = txW a ++ txW b := by
  unfold txW
  rw [List.map_append, List.flatMap_append]
theorem txW_step {s : Su} {m : Nat} {x : List (List UInt8)} (h : (MU.wordsS s)[m]? = some x) : txW ((MU.wordsS s).take (m + 1)) = txW ((MU.wordsS s).take m) ++ (MU.joinW x ++ [10]) := by
  rw [List.take_add_one, h]; exact txW_snoc _ _
theorem txW_len {s : Su} (h : MU.GoodS s) (m : Nat) : (txW ((MU.wordsS s).take m)).length ≤ 1908 := by
  have h1 := MU.text_len h
  have e : MU.textS s = txW ((MU.wordsS s).take m) ++ txW ((MU.wordsS s).drop m) := by rw [← txW_app, List.take_append_drop]; rfl
  rw [e, List.length_append] at h1
  omega
theorem word_len {s : Su} (h : MU.GoodS s) {m : Nat} {x : List (List UInt8)} (hx : (MU.wordsS s)[m]? = some x) (hne : x ≠ []) : (x.map fun w => w.length + 1).sum ≤ 53 := by
  rw [← MU.join_len hne]
  exact MU.line_len h _ (List.mem_map.2 ⟨x, List.mem_of_getElem? hx, rfl⟩)
theorem at_1 {s : Su} {k : Nat} {p : Pr} (h : s.ps[k]? = some p) : (MU.wordsS s)[k]? = some (MU.prW p) := by
  have hl := (List.getElem?_eq_some_iff.1 h).1
  unfold MU.wordsS
  rw [List.getElem?_append_left (by simp; omega), List.getElem?_append_left (by simp; omega), List.getElem?_append_left (by simp; omega), List.getElem?_map, h]; rfl
theorem at_2 {s : Su} {k : Nat} {p : Bd} (h : s.bs[k]? = some p) : (MU.wordsS s)[s.ps.length + k]? = some (MU.bdW p) := by
  have hl := (List.getElem?_eq_some_iff.1 h).1
  unfold MU.wordsS
  rw [List.getElem?_append_left (by simp; omega), List.getElem?_append_left (by simp; omega), List.getElem?_append_right (by simp), List.getElem?_map]
  simp [h]
theorem at_3 {s : Su} {k : Nat} {p : Cp} (h : s.cs[k]? = some p) : (MU.wordsS s)[s.ps.length + s.bs.length + k]? = some (MU.cpW s p) := by
  have hl := (List.getElem?_eq_some_iff.1 h).1
  unfold MU.wordsS
  rw [List.getElem?_append_left (by simp; omega), List.getElem?_append_right (by simp), List.getElem?_map]
  simp [h]
theorem at_4 {s : Su} {k : Nat} {p : As} (h : s.as_[k]? = some p) : (MU.wordsS s)[s.ps.length + s.bs.length + s.cs.length + k]? = some (MU.asW s p) := by
  have hl := (List.getElem?_eq_some_iff.1 h).1
  unfold MU.wordsS
  rw [List.getElem?_append_right (by simp; omega), List.getElem?_map]
  have e : s.ps.length + s.bs.length + s.cs.length + k - (s.ps.map MU.prW ++ s.bs.map MU.bdW ++ s.cs.map (MU.cpW s)).length = k := by simp; omega
  rw [e, h]; rfl
theorem str_lit1 : (⟨#[32]⟩ : ByteArray) = str [32] := rfl
theorem str_lit2 : (⟨#[10]⟩ : ByteArray) = str [10] := rfl
theorem line_4 (T a b c d e : List UInt8) : str T ++ (⟨#[112, 114, 111, 100, 117, 99, 116, 32]⟩ : ByteArray) ++ str a ++ ⟨#[32]⟩ ++ str b ++ ⟨#[32]⟩ ++ str c ++ ⟨#[32]⟩ ++ str d ++ ⟨#[32]⟩ ++ str e ++ ⟨#[10]⟩ = str (T ++ (MU.joinW [MU.wProduct, a, b, c, d, e] ++ [10])) := by
  rw [show (⟨#[112, 114, 111, 100, 117, 99, 116, 32]⟩ : ByteArray) = str (MU.wProduct ++ [32]) from rfl, str_lit1, str_lit2]
  simp only [str_append]
  congr 1
  simp [MU.joinW]
theorem line_3 (T a b c d : List UInt8) : str T ++ (⟨#[98, 105, 100, 100, 101, 114, 32]⟩ : ByteArray) ++ str a ++ ⟨#[32]⟩ ++ str b ++ ⟨#[32]⟩ ++ str c ++ ⟨#[32]⟩ ++ str d ++ ⟨#[10]⟩ = str (T ++ (MU.joinW [MU.wBidder, a, b, c, d] ++ [10])) := by
  rw [show (⟨#[98, 105, 100, 100, 101, 114, 32]⟩ : ByteArray) = str (MU.wBidder ++ [32]) from rfl, str_lit1, str_lit2]
  simp only [str_append]
  congr 1
  simp [MU.joinW]
theorem line_2c (T a b c : List UInt8) : str T ++ (⟨#[99, 97, 112, 32]⟩ : ByteArray) ++ str a ++ ⟨#[32]⟩ ++ str b ++ ⟨#[32]⟩ ++ str c ++ ⟨#[10]⟩ = str (T ++ (MU.joinW [MU.wCap, a, b, c] ++ [10])) := by
  rw [show (⟨#[99, 97, 112, 32]⟩ : ByteArray) = str (MU.wCap ++ [32]) from rfl, str_lit1, str_lit2]
  simp only [str_append]
  congr 1
  simp [MU.joinW]
theorem line_2a (T a b c : List UInt8) : str T ++ (⟨#[97, 115, 105, 100, 101, 32]⟩ : ByteArray) ++ str a ++ ⟨#[32]⟩ ++ str b ++ ⟨#[32]⟩ ++ str c ++ ⟨#[10]⟩ = str (T ++ (MU.joinW [MU.wAside, a, b, c] ++ [10])) := by
  rw [show (⟨#[97, 115, 105, 100, 101, 32]⟩ : ByteArray) = str (MU.wAside ++ [32]) from rfl, str_lit1, str_lit2]
  simp only [str_append]
  congr 1
  simp [MU.joinW]
theorem all_words (s : Su) : (MU.wordsS s).take (s.ps.length + s.bs.length + s.cs.length + s.as_.length) = MU.wordsS s := by
  apply List.take_of_length_le
  unfold MU.wordsS
  simp
  omega
set_option maxRecDepth 100000 in
set_option maxHeartbeats 16000000 in
theorem rformat10_any (A1 : Option Addr) (n1 c1 : Nat) (A2 : Option Addr) (n2 c2 : Nat) (A3 : Option Addr) (n3 c3 : Nat) (A4 : Option Addr) (n4 c4 : Nat) (s : Su) (w : World) (h : SuAt w A1 n1 c1 A2 n2 c2 A3 n3 c3 A4 n4 c4 s) :
    Calls Tryz.prog 9 #[.agg #[.slice A1 n1 c1, .slice A2 n2 c2, .slice A3 n3 c3, .slice A4 n4 c4]] w (Gives (fmtV s) w) := by
  have hn1 := h.ps.few
  have hn2 := h.bs.few
  have hn3 := h.cs.few
  have hn4 := h.as_.few
  have hc1 := h.ps.cap
  have hc2 := h.bs.cap
  have hc3 := h.cs.cap
  have hc4 := h.as_.cap
  have HL1 := Lib.hid h.ps.len
  have HL2 := Lib.hid h.bs.len
  have HL3 := Lib.hid h.cs.len
  have HL4 := Lib.hid h.as_.len
  have CK := Lib.hid (fun w' (hb : Below w.heap.size w w') => rcheck10_any A1 n1 c1 A2 n2 c2 A3 n3 c3 A4 n4 c4 s w' (h.keep hb))
  have RN := Lib.hid True.intro
  have H := Lib.hid h
  clear h
  have T0 := Lib.hid (TB.new w 27 (.slice A1 n1 c1) (.slice A2 n2 c2) (.slice A3 n3 c3) (.slice A4 n4 c4))
  have B0 := Lib.hid (below_new w (.cells #[.slice A1 n1 c1, .slice A2 n2 c2, .slice A3 n3 c3, .slice A4 n4 c4] 27))
  have hmo : Tryz.prog.follows .mixedOrders = true := by kernel_rfl
  obtain ⟨er, her⟩ : ∃ er, MU.chkS s = er := ⟨_, rfl⟩
  have HE := Lib.hid her
  rw [her] at CK
  clear her
  go_enter Tryz.func9, Tryz.ntmps9
  go_upto_region 1 with (fail)
  generalize w.alloc (.cells #[.slice A1 n1 c1, .slice A2 n2 c2, .slice A3 n3 c3, .slice A4 n4 c4] 27) = W0 at *
  obtain ⟨t0, t1, t2, t3⟩ := T0.out.cells
  go_wp2_with fail
  refine (CK.out _ B0.out).mono ?_
  rintro ev w1 ⟨rfl, hb⟩
  have TK := Lib.hid (T0.out.keep hb)
  have BK := Lib.hid (B0.out.trans (hb.mono B0.out.size))
  clear hb CK T0 B0 t0 t1 t2 t3
  by_cases h1 : er = 0
  case neg =>
    have hne : (er != 0) = true := bne_iff_ne.2 h1
    have E := Lib.hid (ret_fmt (s := s) (t := []) (e := er) (by unfold MU.fmtS; rw [if_pos (by rw [HE.out]; exact h1), HE.out]))
    clear HE h1 HL1 HL2 HL3 HL4 H TK RN
    go_wp2
    go_ret2
    exact ⟨E.out, BK.out⟩
  subst h1
  have GS := Lib.hid (MU.chkS_good HE.out)
  go_wp2
  go_loopw [5, 6] (fun t i wr => ∃ k : Nat, k ≤ n1 ∧ i = .int .i64 k ∧ t = .string (str (txW ((MU.wordsS s).take (0 + k)))) ∧ Hid (TB wr w.heap.size 27 (.slice A1 n1 c1) (.slice A2 n2 c2) (.slice A3 n3 c3) (.slice A4 n4 c4)) ∧ Hid (Below w.heap.size w wr)) (fun _ i _ => n1 - (intOf i).toNat)
  case atStart => exact ⟨0, Nat.zero_le _, rfl, rfl, TK, BK⟩
  case round =>
    rename_i _ wr
    clear TK BK
    obtain ⟨k, hk, rfl, rfl, TK, BK⟩ := hrel
    obtain ⟨t0, t1, t2, t3⟩ := TK.out.cells
    have S0 : (str (txW ((MU.wordsS s).take (0 + k)))).size ≤ 1908 := by rw [str_size]; exact txW_len GS.out _
    by_cases hlt : k < n1
    · have hlt' : (k : Int) < (n1 : Int) := by omega
      obtain ⟨ad, p, rfl, q1, hbk, x0, x1, x2, x3, x4⟩ := (H.out.keep BK.out).ps.at_ hlt
      have hat : (MU.wordsS s)[0 + k]? = some (MU.prW p) := by rw [Nat.zero_add]; exact at_1 q1
      have hst := txW_step hat
      have hwl := word_len GS.out hat (by simp [MU.prW])
      simp only [MU.prW, List.map_cons, List.map_nil, List.sum_cons, List.sum_nil] at hwl
      have hp := ((MC.chk_good GS.out.ps).each k p q1).2
      unfold MC.Pr.ok at hp
      have E := Lib.hid (val_str (line_4 (txW ((MU.wordsS s).take (0 + k))) p.name (MU.num p.supply) (MU.num p.reserve) (MU.num p.points) (MU.num p.group)))
      have E2 := hst
      have EV : Hid (Value.string (str (txW ((MU.wordsS s).take (0 + k))) ++ (⟨#[112, 114, 111, 100, 117, 99, 116, 32]⟩ : ByteArray) ++ str p.name ++ ⟨#[32]⟩ ++ str (MU.num p.supply) ++ ⟨#[32]⟩ ++ str (MU.num p.reserve) ++ ⟨#[32]⟩ ++ str (MU.num p.points) ++ ⟨#[32]⟩ ++ str (MU.num p.group) ++ ⟨#[10]⟩) = .string (str (txW ((MU.wordsS s).take (0 + k + 1))))) := Lib.hid (by rw [hst]; exact E.out)
      have Sa : (str p.name).size ≤ 53 := by rw [str_size]; omega
      have N0 : (str (MU.num p.supply)).size ≤ 53 := by rw [str_size]; omega
      have N1 : (str (MU.num p.reserve)).size ≤ 53 := by rw [str_size]; omega
      have N2 : (str (MU.num p.points)).size ≤ 53 := by rw [str_size]; omega
      have N3 : (str (MU.num p.group)).size ≤ 53 := by rw [str_size]; omega
      have CN0 := Lib.hid (fun W => rnumber_any (p.supply) (by first | omega | (have := hp.1; have := hp.2; omega) | (unfold MR.Bd.ok at hp; omega)) W)
      have CN1 := Lib.hid (fun W => rnumber_any (p.reserve) (by first | omega | (have := hp.1; have := hp.2; omega) | (unfold MR.Bd.ok at hp; omega)) W)
      have CN2 := Lib.hid (fun W => rnumber_any (p.points) (by first | omega | (have := hp.1; have := hp.2; omega) | (unfold MR.Bd.ok at hp; omega)) W)
      have CN3 := Lib.hid (fun W => rnumber_any (p.group) (by first | omega | (have := hp.1; have := hp.2; omega) | (unfold MR.Bd.ok at hp; omega)) W)
      clear hst hwl E E2 hat
      have PV := Lib.hid (heap_new wr (.cells #[.string (str p.name), .int .i64 p.supply, .int .i64 p.reserve, .int .i64 p.points, .int .i64 p.group] 60))
      have BN := Lib.hid (below_new wr (.cells #[.string (str p.name), .int .i64 p.supply, .int .i64 p.reserve, .int .i64 p.points, .int .i64 p.group] 60))
      have hkc : k ≤ c1 := by have := hc1; omega
      go_wp2_with fail
      obtain ⟨X, hX⟩ : ∃ X, X = wr.alloc (.cells #[.string (str p.name), .int .i64 p.supply, .int .i64 p.reserve, .int .i64 p.points, .int .i64 p.group] 60) := ⟨_, rfl⟩
      rw [← hX] at PV BN ⊢
      clear hX x0 x1 x2 x3 x4 t0 t1 t2 t3
      have k0 := cell_regrown (show X.cell? ⟨wr.heap.size, 0, none⟩ = some (.string (str p.name)) by rw [cell_of_row _ _ _ _ _ _ PV.out]; rfl)
      have k1 := cell_regrown (show X.cell? ⟨wr.heap.size, 1, none⟩ = some (.int .i64 p.supply) by rw [cell_of_row _ _ _ _ _ _ PV.out]; rfl)
      have k2 := cell_regrown (show X.cell? ⟨wr.heap.size, 2, none⟩ = some (.int .i64 p.reserve) by rw [cell_of_row _ _ _ _ _ _ PV.out]; rfl)
      have k3 := cell_regrown (show X.cell? ⟨wr.heap.size, 3, none⟩ = some (.int .i64 p.points) by rw [cell_of_row _ _ _ _ _ _ PV.out]; rfl)
      have k4 := cell_regrown (show X.cell? ⟨wr.heap.size, 4, none⟩ = some (.int .i64 p.group) by rw [cell_of_row _ _ _ _ _ _ PV.out]; rfl)
      have s0 := fun d os => Calls.regrown_of (CN0.out (Go.Sort.grow (redrawn X d) os))
      have s1 := fun d os => Calls.regrown_of (CN1.out (Go.Sort.grow (redrawn X d) os))
      have s2 := fun d os => Calls.regrown_of (CN2.out (Go.Sort.grow (redrawn X d) os))
      have s3 := fun d os => Calls.regrown_of (CN3.out (Go.Sort.grow (redrawn X d) os))
      generalize str p.name = sa at *
      generalize str (MU.num p.supply) = sn0 at *
      generalize str (MU.num p.reserve) = sn1 at *
      generalize str (MU.num p.points) = sn2 at *
      generalize str (MU.num p.group) = sn3 at *
      generalize str (txW ((MU.wordsS s).take (0 + k))) = st at *
      have z0 : ¬ 9223372036854775807 < st.size + 8 := by omega
      have z1 : ¬ 9223372036854775807 < st.size + 8 + sa.size := by omega
      have z2 : ¬ 9223372036854775807 < st.size + 8 + sa.size + 1 := by omega
      have z3 : ¬ 9223372036854775807 < st.size + 8 + sa.size + 1 + sn0.size := by omega
      have z4 : ¬ 9223372036854775807 < st.size + 8 + sa.size + 1 + sn0.size + 1 := by omega
      have z5 : ¬ 9223372036854775807 < st.size + 8 + sa.size + 1 + sn0.size + 1 + sn1.size := by omega
      have z6 : ¬ 9223372036854775807 < st.size + 8 + sa.size + 1 + sn0.size + 1 + sn1.size + 1 := by omega
      have z7 : ¬ 9223372036854775807 < st.size + 8 + sa.size + 1 + sn0.size + 1 + sn1.size + 1 + sn2.size := by omega
      have z8 : ¬ 9223372036854775807 < st.size + 8 + sa.size + 1 + sn0.size + 1 + sn1.size + 1 + sn2.size + 1 := by omega
      have z9 : ¬ 9223372036854775807 < st.size + 8 + sa.size + 1 + sn0.size + 1 + sn1.size + 1 + sn2.size + 1 + sn3.size := by omega
      have z10 : ¬ 9223372036854775807 < st.size + 8 + sa.size + 1 + sn0.size + 1 + sn1.size + 1 + sn2.size + 1 + sn3.size + 1 := by omega
      refine wp_region_quiet_below hmo (by kernel_rfl) ?_
      quiet_step (skip)
      quiet_step (skip)
      quiet_step (skip)
      quiet_step (skip)
      quiet_step (skip)
      quiet_step (skip)
      quiet_step (skip)
      quiet_step (skip)
      quiet_step (exact s0 _ _)
      quiet_step (skip)
      quiet_step (skip)
      quiet_step (skip)
      quiet_step (skip)
      quiet_step (exact s1 _ _)
      quiet_step (skip)
      quiet_step (skip)
      quiet_step (skip)
      quiet_step (skip)
      quiet_step (exact s2 _ _)
      quiet_step (skip)
      quiet_step (skip)
      quiet_step (skip)
      quiet_step (skip)
      quiet_step (exact s3 _ _)
      quiet_step (skip)
      quiet_step (skip)
      quiet_step (skip)
      refine wpQuiet_nil ?_
      rintro _ ⟨pz, rfl⟩
      have BX := Lib.hid (BN.out.trans ((below_regrown X pz.d pz.os).mono BN.out.size))
      have TK2 := Lib.hid (TK.out.keep BX.out)
      have BK2 := Lib.hid (BK.out.trans (BX.out.mono BK.out.size))
      clear s0 s1 s2 s3 k0 k1 k2 k3 k4 CN0 CN1 CN2 CN3 BX TK PV BN
      generalize Go.Sort.grow (redrawn X pz.d) pz.os = Vz at *
      go_wp2
      go_roundw
      case rel => exact ⟨k + 1, by omega, by go_num, EV.out, TK2, BK2⟩
      case measure => simp [intOf]; omega
    · have hlt' : ¬ (k : Int) < (n1 : Int) := by omega
      obtain rfl : n1 = k := by omega
      clear hk hlt
      go_wp2
      clear t0 t1 t2 t3
      go_loopw [5, 8] (fun t i wr => ∃ k : Nat, k ≤ n2 ∧ i = .int .i64 k ∧ t = .string (str (txW ((MU.wordsS s).take (n1 + k)))) ∧ Hid (TB wr w.heap.size 27 (.slice A1 n1 c1) (.slice A2 n2 c2) (.slice A3 n3 c3) (.slice A4 n4 c4)) ∧ Hid (Below w.heap.size w wr)) (fun _ i _ => n2 - (intOf i).toNat)
      case atStart => exact ⟨0, Nat.zero_le _, rfl, rfl, TK, BK⟩
      case round =>
        rename_i _ wr
        clear TK BK
        obtain ⟨k, hk, rfl, rfl, TK, BK⟩ := hrel
        obtain ⟨t0, t1, t2, t3⟩ := TK.out.cells
        have S0 : (str (txW ((MU.wordsS s).take (n1 + k)))).size ≤ 1908 := by rw [str_size]; exact txW_len GS.out _
        by_cases hlt : k < n2
        · have hlt' : (k : Int) < (n2 : Int) := by omega
          obtain ⟨ad, p, rfl, q1, _, hbk, x0, x1, x2, x3⟩ := bd_at (H.out.keep BK.out).bs hlt
          have hat : (MU.wordsS s)[n1 + k]? = some (MU.bdW p) := by rw [← HL1.out]; exact at_2 q1
          have hst := txW_step hat
          have hwl := word_len GS.out hat (by simp [MU.bdW])
          simp only [MU.bdW, List.map_cons, List.map_nil, List.sum_cons, List.sum_nil] at hwl
          have hp := ((MR.chk_good GS.out.bs).each k p q1).2
          have E := Lib.hid (val_str (line_3 (txW ((MU.wordsS s).take (n1 + k))) p.name (MU.num p.cls) (MU.num p.budget) (MU.num p.points)))
          have E2 := hst
          have EV : Hid (Value.string (str (txW ((MU.wordsS s).take (n1 + k))) ++ (⟨#[98, 105, 100, 100, 101, 114, 32]⟩ : ByteArray) ++ str p.name ++ ⟨#[32]⟩ ++ str (MU.num p.cls) ++ ⟨#[32]⟩ ++ str (MU.num p.budget) ++ ⟨#[32]⟩ ++ str (MU.num p.points) ++ ⟨#[10]⟩) = .string (str (txW ((MU.wordsS s).take (n1 + k + 1))))) := Lib.hid (by rw [hst]; exact E.out)
          have Sa : (str p.name).size ≤ 53 := by rw [str_size]; omega
          have N0 : (str (MU.num p.cls)).size ≤ 53 := by rw [str_size]; omega
          have N1 : (str (MU.num p.budget)).size ≤ 53 := by rw [str_size]; omega
          have N2 : (str (MU.num p.points)).size ≤ 53 := by rw [str_size]; omega
          have CN0 := Lib.hid (fun W => rnumber_any (p.cls) (by first | omega | (have := hp.1; have := hp.2; omega) | (unfold MR.Bd.ok at hp; omega)) W)
          have CN1 := Lib.hid (fun W => rnumber_any (p.budget) (by first | omega | (have := hp.1; have := hp.2; omega) | (unfold MR.Bd.ok at hp; omega)) W)
          have CN2 := Lib.hid (fun W => rnumber_any (p.points) (by first | omega | (have := hp.1; have := hp.2; omega) | (unfold MR.Bd.ok at hp; omega)) W)
          clear hst hwl E E2 hat
          have PV := Lib.hid (heap_new wr (.cells #[.string (str p.name), .int .i64 p.cls, .int .i64 p.budget, .int .i64 p.points] 64))
          have BN := Lib.hid (below_new wr (.cells #[.string (str p.name), .int .i64 p.cls, .int .i64 p.budget, .int .i64 p.points] 64))
          have hkc : k ≤ c2 := by have := hc2; omega
          go_wp2_with fail
          obtain ⟨X, hX⟩ : ∃ X, X = wr.alloc (.cells #[.string (str p.name), .int .i64 p.cls, .int .i64 p.budget, .int .i64 p.points] 64) := ⟨_, rfl⟩
          rw [← hX] at PV BN ⊢
          clear hX x0 x1 x2 x3 t0 t1 t2 t3
          have k0 := cell_regrown (show X.cell? ⟨wr.heap.size, 0, none⟩ = some (.string (str p.name)) by rw [cell_of_row _ _ _ _ _ _ PV.out]; rfl)
          have k1 := cell_regrown (show X.cell? ⟨wr.heap.size, 1, none⟩ = some (.int .i64 p.cls) by rw [cell_of_row _ _ _ _ _ _ PV.out]; rfl)
          have k2 := cell_regrown (show X.cell? ⟨wr.heap.size, 2, none⟩ = some (.int .i64 p.budget) by rw [cell_of_row _ _ _ _ _ _ PV.out]; rfl)
          have k3 := cell_regrown (show X.cell? ⟨wr.heap.size, 3, none⟩ = some (.int .i64 p.points) by rw [cell_of_row _ _ _ _ _ _ PV.out]; rfl)
          have s0 := fun d os => Calls.regrown_of (CN0.out (Go.Sort.grow (redrawn X d) os))
          have s1 := fun d os => Calls.regrown_of (CN1.out (Go.Sort.grow (redrawn X d) os))
          have s2 := fun d os => Calls.regrown_of (CN2.out (Go.Sort.grow (redrawn X d) os))
          generalize str p.name = sa at *
          generalize str (MU.num p.cls) = sn0 at *
          generalize str (MU.num p.budget) = sn1 at *
          generalize str (MU.num p.points) = sn2 at *
          generalize str (txW ((MU.wordsS s).take (n1 + k))) = st at *
          have z0 : ¬ 9223372036854775807 < st.size + 7 := by omega
          have z1 : ¬ 9223372036854775807 < st.size + 7 + sa.size := by omega
          have z2 : ¬ 9223372036854775807 < st.size + 7 + sa.size + 1 := by omega
          have z3 : ¬ 9223372036854775807 < st.size + 7 + sa.size + 1 + sn0.size := by omega
          have z4 : ¬ 9223372036854775807 < st.size + 7 + sa.size + 1 + sn0.size + 1 := by omega
          have z5 : ¬ 9223372036854775807 < st.size + 7 + sa.size + 1 + sn0.size + 1 + sn1.size := by omega
          have z6 : ¬ 9223372036854775807 < st.size + 7 + sa.size + 1 + sn0.size + 1 + sn1.size + 1 := by omega
          have z7 : ¬ 9223372036854775807 < st.size + 7 + sa.size + 1 + sn0.size + 1 + sn1.size + 1 + sn2.size := by omega
          have z8 : ¬ 9223372036854775807 < st.size + 7 + sa.size + 1 + sn0.size + 1 + sn1.size + 1 + sn2.size + 1 := by omega
          refine wp_region_quiet_below hmo (by kernel_rfl) ?_
          quiet_step (skip)
          quiet_step (skip)
          quiet_step (skip)
          quiet_step (skip)
          quiet_step (skip)
          quiet_step (skip)
          quiet_step (skip)
          quiet_step (skip)
          quiet_step (exact s0 _ _)
          quiet_step (skip)
          quiet_step (skip)
          quiet_step (skip)
          quiet_step (skip)
          quiet_step (exact s1 _ _)
          quiet_step (skip)
          quiet_step (skip)
          quiet_step (skip)
          quiet_step (skip)
          quiet_step (exact s2 _ _)
          quiet_step (skip)
          quiet_step (skip)
          quiet_step (skip)
          refine wpQuiet_nil ?_
          rintro _ ⟨pz, rfl⟩
          have BX := Lib.hid (BN.out.trans ((below_regrown X pz.d pz.os).mono BN.out.size))
          have TK2 := Lib.hid (TK.out.keep BX.out)
          have BK2 := Lib.hid (BK.out.trans (BX.out.mono BK.out.size))
          clear s0 s1 s2 k0 k1 k2 k3 CN0 CN1 CN2 BX TK PV BN
          generalize Go.Sort.grow (redrawn X pz.d) pz.os = Vz at *
          go_wp2
          go_roundw
          case rel => exact ⟨k + 1, by omega, by go_num, EV.out, TK2, BK2⟩
          case measure => simp [intOf]; omega
        · have hlt' : ¬ (k : Int) < (n2 : Int) := by omega
          obtain rfl : n2 = k := by omega
          clear hk hlt
          go_wp2
          clear t0 t1 t2 t3
          go_loopw [5, 10] (fun t i wr => ∃ k : Nat, k ≤ n3 ∧ i = .int .i64 k ∧ t = .string (str (txW ((MU.wordsS s).take ((n1 + n2) + k)))) ∧ Hid (TB wr w.heap.size 27 (.slice A1 n1 c1) (.slice A2 n2 c2) (.slice A3 n3 c3) (.slice A4 n4 c4)) ∧ Hid (Below w.heap.size w wr)) (fun _ i _ => n3 - (intOf i).toNat)
          case atStart => exact ⟨0, Nat.zero_le _, rfl, rfl, TK, BK⟩
          case round =>
            rename_i _ wr
            clear TK BK
            obtain ⟨k, hk, rfl, rfl, TK, BK⟩ := hrel
            obtain ⟨t0, t1, t2, t3⟩ := TK.out.cells
            have S0 : (str (txW ((MU.wordsS s).take ((n1 + n2) + k)))).size ≤ 1908 := by rw [str_size]; exact txW_len GS.out _
            by_cases hlt : k < n3
            · have hlt' : (k : Int) < (n3 : Int) := by omega
              obtain ⟨ad, p, rfl, q1, _, hbk, x0, x1, x2⟩ := cp_at (H.out.keep BK.out).cs hlt
              have hat : (MU.wordsS s)[(n1 + n2) + k]? = some (MU.cpW s p) := by rw [← HL1.out, ← HL2.out]; exact at_3 q1
              have hst := txW_step hat
              have hwl := word_len GS.out hat (by simp [MU.cpW])
              simp only [MU.cpW, List.map_cons, List.map_nil, List.sum_cons, List.sum_nil] at hwl
              have hp := GS.out.caps k p q1
              have E := Lib.hid (val_str (line_2c (txW ((MU.wordsS s).take ((n1 + n2) + k))) (MU.cpName s p) (MU.num p.group) (MU.num p.units)))
              have E2 := hst
              have EV : Hid (Value.string (str (txW ((MU.wordsS s).take ((n1 + n2) + k))) ++ (⟨#[99, 97, 112, 32]⟩ : ByteArray) ++ str (MU.cpName s p) ++ ⟨#[32]⟩ ++ str (MU.num p.group) ++ ⟨#[32]⟩ ++ str (MU.num p.units) ++ ⟨#[10]⟩) = .string (str (txW ((MU.wordsS s).take ((n1 + n2) + k + 1))))) := Lib.hid (by rw [hst]; exact E.out)
              have Sa : (str (MU.cpName s p)).size ≤ 53 := by rw [str_size]; omega
              have N0 : (str (MU.num p.group)).size ≤ 53 := by rw [str_size]; omega
              have N1 : (str (MU.num p.units)).size ≤ 53 := by rw [str_size]; omega
              have CN0 := Lib.hid (fun W => rnumber_any (p.group) (by first | omega | (have := hp.1; have := hp.2; omega) | (unfold MR.Bd.ok at hp; omega)) W)
              have CN1 := Lib.hid (fun W => rnumber_any (p.units) (by first | omega | (have := hp.1; have := hp.2; omega) | (unfold MR.Bd.ok at hp; omega)) W)
              clear hst hwl E E2 hat
              have PV := Lib.hid (heap_new wr (.cells #[.int .i64 p.bidder, .int .i64 p.group, .int .i64 p.units] 66))
              have BN := Lib.hid (below_new wr (.cells #[.int .i64 p.bidder, .int .i64 p.group, .int .i64 p.units] 66))
              have hkc : k ≤ c3 := by have := hc3; omega
              by_cases hb0 : 0 ≤ p.bidder
              · have hbi := hp.1.2
                obtain ⟨bn, hbn⟩ : ∃ bn : Nat, p.bidder = bn := ⟨p.bidder.toNat, by omega⟩
                have hbl : bn < n2 := by have := HL2.out; omega
                obtain ⟨ad2, b, hA2, q2, _, hbk2, y0, _, _, _⟩ := bd_at (H.out.keep BK.out).bs hbl
                have hnm : MU.cpName s p = b.name := by unfold MU.cpName; rw [if_pos hb0, hbn, Int.toNat_natCast, q2]; rfl
                have d0 : decide (0 ≤ p.bidder) = true := decide_eq_true hb0
                have hbl' : (bn : Int) < (n2 : Int) := by omega
                have hcap2 := H.out.bs.cap
                rw [hnm] at EV Sa
                subst hA2
                rw [hbn] at d0 PV BN x0
                have y0' := (BN.out.cell (block_lt_of_cell y0)).trans y0
                have t1' := (BN.out.cell (block_lt_of_cell t1)).trans t1
                go_wp2_with fail
                obtain ⟨X, hX⟩ : ∃ X, X = wr.alloc (.cells #[.int .i64 (bn : Int), .int .i64 p.group, .int .i64 p.units] 66) := ⟨_, rfl⟩
                rw [← hX] at PV BN ⊢
                clear hX x0 x1 x2 t0 t1 t2 t3
                clear y0 y0' t1'
                have k0 := cell_regrown (show X.cell? ⟨wr.heap.size, 0, none⟩ = some (.int .i64 (bn : Int)) by rw [cell_of_row _ _ _ _ _ _ PV.out]; rfl)
                have k1 := cell_regrown (show X.cell? ⟨wr.heap.size, 1, none⟩ = some (.int .i64 p.group) by rw [cell_of_row _ _ _ _ _ _ PV.out]; rfl)
                have k2 := cell_regrown (show X.cell? ⟨wr.heap.size, 2, none⟩ = some (.int .i64 p.units) by rw [cell_of_row _ _ _ _ _ _ PV.out]; rfl)
                have s0 := fun d os => Calls.regrown_of (CN0.out (Go.Sort.grow (redrawn X d) os))
                have s1 := fun d os => Calls.regrown_of (CN1.out (Go.Sort.grow (redrawn X d) os))
                generalize str b.name = sa at *
                generalize str (MU.num p.group) = sn0 at *
                generalize str (MU.num p.units) = sn1 at *
                generalize str (txW ((MU.wordsS s).take ((n1 + n2) + k))) = st at *
                have z0 : ¬ 9223372036854775807 < st.size + 4 := by omega
                have z1 : ¬ 9223372036854775807 < st.size + 4 + sa.size := by omega
                have z2 : ¬ 9223372036854775807 < st.size + 4 + sa.size + 1 := by omega
                have z3 : ¬ 9223372036854775807 < st.size + 4 + sa.size + 1 + sn0.size := by omega
                have z4 : ¬ 9223372036854775807 < st.size + 4 + sa.size + 1 + sn0.size + 1 := by omega
                have z5 : ¬ 9223372036854775807 < st.size + 4 + sa.size + 1 + sn0.size + 1 + sn1.size := by omega
                have z6 : ¬ 9223372036854775807 < st.size + 4 + sa.size + 1 + sn0.size + 1 + sn1.size + 1 := by omega
                refine wp_region_quiet_below hmo (by kernel_rfl) ?_
                quiet_step (skip)
                quiet_step (skip)
                quiet_step (skip)
                quiet_step (skip)
                quiet_step (skip)
                quiet_step (skip)
                quiet_step (skip)
                quiet_step (exact s0 _ _)
                quiet_step (skip)
                quiet_step (skip)
                quiet_step (skip)
                quiet_step (skip)
                quiet_step (exact s1 _ _)
                quiet_step (skip)
                quiet_step (skip)
                quiet_step (skip)
                refine wpQuiet_nil ?_
                rintro _ ⟨pz, rfl⟩
                have BX := Lib.hid (BN.out.trans ((below_regrown X pz.d pz.os).mono BN.out.size))
                have TK2 := Lib.hid (TK.out.keep BX.out)
                have BK2 := Lib.hid (BK.out.trans (BX.out.mono BK.out.size))
                clear s0 s1 k0 k1 k2 CN0 CN1 BX TK PV BN
                generalize Go.Sort.grow (redrawn X pz.d) pz.os = Vz at *
                go_wp2
                go_roundw
                case rel => exact ⟨k + 1, by omega, by go_num, EV.out, TK2, BK2⟩
                case measure => simp [intOf]; omega
              · have hnm : MU.cpName s p = [42] := by unfold MU.cpName; rw [if_neg hb0]
                have d0 : decide (0 ≤ p.bidder) = false := decide_eq_false hb0
                rw [hnm] at EV Sa
                go_wp2_with fail
                obtain ⟨X, hX⟩ : ∃ X, X = wr.alloc (.cells #[.int .i64 p.bidder, .int .i64 p.group, .int .i64 p.units] 66) := ⟨_, rfl⟩
                rw [← hX] at PV BN ⊢
                clear hX x0 x1 x2 t0 t1 t2 t3
                have k0 := cell_regrown (show X.cell? ⟨wr.heap.size, 0, none⟩ = some (.int .i64 p.bidder) by rw [cell_of_row _ _ _ _ _ _ PV.out]; rfl)
                have k1 := cell_regrown (show X.cell? ⟨wr.heap.size, 1, none⟩ = some (.int .i64 p.group) by rw [cell_of_row _ _ _ _ _ _ PV.out]; rfl)
                have k2 := cell_regrown (show X.cell? ⟨wr.heap.size, 2, none⟩ = some (.int .i64 p.units) by rw [cell_of_row _ _ _ _ _ _ PV.out]; rfl)
                have s0 := fun d os => Calls.regrown_of (CN0.out (Go.Sort.grow (redrawn X d) os))
                have s1 := fun d os => Calls.regrown_of (CN1.out (Go.Sort.grow (redrawn X d) os))
                rw [show str [42] = (⟨#[42]⟩ : ByteArray) from rfl] at EV
                generalize str (MU.num p.group) = sn0 at *
                generalize str (MU.num p.units) = sn1 at *
                generalize str (txW ((MU.wordsS s).take ((n1 + n2) + k))) = st at *
                have z0 : ¬ 9223372036854775807 < st.size + 4 := by omega
                have z1 : ¬ 9223372036854775807 < st.size + 4 + 1 := by omega
                have z2 : ¬ 9223372036854775807 < st.size + 4 + 1 + 1 := by omega
                have z3 : ¬ 9223372036854775807 < st.size + 4 + 1 + 1 + sn0.size := by omega
                have z4 : ¬ 9223372036854775807 < st.size + 4 + 1 + 1 + sn0.size + 1 := by omega
                have z5 : ¬ 9223372036854775807 < st.size + 4 + 1 + 1 + sn0.size + 1 + sn1.size := by omega
                have z6 : ¬ 9223372036854775807 < st.size + 4 + 1 + 1 + sn0.size + 1 + sn1.size + 1 := by omega
                refine wp_region_quiet_below hmo (by kernel_rfl) ?_
                quiet_step (skip)
                quiet_step (skip)
                quiet_step (skip)
                quiet_step (skip)
                quiet_step (skip)
                quiet_step (skip)
                quiet_step (skip)
                quiet_step (exact s0 _ _)
                quiet_step (skip)
                quiet_step (skip)
                quiet_step (skip)
                quiet_step (skip)
                quiet_step (exact s1 _ _)
                quiet_step (skip)
                quiet_step (skip)
                quiet_step (skip)
                refine wpQuiet_nil ?_
                rintro _ ⟨pz, rfl⟩
                have BX := Lib.hid (BN.out.trans ((below_regrown X pz.d pz.os).mono BN.out.size))
                have TK2 := Lib.hid (TK.out.keep BX.out)
                have BK2 := Lib.hid (BK.out.trans (BX.out.mono BK.out.size))
                clear s0 s1 k0 k1 k2 CN0 CN1 BX TK PV BN
                generalize Go.Sort.grow (redrawn X pz.d) pz.os = Vz at *
                go_wp2
                go_roundw
                case rel => exact ⟨k + 1, by omega, by go_num, EV.out, TK2, BK2⟩
                case measure => simp [intOf]; omega
            · have hlt' : ¬ (k : Int) < (n3 : Int) := by omega
              obtain rfl : n3 = k := by omega
              clear hk hlt
              go_wp2
              clear t0 t1 t2 t3
              go_loopw [5, 13] (fun t i wr => ∃ k : Nat, k ≤ n4 ∧ i = .int .i64 k ∧ t = .string (str (txW ((MU.wordsS s).take ((n1 + n2 + n3) + k)))) ∧ Hid (TB wr w.heap.size 27 (.slice A1 n1 c1) (.slice A2 n2 c2) (.slice A3 n3 c3) (.slice A4 n4 c4)) ∧ Hid (Below w.heap.size w wr)) (fun _ i _ => n4 - (intOf i).toNat)
              case atStart => exact ⟨0, Nat.zero_le _, rfl, rfl, TK, BK⟩
              case round =>
                rename_i _ wr
                clear TK BK
                obtain ⟨k, hk, rfl, rfl, TK, BK⟩ := hrel
                obtain ⟨t0, t1, t2, t3⟩ := TK.out.cells
                have S0 : (str (txW ((MU.wordsS s).take ((n1 + n2 + n3) + k)))).size ≤ 1908 := by rw [str_size]; exact txW_len GS.out _
                by_cases hlt : k < n4
                · have hlt' : (k : Int) < (n4 : Int) := by omega
                  obtain ⟨ad, p, rfl, q1, _, hbk, x0, x1, x2⟩ := asd_at (H.out.keep BK.out).as_ hlt
                  have hat : (MU.wordsS s)[(n1 + n2 + n3) + k]? = some (MU.asW s p) := by rw [← HL1.out, ← HL2.out, ← HL3.out]; exact at_4 q1
                  have hst := txW_step hat
                  have hwl := word_len GS.out hat (by simp [MU.asW])
                  simp only [MU.asW, List.map_cons, List.map_nil, List.sum_cons, List.sum_nil] at hwl
                  have hp := GS.out.asides k p q1
                  have hsup := MU.sup_le (MC.chk_good GS.out.ps) (k := p.product.toNat) (by omega)
                  have E := Lib.hid (val_str (line_2a (txW ((MU.wordsS s).take ((n1 + n2 + n3) + k))) (MU.asName s p) (MU.num p.cls) (MU.num p.units)))
                  have E2 := hst
                  have EV : Hid (Value.string (str (txW ((MU.wordsS s).take ((n1 + n2 + n3) + k))) ++ (⟨#[97, 115, 105, 100, 101, 32]⟩ : ByteArray) ++ str (MU.asName s p) ++ ⟨#[32]⟩ ++ str (MU.num p.cls) ++ ⟨#[32]⟩ ++ str (MU.num p.units) ++ ⟨#[10]⟩) = .string (str (txW ((MU.wordsS s).take ((n1 + n2 + n3) + k + 1))))) := Lib.hid (by rw [hst]; exact E.out)
                  have Sa : (str (MU.asName s p)).size ≤ 53 := by rw [str_size]; omega
                  have N0 : (str (MU.num p.cls)).size ≤ 53 := by rw [str_size]; omega
                  have N1 : (str (MU.num p.units)).size ≤ 53 := by rw [str_size]; omega
                  have CN0 := Lib.hid (fun W => rnumber_any (p.cls) (by first | omega | (have := hp.1; have := hp.2; omega) | (unfold MR.Bd.ok at hp; omega)) W)
                  have CN1 := Lib.hid (fun W => rnumber_any (p.units) (by first | omega | (have := hp.1; have := hp.2; omega) | (unfold MR.Bd.ok at hp; omega)) W)
                  clear hst hwl E E2 hat
                  have PV := Lib.hid (heap_new wr (.cells #[.int .i64 p.product, .int .i64 p.cls, .int .i64 p.units] 68))
                  have BN := Lib.hid (below_new wr (.cells #[.int .i64 p.product, .int .i64 p.cls, .int .i64 p.units] 68))
                  have hkc : k ≤ c4 := by have := hc4; omega
                  obtain ⟨bn, hbn⟩ : ∃ bn : Nat, p.product = bn := ⟨p.product.toNat, by omega⟩
                  have hbl : bn < n1 := by have := HL1.out; omega
                  obtain ⟨ad2, b, hA2, q2, hbk2, y0, _, _, _, _⟩ := (H.out.keep BK.out).ps.at_ hbl
                  have hnm : MU.asName s p = b.name := by unfold MU.asName; rw [hbn, Int.toNat_natCast, q2]; rfl
                  have hbl' : (bn : Int) < (n1 : Int) := by omega
                  have hcap2 := H.out.ps.cap
                  subst hA2
                  rw [hnm] at EV Sa
                  rw [hbn] at PV BN x0
                  go_wp2_with fail
                  obtain ⟨X, hX⟩ : ∃ X, X = wr.alloc (.cells #[.int .i64 (bn : Int), .int .i64 p.cls, .int .i64 p.units] 68) := ⟨_, rfl⟩
                  rw [← hX] at PV BN ⊢
                  clear hX x0 x1 x2 t0 t1 t2 t3
                  have y0x := (BN.out.cell (block_lt_of_cell y0)).trans y0
                  have yk := cell_regrown y0x
                  have tk0 := cell_regrown ((BN.out.cell (block_lt_of_cell TK.out.cells.1)).trans TK.out.cells.1)
                  clear y0 y0x
                  have k0 := cell_regrown (show X.cell? ⟨wr.heap.size, 0, none⟩ = some (.int .i64 (bn : Int)) by rw [cell_of_row _ _ _ _ _ _ PV.out]; rfl)
                  have k1 := cell_regrown (show X.cell? ⟨wr.heap.size, 1, none⟩ = some (.int .i64 p.cls) by rw [cell_of_row _ _ _ _ _ _ PV.out]; rfl)
                  have k2 := cell_regrown (show X.cell? ⟨wr.heap.size, 2, none⟩ = some (.int .i64 p.units) by rw [cell_of_row _ _ _ _ _ _ PV.out]; rfl)
                  have s0 := fun d os => Calls.regrown_of (CN0.out (Go.Sort.grow (redrawn X d) os))
                  have s1 := fun d os => Calls.regrown_of (CN1.out (Go.Sort.grow (redrawn X d) os))
                  generalize str b.name = sa at *
                  generalize str (MU.num p.cls) = sn0 at *
                  generalize str (MU.num p.units) = sn1 at *
                  generalize str (txW ((MU.wordsS s).take ((n1 + n2 + n3) + k))) = st at *
                  have z0 : ¬ 9223372036854775807 < st.size + 6 := by omega
                  have z1 : ¬ 9223372036854775807 < st.size + 6 + sa.size := by omega
                  have z2 : ¬ 9223372036854775807 < st.size + 6 + sa.size + 1 := by omega
                  have z3 : ¬ 9223372036854775807 < st.size + 6 + sa.size + 1 + sn0.size := by omega
                  have z4 : ¬ 9223372036854775807 < st.size + 6 + sa.size + 1 + sn0.size + 1 := by omega
                  have z5 : ¬ 9223372036854775807 < st.size + 6 + sa.size + 1 + sn0.size + 1 + sn1.size := by omega
                  have z6 : ¬ 9223372036854775807 < st.size + 6 + sa.size + 1 + sn0.size + 1 + sn1.size + 1 := by omega
                  refine wp_region_quiet_below hmo (by kernel_rfl) ?_
                  quiet_step (skip)
                  quiet_step (skip)
                  quiet_step (skip)
                  quiet_step (skip)
                  quiet_step (skip)
                  quiet_step (skip)
                  quiet_step (skip)
                  quiet_step (skip)
                  quiet_step (skip)
                  quiet_step (skip)
                  quiet_step (skip)
                  quiet_step (skip)
                  quiet_step (skip)
                  quiet_step (exact s0 _ _)
                  quiet_step (skip)
                  quiet_step (skip)
                  quiet_step (skip)
                  quiet_step (skip)
                  quiet_step (exact s1 _ _)
                  quiet_step (skip)
                  quiet_step (skip)
                  quiet_step (skip)
                  refine wpQuiet_nil ?_
                  rintro _ ⟨pz, rfl⟩
                  have BX := Lib.hid (BN.out.trans ((below_regrown X pz.d pz.os).mono BN.out.size))
                  have TK2 := Lib.hid (TK.out.keep BX.out)
                  have BK2 := Lib.hid (BK.out.trans (BX.out.mono BK.out.size))
                  clear s0 s1 k0 k1 k2 CN0 CN1 BX TK PV BN
                  generalize Go.Sort.grow (redrawn X pz.d) pz.os = Vz at *
                  go_wp2
                  go_roundw
                  case rel => exact ⟨k + 1, by omega, by go_num, EV.out, TK2, BK2⟩
                  case measure => simp [intOf]; omega
                · have hlt' : ¬ (k : Int) < (n4 : Int) := by omega
                  obtain rfl : n4 = k := by omega
                  clear hk hlt
                  go_wp2
                  clear t0 t1 t2 t3
                  have E := Lib.hid (ret_fmt (s := s) (t := txW ((MU.wordsS s).take (n1 + n2 + n3 + n4))) (e := 0) (by rw [← HL1.out, ← HL2.out, ← HL3.out, ← HL4.out]; unfold MU.fmtS; rw [if_neg (by rw [HE.out]; simp), all_words]; rfl))
                  generalize str (txW ((MU.wordsS s).take (n1 + n2 + n3 + n4))) = tz at *
                  clear HL1 HL2 HL3 HL4 H GS RN
                  go_wp2
                  go_ret2
                  exact ⟨E.out, BK.out⟩
end Go.Proofs.YtigfgeanofccgaaGreatDoor
