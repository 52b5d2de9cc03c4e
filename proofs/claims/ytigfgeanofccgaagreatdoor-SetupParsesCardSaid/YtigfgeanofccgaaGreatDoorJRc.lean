/- RFind, RPrim, RCheck, joined: no claim of its own. -/
import Derived.Test.YtigfgeanofccgaaGreatDoorJUb
import Derived.Test.YtigfgeanofccgaaGreatDoorJMr
import Derived.Test.YtigfgeanofccgaaGreatDoorJLw
import Derived.Test.YtigfgeanofccgaaGreatDoorJBb
import Derived.Lib.QuietBelow
namespace Go.Proofs.YtigfgeanofccgaaGreatDoor
open Go.RowKit
open MR (Bd)
/-- What Find answers. -/
def fnd9V : Option Nat → Value
  | none => .tuple #[.int .i64 0, .bool false]
  | some k => .tuple #[.int .i64 k, .bool true]
theorem ret_fnd9 {o : Option Nat} {k : Nat} (h : o = some k) : Ending.returned (.tuple #[.int .i64 (k : Int), .bool true]) = .returned (fnd9V o) := by rw [h]; rfl
theorem ret_fnd09 {o : Option Nat} (h : o = none) : Ending.returned (.tuple #[.int .i64 0, .bool false]) = .returned (fnd9V o) := by rw [h]; rfl
theorem find9_here {L : List Bd} {nm : List UInt8} {k : Nat} {p : Bd} (hp : L[k]? = some p) (he : p.name = nm) (hn : ∀ (j : Nat) (q : Bd), j < k → L[j]? = some q → q.name ≠ nm) : MR.findL L nm = some k := by
  subst he; exact MR.find_eq hp hn
theorem find9_not {L : List Bd} {nm : List UInt8} {k : Nat} (hk : L.length ≤ k) (hn : ∀ (j : Nat) (q : Bd), j < k → L[j]? = some q → q.name ≠ nm) : MR.findL L nm = none :=
  MR.find_none fun p hp => by
    obtain ⟨j, hj, e⟩ := List.mem_iff_getElem.1 hp
    exact hn j p (by omega) (by rw [List.getElem?_eq_getElem hj, e])
theorem name9_step {L : List Bd} {nm : List UInt8} {k : Nat} {p : Bd} (hp : L[k]? = some p) (he : p.name ≠ nm) (hn : ∀ (j : Nat) (q : Bd), j < k → L[j]? = some q → q.name ≠ nm) : ∀ (j : Nat) (q : Bd), j < k + 1 → L[j]? = some q → q.name ≠ nm := by
  intro j q hj hq
  rcases Nat.lt_or_ge j k with g | g
  · exact hn j q g hq
  · obtain rfl : j = k := by omega
    rw [hp] at hq; injection hq with hq; subst hq; exact he
set_option maxRecDepth 100000 in
set_option maxHeartbeats 1000000 in
theorem find9_any (A : Option Addr) (n c : Nat) (L : List Bd) (nm : List UInt8) (w : World) (h : Lst bdE w A n c L) :
    Calls Tryz.prog 90 #[.slice A n c, .string (str nm)] w (Gives (fnd9V (MR.findL L nm)) w) := by
  have hn := h.few
  have hc := h.cap
  have HL := Lib.hid h.len
  have H := Lib.hid h
  clear h
  go_enter Tryz.func90, Tryz.ntmps90
  go_wp2
  go_loopw [10] (fun i wr => ∃ k : Nat, k ≤ n ∧ i = .int .i64 k ∧ Hid (∀ (j : Nat) (q : Bd), j < k → L[j]? = some q → q.name ≠ nm) ∧ Hid (Below w.heap.size w wr)) (fun i _ => n - (intOf i).toNat)
  case atStart => exact ⟨0, Nat.zero_le _, rfl, Lib.hid (fun j _ hj => absurd hj (Nat.not_lt_zero _)), Lib.hid (Below.refl _ _)⟩
  case round =>
    rename_i _ wr
    obtain ⟨k, hk, rfl, HN, HB⟩ := hrel
    by_cases hlt : k < n
    · obtain ⟨ad, p, rfl, q1, hfi, hbk, x0, x1, x2, x3⟩ := bd_at (H.out.keep HB.out) hlt
      have B1 := Lib.hid (HB.out.trans ((below_new wr (.cells #[.string (str p.name), .int .i64 p.cls, .int .i64 p.budget, .int .i64 p.points] 64)).mono HB.out.size))
      by_cases hq : p.name = nm
      · have ht : ((str p.name).toList == (str nm).toList) = true := test_yes (by rw [str_data, str_data, hq])
        have G := Lib.hid (ret_fnd9 (find9_here q1 hq HN.out))
        clear hq q1 HN HB hbk hfi
        obtain ⟨pn, ps, pr, pp⟩ := p
        simp only at *
        generalize str pn = s at *
        generalize str nm = m at *
        go_wp2
        exact bodyPost_ret (v := .tuple #[.int .i64 (k : Int), .bool true]) (by simp [results, Tryz.results90, go_sem]) rfl ⟨G.out, B1.out⟩
      · have ht : ((str p.name).toList == (str nm).toList) = false := test_no (by rw [str_data, str_data]; exact hq)
        have G := Lib.hid (name9_step q1 hq HN.out)
        clear hq q1 HN HB hbk hfi
        obtain ⟨pn, ps, pr, pp⟩ := p
        simp only at *
        generalize str pn = s at *
        generalize str nm = m at *
        go_wp2
        go_roundw
        case rel => exact ⟨k + 1, by omega, by go_num, G, B1⟩
        case measure => simp [intOf]; omega
    · have G := Lib.hid (ret_fnd09 (find9_not (by rw [HL.out]; omega) HN.out))
      go_wp2
      exact bodyPost_ret (v := .tuple #[.int .i64 0, .bool false]) (by simp [results, Tryz.results90, go_sem]) rfl ⟨G.out, HB.out⟩
set_option maxRecDepth 100000 in
set_option maxHeartbeats 1000000 in
theorem rfind9_any (A : Option Addr) (n c : Nat) (L : List Bd) (nm : List UInt8) (w : World) (h : Lst bdE w A n c L) :
    Calls Tryz.prog 62 #[.slice A n c, .string (str nm)] w (Gives (fnd9V (MR.findL L nm)) w) := by
  have hn := h.few
  have hc := h.cap
  have HL := Lib.hid h.len
  have H := Lib.hid h
  clear h
  go_enter Tryz.func62, Tryz.ntmps62
  go_wp2
  go_loop [6] (fun i => ∃ k : Nat, k ≤ n ∧ i = .int .i64 k ∧ Hid (∀ (j : Nat) (q : Bd), j < k → L[j]? = some q → q.name ≠ nm)) (fun i => n - (intOf i).toNat)
  case atStart => exact ⟨0, Nat.zero_le _, rfl, Lib.hid (fun j _ hj => absurd hj (Nat.not_lt_zero _))⟩
  case round =>
    obtain ⟨k, hk, rfl, HN⟩ := hrel
    by_cases hlt : k < n
    · obtain ⟨ad, p, rfl, q1, hfi, hbk, x0, x1, x2, x3⟩ := bd_at H.out hlt
      by_cases hq : p.name = nm
      · have ht : ((str p.name).toList == (str nm).toList) = true := test_yes (by rw [str_data, str_data, hq])
        have G := Lib.hid (ret_fnd9 (find9_here q1 hq HN.out))
        clear hq q1 HN hbk hfi
        obtain ⟨pn, ps, pr, pp⟩ := p
        simp only at *
        generalize str pn = s at *
        generalize str nm = m at *
        go_wp2
        exact bodyPost_ret (v := .tuple #[.int .i64 (k : Int), .bool true]) (by simp [results, Tryz.results62, go_sem]) rfl ⟨G.out, Below.refl _ _⟩
      · have ht : ((str p.name).toList == (str nm).toList) = false := test_no (by rw [str_data, str_data]; exact hq)
        have G := Lib.hid (name9_step q1 hq HN.out)
        clear hq q1 HN hbk hfi
        obtain ⟨pn, ps, pr, pp⟩ := p
        simp only at *
        generalize str pn = s at *
        generalize str nm = m at *
        go_wp2
        go_round
        case rel => exact ⟨k + 1, by omega, by go_num, G⟩
        case measure => simp [intOf]; omega
    · have G := Lib.hid (ret_fnd09 (find9_not (by rw [HL.out]; omega) HN.out))
      go_wp2
      exact bodyPost_ret (v := .tuple #[.int .i64 0, .bool false]) (by simp [results, Tryz.results62, go_sem]) rfl ⟨G.out, Below.refl _ _⟩
end Go.Proofs.YtigfgeanofccgaaGreatDoor
namespace Go.Proofs.YtigfgeanofccgaaGreatDoor
open Go.RowKit
open MR (Bd)
theorem fnd9_seen {l : List Bd} {k : Nat} {m : List UInt8} (h : m ∈ MR.names l k) : ∃ j : Nat, fnd9V (MR.findL (l.take k) m) = .tuple #[.int .i64 (j : Int), .bool true] := by
  cases e : MR.findL (l.take k) m with
  | none => exact absurd h (MR.find_names.1 e)
  | some j => exact ⟨j, rfl⟩
theorem fnd9_new {l : List Bd} {k : Nat} {m : List UInt8} (h : m ∉ MR.names l k) : fnd9V (MR.findL (l.take k) m) = .tuple #[.int .i64 0, .bool false] := by
  rw [MR.find_names.2 h]; rfl
set_option maxRecDepth 100000 in
set_option maxHeartbeats 4000000 in
theorem checkBidder_any (A : Option Addr) (n c k : Nat) (L : List Bd) (p : Bd) (hk : k ≤ n) (hf : p.name.length ≤ 9223372036854775807) (w : World) (h : Lst bdE w A n c L) :
    Calls Tryz.prog 67 #[agg_bd p, .slice A k c] w (Gives (.int .i64 (MR.bdE (MR.names L k) p)) w) := by
  have NA := Lib.hid (fun w' => isName_any (str p.name) (by rw [str_size]; exact hf) w')
  have FA := Lib.hid (fun w' (hb : Below w.heap.size w w') => find9_any A k c (L.take k) p.name w' ((h.keep hb).take hk))
  clear h hf
  have HB := Lib.hid (below_new w (.cells #[.string (str p.name), .int .i64 p.cls, .int .i64 p.budget, .int .i64 p.points] 64))
  unfold agg_bd
  cases hn : nameB p.name with
  | false =>
    have G := Lib.hid (ret_int (k := .i64) (MR.bdE_name (seen := MR.names L k) hn).symm)
    rw [str_data, hn] at NA
    clear hn FA
    obtain ⟨pn, ps, pr, pp⟩ := p
    simp only at *
    go_enter Tryz.func67, Tryz.ntmps67
    go_wp2_with fail
    refine (NA.out _).mono ?_
    rintro e w1 ⟨rfl, hb⟩
    have B1 := Lib.hid (HB.out.trans (hb.mono HB.out.size))
    clear hb
    go_wp2
    go_ret
    exact ⟨G.out, B1.out⟩
  | true =>
    rw [str_data, hn] at NA
    by_cases hs : p.name ∈ MR.names L k
    · have G := Lib.hid (ret_int (k := .i64) (MR.bdE_seen hn hs).symm)
      obtain ⟨j, hj⟩ := fnd9_seen hs
      have HJ := Lib.hid hj
      clear hn hs hj
      obtain ⟨pn, ps, pr, pp⟩ := p
      simp only at *
      go_enter Tryz.func67, Tryz.ntmps67
      go_wp2_with fail
      refine (NA.out _).mono ?_
      rintro e w1 ⟨rfl, hb⟩
      have B1 := Lib.hid (HB.out.trans (hb.mono HB.out.size))
      have y0 : w1.cell? ⟨w.heap.size, 0, none⟩ = some (.string (str pn)) := by
        rw [hb.cell (by show _ < (w.alloc _).heap.size; simp)]; rw [cell_of_row _ _ _ _ _ _ (heap_new w _)]; rfl
      clear hb
      go_wp2_with fail
      refine (FA.out _ B1.out).mono ?_
      rw [HJ.out]
      rintro e w2 ⟨rfl, hb⟩
      have B2 := Lib.hid (B1.out.trans (hb.mono B1.out.size))
      clear hb B1
      go_wp2
      go_ret
      exact ⟨G.out, B2.out⟩
    · have hj := fnd9_new hs
      have HJ := Lib.hid hj
      by_cases ho : p.ok
      · have G := Lib.hid (ret_int (k := .i64) (MR.bdE_ok hn hs ho).symm)
        obtain ⟨⟨o1, o2⟩, ⟨o3, o4⟩, o5, o6⟩ := ho
        clear hn hs hj
        obtain ⟨pn, ps, pr, pp⟩ := p
        simp only at *
        have d1 : decide (ps < 0) = false := decide_eq_false (by omega)
        have d2 : decide (4 < ps) = false := decide_eq_false (by omega)
        have d3 : decide (pr < 0) = false := decide_eq_false (by omega)
        have d4 : decide (1000000 < pr) = false := decide_eq_false (by omega)
        have d5 : decide (pp < 0) = false := decide_eq_false (by omega)
        have d6 : decide (24000 < pp) = false := decide_eq_false (by omega)
        go_enter Tryz.func67, Tryz.ntmps67
        go_wp2_with fail
        refine (NA.out _).mono ?_
        rintro e w1 ⟨rfl, hb⟩
        have B1 := Lib.hid (HB.out.trans (hb.mono HB.out.size))
        have K1 := Lib.hid ((hb.block w.heap.size (by show _ < (w.alloc _).heap.size; simp)).trans (heap_new w _))
        have y0 : w1.cell? ⟨w.heap.size, 0, none⟩ = some (.string (str pn)) := by rw [cell_of_row _ _ _ _ _ _ K1.out]; rfl
        clear hb
        go_wp2_with fail
        refine (FA.out _ B1.out).mono ?_
        rw [HJ.out]
        rintro e w2 ⟨rfl, hb⟩
        have B2 := Lib.hid (B1.out.trans (hb.mono B1.out.size))
        have K2 := (hb.block w.heap.size (by exact (Array.getElem?_eq_some_iff.1 K1.out).1)).trans K1.out
        have y1 : w2.cell? ⟨w.heap.size, 1, none⟩ = some (.int .i64 ps) := by rw [cell_of_row _ _ _ _ _ _ K2]; rfl
        have y2 : w2.cell? ⟨w.heap.size, 2, none⟩ = some (.int .i64 pr) := by rw [cell_of_row _ _ _ _ _ _ K2]; rfl
        have y3 : w2.cell? ⟨w.heap.size, 3, none⟩ = some (.int .i64 pp) := by rw [cell_of_row _ _ _ _ _ _ K2]; rfl
        clear hb B1 y0 K1 K2
        go_wp2
        go_ret
        exact ⟨G.out, B2.out⟩
      · have G := Lib.hid (ret_int (k := .i64) (MR.bdE_range hn hs ho).symm)
        have hcase := MR.not_ok ho
        have HC := Lib.hid hcase
        clear hn hs hj ho hcase
        obtain ⟨pn, ps, pr, pp⟩ := p
        simp only at *
        go_enter Tryz.func67, Tryz.ntmps67
        go_wp2_with fail
        refine (NA.out _).mono ?_
        rintro e w1 ⟨rfl, hb⟩
        have B1 := Lib.hid (HB.out.trans (hb.mono HB.out.size))
        have K1 := Lib.hid ((hb.block w.heap.size (by show _ < (w.alloc _).heap.size; simp)).trans (heap_new w _))
        have y0 : w1.cell? ⟨w.heap.size, 0, none⟩ = some (.string (str pn)) := by rw [cell_of_row _ _ _ _ _ _ K1.out]; rfl
        clear hb
        go_wp2_with fail
        refine (FA.out _ B1.out).mono ?_
        rw [HJ.out]
        rintro e w2 ⟨rfl, hb⟩
        have B2 := Lib.hid (B1.out.trans (hb.mono B1.out.size))
        have K2 := (hb.block w.heap.size (by exact (Array.getElem?_eq_some_iff.1 K1.out).1)).trans K1.out
        have y1 : w2.cell? ⟨w.heap.size, 1, none⟩ = some (.int .i64 ps) := by rw [cell_of_row _ _ _ _ _ _ K2]; rfl
        have y2 : w2.cell? ⟨w.heap.size, 2, none⟩ = some (.int .i64 pr) := by rw [cell_of_row _ _ _ _ _ _ K2]; rfl
        have y3 : w2.cell? ⟨w.heap.size, 3, none⟩ = some (.int .i64 pp) := by rw [cell_of_row _ _ _ _ _ _ K2]; rfl
        clear hb B1 y0 K1 K2
        rcases HC.out with c1 | ⟨c1, c2⟩ | ⟨c1, c2, c3⟩ | ⟨c1, c2, c3, c4⟩ | ⟨c1, c2, c3, c4, c5⟩ | ⟨c1, c2, c3, c4, c5, c6⟩
        all_goals
          go_wp2
          go_ret
          exact ⟨G.out, B2.out⟩
end Go.Proofs.YtigfgeanofccgaaGreatDoor
namespace Go.Proofs.YtigfgeanofccgaaGreatDoor
open Go.RowKit
open MR (Bd)
set_option maxRecDepth 100000 in
set_option maxHeartbeats 4000000 in
theorem check9_any (A : Option Addr) (n c : Nat) (L : List Bd) (w : World) (h : Lst bdE w A n c L) :
    Calls Tryz.prog 44 #[.slice A n c] w (Gives (.int .i64 (MR.chkL L)) w) := by
  have hn := h.few
  have hc := h.cap
  have HL := Lib.hid h.len
  have H := Lib.hid h
  clear h
  by_cases h0 : n = 0
  · have G := Lib.hid (ret_int (k := .i64) (MR.chk_short (l := L) (by rw [HL.out]; exact h0)).symm)
    subst h0
    go_enter Tryz.func44, Tryz.ntmps44
    go_wp2
    go_ret
    exact ⟨G.out, Below.refl _ _⟩
  by_cases h8 : 8 < n
  · have G := Lib.hid (ret_int (k := .i64) (MR.chk_long (l := L) (by rw [HL.out]; exact h8)).symm)
    go_enter Tryz.func44, Tryz.ntmps44
    go_wp2
    go_ret
    exact ⟨G.out, Below.refl _ _⟩
  have HM := Lib.hid (MR.chk_mid (l := L) (by rw [HL.out]; exact h0) (by rw [HL.out]; exact h8))
  have hmo : Tryz.prog.follows .mixedOrders = true := by kernel_rfl
  have e0 : ((n : Int) == 0) = false := beq_eq_false_iff_ne.2 (by omega)
  have e8 : decide (8 < (n : Int)) = false := decide_eq_false (by omega)
  go_enter Tryz.func44, Tryz.ntmps44
  go_wp2
  go_loopw [16] (fun i wr => ∃ k : Nat, k ≤ n ∧ i = .int .i64 k ∧ Hid (MR.Upto L k) ∧ Hid (Below w.heap.size w wr)) (fun i _ => n - (intOf i).toNat)
  case atStart => exact ⟨0, Nat.zero_le _, rfl, Lib.hid (MR.Upto.start L), Lib.hid (Below.refl _ _)⟩
  case round =>
    rename_i _ wr
    obtain ⟨k, hk, rfl, HU, HB⟩ := hrel
    by_cases hlt : k < n
    · obtain ⟨ad, p, rfl, q1, hfi, hbk, x0, x1, x2, x3⟩ := bd_at (H.out.keep HB.out) hlt
      have HQ := Lib.hid q1
      have B1 := Lib.hid (HB.out.trans ((below_new wr (.cells #[.string (str p.name), .int .i64 p.cls, .int .i64 p.budget, .int .i64 p.points] 64)).mono HB.out.size))
      have PV := Lib.hid (heap_new wr (.cells #[.string (str p.name), .int .i64 p.cls, .int .i64 p.budget, .int .i64 p.points] 64))
      have CP := Lib.hid (fun w' (hb : Below w.heap.size w w') => checkBidder_any (some ad) n c k L p hk hfi.1 w' (H.out.keep hb))
      obtain ⟨er, her⟩ : ∃ er, MR.bdE (MR.names L k) p = er := ⟨_, rfl⟩
      have HR := Lib.hid her
      rw [her] at CP
      clear her q1 hbk hfi
      obtain ⟨pn, ps, pr, pp⟩ := p
      unfold agg_bd at CP
      simp only at *
      generalize str pn = s at *
      go_wp2_with fail
      obtain ⟨X, hX⟩ : ∃ X, X = wr.alloc (.cells #[.string s, .int .i64 ps, .int .i64 pr, .int .i64 pp] 64) := ⟨_, rfl⟩
      rw [← hX] at B1 PV ⊢
      clear hX x0 x1 x2 x3
      have k0 := cell_regrown (show X.cell? ⟨wr.heap.size, 0, none⟩ = some (.string s) by rw [cell_of_row _ _ _ _ _ _ PV.out]; rfl)
      have k1 := cell_regrown (show X.cell? ⟨wr.heap.size, 1, none⟩ = some (.int .i64 ps) by rw [cell_of_row _ _ _ _ _ _ PV.out]; rfl)
      have k2 := cell_regrown (show X.cell? ⟨wr.heap.size, 2, none⟩ = some (.int .i64 pr) by rw [cell_of_row _ _ _ _ _ _ PV.out]; rfl)
      have k3 := cell_regrown (show X.cell? ⟨wr.heap.size, 3, none⟩ = some (.int .i64 pp) by rw [cell_of_row _ _ _ _ _ _ PV.out]; rfl)
      have cS := fun d os => Calls.regrown_of (CP.out (Go.Sort.grow (redrawn X d) os) (B1.out.trans ((below_regrown X d os).mono B1.out.size)))
      refine wp_region_quiet_below hmo (by kernel_rfl) ?_
      have hkc : k ≤ c := by omega
      have hkc' : (k : Int) ≤ (c : Int) := by omega
      quiet_step (exact cS _ _)
      quiet_step (exact cS _ _)
      quiet_step (exact cS _ _)
      quiet_step (exact cS _ _)
      quiet_step (exact cS _ _)
      quiet_step (exact cS _ _)
      refine wpQuiet_nil ?_
      rintro _ ⟨pz, rfl⟩
      have B2 := Lib.hid (B1.out.trans ((below_regrown X pz.d pz.os).mono B1.out.size))
      clear cS k0 k1 k2 k3 CP
      generalize Go.Sort.grow (redrawn X pz.d) pz.os = V at *
      by_cases he : er = 0
      · subst he
        have G := Lib.hid (HU.out.step HQ.out HR.out)
        go_wp2
        go_roundw
        case rel => exact ⟨k + 1, by omega, by go_num, G, B2⟩
        case measure => simp [intOf]; omega
      · have hb : (er != 0) = true := bne_iff_ne.2 he
        have G := Lib.hid (ret_int (k := .i64) (show er = MR.chkL L by rw [HM.out, HU.out.stop HQ.out (by rw [HR.out]; exact he), HR.out]))
        go_wp2
        go_ret
        exact ⟨G.out, B2.out⟩
    · have G := Lib.hid (ret_int (k := .i64) (show 0 = MR.chkL L by rw [HM.out, HU.out.fin (by rw [HL.out]; omega)]))
      go_wp2
      go_ret
      exact ⟨G.out, HB.out⟩
set_option maxRecDepth 100000 in
set_option maxHeartbeats 8000000 in
theorem rcheck9_any (A : Option Addr) (n c : Nat) (L : List Bd) (w : World) (h : Lst bdE w A n c L) :
    Calls Tryz.prog 34 #[.slice A n c] w (Gives (.int .i64 (MR.chkL L)) w) := by
  have hn := h.few
  have hc := h.cap
  have HL := Lib.hid h.len
  have H := Lib.hid h
  clear h
  by_cases h0 : n = 0
  · have G := Lib.hid (ret_int (k := .i64) (MR.chk_short (l := L) (by rw [HL.out]; exact h0)).symm)
    subst h0
    go_enter Tryz.func34, Tryz.ntmps34
    go_wp2
    go_ret
    exact ⟨G.out, Below.refl _ _⟩
  by_cases h8 : 8 < n
  · have G := Lib.hid (ret_int (k := .i64) (MR.chk_long (l := L) (by rw [HL.out]; exact h8)).symm)
    go_enter Tryz.func34, Tryz.ntmps34
    go_wp2
    go_ret
    exact ⟨G.out, Below.refl _ _⟩
  have HM := Lib.hid (MR.chk_mid (l := L) (by rw [HL.out]; exact h0) (by rw [HL.out]; exact h8))
  have e0 : ((n : Int) == 0) = false := beq_eq_false_iff_ne.2 (by omega)
  have e8 : decide (8 < (n : Int)) = false := decide_eq_false (by omega)
  go_enter Tryz.func34, Tryz.ntmps34
  go_wp2
  go_loopw [3] (fun i wr => ∃ k : Nat, k ≤ n ∧ i = .int .i64 k ∧ Hid (MR.Upto L k) ∧ Hid (Below w.heap.size w wr)) (fun i _ => n - (intOf i).toNat)
  case atStart => exact ⟨0, Nat.zero_le _, rfl, Lib.hid (MR.Upto.start L), Lib.hid (Below.refl _ _)⟩
  case round =>
    rename_i _ wr
    obtain ⟨k, hk, rfl, HU, HB⟩ := hrel
    by_cases hlt : k < n
    · obtain ⟨ad, p, rfl, q1, hfi, hbk, x0, x1, x2, x3⟩ := bd_at (H.out.keep HB.out) hlt
      have HQ := Lib.hid q1
      have NA := Lib.hid (fun w' => risName_any (str p.name) (by rw [str_size]; exact hfi.1) w')
      rw [str_data] at NA
      have FA := Lib.hid (fun w' (hb : Below w.heap.size w w') => rfind9_any (some ad) n c L p.name w' (H.out.keep hb))
      have HST := Lib.hid (fun (er : Int) (he : MR.bdE (MR.names L k) p = er) (h0' : er ≠ 0) => ret_int (k := .i64) (show er = MR.chkL L by rw [HM.out, HU.out.stop HQ.out (by rw [he]; exact h0'), he]))
      clear q1 hbk hfi
      cases hnm : nameB p.name with
      | false =>
        have G := Lib.hid (HST.out 5 (MR.bdE_name hnm) (by decide))
        rw [hnm] at NA
        clear hnm HST HU HQ FA
        obtain ⟨pn, ps, pr, pp⟩ := p
        simp only at *
        generalize str pn = s at *
        go_wp2_with fail
        refine (NA.out _).mono ?_
        rintro e w1 ⟨rfl, hb⟩
        have B1 := Lib.hid (HB.out.trans (hb.mono HB.out.size))
        clear hb x0
        go_wp2
        go_ret
        exact ⟨G.out, B1.out⟩
      | true =>
        rw [hnm] at NA
        obtain ⟨j, hj⟩ := MR.find_any L HQ.out
        rw [hj] at FA
        have FA2 : Hid (∀ w', Below w.heap.size w w' → Calls Tryz.prog 62 #[.slice (some ad) n c, .string (str p.name)] w' (Gives (.tuple #[.int .i64 (j : Int), .bool true]) w')) := FA
        have HNM := Lib.hid hnm
        have HJ := Lib.hid hj
        clear hnm hj FA
        have bridge : ∀ w', Below w.heap.size w w' → w'.cell? (ad.add (k * 4)) = some (.string (str p.name)) ∧ w'.cell? ⟨(ad.add (k * 4)).block, (ad.add (k * 4)).off + 1, none⟩ = some (.int .i64 p.cls) ∧ w'.cell? ⟨(ad.add (k * 4)).block, (ad.add (k * 4)).off + 2, none⟩ = some (.int .i64 p.budget) ∧ w'.cell? ⟨(ad.add (k * 4)).block, (ad.add (k * 4)).off + 3, none⟩ = some (.int .i64 p.points) := by
          intro w' hb
          obtain ⟨ad1, p1, ha1, q1, _, _, y0, y1, y2, y3⟩ := bd_at (H.out.keep hb) hlt
          injection ha1 with ha1
          subst ha1
          obtain rfl : p = p1 := by have := HQ.out; rw [q1] at this; injection this with this; exact this.symm
          exact ⟨y0, y1, y2, y3⟩
        have BR := Lib.hid bridge
        clear bridge
        by_cases hs : p.name ∈ MR.names L k
        · have G := Lib.hid (HST.out 7 (MR.bdE_seen HNM.out hs) (by decide))
          have hne : j ≠ k := fun e => (MR.find_seen HQ.out).2 hs (by rw [HJ.out, e])
          have hne' : ((j : Int) != (k : Int)) = true := bne_iff_ne.2 (by omega)
          clear hs HST HU HQ HNM HJ x1 x2 x3
          obtain ⟨pn, ps, pr, pp⟩ := p
          simp only at *
          generalize str pn = s at *
          go_wp2_with fail
          refine (NA.out _).mono ?_
          rintro e w1 ⟨rfl, hb⟩
          have B1 := Lib.hid (HB.out.trans (hb.mono HB.out.size))
          obtain ⟨y0, y1, y2, y3⟩ := BR.out w1 B1.out
          clear hb x0 NA
          go_wp2_with fail
          refine (FA2.out _ B1.out).mono ?_
          rintro e w2 ⟨rfl, hb⟩
          have B2 := Lib.hid (B1.out.trans (hb.mono B1.out.size))
          clear hb
          go_wp2
          go_ret
          exact ⟨G.out, B2.out⟩
        · have hje : j = k := by
            apply Classical.byContradiction
            intro hne
            exact hs ((MR.find_seen HQ.out).1 (fun e => hne (by rw [HJ.out] at e; injection e)))
          subst hje
          have hne' : ((j : Int) != (j : Int)) = false := by simp
          by_cases ho : p.ok
          · have G := Lib.hid (HU.out.step HQ.out (MR.bdE_ok HNM.out hs ho))
            obtain ⟨⟨o1, o2⟩, ⟨o3, o4⟩, o5, o6⟩ := ho
            clear hs HST HU HQ HNM HJ x1 x2 x3
            obtain ⟨pn, ps, pr, pp⟩ := p
            simp only at *
            generalize str pn = s at *
            have d1 : decide (ps < 0) = false := decide_eq_false (by omega)
            have d2 : decide (4 < ps) = false := decide_eq_false (by omega)
            have d3 : decide (pr < 0) = false := decide_eq_false (by omega)
            have d4 : decide (1000000 < pr) = false := decide_eq_false (by omega)
            have d5 : decide (pp < 0) = false := decide_eq_false (by omega)
            have d6 : decide (24000 < pp) = false := decide_eq_false (by omega)
            go_wp2_with fail
            refine (NA.out _).mono ?_
            rintro e w1 ⟨rfl, hb⟩
            have B1 := Lib.hid (HB.out.trans (hb.mono HB.out.size))
            obtain ⟨y0, y1, y2, y3⟩ := BR.out w1 B1.out
            clear hb x0 NA
            go_wp2_with fail
            refine (FA2.out _ B1.out).mono ?_
            rintro e w2 ⟨rfl, hb⟩
            have B2 := Lib.hid (B1.out.trans (hb.mono B1.out.size))
            obtain ⟨z0, z1, z2, z3⟩ := BR.out w2 B2.out
            clear hb y0 y1 y2 y3 FA2
            go_wp2
            go_roundw
            case rel => exact ⟨j + 1, by omega, by go_num, G, B2⟩
            case measure => simp [intOf]; omega
          · have G := Lib.hid (HST.out 4 (MR.bdE_range HNM.out hs ho) (by decide))
            have HC := Lib.hid (MR.not_ok ho)
            clear hs ho HST HU HQ HNM HJ x1 x2 x3
            obtain ⟨pn, ps, pr, pp⟩ := p
            simp only at *
            generalize str pn = s at *
            go_wp2_with fail
            refine (NA.out _).mono ?_
            rintro e w1 ⟨rfl, hb⟩
            have B1 := Lib.hid (HB.out.trans (hb.mono HB.out.size))
            obtain ⟨y0, y1, y2, y3⟩ := BR.out w1 B1.out
            clear hb x0 NA
            go_wp2_with fail
            refine (FA2.out _ B1.out).mono ?_
            rintro e w2 ⟨rfl, hb⟩
            have B2 := Lib.hid (B1.out.trans (hb.mono B1.out.size))
            obtain ⟨z0, z1, z2, z3⟩ := BR.out w2 B2.out
            clear hb y0 y1 y2 y3 FA2
            rcases HC.out with c1 | ⟨c1, c2⟩ | ⟨c1, c2, c3⟩ | ⟨c1, c2, c3, c4⟩ | ⟨c1, c2, c3, c4, c5⟩ | ⟨c1, c2, c3, c4, c5, c6⟩
            all_goals
              go_wp2
              go_ret
              exact ⟨G.out, B2.out⟩
    · have G := Lib.hid (ret_int (k := .i64) (show 0 = MR.chkL L by rw [HM.out, HU.out.fin (by rw [HL.out]; omega)]))
      go_wp2
      go_ret
      exact ⟨G.out, HB.out⟩
end Go.Proofs.YtigfgeanofccgaaGreatDoor
