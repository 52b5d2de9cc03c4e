/- LName, CPrim, CSup, CCheck, CName, joined: no claim of its own. -/
import Derived.Test.YtcokplikmjegcaaGreatDoorLOne
import Derived.Test.YtcokplikmjegcaaGreatDoorJF
import Derived.Test.YtcokplikmjegcaaGreatDoorJB
import Derived.Lib.QuietBelow
namespace Go.Proofs.YtcokplikmjegcaaGreatDoor
open Go.RowKit
theorem nameB_long {s : ByteArray} (h : 12 < s.size) : nameB s.data.toList = false := by
  have hl := size_list s
  cases e : s.data.toList with
  | nil => rfl
  | cons c r =>
    rw [e] at hl
    show (decide ((c :: r).length ≤ 12) && _) = false
    rw [decide_eq_false (by omega)]; rfl
theorem nameB_eq {s : ByteArray} (h0 : 0 < s.size) (h : ¬ 12 < s.size) : nameB s.data.toList = (letterN (s[0]).toNat && decide (fits partN s.data.toList = s.data.toList)) := by
  have hl := size_list s
  have e := list_head s h0
  rw [e] at hl ⊢
  show (decide (_ ≤ 12) && _) = _
  rw [decide_eq_true (by omega), Bool.true_and]
theorem empty_of {s : ByteArray} (h : s.size = 0) : s = ⟨#[]⟩ := bytes_eq _ _ (List.eq_nil_of_length_eq_zero (by rw [size_list]; exact h))
theorem ne_empty {s : ByteArray} (h : 0 < s.size) : s.toList ≠ [] := by
  rw [ByteArray.toList_eq]
  intro e
  have h2 := congrArg List.length e
  rw [size_list] at h2
  have h3 : s.size = 0 := h2
  omega
set_option maxRecDepth 100000 in
set_option maxHeartbeats 2000000 in
theorem isName_any (s : ByteArray) (hs : s.size ≤ 9223372036854775807) (w : World) :
    Calls Tryz.prog 70 #[.string s] w (Gives (.bool (nameB s.data.toList)) w) := by
  by_cases h0 : 0 < s.size
  · have n1 : s.toList.isEmpty = false := by cases h : s.toList with | nil => exact absurd h (ne_empty h0) | cons _ _ => rfl
    have n2 : (s.toList == []) = false := beq_eq_false_iff_ne.2 (ne_empty h0)
    by_cases h12 : 12 < s.size
    · have E := Lib.hid (nameB_long h12)
      go_enter Tryz.func70, Tryz.ntmps70
      go_wp2
      go_ret
      exact ⟨by rw [E.out]; rfl, Below.refl _ _⟩
    · have E := Lib.hid (nameB_eq h0 h12)
      have hr := (s[0]).toNat_lt
      have L := Lib.hid (fun w' => isLetter_any (s[0]).toNat w')
      have PW := Lib.hid (fun w' => prefix_part s hs w')
      cases hl : letterN (s[0]).toNat with
      | false =>
        rw [hl] at L E
        clear hl
        go_enter Tryz.func70, Tryz.ntmps70
        go_wp2_with (go_at_call 85; (with_reducible refine (L.out _).mono ?_); rintro e w' ⟨rfl, rfl⟩)
        go_ret
        exact ⟨by rw [E.out]; rfl, Below.refl _ _⟩
      | true =>
        rw [hl] at L E
        clear hl
        by_cases hf : fits partN s.data.toList = s.data.toList
        · have T : ((str (fits partN s.data.toList)).toList == s.toList) = true := test_yes (by rw [str_data]; exact hf)
          have E2 : Hid (nameB s.data.toList = true) := Lib.hid (by rw [E.out, decide_eq_true hf]; rfl)
          clear E hf
          generalize str (fits partN s.data.toList) = x at *
          go_enter Tryz.func70, Tryz.ntmps70
          go_wp2_with (first | (go_at_call 85; (with_reducible refine (L.out _).mono ?_); rintro e w' ⟨rfl, rfl⟩) | (go_at_call 87; (with_reducible refine (PW.out _).mono ?_); rintro e w1 ⟨rfl, hb⟩; have B1 := Lib.hid hb; clear hb))
          go_ret
          exact ⟨by rw [E2.out]; rfl, B1.out⟩
        · have T : ((str (fits partN s.data.toList)).toList == s.toList) = false := test_no (by rw [str_data]; exact hf)
          have E2 : Hid (nameB s.data.toList = false) := Lib.hid (by rw [E.out, decide_eq_false hf]; rfl)
          clear E hf
          generalize str (fits partN s.data.toList) = x at *
          go_enter Tryz.func70, Tryz.ntmps70
          go_wp2_with (first | (go_at_call 85; (with_reducible refine (L.out _).mono ?_); rintro e w' ⟨rfl, rfl⟩) | (go_at_call 87; (with_reducible refine (PW.out _).mono ?_); rintro e w1 ⟨rfl, hb⟩; have B1 := Lib.hid hb; clear hb))
          go_ret
          exact ⟨by rw [E2.out]; rfl, B1.out⟩
  · obtain rfl := empty_of (by omega : s.size = 0)
    go_enter Tryz.func70, Tryz.ntmps70
    go_wp2
    go_ret
    exact ⟨rfl, Below.refl _ _⟩
end Go.Proofs.YtcokplikmjegcaaGreatDoor
namespace Go.Proofs.YtcokplikmjegcaaGreatDoor
open Go.RowKit
open MC (Pr)
theorem cellsPs_take (l : List Pr) (k : Nat) : cellsPs (l.take k) = (cellsPs l).take (k * 5) := by
  by_cases hk : k ≤ l.length
  · have h := cellsPs_append (l.take k) (l.drop k)
    rw [List.take_append_drop] at h
    rw [h, List.take_left' (by rw [cellsPs_length, List.length_take]; omega)]
  · rw [List.take_of_length_le (by omega : l.length ≤ k), List.take_of_length_le (by rw [cellsPs_length]; omega)]
theorem Prs.take {w : World} {A : Option Addr} {n c : Nat} {l : List Pr} (h : Prs w A n c l) {k : Nat} (hk : k ≤ n) : Prs w A k c (l.take k) := by
  refine ⟨⟨by rw [cellsPs_length, List.length_take, h.len]; omega, fun hp => ?_⟩, by rw [List.length_take, h.len]; omega, by have := h.cap; omega, by have := h.few; omega, fun p hp => h.fine p (List.mem_of_mem_take hp)⟩
  obtain ⟨ad, e, hb, hc⟩ := h.reads.2 (by omega)
  refine ⟨ad, e, hb, fun j u hu => hc j u ?_⟩
  rw [cellsPs_take] at hu
  rw [List.getElem?_take] at hu
  split at hu
  · exact hu
  · cases hu
theorem fnd_seen {l : List Pr} {k : Nat} {m : List UInt8} (h : m ∈ MC.names l k) : ∃ j : Nat, fndV (MC.findL (l.take k) m) = .tuple #[.int .i64 (j : Int), .bool true] := by
  cases e : MC.findL (l.take k) m with
  | none => exact absurd h (MC.find_names.1 e)
  | some j => exact ⟨j, rfl⟩
theorem fnd_new {l : List Pr} {k : Nat} {m : List UInt8} (h : m ∉ MC.names l k) : fndV (MC.findL (l.take k) m) = .tuple #[.int .i64 0, .bool false] := by
  rw [MC.find_names.2 h]; rfl
set_option maxRecDepth 100000 in
set_option maxHeartbeats 4000000 in
theorem checkProduct_any (A : Option Addr) (n c k : Nat) (L : List Pr) (p : Pr) (hk : k ≤ n) (hf : p.name.length ≤ 9223372036854775807) (w : World) (h : Prs w A n c L) :
    Calls Tryz.prog 33 #[aggP p, .slice A k c] w (Gives (.int .i64 (MC.prE (MC.names L k) p)) w) := by
  have NA := Lib.hid (fun w' => isName_any (str p.name) (by rw [str_size]; exact hf) w')
  have FA := Lib.hid (fun w' (hb : Below w.heap.size w w') => find_any A k c (L.take k) p.name w' ((h.keep hb).take hk))
  clear h hf
  have HB := Lib.hid (below_new w (.cells #[.string (str p.name), .int .i64 p.supply, .int .i64 p.reserve, .int .i64 p.points, .int .i64 p.group] 71))
  unfold aggP
  cases hn : nameB p.name with
  | false =>
    have G := Lib.hid (ret_int (k := .i64) (MC.prE_name (seen := MC.names L k) hn).symm)
    rw [str_data, hn] at NA
    clear hn FA
    obtain ⟨pn, ps, pr, pp, pg⟩ := p
    simp only at *
    go_enter Tryz.func33, Tryz.ntmps33
    go_wp2_with fail
    refine (NA.out _).mono ?_
    rintro e w1 ⟨rfl, hb⟩
    have B1 := Lib.hid (HB.out.trans (hb.mono HB.out.size))
    clear hb
    go_wp2
    go_ret
    exact ⟨G.out, B1.out⟩
  | true =>
    rw [str_data, hn] at NA
    by_cases hs : p.name ∈ MC.names L k
    · have G := Lib.hid (ret_int (k := .i64) (MC.prE_seen hn hs).symm)
      obtain ⟨j, hj⟩ := fnd_seen hs
      have HJ := Lib.hid hj
      clear hn hs hj
      obtain ⟨pn, ps, pr, pp, pg⟩ := p
      simp only at *
      go_enter Tryz.func33, Tryz.ntmps33
      go_wp2_with fail
      refine (NA.out _).mono ?_
      rintro e w1 ⟨rfl, hb⟩
      have B1 := Lib.hid (HB.out.trans (hb.mono HB.out.size))
      have y0 : w1.cell? ⟨w.heap.size, 0, none⟩ = some (.string (str pn)) := by
        rw [hb.cell (by show _ < (w.alloc _).heap.size; simp)]; rw [cell_of_row _ _ _ _ _ _ (heap_new w _)]; rfl
      clear hb
      go_wp2_with fail
      refine (FA.out _ B1.out).mono ?_
      rw [HJ.out]
      rintro e w2 ⟨rfl, hb⟩
      have B2 := Lib.hid (B1.out.trans (hb.mono B1.out.size))
      clear hb B1
      go_wp2
      go_ret
      exact ⟨G.out, B2.out⟩
    · have hj := fnd_new hs
      have HJ := Lib.hid hj
      by_cases ho : p.ok
      · have G := Lib.hid (ret_int (k := .i64) (MC.prE_ok hn hs ho).symm)
        obtain ⟨⟨o1, o2⟩, ⟨o3, o4⟩, ⟨o5, o6⟩, o7, o8⟩ := ho
        clear hn hs hj
        obtain ⟨pn, ps, pr, pp, pg⟩ := p
        simp only at *
        have d1 : decide (ps < 1) = false := decide_eq_false (by omega)
        have d2 : decide (4 < ps) = false := decide_eq_false (by omega)
        have d3 : decide (pr < 0) = false := decide_eq_false (by omega)
        have d4 : decide (1000000 < pr) = false := decide_eq_false (by omega)
        have d5 : decide (pp < 0) = false := decide_eq_false (by omega)
        have d6 : decide (1000 < pp) = false := decide_eq_false (by omega)
        have d7 : decide (pg < 0) = false := decide_eq_false (by omega)
        have d8 : decide (4 < pg) = false := decide_eq_false (by omega)
        go_enter Tryz.func33, Tryz.ntmps33
        go_wp2_with fail
        refine (NA.out _).mono ?_
        rintro e w1 ⟨rfl, hb⟩
        have B1 := Lib.hid (HB.out.trans (hb.mono HB.out.size))
        have K1 := Lib.hid ((hb.block w.heap.size (by show _ < (w.alloc _).heap.size; simp)).trans (heap_new w _))
        have y0 : w1.cell? ⟨w.heap.size, 0, none⟩ = some (.string (str pn)) := by rw [cell_of_row _ _ _ _ _ _ K1.out]; rfl
        clear hb
        go_wp2_with fail
        refine (FA.out _ B1.out).mono ?_
        rw [HJ.out]
        rintro e w2 ⟨rfl, hb⟩
        have B2 := Lib.hid (B1.out.trans (hb.mono B1.out.size))
        have K2 := (hb.block w.heap.size (by exact (Array.getElem?_eq_some_iff.1 K1.out).1)).trans K1.out
        have y1 : w2.cell? ⟨w.heap.size, 1, none⟩ = some (.int .i64 ps) := by rw [cell_of_row _ _ _ _ _ _ K2]; rfl
        have y2 : w2.cell? ⟨w.heap.size, 2, none⟩ = some (.int .i64 pr) := by rw [cell_of_row _ _ _ _ _ _ K2]; rfl
        have y3 : w2.cell? ⟨w.heap.size, 3, none⟩ = some (.int .i64 pp) := by rw [cell_of_row _ _ _ _ _ _ K2]; rfl
        have y4 : w2.cell? ⟨w.heap.size, 4, none⟩ = some (.int .i64 pg) := by rw [cell_of_row _ _ _ _ _ _ K2]; rfl
        clear hb B1 y0 K1 K2
        go_wp2
        go_ret
        exact ⟨G.out, B2.out⟩
      · have G := Lib.hid (ret_int (k := .i64) (MC.prE_range hn hs ho).symm)
        have hcase : p.supply < 1 ∨ (¬ p.supply < 1 ∧ 4 < p.supply) ∨ (¬ p.supply < 1 ∧ ¬ 4 < p.supply ∧ p.reserve < 0) ∨ (¬ p.supply < 1 ∧ ¬ 4 < p.supply ∧ ¬ p.reserve < 0 ∧ 1000000 < p.reserve) ∨
            (¬ p.supply < 1 ∧ ¬ 4 < p.supply ∧ ¬ p.reserve < 0 ∧ ¬ 1000000 < p.reserve ∧ p.points < 0) ∨ (¬ p.supply < 1 ∧ ¬ 4 < p.supply ∧ ¬ p.reserve < 0 ∧ ¬ 1000000 < p.reserve ∧ ¬ p.points < 0 ∧ 1000 < p.points) ∨
            (¬ p.supply < 1 ∧ ¬ 4 < p.supply ∧ ¬ p.reserve < 0 ∧ ¬ 1000000 < p.reserve ∧ ¬ p.points < 0 ∧ ¬ 1000 < p.points ∧ p.group < 0) ∨ (¬ p.supply < 1 ∧ ¬ 4 < p.supply ∧ ¬ p.reserve < 0 ∧ ¬ 1000000 < p.reserve ∧ ¬ p.points < 0 ∧ ¬ 1000 < p.points ∧ ¬ p.group < 0 ∧ 4 < p.group) := by
          unfold Pr.ok at ho
          omega
        have HC := Lib.hid hcase
        clear hn hs hj ho hcase
        obtain ⟨pn, ps, pr, pp, pg⟩ := p
        simp only at *
        go_enter Tryz.func33, Tryz.ntmps33
        go_wp2_with fail
        refine (NA.out _).mono ?_
        rintro e w1 ⟨rfl, hb⟩
        have B1 := Lib.hid (HB.out.trans (hb.mono HB.out.size))
        have K1 := Lib.hid ((hb.block w.heap.size (by show _ < (w.alloc _).heap.size; simp)).trans (heap_new w _))
        have y0 : w1.cell? ⟨w.heap.size, 0, none⟩ = some (.string (str pn)) := by rw [cell_of_row _ _ _ _ _ _ K1.out]; rfl
        clear hb
        go_wp2_with fail
        refine (FA.out _ B1.out).mono ?_
        rw [HJ.out]
        rintro e w2 ⟨rfl, hb⟩
        have B2 := Lib.hid (B1.out.trans (hb.mono B1.out.size))
        have K2 := (hb.block w.heap.size (by exact (Array.getElem?_eq_some_iff.1 K1.out).1)).trans K1.out
        have y1 : w2.cell? ⟨w.heap.size, 1, none⟩ = some (.int .i64 ps) := by rw [cell_of_row _ _ _ _ _ _ K2]; rfl
        have y2 : w2.cell? ⟨w.heap.size, 2, none⟩ = some (.int .i64 pr) := by rw [cell_of_row _ _ _ _ _ _ K2]; rfl
        have y3 : w2.cell? ⟨w.heap.size, 3, none⟩ = some (.int .i64 pp) := by rw [cell_of_row _ _ _ _ _ _ K2]; rfl
        have y4 : w2.cell? ⟨w.heap.size, 4, none⟩ = some (.int .i64 pg) := by rw [cell_of_row _ _ _ _ _ _ K2]; rfl
        clear hb B1 y0 K1 K2
        rcases HC.out with c1 | ⟨c1, c2⟩ | ⟨c1, c2, c3⟩ | ⟨c1, c2, c3, c4⟩ | ⟨c1, c2, c3, c4, c5⟩ | ⟨c1, c2, c3, c4, c5, c6⟩ | ⟨c1, c2, c3, c4, c5, c6, c7⟩ | ⟨c1, c2, c3, c4, c5, c6, c7, c8⟩
        all_goals
          go_wp2
          go_ret
          exact ⟨G.out, B2.out⟩
end Go.Proofs.YtcokplikmjegcaaGreatDoor
namespace Go.Proofs.YtcokplikmjegcaaGreatDoor
open Go.RowKit
open MC (Pr)
theorem Prs.empty {w : World} {n c : Nat} {l : List Pr} (h : Prs w none n c l) : n = 0 := by
  rcases Nat.eq_zero_or_pos n with e | e
  · exact e
  · obtain ⟨ad, ea, _⟩ := h.reads.2 e
    cases ea
/-- What has been done when k supplies are done. -/
structure Supd (B : Nat) (wo : World) (L : List Pr) (wr : World) (k : Nat) : Prop where
  here : BB wr (B + 1) 24 (MC.supU L k)
  res : BB wr B 24 [0, 0, 0, 0, 0, 0]
  below : Below wo.heap.size wo wr
  base : wo.heap.size ≤ B
theorem sup_start (w : World) (L : List Pr) : Supd w.heap.size w L ((w.alloc (.cells #[.int .i64 0, .int .i64 0, .int .i64 0, .int .i64 0, .int .i64 0, .int .i64 0] 24)).alloc (.cells #[.int .i64 0, .int .i64 0, .int .i64 0, .int .i64 0, .int .i64 0, .int .i64 0] 24)) 0 :=
  ⟨(two_boxes w _ _ 0 0 0 0 0 0 0 0 0 0 0 0).2, (two_boxes w _ _ 0 0 0 0 0 0 0 0 0 0 0 0).1, below_two _ _ _, Nat.le_refl _⟩
theorem Supd.alloc {B : Nat} {wo wr : World} {L : List Pr} {k : Nat} (h : Supd B wo L wr k) (o : Obj) : Supd B wo L (wr.alloc o) k :=
  ⟨h.here.alloc o, h.res.alloc o, h.below.trans ((below_new wr o).mono h.below.size), h.base⟩
theorem Supd.step {B : Nat} {wo wr : World} {L : List Pr} {k : Nat} {p : Pr} (h : Supd B wo L wr k) (hk : k < 6) (hp : L[k]? = some p) : Supd B wo L (wr.setCell ⟨B + 1, k, none⟩ (.int .i64 p.supply)) (k + 1) := by
  refine ⟨?_, h.res.other _ (by omega), h.below.setCell (p := ⟨B + 1, k, none⟩) (by show _ ≤ B + 1; have := h.base; omega) _, h.base⟩
  have := h.here.set k p.supply
  rwa [MC.supU_step hp hk] at this
set_option maxRecDepth 100000 in
set_option maxHeartbeats 2000000 in
theorem supply_any (A : Option Addr) (n c : Nat) (L : List Pr) (w : World) (h : Prs w A n c L) :
    Calls Tryz.prog 35 #[.slice A n c] w (Gives (aggB (MC.supB L)) w) := by
  have hn := h.few
  have hc := h.cap
  have HL := Lib.hid h.len
  have H := Lib.hid h
  have HS := Lib.hid (sup_start w L)
  clear h
  go_enter Tryz.func35, Tryz.ntmps35
  go_wp2
  case inr =>
    obtain ⟨W, hW⟩ : ∃ W, W = ((w.alloc (.cells #[.int .i64 0, .int .i64 0, .int .i64 0, .int .i64 0, .int .i64 0, .int .i64 0] 24)).alloc (.cells #[.int .i64 0, .int .i64 0, .int .i64 0, .int .i64 0, .int .i64 0, .int .i64 0] 24)) := ⟨_, rfl⟩
    rw [← hW] at HS ⊢
    clear hW
    go_loopw [12] (fun i wr => ∃ (k : Nat), k ≤ n ∧ i = .int .i64 k ∧ Hid (Supd w.heap.size w L wr k)) (fun i _ => n - (intOf i).toNat)
    case atStart => exact ⟨0, by omega, rfl, HS⟩
    case round =>
      rename_i _ wr
      obtain ⟨k, hk, rfl, HD⟩ := hrel
      clear HS
      by_cases hlt : k < n
      · obtain ⟨ad, p, rfl, q1, hbk, x0, x1, x2, x3, x4⟩ := (H.out.keep HD.out.below).at_ (k := k) (by omega)
        have hB := HD.out.here.lt
        have g2 := HD.out.here.free k
        have hsz := HD.out.here.lt
        have c9 := HD.out.here.cell (k := k) (by omega)
        have G := Lib.hid ((HD.out.step (by omega) q1).alloc (.cells #[.string (str p.name), .int .i64 p.supply, .int .i64 p.reserve, .int .i64 p.points, .int .i64 p.group] 71))
        clear q1 hbk HD
        obtain ⟨pn, ps, pr, pp, pg⟩ := p
        simp only at *
        generalize str pn = s at *
        go_wp2
        go_roundw
        case rel => exact ⟨k + 1, by omega, by go_num, G⟩
        case measure => simp [intOf]; omega
      · have hkn : k = n := by omega
        subst hkn
        have HE := Lib.hid (MC.supU_end (l := L) (k := k) (.inl HL.out.symm) (by omega) (by rw [HL.out]; omega))
        obtain ⟨z0, z1, z2, z3, z4, z5, hz⟩ := six HD.out.here.2
        have hh := HD.out.here
        rw [hz] at hh HE
        obtain ⟨c0, c1, c2, c3, c4, c5⟩ := cells6 hh
        obtain ⟨r0, r1, r2, r3, r4, r5⟩ := cells6 HD.out.res
        obtain ⟨g0, g1, g2, g3, g4, g5⟩ := free6 HD.out.res
        have hsz := HD.out.res.lt
        have HBl := Lib.hid HD.out.below
        clear hz hh HD
        go_wp2
        refine bodyPost_ret (v := .agg #[.int .i64 z0, .int .i64 z1, .int .i64 z2, .int .i64 z3, .int .i64 z4, .int .i64 z5]) (by simp [results, Tryz.results35, go_sem, r0, r1, r2, r3, r4, r5]) rfl ⟨ret_agg (xs := [z0, z1, z2, z3, z4, z5]) HE.out, ?_⟩
        exact below_six HBl.out _ (by omega) _ _ _ _ _ _
  case inl =>
    obtain ⟨W, hW⟩ : ∃ W, W = ((w.alloc (.cells #[.int .i64 0, .int .i64 0, .int .i64 0, .int .i64 0, .int .i64 0, .int .i64 0] 24)).alloc (.cells #[.int .i64 0, .int .i64 0, .int .i64 0, .int .i64 0, .int .i64 0, .int .i64 0] 24)) := ⟨_, rfl⟩
    rw [← hW] at HS ⊢
    clear hW
    go_loopw [12] (fun i wr => ∃ (k : Nat), k ≤ 6 ∧ i = .int .i64 k ∧ Hid (Supd w.heap.size w L wr k)) (fun i _ => 6 - (intOf i).toNat)
    case atStart => exact ⟨0, by omega, rfl, HS⟩
    case round =>
      rename_i _ wr
      obtain ⟨k, hk, rfl, HD⟩ := hrel
      clear HS
      by_cases hlt : k < 6
      · obtain ⟨ad, p, rfl, q1, hbk, x0, x1, x2, x3, x4⟩ := (H.out.keep HD.out.below).at_ (k := k) (by omega)
        have hB := HD.out.here.lt
        have g2 := HD.out.here.free k
        have hsz := HD.out.here.lt
        have c9 := HD.out.here.cell (k := k) (by omega)
        have G := Lib.hid ((HD.out.step (by omega) q1).alloc (.cells #[.string (str p.name), .int .i64 p.supply, .int .i64 p.reserve, .int .i64 p.points, .int .i64 p.group] 71))
        clear q1 hbk HD
        obtain ⟨pn, ps, pr, pp, pg⟩ := p
        simp only at *
        generalize str pn = s at *
        go_wp2
        go_roundw
        case rel => exact ⟨k + 1, by omega, by go_num, G⟩
        case measure => simp [intOf]; omega
      · obtain rfl : k = 6 := by omega
        have HE := Lib.hid (MC.supU_end (l := L) (k := 6) (.inr rfl) (by omega) (by rw [HL.out]; omega))
        obtain ⟨z0, z1, z2, z3, z4, z5, hz⟩ := six HD.out.here.2
        have hh := HD.out.here
        rw [hz] at hh HE
        obtain ⟨c0, c1, c2, c3, c4, c5⟩ := cells6 hh
        obtain ⟨r0, r1, r2, r3, r4, r5⟩ := cells6 HD.out.res
        obtain ⟨g0, g1, g2, g3, g4, g5⟩ := free6 HD.out.res
        have hsz := HD.out.res.lt
        have HBl := Lib.hid HD.out.below
        clear hz hh HD
        go_wp2
        refine bodyPost_ret (v := .agg #[.int .i64 z0, .int .i64 z1, .int .i64 z2, .int .i64 z3, .int .i64 z4, .int .i64 z5]) (by simp [results, Tryz.results35, go_sem, r0, r1, r2, r3, r4, r5]) rfl ⟨ret_agg (xs := [z0, z1, z2, z3, z4, z5]) HE.out, ?_⟩
        exact below_six HBl.out _ (by omega) _ _ _ _ _ _
end Go.Proofs.YtcokplikmjegcaaGreatDoor
namespace Go.Proofs.YtcokplikmjegcaaGreatDoor
open Go.RowKit
open MC (Pr)
theorem cnt_ok {l : List Pr} (ho : ∀ (k : Nat) (p : Pr), l[k]? = some p → p.ok) (h6 : l.length ≤ 6) : cntB (MC.supB l) = if 1024 < MC.many l then 0 else (MC.many l : Int) := by
  unfold cntB
  rw [if_pos (MC.supB_okB ho), MC.supB_P6 h6]
  by_cases h : 1024 < MC.many l
  · rw [if_neg (by omega), if_pos h]
  · rw [if_pos (by omega), if_neg h]
set_option maxRecDepth 100000 in
set_option maxHeartbeats 4000000 in
theorem check_any (A : Option Addr) (n c : Nat) (L : List Pr) (w : World) (h : Prs w A n c L) :
    Calls Tryz.prog 15 #[.slice A n c] w (Gives (.int .i64 (MC.chkL L)) w) := by
  have hn := h.few
  have hc := h.cap
  have HL := Lib.hid h.len
  have H := Lib.hid h
  clear h
  by_cases h0 : n = 0
  · have G := Lib.hid (ret_int (k := .i64) (MC.chk_short (l := L) (by rw [HL.out]; exact h0)).symm)
    subst h0
    go_enter Tryz.func15, Tryz.ntmps15
    go_wp2
    go_ret
    exact ⟨G.out, Below.refl _ _⟩
  by_cases h6 : 6 < n
  · have G := Lib.hid (ret_int (k := .i64) (MC.chk_long (l := L) (by rw [HL.out]; exact h6)).symm)
    go_enter Tryz.func15, Tryz.ntmps15
    go_wp2
    go_ret
    exact ⟨G.out, Below.refl _ _⟩
  have HS := Lib.hid (fun w' (hb : Below w.heap.size w w') => supply_any A n c L w' (H.out.keep hb))
  have hmo : Tryz.prog.follows .mixedOrders = true := by kernel_rfl
  have e0 : ((n : Int) == 0) = false := beq_eq_false_iff_ne.2 (by omega)
  have e6 : decide (6 < (n : Int)) = false := decide_eq_false (by omega)
  go_enter Tryz.func15, Tryz.ntmps15
  go_wp2
  go_loopw [16] (fun i wr => ∃ k : Nat, k ≤ n ∧ i = .int .i64 k ∧ Hid (MC.Upto L k) ∧ Hid (Below w.heap.size w wr)) (fun i _ => n - (intOf i).toNat)
  case atStart => exact ⟨0, Nat.zero_le _, rfl, Lib.hid (MC.Upto.start L), Lib.hid (Below.refl _ _)⟩
  case round =>
    rename_i _ wr
    obtain ⟨k, hk, rfl, HU, HB⟩ := hrel
    by_cases hlt : k < n
    · obtain ⟨ad, p, rfl, q1, hbk, x0, x1, x2, x3, x4⟩ := (H.out.keep HB.out).at_ hlt
      have HQ := Lib.hid q1
      have hfine : p.name.length ≤ 9223372036854775807 := H.out.fine p (List.mem_of_getElem? q1)
      have B1 := Lib.hid (HB.out.trans ((below_new wr (.cells #[.string (str p.name), .int .i64 p.supply, .int .i64 p.reserve, .int .i64 p.points, .int .i64 p.group] 71)).mono HB.out.size))
      have PV := Lib.hid (heap_new wr (.cells #[.string (str p.name), .int .i64 p.supply, .int .i64 p.reserve, .int .i64 p.points, .int .i64 p.group] 71))
      have CP := Lib.hid (fun w' (hb : Below w.heap.size w w') => checkProduct_any (some ad) n c k L p hk hfine w' (H.out.keep hb))
      have HE : Hid (MC.prE (MC.names L k) p = MC.prE (MC.names L k) p) := Lib.hid rfl
      obtain ⟨er, her⟩ : ∃ er, MC.prE (MC.names L k) p = er := ⟨_, rfl⟩
      have HR := Lib.hid her
      rw [her] at CP
      clear her HE q1 hbk hfine
      obtain ⟨pn, ps, pr, pp, pg⟩ := p
      unfold aggP at CP
      simp only at *
      generalize str pn = s at *
      go_wp2_with fail
      obtain ⟨X, hX⟩ : ∃ X, X = wr.alloc (.cells #[.string s, .int .i64 ps, .int .i64 pr, .int .i64 pp, .int .i64 pg] 71) := ⟨_, rfl⟩
      rw [← hX] at B1 PV ⊢
      clear hX x0 x1 x2 x3 x4
      have k0 := cell_regrown (show X.cell? ⟨wr.heap.size, 0, none⟩ = some (.string s) by rw [cell_of_row _ _ _ _ _ _ PV.out]; rfl)
      have k1 := cell_regrown (show X.cell? ⟨wr.heap.size, 1, none⟩ = some (.int .i64 ps) by rw [cell_of_row _ _ _ _ _ _ PV.out]; rfl)
      have k2 := cell_regrown (show X.cell? ⟨wr.heap.size, 2, none⟩ = some (.int .i64 pr) by rw [cell_of_row _ _ _ _ _ _ PV.out]; rfl)
      have k3 := cell_regrown (show X.cell? ⟨wr.heap.size, 3, none⟩ = some (.int .i64 pp) by rw [cell_of_row _ _ _ _ _ _ PV.out]; rfl)
      have k4 := cell_regrown (show X.cell? ⟨wr.heap.size, 4, none⟩ = some (.int .i64 pg) by rw [cell_of_row _ _ _ _ _ _ PV.out]; rfl)
      have cS := fun d os => Calls.regrown_of (CP.out (Go.Sort.grow (redrawn X d) os) (B1.out.trans ((below_regrown X d os).mono B1.out.size)))
      refine wp_region_quiet_below hmo (by kernel_rfl) ?_
      have hkc : k ≤ c := by omega
      have hkc' : (k : Int) ≤ (c : Int) := by omega
      quiet_step (exact cS _ _)
      quiet_step (exact cS _ _)
      quiet_step (exact cS _ _)
      quiet_step (exact cS _ _)
      quiet_step (exact cS _ _)
      quiet_step (exact cS _ _)
      refine wpQuiet_nil ?_
      rintro _ ⟨pz, rfl⟩
      have B2 := Lib.hid (B1.out.trans ((below_regrown X pz.d pz.os).mono B1.out.size))
      clear cS k0 k1 k2 k3 k4 CP
      generalize Go.Sort.grow (redrawn X pz.d) pz.os = V at *
      by_cases he : er = 0
      · subst he
        have G := Lib.hid (HU.out.step HQ.out HR.out)
        go_wp2
        go_roundw
        case rel => exact ⟨k + 1, by omega, by go_num, G, B2⟩
        case measure => simp [intOf]; omega
      · have hb : (er != 0) = true := bne_iff_ne.2 he
        have G := Lib.hid (ret_int (k := .i64) (show er = MC.chkL L by rw [HU.out.stop (by rw [HL.out]; exact h0) (by rw [HL.out]; omega) HQ.out (by rw [HR.out]; exact he), HR.out]))
        go_wp2
        go_ret
        exact ⟨G.out, B2.out⟩
    · obtain rfl : k = n := by omega
      have HU' := HU.out
      rw [← HL.out] at HU'
      have HF := HU'.fin (by rw [HL.out]; exact h0) (by rw [HL.out]; omega)
      have HC := cnt_ok HU'.each (by rw [HL.out]; omega)
      obtain ⟨z0, z1, z2, z3, z4, z5, hz⟩ := six (MC.supB_length L)
      rw [hz] at HC HS
      rw [aggB_lit] at HS
      have hcall : ∀ w', Calls Tryz.prog 34 #[.agg #[.int .i64 z0, .int .i64 z1, .int .i64 z2, .int .i64 z3, .int .i64 z4, .int .i64 z5]] w' (Gives (.int .i64 (cntB [z0, z1, z2, z3, z4, z5])) w') := fun w' => count_any z0 z1 z2 z3 z4 z5 w'
      rw [HC] at hcall
      have CT := Lib.hid hcall
      clear hcall HC HU' HU hz
      by_cases hm : 1024 < MC.many L
      · rw [if_pos hm] at HF CT
        have G := Lib.hid (ret_int (k := .i64) HF.symm)
        clear HF hm
        go_wp2_with fail
        refine (HS.out _ HB.out).mono ?_
        rintro e w1 ⟨rfl, hb⟩
        have B1 := Lib.hid (HB.out.trans (hb.mono HB.out.size))
        clear hb
        go_wp2_with fail
        refine (CT.out _).mono ?_
        rintro e w2 ⟨rfl, hb⟩
        have B2 := Lib.hid (B1.out.trans (hb.mono B1.out.size))
        clear hb
        go_wp2
        go_ret
        exact ⟨G.out, B2.out⟩
      · rw [if_neg hm] at HF CT
        have hp := MC.many_pos L
        have hne : ((MC.many L : Int) == 0) = false := beq_eq_false_iff_ne.2 (by omega)
        have G := Lib.hid (ret_int (k := .i64) HF.symm)
        clear HF hm hp
        generalize (MC.many L : Int) = M at *
        go_wp2_with fail
        refine (HS.out _ HB.out).mono ?_
        rintro e w1 ⟨rfl, hb⟩
        have B1 := Lib.hid (HB.out.trans (hb.mono HB.out.size))
        clear hb
        go_wp2_with fail
        refine (CT.out _).mono ?_
        rintro e w2 ⟨rfl, hb⟩
        have B2 := Lib.hid (B1.out.trans (hb.mono B1.out.size))
        clear hb
        go_wp2
        go_ret
        exact ⟨G.out, B2.out⟩
end Go.Proofs.YtcokplikmjegcaaGreatDoor
namespace Go.Proofs.YtcokplikmjegcaaGreatDoor
open Go.RowKit
theorem fits_self {B : Nat → Bool} : ∀ {l : List UInt8}, fits B l = l ↔ ∀ c ∈ l, B c.toNat = true
  | [] => by simp [fits]
  | c :: r => by
    cases h : B c.toNat with
    | true => rw [fits_cons h]; simp [h, fits_self (l := r)]
    | false =>
      have : fits B (c :: r) = [] := List.takeWhile_cons_of_neg (by simp [h])
      rw [this]; simp [h]
theorem name_iff {l : List UInt8} : nameB l = true ↔ l.length ≠ 0 ∧ l.length ≤ 12 ∧ ∀ (j : Nat) (c : UInt8), l[j]? = some c → partN c.toNat = true ∧ (j = 0 → letterN c.toNat = true) := by
  cases l with
  | nil => simp [nameB]
  | cons c r =>
    have e : nameB (c :: r) = (decide ((c :: r).length ≤ 12) && (letterN c.toNat && decide (fits partN (c :: r) = c :: r))) := rfl
    rw [e, Bool.and_eq_true, Bool.and_eq_true, decide_eq_true_eq, decide_eq_true_eq, fits_self]
    constructor
    · rintro ⟨h1, h2, h3⟩
      refine ⟨by simp, h1, fun j d hj => ⟨h3 d (List.mem_of_getElem? hj), fun h0 => ?_⟩⟩
      subst h0
      simp at hj
      subst hj; exact h2
    · rintro ⟨_, h1, h2⟩
      refine ⟨h1, (h2 0 c rfl).2 rfl, fun d hd => ?_⟩
      obtain ⟨j, hj, e⟩ := List.mem_iff_getElem.1 hd
      exact (h2 j d (by rw [List.getElem?_eq_getElem hj, e])).1
theorem name_stop {s : ByteArray} {k : Nat} (hk : k < s.size) (h : ¬ (partN (s[k]).toNat = true ∧ (k = 0 → letterN (s[k]).toNat = true))) : nameB s.data.toList = false := by
  cases e : nameB s.data.toList with
  | false => rfl
  | true => exact absurd ((name_iff.1 e).2.2 k s[k] (at_list s k hk)) h
theorem name_next {s : ByteArray} {k : Nat} (hk : k < s.size) (h : ∀ (j : Nat) (c : UInt8), j < k → s.data.toList[j]? = some c → partN c.toNat = true ∧ (j = 0 → letterN c.toNat = true)) (h1 : partN (s[k]).toNat = true ∧ (k = 0 → letterN (s[k]).toNat = true)) :
    ∀ (j : Nat) (c : UInt8), j < k + 1 → s.data.toList[j]? = some c → partN c.toNat = true ∧ (j = 0 → letterN c.toNat = true) := by
  intro j c hj hc
  rcases Nat.lt_or_ge j k with g | g
  · exact h j c g hc
  · obtain rfl : j = k := by omega
    rw [at_list s j hk] at hc
    injection hc with hc
    subst hc; exact h1
theorem partN_yes {n : Nat} : partN n = true ↔ (97 ≤ n ∧ n ≤ 122) ∨ (48 ≤ n ∧ n ≤ 57) ∨ n = 95 := by
  unfold partN
  rw [Bool.or_eq_true, Bool.or_eq_true, letterN_yes, digitN_yes, decide_eq_true_eq]
theorem ret_b {a b : Bool} (h : a = b) : Ending.returned (.bool a) = .returned (.bool b) := by rw [h]
set_option maxRecDepth 100000 in
set_option maxHeartbeats 4000000 in
theorem rname8_any (s : ByteArray) (hs : s.size ≤ 9223372036854775807) (w : World) :
    Calls Tryz.prog 48 #[.string s] w (Gives (.bool (nameB s.data.toList)) w) := by
  by_cases h0 : 0 < s.size
  · by_cases h12 : 12 < s.size
    · have G := Lib.hid (ret_b (nameB_long h12).symm)
      have d1 : decide ((s.size : Int) < 1) = false := decide_eq_false (by omega)
      have d2 : decide (12 < (s.size : Int)) = true := decide_eq_true (by omega)
      go_enter Tryz.func48, Tryz.ntmps48
      go_wp2
      go_ret
      exact ⟨G.out, Below.refl _ _⟩
    · have d1 : decide ((s.size : Int) < 1) = false := decide_eq_false (by omega)
      have d2 : decide (12 < (s.size : Int)) = false := decide_eq_false (by omega)
      go_enter Tryz.func48, Tryz.ntmps48
      go_wp2
      go_loop [3, 4] (fun i _ => ∃ k : Nat, k ≤ s.size ∧ i = .int .i64 k ∧ Hid (∀ (j : Nat) (c : UInt8), j < k → s.data.toList[j]? = some c → partN c.toNat = true ∧ (j = 0 → letterN c.toNat = true))) (fun i _ => s.size - (intOf i).toNat)
      case atStart => exact ⟨0, Nat.zero_le _, rfl, Lib.hid (fun j _ hj => absurd hj (Nat.not_lt_zero _))⟩
      case round =>
        obtain ⟨k, hk, rfl, HN⟩ := hrel
        by_cases hlt : k < s.size
        · have NX := Lib.hid (name_next hlt HN.out)
          have ST := Lib.hid (name_stop hlt)
          clear HN
          have H8 := Lib.hid (s[k]).toNat_lt
          have hcase : ((97 ≤ (s[k]).toNat ∧ (s[k]).toNat ≤ 122) ∨ (¬ (97 ≤ (s[k]).toNat ∧ (s[k]).toNat ≤ 122) ∧ k = 0) ∨ (0 < k ∧ (s[k]).toNat = 95) ∨ (0 < k ∧ (s[k]).toNat < 48) ∨ (0 < k ∧ 57 < (s[k]).toNat ∧ (s[k]).toNat ≠ 95 ∧ ¬ (97 ≤ (s[k]).toNat ∧ (s[k]).toNat ≤ 122)) ∨ (0 < k ∧ 48 ≤ (s[k]).toNat ∧ (s[k]).toNat ≤ 57)) := by omega
          rcases hcase with hc | ⟨hc, hk0⟩ | ⟨hk0, hc⟩ | ⟨hk0, hc⟩ | ⟨hk0, hc, hc5, hcl⟩ | ⟨hk0, hc, hc2⟩
          · have G := Lib.hid (NX.out ⟨part_of_letter (letterN_yes.2 hc), fun _ => letterN_yes.2 hc⟩)
            clear NX ST
            have a1 : decide (97 ≤ ((s[k]).toNat : Int)) = true := decide_eq_true (by omega)
            have a2 : decide (((s[k]).toNat : Int) ≤ 122) = true := decide_eq_true (by omega)
            go_wp2
            go_round
            case rel => exact ⟨k + 1, by omega, by go_num, G⟩
            case measure => simp [intOf]; omega
          · have G := Lib.hid (ret_b (ST.out (fun h => hc (letterN_yes.1 (h.2 hk0)))).symm)
            clear NX ST
            subst hk0
            by_cases h97 : 97 ≤ (s[0]).toNat
            · have a1 : decide (97 ≤ ((s[0]).toNat : Int)) = true := decide_eq_true (by omega)
              have a2 : decide (((s[0]).toNat : Int) ≤ 122) = false := decide_eq_false (by omega)
              go_wp2
              go_ret
              exact ⟨G.out, Below.refl _ _⟩
            · have a1 : decide (97 ≤ ((s[0]).toNat : Int)) = false := decide_eq_false (by omega)
              go_wp2
              go_ret
              exact ⟨G.out, Below.refl _ _⟩
          · have G := Lib.hid (NX.out ⟨partN_yes.2 (.inr (.inr hc)), fun h => absurd h (by omega)⟩)
            clear NX ST
            have k0 : ((k : Int) == 0) = false := beq_eq_false_iff_ne.2 (by omega)
            have a1 : decide (97 ≤ ((s[k]).toNat : Int)) = false := decide_eq_false (by omega)
            have a3 : (((s[k]).toNat : Int) != 95) = false := bne_eq_false_iff_eq.2 (by omega)
            go_wp2
            go_round
            case rel => exact ⟨k + 1, by omega, by go_num, G⟩
            case measure => simp [intOf]; omega
          · have G := Lib.hid (ret_b (ST.out (fun h => by have := partN_yes.1 h.1; omega)).symm)
            clear NX ST
            have k0 : ((k : Int) == 0) = false := beq_eq_false_iff_ne.2 (by omega)
            have a1 : decide (97 ≤ ((s[k]).toNat : Int)) = false := decide_eq_false (by omega)
            have a3 : (((s[k]).toNat : Int) != 95) = true := bne_iff_ne.2 (by omega)
            have a4 : decide (((s[k]).toNat : Int) < 48) = true := decide_eq_true (by omega)
            go_wp2
            go_ret
            exact ⟨G.out, Below.refl _ _⟩
          · have G := Lib.hid (ret_b (ST.out (fun h => by have := partN_yes.1 h.1; omega)).symm)
            clear NX ST
            have k0 : ((k : Int) == 0) = false := beq_eq_false_iff_ne.2 (by omega)
            have a3 : (((s[k]).toNat : Int) != 95) = true := bne_iff_ne.2 (by omega)
            have a4 : decide (((s[k]).toNat : Int) < 48) = false := decide_eq_false (by omega)
            have a5 : decide (57 < ((s[k]).toNat : Int)) = true := decide_eq_true (by omega)
            by_cases h97 : 97 ≤ (s[k]).toNat
            · have a1 : decide (97 ≤ ((s[k]).toNat : Int)) = true := decide_eq_true (by omega)
              have a2 : decide (((s[k]).toNat : Int) ≤ 122) = false := decide_eq_false (by omega)
              go_wp2
              go_ret
              exact ⟨G.out, Below.refl _ _⟩
            · have a1 : decide (97 ≤ ((s[k]).toNat : Int)) = false := decide_eq_false (by omega)
              go_wp2
              go_ret
              exact ⟨G.out, Below.refl _ _⟩
          · have G := Lib.hid (NX.out ⟨partN_yes.2 (.inr (.inl ⟨hc, hc2⟩)), fun h => absurd h (by omega)⟩)
            clear NX ST
            have k0 : ((k : Int) == 0) = false := beq_eq_false_iff_ne.2 (by omega)
            have a1 : decide (97 ≤ ((s[k]).toNat : Int)) = false := decide_eq_false (by omega)
            have a3 : (((s[k]).toNat : Int) != 95) = true := bne_iff_ne.2 (by omega)
            have a4 : decide (((s[k]).toNat : Int) < 48) = false := decide_eq_false (by omega)
            have a5 : decide (57 < ((s[k]).toNat : Int)) = false := decide_eq_false (by omega)
            go_wp2
            go_round
            case rel => exact ⟨k + 1, by omega, by go_num, G⟩
            case measure => simp [intOf]; omega
        · have G := Lib.hid (ret_b (show true = nameB s.data.toList from (name_iff.2 ⟨by rw [size_list]; omega, by rw [size_list]; omega, fun j c hj => HN.out j c (by have := (List.getElem?_eq_some_iff.1 hj).1; rw [size_list] at this; omega) hj⟩).symm))
          go_wp2
          go_ret
          exact ⟨G.out, Below.refl _ _⟩
  · obtain rfl := empty_of (by omega : s.size = 0)
    go_enter Tryz.func48, Tryz.ntmps48
    go_wp2
    go_ret
    exact ⟨rfl, Below.refl _ _⟩
end Go.Proofs.YtcokplikmjegcaaGreatDoor
