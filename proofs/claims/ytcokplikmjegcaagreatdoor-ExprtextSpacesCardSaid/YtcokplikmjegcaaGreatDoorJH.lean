/- CRCheck, MathV, CRSum, joined: no claim of its own. -/
import Derived.Test.YtcokplikmjegcaaGreatDoorJG
import Derived.Test.YtcokplikmjegcaaGreatDoorJC
import Derived.Test.YtcokplikmjegcaaGreatDoorJB
namespace Go.Proofs.YtcokplikmjegcaaGreatDoor
open Go.RowKit
open MC (Pr)
theorem not_ok {p : Pr} (ho : ¬ p.ok) : p.supply < 1 ∨ (¬ p.supply < 1 ∧ 4 < p.supply) ∨ (¬ p.supply < 1 ∧ ¬ 4 < p.supply ∧ p.reserve < 0) ∨ (¬ p.supply < 1 ∧ ¬ 4 < p.supply ∧ ¬ p.reserve < 0 ∧ 1000000 < p.reserve) ∨
    (¬ p.supply < 1 ∧ ¬ 4 < p.supply ∧ ¬ p.reserve < 0 ∧ ¬ 1000000 < p.reserve ∧ p.points < 0) ∨ (¬ p.supply < 1 ∧ ¬ 4 < p.supply ∧ ¬ p.reserve < 0 ∧ ¬ 1000000 < p.reserve ∧ ¬ p.points < 0 ∧ 1000 < p.points) ∨
    (¬ p.supply < 1 ∧ ¬ 4 < p.supply ∧ ¬ p.reserve < 0 ∧ ¬ 1000000 < p.reserve ∧ ¬ p.points < 0 ∧ ¬ 1000 < p.points ∧ p.group < 0) ∨ (¬ p.supply < 1 ∧ ¬ 4 < p.supply ∧ ¬ p.reserve < 0 ∧ ¬ 1000000 < p.reserve ∧ ¬ p.points < 0 ∧ ¬ 1000 < p.points ∧ ¬ p.group < 0 ∧ 4 < p.group) := by
  unfold Pr.ok at ho
  omega
set_option maxRecDepth 100000 in
set_option maxHeartbeats 8000000 in
theorem rcheck8_any (A : Option Addr) (n c : Nat) (L : List Pr) (w : World) (h : Prs w A n c L) :
    Calls Tryz.prog 22 #[.slice A n c] w (Gives (.int .i64 (MC.chkL L)) w) := by
  have hn := h.few
  have hc := h.cap
  have HL := Lib.hid h.len
  have H := Lib.hid h
  clear h
  by_cases h0 : n = 0
  · have G := Lib.hid (ret_int (k := .i64) (MC.chk_short (l := L) (by rw [HL.out]; exact h0)).symm)
    subst h0
    go_enter Tryz.func22, Tryz.ntmps22
    go_wp2
    go_ret
    exact ⟨G.out, Below.refl _ _⟩
  by_cases h6 : 6 < n
  · have G := Lib.hid (ret_int (k := .i64) (MC.chk_long (l := L) (by rw [HL.out]; exact h6)).symm)
    go_enter Tryz.func22, Tryz.ntmps22
    go_wp2
    go_ret
    exact ⟨G.out, Below.refl _ _⟩
  have e0 : ((n : Int) == 0) = false := beq_eq_false_iff_ne.2 (by omega)
  have e6 : decide (6 < (n : Int)) = false := decide_eq_false (by omega)
  go_enter Tryz.func22, Tryz.ntmps22
  go_wp2
  go_loopw [3] (fun i wr => ∃ k : Nat, k ≤ n ∧ i = .int .i64 k ∧ Hid (MC.Upto L k) ∧ Hid (Below w.heap.size w wr)) (fun i _ => n - (intOf i).toNat)
  case atStart => exact ⟨0, Nat.zero_le _, rfl, Lib.hid (MC.Upto.start L), Lib.hid (Below.refl _ _)⟩
  case round =>
    rename_i _ wr
    obtain ⟨k, hk, rfl, HU, HB⟩ := hrel
    by_cases hlt : k < n
    · obtain ⟨ad, p, hA, q1, hbk, x0, x1, x2, x3, x4⟩ := (H.out.keep HB.out).at_ hlt
      subst hA
      have HQ := Lib.hid q1
      have hfine : p.name.length ≤ 9223372036854775807 := H.out.fine p (List.mem_of_getElem? q1)
      have NA := Lib.hid (fun w' => rname8_any (str p.name) (by rw [str_size]; exact hfine) w')
      rw [str_data] at NA
      have HST := Lib.hid (fun (er : Int) (he : MC.prE (MC.names L k) p = er) (h0' : er ≠ 0) => ret_int (k := .i64) (show er = MC.chkL L by rw [HU.out.stop (by rw [HL.out]; exact h0) (by rw [HL.out]; omega) HQ.out (by rw [he]; exact h0'), he]))
      clear q1 hbk hfine x1 x2 x3 x4
      cases hnm : nameB p.name with
      | false =>
        have G := Lib.hid (HST.out 5 (MC.prE_name hnm) (by decide))
        rw [hnm] at NA
        clear hnm HST HU HQ
        generalize str p.name = s at *
        go_wp2_with fail
        refine (NA.out _).mono ?_
        rintro e w1 ⟨rfl, hb⟩
        have B1 := Lib.hid (HB.out.trans (hb.mono HB.out.size))
        clear hb x0
        go_wp2
        go_ret
        exact ⟨G.out, B1.out⟩
      | true =>
        rw [hnm] at NA
        have HNM := Lib.hid hnm
        clear hnm
        go_wp2_with fail
        refine (NA.out _).mono ?_
        rintro e w1 ⟨rfl, hb⟩
        have B1 := Lib.hid (HB.out.trans (hb.mono HB.out.size))
        clear hb x0 HB NA
        go_wp2_with fail
        go_loopw [4] (fun jv wr' => ∃ j : Nat, j ≤ k ∧ jv = .int .i64 j ∧ Hid (∀ (i : Nat) (q : Pr), i < j → L[i]? = some q → q.name ≠ p.name) ∧ Hid (Below w.heap.size w wr')) (fun jv _ => k - (intOf jv).toNat)
        case atStart => exact ⟨0, Nat.zero_le _, rfl, Lib.hid (fun j _ hj => absurd hj (Nat.not_lt_zero _)), B1⟩
        case round =>
          obtain ⟨j, hj, rfl, HN, HB2⟩ := hrel
          clear B1
          obtain ⟨ad1, p1, ha1, q1, hbk, x0, x1, x2, x3, x4⟩ := (H.out.keep HB2.out).at_ hlt
          injection ha1 with ha1
          subst ha1
          obtain rfl : p = p1 := by have := HQ.out; rw [q1] at this; injection this with this; exact this.symm
          clear q1
          by_cases hjk : j < k
          · have hjn : j < n := by omega
            obtain ⟨ad2, q, ha2, q2, hbk2, y0, y1, y2, y3, y4⟩ := (H.out.keep HB2.out).at_ hjn
            injection ha2 with ha2
            subst ha2
            by_cases hq : q.name = p.name
            · have ht : ((str q.name).toList == (str p.name).toList) = true := test_yes (by rw [str_data, str_data, hq])
              have G := Lib.hid (HST.out 7 (MC.prE_seen HNM.out (by rw [← hq]; exact MC.names_mem hjk q2)) (by decide))
              clear hq q2 HN HST HU HQ HNM x1 x2 x3 x4 y1 y2 y3 y4 hbk hbk2
              generalize str q.name = s1 at *
              generalize str p.name = s2 at *
              go_wp2_with fail
              go_quiet (fail)
              go_wp2
              go_ret
              exact ⟨G.out, below_drewN HB2.out _⟩
            · have ht : ((str q.name).toList == (str p.name).toList) = false := test_no (by rw [str_data, str_data]; exact hq)
              have G := Lib.hid (name_step q2 hq HN.out)
              clear hq q2 HN HST HU HQ HNM x1 x2 x3 x4 y1 y2 y3 y4 hbk hbk2
              generalize str q.name = s1 at *
              generalize str p.name = s2 at *
              go_wp2_with fail
              go_quiet (fail)
              have B3 := Lib.hid (below_drewN HB2.out nq)
              go_wp2
              go_roundw
              case rel => exact ⟨j + 1, by omega, by go_num, G, B3⟩
              case measure => simp [intOf]; omega
          · obtain rfl : j = k := by omega
            have hns := MC.names_not HN.out
            have B3 := Lib.hid (HB2.out.trans ((below_new _ (.cells #[.string (str p.name), .int .i64 p.supply, .int .i64 p.reserve, .int .i64 p.points, .int .i64 p.group] 71)).mono HB2.out.size))
            by_cases ho : p.ok
            · have G := Lib.hid (HU.out.step HQ.out (MC.prE_ok HNM.out hns ho))
              obtain ⟨⟨o1, o2⟩, ⟨o3, o4⟩, ⟨o5, o6⟩, o7, o8⟩ := ho
              clear HN HST HU HQ HNM hns hbk
              obtain ⟨pn, ps, pr, pp, pg⟩ := p
              simp only at *
              have d1 : decide (ps < 1) = false := decide_eq_false (by omega)
              have d2 : decide (4 < ps) = false := decide_eq_false (by omega)
              have d3 : decide (pr < 0) = false := decide_eq_false (by omega)
              have d4 : decide (1000000 < pr) = false := decide_eq_false (by omega)
              have d5 : decide (pp < 0) = false := decide_eq_false (by omega)
              have d6 : decide (1000 < pp) = false := decide_eq_false (by omega)
              have d7 : decide (pg < 0) = false := decide_eq_false (by omega)
              have d8 : decide (4 < pg) = false := decide_eq_false (by omega)
              generalize str pn = s at *
              go_wp2
              go_roundw
              case rel => exact ⟨j + 1, by omega, by go_num, G, B3⟩
              case measure => simp [intOf]; omega
            · have G := Lib.hid (HST.out 4 (MC.prE_range HNM.out hns ho) (by decide))
              have HC := Lib.hid (not_ok ho)
              clear HN HST HU HQ HNM hns hbk ho
              obtain ⟨pn, ps, pr, pp, pg⟩ := p
              simp only at *
              generalize str pn = s at *
              rcases HC.out with c1 | ⟨c1, c2⟩ | ⟨c1, c2, c3⟩ | ⟨c1, c2, c3, c4⟩ | ⟨c1, c2, c3, c4, c5⟩ | ⟨c1, c2, c3, c4, c5, c6⟩ | ⟨c1, c2, c3, c4, c5, c6, c7⟩ | ⟨c1, c2, c3, c4, c5, c6, c7, c8⟩
              all_goals
                go_wp2
                go_ret
                exact ⟨G.out, B3.out⟩
    · obtain rfl : k = n := by omega
      have HU' := HU.out
      rw [← HL.out] at HU'
      have HF := Lib.hid (HU'.fin (by rw [HL.out]; exact h0) (by rw [HL.out]; omega))
      have HE := Lib.hid HU'.each
      have HS := Lib.hid (MC.many_small HE.out (by rw [HL.out]; omega))
      clear HU HU'
      go_wp2_with fail
      go_loop [6, 7] (fun t i => ∃ j : Nat, j ≤ k ∧ i = .int .i64 j ∧ t = .int .i64 (MC.many (L.take j) : Nat)) (fun _ i => k - (intOf i).toNat)
      case atStart => exact ⟨0, Nat.zero_le _, rfl, rfl⟩
      case round =>
        obtain ⟨j, hj, rfl, rfl⟩ := hrel
        by_cases hlt : j < k
        · obtain ⟨ad, p, hA, q1, hbk, x0, x1, x2, x3, x4⟩ := (H.out.keep HB.out).at_ hlt
          subst hA
          have hps := (HE.out j p q1).1
          have hm := Lib.hid (MC.many_step q1 hps.1)
          have hs1 := HS.out j
          have hs2 := HS.out (j + 1)
          obtain ⟨pn, ps, pr, pp, pg⟩ := p
          simp only at *
          generalize str pn = s at *
          generalize hm2 : MC.many (L.take (j + 1)) = m2 at *
          have HQ2 := Lib.hid hm2
          clear hm2
          generalize MC.many (L.take j) = m1 at *
          clear q1 hbk x0 x2 x3 x4
          obtain ⟨hp1, hp4⟩ := hps
          go_wp2
          go_round
          case rel => exact ⟨j + 1, by omega, by go_num, by rw [HQ2.out]; exact mul_in hm.out hs2⟩
          case measure => simp [intOf]; omega
        · obtain rfl : j = k := by omega
          have ht : L.take j = L := List.take_of_length_le (by rw [HL.out]; exact Nat.le_refl _)
          rw [ht]
          by_cases hm : 1024 < MC.many L
          · have hf := HF.out
            rw [if_pos hm] at hf
            have G := Lib.hid (ret_int (k := .i64) hf.symm)
            have d : decide (1024 < (MC.many L : Int)) = true := decide_eq_true (by omega)
            clear hf hm HF
            generalize MC.many L = m at *
            go_wp2
            go_ret
            exact ⟨G.out, HB.out⟩
          · have hf := HF.out
            rw [if_neg hm] at hf
            have G := Lib.hid (ret_int (k := .i64) hf.symm)
            have d : decide (1024 < (MC.many L : Int)) = false := decide_eq_false (by omega)
            clear hf hm HF
            generalize MC.many L = m at *
            go_wp2
            go_ret
            exact ⟨G.out, HB.out⟩
end Go.Proofs.YtcokplikmjegcaaGreatDoor
namespace Go.Proofs.YtcokplikmjegcaaGreatDoor
open Go.RowKit
open MC (Pr)
/-- The weights of the first k. -/
def padF (f : Pr → Int) (L : List Pr) (k : Nat) : List Int := MB.pad ((L.take k).map f)
theorem padF_zero (f : Pr → Int) (L : List Pr) : padF f L 0 = [0, 0, 0, 0, 0, 0] := rfl
theorem padF_step {f : Pr → Int} {L : List Pr} {k : Nat} {p : Pr} (h : L[k]? = some p) (h6 : k < 6) : (padF f L k).set k (f p) = padF f L (k + 1) := by
  have hl := (List.getElem?_eq_some_iff.1 h).1
  have hlen : ((L.take k).map f).length = k := by rw [List.length_map, List.length_take]; omega
  unfold padF
  rw [MC.take_snoc h, List.map_append]
  have := MC.pad_put (l := (L.take k).map f) (v := f p) (by rw [hlen]; exact h6)
  rw [hlen] at this
  exact this
theorem padF_at {f : Pr → Int} {L : List Pr} (j : Nat) : MB.at_ (padF f L L.length) j = MC.of f L j := by
  unfold padF
  rw [List.take_length]
  by_cases hj : j < L.length
  · have hp : L[j]? = some L[j] := List.getElem?_eq_getElem hj
    rw [MB.pad_at (by rw [List.length_map]; exact hj), MC.of_at hp]
    unfold MB.at_
    rw [List.getD_eq_getElem?_getD, List.getElem?_map, hp]; rfl
  · rw [MB.pad_rest (by rw [List.length_map]; omega), MC.of_rest (by omega)]
/-- What the weights of a valid list are. -/
def Small (f : Pr → Int) : Prop := ∀ p : Pr, p.ok → 0 ≤ f p ∧ f p ≤ 1000000
theorem small_of {f : Pr → Int} {L : List Pr} (hf : Small f) (h : MC.Good L) (j : Nat) : 0 ≤ MC.of f L j ∧ MC.of f L j ≤ 1000000 := by
  by_cases hj : j < L.length
  · have hp : L[j]? = some L[j] := List.getElem?_eq_getElem hj
    rw [MC.of_at hp]
    exact hf _ (h.each j _ hp).2
  · rw [MC.of_rest (by omega)]; omega
theorem sumK_small {f : Pr → Int} {L : List Pr} {b : List Int} (hf : Small f) (h : MC.Good L) (hb : MB.okB b = true) {k : Nat} (hk : k ≤ 6) : 0 ≤ MC.sumK f L b k ∧ MC.sumK f L b k ≤ 24000000 := by
  have := MC.sumK_range (f := f) (l := L) (b := b) (M := 1000000) (by decide) k fun j _ => ⟨MC.okB_at hb j, small_of hf h j⟩
  omega
theorem wrap_in {x : Int} (h0 : 0 ≤ x) (h1 : x ≤ 1000000000) : wrap64 x = x := by unfold wrap64; omega
theorem cst_sum {f : Pr → Int} {L : List Pr} {b : List Int} (hf : Small f) (h : MC.Good L) (hb : MB.okB b = true) : ∀ k, k ≤ 6 → cstB (padF f L L.length) b k = MC.sumK f L b k
  | 0, _ => rfl
  | k + 1, hk => by
    have ih := cst_sum hf h hb k (by omega)
    have h1 := sumK_small hf h hb (k := k) (by omega)
    have h2 := sumK_small hf h hb (k := k + 1) hk
    obtain ⟨a1, a2⟩ := MC.okB_at hb k
    obtain ⟨b1, b2⟩ := small_of hf h k
    have h3 : 0 ≤ MB.at_ b k * MC.of f L k := Int.mul_nonneg a1 b1
    rw [MC.sumK] at h2 ⊢
    rw [cstB, ih, padF_at, Int.mul_comm, wrap_in h3 (by omega), wrap_in h2.1 (by omega)]
theorem cst_end {f : Pr → Int} {L : List Pr} {b : List Int} (hf : Small f) (h : MC.Good L) (hb : MB.okB b = true) : cstB (padF f L L.length) b 6 = MC.sumK f L b L.length := by
  rw [cst_sum hf h hb 6 (by decide)]
  have := MC.sumK_rest (f := f) (l := L) (b := b) (6 - L.length)
  rwa [show L.length + (6 - L.length) = 6 by have := h.few; omega] at this
/-- Points, reserve, units of a group. -/
def fP (p : Pr) : Int := p.points
def fR (p : Pr) : Int := p.reserve
def fU (g : Int) (p : Pr) : Int := if p.group = g then 1 else 0
theorem small_P : Small fP := fun p h => by unfold fP; have := h.2.2.1; omega
theorem small_R : Small fR := fun p h => by unfold fR; have := h.2.1; omega
theorem small_U (g : Int) : Small (fU g) := fun p _ => by unfold fU; split <;> omega
theorem fU_yes {g : Int} {p : Pr} (h : p.group = g) : fU g p = 1 := if_pos h
theorem fU_no {g : Int} {p : Pr} (h : p.group ≠ g) : fU g p = 0 := if_neg h
/-- One unit more. -/
theorem add_unit {S v s : Int} {k : Nat} (h : s = S + k * v) (hS : 0 ≤ S ∧ S ≤ 24000000) (hv : 0 ≤ v ∧ v ≤ 1000000) (hk : k < 4) : wrap64 (s + v) = S + ((k + 1 : Nat) : Int) * v := by
  have hk1 : 0 ≤ (k : Int) * v := Int.mul_nonneg (by omega) hv.1
  have hk2 : (k : Int) * v ≤ 4 * 1000000 := Int.mul_le_mul (by omega) hv.2 hv.1 (by decide)
  have e : ((k + 1 : Nat) : Int) * v = k * v + v := by rw [Int.natCast_succ, Int.add_mul, Int.one_mul]
  rw [e, h, wrap_in (by omega) (by omega)]
  omega
theorem sum_next {f : Pr → Int} {L : List Pr} {b : List Int} {i : Nat} {p : Pr} {s : Int} {k : Nat} (hp : L[i]? = some p) (hk : (k : Int) = MB.at_ b i) (h : s = MC.sumK f L b i + k * f p) : s = MC.sumK f L b (i + 1) := by
  rw [MC.sumK, MC.of_at hp, ← hk, h]
theorem Good_of {L : List Pr} (h : MC.chkL L = 0) : MC.Good L := MC.chk_good h
end Go.Proofs.YtcokplikmjegcaaGreatDoor
namespace Go.Proofs.YtcokplikmjegcaaGreatDoor
open Go.RowKit
open MC (Pr)
theorem nameK_len {L : List Pr} (h : MC.Good L) (k : Nat) : (MC.nameK L k).length ≤ 12 := by
  unfold MC.nameK
  cases e : L[k]? with
  | none => simp
  | some p => exact MC.nameB_len (h.each k p e).1
theorem inK_short {L : List Pr} (h : MC.Good L) (b : List Int) (k : Nat) : (MC.inK L b k).length ≤ k * 15 := by
  have h1 := MC.joinT_len (f := MC.entT L b) (m := 14) (MC.upK b k) fun j _ => by
    have := nameK_len h j
    simp [MC.entT]; omega
  have h2 := MC.upK_len b k
  have h3 : (MC.upK b k).length * (14 + 1) ≤ k * 15 := Nat.mul_le_mul h2 (Nat.le_refl _)
  unfold MC.inK
  omega
/-- The digit as a string. -/
theorem dig_nat' (q : Nat) : MC.dig (q : Int) = UInt8.ofNat (48 + q) := by unfold MC.dig; rw [Int.toNat_natCast]
theorem dig5_lit (k : Nat) (h : k < 5) : (⟨#[48, 49, 50, 51, 52]⟩ : ByteArray).extract k (k + 1) = str [UInt8.ofNat (48 + k)] := by
  have : k = 0 ∨ k = 1 ∨ k = 2 ∨ k = 3 ∨ k = 4 := by omega
  rcases this with rfl | rfl | rfl | rfl | rfl <;> rfl
theorem colon_lit : (⟨#[58]⟩ : ByteArray) = str [58] := rfl
theorem comma_lit : (⟨#[44]⟩ : ByteArray) = str [44] := rfl
theorem ent_str {L : List Pr} {b : List Int} {k : Nat} {p : Pr} {q : Nat} (hp : L[k]? = some p) (hq : MB.at_ b k = (q : Int)) : str p.name ++ ⟨#[58]⟩ ++ str [UInt8.ofNat (48 + q)] = str (MC.entT L b k) := by
  rw [colon_lit, str_append, str_append]
  unfold MC.entT
  rw [MC.nameK_at hp, hq, dig_nat', List.append_assoc]; rfl
theorem in_first {L : List Pr} {b : List Int} {k : Nat} {p : Pr} {q : Nat} (hp : L[k]? = some p) (hq : MB.at_ b k = (q : Int)) (h0 : 0 < q) (he : MC.inK L b k = []) :
    str (MC.inK L b k) ++ str p.name ++ ⟨#[58]⟩ ++ str [UInt8.ofNat (48 + q)] = str (MC.inK L b (k + 1)) := by
  rw [MC.inK_first (by rw [hq]; omega) he, he, ← ent_str hp hq]
  rw [str_append]; rfl
theorem in_more {L : List Pr} {b : List Int} {k : Nat} {p : Pr} {q : Nat} (hp : L[k]? = some p) (hq : MB.at_ b k = (q : Int)) (h0 : 0 < q) (he : MC.inK L b k ≠ []) :
    str (MC.inK L b k) ++ ⟨#[44]⟩ ++ str p.name ++ ⟨#[58]⟩ ++ str [UInt8.ofNat (48 + q)] = str (MC.inK L b (k + 1)) := by
  rw [MC.inK_more (by rw [hq]; omega) he]
  have e := ent_str (b := b) hp hq
  rw [colon_lit, str_append, str_append] at e
  rw [comma_lit, colon_lit, str_append, str_append, str_append, str_append]
  have e2 := congrArg (fun x : ByteArray => x.data.toList) e
  simp only [str_data] at e2
  rw [← e2]
  simp
theorem text_str (L : List Pr) (b : List Int) : (⟨#[123]⟩ : ByteArray) ++ str (MC.inK L b L.length) ++ ⟨#[125]⟩ = str (MC.textL L b) := by
  rw [show (⟨#[123]⟩ : ByteArray) = str [123] from rfl, show (⟨#[125]⟩ : ByteArray) = str [125] from rfl, str_append, str_append]
  rfl
theorem fmt_yes {L : List Pr} {b : List Int} (h : MC.Fits L b) : MC.fmtL L b = MC.textL L b := by unfold MC.fmtL; rw [if_pos h]
theorem fmt_no {L : List Pr} {b : List Int} (h : ¬ MC.Fits L b) : MC.fmtL L b = [] := by unfold MC.fmtL; rw [if_neg h]
theorem ret_str {a b : ByteArray} (h : a = b) : Ending.returned (.string a) = .returned (.string b) := by rw [h]
theorem val_str {a b : ByteArray} (h : a = b) : Value.string a = .string b := by rw [h]
end Go.Proofs.YtcokplikmjegcaaGreatDoor
namespace Go.Proofs.YtcokplikmjegcaaGreatDoor
open Go.RowKit
open MC (Pr)
theorem okB_bad {b : List Int} {k : Nat} (hl : b.length = 6) (hk : k < 6) (h : MB.at_ b k < 0 ∨ 4 < MB.at_ b k) : MB.okB b = false := by
  cases e : MB.okB b with
  | false => rfl
  | true => have := okB_at e (k := k) (by rw [hl]; exact hk); omega
theorem okB_good {b : List Int} (hl : b.length = 6) (h : ∀ k, k < 6 → 0 ≤ MB.at_ b k ∧ MB.at_ b k ≤ 4) : MB.okB b = true := by
  unfold MB.okB
  rw [List.all_eq_true]
  intro q hq
  obtain ⟨k, hk, rfl⟩ := List.getElem_of_mem hq
  have := h k (by omega)
  unfold MB.at_ at this
  rw [List.getD_eq_getElem?_getD, List.getElem?_eq_getElem hk] at this
  simp at this
  simp [this]
set_option maxRecDepth 100000 in
set_option maxHeartbeats 1000000 in
theorem valid8_any (a b c d e f : Int) (w : World) : Calls Tryz.prog 84 #[.agg #[.int .i64 a, .int .i64 b, .int .i64 c, .int .i64 d, .int .i64 e, .int .i64 f]] w (Gives (.bool (MB.okB [a, b, c, d, e, f])) w) := by
  have H1 := Lib.hid (BB.new w 24 a b c d e f)
  have HB := Lib.hid (below_new w (.cells #[.int .i64 a, .int .i64 b, .int .i64 c, .int .i64 d, .int .i64 e, .int .i64 f] 24))
  go_enter Tryz.func84, Tryz.ntmps84
  go_wp2
  generalize w.alloc (.cells #[.int .i64 a, .int .i64 b, .int .i64 c, .int .i64 d, .int .i64 e, .int .i64 f] 24) = W at *
  have HX : Hid (([a, b, c, d, e, f] : List Int).length = 6) := Lib.hid rfl
  generalize [a, b, c, d, e, f] = xs at *
  go_loop [3] (fun i => ∃ k : Nat, k ≤ 6 ∧ i = .int .i64 k ∧ Hid (∀ j, j < k → 0 ≤ MB.at_ xs j ∧ MB.at_ xs j ≤ 4)) (fun i => 6 - (intOf i).toNat)
  case atStart => exact ⟨0, Nat.zero_le _, rfl, Lib.hid (fun j hj => absurd hj (Nat.not_lt_zero _))⟩
  case round =>
    obtain ⟨k, hk, rfl, HA⟩ := hrel
    by_cases hlt : k < 6
    · have c1 := H1.out.cell hlt
      by_cases hb : 0 ≤ MB.at_ xs k ∧ MB.at_ xs k ≤ 4
      · have G : Hid (∀ j, j < k + 1 → 0 ≤ MB.at_ xs j ∧ MB.at_ xs j ≤ 4) := Lib.hid (fun j hj => by
          rcases Nat.lt_or_ge j k with g | g
          · exact HA.out j g
          · have : j = k := by omega
            subst this; exact hb)
        obtain ⟨h1, h2⟩ := hb
        clear HA
        generalize MB.at_ xs k = y at *
        have d1 : decide (y < 0) = false := decide_eq_false (by omega)
        have d2 : decide (4 < y) = false := decide_eq_false (by omega)
        go_wp2
        go_round
        case rel => exact ⟨k + 1, by omega, by go_num, G⟩
        case measure => simp [intOf]; omega
      · have G := Lib.hid (ret_b (okB_bad HX.out hlt (by omega)).symm)
        clear HA
        by_cases h1 : MB.at_ xs k < 0
        · clear hb
          generalize MB.at_ xs k = y at *
          go_wp2
          go_ret
          exact ⟨G.out, HB.out⟩
        · have h2 : 4 < MB.at_ xs k := by omega
          clear hb
          generalize MB.at_ xs k = y at *
          have d1 : decide (y < 0) = false := decide_eq_false (by omega)
          have d2 : decide (4 < y) = true := decide_eq_true (by omega)
          go_wp2
          go_ret
          exact ⟨G.out, HB.out⟩
    · obtain rfl : k = 6 := by omega
      have G := Lib.hid (ret_b (show true = MB.okB xs from (okB_good HX.out HA.out).symm))
      go_wp2
      go_ret
      exact ⟨G.out, HB.out⟩
/-- What the reference's sums answer. -/
def sumsV (g : Int) (L : List Pr) (b : List Int) : Value := .tuple #[.int .i64 (MC.sumG fP L b), .int .i64 (MC.sumG fR L b), .int .i64 (MC.sumG (fU g) L b)]
theorem sums_no {g : Int} {L : List Pr} {b : List Int} (h : ¬ (MC.chkL L = 0 ∧ MB.okB b = true)) : Ending.returned (.tuple #[.int .i64 0, .int .i64 0, .int .i64 0]) = .returned (sumsV g L b) := by
  unfold sumsV; rw [MC.sumG_no h, MC.sumG_no h, MC.sumG_no h]
theorem sums_yes {g : Int} {L : List Pr} {b : List Int} {x y z : Int} (h : MC.chkL L = 0) (hb : MB.okB b = true) (hx : x = MC.sumK fP L b L.length) (hy : y = MC.sumK fR L b L.length) (hz : z = MC.sumK (fU g) L b L.length) :
    Ending.returned (.tuple #[.int .i64 x, .int .i64 y, .int .i64 z]) = .returned (sumsV g L b) := by
  unfold sumsV; rw [MC.sumG_yes h hb, MC.sumG_yes h hb, MC.sumG_yes h hb, hx, hy, hz]
/-- The three sums over the first i products and k units of the next. -/
structure Part (g : Int) (L : List Pr) (b : List Int) (i : Nat) (p : Pr) (k : Nat) (x y z : Int) : Prop where
  x_ : x = MC.sumK fP L b i + k * fP p
  y_ : y = MC.sumK fR L b i + k * fR p
  z_ : z = MC.sumK (fU g) L b i + k * fU g p
structure Whole (g : Int) (L : List Pr) (b : List Int) (i : Nat) (x y z : Int) : Prop where
  x_ : x = MC.sumK fP L b i
  y_ : y = MC.sumK fR L b i
  z_ : z = MC.sumK (fU g) L b i
theorem Whole.start (g : Int) (L : List Pr) (b : List Int) : Whole g L b 0 0 0 0 := ⟨rfl, rfl, rfl⟩
theorem Whole.part {g : Int} {L : List Pr} {b : List Int} {i : Nat} {x y z : Int} (h : Whole g L b i x y z) (p : Pr) : Part g L b i p 0 x y z :=
  ⟨by rw [h.x_]; simp, by rw [h.y_]; simp, by rw [h.z_]; simp⟩
theorem Part.whole {g : Int} {L : List Pr} {b : List Int} {i : Nat} {p : Pr} {k : Nat} {x y z : Int} (h : Part g L b i p k x y z) (hp : L[i]? = some p) (hk : (k : Int) = MB.at_ b i) : Whole g L b (i + 1) x y z :=
  ⟨sum_next hp hk h.x_, sum_next hp hk h.y_, sum_next hp hk h.z_⟩
theorem Part.yes {g : Int} {L : List Pr} {b : List Int} {i : Nat} {p : Pr} {k : Nat} {x y z : Int} (h : Part g L b i p k x y z) (hL : MC.Good L) (hb : MB.okB b = true) (hi : i ≤ 6) (ho : p.ok) (hk : k < 4) (hg : p.group = g) :
    Part g L b i p (k + 1) (wrap64 (x + p.points)) (wrap64 (y + p.reserve)) (wrap64 (z + 1)) :=
  ⟨add_unit h.x_ (sumK_small small_P hL hb hi) (small_P p ho) hk, add_unit h.y_ (sumK_small small_R hL hb hi) (small_R p ho) hk, by
    have := add_unit h.z_ (sumK_small (small_U g) hL hb hi) (small_U g p ho) hk
    rw [fU_yes hg] at this ⊢; exact this⟩
theorem Part.no {g : Int} {L : List Pr} {b : List Int} {i : Nat} {p : Pr} {k : Nat} {x y z : Int} (h : Part g L b i p k x y z) (hL : MC.Good L) (hb : MB.okB b = true) (hi : i ≤ 6) (ho : p.ok) (hk : k < 4) (hg : p.group ≠ g) :
    Part g L b i p (k + 1) (wrap64 (x + p.points)) (wrap64 (y + p.reserve)) z :=
  ⟨add_unit h.x_ (sumK_small small_P hL hb hi) (small_P p ho) hk, add_unit h.y_ (sumK_small small_R hL hb hi) (small_R p ho) hk, by
    have := h.z_
    rw [fU_no hg] at this ⊢; rw [this]; simp⟩
end Go.Proofs.YtcokplikmjegcaaGreatDoor
