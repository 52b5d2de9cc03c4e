/- CRCheck, MathV, CRSum, joined: no claim of its own. -/
import Derived.Test.YtcokplikmjegcaaGreatDoorJG
import Derived.Test.YtcokplikmjegcaaGreatDoorJC
import Derived.Test.YtcokplikmjegcaaGreatDoorJB
namespace Go.Proofs.YtcokplikmjegcaaGreatDoor
open Go.RowKit
open MC (Pr)
theorem not_ok {p : Pr} (ho : ¬ p.ok) : p.supply < 1 ∨ (¬ p.supply < 1 ∧ 4 < p.supply) ∨ (¬ p.supply < 1 ∧ ¬ 4 < p.supply ∧ p.reserve < 0) ∨ (¬ p.supply < 1 ∧ ¬ 4 < p.supply ∧ ¬ p.reserve < 0 ∧ 1000000 < p.reserve) ∨
    (¬ p.supply < 1 ∧ ¬ 4 < p.supply ∧ ¬ p.reserve < 0 ∧ ¬ 1000000 < p.reserve ∧ p.points < 0) ∨ (¬ p.supply < 1 ∧ ¬ 4 < p.supply ∧ ¬ p.reserve < 0 ∧ ¬ 1000000 < p.reserve ∧ ¬ p.points < 0 ∧ 1000 < p.points) ∨
    (¬ p.supply < 1 ∧ ¬ 4 < p.supply ∧ ¬ p.reserve < 0 ∧ ¬ 1000000 < p.reserve ∧ ¬ p.points < 0 ∧ ¬ 1000 < p.points ∧ p.group < 0) ∨ (¬ p.supply < 1 ∧ ¬ 4 < p.supply ∧ ¬ p.reserve < 0 ∧ ¬ 1000000 < p.reserve ∧ ¬ p.points < 0 ∧ ¬ 1000 < p.points ∧ ¬ p.group < 0 ∧ 4 < p.group) := by
  unfold Pr.ok at ho
  omega
set_option maxRecDepth 100000 in
set_option maxHeartbeats 8000000 in
theorem rcheck8_any (A : Option Addr) (n c : Nat) (L : List Pr) (w : World) (h : Prs w A n c L) :
    Calls Tryz.prog 22 #[.slice A n c] w (Gives (.int .i64 (MC.chkL L)) w) := by
  have hn := h.few
  have hc := h.cap
  have HL := Lib.hid h.len
  have H := Lib.hid h
  clear h
  by_cases h0 : n = 0
  · have G := Lib.hid (ret_int (k := .i64) (MC.chk_short (l := L) (by rw [HL.out]; exact h0)).symm)
    subst h0
    go_enter Tryz.func22, Tryz.ntmps22
    go_wp2
    go_ret
    exact ⟨G.out, Below.refl _ _⟩
  by_cases h6 : 6 < n
  · have G := Lib.hid (ret_int (k := .i64) (MC.chk_long (l := L) (by rw [HL.out]; exact h6)).symm)
    go_enter Tryz.func22, Tryz.ntmps22
    go_wp2
    go_ret
    exact ⟨G.out, Below.refl _ _⟩
  have e0 : ((n : Int) == 0) = false := beq_eq_false_iff_ne.2 (by omega)
  have e6 : decide (6 < (n : Int)) = false := decide_eq_false (by omega)
  go_enter Tryz.func22, Tryz.ntmps22
  go_wp2
  go_loopw [3] (fun i wr => ∃ k : Nat, k ≤ n ∧ i = .int .i64 k ∧ Hid (MC.Upto L k) ∧ Hid (Below w.heap.size w wr)) (fun i _ => n - (intOf i).toNat)
  case atStart => exact ⟨0, Nat.zero_le _, rfl, Lib.hid (MC.Upto.start L), Lib.hid (Below.refl _ _)⟩
  case round =>
    rename_i _ wr
    obtain ⟨k, hk, rfl, HU, HB⟩ := hrel
    by_cases hlt : k < n
    · obtain ⟨ad, p, hA, q1, hbk, x0, x1, x2, x3, x4⟩ := (H.out.keep HB.out).at_ hlt
      subst hA
      have HQ := Lib.hid q1
      have hfine : p.name.length ≤ 9223372036854775807 := H.out.fine p (List.mem_of_getElem? q1)
      have NA := Lib.hid (fun w' => rname8_any (str p.name) (by rw [str_size]; exact hfine) w')
      rw [str_data] at NA
      have HST := Lib.hid (fun (er : Int) (he : MC.prE (MC.names L k) p = er) (h0' : er ≠ 0) => ret_int (k := .i64) (show er = MC.chkL L by rw [HU.out.stop (by rw [HL.out]; exact h0) (by rw [HL.out]; omega) HQ.out (by rw [he]; exact h0'), he]))
      clear q1 hbk hfine x1 x2 x3 x4
      cases hnm : nameB p.name with
      | false =>
        have G := Lib.hid (HST.out 5 (MC.prE_name hnm) (by decide))
        rw [hnm] at NA
        clear hnm HST HU HQ
        generalize str p.name = s at *
        go_wp2_with fail
        refine (NA.out _).mono ?_
        rintro e w1 ⟨rfl, hb⟩
        have B1 := Lib.hid (HB.out.trans (hb.mono HB.out.size))
        clear hb x0
        go_wp2
        go_ret
        exact ⟨G.out, B1.out⟩
      | true =>
        rw [hnm] at NA
        have HNM := Lib.hid hnm
        clear hnm
        go_wp2_with fail
        refine (NA.out _).mono ?_
        rintro e w1 ⟨rfl, hb⟩
        have B1 := Lib.hid (HB.out.trans (hb.mono HB.out.size))
        clear hb x0 HB NA
        go_wp2_with fail
        go_loopw [4] (fun jv wr' => ∃ j : Nat, j ≤ k ∧ jv = .int .i64 j ∧ Hid (∀ (i : Nat) (q : Pr), i < j → L[i]? = some q → q.name ≠ p.name) ∧ Hid (Below w.heap.size w wr')) (fun jv _ => k - (intOf jv).toNat)
        case atStart => exact ⟨0, Nat.zero_le _, rfl, Lib.hid (fun j _ hj => absurd hj (Nat.not_lt_zero _)), B1⟩
        case round =>
          obtain ⟨j, hj, rfl, HN, HB2⟩ := hrel
          clear B1
          obtain ⟨ad1, p1, ha1, q1, hbk, x0, x1, x2, x3, x4⟩ := (H.out.keep HB2.out).at_ hlt
          injection ha1 with ha1
          subst ha1
          obtain rfl : p = p1 := by have := HQ.out; rw [q1] at this; injection this with this; exact this.symm
          clear q1
          by_cases hjk : j < k
          · have hjn : j < n := by omega
            obtain ⟨ad2, q, ha2, q2, hbk2, y0, y1, y2, y3, y4⟩ := (H.out.keep HB2.out).at_ hjn
            injection ha2 with ha2
            subst ha2
            by_cases hq : q.name = p.name
            · have ht : ((str q.name).toList == (str p.name).toList) = true := test_yes (by rw [str_data, str_data, hq])
              have G := Lib.hid (HST.out 7 (MC.prE_seen HNM.out (by rw [← hq]; exact MC.names_mem hjk q2)) (by decide))
              clear hq q2 HN HST HU HQ HNM x1 x2 x3 x4 y1 y2 y3 y4 hbk hbk2
              generalize str q.name = s1 at *
              generalize str p.name = s2 at *
              go_wp2_with fail
              go_quiet (fail)
              go_wp2
              go_ret
              exact ⟨G.out, below_drewN HB2.out _⟩
            · have ht : ((str q.name).toList == (str p.name).toList) = false := test_no (by rw [str_data, str_data]; exact hq)
              have G := Lib.hid (name_step q2 hq HN.out)
              clear hq q2 HN HST HU HQ HNM x1 x2 x3 x4 y1 y2 y3 y4 hbk hbk2
              generalize str q.name = s1 at *
              generalize str p.name = s2 at *
              go_wp2_with fail
              go_quiet (fail)
              have B3 := Lib.hid (below_drewN HB2.out nq)
              go_wp2
              go_roundw
              case rel => exact ⟨j + 1, by omega, by go_num, G, B3⟩
              case measure => simp [intOf]; omega
          · obtain rfl : j = k := by omega
            have hns := MC.names_not HN.out
            have B3 := Lib.hid (HB2.out.trans ((below_new _ (.cells #[.string (str p.name), .int .i64 p.supply, .int .i64 p.reserve, .int .i64 p.points, .int .i64 p.group] 71)).mono HB2.out.size))
            by_cases ho : p.ok
            · have G := Lib.hid (HU.out.step HQ.out (MC.prE_ok HNM.out hns ho))
              obtain ⟨⟨o1, o2⟩, ⟨o3, o4⟩, ⟨o5, o6⟩, o7, o8⟩ := ho
              clear HN HST HU HQ HNM hns hbk
              obtain ⟨pn, ps, pr, pp, pg⟩ := p
              simp only at *
              have d1 : decide (ps < 1) = false := decide_eq_false (by omega)
              have d2 : decide (4 < ps) = false := decide_eq_false (by omega)
              have d3 : decide (pr < 0) = false := decide_eq_false (by omega)
              have d4 : decide (1000000 < pr) = false := decide_eq_false (by omega)
              have d5 : decide (pp < 0) = false := decide_eq_false (by omega)
              have d6 : decide (1000 < pp) = false := decide_eq_false (by omega)
              have d7 : decide (pg < 0) = false := decide_eq_false (by omega)
              have d8 : decide (4 < pg) = false := decide_eq_false (by omega)
              generalize str pn = s at *
              go_wp2
              go_roundw
              case rel => exact ⟨j + 1, by omega, by go_num, G, B3⟩
              case measure => simp [intOf]; omega
            · have G := Lib.hid (HST.out 4 (MC.prE_range HNM.out hns ho) (by decide))
              have HC := Lib.hid (not_ok ho)
              clear HN HST HU HQ HNM hns hbk ho
              obtain ⟨pn, ps, pr, pp, pg⟩ := p
              simp only at *
              generalize str pn = s at *
              rcases HC.out with c1 | ⟨c1, c2⟩ | ⟨c1, c2, c3⟩ | ⟨c1, c2, c3, c4⟩ | ⟨c1, c2, c3, c4, c5⟩ | ⟨c1, c2, c3, c4, c5, c6⟩ | ⟨c1, c2, c3, c4, c5, c6, c7⟩ | ⟨c1, c2, c3, c4, c5, c6, c7, c8⟩
              all_goals
                go_wp2
                go_ret
                exact ⟨G.out, B3.out⟩
    · obtain rfl : k = n := by omega
      have HU' := HU.out
      rw [← HL.out] at HU'
      have HF := Lib.hid (HU'.fin (by rw [HL.out]; exact h0) (by rw [HL.out]; omega))
      have HE := Lib.hid HU'.each
      have HS := Lib.hid (MC.many_small HE.out (by rw [HL.out]; omega))
      clear HU HU'
      go_wp2_with fail
      go_loop [6, 7] (fun t i => ∃ j : Nat, j ≤ k ∧ i = .int .i64 j ∧ t = .int .i64 (MC.many (L.take j) : Nat)) (fun _ i => k - (intOf i).toNat)
      case atStart => exact ⟨0, Nat.zero_le _, rfl, rfl⟩
      case round =>
        obtain ⟨j, hj, rfl, rfl⟩ := hrel
        by_cases hlt : j < k
        · obtain ⟨ad, p, hA, q1, hbk, x0, x1, x2, x3, x4⟩ := (H.out.keep HB.out).at_ hlt
          subst hA
          have hps := (HE.out j p q1).1
          have hm := Lib.hid (MC.many_step q1 hps.1)
          have hs1 := HS.out j
          have hs2 := HS.out (j + 1)
          obtain ⟨pn, ps, pr, pp, pg⟩ := p
          simp only at *
          generalize str pn = s at *
          generalize hm2 : MC.many (L.take (j + 1)) = m2 at *
          have HQ2 := Lib.hid hm2
          clear hm2
          generalize MC.many (L.take j) = m1 at *
          clear q1 hbk x0 x2 x3 x4
          obtain ⟨hp1, hp4⟩ := hps
          go_wp2
          go_round
          case rel => exact ⟨j + 1, by omega, by go_num, by rw [HQ2.out]; exact mul_in hm.out hs2⟩
          case measure => simp [intOf]; omega
        · obtain rfl : j = k := by omega
          have ht : L.take j = L := List.take_of_length_le (by rw [HL.out]; exact Nat.le_refl _)
          rw [ht]
          by_cases hm : 1024 < MC.many L
          · have hf := HF.out
            rw [if_pos hm] at hf
            have G := Lib.hid (ret_int (k := .i64) hf.symm)
            have d : decide (1024 < (MC.many L : Int)) = true := decide_eq_true (by omega)
            clear hf hm HF
            generalize MC.many L = m at *
            go_wp2
            go_ret
            exact ⟨G.out, HB.out⟩
          · have hf := HF.out
            rw [if_neg hm] at hf
            have G := Lib.hid (ret_int (k := .i64) hf.symm)
            have d : decide (1024 < (MC.many L : Int)) = false := decide_eq_false (by omega)
            clear hf hm HF
            generalize MC.many L = m at *
            go_wp2
            go_ret
            exact ⟨G.out, HB.out⟩
end Go.Proofs.YtcokplikmjegcaaGreatDoor
namespace Go.Proofs.YtcokplikmjegcaaGreatDoor
open Go.RowKit
open MC (Pr)
/-- The weights of the first k. -/
def padF (f : Pr → Int) (L : List Pr) (k : Nat) : List Int := MB.pad ((L.take k).map f)
theorem padF_step {f : Pr → Int} {L : List Pr} {k : Nat} {p : Pr} (h : L[k]? = some p) (h6 : k < 6) : (padF f L k).set k (f p) = padF f L (k + 1) := by
  have hl := (List.getElem?_eq_some_iff.1 h).1
  have hlen : ((L.take k).map f).length = k := by rw [List.length_map, List.length_take]; omega
  unfold padF
  rw [MC.take_snoc h, List.map_append]
  have := MC.pad_put (l := (L.take k).map f) (v := f p) (by rw [hlen]; exact h6)
  rw [hlen] at this
  exact this
/-- What the weights of a valid list are. -/
def Small (f : Pr → Int) : Prop := ∀ p : Pr, p.ok → 0 ≤ f p ∧ f p ≤ 1000000
theorem small_of {f : Pr → Int} {L : List Pr} (hf : Small f) (h : MC.Good L) (j : Nat) : 0 ≤ MC.of f L j ∧ MC.of f L j ≤ 1000000 := by
  by_cases hj : j < L.length
  · have hp : L[j]? = some L[j] := List.getElem?_eq_getElem hj
    rw [MC.of_at hp]
    exact hf _ (h.each j _ hp).2
  · rw [MC.of_rest (by omega)]; omega
theorem sumK_small {f : Pr → Int} {L : List Pr} {b : List Int} (hf : Small f) (h : MC.Good L) (hb : MB.okB b = true) {k : Nat} (hk : k ≤ 6) : 0 ≤ MC.sumK f L b k ∧ MC.sumK f L b k ≤ 24000000 := by
  have := MC.sumK_range (f := f) (l := L) (b := b) (M := 1000000) (by decide) k fun j _ => ⟨MC.okB_at hb j, small_of hf h j⟩
  omega
theorem wrap_in {x : Int} (h0 : 0 ≤ x) (h1 : x ≤ 1000000000) : wrap64 x = x := by unfold wrap64; omega
/-- Points, reserve, units of a group. -/
def fP (p : Pr) : Int := p.points
def fR (p : Pr) : Int := p.reserve
def fU (g : Int) (p : Pr) : Int := if p.group = g then 1 else 0
theorem small_P : Small fP := fun p h => by unfold fP; have := h.2.2.1; omega
theorem small_R : Small fR := fun p h => by unfold fR; have := h.2.1; omega
theorem fU_no {g : Int} {p : Pr} (h : p.group ≠ g) : fU g p = 0 := if_neg h
/-- One unit more. -/
theorem add_unit {S v s : Int} {k : Nat} (h : s = S + k * v) (hS : 0 ≤ S ∧ S ≤ 24000000) (hv : 0 ≤ v ∧ v ≤ 1000000) (hk : k < 4) : wrap64 (s + v) = S + ((k + 1 : Nat) : Int) * v := by
  have hk1 : 0 ≤ (k : Int) * v := Int.mul_nonneg (by omega) hv.1
  have hk2 : (k : Int) * v ≤ 4 * 1000000 := Int.mul_le_mul (by omega) hv.2 hv.1 (by decide)
  have e : ((k + 1 : Nat) : Int) * v = k * v + v := by rw [Int.natCast_succ, Int.add_mul, Int.one_mul]
  rw [e, h, wrap_in (by omega) (by omega)]
  omega
theorem sum_next {f : Pr → Int} {L : List Pr} {b : List Int} {i : Nat} {p : Pr} {s : Int} {k : Nat} (hp : L[i]? = some p) (hk : (k : Int) = MB.at_ b i) (h : s = MC.sumK f L b i + k * f p) : s = MC.sumK f L b (i + 1) := by
  rw [MC.sumK, MC.of_at hp, ← hk, h]
theorem Good_of {L : List Pr} (h : MC.chkL L = 0) : MC.Good L := MC.chk_good h
end Go.Proofs.YtcokplikmjegcaaGreatDoor
namespace Go.Proofs.YtcokplikmjegcaaGreatDoor
open Go.RowKit
open MC (Pr)
theorem nameK_len {L : List Pr} (h : MC.Good L) (k : Nat) : (MC.nameK L k).length ≤ 12 := by
  unfold MC.nameK
  cases e : L[k]? with
  | none => simp
  | some p => exact MC.nameB_len (h.each k p e).1
theorem inK_short {L : List Pr} (h : MC.Good L) (b : List Int) (k : Nat) : (MC.inK L b k).length ≤ k * 15 := by
  have h1 := MC.joinT_len (f := MC.entT L b) (m := 14) (MC.upK b k) fun j _ => by
    have := nameK_len h j
    simp [MC.entT]; omega
  have h2 := MC.upK_len b k
  have h3 : (MC.upK b k).length * (14 + 1) ≤ k * 15 := Nat.mul_le_mul h2 (Nat.le_refl _)
  unfold MC.inK
  omega
/-- The digit as a string. -/
theorem dig_nat' (q : Nat) : MC.dig (q : Int) = UInt8.ofNat (48 + q) := by unfold MC.dig; rw [Int.toNat_natCast]
theorem colon_lit : (⟨#[58]⟩ : ByteArray) = str [58] := rfl
theorem ent_str {L : List Pr} {b : List Int} {k : Nat} {p : Pr} {q : Nat} (hp : L[k]? = some p) (hq : MB.at_ b k = (q : Int)) : str p.name ++ ⟨#[58]⟩ ++ str [UInt8.ofNat (48 + q)] = str (MC.entT L b k) := by
  rw [colon_lit, str_append, str_append]
  unfold MC.entT
  rw [MC.nameK_at hp, hq, dig_nat', List.append_assoc]; rfl
theorem text_str (L : List Pr) (b : List Int) : (⟨#[123]⟩ : ByteArray) ++ str (MC.inK L b L.length) ++ ⟨#[125]⟩ = str (MC.textL L b) := by
  rw [show (⟨#[123]⟩ : ByteArray) = str [123] from rfl, show (⟨#[125]⟩ : ByteArray) = str [125] from rfl, str_append, str_append]
  rfl
theorem fmt_yes {L : List Pr} {b : List Int} (h : MC.Fits L b) : MC.fmtL L b = MC.textL L b := by unfold MC.fmtL; rw [if_pos h]
theorem fmt_no {L : List Pr} {b : List Int} (h : ¬ MC.Fits L b) : MC.fmtL L b = [] := by unfold MC.fmtL; rw [if_neg h]
theorem ret_str {a b : ByteArray} (h : a = b) : Ending.returned (.string a) = .returned (.string b) := by rw [h]
end Go.Proofs.YtcokplikmjegcaaGreatDoor
namespace Go.Proofs.YtcokplikmjegcaaGreatDoor
open Go.RowKit
open MC (Pr)
/-- The three sums over the first i products and k units of the next. -/
structure Part (g : Int) (L : List Pr) (b : List Int) (i : Nat) (p : Pr) (k : Nat) (x y z : Int) : Prop where
  x_ : x = MC.sumK fP L b i + k * fP p
  y_ : y = MC.sumK fR L b i + k * fR p
  z_ : z = MC.sumK (fU g) L b i + k * fU g p
structure Whole (g : Int) (L : List Pr) (b : List Int) (i : Nat) (x y z : Int) : Prop where
  x_ : x = MC.sumK fP L b i
  y_ : y = MC.sumK fR L b i
  z_ : z = MC.sumK (fU g) L b i
theorem Whole.start (g : Int) (L : List Pr) (b : List Int) : Whole g L b 0 0 0 0 := ⟨rfl, rfl, rfl⟩
theorem Whole.part {g : Int} {L : List Pr} {b : List Int} {i : Nat} {x y z : Int} (h : Whole g L b i x y z) (p : Pr) : Part g L b i p 0 x y z :=
  ⟨by rw [h.x_]; simp, by rw [h.y_]; simp, by rw [h.z_]; simp⟩
theorem Part.whole {g : Int} {L : List Pr} {b : List Int} {i : Nat} {p : Pr} {k : Nat} {x y z : Int} (h : Part g L b i p k x y z) (hp : L[i]? = some p) (hk : (k : Int) = MB.at_ b i) : Whole g L b (i + 1) x y z :=
  ⟨sum_next hp hk h.x_, sum_next hp hk h.y_, sum_next hp hk h.z_⟩
theorem Part.no {g : Int} {L : List Pr} {b : List Int} {i : Nat} {p : Pr} {k : Nat} {x y z : Int} (h : Part g L b i p k x y z) (hL : MC.Good L) (hb : MB.okB b = true) (hi : i ≤ 6) (ho : p.ok) (hk : k < 4) (hg : p.group ≠ g) :
    Part g L b i p (k + 1) (wrap64 (x + p.points)) (wrap64 (y + p.reserve)) z :=
  ⟨add_unit h.x_ (sumK_small small_P hL hb hi) (small_P p ho) hk, add_unit h.y_ (sumK_small small_R hL hb hi) (small_R p ho) hk, by
    have := h.z_
    rw [fU_no hg] at this ⊢; rw [this]; simp⟩
end Go.Proofs.YtcokplikmjegcaaGreatDoor
