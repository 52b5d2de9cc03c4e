/- The walk of AmountShares, given what awake and Share answer: no claim of its own. -/
import Derived.Test.YtbllnkhbahenkaaDoorAWalkB
import Derived.Test.YtbllnkhbahenkaaDoorAMathS
import Derived.BigQuiet
namespace Go.Proofs.YtbllnkhbahenkaaDoor
open Go.RowKit MA
/-- The numbers that the law compares at one place. -/
structure PN (T W x p P X : Nat) : Prop where
  e1 : IntKind.i64.wrap ((p : Int) * (W : Int)) = (P : Int)
  e2 : IntKind.i64.wrap ((T : Int) * (x : Int)) = (X : Int)
  e3 : IntKind.i64.wrap ((P : Int) - (X : Int)) = (P : Int) - (X : Int)
  e4 : IntKind.i64.wrap ((X : Int) - (P : Int)) = (X : Int) - (P : Int)
  d1 : decide ((W : Int) ≤ (P : Int) - (X : Int)) = false
  d2 : decide ((W : Int) ≤ (X : Int) - (P : Int)) = false
  pt : p ≤ T
theorem PA.pn {T W : Nat} {ws : List Int} {k x p : Nat} (h : PA (T : Int) ws k x p) (hW : ws.sum = (W : Int)) (hT : T ≤ 1000000) (h4 : W ≤ 40000000) : ∃ P X, PN T W x p P X := by
  have hx := h.x1
  have hp := h.pt
  have lo := h.lo
  have hi := h.hi
  rw [hW] at lo hi
  simp only [Int.toNat_natCast] at lo hi
  have b1 : p * W ≤ 1000000 * 40000000 := Nat.mul_le_mul (by omega) h4
  have b2 : T * x ≤ 1000000 * 1000000 := Nat.mul_le_mul hT hx
  have c1 : ((p * W : Nat) : Int) = (p : Int) * (W : Int) := Int.natCast_mul _ _
  have c2 : ((T * x : Nat) : Int) = (T : Int) * (x : Int) := Int.natCast_mul _ _
  refine ⟨p * W, T * x, ?_, ?_, ?_, ?_, ?_, ?_, by omega⟩
  · rw [← c1]; exact IntWalk.i64_in _ (by omega)
  · rw [← c2]; exact IntWalk.i64_in _ (by omega)
  · exact IntWalk.i64_in _ (by omega)
  · exact IntWalk.i64_in _ (by omega)
  · exact decide_eq_false (by omega)
  · exact decide_eq_false (by omega)
set_option maxRecDepth 100000 in
set_option maxHeartbeats 4000000 in
theorem shares_of (AW : Awk) (SH : Shr) (T : Nat) (A : Option Addr) (n c : Nat) (ws : List Int) (w : World) (h : Wts w A n c ws) (hT : T ≤ 1000000) (ht : Tab w) :
    Calls Tryd.prog 3 #[.int .i64 T, .slice A n c] w (Gives (.bool true) w) := by
  have hc := h.cap
  have hn := h.fewW
  have H := Lib.hid h
  have HL := Lib.hid h.len
  have AH := Lib.hid AW
  have T0 := Lib.hid ht
  have S1 := Lib.hid (SH T A n c ws w h)
  have I0 := Lib.hid (SumIn.zero ws)
  clear h ht AW SH
  go_enter Tryd.func3, Tryd.ntmps3
  go_wp2
  go_loop [5, 6] (fun s i => ∃ (k : Nat) (z : Int), k ≤ n ∧ i = .int .i64 k ∧ s = .int .i64 z ∧ 0 ≤ z ∧ z ≤ 1000000 * k ∧ Hid (SumIn ws k z)) (fun _ i => n - (intOf i).toNat)
  case atStart => exact ⟨0, 0, by omega, by go_num, by go_num, by omega, by omega, I0⟩
  case round =>
    obtain ⟨k, z, hk, rfl, rfl, hz0, hz1, hi⟩ := hrel
    clear I0
    by_cases hlt : k < n
    · obtain ⟨ad, rfl, hb, hcell⟩ := H.out.at_ hlt
      obtain ⟨x, hx⟩ : ∃ x, ws.getD k 0 = x := ⟨_, rfl⟩
      rw [hx] at hcell
      by_cases hx0 : x < 0
      · clear hx hi hb S1
        go_wp2_with fail
        refine (AH.out _ T0.out).mono ?_
        rintro e w9 ⟨rfl, hb⟩
        have B9 := Lib.hid hb
        clear hb
        go_wp2
        go_ret
        exact ⟨rfl, B9.out⟩
      by_cases hx1 : 1000000 < x
      · clear hx hi hb S1
        go_wp2_with fail
        refine (AH.out _ T0.out).mono ?_
        rintro e w9 ⟨rfl, hb⟩
        have B9 := Lib.hid hb
        clear hb
        go_wp2
        go_ret
        exact ⟨rfl, B9.out⟩
      have I1 : Hid (SumIn ws (k + 1) (z + x)) := Lib.hid (hi.out.next (by rw [HL.out]; exact hlt) hx (by omega) (by omega))
      have e1 : IntKind.i64.wrap (z + x) = z + x := IntWalk.i64_in _ (by omega)
      clear hx hi hb S1
      go_wp2
      go_round
      case rel => exact ⟨k + 1, z + x, by omega, by go_num, by go_num, by omega, by omega, I1⟩
      case measure => simp [intOf]; omega
    · have F : Hid (sumR ws = if z = 0 then (0, 6) else (z, 0)) := Lib.hid (hi.out.fin (by rw [HL.out]; omega))
      obtain rfl : k = n := by omega
      have hc0 : chk (T : Int) = 0 := chk_ok (by omega) (by omega)
      by_cases h0 : z = 0
      · subst h0
        have E : shareR T ws = ([], 6) := shareR_sum hc0 (e := 6) (by rw [F.out, if_pos rfl]) (by decide)
        rw [E] at S1
        clear hi E F hc0
        go_wp2_with fail
        refine S1.out.mono ?_
        rintro e w1 ⟨A1, n1, c1, rfl, hw, hb⟩
        obtain rfl : 0 = n1 := hw.len
        have B1 := Lib.hid hb
        clear hw hb S1
        go_wp2_with fail
        refine (AH.out _ (T0.out.keep B1.out)).mono ?_
        rintro e w9 ⟨rfl, hb⟩
        have B9 := Lib.hid (B1.out.trans (hb.mono B1.out.size))
        clear hb
        go_wp2
        go_ret
        exact ⟨rfl, B9.out⟩
      · have hs : (sumR ws).2 = 0 := by rw [F.out, if_neg h0]
        have SI := shareIn_of hc0 hs
        have hsum : ws.sum = z := by
          have := (sumR_zero hs).2.2
          rw [F.out, if_neg h0] at this
          injection this with e
          exact e.symm
        rw [shareR_ok SI] at S1
        obtain ⟨W, rfl⟩ : ∃ W : Nat, z = W := ⟨z.toNat, by omega⟩
        have SH := Lib.hid SI
        have PP : Hid (∀ j, j < k → ∃ x p P X, PA (T : Int) ws j x p ∧ PN T W x p P X) := Lib.hid fun j hj => by
          obtain ⟨x, p, h⟩ := SH.out.pa j (by rw [HL.out]; exact hj)
          obtain ⟨P, X, g⟩ := h.pn hsum hT (by omega)
          exact ⟨x, p, P, X, h, g⟩
        have hz : ((W : Int) == 0) = false := beq_eq_false_iff_ne.2 h0
        have I2 := Lib.hid (SP.zero (T : Int) ws)
        clear hi F hc0 hs SI hsum h0
        go_wp2_with fail
        refine S1.out.mono ?_
        rintro e w1 ⟨A1, n1, c1, rfl, hw, hb⟩
        obtain rfl : k = n1 := by rw [← HL.out, ← hw.len]; exact parts_len.symm
        have B1 := Lib.hid hb
        have L1 := Lib.hid hw
        have hc1 := hw.cap
        have H1 := Lib.hid (H.out.keep hb)
        clear hw hb S1 H
        go_wp2
        clear hk hlt
        go_loopw [9, 10] (fun s i wr => ∃ (j q : Nat) (y : Int), j ≤ k ∧ i = .int .i64 j ∧ s = .int .i64 y ∧ 0 ≤ y ∧ y ≤ 1000000 ∧ Hid (SP (T : Int) ws j y) ∧ wr = w1.drewN q) (fun _ i _ => k - (intOf i).toNat)
        case atStart => exact ⟨0, 0, 0, by omega, by go_num, by go_num, by omega, by omega, I2, rfl⟩
        case round =>
          clear I2
          obtain ⟨j, q, y, hj, rfl, rfl, hy0, hy1, hS, rfl⟩ := hrel
          by_cases hlt : j < k
          · obtain ⟨x, p, P, X, hA, hN⟩ := PP.out j hlt
            obtain ⟨ad1, rfl, hb1, hc1'⟩ := L1.out.at_ hlt
            obtain ⟨ad, rfl, hb, hcl⟩ := H1.out.at_ hlt
            rw [hA.px] at hc1'
            rw [hA.wx] at hcl
            have e1 := hN.e1
            have e2 := hN.e2
            have e3 := hN.e3
            have e4 := hN.e4
            have d1 := hN.d1
            have d2 := hN.d2
            have d3 : decide ((p : Int) < 0) = false := decide_eq_false (by omega)
            have d4 : decide ((T : Int) < (p : Int)) = false := decide_eq_false (by have := hN.pt; omega)
            have d5 : decide (T < p) = false := decide_eq_false (by have := hN.pt; omega)
            have hS2 := Lib.hid (hS.out.next hA (by rw [HL.out]; exact hlt))
            have hr := hS2.out.range SH.out (by rw [HL.out]; exact hlt)
            have e0 : IntKind.i64.wrap (y + (p : Int)) = y + p := IntWalk.i64_in _ (by omega)
            have AA := Lib.hid hA
            clear hb1 hb hA hN hS
            go_wp2
            go_quiet (fail)
            go_wp2
            clear e0 e1 e2 e3 e4 d1 d2 d3 d4 d5
            go_loopw [11] (fun i wr => ∃ (m q : Nat), m ≤ k ∧ i = .int .i64 m ∧ wr = w1.drewN q) (fun i _ => k - (intOf i).toNat)
            case atStart => exact ⟨0, _, by omega, by go_num, World.drewN_drewN _ _ _⟩
            case round =>
              obtain ⟨m, q2, hm, rfl, rfl⟩ := hrel
              by_cases hml : m < k
              · obtain ⟨x2, p2, P2, X2, hA2, _⟩ := PP.out m hml
                obtain ⟨ad3, e5, _, hm1⟩ := L1.out.at_ hml
                injection e5 with e5
                subst e5
                obtain ⟨ad4, e6, _, hm2⟩ := H1.out.at_ hml
                injection e6 with e6
                subst e6
                rw [hA2.px] at hm1
                rw [hA2.wx] at hm2
                by_cases hg : x2 < x
                · have hle := AA.out.mono hA2 (by rw [HL.out]; exact hlt) (by rw [HL.out]; exact hml) hg
                  have g1 : decide ((x2 : Int) < (x : Int)) = true := decide_eq_true (by omega)
                  have g2 : decide (x2 < x) = true := decide_eq_true hg
                  have g3 : decide ((p : Int) < (p2 : Int)) = false := decide_eq_false (by omega)
                  have g4 : decide (p < p2) = false := decide_eq_false (by omega)
                  clear hA2
                  go_wp2
                  go_quiet (fail)
                  go_wp2
                  go_roundw
                  case rel => exact ⟨m + 1, _, by omega, by go_num, rfl⟩
                  case measure => simp [intOf]; omega
                · have g1 : decide ((x2 : Int) < (x : Int)) = false := decide_eq_false (by omega)
                  have g2 : decide (x2 < x) = false := decide_eq_false hg
                  clear hA2
                  go_wp2
                  go_quiet (fail)
                  go_wp2
                  go_roundw
                  case rel => exact ⟨m + 1, _, by omega, by go_num, rfl⟩
                  case measure => simp [intOf]; omega
              · obtain rfl : m = k := by omega
                go_wp2
                go_roundw
                case rel => exact ⟨j + 1, _, y + p, by omega, by go_num, by go_num, hr.1, hr.2, hS2, rfl⟩
                case measure => simp [intOf]; omega
          · obtain rfl : j = k := by omega
            have E : (y == (T : Int)) = true := by have := hS.out; rw [← HL.out] at this; have := this.fin SH.out; subst this; simp
            have B2 := Lib.hid (below_drewN B1.out q)
            clear hS
            go_wp2_with fail
            refine (AH.out _ (T0.out.keep B2.out)).mono ?_
            rintro e w9 ⟨rfl, hb⟩
            have B9 := Lib.hid (B2.out.trans (hb.mono B2.out.size))
            clear hb
            go_wp2
            go_ret
            exact ⟨rfl, B9.out⟩
set_option maxRecDepth 100000 in
set_option maxHeartbeats 1000000 in
theorem shares_out (AW : Awk) (t : Int) (A : Option Addr) (n c : Nat) (w : World) (hn : 40 < n ∨ t < 0 ∨ 1000000 < t) (hm : n ≤ 9223372036854775807) (ht : Tab w) :
    Calls Tryd.prog 3 #[.int .i64 t, .slice A n c] w (Gives (.bool true) w) := by
  have AH := Lib.hid (AW w ht)
  clear ht AW
  by_cases h1 : 40 < n
  · clear hn
    go_enter Tryd.func3, Tryd.ntmps3
    go_wp2_with fail
    refine AH.out.mono ?_
    rintro e w4 ⟨rfl, hb⟩
    have B4 := Lib.hid hb
    clear hb
    go_wp2
    go_ret
    exact ⟨rfl, B4.out⟩
  by_cases h2 : t < 0
  · clear hn
    go_enter Tryd.func3, Tryd.ntmps3
    go_wp2_with fail
    refine AH.out.mono ?_
    rintro e w4 ⟨rfl, hb⟩
    have B4 := Lib.hid hb
    clear hb
    go_wp2
    go_ret
    exact ⟨rfl, B4.out⟩
  have h3 : 1000000 < t := by omega
  clear hn
  go_enter Tryd.func3, Tryd.ntmps3
  go_wp2_with fail
  refine AH.out.mono ?_
  rintro e w4 ⟨rfl, hb⟩
  have B4 := Lib.hid hb
  clear hb
  go_wp2
  go_ret
  exact ⟨rfl, B4.out⟩
theorem shares_walk_of (AW : Awk) (SH : Shr) (t : Int) (A : Option Addr) (n c : Nat) (zs : List Int) (w : World) (h : IsRow .i64 w A n c zs) (ht : Tab w) :
    Calls Tryd.prog 3 #[.int .i64 t, .slice A n c] w (Gives (.bool true) w) := by
  by_cases h1 : 40 < n ∨ t < 0 ∨ 1000000 < t
  · exact shares_out AW t A n c w h1 h.le.2 ht
  · obtain ⟨T, rfl⟩ : ∃ T : Nat, t = T := ⟨t.toNat, by omega⟩
    exact shares_of AW SH T A n c _ w (h.wts (by omega)) (by omega) ht
end Go.Proofs.YtbllnkhbahenkaaDoor
