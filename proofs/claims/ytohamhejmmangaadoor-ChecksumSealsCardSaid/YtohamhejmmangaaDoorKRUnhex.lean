/- The contract of the reference's Unhex: no claim of its own. -/
import Derived.Test.YtohamhejmmangaaDoorKUnhex
namespace Go.Proofs.YtohamhejmmangaaDoor
open Go.RowKit
/-- The digit's value, or -1. -/
def digZ (c : UInt8) : Int := if isHex c then (hexV c : Int) else -1
/-- The value after the first j digits have been held against c. -/
def digUpto (c : UInt8) : Nat → Int
  | 0 => -1
  | j + 1 => if c = hexD j then (j : Int) else digUpto c j
theorem digUpto_range (c : UInt8) (j : Nat) : -1 ≤ digUpto c j ∧ digUpto c j < 16 ∨ 16 < j := by
  induction j with
  | zero => left; exact ⟨by unfold digUpto; omega, by unfold digUpto; omega⟩
  | succ j ih =>
    rcases Nat.lt_or_ge 16 (j + 1) with h | h
    · right; exact h
    · left
      unfold digUpto
      split
      · omega
      · omega
theorem digUpto_all (c : UInt8) : digUpto c 16 = digZ c := by
  revert c
  have : ∀ n : Fin 256, digUpto (UInt8.ofNat n.val) 16 = digZ (UInt8.ofNat n.val) := by decide +kernel
  intro c
  have h := this ⟨c.toNat, c.toNat_lt⟩
  rw [UInt8.ofNat_toNat] at h
  exact h
theorem tab_eq (c : UInt8) (j : Nat) (h : j < 16) : ((c.toNat : Int) == (((⟨#[48, 49, 50, 51, 52, 53, 54, 55, 56, 57, 97, 98, 99, 100, 101, 102]⟩ : ByteArray)[j]'h).toNat : Int)) = decide (c = hexD j) := by
  rw [tab_at j h]
  by_cases e : c = hexD j
  · subst e; simp
  · have : c.toNat ≠ (hexD j).toNat := fun g => e (UInt8.toNat_inj.1 g)
    simp only [e, decide_false]
    exact beq_eq_false_iff_ne.2 (by omega)
set_option maxRecDepth 100000 in
set_option maxHeartbeats 2000000 in
theorem runhex_any (s : ByteArray) (hs : s.size ≤ 9223372036854775807) (w : World) :
    Calls Tryd.prog 26 #[.string s] w fun e w' => e = .returned (.tuple #[.int .u64 (unhexVal s.data.toList : Nat), .int .i64 (unhexErr s.data.toList : Nat)]) ∧ ∃ n, w' = w.drewN n := by
  have hl := size_list s
  by_cases h16 : s.size = 16
  · have hne : ((s.size : Int) != 16) = false := bne_eq_false_iff_eq.2 (by omega)
    have H16 := Lib.hid h16
    have hz : s.size ≤ 16 := by omega
    have hz2 : 16 ≤ s.size := by omega
    clear hl h16
    go_enter Tryd.func26, Tryd.ntmps26
    go_wp2
    go_loopw [4, 5] (fun v i wr => ∃ k n : Nat, k ≤ 16 ∧ wr = w.drewN n ∧ i = .int .i64 k ∧ v = .int .u64 (hexVal (s.data.toList.take k) : Nat) ∧ Hid ((s.data.toList.take k).all isHex = true)) (fun _ i _ => 16 - (intOf i).toNat)
    case atStart => exact ⟨0, 0, by omega, rfl, rfl, rfl, Lib.hid rfl⟩
    case round =>
      obtain ⟨k, n, hk, rfl, rfl, rfl, ha⟩ := hrel
      by_cases hlt : k < 16
      · have hks : k < s.size := by omega
        have hb8 : s[k].toNat < 256 := s[k].toNat_lt
        obtain ⟨wo, hwo⟩ : ∃ wo : World, wo = w.drewN n := ⟨_, rfl⟩
        rw [← hwo]
        have HW := Lib.hid hwo
        clear hwo
        have HA := Lib.hid (fun (hc : isHex s[k] = true) => all_take s k hks ha.out hc)
        have HA0 := Lib.hid ha.out
        have HN := Lib.hid (fun (hc : isHex s[k] = false) => not_all s k hks hc)
        have HT := Lib.hid (fun j (hj : j < 16) => tab_eq s[k] j hj)
        have HY : Hid (hexVal (s.data.toList.take (k + 1)) = hexVal (s.data.toList.take k) * 16 + hexV s[k]) := Lib.hid (by rw [take_snoc' s k hks, hexVal_snoc])
        clear ha
        go_wp2
        go_loopw [6, 7] (fun d i wr => ∃ j m : Nat, j ≤ 16 ∧ wr = wo.drewN m ∧ i = .int .i64 j ∧ d = .int .i64 (digUpto s[k] j)) (fun _ i _ => 16 - (intOf i).toNat)
        case atStart => exact ⟨0, 0, by omega, rfl, rfl, rfl⟩
        case round =>
          obtain ⟨j, m, hj, rfl, rfl, rfl⟩ := hrel
          by_cases hlj : j < 16
          · have hT := HT.out j hlj
            by_cases hc : s[k] = hexD j
            · have hD : Hid (digUpto s[k] (j + 1) = (j : Int)) := Lib.hid (if_pos hc)
              rw [decide_eq_true hc] at hT
              clear hc
              generalize digUpto s[k] j = u at *
              go_wp2_with fail
              go_quiet (fail)
              go_wp2
              go_roundw
              case rel => exact ⟨j + 1, m + nq, by omega, rfl, by go_num, by rw [hD.out]⟩
              case measure => simp [intOf]; omega
            · have hD : Hid (digUpto s[k] (j + 1) = digUpto s[k] j) := Lib.hid (if_neg hc)
              rw [decide_eq_false hc] at hT
              clear hc
              generalize digUpto s[k] j = u at *
              go_wp2_with fail
              go_quiet (fail)
              go_wp2
              go_roundw
              case rel => exact ⟨j + 1, m + nq, by omega, rfl, by go_num, by rw [hD.out]⟩
              case measure => simp [intOf]; omega
          · obtain rfl : j = 16 := by omega
            rw [digUpto_all]
            have hy : hexVal (s.data.toList.take k) < 1152921504606846976 := by
              have h1 := hexVal_lt _ HA0.out
              have h2 : (16 : Nat) ^ (s.data.toList.take k).length ≤ 16 ^ 15 := Nat.pow_le_pow_right (by decide) (by rw [List.length_take]; omega)
              exact Nat.lt_of_lt_of_le h1 h2
            by_cases hc : isHex s[k] = true
            · have hv := (hexD_V s[k] hc).2
              have R := Lib.hid (HA.out hc)
              rw [show digZ s[k] = (hexV s[k] : Int) from if_pos hc]
              clear HT HN HA hc
              generalize hexVal (s.data.toList.take k) = y at *
              generalize hexV s[k] = d at *
              go_wp2
              go_roundw
              case rel => exact ⟨k + 1, n + m, by omega, by rw [HW.out, World.drewN_drewN], by go_num, by rw [HY.out]; go_num, R⟩
              case measure => simp [intOf]; omega
            · have hcf : isHex s[k] = false := by simpa using hc
              have e := HN.out hcf
              have F : Hid ((.returned (.tuple #[.int .u64 0, .int .i64 2]) : Ending) = .returned (.tuple #[.int .u64 (unhexVal s.data.toList : Nat), .int .i64 (unhexErr s.data.toList : Nat)]) ∧ ∃ n, wo.drewN m = w.drewN n) := Lib.hid (by
                rw [unhexVal_bad _ e, e]
                exact ⟨rfl, n + m, by rw [HW.out, World.drewN_drewN]⟩)
              rw [show digZ s[k] = -1 from if_neg hc]
              clear HT HN HA hc hcf e
              generalize hexVal (s.data.toList.take k) = y at *
              go_wp2
              go_ret2
              exact F.out
      · obtain rfl : k = 16 := by omega
        have F : Hid ((.returned (.tuple #[.int .u64 (hexVal (s.data.toList.take 16) : Nat), .int .i64 0]) : Ending) = .returned (.tuple #[.int .u64 (unhexVal s.data.toList : Nat), .int .i64 (unhexErr s.data.toList : Nat)]) ∧ ∃ m, w.drewN n = w.drewN m) := Lib.hid (by
          have a := ha.out
          have hl := size_list s
          rw [List.take_of_length_le (by omega)] at a ⊢
          have e : unhexErr s.data.toList = 0 := if_pos ⟨by rw [hl]; exact H16.out, a⟩
          have e2 : unhexVal s.data.toList = hexVal s.data.toList := if_pos e
          rw [e2, e]
          exact ⟨rfl, n, rfl⟩)
        clear ha
        generalize hexVal (s.data.toList.take 16) = y at *
        go_wp2
        go_ret2
        exact F.out
  · have hne : ((s.size : Int) != 16) = true := bne_iff_ne.2 (by omega)
    have e : unhexErr s.data.toList = 2 := if_neg fun h => h16 (by rw [← hl]; exact h.1)
    have e2 := unhexVal_bad _ e
    rw [e, e2]
    clear hl h16 e e2
    go_enter Tryd.func26, Tryd.ntmps26
    go_wp2
    go_ret2
    exact ⟨rfl, 0, rfl⟩
end Go.Proofs.YtohamhejmmangaaDoor
