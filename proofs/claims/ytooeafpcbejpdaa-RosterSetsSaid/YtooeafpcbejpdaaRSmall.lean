/- Has, Bit, the program's has, lists compared: no claim of its own. -/
import Derived.Test.YtooeafpcbejpdaaGBd
import Derived.BigQuiet
namespace Go.Proofs.Ytooeafpcbejpdaa
open Go.RowKit
open MR (Bd)
set_option maxRecDepth 100000 in
set_option maxHeartbeats 1000000 in
theorem sameInts_yes (A B : Option Addr) (n c m d : Nat) (xs : List Int) (w : World) (h : Lst intE w A n c xs) (h' : Lst intE w B m d xs) :
    Calls Try.prog 9 #[.slice A n c, .slice B m d] w (Gives (.bool true) w) := by
  obtain rfl : n = m := h.len.symm.trans h'.len
  have hn := h.few
  have hc := h.cap
  have hd := h'.cap
  have H := Lib.hid h
  have H' := Lib.hid h'
  clear h h'
  go_enter Try.func9, Try.ntmps9
  go_wp2
  go_loopw [5] (fun i wr => ∃ k q : Nat, k ≤ n ∧ i = .int .i64 k ∧ wr = w.drewN q) (fun i _ => n - (intOf i).toNat)
  case atStart => exact ⟨0, 0, by omega, rfl, rfl⟩
  case round =>
    obtain ⟨k, q, hk, rfl, rfl⟩ := hrel
    by_cases hlt : k < n
    · obtain ⟨ad, x, rfl, e1, _, hb, hcell⟩ := int_at H.out hlt
      obtain ⟨ad', x', rfl, e2, _, hb', hcell'⟩ := int_at H'.out hlt
      obtain rfl : x = x' := by rw [e1] at e2; injection e2
      clear hb hb' e1 e2
      go_wp2
      go_quiet (fail)
      go_wp2
      go_roundw
      case rel => exact ⟨k + 1, _, by omega, by go_num, rfl⟩
      case measure => simp [intOf]; omega
    · go_wp2
      go_ret
      exact ⟨rfl, by first | exact (Below.refl _ _) | exact below_drewN (Below.refl _ _) _⟩
set_option maxRecDepth 100000 in
set_option maxHeartbeats 1000000 in
theorem sameTexts_yes (A B : Option Addr) (n c m d : Nat) (xs : List (List UInt8)) (w : World) (h : Lst strE w A n c xs) (h' : Lst strE w B m d xs) :
    Calls Try.prog 21 #[.slice A n c, .slice B m d] w (Gives (.bool true) w) := by
  obtain rfl : n = m := h.len.symm.trans h'.len
  have hn := h.few
  have hc := h.cap
  have hd := h'.cap
  have H := Lib.hid h
  have H' := Lib.hid h'
  clear h h'
  go_enter Try.func21, Try.ntmps21
  go_wp2
  go_loopw [5] (fun i wr => ∃ k q : Nat, k ≤ n ∧ i = .int .i64 k ∧ wr = w.drewN q) (fun i _ => n - (intOf i).toNat)
  case atStart => exact ⟨0, 0, by omega, rfl, rfl⟩
  case round =>
    obtain ⟨k, q, hk, rfl, rfl⟩ := hrel
    by_cases hlt : k < n
    · obtain ⟨ad, x, rfl, e1, _, hb, hcell⟩ := str_at H.out hlt
      obtain ⟨ad', x', rfl, e2, _, hb', hcell'⟩ := str_at H'.out hlt
      obtain rfl : x = x' := by rw [e1] at e2; injection e2
      have ht : ((str x).toList == (str x).toList) = true := test_yes rfl
      generalize str x = s at *
      clear hb hb' e1 e2
      go_wp2
      go_quiet (fail)
      go_wp2
      go_roundw
      case rel => exact ⟨k + 1, _, by omega, by go_num, rfl⟩
      case measure => simp [intOf]; omega
    · go_wp2
      go_ret
      exact ⟨rfl, by first | exact (Below.refl _ _) | exact below_drewN (Below.refl _ _) _⟩
end Go.Proofs.Ytooeafpcbejpdaa
