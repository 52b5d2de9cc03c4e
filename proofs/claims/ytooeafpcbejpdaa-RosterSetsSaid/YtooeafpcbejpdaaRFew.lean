/- few of chapter 9's law: no claim of its own. -/
import Derived.Test.YtooeafpcbejpdaaGBd
namespace Go.Proofs.Ytooeafpcbejpdaa
open Go.RowKit
open MR (Bd)
def GivesFew (L : List Bd) (w : World) (e : Ending) (w' : World) : Prop := ∃ b, e = .returned (.bool b) ∧ (b = true → L.length ≤ 12) ∧ Below w.heap.size w w'
set_option maxRecDepth 100000 in
set_option maxHeartbeats 1000000 in
theorem few_any (A : Option Addr) (n c : Nat) (L : List Bd) (w : World) (h : Lst bdE w A n c L) :
    Calls Try.prog 12 #[.slice A n c] w (GivesFew L w) := by
  have hn := h.few
  have hc := h.cap
  have HL := Lib.hid h.len
  have H := Lib.hid h
  clear h
  by_cases h12 : 12 < n
  · go_enter Try.func12, Try.ntmps12
    go_wp2
    go_ret
    exact ⟨false, rfl, fun h => by (cases h), Below.refl _ _⟩
  have d12 : decide (12 < (n : Int)) = false := decide_eq_false (by omega)
  go_enter Try.func12, Try.ntmps12
  go_wp2
  go_loop [3] (fun i => ∃ k : Nat, k ≤ n ∧ i = .int .i64 k) (fun i => n - (intOf i).toNat)
  case atStart => exact ⟨0, Nat.zero_le _, rfl⟩
  case round =>
    obtain ⟨k, hk, rfl⟩ := hrel
    by_cases hlt : k < n
    · obtain ⟨ad, p, rfl, q1, hfi, hbk, x0, x1, x2, x3⟩ := bd_at H.out hlt
      have hf := hfi.1
      have hz := str_size p.name
      clear q1 hbk hfi
      obtain ⟨pn, ps, pr, pp⟩ := p
      simp only at *
      generalize str pn = s at *
      rw [← hz] at hf
      clear hz
      by_cases h40 : 40 < s.size
      · have d : decide (40 < (s.size : Int)) = true := decide_eq_true (by omega)
        go_wp2
        go_ret
        exact ⟨false, rfl, fun h => by (cases h), Below.refl _ _⟩
      · have d : decide (40 < (s.size : Int)) = false := decide_eq_false (by omega)
        go_wp2
        go_round
        case rel => exact ⟨k + 1, by omega, by go_num⟩
        case measure => simp [intOf]; omega
    · go_wp2
      go_ret
      exact ⟨true, rfl, fun _ => by rw [HL.out]; omega, Below.refl _ _⟩
end Go.Proofs.Ytooeafpcbejpdaa
