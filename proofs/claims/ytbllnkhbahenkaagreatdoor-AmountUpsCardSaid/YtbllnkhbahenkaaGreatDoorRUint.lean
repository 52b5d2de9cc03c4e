/- The contract of the reference's Uint: no claim of its own. -/
import Derived.Test.YtbllnkhbahenkaaGreatDoorRMul
import Derived.Test.YtbllnkhbahenkaaGreatDoorCmp
import Derived.Test.YtbllnkhbahenkaaGreatDoorDivS
namespace Go.Proofs.YtbllnkhbahenkaaGreatDoor
open Go.RowKit
def RUintInv (xs : List Nat) (k x : Nat) : Prop := dval (xs.drop k) = x
set_option maxRecDepth 100000 in
set_option maxHeartbeats 400000 in
theorem ruint_any (A : Option Addr) (n c a : Nat) (xs : List Nat) (w : World) (h : Num w A n c xs a) :
    Calls Tryz.prog 108 #[.slice A n c] w fun e w' => e = .returned (.tuple #[.int .u64 ((if n ≤ 2 then a else 0 : Nat) : Int), .bool (decide (n ≤ 2))]) ∧ w = w' := by
  have hr := h.room
  have H := Lib.hid h
  by_cases hn : n ≤ 2
  · rw [if_pos hn, decide_eq_true hn]
    have I0 : Hid (RUintInv xs n 0) := Lib.hid (by unfold RUintInv; rw [List.drop_eq_nil_of_le (by have := h.len; omega)]; rfl)
    clear h
    go_enter Tryz.func108, Tryz.ntmps108
    go_wp2
    go_loop [4, 5] (fun xv i => ∃ k x : Nat, k ≤ n ∧ i = .int .i64 ((k : Int) - 1) ∧ xv = .int .u64 x ∧ (k = 2 → x = 0) ∧ (k = 1 → x < 4294967296) ∧ Hid (RUintInv xs k x)) (fun _ i => (intOf i + 1).toNat)
    case atStart => exact ⟨n, 0, by omega, by go_num, rfl, fun _ => rfl, fun _ => by decide, I0⟩
    case round =>
      obtain ⟨k, x, hk, rfl, rfl, hx2, hx1, hi⟩ := hrel
      rcases k with _ | k
      · have F : Hid (x = a) := Lib.hid (by have := hi.out; unfold RUintInv at this; rw [← H.out.val]; simpa using this.symm)
        clear hi hx2 hx1
        go_wp2
        go_ret2
        exact ⟨by rw [F.out]; rfl, rfl⟩
      · obtain ⟨ad, rfl, _, hc⟩ := H.out.toLst.at_ (k := k) (by omega)
        have hd := H.out.toLst.getD_lt k
        have hxb : x < 4294967296 := by
          rcases Nat.lt_or_ge 1 (k + 1) with h1 | h1
          · have := hx2 (by omega); omega
          · exact hx1 (by omega)
        have hk1 : k = 0 ∨ k = 1 := by omega
        have hx0 : k = 1 → x = 0 := fun h => hx2 (by omega)
        have R : Hid (RUintInv xs k (x * 4294967296 + xs.getD k 0)) := Lib.hid (by
          have := hi.out
          unfold RUintInv at this ⊢
          rw [dval_drop xs k (by have := H.out.len; omega), this]
          omega)
        clear hi hx2 hx1
        generalize xs.getD k 0 = y at *
        go_wp2
        go_round
        case rel => exact ⟨k, x * 4294967296 + y, by omega, by go_num, by go_num, fun h => by omega, fun h => by have := hx0 h; omega, R⟩
        case measure => simp [intOf]; try omega
  · rw [if_neg hn, decide_eq_false hn]
    clear h
    go_enter Tryz.func108, Tryz.ntmps108
    go_wp2
    go_ret2
    exact ⟨rfl, rfl⟩
end Go.Proofs.YtbllnkhbahenkaaGreatDoor
