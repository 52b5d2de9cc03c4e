/- Contracts of Valid, few, Same, small, order: no claim of its own. -/
import Derived.Test.YtgmjpkkpkdcncaaGreatDoorBase
import Derived.WalkSmall
namespace Go.Proofs.YtgmjpkkpkdcncaaGreatDoor
open Go.RowKit
def tightB (xs : List Nat) : Bool := xs.length == 0 || xs.getD (xs.length - 1) 0 != 0
theorem tightB_iff (xs : List Nat) : tightB xs = true ↔ Tight xs := by
  unfold tightB Tight; simp
/-- A call hands back the value v; nothing that was there has turned. -/
def Gives (v : Value) (w : World) (e : Ending) (w' : World) : Prop := e = .returned v ∧ Below w.heap.size w w'
set_option maxRecDepth 100000 in
set_option maxHeartbeats 400000 in
theorem rvalid_any (A : Option Addr) (n c : Nat) (xs : List Nat) (w : World) (h : Lst w A n c xs) :
    Calls Tryz.prog 53 #[.slice A n c] w fun e w' => e = .returned (.bool (tightB xs)) ∧ w = w' := by
  have hr := h.room
  have hc := h.cap
  rcases Nat.eq_zero_or_pos n with h0 | h0
  · subst h0
    have e : Hid (tightB xs = true) := Lib.hid (by unfold tightB; rw [h.len]; rfl)
    clear h
    go_enter Tryz.func53, Tryz.ntmps53
    go_wp2
    go_ret
    exact ⟨by rw [e.out]; rfl, rfl⟩
  · obtain ⟨ad, rfl, hb, hcell⟩ := h.at_ (k := n - 1) (by omega)
    have hn : ((n : Int) == 0) = false := by simp; omega
    have e : Hid (tightB xs = (xs.getD (n - 1) 0 != 0)) := Lib.hid (by unfold tightB; rw [h.len]; have : (n == 0) = false := by simp; omega
                                                                       rw [this]; rfl)
    clear h hb
    generalize xs.getD (n - 1) 0 = d at *
    by_cases hd : d = 0
    · subst hd
      go_enter Tryz.func53, Tryz.ntmps53
      go_wp2
      go_ret
      exact ⟨by rw [e.out]; rfl, rfl⟩
    · have h1 : ((d : Int) != 0) = true := by simpa using hd
      have h2 : Hid ((d != 0) = true) := Lib.hid (by simpa using hd)
      clear hd
      go_enter Tryz.func53, Tryz.ntmps53
      go_wp2
      go_ret
      exact ⟨by rw [e.out, h2.out]; rfl, rfl⟩
theorem small_any (A : Option Addr) (n c : Nat) (w : World) (hn : n ≤ 35184372088832) :
    Calls Tryz.prog 75 #[.slice A n c] w fun e w' => e = .returned (.bool (decide (n ≤ 2))) ∧ w = w' := by
  go_enter Tryz.func75, Tryz.ntmps75
  go_wp2
  go_ret
  exact ⟨by simp; omega, rfl⟩
theorem order_any (b : Bool) (w : World) :
    Calls Tryz.prog 87 #[.bool b] w fun e w' => e = .returned (.int .i64 (if b then -1 else 1)) ∧ w = w' := by
  cases b
  all_goals
    go_enter Tryz.func87, Tryz.ntmps87
    go_wp2
    go_ret
    exact ⟨rfl, rfl⟩
end Go.Proofs.YtgmjpkkpkdcncaaGreatDoor
