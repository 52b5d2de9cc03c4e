/- Contracts of Valid, few, Same, small, order: no claim of its own. -/
import Derived.Test.YtgmjpkkpkdcncaaDoorBase
import Derived.WalkSmall
namespace Go.Proofs.YtgmjpkkpkdcncaaDoor
open Go.RowKit
def tightB (xs : List Nat) : Bool := xs.length == 0 || xs.getD (xs.length - 1) 0 != 0
theorem tightB_iff (xs : List Nat) : tightB xs = true ↔ Tight xs := by
  unfold tightB Tight; simp
/-- A call hands back the value v; nothing that was there has turned. -/
def Gives (v : Value) (w : World) (e : Ending) (w' : World) : Prop := e = .returned v ∧ Below w.heap.size w w'
set_option maxRecDepth 100000 in
set_option maxHeartbeats 400000 in
theorem valid_any (A : Option Addr) (n c : Nat) (xs : List Nat) (w : World) (h : Lst w A n c xs) :
    Calls Tryd.prog 7 #[.slice A n c] w fun e w' => e = .returned (.bool (tightB xs)) ∧ w = w' := by
  have hr := h.room
  have hc := h.cap
  rcases Nat.eq_zero_or_pos n with h0 | h0
  · subst h0
    have e : Hid (tightB xs = true) := Lib.hid (by unfold tightB; rw [h.len]; rfl)
    clear h
    go_enter Tryd.func7, Tryd.ntmps7
    go_wp2
    go_ret
    exact ⟨by rw [e.out]; rfl, rfl⟩
  · obtain ⟨ad, rfl, hb, hcell⟩ := h.at_ (k := n - 1) (by omega)
    have hn : ((n : Int) == 0) = false := by simp; omega
    have e : Hid (tightB xs = (xs.getD (n - 1) 0 != 0)) := Lib.hid (by unfold tightB; rw [h.len]; have : (n == 0) = false := by simp; omega
                                                                       rw [this]; rfl)
    clear h hb
    generalize xs.getD (n - 1) 0 = d at *
    by_cases hd : d = 0
    · subst hd
      go_enter Tryd.func7, Tryd.ntmps7
      go_wp2
      go_ret
      exact ⟨by rw [e.out]; rfl, rfl⟩
    · have h1 : ((d : Int) != 0) = true := by simpa using hd
      have h2 : Hid ((d != 0) = true) := Lib.hid (by simpa using hd)
      clear hd
      go_enter Tryd.func7, Tryd.ntmps7
      go_wp2
      go_ret
      exact ⟨by rw [e.out, h2.out]; rfl, rfl⟩
set_option maxRecDepth 100000 in
set_option maxHeartbeats 400000 in
theorem rvalid_any (A : Option Addr) (n c : Nat) (xs : List Nat) (w : World) (h : Lst w A n c xs) :
    Calls Tryd.prog 8 #[.slice A n c] w fun e w' => e = .returned (.bool (tightB xs)) ∧ w = w' := by
  have hr := h.room
  have hc := h.cap
  rcases Nat.eq_zero_or_pos n with h0 | h0
  · subst h0
    have e : Hid (tightB xs = true) := Lib.hid (by unfold tightB; rw [h.len]; rfl)
    clear h
    go_enter Tryd.func8, Tryd.ntmps8
    go_wp2
    go_ret
    exact ⟨by rw [e.out]; rfl, rfl⟩
  · obtain ⟨ad, rfl, hb, hcell⟩ := h.at_ (k := n - 1) (by omega)
    have hn : ((n : Int) == 0) = false := by simp; omega
    have e : Hid (tightB xs = (xs.getD (n - 1) 0 != 0)) := Lib.hid (by unfold tightB; rw [h.len]; have : (n == 0) = false := by simp; omega
                                                                       rw [this]; rfl)
    clear h hb
    generalize xs.getD (n - 1) 0 = d at *
    by_cases hd : d = 0
    · subst hd
      go_enter Tryd.func8, Tryd.ntmps8
      go_wp2
      go_ret
      exact ⟨by rw [e.out]; rfl, rfl⟩
    · have h1 : ((d : Int) != 0) = true := by simpa using hd
      have h2 : Hid ((d != 0) = true) := Lib.hid (by simpa using hd)
      clear hd
      go_enter Tryd.func8, Tryd.ntmps8
      go_wp2
      go_ret
      exact ⟨by rw [e.out, h2.out]; rfl, rfl⟩
set_option maxRecDepth 100000 in
set_option maxHeartbeats 400000 in
theorem few_any (A : Option Addr) (n c : Nat) (xs : List Nat) (k : Nat) (w : World) (h : Lst w A n c xs) (hk : k ≤ 1000000) :
    Calls Tryd.prog 9 #[.slice A n c, .int .i64 k] w fun e w' => e = .returned (.bool (decide (n ≤ k) && tightB xs)) ∧ w = w' := by
  have hr := h.room
  have H := Lib.hid h
  clear h
  by_cases hnk : n ≤ k
  · have e : Hid (decide (n ≤ k) = true) := Lib.hid (by simpa using hnk)
    go_enter Tryd.func9, Tryd.ntmps9
    go_wp2_with fail
    refine (rvalid_any A n c xs _ H.out).mono ?_
    rintro e' w' ⟨rfl, rfl⟩
    go_wp2
    go_ret
    exact ⟨by rw [e.out]; rfl, rfl⟩
  · have e : Hid (decide (n ≤ k) = false) := Lib.hid (by simpa using hnk)
    go_enter Tryd.func9, Tryd.ntmps9
    go_wp2
    go_ret
    exact ⟨by rw [e.out]; rfl, rfl⟩
set_option maxRecDepth 100000 in
set_option maxHeartbeats 400000 in
theorem same_yes (A B : Option Addr) (n c m d : Nat) (xs : List Nat) (w : World) (h : Lst w A n c xs) (h' : Lst w B m d xs) :
    Calls Tryd.prog 13 #[.slice A n c, .slice B m d] w (Gives (.bool true) w) := by
  obtain rfl : n = m := h.len.symm.trans h'.len
  have hr := h.room
  have hc := h.cap
  have H := Lib.hid h
  have H' := Lib.hid h'
  clear h h'
  go_enter Tryd.func13, Tryd.ntmps13
  go_wp2
  go_loopw [5] (fun i wr => ∃ k q : Nat, k ≤ n ∧ i = .int .i64 k ∧ wr = w.drewN q) (fun i _ => n - (intOf i).toNat)
  case atStart => exact ⟨0, 0, by omega, rfl, rfl⟩
  case round =>
    obtain ⟨k, q, hk, rfl, rfl⟩ := hrel
    by_cases hlt : k < n
    · obtain ⟨ad, rfl, hb, hcell⟩ := H.out.at_ hlt
      obtain ⟨ad', rfl, hb', hcell'⟩ := H'.out.at_ hlt
      generalize xs.getD k 0 = x at *
      clear hb hb'
      go_wp2
      go_quiet (fail)
      go_wp2
      go_roundw
      case rel => exact ⟨k + 1, _, by omega, by go_num, rfl⟩
      case measure => simp [intOf]; omega
    · go_wp2
      go_ret
      exact ⟨rfl, by first | exact (Below.refl _ _) | exact below_drewN (Below.refl _ _) _⟩
theorem small_any (A : Option Addr) (n c : Nat) (w : World) (hn : n ≤ 35184372088832) :
    Calls Tryd.prog 41 #[.slice A n c] w fun e w' => e = .returned (.bool (decide (n ≤ 2))) ∧ w = w' := by
  go_enter Tryd.func41, Tryd.ntmps41
  go_wp2
  go_ret
  exact ⟨by simp; omega, rfl⟩
theorem order_any (b : Bool) (w : World) :
    Calls Tryd.prog 38 #[.bool b] w fun e w' => e = .returned (.int .i64 (if b then -1 else 1)) ∧ w = w' := by
  cases b
  all_goals
    go_enter Tryd.func38, Tryd.ntmps38
    go_wp2
    go_ret
    exact ⟨rfl, rfl⟩
end Go.Proofs.YtgmjpkkpkdcncaaDoor
