/- Contracts of low, Uint: no claim of its own. -/
import Derived.Test.YtgmjpkkpkdcncaaDoorNCmp
import Derived.Test.YtgmjpkkpkdcncaaDoorOr
namespace Go.Proofs.YtgmjpkkpkdcncaaDoor
open Go.RowKit
theorem low_zero (A : Option Addr) (c : Nat) (w : World) :
    Calls Tryd.prog 44 #[.slice A 0 c] w fun e w' => e = .returned (.int .u64 0) ∧ w = w' := by
  go_enter Tryd.func44, Tryd.ntmps44
  go_wp2
  refine wp_loop_rounds 1 ?_
  rw [rounds_succ]
  go_wp2
  go_ret
  exact ⟨rfl, rfl⟩
theorem low_one (ad : Addr) (c : Nat) (x : Nat) (hx : x < 4294967296) (w : World) (hc : w.cell? ad = some (.int .u32 (x : Int))) :
    Calls Tryd.prog 44 #[.slice (some ad) 1 c] w fun e w' => e = .returned (.int .u64 (x : Int)) ∧ w = w' := by
  have h0 := bits_zero_lo x hx
  go_enter Tryd.func44, Tryd.ntmps44
  go_wp2
  refine wp_loop_rounds 2 ?_
  rw [rounds_succ]
  go_wp2
  rw [rounds_succ]
  go_wp2
  go_ret
  exact ⟨rfl, rfl⟩
set_option maxRecDepth 100000 in
set_option maxHeartbeats 400000 in
theorem low_two (ad : Addr) (c : Nat) (x y : Nat) (hx : x < 4294967296) (hy : y < 4294967296) (w : World) (hc : w.cell? ad = some (.int .u32 (x : Int))) (hc1 : w.cell? ⟨ad.block, ad.off + 1, none⟩ = some (.int .u32 (y : Int))) :
    Calls Tryd.prog 44 #[.slice (some ad) 2 c] w fun e w' => e = .returned (.int .u64 ((x + y * 4294967296 : Nat) : Int)) ∧ w = w' := by
  have h0 := bits_zero_lo x hx
  have h1 := bits_lo_hi x y hy hx
  go_enter Tryd.func44, Tryd.ntmps44
  go_wp2
  refine wp_loop_rounds 3 ?_
  rw [rounds_succ]
  go_wp2
  rw [rounds_succ]
  go_wp2
  rw [rounds_succ]
  go_wp2
  go_ret
  exact ⟨by go_num, rfl⟩
theorem low_any (A : Option Addr) (n c a : Nat) (xs : List Nat) (w : World) (h : Num w A n c xs a) (hn : n ≤ 2) :
    Calls Tryd.prog 44 #[.slice A n c] w fun e w' => e = .returned (.int .u64 (a : Int)) ∧ w = w' := by
  have hl := h.len
  have hv := h.val
  rcases xs with _ | ⟨x, _ | ⟨y, _ | ⟨z, xs⟩⟩⟩
  · obtain rfl : n = 0 := by simpa using hl.symm
    obtain rfl : a = 0 := by simpa [dval] using hv.symm
    exact low_zero A c w
  · obtain rfl : n = 1 := by simpa using hl.symm
    obtain rfl : a = x := by simpa [dval] using hv.symm
    obtain ⟨ad, rfl, _, hc⟩ := h.toLst.at_ (k := 0) (by omega)
    rw [add_zero_] at hc
    exact low_one ad c a (h.lt a (by simp)) w (by simpa using hc)
  · obtain rfl : n = 2 := by simpa using hl.symm
    obtain rfl : a = x + y * 4294967296 := by simp [dval] at hv; omega
    obtain ⟨ad, rfl, _, hc⟩ := h.toLst.at_ (k := 0) (by omega)
    obtain ⟨ad', e, _, hc'⟩ := h.toLst.at_ (k := 1) (by omega)
    injection e with e
    subst e
    rw [add_zero_] at hc
    rw [show ad.add 1 = ⟨ad.block, ad.off + 1, none⟩ from rfl] at hc'
    exact low_two ad c x y (h.lt x (by simp)) (h.lt y (by simp)) w (by simpa using hc) (by simpa using hc')
  · simp at hl; omega
theorem Num.small {w : World} {A : Option Addr} {n c a : Nat} {xs : List Nat} (h : Num w A n c xs a) : n ≤ 2 ↔ a < 18446744073709551616 := by
  rw [← h.len, ← h.val]; exact small_iff xs h.lt h.tight
set_option maxRecDepth 100000 in
set_option maxHeartbeats 400000 in
theorem uint_any (A : Option Addr) (n c a : Nat) (xs : List Nat) (w : World) (h : Num w A n c xs a) :
    Calls Tryd.prog 20 #[.slice A n c] w fun e w' => e = .returned (.tuple #[.int .u64 ((if n ≤ 2 then a else 0 : Nat) : Int), .bool (decide (n ≤ 2))]) ∧ w = w' := by
  have hr := h.room
  have H := Lib.hid h
  clear h
  by_cases hn : n ≤ 2
  · have E : Hid (((if n ≤ 2 then a else 0 : Nat) : Int) = (a : Int) ∧ decide (n ≤ 2) = true) := Lib.hid ⟨by rw [if_pos hn], by simpa using hn⟩
    go_enter Tryd.func20, Tryd.ntmps20
    go_wp2_with fail
    refine (trim_num _ _ _ _ _ _ H.out).mono ?_
    rintro e w' ⟨rfl, rfl⟩
    go_wp2_with fail
    refine (small_any _ _ _ _ hr).mono ?_
    rintro e w' ⟨rfl, rfl⟩
    go_wp2_with fail
    refine (low_any _ _ _ _ _ _ H.out.caps hn).mono ?_
    rintro e w' ⟨rfl, rfl⟩
    go_wp2
    go_ret2
    first | exact ⟨rfl, rfl⟩ | exact ⟨by rw [E.out.1, E.out.2]; rfl, rfl⟩
  · have E : Hid (((if n ≤ 2 then a else 0 : Nat) : Int) = 0 ∧ decide (n ≤ 2) = false) := Lib.hid ⟨by rw [if_neg hn]; rfl, by simpa using hn⟩
    go_enter Tryd.func20, Tryd.ntmps20
    go_wp2_with fail
    refine (trim_num _ _ _ _ _ _ H.out).mono ?_
    rintro e w' ⟨rfl, rfl⟩
    go_wp2_with fail
    refine (small_any _ _ _ _ hr).mono ?_
    rintro e w' ⟨rfl, rfl⟩
    go_wp2
    go_ret2
    first | exact ⟨rfl, rfl⟩ | exact ⟨by rw [E.out.1, E.out.2]; rfl, rfl⟩
end Go.Proofs.YtgmjpkkpkdcncaaDoor
