/- Contracts of the reference's Bit and Bits: no claim of its own. -/
import Derived.Test.YtgmjpkkpkdcncaaDoorRTrim
import Derived.Test.YtgmjpkkpkdcncaaDoorCmp
import Derived.Test.YtgmjpkkpkdcncaaDoorOr
import Derived.Test.YtgmjpkkpkdcncaaDoorMaths
import Derived.Test.YtgmjpkkpkdcncaaDoorBitsN
import Derived.Test.YtgmjpkkpkdcncaaDoorShift
namespace Go.Proofs.YtgmjpkkpkdcncaaDoor
open Go.RowKit
set_option maxRecDepth 100000 in
set_option maxHeartbeats 400000 in
theorem rbit_any (A : Option Addr) (n c i a : Nat) (xs : List Nat) (w : World) (h : Lst w A n c xs) (ha : dval xs = a) (hn : n ≤ 1000000) (hi : i ≤ 100000000) :
    Calls Tryd.prog 35 #[.slice A n c, .int .i64 i] w fun e w' => e = .returned (.int .u64 ((a / 2 ^ i % 2 : Nat) : Int)) ∧ ∃ q, w' = w.drewN q := by
  have hm := bit_math xs (fun j => h.getD_lt j) i
  rw [ha] at hm
  have hx := h.getD_lt (i / 32)
  obtain ⟨j, hj⟩ : ∃ j, i / 32 = j := ⟨_, rfl⟩
  obtain ⟨r, hr⟩ : ∃ r, i % 32 = r := ⟨_, rfl⟩
  have hjl : j ≤ 100000000 := by omega
  have hrl : r < 32 := by omega
  rw [hj] at hm hx
  rw [hr] at hm
  have D := Lib.hid (fun w' (hw : Lst w' A n c xs) => digit_any A n c j xs w' hw (by omega))
  obtain ⟨x, hxe⟩ : ∃ x, xs.getD j 0 = x := ⟨_, rfl⟩
  rw [hxe] at hm hx
  obtain ⟨P, hP⟩ : ∃ P, 2 ^ r = P := ⟨_, rfl⟩
  have hPl : P ≤ 2147483648 := by rw [← hP]; exact pow_lt32 r hrl
  have hP1 : 1 ≤ P := by rw [← hP]; exact Nat.pow_pos (by decide)
  have hPi : (2 : Int) ^ r = (P : Int) := by rw [← hP, Int.natCast_pow]; rfl
  rw [hP] at hm
  obtain ⟨Q, hQ⟩ : ∃ Q, x / P = Q := ⟨_, rfl⟩
  have hQl : Q ≤ x := by rw [← hQ]; exact Nat.div_le_self _ _
  rw [hQ] at hm
  have q1 : (x : Int) / (P : Int) = (Q : Int) := by rw [← hQ]; exact (Int.natCast_ediv _ _).symm
  have q2 : (x : Int).tdiv (P : Int) = (Q : Int) := by rw [Int.tdiv_eq_ediv_of_nonneg (by omega), q1]
  have p1 : (1 : Int) ≤ (P : Int) := by omega
  have i1 : (i : Int) / 32 = (j : Int) := by omega
  have i2 : (i : Int) % 32 = (r : Int) := by omega
  have i3 : (i : Int).tdiv 32 = (j : Int) := by rw [Int.tdiv_eq_ediv_of_nonneg (by omega), i1]
  have i4 : (i : Int).tmod 32 = (r : Int) := by rw [Int.tmod_eq_emod_of_nonneg (by omega), i2]
  have u1 : IntKind.i64.wrap (j : Int) = (j : Int) := IntWalk.i64_in _ (by omega)
  have u2 : IntKind.i64.wrap (r : Int) = (r : Int) := IntWalk.i64_in _ (by omega)
  have u3 : IntKind.u64.wrap (P : Int) = (P : Int) := wrap_u64 _ (by omega)
  have u4 : IntKind.u64.wrap (Q : Int) = (Q : Int) := wrap_u64 _ (by omega)
  have HL := Lib.hid h
  have HM := Lib.hid hm
  have HXE := Lib.hid hxe
  have D2 : Hid (∀ w', Lst w' A n c xs → Calls Tryd.prog 64 #[.slice A n c, .int .i64 j] w' fun e w'' => e = .returned (.int .u64 (x : Int)) ∧ w' = w'') := Lib.hid (by rw [← hxe]; exact D.out)
  clear h ha hm hj hr hxe hP hQ D
  go_enter Tryd.func35, Tryd.ntmps35
  go_wp2
  go_quiet ((go_at_call 64; exact quiet_left (D2.out _ ⟨HL.out.reads.drewN _, HL.out.len, HL.out.cap, HL.out.room, HL.out.lt⟩)))
  go_wp2
  go_ret
  exact ⟨by rw [← HM.out]; rfl, _, rfl⟩
theorem Lst.drewN {w : World} {A : Option Addr} {n c : Nat} {xs : List Nat} (h : Lst w A n c xs) (q : Nat) : Lst (w.drewN q) A n c xs := ⟨h.reads.drewN _, h.len, h.cap, h.room, h.lt⟩
theorem isBits_top' {a k : Nat} (h : a < 2 ^ (k + 1)) (h0 : a / 2 ^ k % 2 ≠ 0) : isBits (k + 1) a := ⟨h, .inr (bit_high h0)⟩
set_option maxRecDepth 100000 in
set_option maxHeartbeats 400000 in
theorem rbits_any (A : Option Addr) (n c a : Nat) (xs : List Nat) (w : World) (h : Lst w A n c xs) (ha : dval xs = a) (hn : n ≤ 1000000) :
    Calls Tryd.prog 25 #[.slice A n c] w fun e w' => (∃ k : Nat, e = .returned (.int .i64 (k : Int)) ∧ isBits k a ∧ k ≤ 32 * n) ∧ ∃ q, w' = w.drewN q := by
  have HL := Lib.hid h
  have HA := Lib.hid ha
  have I0 : Hid (a < 2 ^ (32 * n)) := Lib.hid (by rw [← ha]; exact dval_lt_bits xs n h.lt h.len)
  clear h ha
  go_enter Tryd.func25, Tryd.ntmps25
  go_wp2
  go_loopw [3] (fun kv wr => ∃ k q : Nat, k ≤ 32 * n ∧ kv = .int .i64 k ∧ wr = w.drewN q ∧ Hid (a < 2 ^ k)) (fun kv _ => (intOf kv).toNat)
  case atStart => exact ⟨32 * n, 0, Nat.le_refl _, by go_num, rfl, I0⟩
  case round =>
    obtain ⟨k, q, hk, rfl, rfl, hi⟩ := hrel
    rcases k with _ | k
    · have F : Hid (isBits 0 a) := Lib.hid ⟨hi.out, .inl rfl⟩
      clear hi I0
      go_wp2
      go_ret
      exact ⟨⟨0, rfl, F.out, Nat.zero_le _⟩, _, rfl⟩
    · have C := Lib.hid (rbit_any A n c k a xs (w.drewN q) (HL.out.drewN q) HA.out hn (by omega))
      obtain ⟨b, hb⟩ : ∃ b, a / 2 ^ k % 2 = b := ⟨_, rfl⟩
      have hb2 : b < 2 := by rw [← hb]; exact Nat.mod_lt _ (by decide)
      rw [hb] at C
      by_cases h0 : b = 0
      · have S : Hid (a < 2 ^ k) := Lib.hid (bit_low hi.out (by rw [hb]; exact h0))
        subst h0
        clear hi I0 hb
        go_wp2_with fail
        refine C.out.mono ?_
        rintro e w' ⟨rfl, q', rfl⟩
        go_wp2
        go_roundw
        case rel => exact ⟨k, _, by omega, by go_num, rfl, S⟩
        case measure => simp [intOf]; try omega
      · have F : Hid (isBits (k + 1) a) := Lib.hid (isBits_top' hi.out (by rw [hb]; exact h0))
        have hne : ((b : Int) == 0) = false := beq_eq_false_iff_ne.2 (by omega)
        clear hi I0 hb
        go_wp2_with fail
        refine C.out.mono ?_
        rintro e w' ⟨rfl, q', rfl⟩
        go_wp2
        go_ret
        exact ⟨⟨k + 1, by go_num, F.out, hk⟩, _, rfl⟩
end Go.Proofs.YtgmjpkkpkdcncaaDoor
