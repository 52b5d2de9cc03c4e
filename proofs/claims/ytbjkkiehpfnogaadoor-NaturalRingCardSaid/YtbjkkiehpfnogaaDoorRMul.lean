/- The contract of the reference's Mul: no claim of its own. -/
import Derived.Test.YtbjkkiehpfnogaaDoorRScale
import Derived.Test.YtbjkkiehpfnogaaDoorRShift
namespace Go.Proofs.YtbjkkiehpfnogaaDoor
open Go.RowKit
theorem pow_le_add (n m : Nat) : (4294967296 : Nat) ^ n ≤ 4294967296 ^ (n + m) := Nat.pow_le_pow_right (by decide) (by omega)
set_option maxHeartbeats 2000000 in
theorem rmul_any (A B : Option Addr) (n c m d a b : Nat) (xs ys : List Nat) (w : World) (hx : Num w A n c xs a) (hy : Num w B m d ys b) (hn : n ≤ 100000) (hm : m ≤ 100000) :
    Calls Tryd.prog 25 #[.slice A n c, .slice B m d] w (GivesNum (a * b) w) := by
  have HX := Lib.hid hx
  have HY := Lib.hid hy
  have I0 : Hid (∃ zs, Num w none 0 0 zs (a * dval (ys.take 0))) := Lib.hid ⟨[], by simpa [dval] using Num.zero w⟩
  clear hx hy
  go_enter Tryd.func25, Tryd.ntmps25
  go_wp2
  go_loopw [5, 6] (fun v i wr => ∃ (k : Nat) (D : Option Addr) (l e : Nat), k ≤ m ∧ l ≤ n + k ∧ i = .int .i64 k ∧ v = .slice D l e ∧ Hid (∃ zs, Num wr D l e zs (a * dval (ys.take k))) ∧ Hid (Below w.heap.size w wr)) (fun _ i _ => m - (intOf i).toNat)
  case atStart => exact ⟨0, none, 0, 0, by omega, by omega, rfl, rfl, I0, Lib.hid (Below.refl _ _)⟩
  case round =>
      obtain ⟨k, D, l, e, hk, hl, rfl, rfl, hi, hb⟩ := hrel
      obtain ⟨zs, hz⟩ := hi.out
      have HZ := Lib.hid hz
      clear hz hi I0
      have KX := Lib.hid (HX.out.keep hb.out)
      have KY := Lib.hid (HY.out.keep hb.out)
      by_cases hlt : k < m
      · obtain ⟨ad, hB, hb1, hcell⟩ := KY.out.toLst.at_ hlt
        have hyl := KY.out.toLst.getD_lt k
        obtain ⟨y, hye⟩ : ∃ y, ys.getD k 0 = y := ⟨_, rfl⟩
        have hT : Hid (a * dval (ys.take k) + 4294967296 ^ k * (y * a) = a * dval (ys.take (k + 1))) := Lib.hid (by rw [dval_take_succ', hye, Nat.mul_add]; grind)
        rw [hye] at hcell hyl
        have hyk : Hid (dval (ys.take (k + 1)) < 4294967296 ^ (k + 1)) := Lib.hid (Nat.lt_of_lt_of_le (dval_lt _ fun d hd => HY.out.lt d (List.mem_of_mem_take hd)) (Nat.pow_le_pow_right (by decide) (by simp; omega)))
        clear hb1 hye
        subst hB
        go_wp2_with fail
        refine (rscale_any A n c a y xs _ KX.out (by omega) hyl).mono ?_
        rintro e1 w1 ⟨A1, n1, c1, xs1, rfl, hN1, hb1⟩
        have h1 : n1 ≤ n + 1 := hN1.len_le (by
          rw [Nat.pow_succ, Nat.mul_comm y a]; exact Nat.mul_lt_mul'' HX.out.lt_pow hyl)
        have H1 := Lib.hid hN1
        have HZ1 := Lib.hid (HZ.out.keep hb1)
        have HB1 := Lib.hid (hb.out.trans (hb1.mono hb.out.size))
        clear hN1 hb1 HZ
        go_wp2_with fail
        refine (rshift_any A1 n1 c1 (y * a) k xs1 _ H1.out (by omega) (by omega)).mono ?_
        rintro e2 w2 ⟨A2, n2, c2, xs2, rfl, hN2, hb2⟩
        have h2 : n2 ≤ n + 1 + k := hN2.len_le (by
          rw [Nat.add_comm (n + 1) k, Nat.pow_add, Nat.pow_succ, Nat.mul_comm y a]
          exact Nat.mul_lt_mul_of_pos_left (Nat.mul_lt_mul'' HX.out.lt_pow hyl) (Nat.pow_pos (by decide)))
        have H2 := Lib.hid hN2
        have HZ2 := Lib.hid (HZ1.out.keep hb2)
        have HB2 := Lib.hid (HB1.out.trans (hb2.mono HB1.out.size))
        clear hN2 hb2 HZ1 HB1
        go_wp2_with fail
        refine (radd_any D A2 l e n2 c2 _ _ zs xs2 _ HZ2.out H2.out (by omega) (by omega)).mono ?_
        rintro e3 w3 ⟨A3, n3, c3, xs3, rfl, hN3, hb3⟩
        rw [hT.out] at hN3
        have h3 : n3 ≤ n + (k + 1) := hN3.len_le (by
          rw [Nat.pow_add]
          exact Nat.mul_lt_mul'' HX.out.lt_pow hyk.out)
        have H3 : Hid (∃ zs, Num w3 A3 n3 c3 zs (a * dval (ys.take (k + 1)))) := Lib.hid ⟨_, hN3⟩
        have HB3 := Lib.hid (HB2.out.trans (hb3.mono HB2.out.size))
        clear hN3 hb3 HZ2 HB2
        go_wp2
        go_roundw
        case rel => exact ⟨k + 1, A3, n3, c3, by omega, h3, by go_num, rfl, H3, HB3⟩
        case measure => simp [intOf]; omega
      · obtain rfl : k = m := by omega
        have hT : dval (ys.take k) = b := by rw [List.take_of_length_le (by have := HY.out.len; omega), HY.out.val]
        have G : Hid (GivesNum (a * b) w (.returned (.slice D l e)) wr) := Lib.hid ⟨D, l, e, zs, rfl, by have := HZ.out; rwa [hT] at this, hb.out⟩
        clear hT
        go_wp2
        go_ret
        exact G.out
end Go.Proofs.YtbjkkiehpfnogaaDoor
