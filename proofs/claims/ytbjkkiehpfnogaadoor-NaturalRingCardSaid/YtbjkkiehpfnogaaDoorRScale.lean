/- The contract of the reference's scale: no claim of its own. -/
import Derived.Test.YtbjkkiehpfnogaaDoorRAdd
namespace Go.Proofs.YtbjkkiehpfnogaaDoor
open Go.RowKit
def ScaleInv (xs : List Nat) (f : Nat) (w : World) (k cy : Nat) (v : Value) (wr : World) : Prop :=
  ∃ out, Own wr w.heap.size v out ∧ out.length = k ∧ dval out + 4294967296 ^ k * cy = f * dval (xs.take k) ∧ Below w.heap.size w wr
theorem scale_math (xs out : List Nat) (f k cy x r q : Nat) (hx : xs.getD k 0 = x) (hl : out.length = k) (h : dval out + 4294967296 ^ k * cy = f * dval (xs.take k)) (hq : 4294967296 * q + r = x * f + cy) :
    dval (out ++ [r]) + 4294967296 ^ (k + 1) * q = f * dval (xs.take (k + 1)) := by
  rw [dval_append, dval_take_succ', hx, hl, Nat.pow_succ]
  simp only [dval]
  generalize 4294967296 ^ k = P at *
  grind
theorem scale_fin (xs out : List Nat) (f n a k cy : Nat) (hx : xs.length = n) (ha : a < 4294967296 ^ n) (hf : f < 4294967296) (hxa : dval xs = a) (hk : k = n + 1)
    (h : dval out + 4294967296 ^ k * cy = f * dval (xs.take k)) : dval out = f * a := by
  rw [List.take_of_length_le (by omega), hxa] at h
  refine no_carry _ _ cy _ ?_ h
  rw [hk, Nat.pow_succ, Nat.mul_comm f a]
  exact Nat.mul_lt_mul'' ha hf
set_option maxHeartbeats 2000000 in
theorem rscale_any (A : Option Addr) (n c a f : Nat) (xs : List Nat) (w : World) (hx : Num w A n c xs a) (hn : n ≤ 1000000) (hf : f < 4294967296) :
    Calls Tryd.prog 50 #[.slice A n c, .int .u64 f] w (GivesNum (f * a) w) := by
  obtain ⟨i0, hi0, hz0, hz1, hz2⟩ := info_parts infoU32
  have HX := Lib.hid hx
  have I0 : Hid (ScaleInv xs f w 0 0 (.slice none 0 0) w) := Lib.hid ⟨[], Own.nil _ _, rfl, by simp [dval], Below.refl _ _⟩
  clear hx
  go_enter Tryd.func50, Tryd.ntmps50
  go_wp2
  go_loopw [5, 6, 7] (fun v cv i wr => ∃ k cy : Nat, k ≤ n + 1 ∧ cy < 4294967296 ∧ i = .int .i64 k ∧ cv = .int .u64 cy ∧ Hid (ScaleInv xs f w k cy v wr)) (fun _ _ i _ => n + 1 - (intOf i).toNat)
  case atStart => exact ⟨0, 0, by omega, by omega, rfl, rfl, I0⟩
  case round =>
      obtain ⟨k, cy, hk, hcy, rfl, rfl, hi⟩ := hrel
      obtain ⟨out, hO, hl, hv, hb⟩ := hi.out
      have HO := Lib.hid hO
      have HL := Lib.hid hl
      have HV := Lib.hid hv
      have HB := Lib.hid hb
      have KX := Lib.hid (HX.out.keep hb)
      have hs := hb.size
      clear hO hl hv hb hi I0
      by_cases hlt : k ≤ n
      · have hxl := KX.out.toLst.getD_lt k
        obtain ⟨x, hxe⟩ : ∃ x, xs.getD k 0 = x := ⟨_, rfl⟩
        have D1 := digit_any A n c k xs _ KX.out.toLst (by omega)
        rw [hxe] at D1 hxl
        have C1 := Lib.hid D1
        have M := Lib.hid (scale_math xs out f k cy x ((x * f + cy) % 4294967296) ((x * f + cy) / 4294967296) hxe HL.out HV.out (Nat.div_add_mod _ _))
        have hp : (x : Int) * (f : Int) ≤ 18446744065119617025 := by
          have := Nat.mul_le_mul (show x ≤ 4294967295 by omega) (show f ≤ 4294967295 by omega)
          have e : ((x * f : Nat) : Int) = (x : Int) * (f : Int) := Int.natCast_mul _ _
          omega
        have hp0 : 0 ≤ (x : Int) * (f : Int) := Int.mul_nonneg (by omega) (by omega)
        have hd : (x * f + cy) / 4294967296 < 4294967296 := by
          have e : ((x * f : Nat) : Int) = (x : Int) * (f : Int) := Int.natCast_mul _ _
          omega
        clear D1 hxe
        go_wp2_with fail
        refine C1.out.mono ?_
        rintro e w' ⟨rfl, rfl⟩
        go_wp2_with (at_builtin; refine wpList_append_own _ rfl _ _ 23 rfl w.heap.size 46 i0 (.int .u32 0) 1 4 Tryd.underlying23 hi0 hz0 hz1 hz2 rfl (by decide) _ _ _ rfl (HO.out.own.alloc _) ⟨wr.heap.size, 0, none⟩ 1 1 [.int .u32 (((x : Int) * (f : Int) + (cy : Int)) % 4294967296)] rfl rfl ?c1 ?c2 ?c3 ?c4 ?c5 ?_)
        case c1 =>
          intro j u hj
          match j, hj with
          | 0, hj => simp at hj; subst hj; simp [Addr.add]
        case c2 => intro u hu; simp at hu; subst hu; rfl
        case c3 => have := HL.out; unfold maxLen; omega
        case c4 => have := HL.out; omega
        case c5 => simp; omega
        intro v' w1 hown' hgrow _
        have R := HO.out.app HB.out hs hown' (d := (x * f + cy) % 4294967296) (by omega) (Nat.mod_lt _ (by decide)) hgrow
        have RR : Hid (ScaleInv xs f w (k + 1) ((x * f + cy) / 4294967296) v' w1) := Lib.hid ⟨_, R.1, by simp [HL.out], M.out, R.2⟩
        clear hown' hgrow R
        go_wp2
        go_roundw
        case rel => exact ⟨k + 1, (x * f + cy) / 4294967296, by omega, hd, by go_num, by go_num, RR⟩
        case measure => simp [intOf]; omega
      · have hkk : k = n + 1 := by omega
        have F := Lib.hid (scale_fin xs out f n a k cy HX.out.len HX.out.lt_pow hf HX.out.val hkk HV.out)
        clear hkk
        obtain ⟨A', c', rfl, L⟩ := HO.out.lst (by have := HL.out; omega)
        have LL := Lib.hid L
        clear L
        go_wp2_with fail
        refine (rtrim_any _ _ _ _ _ LL.out).mono ?_
        rintro e w' hg
        have G := Lib.hid ((hg.from_ HB.out rfl).eq F.out)
        obtain ⟨A1, n1, c1, xs1, rfl, _, _⟩ := hg
        go_wp2
        go_ret
        exact G.out
end Go.Proofs.YtbjkkiehpfnogaaDoor
