/- The contract of the reference's Add: no claim of its own. -/
import Derived.Test.YtgmjpkkpkdcncaaDoorRTrim
import Derived.Test.YtgmjpkkpkdcncaaDoorCmp
namespace Go.Proofs.YtgmjpkkpkdcncaaDoor
open Go.RowKit
def RAddInv (xs ys : List Nat) (w : World) (k cy : Nat) (v : Value) (wr : World) : Prop :=
  ∃ out, Own wr w.heap.size v out ∧ out.length = k ∧ dval out + 4294967296 ^ k * cy = dval (xs.take k) + dval (ys.take k) ∧ Below w.heap.size w wr
theorem radd_math (xs ys out : List Nat) (k cy x y r q : Nat) (hx : xs.getD k 0 = x) (hy : ys.getD k 0 = y) (hl : out.length = k) (h : dval out + 4294967296 ^ k * cy = dval (xs.take k) + dval (ys.take k)) (hq : 4294967296 * q + r = x + y + cy) :
    dval (out ++ [r]) + 4294967296 ^ (k + 1) * q = dval (xs.take (k + 1)) + dval (ys.take (k + 1)) := by
  rw [dval_append, dval_take_succ', dval_take_succ', hx, hy, hl, Nat.pow_succ]
  simp only [dval]
  generalize 4294967296 ^ k = P at *
  grind
theorem radd_fin (xs ys out : List Nat) (n m a b k cy : Nat) (hx : xs.length = n) (hy : ys.length = m) (ha : a < 4294967296 ^ n) (hb : b < 4294967296 ^ m) (hxa : dval xs = a) (hyb : dval ys = b) (hk : k = max n m + 1)
    (h : dval out + 4294967296 ^ k * cy = dval (xs.take k) + dval (ys.take k)) : dval out = a + b := by
  rw [List.take_of_length_le (by omega), List.take_of_length_le (by omega), hxa, hyb] at h
  rw [hk, Nat.pow_succ] at h
  exact carry_none (4294967296 ^ max n m) a b cy _ (Nat.lt_of_lt_of_le ha (Nat.pow_le_pow_right (by decide) (by omega))) (Nat.lt_of_lt_of_le hb (Nat.pow_le_pow_right (by decide) (by omega))) h
set_option maxRecDepth 100000 in
set_option maxHeartbeats 2000000 in
theorem radd_any (A B : Option Addr) (n c m d a b : Nat) (xs ys : List Nat) (w : World) (hx : Num w A n c xs a) (hy : Num w B m d ys b) (hn : n ≤ 1000000) (hm : m ≤ 1000000) :
    Calls Tryd.prog 33 #[.slice A n c, .slice B m d] w (GivesNum (a + b) w) := by
  obtain ⟨i0, hi0, hz0, hz1, hz2⟩ := info_parts infoU32
  have HX := Lib.hid hx
  have HY := Lib.hid hy
  have I0 : Hid (RAddInv xs ys w 0 0 (.slice none 0 0) w) := Lib.hid ⟨[], Own.nil _ _, rfl, by simp [dval], Below.refl _ _⟩
  clear hx hy
  rcases Nat.lt_or_ge n m with hnm | hnm
  all_goals
    go_enter Tryd.func33, Tryd.ntmps33
    go_wp2
    go_loopw [5, 6, 7] (fun v cv i wr => ∃ k cy : Nat, k ≤ max n m + 1 ∧ cy ≤ 1 ∧ i = .int .i64 k ∧ cv = .int .u64 cy ∧ Hid (RAddInv xs ys w k cy v wr)) (fun _ _ i _ => max n m + 1 - (intOf i).toNat)
    case atStart => exact ⟨0, 0, by omega, by omega, rfl, rfl, I0⟩
    case round =>
      obtain ⟨k, cy, hk, hcy, rfl, rfl, hi⟩ := hrel
      obtain ⟨out, hO, hl, hv, hb⟩ := hi.out
      have HO := Lib.hid hO
      have HL := Lib.hid hl
      have HV := Lib.hid hv
      have HB := Lib.hid hb
      have KX := Lib.hid (HX.out.keep hb)
      have KY := Lib.hid (HY.out.keep hb)
      have hs := hb.size
      clear hO hl hv hb hi I0
      by_cases hlt : k ≤ max n m
      · have hxl := KX.out.toLst.getD_lt k
        have hyl := KY.out.toLst.getD_lt k
        obtain ⟨x, hxe⟩ : ∃ x, xs.getD k 0 = x := ⟨_, rfl⟩
        obtain ⟨y, hye⟩ : ∃ y, ys.getD k 0 = y := ⟨_, rfl⟩
        have D1 := digit_any A n c k xs _ KX.out.toLst (by omega)
        have D2 := digit_any B m d k ys _ KY.out.toLst (by omega)
        rw [hxe] at D1 hxl
        rw [hye] at D2 hyl
        have C1 := Lib.hid D1
        have C2 := Lib.hid D2
        have M := Lib.hid (radd_math xs ys out k cy x y ((x + y + cy) % 4294967296) ((x + y + cy) / 4294967296) hxe hye HL.out HV.out (Nat.div_add_mod _ _))
        clear D1 D2 hxe hye
        go_wp2_with fail
        refine C1.out.mono ?_
        rintro e w' ⟨rfl, rfl⟩
        go_wp2_with fail
        refine C2.out.mono ?_
        rintro e w' ⟨rfl, rfl⟩
        go_wp2_with (at_builtin; refine wpList_append_own _ rfl _ _ 23 rfl w.heap.size 43 i0 (.int .u32 0) 1 4 Tryd.underlying23 hi0 hz0 hz1 hz2 rfl (by decide) _ _ _ rfl (HO.out.own.alloc _) ⟨wr.heap.size, 0, none⟩ 1 1 [.int .u32 (((x : Int) + (y : Int) + (cy : Int)) % 4294967296)] rfl rfl ?c1 ?c2 ?c3 ?c4 ?c5 ?_)
        case c1 =>
          intro j u hj
          match j, hj with
          | 0, hj => simp at hj; subst hj; simp [Addr.add]
        case c2 => intro u hu; simp at hu; subst hu; rfl
        case c3 => have := HL.out; unfold maxLen; omega
        case c4 => have := HL.out; omega
        case c5 => simp; omega
        intro v' w1 hown' hgrow _
        have R := HO.out.app HB.out hs hown' (d := (x + y + cy) % 4294967296) (by omega) (Nat.mod_lt _ (by decide)) hgrow
        have RR : Hid (RAddInv xs ys w (k + 1) ((x + y + cy) / 4294967296) v' w1) := Lib.hid ⟨_, R.1, by simp [HL.out], M.out, R.2⟩
        clear hown' hgrow R
        go_wp2
        go_roundw
        case rel => exact ⟨k + 1, (x + y + cy) / 4294967296, by omega, by omega, by go_num, by go_num, RR⟩
        case measure => simp [intOf]; omega
      · have hkk : k = max n m + 1 := by omega
        have F := Lib.hid (radd_fin xs ys out n m a b k cy HX.out.len HY.out.len HX.out.lt_pow HY.out.lt_pow HX.out.val HY.out.val hkk HV.out)
        obtain ⟨A', c', rfl, L⟩ := HO.out.lst (by have := HL.out; omega)
        have LL := Lib.hid L
        clear L hkk
        go_wp2_with fail
        refine (rtrim_any _ _ _ _ _ LL.out).mono ?_
        rintro e w' hg
        have G := Lib.hid ((hg.from_ HB.out rfl).eq F.out)
        obtain ⟨A1, n1, c1, xs1, rfl, _, _⟩ := hg
        go_wp2
        go_ret
        exact G.out
end Go.Proofs.YtgmjpkkpkdcncaaDoor
