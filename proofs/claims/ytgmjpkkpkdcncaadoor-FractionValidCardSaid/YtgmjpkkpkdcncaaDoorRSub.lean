/- The contract of the reference's Sub: no claim of its own. -/
import Derived.Test.YtgmjpkkpkdcncaaDoorRAdd
import Derived.Test.YtgmjpkkpkdcncaaDoorSub
namespace Go.Proofs.YtgmjpkkpkdcncaaDoor
open Go.RowKit
def RSubInv (xs ys : List Nat) (w : World) (k bw : Nat) (v : Value) (wr : World) : Prop :=
  ∃ out, Own wr w.heap.size v out ∧ out.length = k ∧ dval out + dval (ys.take k) = dval (xs.take k) + 4294967296 ^ k * bw ∧ Below w.heap.size w wr
theorem rsub_digit (x y bw s : Nat) (h1 : x < 4294967296) (h2 : y < 4294967296) (h3 : bw ≤ 1) (hs : s = 4294967296 + x - y - bw) : s % 4294967296 + y + bw = x + 4294967296 * (1 - s / 4294967296) ∧ 1 - s / 4294967296 ≤ 1 ∧ s / 4294967296 ≤ 1 := by omega
theorem rsub_math (P O T X bw x y r q : Nat) (h1 : O + T = X + P * bw) (h3 : r + y + bw = x + 4294967296 * q) : O + P * r + (T + P * y) = X + P * x + P * 4294967296 * q := by
  have e := congrArg (P * ·) h3
  simp only [Nat.mul_add] at e
  have e2 : P * (4294967296 * q) = P * 4294967296 * q := by rw [Nat.mul_assoc]
  rw [e2] at e
  omega
theorem rsub_step (xs ys out : List Nat) (k bw x y s : Nat) (hx : xs.getD k 0 = x) (hy : ys.getD k 0 = y) (hl : out.length = k) (h : dval out + dval (ys.take k) = dval (xs.take k) + 4294967296 ^ k * bw) (h1 : x < 4294967296) (h2 : y < 4294967296) (h3 : bw ≤ 1) (hs : s = 4294967296 + x - y - bw) :
    dval (out ++ [s % 4294967296]) + dval (ys.take (k + 1)) = dval (xs.take (k + 1)) + 4294967296 ^ (k + 1) * (1 - s / 4294967296) := by
  rw [dval_append, dval_take_succ', dval_take_succ', hx, hy, hl, Nat.pow_succ]
  simp only [dval, Nat.mul_zero, Nat.add_zero]
  exact rsub_math _ _ _ _ _ _ _ _ _ h (rsub_digit x y bw s h1 h2 h3 hs).1
theorem rsub_fin (xs ys out : List Nat) (n m a b bw : Nat) (hx : xs.length = n) (hy : ys.length = m) (hmn : m ≤ n) (hxa : dval xs = a) (hyb : dval ys = b) (hba : b ≤ a) (hl : out.length = n) (hd : ∀ d ∈ out, d < 4294967296)
    (h : dval out + dval (ys.take n) = dval (xs.take n) + 4294967296 ^ n * bw) : dval out = a - b := by
  rw [List.take_of_length_le (by omega), List.take_of_length_le (by omega), hxa, hyb] at h
  have h1 := dval_lt out hd
  rw [hl] at h1
  rcases bw with _ | bw
  · rw [Nat.mul_zero] at h; omega
  · have h2 : 4294967296 ^ n * 1 ≤ 4294967296 ^ n * (bw + 1) := Nat.mul_le_mul_left _ (by omega)
    rw [Nat.mul_one] at h2
    generalize 4294967296 ^ n * (bw + 1) = X at *
    omega
set_option maxRecDepth 100000 in
set_option maxHeartbeats 400000 in
theorem rsub_less (A B : Option Addr) (n c m d a b : Nat) (xs ys : List Nat) (w : World) (hx : Num w A n c xs a) (hy : Num w B m d ys b) (hab : a < b) :
    Calls Tryd.prog 37 #[.slice A n c, .slice B m d] w (GivesSub a b w) := by
  have C := Lib.hid (rcmp_any A B n c m d xs ys w hx.toLst hy.toLst)
  rw [hx.val, hy.val, cmpI_lt hab] at C
  have D : Hid (decide (b ≤ a) = false ∧ a - b = 0) := Lib.hid ⟨decide_eq_false (by omega), by omega⟩
  clear hx hy hab
  go_enter Tryd.func37, Tryd.ntmps37
  go_wp2_with fail
  refine C.out.mono ?_
  rintro e w' ⟨rfl, rfl⟩
  go_wp2
  go_ret2
  exact ⟨none, 0, 0, [], by rw [D.out.1]; rfl, by rw [D.out.2]; exact Num.zero _, Below.refl _ _⟩
set_option maxRecDepth 100000 in
set_option maxHeartbeats 2000000 in
theorem rsub_more (A B : Option Addr) (n c m d a b : Nat) (xs ys : List Nat) (w : World) (hx : Num w A n c xs a) (hy : Num w B m d ys b) (hab : b ≤ a) (hn : n ≤ 1000000) :
    Calls Tryd.prog 37 #[.slice A n c, .slice B m d] w (GivesSub a b w) := by
  obtain ⟨i0, hi0, hz0, hz1, hz2⟩ := info_parts infoU32
  have C := Lib.hid (rcmp_any A B n c m d xs ys w hx.toLst hy.toLst)
  rw [hx.val, hy.val] at C
  have hmn := hx.len_mono hy hab
  have hba := Lib.hid hab
  have HX := Lib.hid hx
  have HY := Lib.hid hy
  obtain ⟨q, hq⟩ : ∃ q, cmpI a b = q := ⟨_, rfl⟩
  have hq0 : 0 ≤ q := by
    rw [← hq]
    unfold cmpI
    rw [if_neg (by omega)]
    split <;> decide
  rw [hq] at C
  have I0 : Hid (RSubInv xs ys w 0 0 (.slice none 0 0) w) := Lib.hid ⟨[], Own.nil _ _, rfl, by simp [dval], Below.refl _ _⟩
  clear hx hy hab hq
  go_enter Tryd.func37, Tryd.ntmps37
  go_wp2_with fail
  refine C.out.mono ?_
  rintro e w' ⟨rfl, rfl⟩
  go_wp2
  go_loopw [6, 7, 8] (fun v bv i wr => ∃ k bw : Nat, k ≤ n ∧ bw ≤ 1 ∧ i = .int .i64 k ∧ bv = .int .u64 bw ∧ Hid (RSubInv xs ys w k bw v wr)) (fun _ _ i _ => n - (intOf i).toNat)
  case atStart => exact ⟨0, 0, by omega, by omega, rfl, rfl, I0⟩
  case round =>
      obtain ⟨k, bw, hk, hbw, rfl, rfl, hi⟩ := hrel
      obtain ⟨out, hO, hl, hv, hb⟩ := hi.out
      have HO := Lib.hid hO
      have HL := Lib.hid hl
      have HV := Lib.hid hv
      have HB := Lib.hid hb
      have KX := Lib.hid (HX.out.keep hb)
      have KY := Lib.hid (HY.out.keep hb)
      have hs := hb.size
      clear hO hl hv hb hi I0
      by_cases hlt : k < n
      · have hxl := KX.out.toLst.getD_lt k
        have hyl := KY.out.toLst.getD_lt k
        obtain ⟨x, hxe⟩ : ∃ x, xs.getD k 0 = x := ⟨_, rfl⟩
        obtain ⟨y, hye⟩ : ∃ y, ys.getD k 0 = y := ⟨_, rfl⟩
        have D1 := digit_any A n c k xs _ KX.out.toLst (by omega)
        have D2 := digit_any B m d k ys _ KY.out.toLst (by omega)
        rw [hxe] at D1 hxl
        rw [hye] at D2 hyl
        have C1 := Lib.hid D1
        have C2 := Lib.hid D2
        have M := Lib.hid (rsub_step xs ys out k bw x y (4294967296 + x - y - bw) hxe hye HL.out HV.out hxl hyl hbw rfl)
        have R := rsub_digit x y bw (4294967296 + x - y - bw) hxl hyl hbw rfl
        clear D1 D2 hxe hye
        have r2 := R.2.1
        have r3 := R.2.2
        clear R
        go_wp2_with fail
        refine C1.out.mono ?_
        rintro e w' ⟨rfl, rfl⟩
        go_wp2_with fail
        refine C2.out.mono ?_
        rintro e w' ⟨rfl, rfl⟩
        go_wp2_with (at_builtin; refine wpList_append_own _ rfl _ _ 23 rfl w.heap.size 43 i0 (.int .u32 0) 1 4 Tryd.underlying23 hi0 hz0 hz1 hz2 rfl (by decide) _ _ _ rfl (HO.out.own.alloc _) ⟨wr.heap.size, 0, none⟩ 1 1 [.int .u32 ((4294967296 + (x : Int) - (y : Int) - (bw : Int)) % 4294967296)] rfl rfl ?c1 ?c2 ?c3 ?c4 ?c5 ?_)
        case c1 =>
          intro j u hj
          match j, hj with
          | 0, hj => simp at hj; subst hj; simp [Addr.add]
        case c2 => intro u hu; simp at hu; subst hu; rfl
        case c3 => have := HL.out; unfold maxLen; omega
        case c4 => have := HL.out; omega
        case c5 => simp; omega
        intro v' w1 hown' hgrow _
        have RA := HO.out.app HB.out hs hown' (d := (4294967296 + x - y - bw) % 4294967296) (by omega) (Nat.mod_lt _ (by decide)) hgrow
        have RR : Hid (RSubInv xs ys w (k + 1) (1 - (4294967296 + x - y - bw) / 4294967296) v' w1) := Lib.hid ⟨_, RA.1, by simp [HL.out], M.out, RA.2⟩
        clear hown' hgrow RA
        go_wp2
        go_roundw
        case rel => exact ⟨k + 1, 1 - (4294967296 + x - y - bw) / 4294967296, by omega, r2, by go_num, by go_num, RR⟩
        case measure => simp [intOf]; omega
      · obtain rfl : k = n := by omega
        have F := Lib.hid (rsub_fin xs ys out k m a b bw HX.out.len HY.out.len hmn HX.out.val HY.out.val hba.out HL.out HO.out.lt HV.out)
        obtain ⟨A', c', rfl, L⟩ := HO.out.lst (by have := HL.out; omega)
        have LL := Lib.hid L
        clear L
        go_wp2_with fail
        refine (rtrim_any _ _ _ _ _ LL.out).mono ?_
        rintro e w' hg
        have G := Lib.hid ((hg.from_ HB.out rfl).eq F.out)
        obtain ⟨A1, n1, c1, xs1, rfl, _, _⟩ := hg
        go_wp2
        go_ret2
        exact sub_close G.out hba.out
theorem rsub_any (A B : Option Addr) (n c m d a b : Nat) (xs ys : List Nat) (w : World) (hx : Num w A n c xs a) (hy : Num w B m d ys b) (hn : n ≤ 1000000) :
    Calls Tryd.prog 37 #[.slice A n c, .slice B m d] w (GivesSub a b w) := by
  rcases Nat.lt_or_ge a b with h | h
  · exact rsub_less A B n c m d a b xs ys w hx hy h
  · exact rsub_more A B n c m d a b xs ys w hx hy h hn
end Go.Proofs.YtgmjpkkpkdcncaaDoor
