/- The contract of the reference's high: no claim of its own. -/
import Derived.Test.YtgmjpkkpkdcncaaDoorRBit
import Derived.Test.YtgmjpkkpkdcncaaDoorRAdd
namespace Go.Proofs.YtgmjpkkpkdcncaaDoor
open Go.RowKit
def RHighInv (H : Nat) (w : World) (l : Nat) (v : Value) (wr : World) : Prop :=
  ∃ out, Own wr w.heap.size v out ∧ out.length = l ∧ dval out = H % 4294967296 ^ l ∧ Below w.heap.size w wr
theorem high_step (H l d : Nat) (out : List Nat) (hl : out.length = l) (h : dval out = H % 4294967296 ^ l) (hd : d = H / 4294967296 ^ l % 4294967296) : dval (out ++ [d]) = H % 4294967296 ^ (l + 1) := by
  rw [dval_append, h, hl, Nat.mod_pow_succ, ← hd]
  simp [dval]
theorem high_digit (xs : List Nat) (h : ∀ j, xs.getD j 0 < 4294967296) (a k j0 r l : Nat) (ha : dval xs = a) (hj : k / 32 = j0) (hr : k % 32 = r) :
    (xs.getD (j0 + l) 0 + xs.getD (j0 + l + 1) 0 * 4294967296) / 2 ^ r % 4294967296 = a / 2 ^ k / 4294967296 ^ l % 4294967296 := by
  rw [high_math xs h (j0 + l) r (by omega), ha, pow_base, Nat.div_div_eq_div_mul, ← Nat.pow_add]
  congr 3
  omega
theorem high_fin (a k j0 n : Nat) (ha : a < 2 ^ (32 * n)) (hj : k / 32 = j0) : a / 2 ^ k % 4294967296 ^ (n - j0) = a / 2 ^ k := by
  refine Nat.mod_eq_of_lt ?_
  rw [pow_base, Nat.div_lt_iff_lt_mul (Nat.pow_pos (by decide)), ← Nat.pow_add]
  exact Nat.lt_of_lt_of_le ha (Nat.pow_le_pow_right (by decide) (by omega))
set_option maxRecDepth 100000 in
set_option maxHeartbeats 2000000 in
theorem rhigh_any (A : Option Addr) (n c a k : Nat) (xs : List Nat) (w : World) (h : Lst w A n c xs) (ha : dval xs = a) (hn : n ≤ 1000000) (hk : k ≤ 100000000) :
    Calls Tryd.prog 32 #[.slice A n c, .int .i64 k] w (GivesNum (a / 2 ^ k) w) := by
  obtain ⟨i0, hi0, hz0, hz1, hz2⟩ := info_parts infoU32
  have HF : Hid (a / 2 ^ k % 4294967296 ^ (n - k / 32) = a / 2 ^ k) := Lib.hid (high_fin a k _ n (by rw [← ha]; exact dval_lt_bits xs n h.lt h.len) rfl)
  obtain ⟨j0, hj⟩ : ∃ j, k / 32 = j := ⟨_, rfl⟩
  obtain ⟨r, hr⟩ : ∃ r, k % 32 = r := ⟨_, rfl⟩
  have HD := Lib.hid (fun l => high_digit xs h.getD_lt a k j0 r l ha hj hr)
  rw [hj] at HF
  have hjl : j0 ≤ 100000000 := by omega
  have hrl : r < 32 := by omega
  have i1 : (k : Int) / 32 = (j0 : Int) := by omega
  have i2 : (k : Int) % 32 = (r : Int) := by omega
  have i3 : (k : Int).tdiv 32 = (j0 : Int) := by rw [Int.tdiv_eq_ediv_of_nonneg (by omega), i1]
  have i4 : (k : Int).tmod 32 = (r : Int) := by rw [Int.tmod_eq_emod_of_nonneg (by omega), i2]
  obtain ⟨P, hP⟩ : ∃ P, 2 ^ r = P := ⟨_, rfl⟩
  have hPl : P ≤ 2147483648 := by rw [← hP]; exact pow_lt32 r hrl
  have hP1 : 1 ≤ P := by rw [← hP]; exact Nat.pow_pos (by decide)
  have hPi : (2 : Int) ^ r = (P : Int) := by rw [← hP, Int.natCast_pow]; rfl
  have p1 : (1 : Int) ≤ (P : Int) := by omega
  rw [hP] at HD
  have HX := Lib.hid h
  obtain ⟨H, hH⟩ : ∃ H, a / 2 ^ k = H := ⟨_, rfl⟩
  rw [hH] at HF HD ⊢
  have I0 : Hid (RHighInv H w 0 (.slice none 0 0) w) := Lib.hid ⟨[], Own.nil _ _, rfl, by simp [dval, Nat.mod_one], Below.refl _ _⟩
  clear h ha hj hr hP hH
  go_enter Tryd.func32, Tryd.ntmps32
  go_wp2
  go_loopw [5, 6] (fun v iv wr => ∃ l : Nat, l ≤ n - j0 ∧ iv = .int .i64 ((j0 : Int) + (l : Int)) ∧ Hid (RHighInv H w l v wr)) (fun _ iv _ => n - (intOf iv).toNat)
  case atStart => exact ⟨0, by omega, by go_num, I0⟩
  case round =>
    obtain ⟨l, hl, rfl, hi⟩ := hrel
    obtain ⟨out, hO, hol, hv, hb⟩ := hi.out
    have HO := Lib.hid hO
    have HL := Lib.hid hol
    have HV := Lib.hid hv
    have HB := Lib.hid hb
    have hs := hb.size
    have KX := Lib.hid (HX.out.keep hb)
    clear hO hol hv hb hi I0
    by_cases hlt : j0 + l < n
    · obtain ⟨x, hxe⟩ : ∃ x, xs.getD (j0 + l) 0 = x := ⟨_, rfl⟩
      obtain ⟨y, hye⟩ : ∃ y, xs.getD (j0 + l + 1) 0 = y := ⟨_, rfl⟩
      have hxl := KX.out.getD_lt (j0 + l)
      have hyl := KX.out.getD_lt (j0 + l + 1)
      have D1 := digit_any A n c (j0 + l) xs _ KX.out (by omega)
      have D2 := digit_any A n c (j0 + l + 1) xs _ KX.out (by omega)
      have hdg := HD.out l
      rw [hxe] at D1 hxl hdg
      rw [hye] at D2 hyl hdg
      rw [show ((j0 + l : Nat) : Int) = (j0 : Int) + (l : Int) from by omega] at D1
      rw [show ((j0 + l + 1 : Nat) : Int) = (j0 : Int) + (l : Int) + 1 from by omega] at D2
      have C1 := Lib.hid D1
      have C2 := Lib.hid D2
      obtain ⟨T, hT⟩ : ∃ T, x + y * 4294967296 = T := ⟨_, rfl⟩
      have hTi : (x : Int) + (y : Int) * 4294967296 = (T : Int) := by omega
      have hTl : T < 18446744073709551616 := by omega
      rw [hT] at hdg
      obtain ⟨Q, hQ⟩ : ∃ Q, T / P = Q := ⟨_, rfl⟩
      have hQl : Q ≤ T := by rw [← hQ]; exact Nat.div_le_self _ _
      have q1 : (T : Int) / (P : Int) = (Q : Int) := by rw [← hQ]; exact (Int.natCast_ediv _ _).symm
      have q2 : (T : Int).tdiv (P : Int) = (Q : Int) := by rw [Int.tdiv_eq_ediv_of_nonneg (by omega), q1]
      rw [hQ] at hdg
      have M := Lib.hid (high_step H l (Q % 4294967296) out HL.out HV.out hdg)
      clear D1 D2 hxe hye hdg hT hQ
      go_wp2_with fail
      refine C1.out.mono ?_
      rintro e w' ⟨rfl, rfl⟩
      go_wp2_with fail
      refine C2.out.mono ?_
      rintro e w' ⟨rfl, rfl⟩
      go_wp2_with (at_builtin; refine wpList_append_own _ rfl _ _ 23 rfl w.heap.size 43 i0 (.int .u32 0) 1 4 Tryd.underlying23 hi0 hz0 hz1 hz2 rfl (by decide) _ _ _ rfl (HO.out.own.alloc _) ⟨wr.heap.size, 0, none⟩ 1 1 [.int .u32 ((Q : Int) % 4294967296)] rfl rfl ?c1 ?c2 ?c3 ?c4 ?c5 ?_)
      case c1 =>
        intro j u hj
        match j, hj with
        | 0, hj => simp at hj; subst hj; simp [Addr.add]
      case c2 => intro u hu; simp at hu; subst hu; rfl
      case c3 => have := HL.out; unfold maxLen; omega
      case c4 => have := HL.out; omega
      case c5 => simp; omega
      intro v' w1 hown' hgrow _
      have RA := HO.out.app HB.out hs hown' (d := Q % 4294967296) (by omega) (Nat.mod_lt _ (by decide)) hgrow
      have RR : Hid (RHighInv H w (l + 1) v' w1) := Lib.hid ⟨_, RA.1, by simp [HL.out], M.out, RA.2⟩
      clear hown' hgrow RA
      go_wp2
      go_roundw
      case rel => exact ⟨l + 1, by omega, by go_num, RR⟩
      case measure => simp [intOf]; omega
    · have hll : l = n - j0 := by omega
      have V : Hid (dval out = H) := Lib.hid (by rw [HV.out, hll]; exact HF.out)
      clear hll
      obtain ⟨A', c', rfl, L⟩ := HO.out.lst (by have := HL.out; omega)
      have LL := Lib.hid L
      clear L
      go_wp2_with fail
      refine (rtrim_any _ _ _ _ _ LL.out).mono ?_
      rintro e w' hg
      have G := Lib.hid ((hg.from_ HB.out rfl).eq V.out)
      obtain ⟨A1, n1, c1, xs1, rfl, _, _⟩ := hg
      go_wp2
      go_ret
      exact G.out
end Go.Proofs.YtgmjpkkpkdcncaaDoor
