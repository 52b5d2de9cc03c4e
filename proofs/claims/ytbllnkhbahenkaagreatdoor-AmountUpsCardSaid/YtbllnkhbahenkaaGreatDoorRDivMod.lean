/- RBit, RHigh, RDivMod, joined: no claim of its own. -/
import Derived.Test.YtbllnkhbahenkaaGreatDoorRMul
import Derived.Test.YtbllnkhbahenkaaGreatDoorCmp
import Derived.Test.YtbllnkhbahenkaaGreatDoorMaths
import Derived.Test.YtbllnkhbahenkaaGreatDoorBitsN
import Derived.Test.YtbllnkhbahenkaaGreatDoorShift
import Derived.Test.YtbllnkhbahenkaaGreatDoorSub
import Derived.Test.YtbllnkhbahenkaaGreatDoorDivS
namespace Go.Proofs.YtbllnkhbahenkaaGreatDoor
open Go.RowKit
set_option maxRecDepth 100000 in
set_option maxHeartbeats 400000 in
theorem rbit_any (A : Option Addr) (n c i a : Nat) (xs : List Nat) (w : World) (h : Lst w A n c xs) (ha : dval xs = a) (_hn : n ≤ 1000000) (hi : i ≤ 100000000) :
    Calls Tryz.prog 98 #[.slice A n c, .int .i64 i] w fun e w' => e = .returned (.int .u64 ((a / 2 ^ i % 2 : Nat) : Int)) ∧ ∃ q, w' = w.drewN q := by
  have hm := bit_math xs (fun j => h.getD_lt j) i
  rw [ha] at hm
  have hx := h.getD_lt (i / 32)
  obtain ⟨j, hj⟩ : ∃ j, i / 32 = j := ⟨_, rfl⟩
  obtain ⟨r, hr⟩ : ∃ r, i % 32 = r := ⟨_, rfl⟩
  have hjl : j ≤ 100000000 := by omega
  have hrl : r < 32 := by omega
  rw [hj] at hm hx
  rw [hr] at hm
  have D := Lib.hid (fun w' (hw : Lst w' A n c xs) => digit_any A n c j xs w' hw (by omega))
  obtain ⟨x, hxe⟩ : ∃ x, xs.getD j 0 = x := ⟨_, rfl⟩
  rw [hxe] at hm hx
  obtain ⟨P, hP⟩ : ∃ P, 2 ^ r = P := ⟨_, rfl⟩
  have hPl : P ≤ 2147483648 := by rw [← hP]; exact pow_lt32 r hrl
  have hP1 : 1 ≤ P := by rw [← hP]; exact Nat.pow_pos (by decide)
  have hPi : (2 : Int) ^ r = (P : Int) := by rw [← hP, Int.natCast_pow]; rfl
  rw [hP] at hm
  obtain ⟨Q, hQ⟩ : ∃ Q, x / P = Q := ⟨_, rfl⟩
  have hQl : Q ≤ x := by rw [← hQ]; exact Nat.div_le_self _ _
  rw [hQ] at hm
  have q1 : (x : Int) / (P : Int) = (Q : Int) := by rw [← hQ]; exact (Int.natCast_ediv _ _).symm
  have q2 : (x : Int).tdiv (P : Int) = (Q : Int) := by rw [Int.tdiv_eq_ediv_of_nonneg (by omega), q1]
  have p1 : (1 : Int) ≤ (P : Int) := by omega
  have i1 : (i : Int) / 32 = (j : Int) := by omega
  have i2 : (i : Int) % 32 = (r : Int) := by omega
  have i3 : (i : Int).tdiv 32 = (j : Int) := by rw [Int.tdiv_eq_ediv_of_nonneg (by omega), i1]
  have i4 : (i : Int).tmod 32 = (r : Int) := by rw [Int.tmod_eq_emod_of_nonneg (by omega), i2]
  have u1 : IntKind.i64.wrap (j : Int) = (j : Int) := IntWalk.i64_in _ (by omega)
  have u2 : IntKind.i64.wrap (r : Int) = (r : Int) := IntWalk.i64_in _ (by omega)
  have u3 : IntKind.u64.wrap (P : Int) = (P : Int) := wrap_u64 _ (by omega)
  have u4 : IntKind.u64.wrap (Q : Int) = (Q : Int) := wrap_u64 _ (by omega)
  have HL := Lib.hid h
  have HM := Lib.hid hm
  have HXE := Lib.hid hxe
  have D2 : Hid (∀ w', Lst w' A n c xs → Calls Tryz.prog 95 #[.slice A n c, .int .i64 j] w' fun e w'' => e = .returned (.int .u64 (x : Int)) ∧ w' = w'') := Lib.hid (by rw [← hxe]; exact D.out)
  clear h ha hm hj hr hxe hP hQ D
  go_enter Tryz.func98, Tryz.ntmps98
  go_wp2
  go_quiet ((go_at_call 95; exact quiet_left (D2.out _ ⟨HL.out.reads.drewN _, HL.out.len, HL.out.cap, HL.out.room, HL.out.lt⟩)))
  go_wp2
  go_ret
  exact ⟨by rw [← HM.out]; rfl, _, rfl⟩
theorem Lst.drewN {w : World} {A : Option Addr} {n c : Nat} {xs : List Nat} (h : Lst w A n c xs) (q : Nat) : Lst (w.drewN q) A n c xs := ⟨h.reads.drewN _, h.len, h.cap, h.room, h.lt⟩
theorem isBits_top' {a k : Nat} (h : a < 2 ^ (k + 1)) (h0 : a / 2 ^ k % 2 ≠ 0) : isBits (k + 1) a := ⟨h, .inr (bit_high h0)⟩
set_option maxRecDepth 100000 in
set_option maxHeartbeats 400000 in
theorem rbits_any (A : Option Addr) (n c a : Nat) (xs : List Nat) (w : World) (h : Lst w A n c xs) (ha : dval xs = a) (hn : n ≤ 1000000) :
    Calls Tryz.prog 96 #[.slice A n c] w fun e w' => (∃ k : Nat, e = .returned (.int .i64 (k : Int)) ∧ isBits k a ∧ k ≤ 32 * n) ∧ ∃ q, w' = w.drewN q := by
  have HL := Lib.hid h
  have HA := Lib.hid ha
  have I0 : Hid (a < 2 ^ (32 * n)) := Lib.hid (by rw [← ha]; exact dval_lt_bits xs n h.lt h.len)
  clear h ha
  go_enter Tryz.func96, Tryz.ntmps96
  go_wp2
  go_loopw [3] (fun kv wr => ∃ k q : Nat, k ≤ 32 * n ∧ kv = .int .i64 k ∧ wr = w.drewN q ∧ Hid (a < 2 ^ k)) (fun kv _ => (intOf kv).toNat)
  case atStart => exact ⟨32 * n, 0, Nat.le_refl _, by go_num, rfl, I0⟩
  case round =>
    obtain ⟨k, q, hk, rfl, rfl, hi⟩ := hrel
    rcases k with _ | k
    · have F : Hid (isBits 0 a) := Lib.hid ⟨hi.out, .inl rfl⟩
      clear hi I0
      go_wp2
      go_ret
      exact ⟨⟨0, rfl, F.out, Nat.zero_le _⟩, _, rfl⟩
    · have C := Lib.hid (rbit_any A n c k a xs (w.drewN q) (HL.out.drewN q) HA.out hn (by omega))
      obtain ⟨b, hb⟩ : ∃ b, a / 2 ^ k % 2 = b := ⟨_, rfl⟩
      have hb2 : b < 2 := by rw [← hb]; exact Nat.mod_lt _ (by decide)
      rw [hb] at C
      by_cases h0 : b = 0
      · have S : Hid (a < 2 ^ k) := Lib.hid (bit_low hi.out (by rw [hb]; exact h0))
        subst h0
        clear hi I0 hb
        go_wp2_with fail
        refine C.out.mono ?_
        rintro e w' ⟨rfl, q', rfl⟩
        go_wp2
        go_roundw
        case rel => exact ⟨k, _, by omega, by go_num, rfl, S⟩
        case measure => simp [intOf]; try omega
      · have F : Hid (isBits (k + 1) a) := Lib.hid (isBits_top' hi.out (by rw [hb]; exact h0))
        have hne : ((b : Int) == 0) = false := beq_eq_false_iff_ne.2 (by omega)
        clear hi I0 hb
        go_wp2_with fail
        refine C.out.mono ?_
        rintro e w' ⟨rfl, q', rfl⟩
        go_wp2
        go_ret
        exact ⟨⟨k + 1, by go_num, F.out, hk⟩, _, rfl⟩
end Go.Proofs.YtbllnkhbahenkaaGreatDoor
namespace Go.Proofs.YtbllnkhbahenkaaGreatDoor
open Go.RowKit
def RHighInv (H : Nat) (w : World) (l : Nat) (v : Value) (wr : World) : Prop :=
  ∃ out, Own wr w.heap.size v out ∧ out.length = l ∧ dval out = H % 4294967296 ^ l ∧ Below w.heap.size w wr
theorem high_step (H l d : Nat) (out : List Nat) (hl : out.length = l) (h : dval out = H % 4294967296 ^ l) (hd : d = H / 4294967296 ^ l % 4294967296) : dval (out ++ [d]) = H % 4294967296 ^ (l + 1) := by
  rw [dval_append, h, hl, Nat.mod_pow_succ, ← hd]
  simp [dval]
theorem high_digit (xs : List Nat) (h : ∀ j, xs.getD j 0 < 4294967296) (a k j0 r l : Nat) (ha : dval xs = a) (hj : k / 32 = j0) (hr : k % 32 = r) :
    (xs.getD (j0 + l) 0 + xs.getD (j0 + l + 1) 0 * 4294967296) / 2 ^ r % 4294967296 = a / 2 ^ k / 4294967296 ^ l % 4294967296 := by
  rw [high_math xs h (j0 + l) r (by omega), ha, pow_base, Nat.div_div_eq_div_mul, ← Nat.pow_add]
  congr 3
  omega
theorem high_fin (a k j0 n : Nat) (ha : a < 2 ^ (32 * n)) (hj : k / 32 = j0) : a / 2 ^ k % 4294967296 ^ (n - j0) = a / 2 ^ k := by
  refine Nat.mod_eq_of_lt ?_
  rw [pow_base, Nat.div_lt_iff_lt_mul (Nat.pow_pos (by decide)), ← Nat.pow_add]
  exact Nat.lt_of_lt_of_le ha (Nat.pow_le_pow_right (by decide) (by omega))
set_option maxRecDepth 100000 in
set_option maxHeartbeats 2000000 in
theorem rhigh_any (A : Option Addr) (n c a k : Nat) (xs : List Nat) (w : World) (h : Lst w A n c xs) (ha : dval xs = a) (hn : n ≤ 1000000) (hk : k ≤ 100000000) :
    Calls Tryz.prog 97 #[.slice A n c, .int .i64 k] w (GivesNum (a / 2 ^ k) w) := by
  obtain ⟨i0, hi0, hz0, hz1, hz2⟩ := info_parts infoU32
  have HF : Hid (a / 2 ^ k % 4294967296 ^ (n - k / 32) = a / 2 ^ k) := Lib.hid (high_fin a k _ n (by rw [← ha]; exact dval_lt_bits xs n h.lt h.len) rfl)
  obtain ⟨j0, hj⟩ : ∃ j, k / 32 = j := ⟨_, rfl⟩
  obtain ⟨r, hr⟩ : ∃ r, k % 32 = r := ⟨_, rfl⟩
  have HD := Lib.hid (fun l => high_digit xs h.getD_lt a k j0 r l ha hj hr)
  rw [hj] at HF
  have hjl : j0 ≤ 100000000 := by omega
  have hrl : r < 32 := by omega
  have i1 : (k : Int) / 32 = (j0 : Int) := by omega
  have i2 : (k : Int) % 32 = (r : Int) := by omega
  have i3 : (k : Int).tdiv 32 = (j0 : Int) := by rw [Int.tdiv_eq_ediv_of_nonneg (by omega), i1]
  have i4 : (k : Int).tmod 32 = (r : Int) := by rw [Int.tmod_eq_emod_of_nonneg (by omega), i2]
  obtain ⟨P, hP⟩ : ∃ P, 2 ^ r = P := ⟨_, rfl⟩
  have hPl : P ≤ 2147483648 := by rw [← hP]; exact pow_lt32 r hrl
  have hP1 : 1 ≤ P := by rw [← hP]; exact Nat.pow_pos (by decide)
  have hPi : (2 : Int) ^ r = (P : Int) := by rw [← hP, Int.natCast_pow]; rfl
  have p1 : (1 : Int) ≤ (P : Int) := by omega
  rw [hP] at HD
  have HX := Lib.hid h
  obtain ⟨H, hH⟩ : ∃ H, a / 2 ^ k = H := ⟨_, rfl⟩
  rw [hH] at HF HD ⊢
  have I0 : Hid (RHighInv H w 0 (.slice none 0 0) w) := Lib.hid ⟨[], Own.nil _ _, rfl, by simp [dval, Nat.mod_one], Below.refl _ _⟩
  clear h ha hj hr hP hH
  go_enter Tryz.func97, Tryz.ntmps97
  go_wp2
  go_loopw [5, 6] (fun v iv wr => ∃ l : Nat, l ≤ n - j0 ∧ iv = .int .i64 ((j0 : Int) + (l : Int)) ∧ Hid (RHighInv H w l v wr)) (fun _ iv _ => n - (intOf iv).toNat)
  case atStart => exact ⟨0, by omega, by go_num, I0⟩
  case round =>
    obtain ⟨l, hl, rfl, hi⟩ := hrel
    obtain ⟨out, hO, hol, hv, hb⟩ := hi.out
    have HO := Lib.hid hO
    have HL := Lib.hid hol
    have HV := Lib.hid hv
    have HB := Lib.hid hb
    have hs := hb.size
    have KX := Lib.hid (HX.out.keep hb)
    clear hO hol hv hb hi I0
    by_cases hlt : j0 + l < n
    · obtain ⟨x, hxe⟩ : ∃ x, xs.getD (j0 + l) 0 = x := ⟨_, rfl⟩
      obtain ⟨y, hye⟩ : ∃ y, xs.getD (j0 + l + 1) 0 = y := ⟨_, rfl⟩
      have hxl := KX.out.getD_lt (j0 + l)
      have hyl := KX.out.getD_lt (j0 + l + 1)
      have D1 := digit_any A n c (j0 + l) xs _ KX.out (by omega)
      have D2 := digit_any A n c (j0 + l + 1) xs _ KX.out (by omega)
      have hdg := HD.out l
      rw [hxe] at D1 hxl hdg
      rw [hye] at D2 hyl hdg
      rw [show ((j0 + l : Nat) : Int) = (j0 : Int) + (l : Int) from by omega] at D1
      rw [show ((j0 + l + 1 : Nat) : Int) = (j0 : Int) + (l : Int) + 1 from by omega] at D2
      have C1 := Lib.hid D1
      have C2 := Lib.hid D2
      obtain ⟨T, hT⟩ : ∃ T, x + y * 4294967296 = T := ⟨_, rfl⟩
      have hTi : (x : Int) + (y : Int) * 4294967296 = (T : Int) := by omega
      have hTl : T < 18446744073709551616 := by omega
      rw [hT] at hdg
      obtain ⟨Q, hQ⟩ : ∃ Q, T / P = Q := ⟨_, rfl⟩
      have hQl : Q ≤ T := by rw [← hQ]; exact Nat.div_le_self _ _
      have q1 : (T : Int) / (P : Int) = (Q : Int) := by rw [← hQ]; exact (Int.natCast_ediv _ _).symm
      have q2 : (T : Int).tdiv (P : Int) = (Q : Int) := by rw [Int.tdiv_eq_ediv_of_nonneg (by omega), q1]
      rw [hQ] at hdg
      have M := Lib.hid (high_step H l (Q % 4294967296) out HL.out HV.out hdg)
      clear D1 D2 hxe hye hdg hT hQ
      go_wp2_with fail
      refine C1.out.mono ?_
      rintro e w' ⟨rfl, rfl⟩
      go_wp2_with fail
      refine C2.out.mono ?_
      rintro e w' ⟨rfl, rfl⟩
      go_wp2_with (at_builtin; refine wpList_append_own _ rfl _ _ 23 rfl w.heap.size 52 i0 (.int .u32 0) 1 4 Tryz.underlying23 hi0 hz0 hz1 hz2 rfl (by decide) _ _ _ rfl (HO.out.own.alloc _) ⟨wr.heap.size, 0, none⟩ 1 1 [.int .u32 ((Q : Int) % 4294967296)] rfl rfl ?c1 ?c2 ?c3 ?c4 ?c5 ?_)
      case c1 =>
        intro j u hj
        match j, hj with
        | 0, hj => simp at hj; subst hj; simp [Addr.add]
      case c2 => intro u hu; simp at hu; subst hu; rfl
      case c3 => have := HL.out; unfold maxLen; omega
      case c4 => have := HL.out; omega
      case c5 => simp; omega
      intro v' w1 hown' hgrow _
      have RA := HO.out.app HB.out hs hown' (d := Q % 4294967296) (by omega) (Nat.mod_lt _ (by decide)) hgrow
      have RR : Hid (RHighInv H w (l + 1) v' w1) := Lib.hid ⟨_, RA.1, by simp [HL.out], M.out, RA.2⟩
      clear hown' hgrow RA
      go_wp2
      go_roundw
      case rel => exact ⟨l + 1, by omega, by go_num, RR⟩
      case measure => simp [intOf]; omega
    · have hll : l = n - j0 := by omega
      have V : Hid (dval out = H) := Lib.hid (by rw [HV.out, hll]; exact HF.out)
      clear hll
      obtain ⟨A', c', rfl, L⟩ := HO.out.lst (by have := HL.out; omega)
      have LL := Lib.hid L
      clear L
      go_wp2_with fail
      refine (rtrim_any _ _ _ _ _ LL.out).mono ?_
      rintro e w' hg
      have G := Lib.hid ((hg.from_ HB.out rfl).eq V.out)
      obtain ⟨A1, n1, c1, xs1, rfl, _, _⟩ := hg
      go_wp2
      go_ret
      exact G.out
end Go.Proofs.YtbllnkhbahenkaaGreatDoor
namespace Go.Proofs.YtbllnkhbahenkaaGreatDoor
open Go.RowKit
theorem rdivMod_zero (A B : Option Addr) (n c d : Nat) (w : World) :
    Calls Tryz.prog 63 #[.slice A n c, .slice B 0 d] w (GivesDiv 0 0 8 w) := by
  go_enter Tryz.func63, Tryz.ntmps63
  go_wp2
  go_ret3
  exact ⟨none, 0, 0, [], none, 0, 0, [], rfl, Num.zero _, Num.zero _, Below.refl _ _⟩
theorem Num.to' {w : World} {A : Option Addr} {n c a b : Nat} {xs : List Nat} (h : Num w A n c xs a) (e : a = b) : Num w A n c xs b := e ▸ h
theorem Num.short {w : World} {A : Option Addr} {n c a k : Nat} {xs : List Nat} (h : Num w A n c xs a) (ha : a < 4294967296 ^ k) (hk : k ≤ 1000000) : n ≤ 1000000 := Nat.le_trans (h.len_le ha) hk
theorem pow_up {a n : Nat} (h : a < 4294967296 ^ n) : a + a + 1 < 4294967296 ^ (n + 1) := by
  rw [Nat.pow_succ]
  have : (a + 1) * 2 ≤ 4294967296 ^ n * 4294967296 := Nat.mul_le_mul h (by decide)
  omega
theorem Num.drewN {w : World} {A : Option Addr} {n c a : Nat} {xs : List Nat} (h : Num w A n c xs a) (q : Nat) : Num (w.drewN q) A n c xs a := ⟨h.toLst.drewN q, h.tight, h.val⟩
def RDivInv (a b : Nat) (w : World) (Aq : Option Addr) (nq cq : Nat) (Ar : Option Addr) (nr cr j : Nat) (wr : World) : Prop :=
  ∃ xq xr Q R, Num wr Aq nq cq xq Q ∧ Num wr Ar nr cr xr R ∧ Q * b + R = a / 2 ^ j ∧ R < b ∧ Below w.heap.size w wr
theorem q_le {a b Q R j : Nat} (h : Q * b + R = a / 2 ^ j) (hb : 0 < b) : Q ≤ a := by
  have h1 : Q * 1 ≤ Q * b := Nat.mul_le_mul_left _ hb
  have h2 : a / 2 ^ j ≤ a := Nat.div_le_self _ _
  omega
set_option maxRecDepth 100000 in
set_option maxHeartbeats 1000000 in
theorem rdivMod_any (A B : Option Addr) (n c m d a b : Nat) (xs ys : List Nat) (w : World) (hx : Num w A n c xs a) (hy : Num w B m d ys b) (hm : 0 < m) (hn : n ≤ 900000) (hm2 : m ≤ 900000) :
    Calls Tryz.prog 63 #[.slice A n c, .slice B m d] w (GivesDiv (a / b) (a % b) 0 w) := by
  have hbp := hy.pos hm
  have HBP := Lib.hid hbp
  have HX := Lib.hid hx
  have HY := Lib.hid hy
  have LA := Lib.hid hx.lt_pow
  have LB := Lib.hid hy.lt_pow
  have hz : ((m : Int) == 0) = false := beq_eq_false_iff_ne.2 (by omega)
  clear hx hy hbp
  go_enter Tryz.func63, Tryz.ntmps63
  go_wp2_with fail
  refine (rbits_any A n c a xs w HX.out.toLst HX.out.val (by omega)).mono ?_
  rintro e w' ⟨⟨ba, rfl, hba, hbal⟩, q1, rfl⟩
  have IA := Lib.hid hba
  clear hba
  go_wp2_with fail
  refine (rbits_any B m d b ys _ (HY.out.toLst.drewN _) HY.out.val (by omega)).mono ?_
  rintro e w' ⟨⟨bb, rfl, hbb, hbbl⟩, q2, rfl⟩
  have hb1 : 1 ≤ bb := by
    rcases Nat.eq_zero_or_pos bb with h | h
    · have := hbb.1; rw [h] at this; have := HBP.out; omega
    · exact h
  have hst : a / 2 ^ (ba + 1 - bb) < b := start_lt IA.out.1 (hbb.2.resolve_left (by omega)) (by omega)
  obtain ⟨k, hk⟩ : ∃ k, ba + 1 - bb = k := ⟨_, rfl⟩
  rw [hk] at hst
  have hkl : k ≤ 100000000 := by omega
  have hmax1 : max (1 : Int) (bb : Int) = (bb : Int) := by omega
  have hmax2 : max (0 : Int) ((ba : Int) - (bb : Int) + 1) = (k : Int) := by omega
  have ST := Lib.hid hst
  have HK := Lib.hid hk
  clear hst hbb IA hk
  have RH := Lib.hid (fun w' (h : Lst w' A n c xs) => rhigh_any A n c a k xs w' h HX.out.val (by omega) hkl)
  go_wp2_with fail
  refine (RH.out _ ((HX.out.toLst.drewN _))).mono ?_
  rintro e w1 ⟨Ar, nr, cr, xr, rfl, hr, hb⟩
  have I0 : Hid (RDivInv a b w none 0 0 Ar nr cr k w1) := Lib.hid ⟨[], xr, 0, _, Num.zero _, hr, by rw [Nat.zero_mul, Nat.zero_add], ST.out, (below_drewN (Below.refl _ _) _).trans (hb.mono (by simp))⟩
  clear hr hb RH hmax1 hmax2
  go_wp2
  go_loopw [8, 9, 10] (fun qv rv iv wr => ∃ (Aq : Option Addr) (nq cq : Nat) (Ar : Option Addr) (nr cr : Nat) (j : Nat), j ≤ k ∧ qv = .slice Aq nq cq ∧ rv = .slice Ar nr cr ∧ iv = .int .i64 ((j : Int) - 1) ∧ Hid (RDivInv a b w Aq nq cq Ar nr cr j wr)) (fun _ _ iv _ => (intOf iv + 1).toNat)
  case atStart => exact ⟨none, 0, 0, Ar, nr, cr, k, Nat.le_refl _, rfl, rfl, by go_num, I0⟩
  case round =>
    clear I0
    obtain ⟨Aq, nq, cq, Ar, nr, cr, j, hj, rfl, rfl, rfl, hi⟩ := hrel
    obtain ⟨xq, xr, Q, R, h1, h2, h3, h4, h5⟩ := hi.out
    rcases j with _ | i
    · obtain ⟨e1, e2⟩ := div_fin h3 h4
      have G : Hid (GivesDiv (a / b) (a % b) 0 w (.returned (.tuple #[.slice Aq nq cq, .slice Ar nr cr, .int .i64 0])) wr) := Lib.hid ⟨_, _, _, _, _, _, _, _, rfl, h1.to' e1, h2.to' e2, h5⟩
      clear h1 h2 h3 h4 h5 e1 e2 hi
      go_wp2
      go_ret3
      exact G.out
    · have hQ := q_le h3 HBP.out
      have lq := Lib.hid (Nat.lt_of_le_of_lt hQ LA.out)
      have lr := Lib.hid (Nat.lt_trans h4 LB.out)
      have N1 := Lib.hid h1
      have N2 := Lib.hid h2
      have E := Lib.hid h3
      have RB := Lib.hid h4
      have B1 := Lib.hid h5
      have A1 := Lib.hid (HX.out.keep h5)
      have Y1 := Lib.hid (HY.out.keep h5)
      clear h1 h2 h3 h4 h5 hQ hi
      go_wp2_with fail
      refine (radd_any _ _ _ _ _ _ _ _ _ _ _ N1.out N1.out (N1.out.short lq.out (by omega)) (N1.out.short lq.out (by omega))).mono ?_
      rintro e w2 ⟨A2, n2, c2, x2, rfl, hn2, hb2⟩
      have Q2 := Lib.hid hn2
      have N3 := Lib.hid (N2.out.keep hb2)
      have A2' := Lib.hid (A1.out.keep hb2)
      have Y2 := Lib.hid (Y1.out.keep hb2)
      have B2 := Lib.hid (B1.out.trans (hb2.mono B1.out.size))
      clear hn2 hb2 N1 N2 A1 Y1 B1
      go_wp2_with fail
      refine (radd_any _ _ _ _ _ _ _ _ _ _ _ N3.out N3.out (N3.out.short lr.out (by omega)) (N3.out.short lr.out (by omega))).mono ?_
      rintro e w3 ⟨A3, n3, c3, x3, rfl, hn3, hb3⟩
      have R3 := Lib.hid hn3
      have Q3 := Lib.hid (Q2.out.keep hb3)
      have A3' := Lib.hid (A2'.out.keep hb3)
      have Y3 := Lib.hid (Y2.out.keep hb3)
      have B3 := Lib.hid (B2.out.trans (hb3.mono B2.out.size))
      clear hn3 hb3 Q2 N3 A2' Y2 B2
      have BIT := Lib.hid (rbit_any A n c i a xs w3 A3'.out.toLst A3'.out.val (by omega) (by omega))
      obtain ⟨t, ht⟩ : ∃ t, a / 2 ^ i % 2 = t := ⟨_, rfl⟩
      have ht2 : t < 2 := by rw [← ht]; exact Nat.mod_lt _ (by decide)
      rw [ht] at BIT
      have HT := Lib.hid ht
      clear ht
      go_wp2_with fail
      refine BIT.out.mono ?_
      rintro e w' ⟨rfl, q3, rfl⟩
      go_wp2_with fail
      refine (rfromUint_any t (by omega) _).mono ?_
      rintro e w4 ⟨A4, n4, c4, x4, rfl, hn4, hb4⟩
      have T4 := Lib.hid hn4
      have R4 := Lib.hid ((R3.out.drewN q3).keep hb4)
      have Q4 := Lib.hid ((Q3.out.drewN q3).keep hb4)
      have Y4 := Lib.hid ((Y3.out.drewN q3).keep hb4)
      have B4 := Lib.hid ((below_drewN B3.out q3).trans (hb4.mono (by have := B3.out.size; simpa using this)))
      clear hn4 hb4 R3 Q3 A3' Y3 B3 BIT
      have lt4 : Hid (t < 4294967296 ^ 1) := Lib.hid (by rw [Nat.pow_one]; omega)
      have l2r : Hid (R + R < 4294967296 ^ (m + 1)) := Lib.hid (by have := pow_up lr.out; omega)
      go_wp2_with fail
      refine (radd_any _ _ _ _ _ _ _ _ _ _ _ R4.out T4.out (R4.out.short l2r.out (by omega)) (T4.out.short lt4.out (by omega))).mono ?_
      rintro e w5 ⟨A5, n5, c5, x5, rfl, hn5, hb5⟩
      have R5 := Lib.hid hn5
      have Q5 := Lib.hid (Q4.out.keep hb5)
      have Y5 := Lib.hid (Y4.out.keep hb5)
      have B5 := Lib.hid (B4.out.trans (hb5.mono B4.out.size))
      clear hn5 hb5 R4 Q4 Y4 B4 T4
      have EQ := Lib.hid (div_step E.out HT.out)
      have CMP := rcmp_any _ _ _ _ _ _ _ _ _ R5.out.toLst Y5.out.toLst
      rw [R5.out.val, Y5.out.val] at CMP
      have CC := Lib.hid CMP
      clear CMP
      by_cases hlt : R + R + t < b
      · have CE := Lib.hid (cmpI_lt hlt)
        have II : Hid (RDivInv a b w A2 n2 c2 A5 n5 c5 i w5) := Lib.hid ⟨_, _, _, _, Q5.out, R5.out, EQ.out, hlt, B5.out⟩
        clear hlt
        go_wp2_with fail
        refine CC.out.mono ?_
        rintro e w' ⟨rfl, rfl⟩
        rw [CE.out]
        clear CC CE
        go_wp2
        go_roundw
        case rel => exact ⟨_, _, _, _, _, _, i, by omega, rfl, rfl, by go_num, II⟩
        case measure => simp [intOf]; try omega
      · have hge : b ≤ R + R + t := by omega
        have hq0 : 0 ≤ cmpI (R + R + t) b := by
          unfold cmpI
          rw [if_neg hlt]
          split <;> decide
        obtain ⟨z, hze⟩ : ∃ z, cmpI (R + R + t) b = z := ⟨_, rfl⟩
        rw [hze] at hq0
        have CE := Lib.hid hze
        have SB := Lib.hid (rsub_any _ _ _ _ _ _ _ _ _ _ _ R5.out Y5.out (R5.out.short (k := m + 1) (by have := pow_up lr.out; omega) (by omega)))
        have EQ2 := Lib.hid (div_step' EQ.out hge)
        have HR : Hid (R + R + t - b < b) := Lib.hid (by have := RB.out; omega)
        have hde : decide (b ≤ R + R + t) = true := decide_eq_true hge
        clear hlt hze
        go_wp2_with fail
        refine CC.out.mono ?_
        rintro e w' ⟨rfl, rfl⟩
        rw [CE.out]
        go_wp2_with fail
        refine SB.out.mono ?_
        rintro e w6 ⟨A6, n6, c6, x6, rfl, hn6, hb6⟩
        have R6 := Lib.hid hn6
        have Q6 := Lib.hid (Q5.out.keep hb6)
        have B6 := Lib.hid (B5.out.trans (hb6.mono B5.out.size))
        clear hn6 hb6 R5 Q5 Y5 B5 SB CC hge
        go_wp2_with fail
        refine (rfromUint_any 1 (by decide) _).mono ?_
        rintro e w7 ⟨A7, n7, c7, x7, rfl, hn7, hb7⟩
        have T7 := Lib.hid hn7
        have R7 := Lib.hid (R6.out.keep hb7)
        have Q7 := Lib.hid (Q6.out.keep hb7)
        have B7 := Lib.hid (B6.out.trans (hb7.mono B6.out.size))
        clear hn7 hb7 R6 Q6 B6
        go_wp2_with fail
        refine (radd_any _ _ _ _ _ _ _ _ _ _ _ Q7.out T7.out (Q7.out.short (k := n + 1) (by have := pow_up lq.out; omega) (by omega)) (T7.out.short (k := 1) (by decide) (by omega))).mono ?_
        rintro e w8 ⟨A8, n8, c8, x8, rfl, hn8, hb8⟩
        have II : Hid (RDivInv a b w A8 n8 c8 A6 n6 c6 i w8) := Lib.hid ⟨_, _, _, _, hn8, R7.out.keep hb8, EQ2.out, HR.out, B7.out.trans (hb8.mono B7.out.size)⟩
        clear hn8 hb8 R7 Q7 B7 T7
        go_wp2
        go_roundw
        case rel => exact ⟨_, _, _, _, _, _, i, by omega, rfl, rfl, by go_num, II⟩
        case measure => simp [intOf]; try omega
end Go.Proofs.YtbllnkhbahenkaaGreatDoor
