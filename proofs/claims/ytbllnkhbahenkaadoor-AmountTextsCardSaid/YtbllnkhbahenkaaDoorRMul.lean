/- RTrim, RAdd, RScale, RShift, RMul, joined: no claim of its own. -/
import Derived.Test.YtbllnkhbahenkaaDoorOwns
import Derived.Test.YtbllnkhbahenkaaDoorCmp
namespace Go.Proofs.YtbllnkhbahenkaaDoor
open Go.RowKit
set_option maxRecDepth 100000 in
set_option maxHeartbeats 1000000 in
theorem rtrim_any (A : Option Addr) (n c : Nat) (xs : List Nat) (w : World) (h : Lst w A n c xs) :
    Calls Tryd.prog 49 #[.slice A n c] w (GivesNum (dval xs) w) := by
  obtain ⟨i0, hi0, hz0, hz1, hz2⟩ := info_parts infoU32
  have hc := h.cap
  have hm := h.room
  have H := Lib.hid h
  clear h
  go_enter Tryd.func49, Tryd.ntmps49
  go_wp2
  go_loop [0] (fun v => ∃ k : Nat, k ≤ n ∧ v = .slice A k c ∧ Hid (∀ j, k ≤ j → xs.getD j 0 = 0)) (fun v => match v with | .slice _ k _ => k | _ => 0)
  case atStart => exact ⟨n, Nat.le_refl _, rfl, Lib.hid fun j hj => by rw [List.getD_eq_getElem?_getD, List.getElem?_eq_none (by have := H.out.len; omega)]; rfl⟩
  case round =>
    obtain ⟨k, hk, rfl, hz⟩ := hrel
    have fin : ((0 < k → xs.getD (k - 1) 0 ≠ 0) → Hid (Tight (xs.take k) ∧ dval (xs.take k) = dval xs ∧ Lst w A k c (xs.take k))) := fun h =>
      Lib.hid ⟨tight_take xs k (by rw [H.out.len]; exact hk) h, dval_take xs k hz.out, ⟨by rw [← Dg_take]; exact H.out.reads.take hk, by have := H.out.len; simp; omega, by omega, by omega, fun d hd => H.out.lt d (List.mem_of_mem_take hd)⟩⟩
    by_cases h0 : 0 < k ∧ xs.getD (k - 1) 0 = 0
    · obtain ⟨ad, rfl, hb, hcell⟩ := H.out.at_ (k := k - 1) (by omega)
      obtain ⟨h0, hd⟩ := h0
      rw [hd] at hcell
      have HD := Lib.hid hd
      clear hd fin
      go_wp2
      go_round
      case rel => exact ⟨k - 1, by omega, rfl, Lib.hid fun j hj => by
          rcases Nat.lt_or_ge j k with h1 | h1
          · rw [show j = k - 1 by omega]; exact HD.out
          · exact hz.out j h1⟩
      case measure => simp; omega
    · have F := fin fun hp he => h0 ⟨hp, he⟩
      clear fin hz
      rcases Nat.eq_zero_or_pos k with hk0 | hk0
      · subst hk0
        clear h0
        go_wp2_with (at_builtin; refine wpList_append_any _ rfl (.tmp 20) (.tmp 21) _ rfl w.heap.size 84 i0 _ 1 4 Tryd.underlying36 hi0 hz0 hz1 hz2 rfl (by omega) (.slice (some ⟨w.heap.size, 0, none⟩) 0 0) 0 [] rfl (World.ownsRow_made w #[] 0 (Nat.le_refl _) (by simp) (by simp)) w.heap.size A 0 c (Dg (xs.take 0)) rfl (F.out.2.2.reads.alloc (Nat.le_refl _) _) (dg_oneCell _) (by simp only [maxLen]; omega) (by omega) (by simp) ?_; intro v1 w1 hown hg hat)
        go_ret
        exact copied_gives hown F.out.2.2.lt F.out.2.2.len (by omega) F.out.1 F.out.2.1 hg
      · obtain ⟨ad, rfl, hb, hcell⟩ := H.out.at_ (k := k - 1) (by omega)
        have hd : xs.getD (k - 1) 0 ≠ 0 := fun e => h0 ⟨hk0, e⟩
        clear h0 hb
        generalize xs.getD (k - 1) 0 = x at *
        have hx : ((x : Int) == 0) = false := beq_eq_false_iff_ne.2 (by omega)
        clear hd
        go_wp2_with (at_builtin; refine wpList_append_any _ rfl (.tmp 20) (.tmp 21) _ rfl w.heap.size 84 i0 _ 1 4 Tryd.underlying36 hi0 hz0 hz1 hz2 rfl (by omega) (.slice (some ⟨w.heap.size, 0, none⟩) 0 0) 0 [] rfl (World.ownsRow_made w #[] 0 (Nat.le_refl _) (by simp) (by simp)) w.heap.size (some ad) k c (Dg (xs.take k)) rfl (F.out.2.2.reads.alloc (Nat.le_refl _) _) (dg_oneCell _) (by simp only [maxLen]; omega) (by omega) (by simp) ?_; intro v1 w1 hown hg hat)
        go_ret
        exact copied_gives hown F.out.2.2.lt F.out.2.2.len (by omega) F.out.1 F.out.2.1 hg
set_option maxRecDepth 100000 in
set_option maxHeartbeats 400000 in
theorem rfromUint_any (x : Nat) (hx : x < 18446744073709551616) (w : World) :
    Calls Tryd.prog 38 #[.int .u64 x] w (GivesNum x w) := by
  have HX := Lib.hid hx
  clear hx
  have L : Lst (w.alloc (.cells #[.int .u32 ((x : Int) % 4294967296), .int .u32 ((x : Int) / 4294967296)] 84)) (some ⟨w.heap.size, 0, none⟩) 2 2 [x % 4294967296, x / 4294967296] :=
    Lst.new w _ _ 2 2 _ (by simp [Dg]) rfl (by decide) (by decide) (by have := HX.out; intro d hd; simp at hd; omega)
  have hv : dval [x % 4294967296, x / 4294967296] = x := by have := HX.out; simp only [dval]; omega
  have hq : (x : Int) / 4294967296 ≤ 4294967295 := by have := HX.out; omega
  have HL := Lib.hid L
  have HV := Lib.hid hv
  clear L hv
  go_enter Tryd.func38, Tryd.ntmps38
  go_wp2_with fail
  refine (rtrim_any _ 2 2 _ _ HL.out).mono ?_
  rintro e w' ⟨A, n, c, ys, rfl, hN, hb⟩
  have g : Hid (GivesNum x w (.returned (.slice A n c)) w') := Lib.hid ⟨A, n, c, ys, rfl, ⟨hN.toLst, hN.tight, hN.val.trans HV.out⟩, ((Below.refl _ _).alloc (Nat.le_refl _) _).trans (hb.mono (by simp))⟩
  clear hN hb
  go_wp2
  go_ret
  exact g.out
end Go.Proofs.YtbllnkhbahenkaaDoor
namespace Go.Proofs.YtbllnkhbahenkaaDoor
open Go.RowKit
def RAddInv (xs ys : List Nat) (w : World) (k cy : Nat) (v : Value) (wr : World) : Prop :=
  ∃ out, Own wr w.heap.size v out ∧ out.length = k ∧ dval out + 4294967296 ^ k * cy = dval (xs.take k) + dval (ys.take k) ∧ Below w.heap.size w wr
theorem radd_math (xs ys out : List Nat) (k cy x y r q : Nat) (hx : xs.getD k 0 = x) (hy : ys.getD k 0 = y) (hl : out.length = k) (h : dval out + 4294967296 ^ k * cy = dval (xs.take k) + dval (ys.take k)) (hq : 4294967296 * q + r = x + y + cy) :
    dval (out ++ [r]) + 4294967296 ^ (k + 1) * q = dval (xs.take (k + 1)) + dval (ys.take (k + 1)) := by
  rw [dval_append, dval_take_succ', dval_take_succ', hx, hy, hl, Nat.pow_succ]
  simp only [dval]
  generalize 4294967296 ^ k = P at *
  grind
theorem radd_fin (xs ys out : List Nat) (n m a b k cy : Nat) (hx : xs.length = n) (hy : ys.length = m) (ha : a < 4294967296 ^ n) (hb : b < 4294967296 ^ m) (hxa : dval xs = a) (hyb : dval ys = b) (hk : k = max n m + 1)
    (h : dval out + 4294967296 ^ k * cy = dval (xs.take k) + dval (ys.take k)) : dval out = a + b := by
  rw [List.take_of_length_le (by omega), List.take_of_length_le (by omega), hxa, hyb] at h
  rw [hk, Nat.pow_succ] at h
  exact carry_none (4294967296 ^ max n m) a b cy _ (Nat.lt_of_lt_of_le ha (Nat.pow_le_pow_right (by decide) (by omega))) (Nat.lt_of_lt_of_le hb (Nat.pow_le_pow_right (by decide) (by omega))) h
set_option maxRecDepth 100000 in
set_option maxHeartbeats 2000000 in
theorem radd_any (A B : Option Addr) (n c m d a b : Nat) (xs ys : List Nat) (w : World) (hx : Num w A n c xs a) (hy : Num w B m d ys b) (hn : n ≤ 1000000) (hm : m ≤ 1000000) :
    Calls Tryd.prog 52 #[.slice A n c, .slice B m d] w (GivesNum (a + b) w) := by
  obtain ⟨i0, hi0, hz0, hz1, hz2⟩ := info_parts infoU32
  have HX := Lib.hid hx
  have HY := Lib.hid hy
  have I0 : Hid (RAddInv xs ys w 0 0 (.slice none 0 0) w) := Lib.hid ⟨[], Own.nil _ _, rfl, by simp [dval], Below.refl _ _⟩
  clear hx hy
  rcases Nat.lt_or_ge n m with hnm | hnm
  all_goals
    go_enter Tryd.func52, Tryd.ntmps52
    go_wp2
    go_loopw [5, 6, 7] (fun v cv i wr => ∃ k cy : Nat, k ≤ max n m + 1 ∧ cy ≤ 1 ∧ i = .int .i64 k ∧ cv = .int .u64 cy ∧ Hid (RAddInv xs ys w k cy v wr)) (fun _ _ i _ => max n m + 1 - (intOf i).toNat)
    case atStart => exact ⟨0, 0, by omega, by omega, rfl, rfl, I0⟩
    case round =>
      obtain ⟨k, cy, hk, hcy, rfl, rfl, hi⟩ := hrel
      obtain ⟨out, hO, hl, hv, hb⟩ := hi.out
      have HO := Lib.hid hO
      have HL := Lib.hid hl
      have HV := Lib.hid hv
      have HB := Lib.hid hb
      have KX := Lib.hid (HX.out.keep hb)
      have KY := Lib.hid (HY.out.keep hb)
      have hs := hb.size
      clear hO hl hv hb hi I0
      by_cases hlt : k ≤ max n m
      · have hxl := KX.out.toLst.getD_lt k
        have hyl := KY.out.toLst.getD_lt k
        obtain ⟨x, hxe⟩ : ∃ x, xs.getD k 0 = x := ⟨_, rfl⟩
        obtain ⟨y, hye⟩ : ∃ y, ys.getD k 0 = y := ⟨_, rfl⟩
        have D1 := digit_any A n c k xs _ KX.out.toLst (by omega)
        have D2 := digit_any B m d k ys _ KY.out.toLst (by omega)
        rw [hxe] at D1 hxl
        rw [hye] at D2 hyl
        have C1 := Lib.hid D1
        have C2 := Lib.hid D2
        have M := Lib.hid (radd_math xs ys out k cy x y ((x + y + cy) % 4294967296) ((x + y + cy) / 4294967296) hxe hye HL.out HV.out (Nat.div_add_mod _ _))
        clear D1 D2 hxe hye
        go_wp2_with fail
        refine C1.out.mono ?_
        rintro e w' ⟨rfl, rfl⟩
        go_wp2_with fail
        refine C2.out.mono ?_
        rintro e w' ⟨rfl, rfl⟩
        go_wp2_with (at_builtin; refine wpList_append_own _ rfl _ _ 36 rfl w.heap.size 84 i0 (.int .u32 0) 1 4 Tryd.underlying36 hi0 hz0 hz1 hz2 rfl (by decide) _ _ _ rfl (HO.out.own.alloc _) ⟨wr.heap.size, 0, none⟩ 1 1 [.int .u32 (((x : Int) + (y : Int) + (cy : Int)) % 4294967296)] rfl rfl ?c1 ?c2 ?c3 ?c4 ?c5 ?_)
        case c1 =>
          intro j u hj
          match j, hj with
          | 0, hj => simp at hj; subst hj; simp [Addr.add]
        case c2 => intro u hu; simp at hu; subst hu; rfl
        case c3 => have := HL.out; unfold maxLen; omega
        case c4 => have := HL.out; omega
        case c5 => simp; omega
        intro v' w1 hown' hgrow _
        have R := HO.out.app HB.out hs hown' (d := (x + y + cy) % 4294967296) (by omega) (Nat.mod_lt _ (by decide)) hgrow
        have RR : Hid (RAddInv xs ys w (k + 1) ((x + y + cy) / 4294967296) v' w1) := Lib.hid ⟨_, R.1, by simp [HL.out], M.out, R.2⟩
        clear hown' hgrow R
        go_wp2
        go_roundw
        case rel => exact ⟨k + 1, (x + y + cy) / 4294967296, by omega, by omega, by go_num, by go_num, RR⟩
        case measure => simp [intOf]; omega
      · have hkk : k = max n m + 1 := by omega
        have F := Lib.hid (radd_fin xs ys out n m a b k cy HX.out.len HY.out.len HX.out.lt_pow HY.out.lt_pow HX.out.val HY.out.val hkk HV.out)
        obtain ⟨A', c', rfl, L⟩ := HO.out.lst (by have := HL.out; omega)
        have LL := Lib.hid L
        clear L hkk
        go_wp2_with fail
        refine (rtrim_any _ _ _ _ _ LL.out).mono ?_
        rintro e w' hg
        have G := Lib.hid ((hg.from_ HB.out rfl).eq F.out)
        obtain ⟨A1, n1, c1, xs1, rfl, _, _⟩ := hg
        go_wp2
        go_ret
        exact G.out
end Go.Proofs.YtbllnkhbahenkaaDoor
namespace Go.Proofs.YtbllnkhbahenkaaDoor
open Go.RowKit
def ScaleInv (xs : List Nat) (f : Nat) (w : World) (k cy : Nat) (v : Value) (wr : World) : Prop :=
  ∃ out, Own wr w.heap.size v out ∧ out.length = k ∧ dval out + 4294967296 ^ k * cy = f * dval (xs.take k) ∧ Below w.heap.size w wr
theorem scale_math (xs out : List Nat) (f k cy x r q : Nat) (hx : xs.getD k 0 = x) (hl : out.length = k) (h : dval out + 4294967296 ^ k * cy = f * dval (xs.take k)) (hq : 4294967296 * q + r = x * f + cy) :
    dval (out ++ [r]) + 4294967296 ^ (k + 1) * q = f * dval (xs.take (k + 1)) := by
  rw [dval_append, dval_take_succ', hx, hl, Nat.pow_succ]
  simp only [dval]
  generalize 4294967296 ^ k = P at *
  grind
theorem scale_fin (xs out : List Nat) (f n a k cy : Nat) (hx : xs.length = n) (ha : a < 4294967296 ^ n) (hf : f < 4294967296) (hxa : dval xs = a) (hk : k = n + 1)
    (h : dval out + 4294967296 ^ k * cy = f * dval (xs.take k)) : dval out = f * a := by
  rw [List.take_of_length_le (by omega), hxa] at h
  refine no_carry _ _ cy _ ?_ h
  rw [hk, Nat.pow_succ, Nat.mul_comm f a]
  exact Nat.mul_lt_mul'' ha hf
end Go.Proofs.YtbllnkhbahenkaaDoor
namespace Go.Proofs.YtbllnkhbahenkaaDoor
open Go.RowKit
def ShiftInv (w : World) (k : Nat) (v : Value) (wr : World) : Prop := ∃ out, Own wr w.heap.size v out ∧ out.length = k ∧ dval out = 0 ∧ Below w.heap.size w wr
theorem dval_zero_snoc (out : List Nat) (h : dval out = 0) : dval (out ++ [0]) = 0 := by rw [dval_append, h]; simp [dval]
end Go.Proofs.YtbllnkhbahenkaaDoor
namespace Go.Proofs.YtbllnkhbahenkaaDoor
open Go.RowKit
theorem pow_le_add (n m : Nat) : (4294967296 : Nat) ^ n ≤ 4294967296 ^ (n + m) := Nat.pow_le_pow_right (by decide) (by omega)
end Go.Proofs.YtbllnkhbahenkaaDoor
