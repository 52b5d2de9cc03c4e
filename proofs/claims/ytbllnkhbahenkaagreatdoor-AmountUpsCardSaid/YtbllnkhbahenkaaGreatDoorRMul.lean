/- RTrim, RAdd, RScale, RShift, RMul, joined: no claim of its own. -/
import Derived.Test.YtbllnkhbahenkaaGreatDoorOwns
import Derived.Test.YtbllnkhbahenkaaGreatDoorCmp
namespace Go.Proofs.YtbllnkhbahenkaaGreatDoor
open Go.RowKit
set_option maxRecDepth 100000 in
set_option maxHeartbeats 1000000 in
theorem rtrim_any (A : Option Addr) (n c : Nat) (xs : List Nat) (w : World) (h : Lst w A n c xs) :
    Calls Tryz.prog 65 #[.slice A n c] w (GivesNum (dval xs) w) := by
  obtain ⟨i0, hi0, hz0, hz1, hz2⟩ := info_parts infoU32
  have hc := h.cap
  have hm := h.room
  have H := Lib.hid h
  clear h
  go_enter Tryz.func65, Tryz.ntmps65
  go_wp2
  go_loop [0] (fun v => ∃ k : Nat, k ≤ n ∧ v = .slice A k c ∧ Hid (∀ j, k ≤ j → xs.getD j 0 = 0)) (fun v => match v with | .slice _ k _ => k | _ => 0)
  case atStart => exact ⟨n, Nat.le_refl _, rfl, Lib.hid fun j hj => by rw [List.getD_eq_getElem?_getD, List.getElem?_eq_none (by have := H.out.len; omega)]; rfl⟩
  case round =>
    obtain ⟨k, hk, rfl, hz⟩ := hrel
    have fin : ((0 < k → xs.getD (k - 1) 0 ≠ 0) → Hid (Tight (xs.take k) ∧ dval (xs.take k) = dval xs ∧ Lst w A k c (xs.take k))) := fun h =>
      Lib.hid ⟨tight_take xs k (by rw [H.out.len]; exact hk) h, dval_take xs k hz.out, ⟨by rw [← Dg_take]; exact H.out.reads.take hk, by have := H.out.len; simp; omega, by omega, by omega, fun d hd => H.out.lt d (List.mem_of_mem_take hd)⟩⟩
    by_cases h0 : 0 < k ∧ xs.getD (k - 1) 0 = 0
    · obtain ⟨ad, rfl, hb, hcell⟩ := H.out.at_ (k := k - 1) (by omega)
      obtain ⟨h0, hd⟩ := h0
      rw [hd] at hcell
      have HD := Lib.hid hd
      clear hd fin
      go_wp2
      go_round
      case rel => exact ⟨k - 1, by omega, rfl, Lib.hid fun j hj => by
          rcases Nat.lt_or_ge j k with h1 | h1
          · rw [show j = k - 1 by omega]; exact HD.out
          · exact hz.out j h1⟩
      case measure => simp; omega
    · have F := fin fun hp he => h0 ⟨hp, he⟩
      clear fin hz
      rcases Nat.eq_zero_or_pos k with hk0 | hk0
      · subst hk0
        clear h0
        go_wp2_with (at_builtin; refine wpList_append_any _ rfl (.tmp 20) (.tmp 21) _ rfl w.heap.size 52 i0 _ 1 4 Tryz.underlying23 hi0 hz0 hz1 hz2 rfl (by omega) (.slice (some ⟨w.heap.size, 0, none⟩) 0 0) 0 [] rfl (World.ownsRow_made w #[] 0 (Nat.le_refl _) (by simp) (by simp)) w.heap.size A 0 c (Dg (xs.take 0)) rfl (F.out.2.2.reads.alloc (Nat.le_refl _) _) (dg_oneCell _) (by simp only [maxLen]; omega) (by omega) (by simp) ?_; intro v1 w1 hown hg hat)
        go_ret
        exact copied_gives hown F.out.2.2.lt F.out.2.2.len (by omega) F.out.1 F.out.2.1 hg
      · obtain ⟨ad, rfl, hb, hcell⟩ := H.out.at_ (k := k - 1) (by omega)
        have hd : xs.getD (k - 1) 0 ≠ 0 := fun e => h0 ⟨hk0, e⟩
        clear h0 hb
        generalize xs.getD (k - 1) 0 = x at *
        have hx : ((x : Int) == 0) = false := beq_eq_false_iff_ne.2 (by omega)
        clear hd
        go_wp2_with (at_builtin; refine wpList_append_any _ rfl (.tmp 20) (.tmp 21) _ rfl w.heap.size 52 i0 _ 1 4 Tryz.underlying23 hi0 hz0 hz1 hz2 rfl (by omega) (.slice (some ⟨w.heap.size, 0, none⟩) 0 0) 0 [] rfl (World.ownsRow_made w #[] 0 (Nat.le_refl _) (by simp) (by simp)) w.heap.size (some ad) k c (Dg (xs.take k)) rfl (F.out.2.2.reads.alloc (Nat.le_refl _) _) (dg_oneCell _) (by simp only [maxLen]; omega) (by omega) (by simp) ?_; intro v1 w1 hown hg hat)
        go_ret
        exact copied_gives hown F.out.2.2.lt F.out.2.2.len (by omega) F.out.1 F.out.2.1 hg
set_option maxRecDepth 100000 in
set_option maxHeartbeats 400000 in
theorem rfromUint_any (x : Nat) (hx : x < 18446744073709551616) (w : World) :
    Calls Tryz.prog 62 #[.int .u64 x] w (GivesNum x w) := by
  have HX := Lib.hid hx
  clear hx
  have L : Lst (w.alloc (.cells #[.int .u32 ((x : Int) % 4294967296), .int .u32 ((x : Int) / 4294967296)] 52)) (some ⟨w.heap.size, 0, none⟩) 2 2 [x % 4294967296, x / 4294967296] :=
    Lst.new w _ _ 2 2 _ (by simp [Dg]) rfl (by decide) (by decide) (by have := HX.out; intro d hd; simp at hd; omega)
  have hv : dval [x % 4294967296, x / 4294967296] = x := by have := HX.out; simp only [dval]; omega
  have hq : (x : Int) / 4294967296 ≤ 4294967295 := by have := HX.out; omega
  have HL := Lib.hid L
  have HV := Lib.hid hv
  clear L hv
  go_enter Tryz.func62, Tryz.ntmps62
  go_wp2_with fail
  refine (rtrim_any _ 2 2 _ _ HL.out).mono ?_
  rintro e w' ⟨A, n, c, ys, rfl, hN, hb⟩
  have g : Hid (GivesNum x w (.returned (.slice A n c)) w') := Lib.hid ⟨A, n, c, ys, rfl, ⟨hN.toLst, hN.tight, hN.val.trans HV.out⟩, ((Below.refl _ _).alloc (Nat.le_refl _) _).trans (hb.mono (by simp))⟩
  clear hN hb
  go_wp2
  go_ret
  exact g.out
end Go.Proofs.YtbllnkhbahenkaaGreatDoor
namespace Go.Proofs.YtbllnkhbahenkaaGreatDoor
open Go.RowKit
def RAddInv (xs ys : List Nat) (w : World) (k cy : Nat) (v : Value) (wr : World) : Prop :=
  ∃ out, Own wr w.heap.size v out ∧ out.length = k ∧ dval out + 4294967296 ^ k * cy = dval (xs.take k) + dval (ys.take k) ∧ Below w.heap.size w wr
theorem radd_math (xs ys out : List Nat) (k cy x y r q : Nat) (hx : xs.getD k 0 = x) (hy : ys.getD k 0 = y) (hl : out.length = k) (h : dval out + 4294967296 ^ k * cy = dval (xs.take k) + dval (ys.take k)) (hq : 4294967296 * q + r = x + y + cy) :
    dval (out ++ [r]) + 4294967296 ^ (k + 1) * q = dval (xs.take (k + 1)) + dval (ys.take (k + 1)) := by
  rw [dval_append, dval_take_succ', dval_take_succ', hx, hy, hl, Nat.pow_succ]
  simp only [dval]
  generalize 4294967296 ^ k = P at *
  grind
theorem radd_fin (xs ys out : List Nat) (n m a b k cy : Nat) (hx : xs.length = n) (hy : ys.length = m) (ha : a < 4294967296 ^ n) (hb : b < 4294967296 ^ m) (hxa : dval xs = a) (hyb : dval ys = b) (hk : k = max n m + 1)
    (h : dval out + 4294967296 ^ k * cy = dval (xs.take k) + dval (ys.take k)) : dval out = a + b := by
  rw [List.take_of_length_le (by omega), List.take_of_length_le (by omega), hxa, hyb] at h
  rw [hk, Nat.pow_succ] at h
  exact carry_none (4294967296 ^ max n m) a b cy _ (Nat.lt_of_lt_of_le ha (Nat.pow_le_pow_right (by decide) (by omega))) (Nat.lt_of_lt_of_le hb (Nat.pow_le_pow_right (by decide) (by omega))) h
set_option maxRecDepth 100000 in
set_option maxHeartbeats 2000000 in
theorem radd_any (A B : Option Addr) (n c m d a b : Nat) (xs ys : List Nat) (w : World) (hx : Num w A n c xs a) (hy : Num w B m d ys b) (hn : n ≤ 1000000) (hm : m ≤ 1000000) :
    Calls Tryz.prog 60 #[.slice A n c, .slice B m d] w (GivesNum (a + b) w) := by
  obtain ⟨i0, hi0, hz0, hz1, hz2⟩ := info_parts infoU32
  have HX := Lib.hid hx
  have HY := Lib.hid hy
  have I0 : Hid (RAddInv xs ys w 0 0 (.slice none 0 0) w) := Lib.hid ⟨[], Own.nil _ _, rfl, by simp [dval], Below.refl _ _⟩
  clear hx hy
  rcases Nat.lt_or_ge n m with hnm | hnm
  all_goals
    go_enter Tryz.func60, Tryz.ntmps60
    go_wp2
    go_loopw [5, 6, 7] (fun v cv i wr => ∃ k cy : Nat, k ≤ max n m + 1 ∧ cy ≤ 1 ∧ i = .int .i64 k ∧ cv = .int .u64 cy ∧ Hid (RAddInv xs ys w k cy v wr)) (fun _ _ i _ => max n m + 1 - (intOf i).toNat)
    case atStart => exact ⟨0, 0, by omega, by omega, rfl, rfl, I0⟩
    case round =>
      obtain ⟨k, cy, hk, hcy, rfl, rfl, hi⟩ := hrel
      obtain ⟨out, hO, hl, hv, hb⟩ := hi.out
      have HO := Lib.hid hO
      have HL := Lib.hid hl
      have HV := Lib.hid hv
      have HB := Lib.hid hb
      have KX := Lib.hid (HX.out.keep hb)
      have KY := Lib.hid (HY.out.keep hb)
      have hs := hb.size
      clear hO hl hv hb hi I0
      by_cases hlt : k ≤ max n m
      · have hxl := KX.out.toLst.getD_lt k
        have hyl := KY.out.toLst.getD_lt k
        obtain ⟨x, hxe⟩ : ∃ x, xs.getD k 0 = x := ⟨_, rfl⟩
        obtain ⟨y, hye⟩ : ∃ y, ys.getD k 0 = y := ⟨_, rfl⟩
        have D1 := digit_any A n c k xs _ KX.out.toLst (by omega)
        have D2 := digit_any B m d k ys _ KY.out.toLst (by omega)
        rw [hxe] at D1 hxl
        rw [hye] at D2 hyl
        have C1 := Lib.hid D1
        have C2 := Lib.hid D2
        have M := Lib.hid (radd_math xs ys out k cy x y ((x + y + cy) % 4294967296) ((x + y + cy) / 4294967296) hxe hye HL.out HV.out (Nat.div_add_mod _ _))
        clear D1 D2 hxe hye
        go_wp2_with fail
        refine C1.out.mono ?_
        rintro e w' ⟨rfl, rfl⟩
        go_wp2_with fail
        refine C2.out.mono ?_
        rintro e w' ⟨rfl, rfl⟩
        go_wp2_with (at_builtin; refine wpList_append_own _ rfl _ _ 23 rfl w.heap.size 52 i0 (.int .u32 0) 1 4 Tryz.underlying23 hi0 hz0 hz1 hz2 rfl (by decide) _ _ _ rfl (HO.out.own.alloc _) ⟨wr.heap.size, 0, none⟩ 1 1 [.int .u32 (((x : Int) + (y : Int) + (cy : Int)) % 4294967296)] rfl rfl ?c1 ?c2 ?c3 ?c4 ?c5 ?_)
        case c1 =>
          intro j u hj
          match j, hj with
          | 0, hj => simp at hj; subst hj; simp [Addr.add]
        case c2 => intro u hu; simp at hu; subst hu; rfl
        case c3 => have := HL.out; unfold maxLen; omega
        case c4 => have := HL.out; omega
        case c5 => simp; omega
        intro v' w1 hown' hgrow _
        have R := HO.out.app HB.out hs hown' (d := (x + y + cy) % 4294967296) (by omega) (Nat.mod_lt _ (by decide)) hgrow
        have RR : Hid (RAddInv xs ys w (k + 1) ((x + y + cy) / 4294967296) v' w1) := Lib.hid ⟨_, R.1, by simp [HL.out], M.out, R.2⟩
        clear hown' hgrow R
        go_wp2
        go_roundw
        case rel => exact ⟨k + 1, (x + y + cy) / 4294967296, by omega, by omega, by go_num, by go_num, RR⟩
        case measure => simp [intOf]; omega
      · have hkk : k = max n m + 1 := by omega
        have F := Lib.hid (radd_fin xs ys out n m a b k cy HX.out.len HY.out.len HX.out.lt_pow HY.out.lt_pow HX.out.val HY.out.val hkk HV.out)
        obtain ⟨A', c', rfl, L⟩ := HO.out.lst (by have := HL.out; omega)
        have LL := Lib.hid L
        clear L hkk
        go_wp2_with fail
        refine (rtrim_any _ _ _ _ _ LL.out).mono ?_
        rintro e w' hg
        have G := Lib.hid ((hg.from_ HB.out rfl).eq F.out)
        obtain ⟨A1, n1, c1, xs1, rfl, _, _⟩ := hg
        go_wp2
        go_ret
        exact G.out
end Go.Proofs.YtbllnkhbahenkaaGreatDoor
namespace Go.Proofs.YtbllnkhbahenkaaGreatDoor
open Go.RowKit
def ScaleInv (xs : List Nat) (f : Nat) (w : World) (k cy : Nat) (v : Value) (wr : World) : Prop :=
  ∃ out, Own wr w.heap.size v out ∧ out.length = k ∧ dval out + 4294967296 ^ k * cy = f * dval (xs.take k) ∧ Below w.heap.size w wr
theorem scale_math (xs out : List Nat) (f k cy x r q : Nat) (hx : xs.getD k 0 = x) (hl : out.length = k) (h : dval out + 4294967296 ^ k * cy = f * dval (xs.take k)) (hq : 4294967296 * q + r = x * f + cy) :
    dval (out ++ [r]) + 4294967296 ^ (k + 1) * q = f * dval (xs.take (k + 1)) := by
  rw [dval_append, dval_take_succ', hx, hl, Nat.pow_succ]
  simp only [dval]
  generalize 4294967296 ^ k = P at *
  grind
theorem scale_fin (xs out : List Nat) (f n a k cy : Nat) (hx : xs.length = n) (ha : a < 4294967296 ^ n) (hf : f < 4294967296) (hxa : dval xs = a) (hk : k = n + 1)
    (h : dval out + 4294967296 ^ k * cy = f * dval (xs.take k)) : dval out = f * a := by
  rw [List.take_of_length_le (by omega), hxa] at h
  refine no_carry _ _ cy _ ?_ h
  rw [hk, Nat.pow_succ, Nat.mul_comm f a]
  exact Nat.mul_lt_mul'' ha hf
set_option maxRecDepth 100000 in
set_option maxHeartbeats 2000000 in
theorem rscale_any (A : Option Addr) (n c a f : Nat) (xs : List Nat) (w : World) (hx : Num w A n c xs a) (hn : n ≤ 1000000) (hf : f < 4294967296) :
    Calls Tryz.prog 61 #[.slice A n c, .int .u64 f] w (GivesNum (f * a) w) := by
  obtain ⟨i0, hi0, hz0, hz1, hz2⟩ := info_parts infoU32
  have HX := Lib.hid hx
  have I0 : Hid (ScaleInv xs f w 0 0 (.slice none 0 0) w) := Lib.hid ⟨[], Own.nil _ _, rfl, by simp [dval], Below.refl _ _⟩
  clear hx
  go_enter Tryz.func61, Tryz.ntmps61
  go_wp2
  go_loopw [5, 6, 7] (fun v cv i wr => ∃ k cy : Nat, k ≤ n + 1 ∧ cy < 4294967296 ∧ i = .int .i64 k ∧ cv = .int .u64 cy ∧ Hid (ScaleInv xs f w k cy v wr)) (fun _ _ i _ => n + 1 - (intOf i).toNat)
  case atStart => exact ⟨0, 0, by omega, by omega, rfl, rfl, I0⟩
  case round =>
      obtain ⟨k, cy, hk, hcy, rfl, rfl, hi⟩ := hrel
      obtain ⟨out, hO, hl, hv, hb⟩ := hi.out
      have HO := Lib.hid hO
      have HL := Lib.hid hl
      have HV := Lib.hid hv
      have HB := Lib.hid hb
      have KX := Lib.hid (HX.out.keep hb)
      have hs := hb.size
      clear hO hl hv hb hi I0
      by_cases hlt : k ≤ n
      · have hxl := KX.out.toLst.getD_lt k
        obtain ⟨x, hxe⟩ : ∃ x, xs.getD k 0 = x := ⟨_, rfl⟩
        have D1 := digit_any A n c k xs _ KX.out.toLst (by omega)
        rw [hxe] at D1 hxl
        have C1 := Lib.hid D1
        have M := Lib.hid (scale_math xs out f k cy x ((x * f + cy) % 4294967296) ((x * f + cy) / 4294967296) hxe HL.out HV.out (Nat.div_add_mod _ _))
        have hp : (x : Int) * (f : Int) ≤ 18446744065119617025 := by
          have := Nat.mul_le_mul (show x ≤ 4294967295 by omega) (show f ≤ 4294967295 by omega)
          have e : ((x * f : Nat) : Int) = (x : Int) * (f : Int) := Int.natCast_mul _ _
          omega
        have hp0 : 0 ≤ (x : Int) * (f : Int) := Int.mul_nonneg (by omega) (by omega)
        have hd : (x * f + cy) / 4294967296 < 4294967296 := by
          have e : ((x * f : Nat) : Int) = (x : Int) * (f : Int) := Int.natCast_mul _ _
          omega
        clear D1 hxe
        go_wp2_with fail
        refine C1.out.mono ?_
        rintro e w' ⟨rfl, rfl⟩
        go_wp2_with (at_builtin; refine wpList_append_own _ rfl _ _ 23 rfl w.heap.size 52 i0 (.int .u32 0) 1 4 Tryz.underlying23 hi0 hz0 hz1 hz2 rfl (by decide) _ _ _ rfl (HO.out.own.alloc _) ⟨wr.heap.size, 0, none⟩ 1 1 [.int .u32 (((x : Int) * (f : Int) + (cy : Int)) % 4294967296)] rfl rfl ?c1 ?c2 ?c3 ?c4 ?c5 ?_)
        case c1 =>
          intro j u hj
          match j, hj with
          | 0, hj => simp at hj; subst hj; simp [Addr.add]
        case c2 => intro u hu; simp at hu; subst hu; rfl
        case c3 => have := HL.out; unfold maxLen; omega
        case c4 => have := HL.out; omega
        case c5 => simp; omega
        intro v' w1 hown' hgrow _
        have R := HO.out.app HB.out hs hown' (d := (x * f + cy) % 4294967296) (by omega) (Nat.mod_lt _ (by decide)) hgrow
        have RR : Hid (ScaleInv xs f w (k + 1) ((x * f + cy) / 4294967296) v' w1) := Lib.hid ⟨_, R.1, by simp [HL.out], M.out, R.2⟩
        clear hown' hgrow R
        go_wp2
        go_roundw
        case rel => exact ⟨k + 1, (x * f + cy) / 4294967296, by omega, hd, by go_num, by go_num, RR⟩
        case measure => simp [intOf]; omega
      · have hkk : k = n + 1 := by omega
        have F := Lib.hid (scale_fin xs out f n a k cy HX.out.len HX.out.lt_pow hf HX.out.val hkk HV.out)
        clear hkk
        obtain ⟨A', c', rfl, L⟩ := HO.out.lst (by have := HL.out; omega)
        have LL := Lib.hid L
        clear L
        go_wp2_with fail
        refine (rtrim_any _ _ _ _ _ LL.out).mono ?_
        rintro e w' hg
        have G := Lib.hid ((hg.from_ HB.out rfl).eq F.out)
        obtain ⟨A1, n1, c1, xs1, rfl, _, _⟩ := hg
        go_wp2
        go_ret
        exact G.out
end Go.Proofs.YtbllnkhbahenkaaGreatDoor
namespace Go.Proofs.YtbllnkhbahenkaaGreatDoor
open Go.RowKit
def ShiftInv (w : World) (k : Nat) (v : Value) (wr : World) : Prop := ∃ out, Own wr w.heap.size v out ∧ out.length = k ∧ dval out = 0 ∧ Below w.heap.size w wr
theorem dval_zero_snoc (out : List Nat) (h : dval out = 0) : dval (out ++ [0]) = 0 := by rw [dval_append, h]; simp [dval]
set_option maxRecDepth 100000 in
set_option maxHeartbeats 2000000 in
theorem rshift_any (A : Option Addr) (n c a s : Nat) (xs : List Nat) (w : World) (hx : Num w A n c xs a) (hn : n ≤ 1000000) (hsl : s ≤ 1000000) :
    Calls Tryz.prog 129 #[.slice A n c, .int .i64 s] w (GivesNum (4294967296 ^ s * a) w) := by
  obtain ⟨i0, hi0, hz0, hz1, hz2⟩ := info_parts infoU32
  have HX := Lib.hid hx
  have I0 : Hid (ShiftInv w 0 (.slice none 0 0) w) := Lib.hid ⟨[], Own.nil _ _, rfl, rfl, Below.refl _ _⟩
  clear hx
  go_enter Tryz.func129, Tryz.ntmps129
  go_wp2
  go_loopw [5, 6] (fun v i wr => ∃ k : Nat, k ≤ s ∧ i = .int .i64 k ∧ Hid (ShiftInv w k v wr)) (fun _ i _ => s - (intOf i).toNat)
  case atStart => exact ⟨0, by omega, rfl, I0⟩
  case round =>
      obtain ⟨k, hk, rfl, hi⟩ := hrel
      obtain ⟨out, hO, hl, hv, hb⟩ := hi.out
      have HO := Lib.hid hO
      have HB := Lib.hid hb
      have HL := Lib.hid hl
      have HV := Lib.hid hv
      have hs := hb.size
      have KX := Lib.hid (HX.out.keep hb)
      clear hO hl hv hb hi I0
      by_cases hlt : k < s
      · go_wp2_with (at_builtin; refine wpList_append_own _ rfl _ _ 23 rfl w.heap.size 52 i0 (.int .u32 0) 1 4 Tryz.underlying23 hi0 hz0 hz1 hz2 rfl (by decide) _ _ _ rfl (HO.out.own.alloc _) ⟨wr.heap.size, 0, none⟩ 1 1 [.int .u32 0] rfl rfl ?c1 ?c2 ?c3 ?c4 ?c5 ?_)
        case c1 =>
          intro j u hj
          match j, hj with
          | 0, hj => simp at hj; subst hj; simp [Addr.add]
        case c2 => intro u hu; simp at hu; subst hu; rfl
        case c3 => have := HL.out; unfold maxLen; omega
        case c4 => have := HL.out; omega
        case c5 => simp; omega
        intro v' w1 hown' hgrow _
        have R := HO.out.app HB.out hs hown' (d := 0) rfl (by decide) hgrow
        have RR : Hid (ShiftInv w (k + 1) v' w1) := Lib.hid ⟨_, R.1, by simp [HL.out], dval_zero_snoc _ HV.out, R.2⟩
        clear hown' hgrow R
        go_wp2
        go_roundw
        case rel => exact ⟨k + 1, by omega, by go_num, RR⟩
        case measure => simp [intOf]; omega
      · obtain rfl : k = s := by omega
        go_wp2_with (at_builtin; refine wpList_append_any _ rfl _ _ _ rfl w.heap.size 52 i0 _ 1 4 Tryz.underlying23 hi0 hz0 hz1 hz2 rfl (by omega) _ _ _ rfl HO.out.own wr.heap.size A n c (Dg xs) rfl KX.out.reads (dg_oneCell _) ?d1 ?d2 ?d3 ?_)
        case d1 => have := HL.out; simp only [maxLen]; omega
        case d2 => have := HL.out; omega
        case d3 => omega
        intro v1 w1 hown hg hat
        have hcat : Own w1 w.heap.size v1 (out ++ xs) := Own.cat HO.out.lt KX.out.lt (by have := hown; rwa [HX.out.len])
        have hb1 : Below w.heap.size w w1 := HB.out.grown hg hs (fun g hg' => (HO.out.own.lt g hg').1)
        have F : Hid (dval (out ++ xs) = 4294967296 ^ k * a) := Lib.hid (by rw [dval_append, HV.out, HX.out.val, HL.out, Nat.zero_add])
        clear hown hg hat
        obtain ⟨A', c', rfl, L⟩ := hcat.lst' (n := k + n) (by have := HX.out.len; have := HL.out; simp; omega) (by omega)
        have LL := Lib.hid L
        have HB1 := Lib.hid hb1
        clear L hcat hb1
        go_wp2_with fail
        refine (rtrim_any _ _ _ _ _ LL.out).mono ?_
        rintro e w' hg
        have G := Lib.hid ((hg.from_ HB1.out rfl).eq F.out)
        obtain ⟨A1, n1, c1, xs1, rfl, _, _⟩ := hg
        go_wp2
        go_ret
        exact G.out
end Go.Proofs.YtbllnkhbahenkaaGreatDoor
namespace Go.Proofs.YtbllnkhbahenkaaGreatDoor
open Go.RowKit
theorem pow_le_add (n m : Nat) : (4294967296 : Nat) ^ n ≤ 4294967296 ^ (n + m) := Nat.pow_le_pow_right (by decide) (by omega)
set_option maxRecDepth 100000 in
set_option maxHeartbeats 2000000 in
theorem rmul_any (A B : Option Addr) (n c m d a b : Nat) (xs ys : List Nat) (w : World) (hx : Num w A n c xs a) (hy : Num w B m d ys b) (hn : n ≤ 100000) (hm : m ≤ 100000) :
    Calls Tryz.prog 109 #[.slice A n c, .slice B m d] w (GivesNum (a * b) w) := by
  have HX := Lib.hid hx
  have HY := Lib.hid hy
  have I0 : Hid (∃ zs, Num w none 0 0 zs (a * dval (ys.take 0))) := Lib.hid ⟨[], by simpa [dval] using Num.zero w⟩
  clear hx hy
  go_enter Tryz.func109, Tryz.ntmps109
  go_wp2
  go_loopw [5, 6] (fun v i wr => ∃ (k : Nat) (D : Option Addr) (l e : Nat), k ≤ m ∧ l ≤ n + k ∧ i = .int .i64 k ∧ v = .slice D l e ∧ Hid (∃ zs, Num wr D l e zs (a * dval (ys.take k))) ∧ Hid (Below w.heap.size w wr)) (fun _ i _ => m - (intOf i).toNat)
  case atStart => exact ⟨0, none, 0, 0, by omega, by omega, rfl, rfl, I0, Lib.hid (Below.refl _ _)⟩
  case round =>
      obtain ⟨k, D, l, e, hk, hl, rfl, rfl, hi, hb⟩ := hrel
      obtain ⟨zs, hz⟩ := hi.out
      have HZ := Lib.hid hz
      clear hz hi I0
      have KX := Lib.hid (HX.out.keep hb.out)
      have KY := Lib.hid (HY.out.keep hb.out)
      by_cases hlt : k < m
      · obtain ⟨ad, hB, hb1, hcell⟩ := KY.out.toLst.at_ hlt
        have hyl := KY.out.toLst.getD_lt k
        obtain ⟨y, hye⟩ : ∃ y, ys.getD k 0 = y := ⟨_, rfl⟩
        have hT : Hid (a * dval (ys.take k) + 4294967296 ^ k * (y * a) = a * dval (ys.take (k + 1))) := Lib.hid (by rw [dval_take_succ', hye, Nat.mul_add]; grind)
        rw [hye] at hcell hyl
        have hyk : Hid (dval (ys.take (k + 1)) < 4294967296 ^ (k + 1)) := Lib.hid (Nat.lt_of_lt_of_le (dval_lt _ fun d hd => HY.out.lt d (List.mem_of_mem_take hd)) (Nat.pow_le_pow_right (by decide) (by simp; omega)))
        clear hb1 hye
        subst hB
        go_wp2_with fail
        refine (rscale_any A n c a y xs _ KX.out (by omega) hyl).mono ?_
        rintro e1 w1 ⟨A1, n1, c1, xs1, rfl, hN1, hb1⟩
        have h1 : n1 ≤ n + 1 := hN1.len_le (by
          rw [Nat.pow_succ, Nat.mul_comm y a]; exact Nat.mul_lt_mul'' HX.out.lt_pow hyl)
        have H1 := Lib.hid hN1
        have HZ1 := Lib.hid (HZ.out.keep hb1)
        have HB1 := Lib.hid (hb.out.trans (hb1.mono hb.out.size))
        clear hN1 hb1 HZ
        go_wp2_with fail
        refine (rshift_any A1 n1 c1 (y * a) k xs1 _ H1.out (by omega) (by omega)).mono ?_
        rintro e2 w2 ⟨A2, n2, c2, xs2, rfl, hN2, hb2⟩
        have h2 : n2 ≤ n + 1 + k := hN2.len_le (by
          rw [Nat.add_comm (n + 1) k, Nat.pow_add, Nat.pow_succ, Nat.mul_comm y a]
          exact Nat.mul_lt_mul_of_pos_left (Nat.mul_lt_mul'' HX.out.lt_pow hyl) (Nat.pow_pos (by decide)))
        have H2 := Lib.hid hN2
        have HZ2 := Lib.hid (HZ1.out.keep hb2)
        have HB2 := Lib.hid (HB1.out.trans (hb2.mono HB1.out.size))
        clear hN2 hb2 HZ1 HB1
        go_wp2_with fail
        refine (radd_any D A2 l e n2 c2 _ _ zs xs2 _ HZ2.out H2.out (by omega) (by omega)).mono ?_
        rintro e3 w3 ⟨A3, n3, c3, xs3, rfl, hN3, hb3⟩
        rw [hT.out] at hN3
        have h3 : n3 ≤ n + (k + 1) := hN3.len_le (by
          rw [Nat.pow_add]
          exact Nat.mul_lt_mul'' HX.out.lt_pow hyk.out)
        have H3 : Hid (∃ zs, Num w3 A3 n3 c3 zs (a * dval (ys.take (k + 1)))) := Lib.hid ⟨_, hN3⟩
        have HB3 := Lib.hid (HB2.out.trans (hb3.mono HB2.out.size))
        clear hN3 hb3 HZ2 HB2
        go_wp2
        go_roundw
        case rel => exact ⟨k + 1, A3, n3, c3, by omega, h3, by go_num, rfl, H3, HB3⟩
        case measure => simp [intOf]; omega
      · obtain rfl : k = m := by omega
        have hT : dval (ys.take k) = b := by rw [List.take_of_length_le (by have := HY.out.len; omega), HY.out.val]
        have G : Hid (GivesNum (a * b) w (.returned (.slice D l e)) wr) := Lib.hid ⟨D, l, e, zs, rfl, by have := HZ.out; rwa [hT] at this, hb.out⟩
        clear hT
        go_wp2
        go_ret
        exact G.out
end Go.Proofs.YtbllnkhbahenkaaGreatDoor
