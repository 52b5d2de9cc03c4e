/- Sub, RSub, joined: no claim of its own. -/
import Derived.Test.YtbllnkhbahenkaaGreatDoorOwns
import Derived.Test.YtbllnkhbahenkaaGreatDoorMaths
import Derived.Test.YtbllnkhbahenkaaGreatDoorDivS
import Derived.Test.YtbllnkhbahenkaaGreatDoorCmp
import Derived.Test.YtbllnkhbahenkaaGreatDoorRMul
namespace Go.Proofs.YtbllnkhbahenkaaGreatDoor
open Go.RowKit
theorem wrap_u32 (n : Nat) (h : n < 4294967296) : IntKind.u32.wrap (n : Int) = (n : Int) := by
  have : IntKind.u32.wrap (n : Int) = (n : Int) % 4294967296 := rfl
  rw [this]
  omega
theorem bits_or_u32 (x y : Nat) (hx : x < 4294967296) (hy : y < 4294967296) : bits BinOp.or IntKind.u32 (x : Int) (y : Int) = ((x ||| y : Nat) : Int) := by
  have h : x ||| y < 2 ^ 32 := Nat.or_lt_two_pow hx hy
  have e : bits BinOp.or IntKind.u32 (x : Int) (y : Int) = IntKind.u32.wrap (((BitVec.ofInt 32 (x : Int)) ||| (BitVec.ofInt 32 (y : Int))).toNat : Int) := rfl
  rw [e, BitVec.toNat_or, BitVec.ofInt_natCast, BitVec.ofInt_natCast, BitVec.toNat_ofNat, BitVec.toNat_ofNat, Nat.mod_eq_of_lt hx, Nat.mod_eq_of_lt hy]
  exact wrap_u32 _ h
theorem bits_and_u32 (x y : Nat) (hx : x < 4294967296) (hy : y < 4294967296) : bits BinOp.and IntKind.u32 (x : Int) (y : Int) = ((x &&& y : Nat) : Int) := by
  have h : x &&& y < 4294967296 := Nat.lt_of_le_of_lt Nat.and_le_left hx
  have e : bits BinOp.and IntKind.u32 (x : Int) (y : Int) = IntKind.u32.wrap (((BitVec.ofInt 32 (x : Int)) &&& (BitVec.ofInt 32 (y : Int))).toNat : Int) := rfl
  rw [e, BitVec.toNat_and, BitVec.ofInt_natCast, BitVec.ofInt_natCast, BitVec.toNat_ofNat, BitVec.toNat_ofNat, Nat.mod_eq_of_lt hx, Nat.mod_eq_of_lt hy]
  exact wrap_u32 _ h
theorem bits_xor_u32 (x y : Nat) (hx : x < 4294967296) (hy : y < 4294967296) : bits BinOp.xor IntKind.u32 (x : Int) (y : Int) = ((x ^^^ y : Nat) : Int) := by
  have h : x ^^^ y < 2 ^ 32 := Nat.xor_lt_two_pow hx hy
  have e : bits BinOp.xor IntKind.u32 (x : Int) (y : Int) = IntKind.u32.wrap (((BitVec.ofInt 32 (x : Int)) ^^^ (BitVec.ofInt 32 (y : Int))).toNat : Int) := rfl
  rw [e, BitVec.toNat_xor, BitVec.ofInt_natCast, BitVec.ofInt_natCast, BitVec.toNat_ofNat, BitVec.toNat_ofNat, Nat.mod_eq_of_lt hx, Nat.mod_eq_of_lt hy]
  exact wrap_u32 _ h
theorem tb_le (z : Nat) (h : z < 4294967296) : z.testBit 31 = decide (2147483648 ≤ z) := by
  rw [Nat.testBit_eq_decide_div_mod_eq]
  exact decide_eq_decide.2 (by omega)
theorem top_div (z : Nat) (h : z < 4294967296) : z / 2147483648 = if z.testBit 31 then 1 else 0 := by
  rw [tb_le z h]
  by_cases h1 : 2147483648 ≤ z
  · rw [decide_eq_true h1, if_pos rfl]; omega
  · rw [decide_eq_false h1]; simp; omega
theorem borrow_math (x y b d : Nat) (h1 : x < 4294967296) (h2 : y < 4294967296) (h3 : b ≤ 1) (hd : d = (x + 4294967296 - y - b) % 4294967296) :
    (((4294967295 ^^^ x) &&& y) ||| ((4294967295 ^^^ (x ^^^ y)) &&& d)) / 2147483648 = if x < y + b then 1 else 0 := by
  have hdl : d < 4294967296 := by omega
  have l1 : (4294967295 ^^^ x) &&& y < 2 ^ 32 := Nat.lt_of_le_of_lt Nat.and_le_right h2
  have l2 : (4294967295 ^^^ (x ^^^ y)) &&& d < 2 ^ 32 := Nat.lt_of_le_of_lt Nat.and_le_right hdl
  rw [top_div _ (Nat.or_lt_two_pow l1 l2), Nat.testBit_or, Nat.testBit_and, Nat.testBit_and, Nat.testBit_xor, Nat.testBit_xor, Nat.testBit_xor, tb_le x h1, tb_le y h2, tb_le d hdl, tb_le 4294967295 (by decide)]
  by_cases a1 : 2147483648 ≤ x <;> by_cases a2 : 2147483648 ≤ y <;> by_cases a3 : 2147483648 ≤ d <;> by_cases a4 : x < y + b <;> simp [a1, a2, a3, a4] <;> omega
theorem borrow_int (x y b : Nat) (h1 : x < 4294967296) (h2 : y < 4294967296) (h3 : b ≤ 1) :
    bits BinOp.or IntKind.u32 (bits BinOp.and IntKind.u32 (bits BinOp.xor IntKind.u32 IntKind.u32.max (x : Int)) (y : Int)) (bits BinOp.and IntKind.u32 (bits BinOp.xor IntKind.u32 IntKind.u32.max (bits BinOp.xor IntKind.u32 (x : Int) (y : Int))) (((x : Int) - (y : Int) - (b : Int)) % 4294967296)) / 2147483648 = ((if x < y + b then 1 else 0 : Nat) : Int) := by
  have hd : ((x : Int) - (y : Int) - (b : Int)) % 4294967296 = (((x + 4294967296 - y - b) % 4294967296 : Nat) : Int) := by omega
  have hm : IntKind.u32.max = ((4294967295 : Nat) : Int) := rfl
  have hdl : (x + 4294967296 - y - b) % 4294967296 < 4294967296 := Nat.mod_lt _ (by decide)
  have x1 : 4294967295 ^^^ x < 2 ^ 32 := Nat.xor_lt_two_pow (by decide) h1
  have x2 : x ^^^ y < 2 ^ 32 := Nat.xor_lt_two_pow h1 h2
  have x3 : 4294967295 ^^^ (x ^^^ y) < 2 ^ 32 := Nat.xor_lt_two_pow (by decide) x2
  rw [hd, hm, bits_xor_u32 x y h1 h2, bits_xor_u32 _ x (by decide) h1, bits_xor_u32 _ _ (by decide) x2, bits_and_u32 _ _ x1 h2, bits_and_u32 _ _ x3 hdl, bits_or_u32 _ _ (Nat.lt_of_le_of_lt Nat.and_le_right h2) (Nat.lt_of_le_of_lt Nat.and_le_right hdl)]
  rw [← borrow_math x y b _ h1 h2 h3 rfl]
  rw [Int.natCast_ediv]
  rfl
set_option maxRecDepth 100000 in
set_option maxHeartbeats 400000 in
theorem sub32_any (x y b : Nat) (w : World) (h1 : x < 4294967296) (h2 : y < 4294967296) (h3 : b ≤ 1) :
    Calls Tryz.prog 113 #[.int .u32 x, .int .u32 y, .int .u32 b] w fun e w' => e = .returned (.tuple #[.int .u32 (((x + 4294967296 - y - b) % 4294967296 : Nat) : Int), .int .u32 ((if x < y + b then 1 else 0 : Nat) : Int)]) ∧ w = w' := by
  have E := Lib.hid (borrow_int x y b h1 h2 h3)
  have D : Hid ((((x : Int) - (y : Int)) % 4294967296 - (b : Int)) % 4294967296 = (((x + 4294967296 - y - b) % 4294967296 : Nat) : Int)) := Lib.hid (by omega)
  generalize ((if x < y + b then 1 else 0 : Nat) : Int) = q at *
  generalize (((x + 4294967296 - y - b) % 4294967296 : Nat) : Int) = d at *
  have hs : IntKind.u32.signed = false := rfl
  clear h1 h2 h3
  go_enter Tryz.func113, Tryz.ntmps113
  go_wp2
  go_ret2
  refine ⟨?_, rfl⟩
  show Ending.returned (Value.tuple #[Value.int .u32 _, Value.int .u32 _]) = _
  rw [← E.out, ← D.out]
end Go.Proofs.YtbllnkhbahenkaaGreatDoor
/- The contract of natural.Sub: no claim of its own. -/
namespace Go.Proofs.YtbllnkhbahenkaaGreatDoor
open Go.RowKit
def GivesSub (a b : Nat) (w : World) (e : Ending) (w' : World) : Prop :=
  ∃ A n c xs, e = .returned (.tuple #[.slice A n c, .bool (decide (b ≤ a))]) ∧ Num w' A n c xs (a - b) ∧ Below w.heap.size w w'
theorem sub_close {a b : Nat} {w w' : World} {A : Option Addr} {n c : Nat} (g : GivesNum (a - b) w (.returned (.slice A n c)) w') (h : b ≤ a) : GivesSub a b w (.returned (.tuple #[.slice A n c, .bool true])) w' := by
  obtain ⟨A', n', c', xs, e, hN, hb⟩ := g
  injection e with e
  injection e with e1 e2 e3
  subst e1 e2 e3
  exact ⟨_, _, _, xs, by rw [decide_eq_true h], hN, hb⟩
def SubInv (B n : Nat) (A : Option Addr) (xs ys : List Nat) (w : World) (k bw : Nat) (wr : World) : Prop :=
  ∃ cur, Mine wr B A n cur ∧ Below B w wr ∧ (∀ j, k ≤ j → cur.getD j 0 = xs.getD j 0) ∧ dval cur + dval (ys.take k) = dval xs + 4294967296 ^ k * bw
theorem sub_digit (x y bw : Nat) (h1 : x < 4294967296) (h2 : y < 4294967296) (h3 : bw ≤ 1) : (x + 4294967296 - y - bw) % 4294967296 + y + bw = x + 4294967296 * (if x < y + bw then 1 else 0) := by
  by_cases h : x < y + bw
  · rw [if_pos h]; omega
  · rw [if_neg h]; omega
theorem sub_math (P C T X bw x y r q S : Nat) (h1 : C + T = X + P * bw) (h2 : S + P * x = C + P * r) (h3 : r + y + bw = x + 4294967296 * q) : S + (T + P * y) = X + P * 4294967296 * q := by
  have e := congrArg (P * ·) h3
  simp only [Nat.mul_add] at e
  have e2 : P * (4294967296 * q) = P * 4294967296 * q := by rw [Nat.mul_assoc]
  rw [e2] at e
  omega
theorem SubInv.step {B n g : Nat} {xs ys : List Nat} {w wr : World} {k bw x y : Nat} (h : SubInv B n (some ⟨g, 0, none⟩) xs ys w k bw wr) (hg : B ≤ g) (hk : k < n) (hn : xs.length = n) (hx : xs.getD k 0 = x) (hy : ys.getD k 0 = y) (hyl : y < 4294967296) (hb : bw ≤ 1) :
    SubInv B n (some ⟨g, 0, none⟩) xs ys w (k + 1) (if x < y + bw then 1 else 0) (wr.setCell ⟨g, k, none⟩ (.int .u32 (((x + 4294967296 - y - bw) % 4294967296 : Nat) : Int))) := by
  obtain ⟨cur, hm, hbl, he, hv⟩ := h
  have hl := hm.len
  have hxl : x < 4294967296 := by rw [← hx, ← he k (Nat.le_refl _)]; exact getD_lt_of hm.lt k
  refine ⟨cur.set k ((x + 4294967296 - y - bw) % 4294967296), hm.set hk _ (Nat.mod_lt _ (by decide)), hbl.setCell hg _, fun j hj => ?_, ?_⟩
  · rw [getD_set _ _ _ _ (by omega), if_neg (by omega)]; exact he j (by omega)
  · have h1 := dval_set cur k ((x + 4294967296 - y - bw) % 4294967296) (by omega)
    rw [he k (Nat.le_refl _), hx] at h1
    rw [dval_take_succ', hy, Nat.pow_succ]
    exact sub_math _ _ _ _ _ _ _ _ _ _ hv h1 (sub_digit x y bw hxl hyl hb)
/-- The end: all digits done, or no borrow is left. -/
theorem SubInv.fin {B n a b : Nat} {A : Option Addr} {xs ys : List Nat} {w wr : World} {k bw : Nat} (h : SubInv B n A xs ys w k bw wr) (hk : ys.length ≤ k) (hx : dval xs = a) (hy : dval ys = b) (hba : b ≤ a) (hh : k = n ∨ bw = 0) : ∃ cur, Mine wr B A n cur ∧ dval cur = a - b ∧ Below B w wr := by
  obtain ⟨cur, hm, hb, he, hv⟩ := h
  rw [List.take_of_length_le hk, hx, hy] at hv
  refine ⟨cur, hm, ?_, hb⟩
  rcases hh with rfl | rfl
  · have h1 := dval_lt cur hm.lt
    rw [hm.len] at h1
    rcases bw with _ | bw
    · omega
    · have h2 : 4294967296 ^ k * 1 ≤ 4294967296 ^ k * (bw + 1) := Nat.mul_le_mul_left _ (by omega)
      rw [Nat.mul_one] at h2
      generalize 4294967296 ^ k * (bw + 1) = X at *
      omega
  · rw [Nat.mul_zero] at hv; omega
theorem Num.len_mono {w w' : World} {A B : Option Addr} {n c m d a b : Nat} {xs ys : List Nat} (h : Num w A n c xs a) (k : Num w' B m d ys b) (hba : b ≤ a) : m ≤ n :=
  k.len_le (Nat.lt_of_le_of_lt hba h.lt_pow)
set_option maxRecDepth 100000 in
set_option maxHeartbeats 400000 in
theorem sub_less (A B : Option Addr) (n c m d a b : Nat) (xs ys : List Nat) (w : World) (hx : Num w A n c xs a) (hy : Num w B m d ys b) (hab : a < b) :
    Calls Tryz.prog 86 #[.slice A n c, .slice B m d] w (GivesSub a b w) := by
  have C := Lib.hid (cmp_any A B n n m m a b xs ys w hx.caps hy.caps)
  have E := Lib.hid (cmpI_lt hab)
  have D : Hid (decide (b ≤ a) = false ∧ a - b = 0) := Lib.hid ⟨decide_eq_false (by omega), by omega⟩
  have HX := Lib.hid hx
  have HY := Lib.hid hy
  clear hx hy hab
  go_enter Tryz.func86, Tryz.ntmps86
  go_wp2_with fail
  refine (trim_num _ _ _ _ _ _ HX.out).mono ?_
  rintro e w' ⟨rfl, rfl⟩
  go_wp2_with fail
  refine (trim_num _ _ _ _ _ _ HY.out).mono ?_
  rintro e w' ⟨rfl, rfl⟩
  go_wp2_with fail
  refine C.out.mono ?_
  rintro e w' ⟨rfl, hb⟩
  have BB := Lib.hid hb
  clear hb
  rw [E.out]
  go_wp2
  go_ret2
  exact ⟨none, 0, 0, [], by rw [D.out.1]; rfl, by rw [D.out.2]; exact Num.zero _, BB.out⟩
set_option maxRecDepth 100000 in
set_option maxHeartbeats 2000000 in
theorem sub_more (A B : Option Addr) (n c m d a b : Nat) (xs ys : List Nat) (w : World) (hx : Num w A n c xs a) (hy : Num w B m d ys b) (hab : b ≤ a) :
    Calls Tryz.prog 86 #[.slice A n c, .slice B m d] w (GivesSub a b w) := by
  have C := Lib.hid (cmp_any A B n n m m a b xs ys w hx.caps hy.caps)
  have hmn := hx.len_mono hy hab
  have hroom := hx.room
  have hba := Lib.hid hab
  have HX := Lib.hid hx
  have HY := Lib.hid hy
  obtain ⟨q, hq⟩ : ∃ q, cmpI a b = q := ⟨_, rfl⟩
  have hq0 : 0 ≤ q := by
    rw [← hq]
    unfold cmpI
    rw [if_neg (by omega)]
    split <;> decide
  rw [hq] at C
  clear hx hy hab hq
  go_enter Tryz.func86, Tryz.ntmps86
  go_wp2_with fail
  refine (trim_num _ _ _ _ _ _ HX.out).mono ?_
  rintro e w' ⟨rfl, rfl⟩
  go_wp2_with fail
  refine (trim_num _ _ _ _ _ _ HY.out).mono ?_
  rintro e w' ⟨rfl, rfl⟩
  go_wp2_with fail
  refine C.out.mono ?_
  rintro e w1 ⟨rfl, hb⟩
  have B1 := Lib.hid hb
  have X1 := Lib.hid (HX.out.caps.keep hb)
  clear hb
  go_wp2_with fail
  refine (clone_any _ _ _ _ _ X1.out.toLst).mono ?_
  rintro e w2 ⟨v, rfl, hO, hb⟩
  obtain ⟨A1, c1, rfl, hM, hnc⟩ := hO.mine
  rw [HX.out.len] at hM hnc
  rw [HX.out.len]
  have hb2 : Below w.heap.size w w2 := B1.out.trans (hb.mono B1.out.size)
  have hM' : Mine w2 w.heap.size A1 n xs := ⟨hM.len, hM.lt, fun h => by
    obtain ⟨g, cur, e, hg, r⟩ := hM.mem h
    exact ⟨g, cur, e, Nat.le_trans B1.out.size hg, r⟩⟩
  have I0 : Hid (SubInv w.heap.size n A1 xs ys w 0 0 w2) := Lib.hid ⟨xs, hM', hb2, fun _ _ => rfl, by simp [dval]⟩
  clear hO hM hb hb2 hM' X1 B1
  go_wp2
  go_loopw [7, 22] (fun bv i wr => ∃ k bw : Nat, k ≤ n ∧ bw ≤ 1 ∧ i = .int .i64 k ∧ bv = .int .u32 bw ∧ Hid (SubInv w.heap.size n A1 xs ys w k bw wr)) (fun _ i _ => n - (intOf i).toNat)
  case atStart => exact ⟨0, 0, by omega, by omega, rfl, rfl, I0⟩
  case round =>
    obtain ⟨k, bw, hk, hbw, rfl, rfl, hi⟩ := hrel
    by_cases hlt : k < n
    · by_cases hstop : m ≤ k ∧ bw = 0
      · obtain ⟨hmk, rfl⟩ := hstop
        obtain ⟨cur, hM, hv, hb⟩ := hi.out.fin (by rw [HY.out.len]; exact hmk) HX.out.val HY.out.val hba.out (.inr rfl)
        have L := Lib.hid (hM.lst (c := c1) hnc (by omega))
        have V := Lib.hid hv
        have BB := Lib.hid hb
        clear hM hv hb hi I0
        go_wp2_with fail
        refine (trim_any _ _ _ _ _ L.out).mono ?_
        rintro e w' ht
        have g := Lib.hid (ht.gives (W := w) L.out V.out BB.out)
        obtain ⟨k', hk', rfl, _, _, rfl⟩ := ht
        clear hk'
        go_wp2
        go_ret2
        exact sub_close g.out hba.out
      · obtain ⟨g, rfl, hg, hfz, hcell1⟩ : ∃ g, A1 = some ⟨g, 0, none⟩ ∧ w.heap.size ≤ g ∧ wr.frozen? ⟨g, k, none⟩ = false ∧ ∃ z, wr.cell? ⟨g, k, none⟩ = some z := by
          obtain ⟨cur, hm, _⟩ := hi.out
          obtain ⟨g, e, hg, hc, hf⟩ := hm.at_ hlt
          exact ⟨g, e, hg, hf, _, hc⟩
        obtain ⟨z, hz⟩ := hcell1
        have hbel : Below w.heap.size w wr := by obtain ⟨_, _, hb, _⟩ := hi.out; exact hb
        obtain ⟨ad, rfl, hb1, hxc⟩ := (HX.out.toLst.keep hbel).at_ hlt
        have hxl := HX.out.toLst.getD_lt k
        have hyl := HY.out.toLst.getD_lt k
        obtain ⟨x, hx⟩ : ∃ x, xs.getD k 0 = x := ⟨_, rfl⟩
        have KY := HY.out.toLst.keep hbel
        have S := Lib.hid (fun y hy hl => hi.out.step (y := y) hg hlt HX.out.len hx hy hl hbw)
        rw [hx] at hxc hxl
        have D := Lib.hid (fun w' y hy => sub32_any x y bw w' hxl hy hbw)
        by_cases hkm : k < m
        · obtain ⟨ad', rfl, hb2, hyc⟩ := KY.at_ hkm
          have SS := Lib.hid (S.out _ rfl hyl)
          have DD := Lib.hid (fun w' => D.out w' _ hyl)
          generalize ys.getD k 0 = y at *
          clear hb1 hb2 hbel KY hi I0 S D hx hstop
          go_wp2_with fail
          refine (DD.out _).mono ?_
          rintro e w' ⟨rfl, rfl⟩
          generalize (x + 4294967296 - y - bw) % 4294967296 = r at *
          obtain ⟨q', hq', hq1⟩ : ∃ q', (if x < y + bw then 1 else 0) = q' ∧ q' ≤ 1 := ⟨_, rfl, by split <;> omega⟩
          rw [hq'] at SS ⊢
          clear hq' DD
          go_wp2
          go_roundw
          case rel => exact ⟨k + 1, q', by omega, hq1, by go_num, rfl, SS⟩
          case measure => simp [intOf]; omega
        · obtain rfl : bw = 1 := by omega
          have hy0 : ys.getD k 0 = 0 := HY.out.toLst.out_ (by omega)
          have SS := Lib.hid (S.out 0 hy0 (by decide))
          have DD := Lib.hid (show ∀ w', Calls Tryz.prog 113 #[.int .u32 x, .int .u32 0, .int .u32 1] w' fun e w'' => e = .returned (.tuple #[.int .u32 (((x + 4294967296 - 0 - 1) % 4294967296 : Nat) : Int), .int .u32 ((if x < 0 + 1 then 1 else 0 : Nat) : Int)]) ∧ w' = w'' from fun w' => D.out w' 0 (by decide))
          clear hb1 hbel KY hi I0 S D hx hy0 hyl hstop
          go_wp2_with fail
          refine (DD.out _).mono ?_
          rintro e w' ⟨rfl, rfl⟩
          generalize (x + 4294967296 - 0 - 1) % 4294967296 = r at *
          obtain ⟨q', hq', hq1⟩ : ∃ q', (if x < 0 + 1 then 1 else 0) = q' ∧ q' ≤ 1 := ⟨_, rfl, by split <;> omega⟩
          rw [hq'] at SS ⊢
          clear hq' DD
          go_wp2
          go_roundw
          case rel => exact ⟨k + 1, q', by omega, hq1, by go_num, rfl, SS⟩
          case measure => simp [intOf]; omega
    · obtain rfl : k = n := by omega
      · skip
        obtain ⟨cur, hM, hv, hb⟩ := hi.out.fin (by rw [HY.out.len]; exact hmn) HX.out.val HY.out.val hba.out (.inl rfl)
        have L := Lib.hid (hM.lst (c := c1) hnc (by omega))
        have V := Lib.hid hv
        have BB := Lib.hid hb
        clear hM hv hb hi I0
        go_wp2_with fail
        refine (trim_any _ _ _ _ _ L.out).mono ?_
        rintro e w' ht
        have g := Lib.hid (ht.gives (W := w) L.out V.out BB.out)
        obtain ⟨k', hk', rfl, _, _, rfl⟩ := ht
        clear hk'
        go_wp2
        go_ret2
        exact sub_close g.out hba.out
theorem sub_any (A B : Option Addr) (n c m d a b : Nat) (xs ys : List Nat) (w : World) (hx : Num w A n c xs a) (hy : Num w B m d ys b) :
    Calls Tryz.prog 86 #[.slice A n c, .slice B m d] w (GivesSub a b w) := by
  rcases Nat.lt_or_ge a b with h | h
  · exact sub_less A B n c m d a b xs ys w hx hy h
  · exact sub_more A B n c m d a b xs ys w hx hy h
end Go.Proofs.YtbllnkhbahenkaaGreatDoor
namespace Go.Proofs.YtbllnkhbahenkaaGreatDoor
open Go.RowKit
def RSubInv (xs ys : List Nat) (w : World) (k bw : Nat) (v : Value) (wr : World) : Prop :=
  ∃ out, Own wr w.heap.size v out ∧ out.length = k ∧ dval out + dval (ys.take k) = dval (xs.take k) + 4294967296 ^ k * bw ∧ Below w.heap.size w wr
theorem rsub_digit (x y bw s : Nat) (h1 : x < 4294967296) (h2 : y < 4294967296) (h3 : bw ≤ 1) (hs : s = 4294967296 + x - y - bw) : s % 4294967296 + y + bw = x + 4294967296 * (1 - s / 4294967296) ∧ 1 - s / 4294967296 ≤ 1 ∧ s / 4294967296 ≤ 1 := by omega
theorem rsub_math (P O T X bw x y r q : Nat) (h1 : O + T = X + P * bw) (h3 : r + y + bw = x + 4294967296 * q) : O + P * r + (T + P * y) = X + P * x + P * 4294967296 * q := by
  have e := congrArg (P * ·) h3
  simp only [Nat.mul_add] at e
  have e2 : P * (4294967296 * q) = P * 4294967296 * q := by rw [Nat.mul_assoc]
  rw [e2] at e
  omega
theorem rsub_step (xs ys out : List Nat) (k bw x y s : Nat) (hx : xs.getD k 0 = x) (hy : ys.getD k 0 = y) (hl : out.length = k) (h : dval out + dval (ys.take k) = dval (xs.take k) + 4294967296 ^ k * bw) (h1 : x < 4294967296) (h2 : y < 4294967296) (h3 : bw ≤ 1) (hs : s = 4294967296 + x - y - bw) :
    dval (out ++ [s % 4294967296]) + dval (ys.take (k + 1)) = dval (xs.take (k + 1)) + 4294967296 ^ (k + 1) * (1 - s / 4294967296) := by
  rw [dval_append, dval_take_succ', dval_take_succ', hx, hy, hl, Nat.pow_succ]
  simp only [dval, Nat.mul_zero, Nat.add_zero]
  exact rsub_math _ _ _ _ _ _ _ _ _ h (rsub_digit x y bw s h1 h2 h3 hs).1
theorem rsub_fin (xs ys out : List Nat) (n m a b bw : Nat) (hx : xs.length = n) (hy : ys.length = m) (hmn : m ≤ n) (hxa : dval xs = a) (hyb : dval ys = b) (hba : b ≤ a) (hl : out.length = n) (hd : ∀ d ∈ out, d < 4294967296)
    (h : dval out + dval (ys.take n) = dval (xs.take n) + 4294967296 ^ n * bw) : dval out = a - b := by
  rw [List.take_of_length_le (by omega), List.take_of_length_le (by omega), hxa, hyb] at h
  have h1 := dval_lt out hd
  rw [hl] at h1
  rcases bw with _ | bw
  · rw [Nat.mul_zero] at h; omega
  · have h2 : 4294967296 ^ n * 1 ≤ 4294967296 ^ n * (bw + 1) := Nat.mul_le_mul_left _ (by omega)
    rw [Nat.mul_one] at h2
    generalize 4294967296 ^ n * (bw + 1) = X at *
    omega
set_option maxRecDepth 100000 in
set_option maxHeartbeats 400000 in
theorem rsub_less (A B : Option Addr) (n c m d a b : Nat) (xs ys : List Nat) (w : World) (hx : Num w A n c xs a) (hy : Num w B m d ys b) (hab : a < b) :
    Calls Tryz.prog 100 #[.slice A n c, .slice B m d] w (GivesSub a b w) := by
  have C := Lib.hid (rcmp_any A B n c m d xs ys w hx.toLst hy.toLst)
  rw [hx.val, hy.val, cmpI_lt hab] at C
  have D : Hid (decide (b ≤ a) = false ∧ a - b = 0) := Lib.hid ⟨decide_eq_false (by omega), by omega⟩
  clear hx hy hab
  go_enter Tryz.func100, Tryz.ntmps100
  go_wp2_with fail
  refine C.out.mono ?_
  rintro e w' ⟨rfl, rfl⟩
  go_wp2
  go_ret2
  exact ⟨none, 0, 0, [], by rw [D.out.1]; rfl, by rw [D.out.2]; exact Num.zero _, Below.refl _ _⟩
set_option maxRecDepth 100000 in
set_option maxHeartbeats 2000000 in
theorem rsub_more (A B : Option Addr) (n c m d a b : Nat) (xs ys : List Nat) (w : World) (hx : Num w A n c xs a) (hy : Num w B m d ys b) (hab : b ≤ a) (hn : n ≤ 1000000) :
    Calls Tryz.prog 100 #[.slice A n c, .slice B m d] w (GivesSub a b w) := by
  obtain ⟨i0, hi0, hz0, hz1, hz2⟩ := info_parts infoU32
  have C := Lib.hid (rcmp_any A B n c m d xs ys w hx.toLst hy.toLst)
  rw [hx.val, hy.val] at C
  have hmn := hx.len_mono hy hab
  have hba := Lib.hid hab
  have HX := Lib.hid hx
  have HY := Lib.hid hy
  obtain ⟨q, hq⟩ : ∃ q, cmpI a b = q := ⟨_, rfl⟩
  have hq0 : 0 ≤ q := by
    rw [← hq]
    unfold cmpI
    rw [if_neg (by omega)]
    split <;> decide
  rw [hq] at C
  have I0 : Hid (RSubInv xs ys w 0 0 (.slice none 0 0) w) := Lib.hid ⟨[], Own.nil _ _, rfl, by simp [dval], Below.refl _ _⟩
  clear hx hy hab hq
  go_enter Tryz.func100, Tryz.ntmps100
  go_wp2_with fail
  refine C.out.mono ?_
  rintro e w' ⟨rfl, rfl⟩
  go_wp2
  go_loopw [6, 7, 8] (fun v bv i wr => ∃ k bw : Nat, k ≤ n ∧ bw ≤ 1 ∧ i = .int .i64 k ∧ bv = .int .u64 bw ∧ Hid (RSubInv xs ys w k bw v wr)) (fun _ _ i _ => n - (intOf i).toNat)
  case atStart => exact ⟨0, 0, by omega, by omega, rfl, rfl, I0⟩
  case round =>
      obtain ⟨k, bw, hk, hbw, rfl, rfl, hi⟩ := hrel
      obtain ⟨out, hO, hl, hv, hb⟩ := hi.out
      have HO := Lib.hid hO
      have HL := Lib.hid hl
      have HV := Lib.hid hv
      have HB := Lib.hid hb
      have KX := Lib.hid (HX.out.keep hb)
      have KY := Lib.hid (HY.out.keep hb)
      have hs := hb.size
      clear hO hl hv hb hi I0
      by_cases hlt : k < n
      · have hxl := KX.out.toLst.getD_lt k
        have hyl := KY.out.toLst.getD_lt k
        obtain ⟨x, hxe⟩ : ∃ x, xs.getD k 0 = x := ⟨_, rfl⟩
        obtain ⟨y, hye⟩ : ∃ y, ys.getD k 0 = y := ⟨_, rfl⟩
        have D1 := digit_any A n c k xs _ KX.out.toLst (by omega)
        have D2 := digit_any B m d k ys _ KY.out.toLst (by omega)
        rw [hxe] at D1 hxl
        rw [hye] at D2 hyl
        have C1 := Lib.hid D1
        have C2 := Lib.hid D2
        have M := Lib.hid (rsub_step xs ys out k bw x y (4294967296 + x - y - bw) hxe hye HL.out HV.out hxl hyl hbw rfl)
        have R := rsub_digit x y bw (4294967296 + x - y - bw) hxl hyl hbw rfl
        clear D1 D2 hxe hye
        have r2 := R.2.1
        have r3 := R.2.2
        clear R
        go_wp2_with fail
        refine C1.out.mono ?_
        rintro e w' ⟨rfl, rfl⟩
        go_wp2_with fail
        refine C2.out.mono ?_
        rintro e w' ⟨rfl, rfl⟩
        go_wp2_with (at_builtin; refine wpList_append_own _ rfl _ _ 23 rfl w.heap.size 52 i0 (.int .u32 0) 1 4 Tryz.underlying23 hi0 hz0 hz1 hz2 rfl (by decide) _ _ _ rfl (HO.out.own.alloc _) ⟨wr.heap.size, 0, none⟩ 1 1 [.int .u32 ((4294967296 + (x : Int) - (y : Int) - (bw : Int)) % 4294967296)] rfl rfl ?c1 ?c2 ?c3 ?c4 ?c5 ?_)
        case c1 =>
          intro j u hj
          match j, hj with
          | 0, hj => simp at hj; subst hj; simp [Addr.add]
        case c2 => intro u hu; simp at hu; subst hu; rfl
        case c3 => have := HL.out; unfold maxLen; omega
        case c4 => have := HL.out; omega
        case c5 => simp; omega
        intro v' w1 hown' hgrow _
        have RA := HO.out.app HB.out hs hown' (d := (4294967296 + x - y - bw) % 4294967296) (by omega) (Nat.mod_lt _ (by decide)) hgrow
        have RR : Hid (RSubInv xs ys w (k + 1) (1 - (4294967296 + x - y - bw) / 4294967296) v' w1) := Lib.hid ⟨_, RA.1, by simp [HL.out], M.out, RA.2⟩
        clear hown' hgrow RA
        go_wp2
        go_roundw
        case rel => exact ⟨k + 1, 1 - (4294967296 + x - y - bw) / 4294967296, by omega, r2, by go_num, by go_num, RR⟩
        case measure => simp [intOf]; omega
      · obtain rfl : k = n := by omega
        have F := Lib.hid (rsub_fin xs ys out k m a b bw HX.out.len HY.out.len hmn HX.out.val HY.out.val hba.out HL.out HO.out.lt HV.out)
        obtain ⟨A', c', rfl, L⟩ := HO.out.lst (by have := HL.out; omega)
        have LL := Lib.hid L
        clear L
        go_wp2_with fail
        refine (rtrim_any _ _ _ _ _ LL.out).mono ?_
        rintro e w' hg
        have G := Lib.hid ((hg.from_ HB.out rfl).eq F.out)
        obtain ⟨A1, n1, c1, xs1, rfl, _, _⟩ := hg
        go_wp2
        go_ret2
        exact sub_close G.out hba.out
theorem rsub_any (A B : Option Addr) (n c m d a b : Nat) (xs ys : List Nat) (w : World) (hx : Num w A n c xs a) (hy : Num w B m d ys b) (hn : n ≤ 1000000) :
    Calls Tryz.prog 100 #[.slice A n c, .slice B m d] w (GivesSub a b w) := by
  rcases Nat.lt_or_ge a b with h | h
  · exact rsub_less A B n c m d a b xs ys w hx hy h
  · exact rsub_more A B n c m d a b xs ys w hx hy h hn
end Go.Proofs.YtbllnkhbahenkaaGreatDoor
