/- The contract of the law's 'lives': no claim of its own. -/
import Derived.Test.YtgmjpkkpkdcncaaDoorMul
import Derived.Test.YtgmjpkkpkdcncaaDoorFormat
import Derived.Test.YtgmjpkkpkdcncaaDoorParse
import Derived.Test.YtgmjpkkpkdcncaaDoorBitsN
namespace Go.Proofs.YtgmjpkkpkdcncaaDoor
open Go.RowKit
theorem Num.new (W : World) (cs : Array Value) (t : TypeId) (xs : List Nat) (n a g : Nat) (hg : W.heap.size = g) (h : cs.toList = Dg xs) (hn : xs.length = n) (hs : n ≤ 100) (hl : ∀ d ∈ xs, d < 4294967296) (ht : Tight xs) (hv : dval xs = a) :
    Num (W.alloc (.cells cs t)) (some ⟨g, 0, none⟩) n n xs a := by
  subst hg
  exact ⟨Lst.new W cs t n n xs (by rw [h, List.take_of_length_le (by rw [Dg_length]; omega)]) hn (Nat.le_refl _) (by omega) hl, ht, hv⟩
theorem Lst.newg (W : World) (cs : Array Value) (t : TypeId) (xs : List Nat) (n g : Nat) (hg : W.heap.size = g) (h : cs.toList = Dg xs) (hn : xs.length = n) (hs : n ≤ 100) (hl : ∀ d ∈ xs, d < 4294967296) : Lst (W.alloc (.cells cs t)) (some ⟨g, 0, none⟩) n n xs := by
  subst hg
  exact Lst.new W cs t n n xs (by rw [h, List.take_of_length_le (by rw [Dg_length]; omega)]) hn (Nat.le_refl _) (by omega) hl
theorem valid_yes (A : Option Addr) (n c : Nat) (xs : List Nat) (w : World) (h : Lst w A n c xs) (b : Bool) (hb : tightB xs = b) :
    Calls Tryd.prog 7 #[.slice A n c] w fun e w' => e = .returned (.bool b) ∧ w = w' := hb ▸ valid_any A n c xs w h
theorem Num.eq_ {w w' : World} {A B : Option Addr} {n c m d a : Nat} {xs ys : List Nat} (h : Num w A n c xs a) (k : Num w' B m d ys a) : xs = ys :=
  dval_inj xs ys h.lt k.lt h.tight k.tight (h.val.trans k.val.symm)
theorem same_num (A B : Option Addr) (n c m d a : Nat) (xs ys : List Nat) (w : World) (h : Num w A n c xs a) (h' : Num w B m d ys a) :
    Calls Tryd.prog 13 #[.slice A n c, .slice B m d] w (Gives (.bool true) w) := by
  have e := h.eq_ h'
  subst e
  exact same_yes A B n c m d xs w h.toLst h'.toLst
theorem below_alloc (w : World) (o : Obj) : Below w.heap.size w (w.alloc o) := (Below.refl _ _).alloc (Nat.le_refl _) _
def big : ByteArray := ⟨#[49, 56, 52, 52, 54, 55, 52, 52, 48, 55, 51, 55, 48, 57, 53, 53, 49, 54, 49, 54]⟩
theorem big_ok : parseErr big.data.toList = 0 :=
  parseErr_ok _ (by decide) (by decide) (by decide) (by intro c hc; have h : ∀ c ∈ big.data.toList, 48 ≤ c.toNat ∧ c.toNat ≤ 57 := by decide
                                                        exact h c hc)
theorem big_val : decVal big.data.toList = 18446744073709551616 := by decide +kernel
theorem text_big (s : ByteArray) (h : isText s.data.toList 18446744073709551616) : s = big := by
  have e := isText_inj _ _ _ h (big_val ▸ isText_of_ok _ big_ok)
  cases s with
  | mk d => 
    have : d = big.data := Array.toList_inj.1 e
    subst this
    rfl
set_option maxRecDepth 100000 in
set_option maxHeartbeats 4000000 in
theorem lives_any (w : World) : Calls Tryd.prog 10 #[] w (Gives (.bool true) w) := by
  go_enter Tryd.func10, Tryd.ntmps10
  go_wp2_with fail
  have n1 : Num (w.alloc (.cells #[.int .u32 4294967295] 43)) (some ⟨w.heap.size, 0, none⟩) 1 1 [4294967295] 4294967295 := Num.new _ _ _ _ _ _ _ rfl rfl rfl (by decide) (by decide) (by right; decide) rfl
  have n2 : Num ((w.alloc (.cells #[.int .u32 4294967295] 43)).alloc (.cells #[.int .u32 4294967295] 43)) (some ⟨w.heap.size + 1, 0, none⟩) 1 1 [4294967295] 4294967295 := Num.new _ _ _ _ _ _ _ (by simp) rfl rfl (by decide) (by decide) (by right; decide) rfl
  refine (mul_any _ _ _ _ _ _ _ _ _ _ _ (n1.keep (below_alloc _ _)) n2 (by decide) (by decide)).mono ?_
  rintro e w1 ⟨A1, l1, c1, x1, rfl, hm, hb⟩
  have hb1 : Below w.heap.size w w1 := ((below_alloc w _).trans ((below_alloc _ _).mono (by simp))).trans (hb.mono (by simp; omega))
  have M1 := Lib.hid hm
  have B1 := Lib.hid hb1
  clear n1 n2 hm hb hb1
  go_wp2_with fail
  refine (fromUint_int 1000 (by decide) (by decide) _).mono ?_
  rintro e w2 ⟨A2, l2, c2, x2, rfl, hn, hb⟩
  have N2 := Lib.hid (show Num w2 A2 l2 c2 x2 1000 from hn)
  have M2 := Lib.hid (M1.out.keep hb)
  have B2 := Lib.hid (B1.out.trans (hb.mono B1.out.size))
  clear hn hb M1 B1
  go_wp2_with fail
  refine (fromUint_int 7 (by decide) (by decide) _).mono ?_
  rintro e w3 ⟨A3, l3, c3, x3, rfl, hn, hb⟩
  have P3 := Lib.hid (show Num w3 A3 l3 c3 x3 7 from hn)
  have N3 := Lib.hid (N2.out.keep hb)
  have M3 := Lib.hid (M2.out.keep hb)
  have B3 := Lib.hid (B2.out.trans (hb.mono B2.out.size))
  clear hn hb M2 B2 N2
  go_wp2_with fail
  have d1 : l2 ≤ 2 := N3.out.small.2 (by decide)
  have d2 : l3 ≤ 2 := P3.out.small.2 (by decide)
  have d3 : 0 < l3 := by
    rcases Nat.eq_zero_or_pos l3 with h | h
    · have h1 := P3.out.len
      have h2 := P3.out.val
      rw [h] at h1
      have : x3 = [] := List.eq_nil_of_length_eq_zero h1
      subst this
      simp [dval] at h2
    · exact h
  refine (divMod_of _ _ _ _ _ _ _ _ _ _ _ N3.out P3.out d3 (divide_small _ _ _ _ _ _ _ _ _ _ _ N3.out.caps P3.out.caps d1 d2 (by decide))).mono ?_
  rintro e w4 ⟨A4, l4, c4, x4, A5, l5, c5, x5, rfl, hq, hr, hb⟩
  have Q4 := Lib.hid (show Num w4 A4 l4 c4 x4 142 from hq)
  have R4 := Lib.hid (show Num w4 A5 l5 c5 x5 6 from hr)
  have M4 := Lib.hid (M3.out.keep hb)
  have B4 := Lib.hid (B3.out.trans (hb.mono B3.out.size))
  clear hq hr hb M3 N3 P3 B3 d1 d2 d3
  go_wp2_with fail
  have pr := parse_any big w4 (by decide)
  rw [big_ok, if_pos rfl, big_val] at pr
  refine pr.mono ?_
  rintro e w5 ⟨A6, l6, c6, x6, rfl, ha, hb⟩
  have S5 := Lib.hid ha
  have Q5 := Lib.hid (Q4.out.keep hb)
  have R5 := Lib.hid (R4.out.keep hb)
  have M5 := Lib.hid (M4.out.keep hb)
  have B5 := Lib.hid (B4.out.trans (hb.mono B4.out.size))
  clear pr ha hb M4 Q4 R4 B4
  go_wp2_with fail
  have n1 : Num (w5.alloc (.cells #[.int .u32 1, .int .u32 4294967294] 43)) (some ⟨w5.heap.size, 0, none⟩) 2 2 [1, 4294967294] (4294967295 * 4294967295) := Num.new _ _ _ _ _ _ _ rfl rfl rfl (by decide) (by decide) (by right; decide) (by decide +kernel)
  refine (same_num _ _ _ _ _ _ _ _ _ _ (M5.out.keep (below_alloc _ _)) n1).mono ?_
  rintro e w6 ⟨rfl, hb⟩
  have hb1 := (below_alloc w5 (.cells #[.int .u32 1, .int .u32 4294967294] 43)).trans (hb.mono (by simp))
  have Q6 := Lib.hid (Q5.out.keep hb1)
  have R6 := Lib.hid (R5.out.keep hb1)
  have S6 := Lib.hid (S5.out.keep hb1)
  have B6 := Lib.hid (B5.out.trans (hb1.mono B5.out.size))
  clear n1 hb hb1 B5 M5 Q5 R5 S5
  go_wp2_with fail
  have n1 : Num (w6.alloc (.cells #[.int .u32 142] 43)) (some ⟨w6.heap.size, 0, none⟩) 1 1 [142] 142 := Num.new _ _ _ _ _ _ _ rfl rfl rfl (by decide) (by decide) (by right; decide) (by decide +kernel)
  refine (same_num _ _ _ _ _ _ _ _ _ _ (Q6.out.keep (below_alloc _ _)) n1).mono ?_
  rintro e w7 ⟨rfl, hb⟩
  have hb1 := (below_alloc w6 (.cells #[.int .u32 142] 43)).trans (hb.mono (by simp))
  have R7 := Lib.hid (R6.out.keep hb1)
  have S7 := Lib.hid (S6.out.keep hb1)
  have B7 := Lib.hid (B6.out.trans (hb1.mono B6.out.size))
  clear n1 hb hb1 B6 Q6 R6 S6
  go_wp2_with fail
  have n1 : Num (w7.alloc (.cells #[.int .u32 6] 43)) (some ⟨w7.heap.size, 0, none⟩) 1 1 [6] 6 := Num.new _ _ _ _ _ _ _ rfl rfl rfl (by decide) (by decide) (by right; decide) (by decide +kernel)
  refine (same_num _ _ _ _ _ _ _ _ _ _ (R7.out.keep (below_alloc _ _)) n1).mono ?_
  rintro e w8 ⟨rfl, hb⟩
  have hb1 := (below_alloc w7 (.cells #[.int .u32 6] 43)).trans (hb.mono (by simp))
  have S8 := Lib.hid (S7.out.keep hb1)
  have B8 := Lib.hid (B7.out.trans (hb1.mono B7.out.size))
  clear n1 hb hb1 B7 R7 S7
  go_wp2_with fail
  have n1 : Num (w8.alloc (.cells #[.int .u32 0, .int .u32 0, .int .u32 1] 43)) (some ⟨w8.heap.size, 0, none⟩) 3 3 [0, 0, 1] 18446744073709551616 := Num.new _ _ _ _ _ _ _ rfl rfl rfl (by decide) (by decide) (by right; decide) (by decide +kernel)
  refine (same_num _ _ _ _ _ _ _ _ _ _ (S8.out.keep (below_alloc _ _)) n1).mono ?_
  rintro e w9 ⟨rfl, hb⟩
  have hb1 := (below_alloc w8 (.cells #[.int .u32 0, .int .u32 0, .int .u32 1] 43)).trans (hb.mono (by simp))
  have B9 := Lib.hid (B8.out.trans (hb1.mono B8.out.size))
  clear n1 hb hb1 B8 S8 
  go_wp2_with fail
  have n1 : Num (w9.alloc (.cells #[.int .u32 0, .int .u32 0, .int .u32 1] 43)) (some ⟨w9.heap.size, 0, none⟩) 3 3 [0, 0, 1] 18446744073709551616 := Num.new _ _ _ _ _ _ _ rfl rfl rfl (by decide) (by decide) (by right; decide) (by decide +kernel)
  refine (format_pos _ _ _ _ _ _ n1 (by decide) (by decide)).mono ?_
  rintro e w10 ⟨s, rfl, ht, hb⟩
  obtain rfl := text_big s ht
  have B10 := Lib.hid (B9.out.trans (((below_alloc w9 (.cells #[.int .u32 0, .int .u32 0, .int .u32 1] 43)).trans (hb.mono (by simp))).mono B9.out.size))
  clear n1 ht hb B9
  unfold big
  go_wp2_with fail
  have n1 : Num (w10.alloc (.cells #[.int .u32 0, .int .u32 1] 43)) (some ⟨w10.heap.size, 0, none⟩) 2 2 [0, 1] 4294967296 := Num.new _ _ _ _ _ _ _ rfl rfl rfl (by decide) (by decide) (by right; decide) (by decide +kernel)
  refine (bits_any _ _ _ _ _ _ n1 (by decide)).mono ?_
  rintro e w11 ⟨k, rfl, hk, rfl⟩
  obtain rfl : k = 33 := isBits_inj hk ⟨by decide, .inr (by decide)⟩
  have B11 := Lib.hid (B10.out.trans ((below_alloc w10 (.cells #[.int .u32 0, .int .u32 1] 43)).mono B10.out.size))
  clear n1 hk B10
  go_wp2_with fail
  refine (valid_yes _ _ _ [0, 1] _ (Lst.newg _ _ _ _ _ _ (by simp) rfl rfl (by decide) (by decide)) true (by decide)).mono ?_
  rintro e w12 ⟨rfl, rfl⟩
  go_wp2_with fail
  refine (valid_yes _ _ _ [1, 0] _ (Lst.newg _ _ _ _ _ _ (by simp) rfl rfl (by decide) (by decide)) false (by decide)).mono ?_
  rintro e w12 ⟨rfl, rfl⟩
  go_wp2
  go_ret
  exact ⟨rfl, ((B11.out.alloc B11.out.size _).alloc (by have := B11.out.size; simp at this ⊢; omega) _)⟩
end Go.Proofs.YtgmjpkkpkdcncaaDoor
