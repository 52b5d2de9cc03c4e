/- The contract of the reference's Parse: no claim of its own. -/
import Derived.Test.YtbllnkhbahenkaaGreatDoorRMul
import Derived.Test.YtbllnkhbahenkaaGreatDoorParse
import Derived.Test.YtbllnkhbahenkaaGreatDoorMaths
import Derived.Test.YtbllnkhbahenkaaGreatDoorDivS
namespace Go.Proofs.YtbllnkhbahenkaaGreatDoor
open Go.RowKit
theorem rfromUint_int (z : Int) (h0 : 0 ≤ z) (h1 : z ≤ 18446744073709551615) (w : World) : Calls Tryz.prog 62 #[.int .u64 z] w (GivesNum z.toNat w) := by
  obtain ⟨n, rfl⟩ := Int.eq_ofNat_of_zero_le h0
  exact rfromUint_any n (by omega) w
theorem num_small {w : World} {A : Option Addr} {n c a : Nat} {xs : List Nat} (h : Num w A n c xs a) (ha : a < 4294967296 ^ 122) : n ≤ 1000000 := by
  have := h.len_le ha
  omega
theorem radd_l {w1 w2 : World} {A B : Option Addr} {n c m d a b : Nat} {xs ys : List Nat} (h1 : Num w1 A n c xs a) (b2 : Below w1.heap.size w1 w2) (h2 : Num w2 B m d ys b) (ha : a < 4294967296 ^ 122) (hb : b < 4294967296 ^ 122) :
    Calls Tryz.prog 60 #[.slice A n c, .slice B m d] w2 (GivesNum (a + b) w2) :=
  radd_any A B n c m d a b xs ys w2 (h1.keep b2) h2 (num_small h1 ha) (num_small h2 hb)
theorem radd_r {w1 w2 : World} {A B : Option Addr} {n c m d a b : Nat} {xs ys : List Nat} (h2 : Num w1 B m d ys b) (b2 : Below w1.heap.size w1 w2) (h1 : Num w2 A n c xs a) (ha : a < 4294967296 ^ 122) (hb : b < 4294967296 ^ 122) :
    Calls Tryz.prog 60 #[.slice A n c, .slice B m d] w2 (GivesNum (a + b) w2) :=
  radd_any A B n c m d a b xs ys w2 h1 (h2.keep b2) (num_small h1 ha) (num_small h2 hb)
theorem below3 {w wr w1 w2 w3 : World} (hb : Below w.heap.size w wr) (b1 : Below wr.drew.heap.size wr.drew w1) (b2 : Below w1.heap.size w1 w2) (b3 : Below w2.heap.size w2 w3) : Below w.heap.size w w3 := by
  have h1 : Below w.heap.size w w1 := hb.drew.trans (b1.mono hb.size)
  have h2 := h1.trans (b2.mono h1.size)
  exact h2.trans (b3.mono h2.size)
theorem decVal_lt (l : List UInt8) (h : ∀ c ∈ l, isDig c) : decVal l < 10 ^ l.length := by
  have e : ∀ r : List UInt8, (∀ c ∈ r, isDig c) → rv r < 10 ^ r.length := by
    intro r
    induction r with
    | nil => intro _; simp [rv]
    | cons c cs ih =>
      intro h
      have h1 := (h c (by simp)).2
      have h2 := ih fun x hx => h x (by simp [hx])
      simp only [rv, List.length_cons, Nat.pow_succ]
      omega
  have := e l.reverse (fun c hc => h c (by simpa using hc))
  rw [← decVal_reverse, List.reverse_reverse, List.length_reverse] at this
  exact this
theorem pow_j (j m : Nat) (hm : m ≤ 10 * j) : 10 * 10 ^ m ≤ 4294967296 ^ (2 * j + 2) := by
  have h2 : 10 ^ m ≤ (10 ^ 10) ^ j := by
    rw [← Nat.pow_mul]
    exact Nat.pow_le_pow_right (by decide) hm
  have a1 : ((10 : Nat) ^ 10) ^ j ≤ (4294967296 ^ 2) ^ j := Nat.pow_le_pow_left (by decide) _
  have a2 : (10 : Nat) ≤ 4294967296 ^ 2 := by decide
  rw [Nat.pow_add, Nat.pow_mul, Nat.mul_comm]
  exact Nat.mul_le_mul (Nat.le_trans h2 a1) a2
theorem decVal_small (l : List UInt8) (k : Nat) (h : ∀ c ∈ l.take k, isDig c) (hl : l.length ≤ 600) : 10 * decVal (l.take k) < 4294967296 ^ 122 := by
  have h1 := decVal_lt (l.take k) h
  have h2 := pow_j 60 (l.take k).length (by rw [List.length_take]; omega)
  exact Nat.lt_of_lt_of_le (Nat.mul_lt_mul_of_pos_left h1 (by decide)) h2
theorem take_dig (s : ByteArray) (k : Nat) (h : ∀ (j : Nat) (hj : j < s.size), j < k → isDig s[j]) : ∀ c ∈ s.data.toList.take k, isDig c := by
  intro c hc
  obtain ⟨i, hi, rfl⟩ := List.mem_iff_getElem.1 hc
  rw [List.length_take] at hi
  rw [List.getElem_take]
  exact h i (by simp at hi; omega) (by omega)
def RParseInv (l : List UInt8) (k : Nat) (w : World) (D : Option Addr) (n c : Nat) (wr : World) : Prop := (∃ xs, Num wr D n c xs (decVal (l.take k))) ∧ Below w.heap.size w wr
set_option maxRecDepth 100000 in
set_option maxHeartbeats 2000000 in
theorem rparse_mid (s : ByteArray) (w : World) (h0 : 0 < s.size) (hz : s.size ≤ 600) :
    Calls Tryz.prog 26 #[.string s] w (GivesParse (if parseErr s.data.toList = 0 then decVal s.data.toList else 0) (parseErr s.data.toList) w) := by
  have PB := Lib.hid (parseErr_bad s.data.toList (by rw [size_list]; omega) (by rw [size_list]; omega))
  have PO := Lib.hid (parseErr_ok s.data.toList (by rw [size_list]; omega) (by rw [size_list]; omega))
  have GB : Hid (parseErr s.data.toList = 2 → GivesParse (if parseErr s.data.toList = 0 then decVal s.data.toList else 0) (parseErr s.data.toList) w = GivesParse 0 2 w) := Lib.hid fun h => by rw [h]; rfl
  have GO : Hid (parseErr s.data.toList = 0 → GivesParse (if parseErr s.data.toList = 0 then decVal s.data.toList else 0) (parseErr s.data.toList) w = GivesParse (decVal s.data.toList) 0 w) := Lib.hid fun h => by rw [h]; rfl
  have he : s.toList.isEmpty = false := by
    rw [ByteArray.toList_eq]
    cases h : s.data.toList with
    | nil => have := size_list s; rw [h] at this; simp at this; omega
    | cons a b => rfl
  have I0 : Hid (RParseInv s.data.toList 0 w none 0 0 w) := Lib.hid ⟨⟨[], Num.zero w⟩, Below.refl _ _⟩
  generalize GivesParse (if parseErr s.data.toList = 0 then decVal s.data.toList else 0) (parseErr s.data.toList) w = POST at GB GO ⊢
  go_enter Tryz.func26, Tryz.ntmps26
  go_wp2
  go_loopw [4, 5] (fun v i wr => ∃ (k : Nat) (D : Option Addr) (n c : Nat), k ≤ s.size ∧ i = .int .i64 k ∧ v = .slice D n c ∧ Hid (RParseInv s.data.toList k w D n c wr) ∧ Hid (∀ (j : Nat) (hj : j < s.size), j < k → isDig s[j]) ∧ Hid (0 < k → ¬ ((s[0]'h0).toNat = 48 ∧ 1 < s.size))) (fun _ i _ => s.size - (intOf i).toNat)
  case atStart => exact ⟨0, none, 0, 0, by omega, rfl, rfl, I0, Lib.hid fun j hj h => by omega, Lib.hid fun h => by omega⟩
  case round =>
    obtain ⟨k, D, n, c, hk, rfl, rfl, hi, hdg, hfs⟩ := hrel
    obtain ⟨⟨xs, hN⟩, hb⟩ := hi.out
    have HN := Lib.hid hN
    have HB := Lib.hid hb
    clear hN hb hi I0
    by_cases hlt : k < s.size
    · by_cases hc1 : s[k].toNat < 48
      · have P : parseErr s.data.toList = 2 := PB.out (.inr fun h => by have := (h _ (mem_index s k hlt)).1; omega)
        have hc : (s[k].toNat : Int) < 48 := by omega
        have GG := Lib.hid (GB.out P)
        have NG : Hid (GivesParse 0 2 w (.returned (.tuple #[.slice none 0 0, .int .i64 2])) wr) := Lib.hid ⟨none, 0, 0, [], rfl, Num.zero _, HB.out⟩
        clear PB PO hdg hfs P GB GO
        go_wp2
        rw [GG.out]
        exact NG.out
      by_cases hc2 : 57 < s[k].toNat
      · have P : parseErr s.data.toList = 2 := PB.out (.inr fun h => by have := (h _ (mem_index s k hlt)).2; omega)
        have hc : (57 : Int) < (s[k].toNat : Int) := by omega
        have GG := Lib.hid (GB.out P)
        have NG : Hid (GivesParse 0 2 w (.returned (.tuple #[.slice none 0 0, .int .i64 2])) wr) := Lib.hid ⟨none, 0, 0, [], rfl, Num.zero _, HB.out⟩
        clear PB PO hdg hfs P GB GO
        go_wp2
        rw [GG.out]
        exact NG.out
      have b1 : (48 : Int) ≤ (s[k].toNat : Int) := by omega
      have b2 : (s[k].toNat : Int) ≤ 57 := by omega
      have hdg' : Hid (∀ (j : Nat) (hj : j < s.size), j < k + 1 → isDig s[j]) := Lib.hid fun j hj h => by
        rcases Nat.lt_or_ge j k with h1 | h1
        · exact hdg.out j hj h1
        · obtain rfl : j = k := by omega
          exact ⟨by omega, by omega⟩
      have b3 : (0 : Int) ≤ (s[k].toNat : Int) - 48 := by omega
      have b4 : (s[k].toNat : Int) - 48 ≤ 18446744073709551615 := by omega
      have V := Lib.hid (decVal_small s.data.toList k (take_dig s k hdg.out) (by rw [size_list]; omega))
      have V' : Hid (decVal (s.data.toList.take k) < 4294967296 ^ 122) := Lib.hid (by have := V.out; omega)
      have N : Hid (10 * decVal (s.data.toList.take k) + ((s[k].toNat : Int) - 48).toNat = decVal (s.data.toList.take (k + 1))) := Lib.hid (by
        rw [take_snoc' s k hlt, decVal_snoc]; omega)
      have V2 : Hid (((s[k].toNat : Int) - 48).toNat < 4294967296 ^ 122) := Lib.hid (Nat.lt_of_lt_of_le (show ((s[k].toNat : Int) - 48).toNat < 4294967296 by omega) (by
        have : (4294967296 : Nat) ^ 1 ≤ 4294967296 ^ 122 := Nat.pow_le_pow_right (by decide) (by decide)
        rw [Nat.pow_one] at this; exact this))
      have SCa := Lib.hid (show Calls Tryz.prog 61 #[.slice D n c, .int .u64 10] wr.drew (GivesNum (10 * decVal (s.data.toList.take k)) wr.drew) from rscale_any D n c (decVal (s.data.toList.take k)) 10 xs wr.drew (HN.out.keep ((Below.refl _ _).drew)) (num_small HN.out V'.out) (by decide))
      have SCb := Lib.hid (show ∀ w1, Below wr.drew.heap.size wr.drew w1 → Calls Tryz.prog 61 #[.slice D n c, .int .u64 10] w1 (GivesNum (10 * decVal (s.data.toList.take k)) w1) from fun w1 hb1 => rscale_any D n c (decVal (s.data.toList.take k)) 10 xs w1 ((HN.out.keep ((Below.refl _ _).drew)).keep hb1) (num_small HN.out V'.out) (by decide))
      have V3 : Hid ((0 : Int).toNat < 4294967296 ^ 122) := Lib.hid (Nat.pow_pos (by decide))
      have N3 : Hid (s[k].toNat = 48 → 10 * decVal (s.data.toList.take k) + (0 : Int).toNat = decVal (s.data.toList.take (k + 1))) := Lib.hid fun h => by
        rw [← N.out, h]; rfl
      have z1 : (0 : Int) ≤ 0 := by omega
      have z2 : (0 : Int) ≤ 18446744073709551615 := by omega
      have q1 : IntKind.u64.wrap 48 = 48 := rfl
      have q2 : IntKind.u64.wrap 0 = 0 := rfl
      have q3 : IntKind.u64.wrap ((s[k].toNat : Int)) = (s[k].toNat : Int) := wrap_u64 _ (by omega)
      have wq : IntKind.u64.wrap ((s[k].toNat : Int) - 48) = (s[k].toNat : Int) - 48 := by
        obtain ⟨q, hq⟩ := Int.eq_ofNat_of_zero_le b3
        rw [hq]; exact wrap_u64 _ (by omega)
      rcases Nat.eq_zero_or_pos k with hk0 | hk0
      · subst hk0
        by_cases h48 : s[0].toNat = 48 ∧ 1 < s.size
        · have P : parseErr s.data.toList = 2 := PB.out (.inl ⟨by rw [getD_zero s h0]; exact UInt8.toNat_inj.1 h48.1, by rw [size_list]; exact h48.2⟩)
          obtain ⟨h481, h482⟩ := h48
          have hc : ((s[0].toNat : Int) == 48) = true := beq_iff_eq.2 (by omega)
          have hc3 : (1 : Int) < (s.size : Int) := by omega
          have GG := Lib.hid (GB.out P)
          have NG : Hid (GivesParse 0 2 w (.returned (.tuple #[.slice none 0 0, .int .i64 2])) wr) := Lib.hid ⟨none, 0, 0, [], rfl, Num.zero _, HB.out⟩
          clear PB PO hdg hfs P GB GO h481 hdg' SCa SCb N N3 V V' V2 V3 wq q3
          go_wp2
          rw [GG.out]
          exact NG.out
        have hfs' : Hid (0 < 0 + 1 → ¬ ((s[0]'h0).toNat = 48 ∧ 1 < s.size)) := Lib.hid fun _ => h48
        have hf : ¬ (s[0].toNat = 48 ∧ 1 < s.size) := h48
        clear hdg hfs PB GB PO GO h48
        go_wp2_with fail
        all_goals go_region_with ((first | (go_at_call 61; first | ((with_reducible refine SCa.out.mono ?_); rintro e w' ⟨_, _, _, _, rfl, _, _⟩) | ((with_reducible refine (SCb.out _ (by assumption)).mono ?_); rintro e w' ⟨_, _, _, _, rfl, _, _⟩)) | (go_at_call 62; refine (rfromUint_int _ (by assumption) (by assumption) _).mono ?_; rintro e w' ⟨_, _, _, _, rfl, _, _⟩) | (go_at_call 60; first | ((with_reducible refine (radd_l (by assumption) (by assumption) (by assumption) V.out (by first | exact V2.out | exact V3.out)).mono ?_); rintro e w' ⟨_, _, _, _, rfl, _, _⟩) | ((with_reducible refine (radd_r (by assumption) (by assumption) (by assumption) V.out (by first | exact V2.out | exact V3.out)).mono ?_); rintro e w' ⟨_, _, _, _, rfl, _, _⟩))))
        all_goals go_wp2
        all_goals
          go_roundw
          case rel => exact ⟨0 + 1, _, _, _, by omega, by go_num, rfl, Lib.hid ⟨⟨_, by first | (rw [← N.out]; assumption) | (rw [← N3.out (by omega)]; assumption)⟩, below3 HB.out (by assumption) (by assumption) (by assumption)⟩, hdg', hfs'⟩
          case measure => simp [intOf]; omega
      · have hkz : ((k : Int) == 0) = false := beq_eq_false_iff_ne.2 (by omega)
        have hfs' : Hid (0 < k + 1 → ¬ ((s[0]'h0).toNat = 48 ∧ 1 < s.size)) := Lib.hid fun _ => hfs.out hk0
        clear hdg hfs PB GB PO GO
        go_wp2_with fail
        all_goals go_region_with ((first | (go_at_call 61; first | ((with_reducible refine SCa.out.mono ?_); rintro e w' ⟨_, _, _, _, rfl, _, _⟩) | ((with_reducible refine (SCb.out _ (by assumption)).mono ?_); rintro e w' ⟨_, _, _, _, rfl, _, _⟩)) | (go_at_call 62; refine (rfromUint_int _ (by assumption) (by assumption) _).mono ?_; rintro e w' ⟨_, _, _, _, rfl, _, _⟩) | (go_at_call 60; first | ((with_reducible refine (radd_l (by assumption) (by assumption) (by assumption) V.out (by first | exact V2.out | exact V3.out)).mono ?_); rintro e w' ⟨_, _, _, _, rfl, _, _⟩) | ((with_reducible refine (radd_r (by assumption) (by assumption) (by assumption) V.out (by first | exact V2.out | exact V3.out)).mono ?_); rintro e w' ⟨_, _, _, _, rfl, _, _⟩))))
        all_goals go_wp2
        all_goals
          go_roundw
          case rel => exact ⟨k + 1, _, _, _, by omega, by go_num, rfl, Lib.hid ⟨⟨_, by first | (rw [← N.out]; assumption) | (rw [← N3.out (by omega)]; assumption)⟩, below3 HB.out (by assumption) (by assumption) (by assumption)⟩, hdg', hfs'⟩
          case measure => simp [intOf]; omega
    · obtain rfl : k = s.size := by omega
      have e : decVal (s.data.toList.take s.size) = decVal s.data.toList := by rw [List.take_of_length_le (by rw [size_list]; exact Nat.le_refl _)]
      have GG := Lib.hid (GO.out (PO.out (fun h => hfs.out (by omega) ⟨by have := h.1; rw [getD_zero s h0] at this; rw [this]; rfl, by have := h.2; rw [size_list] at this; exact this⟩) (all_of_index s isDig fun j hj => hdg.out j hj hj)))
      have G : Hid (GivesParse (decVal s.data.toList) 0 w (.returned (.tuple #[.slice D n c, .int .i64 0])) wr) := Lib.hid ⟨D, n, c, xs, rfl, e ▸ HN.out, HB.out⟩
      clear e PB PO GB GO hdg hfs
      go_wp2
      rw [GG.out]
      exact G.out
set_option maxRecDepth 100000 in
set_option maxHeartbeats 400000 in
theorem rparse_any (s : ByteArray) (w : World) (hs : s.size ≤ 140737488351232) :
    Calls Tryz.prog 26 #[.string s] w (GivesParse (if parseErr s.data.toList = 0 then decVal s.data.toList else 0) (parseErr s.data.toList) w) := by
  rcases Nat.eq_zero_or_pos s.size with h0 | h0
  · have P := parseErr_short s.data.toList (by rw [size_list]; exact h0)
    rw [P, if_neg (by decide)]
    have he : s.toList.isEmpty = true := by
      rw [ByteArray.toList_eq]
      have := size_list s
      rw [h0] at this
      rw [List.eq_nil_of_length_eq_zero this]; rfl
    clear P h0 hs
    go_enter Tryz.func26, Tryz.ntmps26
    go_wp2
    go_ret2
    exact ⟨none, 0, 0, [], rfl, Num.zero _, Below.refl _ _⟩
  · by_cases h6 : 600 < s.size
    · have P := parseErr_long s.data.toList (by rw [size_list]; exact h6)
      rw [P, if_neg (by decide)]
      have he : s.toList.isEmpty = false := by
        rw [ByteArray.toList_eq]
        cases h : s.data.toList with
        | nil => have := size_list s; rw [h] at this; simp at this; omega
        | cons a b => rfl
      clear P
      go_enter Tryz.func26, Tryz.ntmps26
      go_wp2
      go_ret2
      exact ⟨none, 0, 0, [], rfl, Num.zero _, Below.refl _ _⟩
    · exact rparse_mid s w h0 (by omega)
end Go.Proofs.YtbllnkhbahenkaaGreatDoor
