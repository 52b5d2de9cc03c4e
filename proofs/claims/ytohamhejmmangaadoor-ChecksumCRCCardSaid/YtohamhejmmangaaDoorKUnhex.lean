/- The contract of Unhex: no claim of its own. -/
import Derived.Test.YtohamhejmmangaaDoorKHex
import Derived.Laws.RangeAny
namespace Go.Proofs.YtohamhejmmangaaDoor
open Go.RowKit
theorem ret_ub {a b : Int} (h : a = b) : Ending.returned (.tuple #[.int .u64 a, .bool true]) = .returned (.tuple #[.int .u64 b, .bool true]) := by rw [h]
set_option maxRecDepth 100000 in
set_option maxHeartbeats 400000 in
theorem digit_dec (r : Nat) (h1 : 48 ≤ r) (h2 : r ≤ 57) (w : World) :
    Calls Tryd.prog 34 #[.int .i32 r] w fun e w' => e = .returned (.tuple #[.int .u64 (r - 48 : Nat), .bool true]) ∧ w = w' := by
  go_enter Tryd.func34, Tryd.ntmps34
  go_wp2
  go_ret2
  exact ⟨ret_ub (by omega), rfl⟩
set_option maxRecDepth 100000 in
set_option maxHeartbeats 400000 in
theorem digit_let (r : Nat) (h1 : 97 ≤ r) (h2 : r ≤ 102) (w : World) :
    Calls Tryd.prog 34 #[.int .i32 r] w fun e w' => e = .returned (.tuple #[.int .u64 (r - 87 : Nat), .bool true]) ∧ w = w' := by
  go_enter Tryd.func34, Tryd.ntmps34
  go_wp2
  go_ret2
  exact ⟨ret_ub (by omega), rfl⟩
set_option maxRecDepth 100000 in
set_option maxHeartbeats 1000000 in
theorem digit_none (r : Nat) (h : r < 48 ∨ (57 < r ∧ r < 97) ∨ 102 < r) (hr : r ≤ 2147483647) (w : World) :
    Calls Tryd.prog 34 #[.int .i32 r] w fun e w' => e = .returned (.tuple #[.int .u64 0, .bool false]) ∧ w = w' := by
  rcases h with h | ⟨h, h'⟩ | h
  all_goals
    go_enter Tryd.func34, Tryd.ntmps34
    go_wp2
    go_ret2
    exact ⟨rfl, rfl⟩
theorem digit_yes (c : UInt8) (h : isHex c = true) (w : World) :
    Calls Tryd.prog 34 #[.int .i32 c.toNat] w fun e w' => e = .returned (.tuple #[.int .u64 (hexV c : Nat), .bool true]) ∧ w = w' := by
  simp only [isHex, Bool.or_eq_true, Bool.and_eq_true, decide_eq_true_eq] at h
  rcases h with ⟨h1, h2⟩ | ⟨h1, h2⟩
  · rw [show hexV c = c.toNat - 48 from if_pos h2]
    exact digit_dec _ h1 h2 w
  · rw [show hexV c = c.toNat - 87 from if_neg (by omega)]
    exact digit_let _ h1 h2 w
theorem not_hex (c : UInt8) (h : isHex c = false) : c.toNat < 48 ∨ (57 < c.toNat ∧ c.toNat < 97) ∨ 102 < c.toNat := by
  simp only [isHex, Bool.or_eq_false_iff, Bool.and_eq_false_iff, decide_eq_false_iff_not] at h
  omega
theorem hex_ascii (c : UInt8) (h : isHex c = true) : c.toNat < 128 := by
  simp only [isHex, Bool.or_eq_true, Bool.and_eq_true, decide_eq_true_eq] at h
  omega
/-- A rune that begins with a byte that is no hexadecimal digit is none. -/
theorem rune_none (s : ByteArray) (k : Nat) (hk : k < s.size) (h : isHex s[k] = false) : (Utf8.decode s k).1 < 48 ∨ (57 < (Utf8.decode s k).1 ∧ (Utf8.decode s k).1 < 97) ∨ 102 < (Utf8.decode s k).1 := by
  rcases Nat.lt_or_ge s[k].toNat 128 with ha | ha
  · rw [decode_ascii s k hk ha]; exact not_hex _ h
  · have := (decode_high s k hk ha).1
    omega
theorem all_take (s : ByteArray) (k : Nat) (hk : k < s.size) (h : (s.data.toList.take k).all isHex = true) (hc : isHex s[k] = true) : (s.data.toList.take (k + 1)).all isHex = true := by
  rw [take_snoc' s k hk, List.all_append, h, List.all_cons, hc]; rfl
theorem not_all (s : ByteArray) (k : Nat) (hk : k < s.size) (h : isHex s[k] = false) : unhexErr s.data.toList = 2 := by
  unfold unhexErr
  rw [if_neg]
  rintro ⟨_, g⟩
  have := List.all_eq_true.1 g _ (mem_index s k hk)
  rw [h] at this
  cases this
theorem or_digit (y d : Nat) (hy : y < 1152921504606846976) (hd : d < 16) : bits BinOp.or IntKind.u64 ((y : Int) * 16) (d : Int) = ((y * 16 + d : Nat) : Int) := by
  have e : (y : Int) * 16 = ((2 ^ 4 * y : Nat) : Int) := by omega
  rw [e, u64_or_nat _ _ (by omega) (by omega), ← Nat.two_pow_add_eq_or_of_lt (i := 4) hd]
  omega
/-- What Unhex answers, as a pair. -/
theorem unhexVal_bad (l : List UInt8) (h : unhexErr l = 2) : unhexVal l = 0 := if_neg (by omega)
set_option maxRecDepth 100000 in
set_option maxHeartbeats 2000000 in
theorem unhex_any (s : ByteArray) (hs : s.size ≤ 9223372036854775807) (w : World) :
    Calls Tryd.prog 24 #[.string s] w (Gives (.tuple #[.int .u64 (unhexVal s.data.toList : Nat), .int .i64 (unhexErr s.data.toList : Nat)]) w) := by
  have hl := size_list s
  by_cases h16 : s.size = 16
  · have hne : ((s.size : Int) != 16) = false := bne_eq_false_iff_eq.2 (by omega)
    have hz : s.size ≤ 16 := by omega
    have H16 := Lib.hid h16
    have BAD : Hid (unhexErr s.data.toList = 2 → ∀ pos, Gives (.tuple #[.int .u64 (unhexVal s.data.toList : Nat), .int .i64 (unhexErr s.data.toList : Nat)]) w (.returned (.tuple #[.int .u64 0, .int .i64 2])) (w.iter s pos)) := Lib.hid fun h pos => by
      rw [unhexVal_bad _ h, h]
      exact ⟨rfl, (Below.refl _ _).alloc (Nat.le_refl _) _⟩
    clear hl h16
    go_enter Tryd.func24, Tryd.ntmps24
    go_wp2
    go_loopw [4] (fun v wr => ∃ k : Nat, k ≤ s.size ∧ wr = w.iter s k ∧ v = .int .u64 (hexVal (s.data.toList.take k) : Nat) ∧ Hid ((s.data.toList.take k).all isHex = true)) (fun _ w' => s.size - w'.iterPos w.heap.size)
    case atStart => exact ⟨0, by omega, rfl, rfl, Lib.hid rfl⟩
    case round =>
      obtain ⟨k, hk, rfl, rfl, ha⟩ := hrel
      by_cases hlt : k < s.size
      · by_cases hc : isHex s[k] = true
        · have hnx : ∀ ty, (Instr.next (.pointer (some ⟨w.heap.size, 0, none⟩)) true ty).run Tryd.prog (w.iter s k) = .ok (.tuple #[.bool true, .int .i64 k, .int .i32 s[k].toNat]) (w.iter s (k + 1)) := fun ty => by
            have := run_next_any (P := Tryd.prog) w s k ty hlt
            rw [decode_ascii s k hlt (hex_ascii _ hc)] at this
            exact this
          have D := Lib.hid (fun w' => digit_yes s[k] hc w')
          have R := Lib.hid (all_take s k hlt ha.out hc)
          have hy : hexVal (s.data.toList.take k) < 1152921504606846976 := by
            have h1 := hexVal_lt _ ha.out
            have h2 : (16 : Nat) ^ (s.data.toList.take k).length ≤ 16 ^ 15 := Nat.pow_le_pow_right (by decide) (by rw [List.length_take]; omega)
            exact Nat.lt_of_lt_of_le h1 h2
          have hv := (hexD_V s[k] hc).2
          have ho := or_digit _ _ hy hv
          have V : Hid (hexVal (s.data.toList.take k) * 16 + hexV s[k] = hexVal (s.data.toList.take (k + 1))) := Lib.hid (by rw [take_snoc' s k hlt, hexVal_snoc])
          clear ha hc
          generalize hexVal (s.data.toList.take k) = y at *
          generalize hexV s[k] = d at *
          go_wp2_with fail
          refine (D.out _).mono ?_
          rintro e w' ⟨rfl, rfl⟩
          go_wp2
          go_roundw
          case rel => exact ⟨k + 1, by omega, rfl, by rw [← V.out]; go_num, R⟩
          case measure => simp; omega
        · have hcf : isHex s[k] = false := by simpa using hc
          have hnx : ∀ ty, (Instr.next (.pointer (some ⟨w.heap.size, 0, none⟩)) true ty).run Tryd.prog (w.iter s k) = _ := fun ty => run_next_any w s k ty hlt
          have D := Lib.hid (fun w' => digit_none _ (rune_none s k hlt hcf) (decode_le s k) w')
          have F := Lib.hid (fun pos => BAD.out (not_all s k hlt hcf) pos)
          clear ha hc hcf BAD
          generalize (Utf8.decode s k).1 = r at *
          generalize k + (Utf8.decode s k).2 = p at *
          go_wp2_with fail
          refine (D.out _).mono ?_
          rintro e w' ⟨rfl, rfl⟩
          go_wp2
          go_ret2
          exact F.out p
      · obtain rfl : k = s.size := by omega
        have hnx : ∀ ty, (Instr.next (.pointer (some ⟨w.heap.size, 0, none⟩)) true ty).run Tryd.prog (w.iter s s.size) = _ := fun ty => run_next_end w s s.size ty hlt
        have F : Hid (Gives (.tuple #[.int .u64 (unhexVal s.data.toList : Nat), .int .i64 (unhexErr s.data.toList : Nat)]) w (.returned (.tuple #[.int .u64 (hexVal (s.data.toList.take s.size) : Nat), .int .i64 0])) (w.iter s s.size)) := Lib.hid (by
          have a := ha.out
          have hl := size_list s
          rw [List.take_of_length_le (by omega)] at a ⊢
          have e : unhexErr s.data.toList = 0 := if_pos ⟨by rw [hl]; exact H16.out, a⟩
          have e2 : unhexVal s.data.toList = hexVal s.data.toList := if_pos e
          rw [e2, e]
          exact ⟨rfl, (Below.refl _ _).alloc (Nat.le_refl _) _⟩)
        clear ha BAD
        generalize hexVal (s.data.toList.take s.size) = y at *
        go_wp2
        go_ret2
        exact F.out
  · have hne : ((s.size : Int) != 16) = true := bne_iff_ne.2 (by omega)
    have e : unhexErr s.data.toList = 2 := if_neg fun h => h16 (by rw [← hl]; exact h.1)
    have e2 := unhexVal_bad _ e
    rw [e, e2]
    clear hl h16 e e2
    go_enter Tryd.func24, Tryd.ntmps24
    go_wp2
    go_ret2
    exact ⟨rfl, Below.refl _ _⟩
end Go.Proofs.YtohamhejmmangaaDoor
