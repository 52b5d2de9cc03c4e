/- The longest beginning: no claim of its own. -/
import Derived.Test.YtooeafpcbejpdaaLChar
import Derived.Laws.RangeAny
import Derived.Shelf.Abstract
namespace Go.Proofs.Ytooeafpcbejpdaa
open Go.RowKit
/-- The first byte that does not belong: the rune that begins there does not belong either. -/
theorem rune_out {B : Nat → Bool} (hB : ∀ n, B n = true → n < 128) (s : ByteArray) (k : Nat) (hk : k < s.size) (h : B (s[k]).toNat = false) : B (Utf8.decode s k).1 = false := by
  rcases Nat.lt_or_ge s[k].toNat 128 with ha | ha
  · rw [decode_ascii s k hk ha]; exact h
  · have := (decode_high s k hk ha).1
    cases e : B (Utf8.decode s k).1 with
    | false => rfl
    | true => have := hB _ e; omega
set_option maxRecDepth 100000 in
set_option maxHeartbeats 1000000 in
theorem prefix_any (F : FuncId) (B : Nat → Bool) (hB : ∀ n, B n = true → n < 128) (eg : ∀ args w, (callFunc F args).run Try.prog w = .ok (.enter F args) w) (hF : ∀ (n : Nat) (w : World), Calls Try.prog F #[.int .i32 n] w (Says (B n) w)) (s : ByteArray) (hs : s.size ≤ 9223372036854775807) (w : World) :
    Calls Try.prog 38 #[.string s, .func (.func F) #[] #[]] w (Gives (.string (str (fits B s.data.toList))) w) := by
  have HB := Lib.hid hB
  have HF := Lib.hid hF
  have G : Hid (∀ v pos, v = .string (str (fits B s.data.toList)) → Gives (.string (str (fits B s.data.toList))) w (.returned v) (w.iter s pos)) := Lib.hid fun v pos h => by
    subst h; exact ⟨rfl, below_new _ _⟩
  clear hB hF
  go_enter Try.func38, Try.ntmps38
  go_wp2
  go_loopw [5] (fun _ wr => ∃ k : Nat, k ≤ s.size ∧ wr = w.iter s k ∧ Hid (k ≤ (fits B s.data.toList).length)) (fun _ w' => s.size - w'.iterPos w.heap.size)
  case atStart => exact ⟨0, by omega, rfl, Lib.hid (Nat.zero_le _)⟩
  case round =>
    obtain ⟨k, hk, rfl, hi⟩ := hrel
    by_cases hlt : k < s.size
    · obtain ⟨b, hb⟩ : ∃ b, B (s[k]).toNat = b := ⟨_, rfl⟩
      cases b with
      | true =>
        have hnx : ∀ ty, (Instr.next (.pointer (some ⟨w.heap.size, 0, none⟩)) true ty).run Try.prog (w.iter s k) = .ok (.tuple #[.bool true, .int .i64 k, .int .i32 s[k].toNat]) (w.iter s (k + 1)) := fun ty => by
          have := run_next_any (P := Try.prog) w s k ty hlt
          rw [decode_ascii s k hlt (HB.out _ hb)] at this
          exact this
        have D : Hid (∀ w', Calls Try.prog F #[.int .i32 s[k].toNat] w' (Says true w')) := Lib.hid (fun w' => by have := HF.out s[k].toNat w'; rw [hb] at this; exact this)
        have I : Hid (k + 1 ≤ (fits B s.data.toList).length) := Lib.hid (by
          have := hi.out
          rcases Nat.lt_or_ge k (fits B s.data.toList).length with h | h
          · exact h
          · obtain ⟨c, h1, h2⟩ := fits_end B s.data.toList (by rw [size_list]; omega)
            have e : (fits B s.data.toList).length = k := by omega
            rw [e, at_list s k hlt] at h1
            injection h1 with h1
            rw [← h1, hb] at h2; cases h2)
        clear hi hb
        generalize s[k].toNat = r at *
        go_wp2_with fail
        refine (D.out _).mono ?_
        rintro e w' ⟨rfl, rfl⟩
        go_wp2
        go_roundw
        case rel => exact ⟨k + 1, by omega, rfl, I⟩
        case measure => simp; omega
      | false =>
        have hnx : ∀ ty, (Instr.next (.pointer (some ⟨w.heap.size, 0, none⟩)) true ty).run Try.prog (w.iter s k) = _ := fun ty => run_next_any w s k ty hlt
        have ho := rune_out HB.out s k hlt hb
        have D : Hid (∀ w', Calls Try.prog F #[.int .i32 (Utf8.decode s k).1] w' (Says false w')) := Lib.hid (fun w' => by have := HF.out (Utf8.decode s k).1 w'; rw [ho] at this; exact this)
        have E : Hid (Value.string (s.extract 0 k) = .string (str (fits B s.data.toList))) := Lib.hid (by
          have e : (fits B s.data.toList).length = k := fits_eq hi.out fun _ => ⟨s[k], at_list s k hlt, hb⟩
          rw [str_take, ← fits_take B, e])
        clear hi hb ho
        generalize (Utf8.decode s k).1 = r at *
        generalize k + (Utf8.decode s k).2 = p at *
        go_wp2_with fail
        refine (D.out _).mono ?_
        rintro e w' ⟨rfl, rfl⟩
        go_wp2
        go_ret
        exact G.out _ _ E.out
    · obtain rfl : k = s.size := by omega
      have hnx : ∀ ty, (Instr.next (.pointer (some ⟨w.heap.size, 0, none⟩)) true ty).run Try.prog (w.iter s s.size) = _ := fun ty => run_next_end w s s.size ty hlt
      have E : Hid (Value.string s = .string (str (fits B s.data.toList))) := Lib.hid (by
        have h1 := fits_le B s.data.toList
        have h2 := hi.out
        rw [size_list] at h1
        have h3 := fits_take B s.data.toList
        rw [List.take_of_length_le (by rw [size_list]; exact h2)] at h3
        rw [← h3, str_self])
      clear hi
      go_wp2
      go_ret
      exact G.out _ _ E.out
theorem prefix_part (s : ByteArray) (hs : s.size ≤ 9223372036854775807) (w : World) :
    Calls Try.prog 38 #[.string s, .func (.func 39) #[] #[]] w (Gives (.string (str (fits partN s.data.toList))) w) :=
  prefix_any 39 partN (fun _ => partN_lt) (enters_of Try.func39 (by kernel_rfl) rfl) isWordPart_any s hs w
theorem prefix_digit (s : ByteArray) (hs : s.size ≤ 9223372036854775807) (w : World) :
    Calls Try.prog 38 #[.string s, .func (.func 42) #[] #[]] w (Gives (.string (str (fits digitN s.data.toList))) w) :=
  prefix_any 42 digitN (fun _ => digitN_lt) (enters_of Try.func42 (by kernel_rfl) rfl) isDigit_any s hs w
end Go.Proofs.Ytooeafpcbejpdaa
