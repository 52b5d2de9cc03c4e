/- Kinds of characters: no claim of their own. -/
import Derived.Test.YtooeafpcbejpdaaLBase
namespace Go.Proofs.Ytooeafpcbejpdaa
open Go.RowKit
/-- A call answers b and turns nothing. -/
def Says (b : Bool) (w : World) (e : Ending) (w' : World) : Prop := e = .returned (.bool b) ∧ w = w'
set_option maxRecDepth 100000 in
theorem isLetter_any (n : Nat) (w : World) : Calls Try.prog 37 #[.int .i32 n] w (Says (letterN n) w) := by
  have Y := Lib.hid (@letterN_yes n)
  have Z := Lib.hid (@letterN_no n)
  by_cases h1 : 97 ≤ n
  · by_cases h2 : n ≤ 122
    · have d2 : decide ((n : Int) ≤ 122) = true := decide_eq_true (by omega)
      have E := Lib.hid (Y.out.2 ⟨h1, h2⟩)
      clear Y Z
      go_enter Try.func37, Try.ntmps37
      go_wp2
      go_ret
      exact ⟨by rw [E.out]; rfl, rfl⟩
    · have d2 : decide ((n : Int) ≤ 122) = false := decide_eq_false (by omega)
      have E := Lib.hid (Z.out.2 (by omega))
      clear Y Z
      go_enter Try.func37, Try.ntmps37
      go_wp2
      go_ret
      exact ⟨by rw [E.out]; rfl, rfl⟩
  · have E := Lib.hid (Z.out.2 (by omega))
    clear Y Z
    go_enter Try.func37, Try.ntmps37
    go_wp2
    go_ret
    exact ⟨by rw [E.out]; rfl, rfl⟩
set_option maxRecDepth 100000 in
theorem isDigit_any (n : Nat) (w : World) : Calls Try.prog 42 #[.int .i32 n] w (Says (digitN n) w) := by
  have Y := Lib.hid (@digitN_yes n)
  have Z := Lib.hid (@digitN_no n)
  by_cases h1 : 48 ≤ n
  · by_cases h2 : n ≤ 57
    · have d2 : decide ((n : Int) ≤ 57) = true := decide_eq_true (by omega)
      have E := Lib.hid (Y.out.2 ⟨h1, h2⟩)
      clear Y Z
      go_enter Try.func42, Try.ntmps42
      go_wp2
      go_ret
      exact ⟨by rw [E.out]; rfl, rfl⟩
    · have d2 : decide ((n : Int) ≤ 57) = false := decide_eq_false (by omega)
      have E := Lib.hid (Z.out.2 (by omega))
      clear Y Z
      go_enter Try.func42, Try.ntmps42
      go_wp2
      go_ret
      exact ⟨by rw [E.out]; rfl, rfl⟩
  · have E := Lib.hid (Z.out.2 (by omega))
    clear Y Z
    go_enter Try.func42, Try.ntmps42
    go_wp2
    go_ret
    exact ⟨by rw [E.out]; rfl, rfl⟩
set_option maxRecDepth 100000 in
theorem letter_any (n : Nat) (w : World) : Calls Try.prog 34 #[.int .u8 n] w (Says (letterN n) w) := by
  have Y := Lib.hid (@letterN_yes n)
  have Z := Lib.hid (@letterN_no n)
  by_cases h1 : 97 ≤ n
  · by_cases h2 : n ≤ 122
    · have d2 : decide ((n : Int) ≤ 122) = true := decide_eq_true (by omega)
      have E := Lib.hid (Y.out.2 ⟨h1, h2⟩)
      clear Y Z
      go_enter Try.func34, Try.ntmps34
      go_wp2
      go_ret
      exact ⟨by rw [E.out]; rfl, rfl⟩
    · have d2 : decide ((n : Int) ≤ 122) = false := decide_eq_false (by omega)
      have E := Lib.hid (Z.out.2 (by omega))
      clear Y Z
      go_enter Try.func34, Try.ntmps34
      go_wp2
      go_ret
      exact ⟨by rw [E.out]; rfl, rfl⟩
  · have E := Lib.hid (Z.out.2 (by omega))
    clear Y Z
    go_enter Try.func34, Try.ntmps34
    go_wp2
    go_ret
    exact ⟨by rw [E.out]; rfl, rfl⟩
set_option maxRecDepth 100000 in
theorem digit_any (n : Nat) (w : World) : Calls Try.prog 40 #[.int .u8 n] w (Says (digitN n) w) := by
  have Y := Lib.hid (@digitN_yes n)
  have Z := Lib.hid (@digitN_no n)
  by_cases h1 : 48 ≤ n
  · by_cases h2 : n ≤ 57
    · have d2 : decide ((n : Int) ≤ 57) = true := decide_eq_true (by omega)
      have E := Lib.hid (Y.out.2 ⟨h1, h2⟩)
      clear Y Z
      go_enter Try.func40, Try.ntmps40
      go_wp2
      go_ret
      exact ⟨by rw [E.out]; rfl, rfl⟩
    · have d2 : decide ((n : Int) ≤ 57) = false := decide_eq_false (by omega)
      have E := Lib.hid (Z.out.2 (by omega))
      clear Y Z
      go_enter Try.func40, Try.ntmps40
      go_wp2
      go_ret
      exact ⟨by rw [E.out]; rfl, rfl⟩
  · have E := Lib.hid (Z.out.2 (by omega))
    clear Y Z
    go_enter Try.func40, Try.ntmps40
    go_wp2
    go_ret
    exact ⟨by rw [E.out]; rfl, rfl⟩
set_option maxRecDepth 100000 in
theorem isWordPart_any (n : Nat) (w : World) : Calls Try.prog 39 #[.int .i32 n] w (Says (partN n) w) := by
  have L := Lib.hid (fun w' => isLetter_any n w')
  have D := Lib.hid (fun w' => isDigit_any n w')
  obtain ⟨a, ha⟩ : ∃ a, letterN n = a := ⟨_, rfl⟩
  obtain ⟨b, hb⟩ : ∃ b, digitN n = b := ⟨_, rfl⟩
  have E : Hid (partN n = (a || (b || decide (n = 95)))) := Lib.hid (by rw [← ha, ← hb]; rfl)
  rw [ha] at L
  rw [hb] at D
  clear ha hb
  by_cases h9 : n = 95
  · have E2 : Hid (decide (n = 95) = true) := Lib.hid (decide_eq_true h9)
    have h9' : ((n : Int) == 95) = true := by simpa using (by omega : (n : Int) = 95)
    clear h9
    cases a <;> cases b
    all_goals
      go_enter Try.func39, Try.ntmps39
      go_wp2_with (first | (go_at_call 37; refine (L.out _).mono ?_; rintro e w' ⟨rfl, rfl⟩) | (go_at_call 42; refine (D.out _).mono ?_; rintro e w' ⟨rfl, rfl⟩))
      go_ret
      exact ⟨by rw [E.out, E2.out]; rfl, rfl⟩
  · have E2 : Hid (decide (n = 95) = false) := Lib.hid (decide_eq_false h9)
    have h9' : ((n : Int) == 95) = false := by simpa using (by omega : (n : Int) ≠ 95)
    clear h9
    cases a <;> cases b
    all_goals
      go_enter Try.func39, Try.ntmps39
      go_wp2_with (first | (go_at_call 37; refine (L.out _).mono ?_; rintro e w' ⟨rfl, rfl⟩) | (go_at_call 42; refine (D.out _).mono ?_; rintro e w' ⟨rfl, rfl⟩))
      go_ret
      exact ⟨by rw [E.out, E2.out]; rfl, rfl⟩
end Go.Proofs.Ytooeafpcbejpdaa
