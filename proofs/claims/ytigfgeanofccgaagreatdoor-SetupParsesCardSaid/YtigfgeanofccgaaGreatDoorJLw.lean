/- LChar, LPre, LNum, LMark, LFirst, LOne, LName, joined: no claim of its own. -/
import Derived.Test.YtigfgeanofccgaaGreatDoorLBase
import Derived.Laws.RangeAny
import Derived.Shelf.Abstract
namespace Go.Proofs.YtigfgeanofccgaaGreatDoor
open Go.RowKit
/-- A call answers b and turns nothing. -/
def Says (b : Bool) (w : World) (e : Ending) (w' : World) : Prop := e = .returned (.bool b) ∧ w = w'
set_option maxRecDepth 100000 in
theorem isLetter_any (n : Nat) (w : World) : Calls Tryz.prog 112 #[.int .i32 n] w (Says (letterN n) w) := by
  have Y := Lib.hid (@letterN_yes n)
  have Z := Lib.hid (@letterN_no n)
  by_cases h1 : 97 ≤ n
  · by_cases h2 : n ≤ 122
    · have d2 : decide ((n : Int) ≤ 122) = true := decide_eq_true (by omega)
      have E := Lib.hid (Y.out.2 ⟨h1, h2⟩)
      clear Y Z
      go_enter Tryz.func112, Tryz.ntmps112
      go_wp2
      go_ret
      exact ⟨by rw [E.out]; rfl, rfl⟩
    · have d2 : decide ((n : Int) ≤ 122) = false := decide_eq_false (by omega)
      have E := Lib.hid (Z.out.2 (by omega))
      clear Y Z
      go_enter Tryz.func112, Tryz.ntmps112
      go_wp2
      go_ret
      exact ⟨by rw [E.out]; rfl, rfl⟩
  · have E := Lib.hid (Z.out.2 (by omega))
    clear Y Z
    go_enter Tryz.func112, Tryz.ntmps112
    go_wp2
    go_ret
    exact ⟨by rw [E.out]; rfl, rfl⟩
set_option maxRecDepth 100000 in
theorem isDigit_any (n : Nat) (w : World) : Calls Tryz.prog 124 #[.int .i32 n] w (Says (digitN n) w) := by
  have Y := Lib.hid (@digitN_yes n)
  have Z := Lib.hid (@digitN_no n)
  by_cases h1 : 48 ≤ n
  · by_cases h2 : n ≤ 57
    · have d2 : decide ((n : Int) ≤ 57) = true := decide_eq_true (by omega)
      have E := Lib.hid (Y.out.2 ⟨h1, h2⟩)
      clear Y Z
      go_enter Tryz.func124, Tryz.ntmps124
      go_wp2
      go_ret
      exact ⟨by rw [E.out]; rfl, rfl⟩
    · have d2 : decide ((n : Int) ≤ 57) = false := decide_eq_false (by omega)
      have E := Lib.hid (Z.out.2 (by omega))
      clear Y Z
      go_enter Tryz.func124, Tryz.ntmps124
      go_wp2
      go_ret
      exact ⟨by rw [E.out]; rfl, rfl⟩
  · have E := Lib.hid (Z.out.2 (by omega))
    clear Y Z
    go_enter Tryz.func124, Tryz.ntmps124
    go_wp2
    go_ret
    exact ⟨by rw [E.out]; rfl, rfl⟩
set_option maxRecDepth 100000 in
theorem letter_any (n : Nat) (w : World) : Calls Tryz.prog 84 #[.int .u8 n] w (Says (letterN n) w) := by
  have Y := Lib.hid (@letterN_yes n)
  have Z := Lib.hid (@letterN_no n)
  by_cases h1 : 97 ≤ n
  · by_cases h2 : n ≤ 122
    · have d2 : decide ((n : Int) ≤ 122) = true := decide_eq_true (by omega)
      have E := Lib.hid (Y.out.2 ⟨h1, h2⟩)
      clear Y Z
      go_enter Tryz.func84, Tryz.ntmps84
      go_wp2
      go_ret
      exact ⟨by rw [E.out]; rfl, rfl⟩
    · have d2 : decide ((n : Int) ≤ 122) = false := decide_eq_false (by omega)
      have E := Lib.hid (Z.out.2 (by omega))
      clear Y Z
      go_enter Tryz.func84, Tryz.ntmps84
      go_wp2
      go_ret
      exact ⟨by rw [E.out]; rfl, rfl⟩
  · have E := Lib.hid (Z.out.2 (by omega))
    clear Y Z
    go_enter Tryz.func84, Tryz.ntmps84
    go_wp2
    go_ret
    exact ⟨by rw [E.out]; rfl, rfl⟩
set_option maxRecDepth 100000 in
theorem digit_any (n : Nat) (w : World) : Calls Tryz.prog 108 #[.int .u8 n] w (Says (digitN n) w) := by
  have Y := Lib.hid (@digitN_yes n)
  have Z := Lib.hid (@digitN_no n)
  by_cases h1 : 48 ≤ n
  · by_cases h2 : n ≤ 57
    · have d2 : decide ((n : Int) ≤ 57) = true := decide_eq_true (by omega)
      have E := Lib.hid (Y.out.2 ⟨h1, h2⟩)
      clear Y Z
      go_enter Tryz.func108, Tryz.ntmps108
      go_wp2
      go_ret
      exact ⟨by rw [E.out]; rfl, rfl⟩
    · have d2 : decide ((n : Int) ≤ 57) = false := decide_eq_false (by omega)
      have E := Lib.hid (Z.out.2 (by omega))
      clear Y Z
      go_enter Tryz.func108, Tryz.ntmps108
      go_wp2
      go_ret
      exact ⟨by rw [E.out]; rfl, rfl⟩
  · have E := Lib.hid (Z.out.2 (by omega))
    clear Y Z
    go_enter Tryz.func108, Tryz.ntmps108
    go_wp2
    go_ret
    exact ⟨by rw [E.out]; rfl, rfl⟩
set_option maxRecDepth 100000 in
theorem isWordPart_any (n : Nat) (w : World) : Calls Tryz.prog 114 #[.int .i32 n] w (Says (partN n) w) := by
  have L := Lib.hid (fun w' => isLetter_any n w')
  have D := Lib.hid (fun w' => isDigit_any n w')
  obtain ⟨a, ha⟩ : ∃ a, letterN n = a := ⟨_, rfl⟩
  obtain ⟨b, hb⟩ : ∃ b, digitN n = b := ⟨_, rfl⟩
  have E : Hid (partN n = (a || (b || decide (n = 95)))) := Lib.hid (by rw [← ha, ← hb]; rfl)
  rw [ha] at L
  rw [hb] at D
  clear ha hb
  by_cases h9 : n = 95
  · have E2 : Hid (decide (n = 95) = true) := Lib.hid (decide_eq_true h9)
    have h9' : ((n : Int) == 95) = true := by simpa using (by omega : (n : Int) = 95)
    clear h9
    cases a <;> cases b
    all_goals
      go_enter Tryz.func114, Tryz.ntmps114
      go_wp2_with (first | (go_at_call 112; refine (L.out _).mono ?_; rintro e w' ⟨rfl, rfl⟩) | (go_at_call 124; refine (D.out _).mono ?_; rintro e w' ⟨rfl, rfl⟩))
      go_ret
      exact ⟨by rw [E.out, E2.out]; rfl, rfl⟩
  · have E2 : Hid (decide (n = 95) = false) := Lib.hid (decide_eq_false h9)
    have h9' : ((n : Int) == 95) = false := by simpa using (by omega : (n : Int) ≠ 95)
    clear h9
    cases a <;> cases b
    all_goals
      go_enter Tryz.func114, Tryz.ntmps114
      go_wp2_with (first | (go_at_call 112; refine (L.out _).mono ?_; rintro e w' ⟨rfl, rfl⟩) | (go_at_call 124; refine (D.out _).mono ?_; rintro e w' ⟨rfl, rfl⟩))
      go_ret
      exact ⟨by rw [E.out, E2.out]; rfl, rfl⟩
end Go.Proofs.YtigfgeanofccgaaGreatDoor
namespace Go.Proofs.YtigfgeanofccgaaGreatDoor
open Go.RowKit
/-- The first byte that does not belong: the rune that begins there does not belong either. -/
theorem rune_out {B : Nat → Bool} (hB : ∀ n, B n = true → n < 128) (s : ByteArray) (k : Nat) (hk : k < s.size) (h : B (s[k]).toNat = false) : B (Utf8.decode s k).1 = false := by
  rcases Nat.lt_or_ge s[k].toNat 128 with ha | ha
  · rw [decode_ascii s k hk ha]; exact h
  · have := (decode_high s k hk ha).1
    cases e : B (Utf8.decode s k).1 with
    | false => rfl
    | true => have := hB _ e; omega
set_option maxRecDepth 100000 in
set_option maxHeartbeats 1000000 in
theorem prefix_any (F : FuncId) (B : Nat → Bool) (hB : ∀ n, B n = true → n < 128) (eg : ∀ args w, (callFunc F args).run Tryz.prog w = .ok (.enter F args) w) (hF : ∀ (n : Nat) (w : World), Calls Tryz.prog F #[.int .i32 n] w (Says (B n) w)) (s : ByteArray) (hs : s.size ≤ 9223372036854775807) (w : World) :
    Calls Tryz.prog 113 #[.string s, .func (.func F) #[] #[]] w (Gives (.string (str (fits B s.data.toList))) w) := by
  have HB := Lib.hid hB
  have HF := Lib.hid hF
  have G : Hid (∀ v pos, v = .string (str (fits B s.data.toList)) → Gives (.string (str (fits B s.data.toList))) w (.returned v) (w.iter s pos)) := Lib.hid fun v pos h => by
    subst h; exact ⟨rfl, below_new _ _⟩
  clear hB hF
  go_enter Tryz.func113, Tryz.ntmps113
  go_wp2
  go_loopw [5] (fun _ wr => ∃ k : Nat, k ≤ s.size ∧ wr = w.iter s k ∧ Hid (k ≤ (fits B s.data.toList).length)) (fun _ w' => s.size - w'.iterPos w.heap.size)
  case atStart => exact ⟨0, by omega, rfl, Lib.hid (Nat.zero_le _)⟩
  case round =>
    obtain ⟨k, hk, rfl, hi⟩ := hrel
    by_cases hlt : k < s.size
    · obtain ⟨b, hb⟩ : ∃ b, B (s[k]).toNat = b := ⟨_, rfl⟩
      cases b with
      | true =>
        have hnx : ∀ ty, (Instr.next (.pointer (some ⟨w.heap.size, 0, none⟩)) true ty).run Tryz.prog (w.iter s k) = .ok (.tuple #[.bool true, .int .i64 k, .int .i32 s[k].toNat]) (w.iter s (k + 1)) := fun ty => by
          have := run_next_any (P := Tryz.prog) w s k ty hlt
          rw [decode_ascii s k hlt (HB.out _ hb)] at this
          exact this
        have D : Hid (∀ w', Calls Tryz.prog F #[.int .i32 s[k].toNat] w' (Says true w')) := Lib.hid (fun w' => by have := HF.out s[k].toNat w'; rw [hb] at this; exact this)
        have I : Hid (k + 1 ≤ (fits B s.data.toList).length) := Lib.hid (by
          have := hi.out
          rcases Nat.lt_or_ge k (fits B s.data.toList).length with h | h
          · exact h
          · obtain ⟨c, h1, h2⟩ := fits_end B s.data.toList (by rw [size_list]; omega)
            have e : (fits B s.data.toList).length = k := by omega
            rw [e, at_list s k hlt] at h1
            injection h1 with h1
            rw [← h1, hb] at h2; cases h2)
        clear hi hb
        generalize s[k].toNat = r at *
        go_wp2_with fail
        refine (D.out _).mono ?_
        rintro e w' ⟨rfl, rfl⟩
        go_wp2
        go_roundw
        case rel => exact ⟨k + 1, by omega, rfl, I⟩
        case measure => simp; omega
      | false =>
        have hnx : ∀ ty, (Instr.next (.pointer (some ⟨w.heap.size, 0, none⟩)) true ty).run Tryz.prog (w.iter s k) = _ := fun ty => run_next_any w s k ty hlt
        have ho := rune_out HB.out s k hlt hb
        have D : Hid (∀ w', Calls Tryz.prog F #[.int .i32 (Utf8.decode s k).1] w' (Says false w')) := Lib.hid (fun w' => by have := HF.out (Utf8.decode s k).1 w'; rw [ho] at this; exact this)
        have E : Hid (Value.string (s.extract 0 k) = .string (str (fits B s.data.toList))) := Lib.hid (by
          have e : (fits B s.data.toList).length = k := fits_eq hi.out fun _ => ⟨s[k], at_list s k hlt, hb⟩
          rw [str_take, ← fits_take B, e])
        clear hi hb ho
        generalize (Utf8.decode s k).1 = r at *
        generalize k + (Utf8.decode s k).2 = p at *
        go_wp2_with fail
        refine (D.out _).mono ?_
        rintro e w' ⟨rfl, rfl⟩
        go_wp2
        go_ret
        exact G.out _ _ E.out
    · obtain rfl : k = s.size := by omega
      have hnx : ∀ ty, (Instr.next (.pointer (some ⟨w.heap.size, 0, none⟩)) true ty).run Tryz.prog (w.iter s s.size) = _ := fun ty => run_next_end w s s.size ty hlt
      have E : Hid (Value.string s = .string (str (fits B s.data.toList))) := Lib.hid (by
        have h1 := fits_le B s.data.toList
        have h2 := hi.out
        rw [size_list] at h1
        have h3 := fits_take B s.data.toList
        rw [List.take_of_length_le (by rw [size_list]; exact h2)] at h3
        rw [← h3, str_self])
      clear hi
      go_wp2
      go_ret
      exact G.out _ _ E.out
theorem prefix_part (s : ByteArray) (hs : s.size ≤ 9223372036854775807) (w : World) :
    Calls Tryz.prog 113 #[.string s, .func (.func 114) #[] #[]] w (Gives (.string (str (fits partN s.data.toList))) w) :=
  prefix_any 114 partN (fun _ => partN_lt) (enters_of Tryz.func114 (by kernel_rfl) rfl) isWordPart_any s hs w
theorem prefix_digit (s : ByteArray) (hs : s.size ≤ 9223372036854775807) (w : World) :
    Calls Tryz.prog 113 #[.string s, .func (.func 124) #[] #[]] w (Gives (.string (str (fits digitN s.data.toList))) w) :=
  prefix_any 124 digitN (fun _ => digitN_lt) (enters_of Tryz.func124 (by kernel_rfl) rfl) isDigit_any s hs w
end Go.Proofs.YtigfgeanofccgaaGreatDoor
namespace Go.Proofs.YtigfgeanofccgaaGreatDoor
open Go.RowKit
/-- What number answers. -/
def numT (l : List UInt8) : Tk × Int :=
  if (l.head?.map UInt8.toNat = some 48) ∧ 1 < l.length then (.zero, 2)
  else if 9 < l.length then (.zero, 4)
  else (⟨2, l, (numV l : Nat), 0⟩, 0)
end Go.Proofs.YtigfgeanofccgaaGreatDoor
namespace Go.Proofs.YtigfgeanofccgaaGreatDoor
open Go.RowKit
def marksB : ByteArray := ⟨#[123, 125, 40, 41, 58, 44, 64, 43, 45, 61]⟩
theorem marksB_size : marksB.size = 10 := rfl
theorem marks_at (k : Nat) (h : k < marksB.size) : markN (marksB[k]).toNat = true := by
  have : k < 10 := h
  match k, this with
  | 0, _ => rfl
  | 1, _ => rfl
  | 2, _ => rfl
  | 3, _ => rfl
  | 4, _ => rfl
  | 5, _ => rfl
  | 6, _ => rfl
  | 7, _ => rfl
  | 8, _ => rfl
  | 9, _ => rfl
theorem marks_all (n : Nat) (h : ∀ k (hk : k < marksB.size), (marksB[k]).toNat ≠ n) : markN n = false := by
  cases e : markN n with
  | false => rfl
  | true =>
    exfalso
    rcases markN_yes.1 e with rfl | rfl | rfl | rfl | rfl | rfl | rfl | rfl | rfl | rfl
    · exact h 0 (by decide) rfl
    · exact h 1 (by decide) rfl
    · exact h 2 (by decide) rfl
    · exact h 3 (by decide) rfl
    · exact h 4 (by decide) rfl
    · exact h 5 (by decide) rfl
    · exact h 6 (by decide) rfl
    · exact h 7 (by decide) rfl
    · exact h 8 (by decide) rfl
    · exact h 9 (by decide) rfl
set_option maxRecDepth 100000 in
set_option maxHeartbeats 1000000 in
theorem mark_any (n : Nat) (w : World) : Calls Tryz.prog 109 #[.int .u8 n] w (Says (markN n) w) := by
  obtain ⟨m, hm⟩ : ∃ m, m = marksB := ⟨_, rfl⟩
  have ALL : Hid ((∀ k (hk : k < m.size), (m[k]).toNat ≠ n) → markN n = false) := Lib.hid (by rw [hm]; exact marks_all n)
  have AT : Hid (∀ k (h : k < m.size), markN (m[k]).toNat = true) := Lib.hid (by rw [hm]; exact marks_at)
  have hsz : m.size ≤ 10 := by rw [hm]; exact Nat.le_of_eq marksB_size
  have HM := Lib.hid hm
  clear hm
  go_enter Tryz.func109, Tryz.ntmps109
  go_wp2
  rw [show (⟨#[123, 125, 40, 41, 58, 44, 64, 43, 45, 61]⟩ : ByteArray) = m from HM.out.symm]
  clear HM
  go_loop [4] (fun i => ∃ k : Nat, k ≤ m.size ∧ i = .int .i64 k ∧ Hid (∀ j (hj : j < m.size), j < k → (m[j]).toNat ≠ n)) (fun i => m.size - (intOf i).toNat)
  case atStart => exact ⟨0, by omega, rfl, Lib.hid fun j hj h => by omega⟩
  case round =>
    obtain ⟨k, hk, rfl, hi⟩ := hrel
    by_cases hlt : k < m.size
    · by_cases he : (m[k]).toNat = n
      · have E : Hid (markN n = true) := Lib.hid (by rw [← he]; exact AT.out k hlt)
        have hb : (((m[k]).toNat : Int) == (n : Int)) = true := by rw [he]; simp
        clear ALL AT hi he
        go_wp2
        go_ret
        exact ⟨by rw [E.out]; rfl, rfl⟩
      · have hb : (((m[k]).toNat : Int) == (n : Int)) = false := beq_eq_false_iff_ne.2 (by omega)
        have I : Hid (∀ j (hj : j < m.size), j < k + 1 → (m[j]).toNat ≠ n) := Lib.hid fun j hj hlt' => by
          rcases Nat.lt_or_ge j k with h | h
          · exact hi.out j hj h
          · have : j = k := by omega
            subst this; exact he
        clear hi he
        go_wp2
        go_round
        case rel => exact ⟨k + 1, by omega, by go_num, I⟩
        case measure => simp [intOf]; omega
    · have E : Hid (markN n = false) := Lib.hid (ALL.out fun j hj => hi.out j hj (by omega))
      clear ALL AT hi
      go_wp2
      go_ret
      exact ⟨by rw [E.out]; rfl, rfl⟩
end Go.Proofs.YtigfgeanofccgaaGreatDoor
namespace Go.Proofs.YtigfgeanofccgaaGreatDoor
open Go.RowKit
theorem list_head (s : ByteArray) (h : 0 < s.size) : s.data.toList = s[0] :: s.data.toList.drop 1 := by
  have := List.drop_eq_getElem_cons (l := s.data.toList) (i := 0) (by rw [size_list]; exact h)
  rw [List.drop_zero] at this
  exact this
theorem one_letter (s : ByteArray) (h : 0 < s.size) (hl : letterN (s[0]).toNat = true) : oneT s.data.toList = if 12 < (fits partN s.data.toList).length then (.zero, 3) else (⟨1, fits partN s.data.toList, 0, 0⟩, 0) := by
  rw [list_head s h, oneT_cons, if_pos hl]
theorem one_digit (s : ByteArray) (h : 0 < s.size) (hl : letterN (s[0]).toNat = false) (hd : digitN (s[0]).toNat = true) : oneT s.data.toList = numT (fits digitN s.data.toList) := by
  rw [list_head s h, oneT_cons, if_neg (by rw [hl]; decide), if_pos hd, fits_cons hd]
  unfold numT
  simp only [List.head?_cons, Option.map_some, Option.some.injEq]
theorem one_mark (s : ByteArray) (h : 0 < s.size) (hl : letterN (s[0]).toNat = false) (hd : digitN (s[0]).toNat = false) (hm : markN (s[0]).toNat = true) : oneT s.data.toList = (⟨3, s.data.toList.take 1, 0, 0⟩, 0) := by
  rw [list_head s h, oneT_cons, if_neg (by rw [hl]; decide), if_neg (by rw [hd]; decide), if_pos hm]
  rfl
theorem one_none (s : ByteArray) (h : 0 < s.size) (hl : letterN (s[0]).toNat = false) (hd : digitN (s[0]).toNat = false) (hm : markN (s[0]).toNat = false) : oneT s.data.toList = (.zero, 2) := by
  rw [list_head s h, oneT_cons, if_neg (by rw [hl]; decide), if_neg (by rw [hd]; decide), if_neg (by rw [hm]; decide)]
theorem digits_all (l : List UInt8) (j : Nat) (hj : j < (str (fits digitN l)).size) : digitN ((str (fits digitN l))[j]).toNat = true := by
  obtain ⟨c, h1, h2⟩ := fits_in digitN l j (by rw [str_size] at hj; exact hj)
  have e := at_list (str (fits digitN l)) j hj
  have e' : (fits digitN l)[j]? = l[j]? := by
    conv => lhs; rw [← fits_take digitN l]
    exact List.getElem?_take_of_lt (by rw [str_size] at hj; exact hj)
  rw [str_data, e', h1] at e
  injection e with e
  rw [← e]; exact h2
end Go.Proofs.YtigfgeanofccgaaGreatDoor
namespace Go.Proofs.YtigfgeanofccgaaGreatDoor
open Go.RowKit
/-- Where the beginning goes on, and where it ends. -/
theorem fits_on {B : Nat → Bool} (s : ByteArray) {k : Nat} (hk : k < s.size) (h : k ≤ (fits B s.data.toList).length) (hb : B (s[k]).toNat = true) : k + 1 ≤ (fits B s.data.toList).length := by
  rcases Nat.lt_or_ge k (fits B s.data.toList).length with g | g
  · exact g
  · obtain ⟨c, h1, h2⟩ := fits_end B s.data.toList (by rw [size_list]; omega)
    have e : (fits B s.data.toList).length = k := by omega
    rw [e, at_list s k hk] at h1
    injection h1 with h1
    rw [← h1, hb] at h2; cases h2
theorem fits_off {B : Nat → Bool} (s : ByteArray) {k : Nat} (hk : k < s.size) (h : k ≤ (fits B s.data.toList).length) (hb : B (s[k]).toNat = false) : (fits B s.data.toList).length = k :=
  fits_eq h fun _ => ⟨s[k], at_list s k hk, hb⟩
theorem fits_whole {B : Nat → Bool} (s : ByteArray) {k : Nat} (hk : s.size ≤ k) (h : k ≤ (fits B s.data.toList).length) : (fits B s.data.toList).length = k := by
  have := fits_le B s.data.toList
  rw [size_list] at this
  omega
theorem part_eq (n : Nat) : partN n = (letterN n || (digitN n || decide (n = 95))) := rfl
/-- The end of a word. -/
theorem word_end (s : ByteArray) (h0 : 0 < s.size) (hl : letterN (s[0]).toNat = true) (w : World) (o : Obj) {k : Nat} (hk : (fits partN s.data.toList).length = k) :
    (12 < k → GivesTk (oneT s.data.toList) w (.returned (.tuple #[.agg #[.int .i64 0, .string ⟨#[]⟩, .int .i64 0, .int .i64 0], .int .i64 3])) (w.alloc o)) ∧
    (¬ 12 < k → GivesTk (oneT s.data.toList) w (.returned (.tuple #[.agg #[.int .i64 1, .string (s.extract 0 k), .int .i64 0, .int .i64 0], .int .i64 0])) (w.alloc o)) := by
  rw [one_letter s h0 hl, hk]
  refine ⟨fun h => ?_, fun h => ?_⟩
  · rw [if_pos h]; exact ⟨rfl, below_new _ _⟩
  · rw [if_neg h, str_take, ← hk, fits_take]; exact ⟨rfl, below_new _ _⟩
/-- The end of a number. -/
theorem num_end (s : ByteArray) (h0 : 0 < s.size) (hl : letterN (s[0]).toNat = false) (hd : digitN (s[0]).toNat = true) (w : World) (o : Obj) {k : Nat} (hk : (fits digitN s.data.toList).length = k) :
    ((s[0]).toNat = 48 ∧ 1 < k → GivesTk (oneT s.data.toList) w (.returned (.tuple #[.agg #[.int .i64 0, .string ⟨#[]⟩, .int .i64 0, .int .i64 0], .int .i64 2])) (w.alloc o)) ∧
    (¬ ((s[0]).toNat = 48 ∧ 1 < k) → 9 < k → GivesTk (oneT s.data.toList) w (.returned (.tuple #[.agg #[.int .i64 0, .string ⟨#[]⟩, .int .i64 0, .int .i64 0], .int .i64 4])) (w.alloc o)) ∧
    (¬ ((s[0]).toNat = 48 ∧ 1 < k) → ¬ 9 < k → GivesTk (oneT s.data.toList) w (.returned (.tuple #[.agg #[.int .i64 2, .string (s.extract 0 k), .int .i64 (numV (s.data.toList.take k) : Nat), .int .i64 0], .int .i64 0])) (w.alloc o)) := by
  rw [list_head s h0, oneT_cons, if_neg (by rw [hl]; decide), if_pos hd, ← list_head s h0, hk]
  refine ⟨fun h => ?_, fun h h' => ?_, fun h h' => ?_⟩
  · rw [if_pos h]; exact ⟨rfl, below_new _ _⟩
  · rw [if_neg h, if_pos h']; exact ⟨rfl, below_new _ _⟩
  · rw [if_neg h, if_neg h', str_take, ← hk, fits_take]; exact ⟨rfl, below_new _ _⟩
set_option maxRecDepth 100000 in
set_option maxHeartbeats 4000000 in
theorem one_word (s : ByteArray) (h0 : 0 < s.size) (hs : s.size ≤ 9223372036854775807) (hl : letterN (s[0]).toNat = true) (w : World) :
    Calls Tryz.prog 85 #[.string s] w (GivesTk (oneT s.data.toList) w) := by
  have L0 : Hid (∀ w', Calls Tryz.prog 84 #[.int .u8 (s[0]).toNat] w' (Says true w')) := Lib.hid fun w' => by have := letter_any (s[0]).toNat w'; rw [hl] at this; exact this
  have G := Lib.hid (fun o k hk => @word_end s h0 hl w o k hk)
  have I0 : Hid (1 ≤ (fits partN s.data.toList).length) := Lib.hid (by rw [list_head s h0, fits_cons (part_of_letter hl)]; simp)
  clear hl
  go_enter Tryz.func85, Tryz.ntmps85
  go_wp2_with fail
  (with_reducible refine (L0.out _).mono ?_)
  rintro e w' ⟨rfl, rfl⟩
  clear L0
  go_wp2_with fail
  go_loop [4] (fun v => ∃ k : Nat, 1 ≤ k ∧ k ≤ s.size ∧ v = .int .i64 k ∧ Hid (k ≤ (fits partN s.data.toList).length)) (fun v => s.size - (intOf v).toNat)
  case atStart => exact ⟨1, by omega, by omega, rfl, I0⟩
  case round =>
    obtain ⟨k, hk1, hk, rfl, hi⟩ := hrel
    clear I0
    by_cases hlt : k < s.size
    · have L : Hid (∀ w', Calls Tryz.prog 84 #[.int .u8 (s[k]).toNat] w' (Says (letterN (s[k]).toNat) w')) := Lib.hid fun w' => letter_any (s[k]).toNat w'
      have D : Hid (∀ w', Calls Tryz.prog 108 #[.int .u8 (s[k]).toNat] w' (Says (digitN (s[k]).toNat) w')) := Lib.hid fun w' => digit_any (s[k]).toNat w'
      have P := Lib.hid (part_eq (s[k]).toNat)
      have ON := Lib.hid (@fits_on partN s k hlt hi.out)
      have OFF := Lib.hid (@fits_off partN s k hlt hi.out)
      clear hi
      cases hl : letterN (s[k]).toNat with
      | true =>
        rw [hl] at L P
        have I := Lib.hid (ON.out (by rw [P.out]; rfl))
        clear P ON OFF hl D
        go_wp2_with (go_at_call 84; (with_reducible refine (L.out _).mono ?_); rintro e w' ⟨rfl, rfl⟩)
        go_round
        case rel => exact ⟨k + 1, by omega, by omega, by go_num, I⟩
        case measure => simp [intOf]; omega
      | false =>
        rw [hl] at L P
        cases hd : digitN (s[k]).toNat with
        | true =>
          rw [hd] at D P
          have I := Lib.hid (ON.out (by rw [P.out]; rfl))
          clear P ON OFF hl hd
          go_wp2_with (first | (go_at_call 84; (with_reducible refine (L.out _).mono ?_); rintro e w' ⟨rfl, rfl⟩) | (go_at_call 108; (with_reducible refine (D.out _).mono ?_); rintro e w' ⟨rfl, rfl⟩))
          go_round
          case rel => exact ⟨k + 1, by omega, by omega, by go_num, I⟩
          case measure => simp [intOf]; omega
        | false =>
          rw [hd] at D P
          by_cases h95 : (s[k]).toNat = 95
          · have I := Lib.hid (ON.out (by rw [P.out, h95]; rfl))
            have hb : (((s[k]).toNat : Int) == 95) = true := by rw [h95]; rfl
            clear P ON OFF hl hd h95
            go_wp2_with (first | (go_at_call 84; (with_reducible refine (L.out _).mono ?_); rintro e w' ⟨rfl, rfl⟩) | (go_at_call 108; (with_reducible refine (D.out _).mono ?_); rintro e w' ⟨rfl, rfl⟩))
            go_round
            case rel => exact ⟨k + 1, by omega, by omega, by go_num, I⟩
            case measure => simp [intOf]; omega
          · have GG := Lib.hid (fun o => G.out o k (OFF.out (by rw [P.out, decide_eq_false h95]; rfl)))
            have hb : (((s[k]).toNat : Int) == 95) = false := beq_eq_false_iff_ne.2 (by omega)
            clear P ON OFF hl hd h95 G
            by_cases h12 : 12 < k
            · go_wp2_with (first | (go_at_call 84; (with_reducible refine (L.out _).mono ?_); rintro e w' ⟨rfl, rfl⟩) | (go_at_call 108; (with_reducible refine (D.out _).mono ?_); rintro e w' ⟨rfl, rfl⟩))
              exact bodyPost_ret (v := .tuple #[.agg #[.int .i64 0, .string ⟨#[]⟩, .int .i64 0, .int .i64 0], .int .i64 3]) (by simp [results, Tryz.results85, go_sem]) rfl ((GG.out _).1 h12)
            · go_wp2_with (first | (go_at_call 84; (with_reducible refine (L.out _).mono ?_); rintro e w' ⟨rfl, rfl⟩) | (go_at_call 108; (with_reducible refine (D.out _).mono ?_); rintro e w' ⟨rfl, rfl⟩))
              exact bodyPost_ret (v := .tuple #[.agg #[.int .i64 1, .string (s.extract 0 k), .int .i64 0, .int .i64 0], .int .i64 0]) (by simp [results, Tryz.results85, go_sem]) rfl ((GG.out _).2 h12)
    · have GG := Lib.hid (fun o => G.out o k (fits_whole s (by omega) hi.out))
      clear G hi
      by_cases h12 : 12 < k
      · go_wp2_with fail
        exact bodyPost_ret (v := .tuple #[.agg #[.int .i64 0, .string ⟨#[]⟩, .int .i64 0, .int .i64 0], .int .i64 3]) (by simp [results, Tryz.results85, go_sem]) rfl ((GG.out _).1 h12)
      · go_wp2_with fail
        exact bodyPost_ret (v := .tuple #[.agg #[.int .i64 1, .string (s.extract 0 k), .int .i64 0, .int .i64 0], .int .i64 0]) (by simp [results, Tryz.results85, go_sem]) rfl ((GG.out _).2 h12)
set_option maxRecDepth 100000 in
set_option maxHeartbeats 4000000 in
theorem one_num (s : ByteArray) (h0 : 0 < s.size) (hs : s.size ≤ 9223372036854775807) (hl : letterN (s[0]).toNat = false) (hd : digitN (s[0]).toNat = true) (w : World) :
    Calls Tryz.prog 85 #[.string s] w (GivesTk (oneT s.data.toList) w) := by
  have L0 : Hid (∀ w', Calls Tryz.prog 84 #[.int .u8 (s[0]).toNat] w' (Says false w')) := Lib.hid fun w' => by have := letter_any (s[0]).toNat w'; rw [hl] at this; exact this
  have D0 : Hid (∀ w', Calls Tryz.prog 108 #[.int .u8 (s[0]).toNat] w' (Says true w')) := Lib.hid fun w' => by have := digit_any (s[0]).toNat w'; rw [hd] at this; exact this
  have G := Lib.hid (fun o k hk => @num_end s h0 hl hd w o k hk)
  have I0 : Hid (1 ≤ (fits digitN s.data.toList).length) := Lib.hid (by rw [list_head s h0, fits_cons hd]; simp)
  have FI : Hid (∀ j, j < (fits digitN s.data.toList).length → ∀ hj : j < s.size, digitN (s[j]).toNat = true) := Lib.hid fun j h hj => by
    obtain ⟨c, e1, e2⟩ := fits_in digitN _ j h
    rw [at_list s j hj] at e1
    injection e1 with e1
    rw [e1]; exact e2
  clear hl hd
  go_enter Tryz.func85, Tryz.ntmps85
  go_wp2_with fail
  (with_reducible refine (L0.out _).mono ?_)
  rintro e w' ⟨rfl, rfl⟩
  go_wp2_with fail
  (with_reducible refine (D0.out _).mono ?_)
  rintro e w' ⟨rfl, rfl⟩
  clear L0 D0
  go_wp2_with fail
  go_loop [4] (fun v => ∃ k : Nat, 1 ≤ k ∧ k ≤ s.size ∧ v = .int .i64 k ∧ Hid (k ≤ (fits digitN s.data.toList).length)) (fun v => s.size - (intOf v).toNat)
  case atStart => exact ⟨1, by omega, by omega, rfl, I0⟩
  case round =>
    obtain ⟨k, hk1, hk, rfl, hi⟩ := hrel
    clear I0
    by_cases hlt : k < s.size
    · have D : Hid (∀ w', Calls Tryz.prog 108 #[.int .u8 (s[k]).toNat] w' (Says (digitN (s[k]).toNat) w')) := Lib.hid fun w' => digit_any (s[k]).toNat w'
      have ON := Lib.hid (@fits_on digitN s k hlt hi.out)
      have OFF := Lib.hid (@fits_off digitN s k hlt hi.out)
      have DG : Hid (∀ j, j < k → ∀ hj : j < s.size, digitN (s[j]).toNat = true) := Lib.hid fun j h hj => FI.out j (Nat.lt_of_lt_of_le h hi.out) hj
      clear hi FI
      cases hd : digitN (s[k]).toNat with
      | true =>
        rw [hd] at D
        have I := Lib.hid (ON.out hd)
        clear ON OFF hd DG
        go_wp2_with (go_at_call 108; (with_reducible refine (D.out _).mono ?_); rintro e w' ⟨rfl, rfl⟩)
        go_round
        case rel => exact ⟨k + 1, by omega, by omega, by go_num, I⟩
        case measure => simp [intOf]; omega
      | false =>
        rw [hd] at D
        have GG := Lib.hid (fun o => G.out o k (OFF.out hd))
        clear ON OFF hd G
        by_cases hz : (s[0]).toNat = 48 ∧ 1 < k
        · have hz1 := hz.2
          have hb : (((s[0]).toNat : Int) == 48) = true := by rw [hz.1]; rfl
          have E := Lib.hid (fun o => (GG.out o).1 hz)
          clear GG hz
          go_wp2_with (go_at_call 108; (with_reducible refine (D.out _).mono ?_); rintro e w' ⟨rfl, rfl⟩)
          exact bodyPost_ret (v := .tuple #[.agg #[.int .i64 0, .string ⟨#[]⟩, .int .i64 0, .int .i64 0], .int .i64 2]) (by simp [results, Tryz.results85, go_sem]) rfl (E.out _)
        · by_cases h9 : 9 < k
          · have E := Lib.hid (fun o => (GG.out o).2.1 hz h9)
            have hb : (((s[0]).toNat : Int) == 48) = false := beq_eq_false_iff_ne.2 (by omega)
            clear GG hz
            go_wp2_with (go_at_call 108; (with_reducible refine (D.out _).mono ?_); rintro e w' ⟨rfl, rfl⟩)
            exact bodyPost_ret (v := .tuple #[.agg #[.int .i64 0, .string ⟨#[]⟩, .int .i64 0, .int .i64 0], .int .i64 4]) (by simp [results, Tryz.results85, go_sem]) rfl (E.out _)
          · have E := Lib.hid (fun o => (GG.out o).2.2 hz h9)
            clear GG
            by_cases h1 : 1 < k
            all_goals
              first
                | (have hb : (((s[0]).toNat : Int) == 48) = false := beq_eq_false_iff_ne.2 (fun h => hz ⟨by omega, h1⟩); clear hz)
                | (clear hz)
              go_wp2_with (go_at_call 108; (with_reducible refine (D.out _).mono ?_); rintro e w' ⟨rfl, rfl⟩)
              go_loop [5, 6] (fun v i => ∃ j : Nat, j ≤ k ∧ i = .int .i64 j ∧ v = .int .i64 (numV (s.data.toList.take j) : Nat)) (fun _ i => k - (intOf i).toNat)
              case atStart => exact ⟨0, by omega, rfl, rfl⟩
              case round =>
                obtain ⟨j, hj, rfl, rfl⟩ := hrel
                by_cases hjk : j < k
                · have hjs : j < s.size := by omega
                  obtain ⟨d0, d1⟩ := digitN_yes.1 (DG.out j hjk hjs)
                  have hy : numV (s.data.toList.take j) < 25600000000 := by
                    have h1 := numV_lt (s.data.toList.take j)
                    have h2 : 256 * (10 : Nat) ^ (s.data.toList.take j).length ≤ 256 * 10 ^ 8 := Nat.mul_le_mul_left _ (Nat.pow_le_pow_right (by decide) (by rw [List.length_take]; omega))
                    exact Nat.lt_of_lt_of_le h1 h2
                  have V : Hid (numV (s.data.toList.take (j + 1)) = numV (s.data.toList.take j) * 10 + ((s[j]).toNat - 48)) := Lib.hid (by
                    rw [List.take_succ_eq_append_getElem (by rw [size_list]; exact hjs), numV_snoc]; rfl)
                  generalize numV (s.data.toList.take j) = y at *
                  go_wp2_with fail
                  go_round
                  case rel => exact ⟨j + 1, by omega, by go_num, by rw [V.out]; go_num⟩
                  case measure => simp [intOf]; omega
                · obtain rfl : j = k := by omega
                  generalize numV (s.data.toList.take j) = y at *
                  go_wp2_with fail
                  exact bodyPost_ret (v := .tuple #[.agg #[.int .i64 2, .string (s.extract 0 j), .int .i64 y, .int .i64 0], .int .i64 0]) (by simp [results, Tryz.results85, go_sem]) rfl (E.out _)
    · have GG := Lib.hid (fun o => G.out o k (fits_whole s (by omega) hi.out))
      have DG : Hid (∀ j, j < k → ∀ hj : j < s.size, digitN (s[j]).toNat = true) := Lib.hid fun j h hj => FI.out j (Nat.lt_of_lt_of_le h hi.out) hj
      clear G hi FI
      by_cases hz : (s[0]).toNat = 48 ∧ 1 < k
      · have hz1 := hz.2
        have hb : (((s[0]).toNat : Int) == 48) = true := by rw [hz.1]; rfl
        have E := Lib.hid (fun o => (GG.out o).1 hz)
        clear GG hz
        go_wp2_with fail
        exact bodyPost_ret (v := .tuple #[.agg #[.int .i64 0, .string ⟨#[]⟩, .int .i64 0, .int .i64 0], .int .i64 2]) (by simp [results, Tryz.results85, go_sem]) rfl (E.out _)
      · by_cases h9 : 9 < k
        · have E := Lib.hid (fun o => (GG.out o).2.1 hz h9)
          have hb : (((s[0]).toNat : Int) == 48) = false := beq_eq_false_iff_ne.2 (by omega)
          clear GG hz
          go_wp2_with fail
          exact bodyPost_ret (v := .tuple #[.agg #[.int .i64 0, .string ⟨#[]⟩, .int .i64 0, .int .i64 0], .int .i64 4]) (by simp [results, Tryz.results85, go_sem]) rfl (E.out _)
        · have E := Lib.hid (fun o => (GG.out o).2.2 hz h9)
          clear GG
          by_cases h1 : 1 < k
          all_goals
            first
              | (have hb : (((s[0]).toNat : Int) == 48) = false := beq_eq_false_iff_ne.2 (fun h => hz ⟨by omega, h1⟩); clear hz)
              | (clear hz)
            go_wp2_with fail
            go_loop [5, 6] (fun v i => ∃ j : Nat, j ≤ k ∧ i = .int .i64 j ∧ v = .int .i64 (numV (s.data.toList.take j) : Nat)) (fun _ i => k - (intOf i).toNat)
            case atStart => exact ⟨0, by omega, rfl, rfl⟩
            case round =>
              obtain ⟨j, hj, rfl, rfl⟩ := hrel
              by_cases hjk : j < k
              · have hjs : j < s.size := by omega
                obtain ⟨d0, d1⟩ := digitN_yes.1 (DG.out j hjk hjs)
                have hy : numV (s.data.toList.take j) < 25600000000 := by
                  have h1 := numV_lt (s.data.toList.take j)
                  have h2 : 256 * (10 : Nat) ^ (s.data.toList.take j).length ≤ 256 * 10 ^ 8 := Nat.mul_le_mul_left _ (Nat.pow_le_pow_right (by decide) (by rw [List.length_take]; omega))
                  exact Nat.lt_of_lt_of_le h1 h2
                have V : Hid (numV (s.data.toList.take (j + 1)) = numV (s.data.toList.take j) * 10 + ((s[j]).toNat - 48)) := Lib.hid (by
                  rw [List.take_succ_eq_append_getElem (by rw [size_list]; exact hjs), numV_snoc]; rfl)
                generalize numV (s.data.toList.take j) = y at *
                go_wp2_with fail
                go_round
                case rel => exact ⟨j + 1, by omega, by go_num, by rw [V.out]; go_num⟩
                case measure => simp [intOf]; omega
              · obtain rfl : j = k := by omega
                generalize numV (s.data.toList.take j) = y at *
                go_wp2_with fail
                exact bodyPost_ret (v := .tuple #[.agg #[.int .i64 2, .string (s.extract 0 j), .int .i64 y, .int .i64 0], .int .i64 0]) (by simp [results, Tryz.results85, go_sem]) rfl (E.out _)
set_option maxRecDepth 100000 in
set_option maxHeartbeats 4000000 in
theorem one_rest (s : ByteArray) (h0 : 0 < s.size) (hs : s.size ≤ 9223372036854775807) (hl : letterN (s[0]).toNat = false) (hd : digitN (s[0]).toNat = false) (w : World) :
    Calls Tryz.prog 85 #[.string s] w (GivesTk (oneT s.data.toList) w) := by
  have L0 : Hid (∀ w', Calls Tryz.prog 84 #[.int .u8 (s[0]).toNat] w' (Says false w')) := Lib.hid fun w' => by have := letter_any (s[0]).toNat w'; rw [hl] at this; exact this
  have D0 : Hid (∀ w', Calls Tryz.prog 108 #[.int .u8 (s[0]).toNat] w' (Says false w')) := Lib.hid fun w' => by have := digit_any (s[0]).toNat w'; rw [hd] at this; exact this
  have M0 : Hid (∀ w', Calls Tryz.prog 109 #[.int .u8 (s[0]).toNat] w' (Says (markN (s[0]).toNat) w')) := Lib.hid fun w' => mark_any (s[0]).toNat w'
  cases hm : markN (s[0]).toNat with
  | true =>
    rw [hm] at M0
    have E := Lib.hid (one_mark s h0 hl hd hm)
    have E2 := Lib.hid (str_take s 1)
    clear hl hd hm
    rw [E.out]
    clear E
    go_enter Tryz.func85, Tryz.ntmps85
    go_wp2_with fail
    (with_reducible refine (L0.out _).mono ?_)
    rintro e w' ⟨rfl, rfl⟩
    go_wp2_with fail
    (with_reducible refine (D0.out _).mono ?_)
    rintro e w' ⟨rfl, rfl⟩
    go_wp2_with fail
    (with_reducible refine (M0.out _).mono ?_)
    rintro e w' ⟨rfl, rfl⟩
    go_wp2_with fail
    exact bodyPost_ret (v := .tuple #[.agg #[.int .i64 3, .string (s.extract 0 1), .int .i64 0, .int .i64 0], .int .i64 0]) (by simp [results, Tryz.results85, go_sem]) rfl (⟨by rw [E2.out]; rfl, below_new _ _⟩)
  | false =>
    rw [hm] at M0
    have E := Lib.hid (one_none s h0 hl hd hm)
    clear hl hd hm
    rw [E.out]
    clear E
    go_enter Tryz.func85, Tryz.ntmps85
    go_wp2_with fail
    (with_reducible refine (L0.out _).mono ?_)
    rintro e w' ⟨rfl, rfl⟩
    go_wp2_with fail
    (with_reducible refine (D0.out _).mono ?_)
    rintro e w' ⟨rfl, rfl⟩
    go_wp2_with fail
    (with_reducible refine (M0.out _).mono ?_)
    rintro e w' ⟨rfl, rfl⟩
    go_wp2_with fail
    exact bodyPost_ret (v := .tuple #[.agg #[.int .i64 0, .string ⟨#[]⟩, .int .i64 0, .int .i64 0], .int .i64 2]) (by simp [results, Tryz.results85, go_sem]) rfl (⟨rfl, below_new _ _⟩)
theorem one_any (s : ByteArray) (h0 : 0 < s.size) (hs : s.size ≤ 9223372036854775807) (w : World) :
    Calls Tryz.prog 85 #[.string s] w (GivesTk (oneT s.data.toList) w) := by
  cases hl : letterN (s[0]).toNat with
  | true => exact one_word s h0 hs hl w
  | false =>
    cases hd : digitN (s[0]).toNat with
    | true => exact one_num s h0 hs hl hd w
    | false => exact one_rest s h0 hs hl hd w
end Go.Proofs.YtigfgeanofccgaaGreatDoor
namespace Go.Proofs.YtigfgeanofccgaaGreatDoor
open Go.RowKit
theorem nameB_long {s : ByteArray} (h : 12 < s.size) : nameB s.data.toList = false := by
  have hl := size_list s
  cases e : s.data.toList with
  | nil => rfl
  | cons c r =>
    rw [e] at hl
    show (decide ((c :: r).length ≤ 12) && _) = false
    rw [decide_eq_false (by omega)]; rfl
theorem nameB_eq {s : ByteArray} (h0 : 0 < s.size) (h : ¬ 12 < s.size) : nameB s.data.toList = (letterN (s[0]).toNat && decide (fits partN s.data.toList = s.data.toList)) := by
  have hl := size_list s
  have e := list_head s h0
  rw [e] at hl ⊢
  show (decide (_ ≤ 12) && _) = _
  rw [decide_eq_true (by omega), Bool.true_and]
theorem empty_of {s : ByteArray} (h : s.size = 0) : s = ⟨#[]⟩ := bytes_eq _ _ (List.eq_nil_of_length_eq_zero (by rw [size_list]; exact h))
theorem ne_empty {s : ByteArray} (h : 0 < s.size) : s.toList ≠ [] := by
  rw [ByteArray.toList_eq]
  intro e
  have h2 := congrArg List.length e
  rw [size_list] at h2
  have h3 : s.size = 0 := h2
  omega
set_option maxRecDepth 100000 in
set_option maxHeartbeats 2000000 in
theorem isName_any (s : ByteArray) (hs : s.size ≤ 9223372036854775807) (w : World) :
    Calls Tryz.prog 87 #[.string s] w (Gives (.bool (nameB s.data.toList)) w) := by
  by_cases h0 : 0 < s.size
  · have n1 : s.toList.isEmpty = false := by cases h : s.toList with | nil => exact absurd h (ne_empty h0) | cons _ _ => rfl
    have n2 : (s.toList == []) = false := beq_eq_false_iff_ne.2 (ne_empty h0)
    by_cases h12 : 12 < s.size
    · have E := Lib.hid (nameB_long h12)
      go_enter Tryz.func87, Tryz.ntmps87
      go_wp2
      go_ret
      exact ⟨by rw [E.out]; rfl, Below.refl _ _⟩
    · have E := Lib.hid (nameB_eq h0 h12)
      have hr := (s[0]).toNat_lt
      have L := Lib.hid (fun w' => isLetter_any (s[0]).toNat w')
      have PW := Lib.hid (fun w' => prefix_part s hs w')
      cases hl : letterN (s[0]).toNat with
      | false =>
        rw [hl] at L E
        clear hl
        go_enter Tryz.func87, Tryz.ntmps87
        go_wp2_with (go_at_call 112; (with_reducible refine (L.out _).mono ?_); rintro e w' ⟨rfl, rfl⟩)
        go_ret
        exact ⟨by rw [E.out]; rfl, Below.refl _ _⟩
      | true =>
        rw [hl] at L E
        clear hl
        by_cases hf : fits partN s.data.toList = s.data.toList
        · have T : ((str (fits partN s.data.toList)).toList == s.toList) = true := test_yes (by rw [str_data]; exact hf)
          have E2 : Hid (nameB s.data.toList = true) := Lib.hid (by rw [E.out, decide_eq_true hf]; rfl)
          clear E hf
          generalize str (fits partN s.data.toList) = x at *
          go_enter Tryz.func87, Tryz.ntmps87
          go_wp2_with (first | (go_at_call 112; (with_reducible refine (L.out _).mono ?_); rintro e w' ⟨rfl, rfl⟩) | (go_at_call 113; (with_reducible refine (PW.out _).mono ?_); rintro e w1 ⟨rfl, hb⟩; have B1 := Lib.hid hb; clear hb))
          go_ret
          exact ⟨by rw [E2.out]; rfl, B1.out⟩
        · have T : ((str (fits partN s.data.toList)).toList == s.toList) = false := test_no (by rw [str_data]; exact hf)
          have E2 : Hid (nameB s.data.toList = false) := Lib.hid (by rw [E.out, decide_eq_false hf]; rfl)
          clear E hf
          generalize str (fits partN s.data.toList) = x at *
          go_enter Tryz.func87, Tryz.ntmps87
          go_wp2_with (first | (go_at_call 112; (with_reducible refine (L.out _).mono ?_); rintro e w' ⟨rfl, rfl⟩) | (go_at_call 113; (with_reducible refine (PW.out _).mono ?_); rintro e w1 ⟨rfl, hb⟩; have B1 := Lib.hid hb; clear hb))
          go_ret
          exact ⟨by rw [E2.out]; rfl, B1.out⟩
  · obtain rfl := empty_of (by omega : s.size = 0)
    go_enter Tryz.func87, Tryz.ntmps87
    go_wp2
    go_ret
    exact ⟨rfl, Below.refl _ _⟩
set_option maxRecDepth 100000 in
set_option maxHeartbeats 2000000 in
theorem risName_any (s : ByteArray) (hs : s.size ≤ 9223372036854775807) (w : World) :
    Calls Tryz.prog 61 #[.string s] w (Gives (.bool (nameB s.data.toList)) w) := by
  by_cases h0 : 0 < s.size
  · have n1 : s.toList.isEmpty = false := by cases h : s.toList with | nil => exact absurd h (ne_empty h0) | cons _ _ => rfl
    have n2 : (s.toList == []) = false := beq_eq_false_iff_ne.2 (ne_empty h0)
    by_cases h12 : 12 < s.size
    · have E := Lib.hid (nameB_long h12)
      go_enter Tryz.func61, Tryz.ntmps61
      go_wp2
      go_ret
      exact ⟨by rw [E.out]; rfl, Below.refl _ _⟩
    · have E := Lib.hid (nameB_eq h0 h12)
      have hr := (s[0]).toNat_lt
      have L : Hid (∀ w', Calls Tryz.prog 84 #[.int .u8 (s[0]).toNat] w' (Says (letterN (s[0]).toNat) w')) := Lib.hid (fun w' => letter_any (s[0]).toNat w')
      cases hl : letterN (s[0]).toNat with
      | false =>
        rw [hl] at L E
        clear hl
        go_enter Tryz.func61, Tryz.ntmps61
        go_wp2_with (go_at_call 84; (with_reducible refine (L.out _).mono ?_); rintro e w' ⟨rfl, rfl⟩)
        go_ret
        exact ⟨by rw [E.out]; rfl, Below.refl _ _⟩
      | true =>
        have O : Hid (∀ w', Calls Tryz.prog 85 #[.string s] w' (GivesTk (⟨1, fits partN s.data.toList, 0, 0⟩, 0) w')) := Lib.hid fun w' => by
          have := one_any s h0 hs w'
          rw [one_letter s h0 hl, if_neg (by have := fits_le partN s.data.toList; rw [size_list] at this; omega)] at this
          exact this
        rw [hl] at L E
        clear hl
        by_cases hf : fits partN s.data.toList = s.data.toList
        · have T : ((str (fits partN s.data.toList)).toList == s.toList) = true := test_yes (by rw [str_data]; exact hf)
          have E2 : Hid (nameB s.data.toList = true) := Lib.hid (by rw [E.out, decide_eq_true hf]; rfl)
          clear E hf
          generalize fits partN s.data.toList = x at *
          go_enter Tryz.func61, Tryz.ntmps61
          go_wp2_with (first | (go_at_call 84; (with_reducible refine (L.out _).mono ?_); rintro e w' ⟨rfl, rfl⟩) | (go_at_call 85; (with_reducible refine (O.out _).mono ?_); rintro e w1 ⟨rfl, hb⟩; have B1 := Lib.hid hb; clear hb; unfold aggT))
          go_ret
          exact ⟨by rw [E2.out]; rfl, B1.out.trans ((below_new _ _).mono B1.out.size)⟩
        · have T : ((str (fits partN s.data.toList)).toList == s.toList) = false := test_no (by rw [str_data]; exact hf)
          have E2 : Hid (nameB s.data.toList = false) := Lib.hid (by rw [E.out, decide_eq_false hf]; rfl)
          clear E hf
          generalize fits partN s.data.toList = x at *
          go_enter Tryz.func61, Tryz.ntmps61
          go_wp2_with (first | (go_at_call 84; (with_reducible refine (L.out _).mono ?_); rintro e w' ⟨rfl, rfl⟩) | (go_at_call 85; (with_reducible refine (O.out _).mono ?_); rintro e w1 ⟨rfl, hb⟩; have B1 := Lib.hid hb; clear hb; unfold aggT))
          go_ret
          exact ⟨by rw [E2.out]; rfl, B1.out.trans ((below_new _ _).mono B1.out.size)⟩
  · obtain rfl := empty_of (by omega : s.size = 0)
    go_enter Tryz.func61, Tryz.ntmps61
    go_wp2
    go_ret
    exact ⟨rfl, Below.refl _ _⟩
end Go.Proofs.YtigfgeanofccgaaGreatDoor
