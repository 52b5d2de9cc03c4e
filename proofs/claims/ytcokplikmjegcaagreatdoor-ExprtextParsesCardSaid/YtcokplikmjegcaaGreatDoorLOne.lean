/- The first token of a text, of the reference: no claim of its own. -/
import Derived.Test.YtcokplikmjegcaaGreatDoorJF
namespace Go.Proofs.YtcokplikmjegcaaGreatDoor
open Go.RowKit
/-- Where the beginning goes on, and where it ends. -/
theorem fits_on {B : Nat → Bool} (s : ByteArray) {k : Nat} (hk : k < s.size) (h : k ≤ (fits B s.data.toList).length) (hb : B (s[k]).toNat = true) : k + 1 ≤ (fits B s.data.toList).length := by
  rcases Nat.lt_or_ge k (fits B s.data.toList).length with g | g
  · exact g
  · obtain ⟨c, h1, h2⟩ := fits_end B s.data.toList (by rw [size_list]; omega)
    have e : (fits B s.data.toList).length = k := by omega
    rw [e, at_list s k hk] at h1
    injection h1 with h1
    rw [← h1, hb] at h2; cases h2
theorem fits_off {B : Nat → Bool} (s : ByteArray) {k : Nat} (hk : k < s.size) (h : k ≤ (fits B s.data.toList).length) (hb : B (s[k]).toNat = false) : (fits B s.data.toList).length = k :=
  fits_eq h fun _ => ⟨s[k], at_list s k hk, hb⟩
theorem fits_whole {B : Nat → Bool} (s : ByteArray) {k : Nat} (hk : s.size ≤ k) (h : k ≤ (fits B s.data.toList).length) : (fits B s.data.toList).length = k := by
  have := fits_le B s.data.toList
  rw [size_list] at this
  omega
theorem part_eq (n : Nat) : partN n = (letterN n || (digitN n || decide (n = 95))) := rfl
/-- The end of a word. -/
theorem word_end (s : ByteArray) (h0 : 0 < s.size) (hl : letterN (s[0]).toNat = true) (w : World) (o : Obj) {k : Nat} (hk : (fits partN s.data.toList).length = k) :
    (12 < k → GivesTk (oneT s.data.toList) w (.returned (.tuple #[.agg #[.int .i64 0, .string ⟨#[]⟩, .int .i64 0, .int .i64 0], .int .i64 3])) (w.alloc o)) ∧
    (¬ 12 < k → GivesTk (oneT s.data.toList) w (.returned (.tuple #[.agg #[.int .i64 1, .string (s.extract 0 k), .int .i64 0, .int .i64 0], .int .i64 0])) (w.alloc o)) := by
  rw [one_letter s h0 hl, hk]
  refine ⟨fun h => ?_, fun h => ?_⟩
  · rw [if_pos h]; exact ⟨rfl, below_new _ _⟩
  · rw [if_neg h, str_take, ← hk, fits_take]; exact ⟨rfl, below_new _ _⟩
/-- The end of a number. -/
theorem num_end (s : ByteArray) (h0 : 0 < s.size) (hl : letterN (s[0]).toNat = false) (hd : digitN (s[0]).toNat = true) (w : World) (o : Obj) {k : Nat} (hk : (fits digitN s.data.toList).length = k) :
    ((s[0]).toNat = 48 ∧ 1 < k → GivesTk (oneT s.data.toList) w (.returned (.tuple #[.agg #[.int .i64 0, .string ⟨#[]⟩, .int .i64 0, .int .i64 0], .int .i64 2])) (w.alloc o)) ∧
    (¬ ((s[0]).toNat = 48 ∧ 1 < k) → 9 < k → GivesTk (oneT s.data.toList) w (.returned (.tuple #[.agg #[.int .i64 0, .string ⟨#[]⟩, .int .i64 0, .int .i64 0], .int .i64 4])) (w.alloc o)) ∧
    (¬ ((s[0]).toNat = 48 ∧ 1 < k) → ¬ 9 < k → GivesTk (oneT s.data.toList) w (.returned (.tuple #[.agg #[.int .i64 2, .string (s.extract 0 k), .int .i64 (numV (s.data.toList.take k) : Nat), .int .i64 0], .int .i64 0])) (w.alloc o)) := by
  rw [list_head s h0, oneT_cons, if_neg (by rw [hl]; decide), if_pos hd, ← list_head s h0, hk]
  refine ⟨fun h => ?_, fun h h' => ?_, fun h h' => ?_⟩
  · rw [if_pos h]; exact ⟨rfl, below_new _ _⟩
  · rw [if_neg h, if_pos h']; exact ⟨rfl, below_new _ _⟩
  · rw [if_neg h, if_neg h', str_take, ← hk, fits_take]; exact ⟨rfl, below_new _ _⟩
set_option maxRecDepth 100000 in
set_option maxHeartbeats 4000000 in
theorem one_word (s : ByteArray) (h0 : 0 < s.size) (hs : s.size ≤ 9223372036854775807) (hl : letterN (s[0]).toNat = true) (w : World) :
    Calls Tryz.prog 62 #[.string s] w (GivesTk (oneT s.data.toList) w) := by
  have L0 : Hid (∀ w', Calls Tryz.prog 99 #[.int .u8 (s[0]).toNat] w' (Says true w')) := Lib.hid fun w' => by have := letter_any (s[0]).toNat w'; rw [hl] at this; exact this
  have G := Lib.hid (fun o k hk => @word_end s h0 hl w o k hk)
  have I0 : Hid (1 ≤ (fits partN s.data.toList).length) := Lib.hid (by rw [list_head s h0, fits_cons (part_of_letter hl)]; simp)
  clear hl
  go_enter Tryz.func62, Tryz.ntmps62
  go_wp2_with fail
  (with_reducible refine (L0.out _).mono ?_)
  rintro e w' ⟨rfl, rfl⟩
  clear L0
  go_wp2_with fail
  go_loop [4] (fun v => ∃ k : Nat, 1 ≤ k ∧ k ≤ s.size ∧ v = .int .i64 k ∧ Hid (k ≤ (fits partN s.data.toList).length)) (fun v => s.size - (intOf v).toNat)
  case atStart => exact ⟨1, by omega, by omega, rfl, I0⟩
  case round =>
    obtain ⟨k, hk1, hk, rfl, hi⟩ := hrel
    clear I0
    by_cases hlt : k < s.size
    · have L : Hid (∀ w', Calls Tryz.prog 99 #[.int .u8 (s[k]).toNat] w' (Says (letterN (s[k]).toNat) w')) := Lib.hid fun w' => letter_any (s[k]).toNat w'
      have D : Hid (∀ w', Calls Tryz.prog 100 #[.int .u8 (s[k]).toNat] w' (Says (digitN (s[k]).toNat) w')) := Lib.hid fun w' => digit_any (s[k]).toNat w'
      have P := Lib.hid (part_eq (s[k]).toNat)
      have ON := Lib.hid (@fits_on partN s k hlt hi.out)
      have OFF := Lib.hid (@fits_off partN s k hlt hi.out)
      clear hi
      cases hl : letterN (s[k]).toNat with
      | true =>
        rw [hl] at L P
        have I := Lib.hid (ON.out (by rw [P.out]; rfl))
        clear P ON OFF hl D
        go_wp2_with (go_at_call 99; (with_reducible refine (L.out _).mono ?_); rintro e w' ⟨rfl, rfl⟩)
        go_round
        case rel => exact ⟨k + 1, by omega, by omega, by go_num, I⟩
        case measure => simp [intOf]; omega
      | false =>
        rw [hl] at L P
        cases hd : digitN (s[k]).toNat with
        | true =>
          rw [hd] at D P
          have I := Lib.hid (ON.out (by rw [P.out]; rfl))
          clear P ON OFF hl hd
          go_wp2_with (first | (go_at_call 99; (with_reducible refine (L.out _).mono ?_); rintro e w' ⟨rfl, rfl⟩) | (go_at_call 100; (with_reducible refine (D.out _).mono ?_); rintro e w' ⟨rfl, rfl⟩))
          go_round
          case rel => exact ⟨k + 1, by omega, by omega, by go_num, I⟩
          case measure => simp [intOf]; omega
        | false =>
          rw [hd] at D P
          by_cases h95 : (s[k]).toNat = 95
          · have I := Lib.hid (ON.out (by rw [P.out, h95]; rfl))
            have hb : (((s[k]).toNat : Int) == 95) = true := by rw [h95]; rfl
            clear P ON OFF hl hd h95
            go_wp2_with (first | (go_at_call 99; (with_reducible refine (L.out _).mono ?_); rintro e w' ⟨rfl, rfl⟩) | (go_at_call 100; (with_reducible refine (D.out _).mono ?_); rintro e w' ⟨rfl, rfl⟩))
            go_round
            case rel => exact ⟨k + 1, by omega, by omega, by go_num, I⟩
            case measure => simp [intOf]; omega
          · have GG := Lib.hid (fun o => G.out o k (OFF.out (by rw [P.out, decide_eq_false h95]; rfl)))
            have hb : (((s[k]).toNat : Int) == 95) = false := beq_eq_false_iff_ne.2 (by omega)
            clear P ON OFF hl hd h95 G
            by_cases h12 : 12 < k
            · go_wp2_with (first | (go_at_call 99; (with_reducible refine (L.out _).mono ?_); rintro e w' ⟨rfl, rfl⟩) | (go_at_call 100; (with_reducible refine (D.out _).mono ?_); rintro e w' ⟨rfl, rfl⟩))
              exact bodyPost_ret (v := .tuple #[.agg #[.int .i64 0, .string ⟨#[]⟩, .int .i64 0, .int .i64 0], .int .i64 3]) (by simp [results, Tryz.results62, go_sem]) rfl ((GG.out _).1 h12)
            · go_wp2_with (first | (go_at_call 99; (with_reducible refine (L.out _).mono ?_); rintro e w' ⟨rfl, rfl⟩) | (go_at_call 100; (with_reducible refine (D.out _).mono ?_); rintro e w' ⟨rfl, rfl⟩))
              exact bodyPost_ret (v := .tuple #[.agg #[.int .i64 1, .string (s.extract 0 k), .int .i64 0, .int .i64 0], .int .i64 0]) (by simp [results, Tryz.results62, go_sem]) rfl ((GG.out _).2 h12)
    · have GG := Lib.hid (fun o => G.out o k (fits_whole s (by omega) hi.out))
      clear G hi
      by_cases h12 : 12 < k
      · go_wp2_with fail
        exact bodyPost_ret (v := .tuple #[.agg #[.int .i64 0, .string ⟨#[]⟩, .int .i64 0, .int .i64 0], .int .i64 3]) (by simp [results, Tryz.results62, go_sem]) rfl ((GG.out _).1 h12)
      · go_wp2_with fail
        exact bodyPost_ret (v := .tuple #[.agg #[.int .i64 1, .string (s.extract 0 k), .int .i64 0, .int .i64 0], .int .i64 0]) (by simp [results, Tryz.results62, go_sem]) rfl ((GG.out _).2 h12)
set_option maxRecDepth 100000 in
set_option maxHeartbeats 4000000 in
theorem one_num (s : ByteArray) (h0 : 0 < s.size) (hs : s.size ≤ 9223372036854775807) (hl : letterN (s[0]).toNat = false) (hd : digitN (s[0]).toNat = true) (w : World) :
    Calls Tryz.prog 62 #[.string s] w (GivesTk (oneT s.data.toList) w) := by
  have L0 : Hid (∀ w', Calls Tryz.prog 99 #[.int .u8 (s[0]).toNat] w' (Says false w')) := Lib.hid fun w' => by have := letter_any (s[0]).toNat w'; rw [hl] at this; exact this
  have D0 : Hid (∀ w', Calls Tryz.prog 100 #[.int .u8 (s[0]).toNat] w' (Says true w')) := Lib.hid fun w' => by have := digit_any (s[0]).toNat w'; rw [hd] at this; exact this
  have G := Lib.hid (fun o k hk => @num_end s h0 hl hd w o k hk)
  have I0 : Hid (1 ≤ (fits digitN s.data.toList).length) := Lib.hid (by rw [list_head s h0, fits_cons hd]; simp)
  have FI : Hid (∀ j, j < (fits digitN s.data.toList).length → ∀ hj : j < s.size, digitN (s[j]).toNat = true) := Lib.hid fun j h hj => by
    obtain ⟨c, e1, e2⟩ := fits_in digitN _ j h
    rw [at_list s j hj] at e1
    injection e1 with e1
    rw [e1]; exact e2
  clear hl hd
  go_enter Tryz.func62, Tryz.ntmps62
  go_wp2_with fail
  (with_reducible refine (L0.out _).mono ?_)
  rintro e w' ⟨rfl, rfl⟩
  go_wp2_with fail
  (with_reducible refine (D0.out _).mono ?_)
  rintro e w' ⟨rfl, rfl⟩
  clear L0 D0
  go_wp2_with fail
  go_loop [4] (fun v => ∃ k : Nat, 1 ≤ k ∧ k ≤ s.size ∧ v = .int .i64 k ∧ Hid (k ≤ (fits digitN s.data.toList).length)) (fun v => s.size - (intOf v).toNat)
  case atStart => exact ⟨1, by omega, by omega, rfl, I0⟩
  case round =>
    obtain ⟨k, hk1, hk, rfl, hi⟩ := hrel
    clear I0
    by_cases hlt : k < s.size
    · have D : Hid (∀ w', Calls Tryz.prog 100 #[.int .u8 (s[k]).toNat] w' (Says (digitN (s[k]).toNat) w')) := Lib.hid fun w' => digit_any (s[k]).toNat w'
      have ON := Lib.hid (@fits_on digitN s k hlt hi.out)
      have OFF := Lib.hid (@fits_off digitN s k hlt hi.out)
      have DG : Hid (∀ j, j < k → ∀ hj : j < s.size, digitN (s[j]).toNat = true) := Lib.hid fun j h hj => FI.out j (Nat.lt_of_lt_of_le h hi.out) hj
      clear hi FI
      cases hd : digitN (s[k]).toNat with
      | true =>
        rw [hd] at D
        have I := Lib.hid (ON.out hd)
        clear ON OFF hd DG
        go_wp2_with (go_at_call 100; (with_reducible refine (D.out _).mono ?_); rintro e w' ⟨rfl, rfl⟩)
        go_round
        case rel => exact ⟨k + 1, by omega, by omega, by go_num, I⟩
        case measure => simp [intOf]; omega
      | false =>
        rw [hd] at D
        have GG := Lib.hid (fun o => G.out o k (OFF.out hd))
        clear ON OFF hd G
        by_cases hz : (s[0]).toNat = 48 ∧ 1 < k
        · have hz1 := hz.2
          have hb : (((s[0]).toNat : Int) == 48) = true := by rw [hz.1]; rfl
          have E := Lib.hid (fun o => (GG.out o).1 hz)
          clear GG hz
          go_wp2_with (go_at_call 100; (with_reducible refine (D.out _).mono ?_); rintro e w' ⟨rfl, rfl⟩)
          exact bodyPost_ret (v := .tuple #[.agg #[.int .i64 0, .string ⟨#[]⟩, .int .i64 0, .int .i64 0], .int .i64 2]) (by simp [results, Tryz.results62, go_sem]) rfl (E.out _)
        · by_cases h9 : 9 < k
          · have E := Lib.hid (fun o => (GG.out o).2.1 hz h9)
            have hb : (((s[0]).toNat : Int) == 48) = false := beq_eq_false_iff_ne.2 (by omega)
            clear GG hz
            go_wp2_with (go_at_call 100; (with_reducible refine (D.out _).mono ?_); rintro e w' ⟨rfl, rfl⟩)
            exact bodyPost_ret (v := .tuple #[.agg #[.int .i64 0, .string ⟨#[]⟩, .int .i64 0, .int .i64 0], .int .i64 4]) (by simp [results, Tryz.results62, go_sem]) rfl (E.out _)
          · have E := Lib.hid (fun o => (GG.out o).2.2 hz h9)
            clear GG
            by_cases h1 : 1 < k
            all_goals
              first
                | (have hb : (((s[0]).toNat : Int) == 48) = false := beq_eq_false_iff_ne.2 (fun h => hz ⟨by omega, h1⟩); clear hz)
                | (clear hz)
              go_wp2_with (go_at_call 100; (with_reducible refine (D.out _).mono ?_); rintro e w' ⟨rfl, rfl⟩)
              go_loop [5, 6] (fun v i => ∃ j : Nat, j ≤ k ∧ i = .int .i64 j ∧ v = .int .i64 (numV (s.data.toList.take j) : Nat)) (fun _ i => k - (intOf i).toNat)
              case atStart => exact ⟨0, by omega, rfl, rfl⟩
              case round =>
                obtain ⟨j, hj, rfl, rfl⟩ := hrel
                by_cases hjk : j < k
                · have hjs : j < s.size := by omega
                  obtain ⟨d0, d1⟩ := digitN_yes.1 (DG.out j hjk hjs)
                  have hy : numV (s.data.toList.take j) < 25600000000 := by
                    have h1 := numV_lt (s.data.toList.take j)
                    have h2 : 256 * (10 : Nat) ^ (s.data.toList.take j).length ≤ 256 * 10 ^ 8 := Nat.mul_le_mul_left _ (Nat.pow_le_pow_right (by decide) (by rw [List.length_take]; omega))
                    exact Nat.lt_of_lt_of_le h1 h2
                  have V : Hid (numV (s.data.toList.take (j + 1)) = numV (s.data.toList.take j) * 10 + ((s[j]).toNat - 48)) := Lib.hid (by
                    rw [List.take_succ_eq_append_getElem (by rw [size_list]; exact hjs), numV_snoc]; rfl)
                  generalize numV (s.data.toList.take j) = y at *
                  go_wp2_with fail
                  go_round
                  case rel => exact ⟨j + 1, by omega, by go_num, by rw [V.out]; go_num⟩
                  case measure => simp [intOf]; omega
                · obtain rfl : j = k := by omega
                  generalize numV (s.data.toList.take j) = y at *
                  go_wp2_with fail
                  exact bodyPost_ret (v := .tuple #[.agg #[.int .i64 2, .string (s.extract 0 j), .int .i64 y, .int .i64 0], .int .i64 0]) (by simp [results, Tryz.results62, go_sem]) rfl (E.out _)
    · have GG := Lib.hid (fun o => G.out o k (fits_whole s (by omega) hi.out))
      have DG : Hid (∀ j, j < k → ∀ hj : j < s.size, digitN (s[j]).toNat = true) := Lib.hid fun j h hj => FI.out j (Nat.lt_of_lt_of_le h hi.out) hj
      clear G hi FI
      by_cases hz : (s[0]).toNat = 48 ∧ 1 < k
      · have hz1 := hz.2
        have hb : (((s[0]).toNat : Int) == 48) = true := by rw [hz.1]; rfl
        have E := Lib.hid (fun o => (GG.out o).1 hz)
        clear GG hz
        go_wp2_with fail
        exact bodyPost_ret (v := .tuple #[.agg #[.int .i64 0, .string ⟨#[]⟩, .int .i64 0, .int .i64 0], .int .i64 2]) (by simp [results, Tryz.results62, go_sem]) rfl (E.out _)
      · by_cases h9 : 9 < k
        · have E := Lib.hid (fun o => (GG.out o).2.1 hz h9)
          have hb : (((s[0]).toNat : Int) == 48) = false := beq_eq_false_iff_ne.2 (by omega)
          clear GG hz
          go_wp2_with fail
          exact bodyPost_ret (v := .tuple #[.agg #[.int .i64 0, .string ⟨#[]⟩, .int .i64 0, .int .i64 0], .int .i64 4]) (by simp [results, Tryz.results62, go_sem]) rfl (E.out _)
        · have E := Lib.hid (fun o => (GG.out o).2.2 hz h9)
          clear GG
          by_cases h1 : 1 < k
          all_goals
            first
              | (have hb : (((s[0]).toNat : Int) == 48) = false := beq_eq_false_iff_ne.2 (fun h => hz ⟨by omega, h1⟩); clear hz)
              | (clear hz)
            go_wp2_with fail
            go_loop [5, 6] (fun v i => ∃ j : Nat, j ≤ k ∧ i = .int .i64 j ∧ v = .int .i64 (numV (s.data.toList.take j) : Nat)) (fun _ i => k - (intOf i).toNat)
            case atStart => exact ⟨0, by omega, rfl, rfl⟩
            case round =>
              obtain ⟨j, hj, rfl, rfl⟩ := hrel
              by_cases hjk : j < k
              · have hjs : j < s.size := by omega
                obtain ⟨d0, d1⟩ := digitN_yes.1 (DG.out j hjk hjs)
                have hy : numV (s.data.toList.take j) < 25600000000 := by
                  have h1 := numV_lt (s.data.toList.take j)
                  have h2 : 256 * (10 : Nat) ^ (s.data.toList.take j).length ≤ 256 * 10 ^ 8 := Nat.mul_le_mul_left _ (Nat.pow_le_pow_right (by decide) (by rw [List.length_take]; omega))
                  exact Nat.lt_of_lt_of_le h1 h2
                have V : Hid (numV (s.data.toList.take (j + 1)) = numV (s.data.toList.take j) * 10 + ((s[j]).toNat - 48)) := Lib.hid (by
                  rw [List.take_succ_eq_append_getElem (by rw [size_list]; exact hjs), numV_snoc]; rfl)
                generalize numV (s.data.toList.take j) = y at *
                go_wp2_with fail
                go_round
                case rel => exact ⟨j + 1, by omega, by go_num, by rw [V.out]; go_num⟩
                case measure => simp [intOf]; omega
              · obtain rfl : j = k := by omega
                generalize numV (s.data.toList.take j) = y at *
                go_wp2_with fail
                exact bodyPost_ret (v := .tuple #[.agg #[.int .i64 2, .string (s.extract 0 j), .int .i64 y, .int .i64 0], .int .i64 0]) (by simp [results, Tryz.results62, go_sem]) rfl (E.out _)
set_option maxRecDepth 100000 in
set_option maxHeartbeats 4000000 in
theorem one_rest (s : ByteArray) (h0 : 0 < s.size) (hs : s.size ≤ 9223372036854775807) (hl : letterN (s[0]).toNat = false) (hd : digitN (s[0]).toNat = false) (w : World) :
    Calls Tryz.prog 62 #[.string s] w (GivesTk (oneT s.data.toList) w) := by
  have L0 : Hid (∀ w', Calls Tryz.prog 99 #[.int .u8 (s[0]).toNat] w' (Says false w')) := Lib.hid fun w' => by have := letter_any (s[0]).toNat w'; rw [hl] at this; exact this
  have D0 : Hid (∀ w', Calls Tryz.prog 100 #[.int .u8 (s[0]).toNat] w' (Says false w')) := Lib.hid fun w' => by have := digit_any (s[0]).toNat w'; rw [hd] at this; exact this
  have M0 : Hid (∀ w', Calls Tryz.prog 101 #[.int .u8 (s[0]).toNat] w' (Says (markN (s[0]).toNat) w')) := Lib.hid fun w' => mark_any (s[0]).toNat w'
  cases hm : markN (s[0]).toNat with
  | true =>
    rw [hm] at M0
    have E := Lib.hid (one_mark s h0 hl hd hm)
    have E2 := Lib.hid (str_take s 1)
    clear hl hd hm
    rw [E.out]
    clear E
    go_enter Tryz.func62, Tryz.ntmps62
    go_wp2_with fail
    (with_reducible refine (L0.out _).mono ?_)
    rintro e w' ⟨rfl, rfl⟩
    go_wp2_with fail
    (with_reducible refine (D0.out _).mono ?_)
    rintro e w' ⟨rfl, rfl⟩
    go_wp2_with fail
    (with_reducible refine (M0.out _).mono ?_)
    rintro e w' ⟨rfl, rfl⟩
    go_wp2_with fail
    exact bodyPost_ret (v := .tuple #[.agg #[.int .i64 3, .string (s.extract 0 1), .int .i64 0, .int .i64 0], .int .i64 0]) (by simp [results, Tryz.results62, go_sem]) rfl (⟨by rw [E2.out]; rfl, below_new _ _⟩)
  | false =>
    rw [hm] at M0
    have E := Lib.hid (one_none s h0 hl hd hm)
    clear hl hd hm
    rw [E.out]
    clear E
    go_enter Tryz.func62, Tryz.ntmps62
    go_wp2_with fail
    (with_reducible refine (L0.out _).mono ?_)
    rintro e w' ⟨rfl, rfl⟩
    go_wp2_with fail
    (with_reducible refine (D0.out _).mono ?_)
    rintro e w' ⟨rfl, rfl⟩
    go_wp2_with fail
    (with_reducible refine (M0.out _).mono ?_)
    rintro e w' ⟨rfl, rfl⟩
    go_wp2_with fail
    exact bodyPost_ret (v := .tuple #[.agg #[.int .i64 0, .string ⟨#[]⟩, .int .i64 0, .int .i64 0], .int .i64 2]) (by simp [results, Tryz.results62, go_sem]) rfl (⟨rfl, below_new _ _⟩)
theorem one_any (s : ByteArray) (h0 : 0 < s.size) (hs : s.size ≤ 9223372036854775807) (w : World) :
    Calls Tryz.prog 62 #[.string s] w (GivesTk (oneT s.data.toList) w) := by
  cases hl : letterN (s[0]).toNat with
  | true => exact one_word s h0 hs hl w
  | false =>
    cases hd : digitN (s[0]).toNat with
    | true => exact one_num s h0 hs hl hd w
    | false => exact one_rest s h0 hs hl hd w
end Go.Proofs.YtcokplikmjegcaaGreatDoor
