/- The reference's IsName: no claim of its own. -/
import Derived.Test.YtdlpolnnhhnecaaDoorLName
namespace Go.Proofs.YtdlpolnnhhnecaaDoor
open Go.RowKit
theorem fits_self {B : Nat → Bool} : ∀ {l : List UInt8}, fits B l = l ↔ ∀ c ∈ l, B c.toNat = true
  | [] => by simp [fits]
  | c :: r => by
    cases h : B c.toNat with
    | true => rw [fits_cons h]; simp [h, fits_self (l := r)]
    | false =>
      have : fits B (c :: r) = [] := List.takeWhile_cons_of_neg (by simp [h])
      rw [this]; simp [h]
theorem name_iff {l : List UInt8} : nameB l = true ↔ l.length ≠ 0 ∧ l.length ≤ 12 ∧ ∀ (j : Nat) (c : UInt8), l[j]? = some c → partN c.toNat = true ∧ (j = 0 → letterN c.toNat = true) := by
  cases l with
  | nil => simp [nameB]
  | cons c r =>
    have e : nameB (c :: r) = (decide ((c :: r).length ≤ 12) && (letterN c.toNat && decide (fits partN (c :: r) = c :: r))) := rfl
    rw [e, Bool.and_eq_true, Bool.and_eq_true, decide_eq_true_eq, decide_eq_true_eq, fits_self]
    constructor
    · rintro ⟨h1, h2, h3⟩
      refine ⟨by simp, h1, fun j d hj => ⟨h3 d (List.mem_of_getElem? hj), fun h0 => ?_⟩⟩
      subst h0
      simp at hj
      subst hj; exact h2
    · rintro ⟨_, h1, h2⟩
      refine ⟨h1, (h2 0 c rfl).2 rfl, fun d hd => ?_⟩
      obtain ⟨j, hj, e⟩ := List.mem_iff_getElem.1 hd
      exact (h2 j d (by rw [List.getElem?_eq_getElem hj, e])).1
theorem name_stop {s : ByteArray} {k : Nat} (hk : k < s.size) (h : ¬ (partN (s[k]).toNat = true ∧ (k = 0 → letterN (s[k]).toNat = true))) : nameB s.data.toList = false := by
  cases e : nameB s.data.toList with
  | false => rfl
  | true => exact absurd ((name_iff.1 e).2.2 k s[k] (at_list s k hk)) h
theorem name_next {s : ByteArray} {k : Nat} (hk : k < s.size) (h : ∀ (j : Nat) (c : UInt8), j < k → s.data.toList[j]? = some c → partN c.toNat = true ∧ (j = 0 → letterN c.toNat = true)) (h1 : partN (s[k]).toNat = true ∧ (k = 0 → letterN (s[k]).toNat = true)) :
    ∀ (j : Nat) (c : UInt8), j < k + 1 → s.data.toList[j]? = some c → partN c.toNat = true ∧ (j = 0 → letterN c.toNat = true) := by
  intro j c hj hc
  rcases Nat.lt_or_ge j k with g | g
  · exact h j c g hc
  · obtain rfl : j = k := by omega
    rw [at_list s j hk] at hc
    injection hc with hc
    subst hc; exact h1
theorem partN_yes {n : Nat} : partN n = true ↔ (97 ≤ n ∧ n ≤ 122) ∨ (48 ≤ n ∧ n ≤ 57) ∨ n = 95 := by
  unfold partN
  rw [Bool.or_eq_true, Bool.or_eq_true, letterN_yes, digitN_yes, decide_eq_true_eq]
theorem ret_b {a b : Bool} (h : a = b) : Ending.returned (.bool a) = .returned (.bool b) := by rw [h]
set_option maxRecDepth 100000 in
set_option maxHeartbeats 4000000 in
theorem rname8_any (s : ByteArray) (hs : s.size ≤ 9223372036854775807) (w : World) :
    Calls Tryd.prog 38 #[.string s] w (Gives (.bool (nameB s.data.toList)) w) := by
  by_cases h0 : 0 < s.size
  · by_cases h12 : 12 < s.size
    · have G := Lib.hid (ret_b (nameB_long h12).symm)
      have d1 : decide ((s.size : Int) < 1) = false := decide_eq_false (by omega)
      have d2 : decide (12 < (s.size : Int)) = true := decide_eq_true (by omega)
      go_enter Tryd.func38, Tryd.ntmps38
      go_wp2
      go_ret
      exact ⟨G.out, Below.refl _ _⟩
    · have d1 : decide ((s.size : Int) < 1) = false := decide_eq_false (by omega)
      have d2 : decide (12 < (s.size : Int)) = false := decide_eq_false (by omega)
      go_enter Tryd.func38, Tryd.ntmps38
      go_wp2
      go_loop [3, 4] (fun i _ => ∃ k : Nat, k ≤ s.size ∧ i = .int .i64 k ∧ Hid (∀ (j : Nat) (c : UInt8), j < k → s.data.toList[j]? = some c → partN c.toNat = true ∧ (j = 0 → letterN c.toNat = true))) (fun i _ => s.size - (intOf i).toNat)
      case atStart => exact ⟨0, Nat.zero_le _, rfl, Lib.hid (fun j _ hj => absurd hj (Nat.not_lt_zero _))⟩
      case round =>
        obtain ⟨k, hk, rfl, HN⟩ := hrel
        by_cases hlt : k < s.size
        · have NX := Lib.hid (name_next hlt HN.out)
          have ST := Lib.hid (name_stop hlt)
          clear HN
          have H8 := Lib.hid (s[k]).toNat_lt
          have hcase : ((97 ≤ (s[k]).toNat ∧ (s[k]).toNat ≤ 122) ∨ (¬ (97 ≤ (s[k]).toNat ∧ (s[k]).toNat ≤ 122) ∧ k = 0) ∨ (0 < k ∧ (s[k]).toNat = 95) ∨ (0 < k ∧ (s[k]).toNat < 48) ∨ (0 < k ∧ 57 < (s[k]).toNat ∧ (s[k]).toNat ≠ 95 ∧ ¬ (97 ≤ (s[k]).toNat ∧ (s[k]).toNat ≤ 122)) ∨ (0 < k ∧ 48 ≤ (s[k]).toNat ∧ (s[k]).toNat ≤ 57)) := by omega
          rcases hcase with hc | ⟨hc, hk0⟩ | ⟨hk0, hc⟩ | ⟨hk0, hc⟩ | ⟨hk0, hc, hc5, hcl⟩ | ⟨hk0, hc, hc2⟩
          · have G := Lib.hid (NX.out ⟨part_of_letter (letterN_yes.2 hc), fun _ => letterN_yes.2 hc⟩)
            clear NX ST
            have a1 : decide (97 ≤ ((s[k]).toNat : Int)) = true := decide_eq_true (by omega)
            have a2 : decide (((s[k]).toNat : Int) ≤ 122) = true := decide_eq_true (by omega)
            go_wp2
            go_round
            case rel => exact ⟨k + 1, by omega, by go_num, G⟩
            case measure => simp [intOf]; omega
          · have G := Lib.hid (ret_b (ST.out (fun h => hc (letterN_yes.1 (h.2 hk0)))).symm)
            clear NX ST
            subst hk0
            by_cases h97 : 97 ≤ (s[0]).toNat
            · have a1 : decide (97 ≤ ((s[0]).toNat : Int)) = true := decide_eq_true (by omega)
              have a2 : decide (((s[0]).toNat : Int) ≤ 122) = false := decide_eq_false (by omega)
              go_wp2
              go_ret
              exact ⟨G.out, Below.refl _ _⟩
            · have a1 : decide (97 ≤ ((s[0]).toNat : Int)) = false := decide_eq_false (by omega)
              go_wp2
              go_ret
              exact ⟨G.out, Below.refl _ _⟩
          · have G := Lib.hid (NX.out ⟨partN_yes.2 (.inr (.inr hc)), fun h => absurd h (by omega)⟩)
            clear NX ST
            have k0 : ((k : Int) == 0) = false := beq_eq_false_iff_ne.2 (by omega)
            have a1 : decide (97 ≤ ((s[k]).toNat : Int)) = false := decide_eq_false (by omega)
            have a3 : (((s[k]).toNat : Int) != 95) = false := bne_eq_false_iff_eq.2 (by omega)
            go_wp2
            go_round
            case rel => exact ⟨k + 1, by omega, by go_num, G⟩
            case measure => simp [intOf]; omega
          · have G := Lib.hid (ret_b (ST.out (fun h => by have := partN_yes.1 h.1; omega)).symm)
            clear NX ST
            have k0 : ((k : Int) == 0) = false := beq_eq_false_iff_ne.2 (by omega)
            have a1 : decide (97 ≤ ((s[k]).toNat : Int)) = false := decide_eq_false (by omega)
            have a3 : (((s[k]).toNat : Int) != 95) = true := bne_iff_ne.2 (by omega)
            have a4 : decide (((s[k]).toNat : Int) < 48) = true := decide_eq_true (by omega)
            go_wp2
            go_ret
            exact ⟨G.out, Below.refl _ _⟩
          · have G := Lib.hid (ret_b (ST.out (fun h => by have := partN_yes.1 h.1; omega)).symm)
            clear NX ST
            have k0 : ((k : Int) == 0) = false := beq_eq_false_iff_ne.2 (by omega)
            have a3 : (((s[k]).toNat : Int) != 95) = true := bne_iff_ne.2 (by omega)
            have a4 : decide (((s[k]).toNat : Int) < 48) = false := decide_eq_false (by omega)
            have a5 : decide (57 < ((s[k]).toNat : Int)) = true := decide_eq_true (by omega)
            by_cases h97 : 97 ≤ (s[k]).toNat
            · have a1 : decide (97 ≤ ((s[k]).toNat : Int)) = true := decide_eq_true (by omega)
              have a2 : decide (((s[k]).toNat : Int) ≤ 122) = false := decide_eq_false (by omega)
              go_wp2
              go_ret
              exact ⟨G.out, Below.refl _ _⟩
            · have a1 : decide (97 ≤ ((s[k]).toNat : Int)) = false := decide_eq_false (by omega)
              go_wp2
              go_ret
              exact ⟨G.out, Below.refl _ _⟩
          · have G := Lib.hid (NX.out ⟨partN_yes.2 (.inr (.inl ⟨hc, hc2⟩)), fun h => absurd h (by omega)⟩)
            clear NX ST
            have k0 : ((k : Int) == 0) = false := beq_eq_false_iff_ne.2 (by omega)
            have a1 : decide (97 ≤ ((s[k]).toNat : Int)) = false := decide_eq_false (by omega)
            have a3 : (((s[k]).toNat : Int) != 95) = true := bne_iff_ne.2 (by omega)
            have a4 : decide (((s[k]).toNat : Int) < 48) = false := decide_eq_false (by omega)
            have a5 : decide (57 < ((s[k]).toNat : Int)) = false := decide_eq_false (by omega)
            go_wp2
            go_round
            case rel => exact ⟨k + 1, by omega, by go_num, G⟩
            case measure => simp [intOf]; omega
        · have G := Lib.hid (ret_b (show true = nameB s.data.toList from (name_iff.2 ⟨by rw [size_list]; omega, by rw [size_list]; omega, fun j c hj => HN.out j c (by have := (List.getElem?_eq_some_iff.1 hj).1; rw [size_list] at this; omega) hj⟩).symm))
          go_wp2
          go_ret
          exact ⟨G.out, Below.refl _ _⟩
  · obtain rfl := empty_of (by omega : s.size = 0)
    go_enter Tryd.func38, Tryd.ntmps38
    go_wp2
    go_ret
    exact ⟨rfl, Below.refl _ _⟩
end Go.Proofs.YtdlpolnnhhnecaaDoor
