/- Join of the reference: no claim of its own. -/
import Derived.Test.YtdgflkkdcejadaaLJoin
namespace Go.Proofs.Ytdgflkkdcejadaa
open Go.RowKit
theorem val_str {a b : ByteArray} (h : a = b) : Value.string a = .string b := by rw [h]
set_option maxRecDepth 100000 in
set_option maxHeartbeats 4000000 in
theorem rjoin_any (A : Option Addr) (n c : Nat) (ts : List Tk) (w : World) (h : Tks w A n c ts) (hl : (joinP ts n).length ≤ 10000000) :
    Calls Try.prog 15 #[.slice A n c] w (Gives (.string (str (joinP ts n))) w) := by
  have hn := h.few
  have hc := h.cap
  have H := Lib.hid h
  have HL := Lib.hid hl
  clear h hl
  go_enter Try.func15, Try.ntmps15
  go_wp2
  go_loop [3, 4] (fun v i => ∃ k : Nat, k ≤ n ∧ i = .int .i64 k ∧ v = .string (str (joinP ts k))) (fun _ i => n - (intOf i).toNat)
  case atStart => exact ⟨0, by omega, rfl, rfl⟩
  case round =>
    obtain ⟨k, hk, rfl, rfl⟩ := hrel
    by_cases hlt : k < n
    · have LE := Lib.hid (Nat.le_trans (joinP_le ts (k + 1) n (by omega)) HL.out)
      obtain ⟨ad, t, hA, e1, hb, x0, x1, x2, x3⟩ := H.out.at_ hlt
      have KP : 0 < k → w.cell? (ad.add ((k - 1) * 4)) = some (.int .i64 (kindAt ts (k - 1))) := fun h0 => H.out.kind_at (by omega) hA
      obtain ⟨ek, et⟩ := at_eq e1
      subst hA
      obtain ⟨kd, tx, vv, a⟩ := t
      simp only at x0 x1 x2 x3 ek et
      clear e1
      have NO : sepB ts k = false → Hid (Value.string (str (joinP ts k) ++ str tx) = .string (str (joinP ts (k + 1)))) := fun h => Lib.hid (by rw [joinP_no h, et, str_append])
      have YES : sepB ts k = true → Hid (Value.string (str (joinP ts k) ++ ⟨#[32]⟩ ++ str tx) = .string (str (joinP ts (k + 1)))) := fun h => Lib.hid (by
        rw [joinP_yes h, et, show (⟨#[32]⟩ : ByteArray) = str [32] from rfl, str_append, str_append])
      have S1 : (str (joinP ts k)).size + 1 + (str tx).size ≤ 20000000 := by
        have h1 := LE.out
        have h2 : (joinP ts k).length + tx.length ≤ (joinP ts (k + 1)).length := by
          cases e : sepB ts k with
          | true => rw [joinP_yes e, et]; simp
          | false => rw [joinP_no e, et]; simp
        rw [str_size, str_size]; omega
      by_cases h0 : 0 < k
      · have p0 := KP h0
        clear KP
        obtain ⟨kp, hkp⟩ : ∃ kp, kindAt ts (k - 1) = kp := ⟨_, rfl⟩
        rw [hkp] at p0
        by_cases hp : kp = 3
        · have J := NO (by unfold sepB; rw [hkp, hp]; simp)
          have q1 : ((kp : Int) != 3) = false := bne_eq_false_iff_eq.2 hp
          clear hkp hp ek et NO YES LE
          generalize str (joinP ts k) = u at *
          go_wp2_with fail
          go_round
          case rel => exact ⟨k + 1, by omega, by go_num, J.out⟩
          case measure => simp [intOf]; omega
        · have q1 : ((kp : Int) != 3) = true := bne_iff_ne.2 hp
          by_cases hk3 : kd = 3
          · have J := NO (by unfold sepB; rw [ek, hk3]; simp)
            have q2 : ((kd : Int) != 3) = false := bne_eq_false_iff_eq.2 hk3
            clear hkp hp ek et hk3 NO YES LE
            generalize str (joinP ts k) = u at *
            go_wp2_with fail
            go_round
            case rel => exact ⟨k + 1, by omega, by go_num, J.out⟩
            case measure => simp [intOf]; omega
          · have J := YES (by unfold sepB; rw [hkp, ek]; simp [h0, hp, hk3])
            have q2 : ((kd : Int) != 3) = true := bne_iff_ne.2 hk3
            clear hkp hp ek et hk3 NO YES LE
            generalize str (joinP ts k) = u at *
            go_wp2_with fail
            go_round
            case rel => exact ⟨k + 1, by omega, by go_num, J.out⟩
            case measure => simp [intOf]; omega
      · have J := NO (by unfold sepB; simp [h0])
        have hk0 : ¬ (0 : Int) < (k : Int) := by omega
        clear KP ek et NO YES LE
        generalize str (joinP ts k) = u at *
        go_wp2_with fail
        go_round
        case rel => exact ⟨k + 1, by omega, by go_num, J.out⟩
        case measure => simp [intOf]; omega
    · obtain rfl : k = n := by omega
      clear H HL
      go_wp2_with fail
      go_ret
      exact ⟨rfl, Below.refl _ _⟩
end Go.Proofs.Ytdgflkkdcejadaa
