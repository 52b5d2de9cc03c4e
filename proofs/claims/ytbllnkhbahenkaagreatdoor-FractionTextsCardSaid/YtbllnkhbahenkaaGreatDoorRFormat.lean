/- The contract of the reference's Format: no claim of its own. -/
import Derived.Test.YtbllnkhbahenkaaGreatDoorRSmall
import Derived.Test.YtbllnkhbahenkaaGreatDoorFormat
import Derived.Test.YtbllnkhbahenkaaGreatDoorSub
namespace Go.Proofs.YtbllnkhbahenkaaGreatDoor
open Go.RowKit
theorem rfmt_step (l : List Nat) (x a : Nat) (h : rn l + 10 ^ l.length * x = a) : rn (l ++ [48 + x % 10]) + 10 ^ (l ++ [48 + x % 10]).length * (x / 10) = a := by
  rw [rn_append, List.length_append, List.length_singleton, Nat.pow_succ]
  simp only [rn]
  have e := Nat.div_add_mod x 10
  rw [show 48 + x % 10 - 48 = x % 10 by omega]
  generalize x / 10 = q at *
  generalize x % 10 = r at *
  generalize 10 ^ l.length = T at *
  subst e
  grind
theorem rfmt_fin (l : List Nat) (x a : Nat) (hd : ∀ d ∈ l, 48 ≤ d ∧ d ≤ 57) (h : rn l + 10 ^ l.length * x = a) (hx : l = [] ∨ 0 < x) (h0 : x / 10 = 0) : isText ((l ++ [48 + x % 10]).reverse.map UInt8.ofNat) a := by
  have st := rfmt_step l x a h
  rw [h0, Nat.mul_zero, Nat.add_zero] at st
  have hd' : ∀ d ∈ l ++ [48 + x % 10], 48 ≤ d ∧ d ≤ 57 := fun d hm => by
    rcases List.mem_append.1 hm with h1 | h1
    · exact hd d h1
    · simp at h1; omega
  rcases Nat.eq_zero_or_pos a with ha | ha
  · have hl : l = [] := by
      rcases hx with h1 | h1
      · exact h1
      · have h2 : 10 ^ l.length * 1 ≤ 10 ^ l.length * x := Nat.mul_le_mul_left _ h1
        have h3 : 0 < 10 ^ l.length := Nat.pow_pos (by decide)
        omega
    subst hl
    simp [rn] at h
    have hx0 : x = 0 := by omega
    subst hx0
    exact ⟨[48], by decide, by simp, by intro c hc; simp at hc; subst hc; exact ⟨by decide, by decide⟩, .inr rfl, by rw [ha]; rfl⟩
  · have := text_of (l ++ [48 + x % 10]) (l ++ [48 + x % 10]).length a hd' (Nat.le_refl _) (fun j h1 h2 => by omega) (fun _ => by
      rw [List.length_append, List.length_singleton, Nat.add_sub_cancel, List.getD_eq_getElem?_getD, List.getElem?_append_right (Nat.le_refl _), Nat.sub_self]
      simp only [List.getElem?_cons_zero, Option.getD_some]
      rcases hx with h1 | h1
      · subst h1
        simp [rn] at h
        omega
      · omega) st ha
    rw [List.take_of_length_le (Nat.le_refl _)] at this
    exact this.2
def RFmtInv (a : Nat) (w : World) (A : Option Addr) (n c x : Nat) (s : ByteArray) (b : Bool) (wr : World) : Prop :=
  (∃ xs, Num wr A n c xs x) ∧ Below w.heap.size w wr ∧ (b = false → isText s.data.toList a) ∧
  (b = true → ∃ l : List Nat, s.data.toList = l.reverse.map UInt8.ofNat ∧ (∀ d ∈ l, 48 ≤ d ∧ d ≤ 57) ∧ rn l + 10 ^ l.length * x = a ∧ (l = [] ∨ 0 < x))
theorem rfmt_len (n0 a x : Nat) (l : List Nat) (ha : a < 4294967296 ^ n0) (h : rn l + 10 ^ l.length * x = a) (hx : l = [] ∨ 0 < x) : l.length ≤ 10 * n0 := by
  rcases hx with h1 | h1
  · subst h1; simp
  · have h3 : 10 ^ l.length * 1 ≤ 10 ^ l.length * x := Nat.mul_le_mul_left _ h1
    have h4 : (4294967296 : Nat) ^ n0 ≤ (10 ^ 10) ^ n0 := Nat.pow_le_pow_left (by decide) _
    rw [← Nat.pow_mul] at h4
    have h5 : 10 ^ l.length < 10 ^ (10 * n0) := by omega
    exact Nat.le_of_lt ((Nat.pow_lt_pow_iff_right (by decide : 1 < 10)).1 h5)
def strLen : Value → Nat | .string s => s.size | _ => 0
set_option maxRecDepth 100000 in
set_option maxHeartbeats 1000000 in
theorem rformat_any (A : Option Addr) (n0 c0 a : Nat) (xs : List Nat) (w : World) (h : Num w A n0 c0 xs a) (hn0 : n0 ≤ 1000000) :
    Calls Tryz.prog 28 #[.slice A n0 c0] w (GivesText a w) := by
  obtain ⟨i0, hi0, hz0, hz1, hz2⟩ := info_parts infoU8
  have HA := Lib.hid h.lt_pow
  have I0 : Hid (RFmtInv a w A n0 c0 a ByteArray.empty true w) := Lib.hid (show RFmtInv a w A n0 c0 a ByteArray.empty true w from ⟨⟨_, h⟩, Below.refl _ _, (fun h => by cases h), fun _ => ⟨[], rfl, by simp, by simp [rn], .inl rfl⟩⟩)
  clear h
  go_enter Tryz.func28, Tryz.ntmps28
  go_wp2
  go_loopw [0, 3, 4] (fun av sv bv wr => ∃ (A' : Option Addr) (n c x : Nat) (s : ByteArray) (b : Bool), n ≤ n0 ∧ av = .slice A' n c ∧ sv = .string s ∧ bv = .bool b ∧ Hid (RFmtInv a w A' n c x s b wr)) (fun _ sv _ _ => 10 * n0 + 20 - strLen sv)
  case atStart => exact ⟨_, _, _, _, _, _, Nat.le_refl _, rfl, rfl, rfl, I0⟩
  case round =>
    obtain ⟨A', n, c, x, s, b, hn, rfl, rfl, rfl, hi⟩ := hrel
    cases b
    · have G : Hid (GivesText a w (.returned (.string s)) wr) := Lib.hid ⟨s, rfl, hi.out.2.2.1 rfl, hi.out.2.1⟩
      clear hi I0
      go_wp2
      go_ret
      exact G.out
    · obtain ⟨⟨xs', hN⟩, hb, _, hl⟩ := hi.out
      obtain ⟨l, hs, hd, hv, hx⟩ := hl rfl
      have hlen := rfmt_len n0 a x l HA.out hv hx
      have hsz : s.size = l.length := by have := congrArg List.length hs; simpa using this
      have SM := Lib.hid (rsmall_any A' n c x xs' wr hN (by omega))
      have FIN := Lib.hid (fun h0 => rfmt_fin l x a hd hv hx h0)
      have STP := Lib.hid (rfmt_step l x a hv)
      have HS := Lib.hid hs
      have HD := Lib.hid hd
      have SZ := Lib.hid hsz
      have HB := Lib.hid hb
      have HN := Lib.hid hN
      have hm : x % 10 < 10 := Nat.mod_lt _ (by decide)
      obtain ⟨r, hr⟩ : ∃ r, x % 10 = r := ⟨_, rfl⟩
      rw [hr] at SM FIN STP hm
      clear hi hN hb hl hs hd hv hx hsz I0 hr
      go_wp2_with fail
      refine SM.out.mono ?_
      rintro e w1 ⟨A1, n1, c1, xs1, rfl, hN1, hb1⟩
      have hle : n1 ≤ n0 := Nat.le_trans (HN.out.len_mono hN1 (Nat.div_le_self _ _)) hn
      have conv := run_convert_bytes_arg (P := Tryz.prog) (w1.alloc (.cells #[.int .u8 (48 + (r : Int))] 5)) 80 5 Tryz.underlying80 Tryz.underlying5 w1.heap.size 0 1 1 [48 + (r : Int)] rfl (fun i hi' => by
        obtain rfl : i = 0 := by omega
        simp) 9 Tryz.underlying9
      have TD : Hid ((strOfNums [48 + (r : Int)]).data.toList = [UInt8.ofNat (48 + r)]) := Lib.hid (by
        rw [strOfNums_data]
        simp only [List.map_cons, List.map_nil]
        rw [show (48 + (r : Int)).toNat = 48 + r by omega])
      have tsz : (strOfNums [48 + (r : Int)]).size = 1 := strOfNums_size _
      generalize strOfNums [48 + (r : Int)] = t at *
      have TS := Lib.hid tsz
      have sz1 := SZ.out
      have hss : s.size ≤ 10000000 := by omega
      have hts : t.size ≤ 1 := by omega
      clear SM tsz sz1
      have R : Hid (RFmtInv a w A1 n1 c1 (x / 10) (t ++ s) (decide (0 < n1)) (w1.alloc (.cells #[.int .u8 (48 + (r : Int))] 5))) := Lib.hid (by
        have dat : (t ++ s).data.toList = UInt8.ofNat (48 + r) :: l.reverse.map UInt8.ofNat := by
          rw [ByteArray.data_append, Array.toList_append, TD.out, HS.out]; rfl
        refine ⟨⟨_, hN1.keep ((Below.refl _ _).alloc (Nat.le_refl _) _)⟩, (HB.out.trans (hb1.mono HB.out.size)).alloc (Nat.le_trans HB.out.size hb1.size) _, fun hf => ?_, fun ht => ⟨l ++ [48 + r], by rw [dat]; simp, fun d hm' => ?_, STP.out, .inr ?_⟩⟩
        · have h0 : n1 = 0 := by simpa using hf
          subst h0
          have h1 := hN1.len
          have h2 := hN1.val
          have h3 : xs1 = [] := List.eq_nil_of_length_eq_zero h1
          rw [h3] at h2
          have := FIN.out (by simpa [dval] using h2.symm)
          rw [dat]
          simpa using this
        · rcases List.mem_append.1 hm' with h1 | h1
          · exact HD.out d h1
          · simp at h1; omega
        · exact hN1.pos (by simpa using ht))
      have TSS : Hid ((t ++ s).size = s.size + 1) := Lib.hid (by rw [ByteArray.size_append, TS.out, Nat.add_comm])
      clear hN1 hb1
      go_wp2
      go_roundw
      case rel => exact ⟨_, _, _, _, _, _, hle, rfl, rfl, rfl, R⟩
      case measure =>
        simp only [strLen]
        have := TSS.out
        have := SZ.out
        omega
end Go.Proofs.YtbllnkhbahenkaaGreatDoor
