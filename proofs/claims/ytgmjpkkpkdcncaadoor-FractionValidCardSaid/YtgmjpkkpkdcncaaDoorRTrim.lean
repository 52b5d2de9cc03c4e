/- The contract of the reference's trim and FromUint: no claim of its own. -/
import Derived.Test.YtgmjpkkpkdcncaaDoorOwns
namespace Go.Proofs.YtgmjpkkpkdcncaaDoor
open Go.RowKit
set_option maxRecDepth 100000 in
set_option maxHeartbeats 1000000 in
theorem rtrim_any (A : Option Addr) (n c : Nat) (xs : List Nat) (w : World) (h : Lst w A n c xs) :
    Calls Tryd.prog 45 #[.slice A n c] w (GivesNum (dval xs) w) := by
  obtain ⟨i0, hi0, hz0, hz1, hz2⟩ := info_parts infoU32
  have hc := h.cap
  have hm := h.room
  have H := Lib.hid h
  clear h
  go_enter Tryd.func45, Tryd.ntmps45
  go_wp2
  go_loop [0] (fun v => ∃ k : Nat, k ≤ n ∧ v = .slice A k c ∧ Hid (∀ j, k ≤ j → xs.getD j 0 = 0)) (fun v => match v with | .slice _ k _ => k | _ => 0)
  case atStart => exact ⟨n, Nat.le_refl _, rfl, Lib.hid fun j hj => by rw [List.getD_eq_getElem?_getD, List.getElem?_eq_none (by have := H.out.len; omega)]; rfl⟩
  case round =>
    obtain ⟨k, hk, rfl, hz⟩ := hrel
    have fin : ((0 < k → xs.getD (k - 1) 0 ≠ 0) → Hid (Tight (xs.take k) ∧ dval (xs.take k) = dval xs ∧ Lst w A k c (xs.take k))) := fun h =>
      Lib.hid ⟨tight_take xs k (by rw [H.out.len]; exact hk) h, dval_take xs k hz.out, ⟨by rw [← Dg_take]; exact H.out.reads.take hk, by have := H.out.len; simp; omega, by omega, by omega, fun d hd => H.out.lt d (List.mem_of_mem_take hd)⟩⟩
    by_cases h0 : 0 < k ∧ xs.getD (k - 1) 0 = 0
    · obtain ⟨ad, rfl, hb, hcell⟩ := H.out.at_ (k := k - 1) (by omega)
      obtain ⟨h0, hd⟩ := h0
      rw [hd] at hcell
      have HD := Lib.hid hd
      clear hd fin
      go_wp2
      go_round
      case rel => exact ⟨k - 1, by omega, rfl, Lib.hid fun j hj => by
          rcases Nat.lt_or_ge j k with h1 | h1
          · rw [show j = k - 1 by omega]; exact HD.out
          · exact hz.out j h1⟩
      case measure => simp; omega
    · have F := fin fun hp he => h0 ⟨hp, he⟩
      clear fin hz
      rcases Nat.eq_zero_or_pos k with hk0 | hk0
      · subst hk0
        clear h0
        go_wp2_with (at_builtin; refine wpList_append_any _ rfl (.tmp 20) (.tmp 21) _ rfl w.heap.size 43 i0 _ 1 4 Tryd.underlying23 hi0 hz0 hz1 hz2 rfl (by omega) (.slice (some ⟨w.heap.size, 0, none⟩) 0 0) 0 [] rfl (World.ownsRow_made w #[] 0 (Nat.le_refl _) (by simp) (by simp)) w.heap.size A 0 c (Dg (xs.take 0)) rfl (F.out.2.2.reads.alloc (Nat.le_refl _) _) (dg_oneCell _) (by simp only [maxLen]; omega) (by omega) (by simp) ?_; intro v1 w1 hown hg hat)
        go_ret
        exact copied_gives hown F.out.2.2.lt F.out.2.2.len (by omega) F.out.1 F.out.2.1 hg
      · obtain ⟨ad, rfl, hb, hcell⟩ := H.out.at_ (k := k - 1) (by omega)
        have hd : xs.getD (k - 1) 0 ≠ 0 := fun e => h0 ⟨hk0, e⟩
        clear h0 hb
        generalize xs.getD (k - 1) 0 = x at *
        have hx : ((x : Int) == 0) = false := beq_eq_false_iff_ne.2 (by omega)
        clear hd
        go_wp2_with (at_builtin; refine wpList_append_any _ rfl (.tmp 20) (.tmp 21) _ rfl w.heap.size 43 i0 _ 1 4 Tryd.underlying23 hi0 hz0 hz1 hz2 rfl (by omega) (.slice (some ⟨w.heap.size, 0, none⟩) 0 0) 0 [] rfl (World.ownsRow_made w #[] 0 (Nat.le_refl _) (by simp) (by simp)) w.heap.size (some ad) k c (Dg (xs.take k)) rfl (F.out.2.2.reads.alloc (Nat.le_refl _) _) (dg_oneCell _) (by simp only [maxLen]; omega) (by omega) (by simp) ?_; intro v1 w1 hown hg hat)
        go_ret
        exact copied_gives hown F.out.2.2.lt F.out.2.2.len (by omega) F.out.1 F.out.2.1 hg
set_option maxRecDepth 100000 in
set_option maxHeartbeats 400000 in
theorem rfromUint_any (x : Nat) (hx : x < 18446744073709551616) (w : World) :
    Calls Tryd.prog 34 #[.int .u64 x] w (GivesNum x w) := by
  have HX := Lib.hid hx
  clear hx
  have L : Lst (w.alloc (.cells #[.int .u32 ((x : Int) % 4294967296), .int .u32 ((x : Int) / 4294967296)] 43)) (some ⟨w.heap.size, 0, none⟩) 2 2 [x % 4294967296, x / 4294967296] :=
    Lst.new w _ _ 2 2 _ (by simp [Dg]) rfl (by decide) (by decide) (by have := HX.out; intro d hd; simp at hd; omega)
  have hv : dval [x % 4294967296, x / 4294967296] = x := by have := HX.out; simp only [dval]; omega
  have hq : (x : Int) / 4294967296 ≤ 4294967295 := by have := HX.out; omega
  have HL := Lib.hid L
  have HV := Lib.hid hv
  clear L hv
  go_enter Tryd.func34, Tryd.ntmps34
  go_wp2_with fail
  refine (rtrim_any _ 2 2 _ _ HL.out).mono ?_
  rintro e w' ⟨A, n, c, ys, rfl, hN, hb⟩
  have g : Hid (GivesNum x w (.returned (.slice A n c)) w') := Lib.hid ⟨A, n, c, ys, rfl, ⟨hN.toLst, hN.tight, hN.val.trans HV.out⟩, ((Below.refl _ _).alloc (Nat.le_refl _) _).trans (hb.mono (by simp))⟩
  clear hN hb
  go_wp2
  go_ret
  exact g.out
end Go.Proofs.YtgmjpkkpkdcncaaDoor
