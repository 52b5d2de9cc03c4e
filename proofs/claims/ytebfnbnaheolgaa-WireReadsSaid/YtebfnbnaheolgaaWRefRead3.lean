/- The reference's reader: digits, Fraction. No claim of its own. -/
import Derived.Test.YtebfnbnaheolgaaWRefRead2
namespace Go.Proofs.Ytebfnbnaheolgaa
open Go.RowKit
theorem RR.offs {w : World} {g f o : Nat} {l : List UInt8} {e : Int} {v : Value} (h : RR w g l e) (hne : g ≠ f) : RR (w.setCell ⟨f, o, none⟩ v) g l e := h.off (grown_set w f o v) hne
/-- After some digits. -/
structure RNumInv (w : World) (g : Nat) (R : List Nat × List UInt8 × Nat) (k : Nat) (v : Value) (l : List UInt8) (e : Nat) (acc : List Nat) (wr : World) : Prop where
  own : Own wr w.heap.size v acc
  rd : RR wr g l e
  grown : w.grownBy wr (some g)
  lt : g < w.heap.size
  dead : e ≠ 0 → l = []
  len : l.length ≤ 1000000
  room : acc.length + k ≤ 2000
  spec : if e = 0 then digS k l acc = R else R = (acc, [], e)
def RNumPost (g : Nat) (R : List Nat × List UInt8 × Nat) (w : World) (en : Ending) (w' : World) : Prop :=
  ∃ A n c, en = .returned (.slice A n c) ∧ Lst w' A n c R.1 ∧ n ≤ 2000 ∧ (∀ ad, A = some ad → w.heap.size ≤ ad.block) ∧ RR w' g R.2.1 R.2.2 ∧ w.grownBy w' (some g)
theorem RNumInv.fin {w : World} {g k : Nat} {R : List Nat × List UInt8 × Nat} {v : Value} {l : List UInt8} {e : Nat} {acc : List Nat} {wr : World} (h : RNumInv w g R k v l e acc wr) (hk : k = 0 ∨ e ≠ 0) : RNumPost g R w (.returned v) wr := by
  have hR : R = (acc, l, e) := by
    have hs := h.spec
    by_cases he : e = 0
    · have hk0 : k = 0 := hk.resolve_right (fun h => h he)
      subst he; subst hk0
      rw [if_pos rfl] at hs
      exact hs.symm
    · rw [if_neg he] at hs
      rw [hs, h.dead he]
  have ho := h.own.own
  obtain ⟨A, c, rfl, hL⟩ := h.own.lst (by have := h.room; omega)
  refine ⟨A, _, c, rfl, by rw [hR]; exact hL, by have := h.room; omega, fun ad ha => ?_, by rw [hR]; exact h.rd, h.grown⟩
  subst ha
  exact (ho.lt ad.block rfl).1
set_option maxRecDepth 100000 in
set_option maxHeartbeats 4000000 in
theorem rnumber_any (g : Nat) (l : List UInt8) (w : World) (h : RR w g l 0) (hl : l.length ≤ 1000000) :
    Calls Try.prog 59 #[.pointer (some ⟨g, 0, none⟩)] w (RNumPost g (natS l) w) := by
  obtain ⟨i0, hi0, hz0, hz1, hz2⟩ := info_parts infoU32
  have U := Lib.hid (ruintR_any g l 2000 w h hl)
  have hg := h.lt
  have u1 := uintS_le l 2000
  have S0 : Hid (∀ w1, RR w1 g (uintS l 2000).2.1 (uintS l 2000).2.2 → w.grownBy w1 (some g) → RNumInv w g (natS l) (uintS l 2000).1 (.slice none 0 0) (uintS l 2000).2.1 (uintS l 2000).2.2 [] w1) := Lib.hid (fun w1 hr hG => by
    refine ⟨Own.nil _ _, hr, hG, hg, fun he => (uintS_dead he).2, uintS_ok_len l _ hl, by simpa using u1, ?_⟩
    unfold natS
    by_cases he : (uintS l 2000).2.2 = 0
    · rw [if_pos he, if_neg (fun h => h he)]
    · rw [if_neg he, if_pos he])
  clear h hl
  generalize natS l = R at *
  generalize uintS l 2000 = r at *
  obtain ⟨n, l1, e1⟩ := r
  simp only at u1 S0 U
  go_enter Try.func59, Try.ntmps59
  go_wp2_with fail
  refine U.out.mono ?_
  rintro en w1 ⟨rfl, hr, hG⟩
  have I0 := Lib.hid (S0.out w1 hr hG)
  clear hr hG S0 U
  go_wp2_with fail
  go_loopw [4, 5] (fun v i wr => ∃ (k : Nat) (l' : List UInt8) (e' : Nat) (acc : List Nat), k ≤ n ∧ i = .int .u64 k ∧ Hid (RNumInv w g R (n - k) v l' e' acc wr)) (fun _ i _ => n - (intOf i).toNat)
  case atStart => exact ⟨0, _, _, _, by omega, rfl, I0⟩
  case round =>
    clear I0
    obtain ⟨k, l', e', acc, hk, rfl, hi⟩ := hrel
    obtain ⟨s, hs, hz, q0, q1, q2, q3⟩ := hi.out.rd.facts
    clear hs
    by_cases hk0 : k < n
    · by_cases he : e' = 0
      · subst he
        have U := Lib.hid (ruintR_any g l' 4294967295 wr hi.out.rd hi.out.len)
        have u2 := uintS_le l' 4294967295
        have ST : Hid (if (uintS l' 4294967295).2.2 = 0 then digS (n - (k + 1)) (uintS l' 4294967295).2.1 (acc ++ [(uintS l' 4294967295).1]) = R else R = (acc ++ [(uintS l' 4294967295).1], [], (uintS l' 4294967295).2.2)) := Lib.hid (by
          have hs := hi.out.spec
          rw [if_pos rfl, show n - k = n - (k + 1) + 1 by omega, digS] at hs
          by_cases hx : (uintS l' 4294967295).2.2 = 0
          · rw [if_neg (fun h => h hx)] at hs; rw [if_pos hx]; exact hs
          · rw [if_pos hx] at hs; rw [if_neg hx]; exact hs.symm)
        have DD := Lib.hid (fun he => (uintS_dead (l := l') (most := 4294967295) he).2)
        have LL := Lib.hid (uintS_ok_len l' 4294967295 hi.out.len)
        generalize uintS l' 4294967295 = r at *
        obtain ⟨d, l2, e2⟩ := r
        simp only at u2 U ST DD LL
        have ds : IntKind.u32.wrap (d : Int) = (d : Int) := by rw [IntKind.wrap_u32]; omega
        go_wp2_with fail
        refine U.out.mono ?_
        rintro en w2 ⟨rfl, hr, hG⟩
        have hrm := hi.out.room
        have OW := Lib.hid (hi.out.own.grownBy hG hi.out.lt)
        have RW := Lib.hid hr
        have GG := Lib.hid (grown_trans hi.out.grown hG)
        have hg1 := hi.out.lt
        have hsz : w.heap.size ≤ w2.heap.size := GG.out.size
        clear hr hG hi U q0 q1 q2 q3
        go_wp2_with (at_builtin; refine wpList_append_own _ rfl _ _ 38 rfl w.heap.size 63 i0 (.int .u32 0) 1 4 Try.underlying38 hi0 hz0 hz1 hz2 rfl (by decide) _ _ _ rfl (OW.out.own.alloc _) ⟨w2.heap.size, 0, none⟩ 1 1 [.int .u32 (d : Int)] rfl rfl ?c1 ?c2 ?c3 ?c4 ?c5 ?_)
        case c1 =>
          intro j u hj
          match j, hj with
          | 0, hj => simp at hj; subst hj; simp [Addr.add]
        case c2 => intro u hu; simp at hu; subst hu; rfl
        case c3 => unfold maxLen; omega
        case c4 => omega
        case c5 => simp; omega
        intro v' w3 hown' hgrow _
        have RA := OW.out.app (w := w2) (B := w.heap.size) (d := d) (Below.refl _ _) hsz hown' rfl (by omega) hgrow
        have I3 : Hid (RNumInv w g R (n - (k + 1)) v' l2 e2 (acc ++ [d]) w3) := Lib.hid
          ⟨RA.1, by
            obtain ⟨s0, b1, b2⟩ := RW.out
            exact ⟨s0, (RA.2.block g hg1).trans b1, b2⟩, grown_then GG.out RA.2, hg1, DD.out, LL.out, by simp; omega, ST.out⟩
        clear hown' hgrow RA OW RW GG ST DD LL
        go_wp2
        go_roundw
        case rel => exact ⟨k + 1, l2, e2, acc ++ [d], by omega, by go_num, I3⟩
        case measure => simp [intOf]; omega
      · have n0 : ((e' : Int) == 0) = false := beq_eq_false_iff_ne.2 (by omega)
        have F := Lib.hid (hi.out.fin (.inr he))
        clear hi he
        go_wp2
        go_ret
        exact F.out
    · have F := Lib.hid (hi.out.fin (.inl (by omega)))
      clear hi
      go_wp2
      go_ret
      exact F.out
set_option maxRecDepth 100000 in
set_option maxHeartbeats 1000000 in
theorem rnumber_dead (g : Nat) (l : List UInt8) (e : Int) (w : World) (h : RR w g l e) (he : e ≠ 0) :
    Calls Try.prog 59 #[.pointer (some ⟨g, 0, none⟩)] w fun en w' => en = .returned (.slice none 0 0) ∧ w = w' := by
  have U := Lib.hid (ruintR_dead g l e 2000 w h he)
  clear h
  go_enter Try.func59, Try.ntmps59
  go_wp2_with fail
  refine U.out.mono ?_
  rintro en w' ⟨rfl, rfl⟩
  go_wp2_with fail
  refine wp_loop_rounds 1 ?_
  rw [rounds_succ]
  go_wp2
  go_ret
  exact ⟨rfl, rfl⟩
theorem rnumber_both (g : Nat) (l : List UInt8) (e : Nat) (w : World) (h : RR w g l e) (hd : e ≠ 0 → l = []) (hl : l.length ≤ 1000000) :
    Calls Try.prog 59 #[.pointer (some ⟨g, 0, none⟩)] w (RNumPost g (natS2 (l, e)) w) := by
  by_cases he : e = 0
  · subst he
    have e1 : natS2 (l, 0) = natS l := by unfold natS2; exact if_neg (fun h => h rfl)
    rw [e1]
    exact rnumber_any g l w h hl
  · obtain rfl := hd he
    have e1 : natS2 ([], e) = ([], [], e) := by unfold natS2; exact if_pos he
    rw [e1]
    refine (rnumber_dead g _ e w h (by omega)).mono ?_
    rintro en w' ⟨rfl, rfl⟩
    exact ⟨none, 0, 0, rfl, zeroLst _, by decide, (fun ad h => by cases h), h, World.grownBy.refl w _⟩
end Go.Proofs.Ytebfnbnaheolgaa
