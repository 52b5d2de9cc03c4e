/- A reader reads a list of digits: the closure in Fraction. No claim of its own. -/
import Derived.Test.YtebfnbnaheolgaaWNil
import Derived.Test.YtebfnbnaheolgaaOwns
namespace Go.Proofs.Ytebfnbnaheolgaa
open Go.RowKit
/-- k digits: what has been read, the bytes left, the error. -/
def digS : Nat → List UInt8 → List Nat → List Nat × List UInt8 × Nat
  | 0, l, acc => (acc, l, 0)
  | k + 1, l, acc => if (uintS l 4294967295).2.2 ≠ 0 then (acc ++ [(uintS l 4294967295).1], [], (uintS l 4294967295).2.2) else digS k (uintS l 4294967295).2.1 (acc ++ [(uintS l 4294967295).1])
def natS (l : List UInt8) : List Nat × List UInt8 × Nat := if (uintS l 2000).2.2 ≠ 0 then ([], [], (uintS l 2000).2.2) else digS (uintS l 2000).1 (uintS l 2000).2.1 []
/-- After some digits. -/
structure NumInv (w : World) (g : Nat) (R : List Nat × List UInt8 × Nat) (k : Nat) (v : Value) (l : List UInt8) (e : Nat) (acc : List Nat) (wr : World) : Prop where
  own : Own wr w.heap.size v acc
  rd : RP wr g l e
  grown : w.grownBy wr (some g)
  lt : g < w.heap.size
  dead : e ≠ 0 → l = []
  len : l.length ≤ 1000000
  room : acc.length + k ≤ 2000
  spec : if e = 0 then digS k l acc = R else R = (acc, [], e)
theorem grown_then {w wr w1 : World} {g : Nat} (h : w.grownBy wr (some g)) (hb : Below w.heap.size wr w1) : w.grownBy w1 (some g) :=
  ⟨hb.os.trans h.os, hb.tape.trans h.tape, hb.output.trans h.output, Nat.le_trans h.size hb.size, fun k hk hne => (hb.block k hk).trans (h.block k hk hne)⟩
theorem Own.grownBy {w w' : World} {B g : Nat} {v : Value} {xs : List Nat} (h : Own w B v xs) (hg : w.grownBy w' (some g)) (hB : g < B) : Own w' B v xs :=
  ⟨h.own.kept hg (by
    cases hv : v.ownBlock with
    | none => exact .inl rfl
    | some k => exact .inr (fun e => by injection e with e; have := (h.own.lt k hv).1; omega)), h.lt⟩
/-- What the closure hands back. -/
def NumPost (g : Nat) (R : List Nat × List UInt8 × Nat) (w : World) (en : Ending) (w' : World) : Prop :=
  ∃ A n c, en = .returned (.slice A n c) ∧ Lst w' A n c R.1 ∧ n ≤ 2000 ∧ (∀ ad, A = some ad → w.heap.size ≤ ad.block) ∧ RP w' g R.2.1 R.2.2 ∧ w.grownBy w' (some g)
theorem NumInv.fin {w : World} {g k : Nat} {R : List Nat × List UInt8 × Nat} {v : Value} {l : List UInt8} {e : Nat} {acc : List Nat} {wr : World} (h : NumInv w g R k v l e acc wr) (hk : k = 0 ∨ e ≠ 0) : NumPost g R w (.returned v) wr := by
  have hR : R = (acc, l, e) := by
    have hs := h.spec
    by_cases he : e = 0
    · have hk0 : k = 0 := hk.resolve_right (fun h => h he)
      subst he; subst hk0
      rw [if_pos rfl] at hs
      exact hs.symm
    · rw [if_neg he] at hs
      rw [hs, h.dead he]
  have ho := h.own.own
  obtain ⟨A, c, rfl, hL⟩ := h.own.lst (by have := h.room; omega)
  refine ⟨A, _, c, rfl, by rw [hR]; exact hL, by have := h.room; omega, fun ad ha => ?_, by rw [hR]; exact h.rd, h.grown⟩
  subst ha
  exact (ho.lt ad.block rfl).1
theorem uintS_ok_len (l : List UInt8) (most : Nat) (h : l.length ≤ 1000000) : (uintS l most).2.1.length ≤ 1000000 := Nat.le_trans (uintS_len l most) h
set_option maxRecDepth 100000 in
set_option maxHeartbeats 4000000 in
theorem numberR_any (p g : Nat) (l : List UInt8) (w : World) (hp : PV w p (.pointer (some ⟨g, 0, none⟩))) (hpg : p ≠ g) (h : RP w g l 0) (hl : l.length ≤ 1000000) :
    Calls Try.prog 44 #[.pointer (some ⟨p, 0, none⟩)] w (NumPost g (natS l) w) := by
  obtain ⟨i0, hi0, hz0, hz1, hz2⟩ := info_parts infoU32
  have U := Lib.hid (uintR_any g l 2000 w h hl)
  have hg := h.lt
  have hpc := hp.cell
  have HP := Lib.hid hp
  have u1 := uintS_le l 2000
  have S0 : Hid (∀ w1, RP w1 g (uintS l 2000).2.1 (uintS l 2000).2.2 → w.grownBy w1 (some g) → NumInv w g (natS l) (uintS l 2000).1 (.slice none 0 0) (uintS l 2000).2.1 (uintS l 2000).2.2 [] w1) := Lib.hid (fun w1 hr hG => by
    refine ⟨Own.nil _ _, hr, hG, hg, fun he => (uintS_dead he).2, uintS_ok_len l _ hl, by simpa using u1, ?_⟩
    unfold natS
    by_cases he : (uintS l 2000).2.2 = 0
    · rw [if_pos he, if_neg (fun h => h he)]
    · rw [if_neg he, if_pos he])
  clear h hl hp
  generalize natS l = R at *
  generalize uintS l 2000 = r at *
  obtain ⟨n, l1, e1⟩ := r
  simp only at u1 S0 U
  go_enter Try.func44, Try.ntmps44
  go_wp2_with fail
  refine U.out.mono ?_
  rintro en w1 ⟨rfl, hr, hG⟩
  have I0 := Lib.hid (S0.out w1 hr hG)
  clear hr hG S0 U hpc
  go_wp2_with fail
  go_loopw [2, 3] (fun v i wr => ∃ (k : Nat) (l' : List UInt8) (e' : Nat) (acc : List Nat), k ≤ 2000 ∧ i = .int .u64 k ∧ Hid (NumInv w g R k v l' e' acc wr)) (fun _ i _ => (intOf i).toNat)
  case atStart => exact ⟨n, _, _, _, u1, rfl, I0⟩
  case round =>
    clear I0
    obtain ⟨k, l', e', acc, hk, rfl, hi⟩ := hrel
    have hpc := (HP.out.off hi.out.grown hpg).cell
    by_cases hk0 : 0 < k
    · have E := Lib.hid (err_live g l' e' wr hi.out.rd)
      by_cases he : e' = 0
      · subst he
        have U := Lib.hid (uintR_any g l' 4294967295 wr hi.out.rd hi.out.len)
        have u2 := uintS_le l' 4294967295
        have ST : Hid (if (uintS l' 4294967295).2.2 = 0 then digS (k - 1) (uintS l' 4294967295).2.1 (acc ++ [(uintS l' 4294967295).1]) = R else R = (acc ++ [(uintS l' 4294967295).1], [], (uintS l' 4294967295).2.2)) := Lib.hid (by
          have hs := hi.out.spec
          rw [if_pos rfl, show k = k - 1 + 1 by omega, digS] at hs
          by_cases hx : (uintS l' 4294967295).2.2 = 0
          · rw [if_neg (fun h => h hx)] at hs; rw [if_pos hx]; exact hs
          · rw [if_pos hx] at hs; rw [if_neg hx]; exact hs.symm)
        have DD := Lib.hid (fun he => (uintS_dead (l := l') (most := 4294967295) he).2)
        have LL := Lib.hid (uintS_ok_len l' 4294967295 hi.out.len)
        generalize uintS l' 4294967295 = r at *
        obtain ⟨d, l2, e2⟩ := r
        simp only at u2 U ST DD LL
        have ds : IntKind.u32.wrap (d : Int) = (d : Int) := by rw [IntKind.wrap_u32]; omega
        go_wp2_with fail
        refine E.out.mono ?_
        rintro en w' ⟨rfl, rfl⟩
        go_wp2_with fail
        refine U.out.mono ?_
        rintro en w2 ⟨rfl, hr, hG⟩
        have hrm := hi.out.room
        have OW := Lib.hid (hi.out.own.grownBy hG hi.out.lt)
        have RR := Lib.hid hr
        have GG := Lib.hid (grown_trans hi.out.grown hG)
        have hg1 := hi.out.lt
        have hsz : w.heap.size ≤ w2.heap.size := GG.out.size
        clear hr hG hi U E hpc
        go_wp2_with (at_builtin; refine wpList_append_own _ rfl _ _ 38 rfl w.heap.size 63 i0 (.int .u32 0) 1 4 Try.underlying38 hi0 hz0 hz1 hz2 rfl (by decide) _ _ _ rfl (OW.out.own.alloc _) ⟨w2.heap.size, 0, none⟩ 1 1 [.int .u32 (d : Int)] rfl rfl ?c1 ?c2 ?c3 ?c4 ?c5 ?_)
        case c1 =>
          intro j u hj
          match j, hj with
          | 0, hj => simp at hj; subst hj; simp [Addr.add]
        case c2 => intro u hu; simp at hu; subst hu; rfl
        case c3 => unfold maxLen; omega
        case c4 => omega
        case c5 => simp; omega
        intro v' w3 hown' hgrow _
        have RA := OW.out.app (w := w2) (B := w.heap.size) (d := d) (Below.refl _ _) hsz hown' rfl (by omega) hgrow
        have I3 : Hid (NumInv w g R (k - 1) v' l2 e2 (acc ++ [d]) w3) := Lib.hid
          ⟨RA.1, (RA.2.block g hg1).trans RR.out, grown_then GG.out RA.2, hg1, DD.out, LL.out, by simp; omega, ST.out⟩
        clear hown' hgrow RA OW RR GG ST DD LL
        go_wp2
        go_roundw
        case rel => exact ⟨k - 1, l2, e2, acc ++ [d], by omega, by go_num, I3⟩
        case measure => simp [intOf]; omega
      · have n0 : ((e' : Int) == 0) = false := beq_eq_false_iff_ne.2 (by omega)
        have F := Lib.hid (hi.out.fin (.inr he))
        clear hi he
        go_wp2_with fail
        refine E.out.mono ?_
        rintro en w' ⟨rfl, rfl⟩
        go_wp2
        go_ret
        exact F.out
    · have F := Lib.hid (hi.out.fin (.inl (by omega)))
      clear hi
      obtain rfl : k = 0 := by omega
      go_wp2
      go_ret
      exact F.out
end Go.Proofs.Ytebfnbnaheolgaa
