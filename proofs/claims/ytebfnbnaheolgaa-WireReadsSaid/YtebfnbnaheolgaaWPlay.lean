/- Two readers, side by side: play. No claim of its own. -/
import Derived.Test.YtebfnbnaheolgaaWRefRead4
namespace Go.Proofs.Ytebfnbnaheolgaa
open Go.RowKit
/-- Both readers, in the same state. -/
structure Two (gr gm : Nat) (l : List UInt8) (e : Int) (w : World) : Prop where
  rp : RP w gr l e
  rr : RR w gm l e
  dead : e ≠ 0 → l = []
  len : l.length ≤ 1000000
  ne : gr ≠ gm
theorem Two.keep {gr gm : Nat} {l : List UInt8} {e : Int} {w w1 : World} (h : Two gr gm l e w) (hb : Below w.heap.size w w1) : Two gr gm l e w1 := ⟨h.rp.keep hb, h.rr.keep hb, h.dead, h.len, h.ne⟩
theorem rd_same {v : Value} {g : Nat} {l : List UInt8} {e : Int} {w : World} (h : RP w g l e) {en : Ending} {w' : World} (k : en = .returned v ∧ w = w') : Rd v g l e w en w' := by
  obtain ⟨rfl, rfl⟩ := k; exact ⟨rfl, h, World.grownBy.refl w _⟩
theorem rr_same {v : Value} {g : Nat} {l : List UInt8} {e : Int} {w : World} (h : RR w g l e) {en : Ending} {w' : World} (k : en = .returned v ∧ w = w') : Rr v g l e w en w' := by
  obtain ⟨rfl, rfl⟩ := k; exact Rr.same h

theorem uint_pair (l : List UInt8) (e : Int) (most : Nat) (hd : e ≠ 0 → l = []) (hl : l.length ≤ 1000000)  : ∃ (x : Nat) (l' : List UInt8) (e' : Int), (e' ≠ 0 → l' = []) ∧ l'.length ≤ 1000000 ∧ (∀ g w, RP w g l e → Calls Try.prog 14 #[.pointer (some ⟨g, 0, none⟩), .int .u64 most] w (Rd (.int .u64 x) g l' e' w)) ∧ (∀ g w, RR w g l e → Calls Try.prog 46 #[.pointer (some ⟨g, 0, none⟩), .int .u64 most] w (Rr (.int .u64 x) g l' e' w)) := by
  by_cases he : e = 0
  · subst he
    exact ⟨(uintS l most).1, (uintS l most).2.1, (uintS l most).2.2, fun h => (uintS_dead (by omega)).2, uintS_ok_len l most hl, fun g w h => uintR_any g l most w h hl, fun g w h => ruintR_any g l most w h hl⟩
  · obtain rfl := hd he
    exact ⟨0, [], e, fun _ => rfl, by simp, fun g w h => (uintR_dead _ e most w (h.dead he)).mono fun _ _ k => rd_same h k, fun g w h => (ruintR_dead g [] e most w h he).mono fun _ _ k => rr_same h k⟩
theorem int_pair (l : List UInt8) (e : Int)  (hd : e ≠ 0 → l = []) (hl : l.length ≤ 1000000)  : ∃ (x : Int) (l' : List UInt8) (e' : Int), (e' ≠ 0 → l' = []) ∧ l'.length ≤ 1000000 ∧ (∀ g w, RP w g l e → Calls Try.prog 15 #[.pointer (some ⟨g, 0, none⟩)] w (Rd (.int .i64 x) g l' e' w)) ∧ (∀ g w, RR w g l e → Calls Try.prog 47 #[.pointer (some ⟨g, 0, none⟩)] w (Rr (.int .i64 x) g l' e' w)) := by
  by_cases he : e = 0
  · subst he
    exact ⟨unfoldI (uintS l 18446744073709551615).1, (uintS l 18446744073709551615).2.1, (uintS l 18446744073709551615).2.2, fun h => (uintS_dead (by omega)).2, uintS_ok_len l _ hl, fun g w h => intR_any g l w h hl, fun g w h => rintR_any g l w h hl⟩
  · obtain rfl := hd he
    exact ⟨0, [], e, fun _ => rfl, by simp, fun g w h => (intR_dead _ e w (h.dead he)).mono fun _ _ k => rd_same h k, fun g w h => (rintR_dead g [] e w h he).mono fun _ _ k => rr_same h k⟩
theorem text_pair (l : List UInt8) (e : Int) (most : Int) (hd : e ≠ 0 → l = []) (hl : l.length ≤ 1000000) (hm0 : -9223372036854775808 ≤ most) (hm1 : most ≤ 9223372036854775807) : ∃ (x : ByteArray) (l' : List UInt8) (e' : Int), (e' ≠ 0 → l' = []) ∧ l'.length ≤ 1000000 ∧ (∀ g w, RP w g l e → Calls Try.prog 20 #[.pointer (some ⟨g, 0, none⟩), .int .i64 most] w (Rd (.string x) g l' e' w)) ∧ (∀ g w, RR w g l e → Calls Try.prog 48 #[.pointer (some ⟨g, 0, none⟩), .int .i64 most] w (Rr (.string x) g l' e' w)) := by
  by_cases he : e = 0
  · subst he
    exact ⟨str (textS l most).1, (textS l most).2.1, (textS l most).2.2, fun h => textS_dead (by omega), Nat.le_trans textS_len.2 hl, fun g w h => textR_any g l most w hm0 hm1 h hl, fun g w h => rtextR_any g l most w hm0 hm1 h hl⟩
  · obtain rfl := hd he
    exact ⟨⟨#[]⟩, [], e, fun _ => rfl, by simp, fun g w h => (textR_dead _ e most w hm0 hm1 (h.dead he)).mono fun _ _ k => rd_same h k, fun g w h => (rtextR_dead g [] e most w h he).mono fun _ _ k => rr_same h k⟩
theorem left_pair {gr gm : Nat} {l : List UInt8} {e : Int} {w : World} (h : Two gr gm l e w) :
    Calls Try.prog 21 #[.pointer (some ⟨gr, 0, none⟩)] w (fun en w' => en = .returned (.int .i64 (l.length : Nat)) ∧ w = w') ∧ Calls Try.prog 31 #[.pointer (some ⟨gm, 0, none⟩)] w (fun en w' => en = .returned (.int .i64 (l.length : Nat)) ∧ w = w') :=
  ⟨left_live gr l e w h.rp, rleft_any gm l e w h.rr h.dead⟩
theorem err_pair {gr gm : Nat} {l : List UInt8} {e : Int} {w : World} (h : Two gr gm l e w) :
    Calls Try.prog 29 #[.pointer (some ⟨gr, 0, none⟩)] w (fun en w' => en = .returned (.int .i64 e) ∧ w = w') ∧ Calls Try.prog 30 #[.pointer (some ⟨gm, 0, none⟩)] w (fun en w' => en = .returned (.int .i64 e) ∧ w = w') :=
  ⟨err_live gr l e w h.rp, rerr_any gm l e w h.rr⟩
theorem fail_pair (l : List UInt8) (e k : Int) (hd : e ≠ 0 → l = []) (hl : l.length ≤ 1000000) : ∃ (l' : List UInt8) (e' : Int), (e' ≠ 0 → l' = []) ∧ l'.length ≤ 1000000 ∧ (∀ g w, RP w g l e → Calls Try.prog 32 #[.pointer (some ⟨g, 0, none⟩), .int .i64 k] w (Rd (.tuple #[]) g l' e' w)) ∧ (∀ g w, RR w g l e → Calls Try.prog 50 #[.pointer (some ⟨g, 0, none⟩), .int .i64 k] w (Rr (.tuple #[]) g l' e' w)) := by
  by_cases he : e = 0
  · subst he
    by_cases hk : k = 0
    · subst hk
      refine ⟨l, 0, fun h => absurd rfl h, hl, fun g w h => (fail_zero g l w h).mono fun _ _ k => rd_same h k, fun g w h => ?_⟩
      have := rfail_any g l 0 0 w h
      rwa [if_neg (fun h => h.2 rfl), if_pos rfl] at this
    · refine ⟨[], k, fun _ => rfl, by simp, fun g w h => fail_live g l k w h hk, fun g w h => ?_⟩
      have := rfail_any g l 0 k w h
      rwa [if_pos ⟨rfl, hk⟩, if_pos rfl] at this
  · obtain rfl := hd he
    refine ⟨[], e, fun _ => rfl, by simp, fun g w h => (fail_dead _ e k w (h.dead he)).mono fun _ _ k => rd_same h k, fun g w h => ?_⟩
    have := rfail_any g [] e k w h
    rwa [if_neg (fun h => he h.1), if_neg he] at this
theorem end_pair (l : List UInt8) (e : Int) (hd : e ≠ 0 → l = []) (hl : l.length ≤ 1000000) : ∃ (x : Int) (l' : List UInt8) (e' : Int), (e' ≠ 0 → l' = []) ∧ l'.length ≤ 1000000 ∧ (∀ g w, RP w g l e → Calls Try.prog 16 #[.pointer (some ⟨g, 0, none⟩)] w (Rd (.int .i64 x) g l' e' w)) ∧ (∀ g w, RR w g l e → Calls Try.prog 51 #[.pointer (some ⟨g, 0, none⟩)] w (Rr (.int .i64 x) g l' e' w)) := by
  by_cases he : e = 0
  · subst he
    by_cases hp : 0 < l.length
    · refine ⟨3, [], 3, fun _ => rfl, by simp, fun g w h => endR_long g l w h hp, fun g w h => ?_⟩
      have := rend_any g l 0 w h
      rwa [if_pos ⟨rfl, hp⟩, if_pos ⟨rfl, hp⟩] at this
    · obtain rfl : l = [] := List.eq_nil_of_length_eq_zero (by omega)
      refine ⟨0, [], 0, fun _ => rfl, by simp, fun g w h => (endR_done g w h).mono fun _ _ k => rd_same h k, fun g w h => ?_⟩
      have := rend_any g [] 0 w h
      rwa [if_neg (fun h => hp h.2), if_neg (fun h => hp h.2)] at this
  · obtain rfl := hd he
    refine ⟨e, [], e, fun _ => rfl, by simp, fun g w h => (endR_dead _ e w (h.dead he)).mono fun _ _ k => rd_same h k, fun g w h => ?_⟩
    have := rend_any g [] e w h
    rwa [if_neg (fun h => he h.1), if_neg (fun h => he h.1)] at this
/-- A fraction and a state. -/
def FrD (s : Bool) (xs ys : List Nat) (g : Nat) (l : List UInt8) (e : Int) (w : World) (en : Ending) (w' : World) : Prop := ∃ A n c B m d, en = .returned (.agg #[.bool s, .slice A n c, .slice B m d]) ∧ Lst w' A n c xs ∧ Lst w' B m d ys ∧ RP w' g l e ∧ w.grownBy w' (some g)
def FrR (s : Bool) (xs ys : List Nat) (g : Nat) (l : List UInt8) (e : Int) (w : World) (en : Ending) (w' : World) : Prop := ∃ A n c B m d, en = .returned (.agg #[.bool s, .slice A n c, .slice B m d]) ∧ Lst w' A n c xs ∧ Lst w' B m d ys ∧ RR w' g l e ∧ w.grownBy w' (some g)
theorem frac_pair (l : List UInt8) (e : Int) (hd : e ≠ 0 → l = []) (hl : l.length ≤ 1000000) : ∃ (s : Bool) (xs ys : List Nat) (l' : List UInt8) (e' : Int), (e' ≠ 0 → l' = []) ∧ l'.length ≤ 1000000 ∧ (∀ g w, RP w g l e → Calls Try.prog 26 #[.pointer (some ⟨g, 0, none⟩)] w (FrD s xs ys g l' e' w)) ∧ (∀ g w, RR w g l e → Calls Try.prog 49 #[.pointer (some ⟨g, 0, none⟩)] w (FrR s xs ys g l' e' w)) := by
  by_cases he : e = 0
  · subst he
    obtain ⟨s, xs, ys, l3, e3, hf⟩ : ∃ s xs ys l3 e3, fracS l = (s, xs, ys, l3, e3) := ⟨_, _, _, _, _, rfl⟩
    have hlen : l3.length ≤ l.length := by
      have h : (fracS l).2.2.2.1.length ≤ l.length := by
        simp only [fracS]
        exact Nat.le_trans (natS2_len _) (Nat.le_trans (natS2_len _) (uintS_len _ _))
      rwa [hf] at h
    by_cases h3 : e3 = 0
    · subst h3
      cases hv : validB s xs ys
      · refine ⟨false, [], [], [], 2, fun _ => rfl, by simp, fun g w h => (fractionR_any g l w h hl).mono fun en w' k => ?_, fun g w h => (rfractionR_any g l w h hl).mono fun en w' k => ?_⟩
        · unfold FracPost at k; rw [hf] at k; rw [if_neg (fun h => h rfl), if_pos hv] at k
          exact ⟨none, 0, 0, none, 0, 0, k.1, zeroLst _, zeroLst _, k.2.1, k.2.2⟩
        · unfold RFracPost at k; rw [hf] at k; rw [if_neg (fun h => h rfl), if_pos hv] at k
          exact ⟨none, 0, 0, none, 0, 0, k.1, zeroLst _, zeroLst _, k.2.1, k.2.2⟩
      · refine ⟨s, xs, ys, l3, 0, fun h => absurd rfl h, by omega, fun g w h => (fractionR_any g l w h hl).mono fun en w' k => ?_, fun g w h => (rfractionR_any g l w h hl).mono fun en w' k => ?_⟩
        · unfold FracPost at k; rw [hf] at k; rw [if_neg (fun h => h rfl), if_neg (by rw [hv]; decide)] at k
          obtain ⟨A, n, c, B, m, d, k1, k2, k3, k4, k5, _⟩ := k
          exact ⟨A, n, c, B, m, d, k1, k2, k3, k4, k5⟩
        · unfold RFracPost at k; rw [hf] at k; rw [if_neg (fun h => h rfl), if_neg (by rw [hv]; decide)] at k
          exact k
    · refine ⟨false, [], [], [], e3, fun _ => rfl, by simp, fun g w h => (fractionR_any g l w h hl).mono fun en w' k => ?_, fun g w h => (rfractionR_any g l w h hl).mono fun en w' k => ?_⟩
      · unfold FracPost at k; rw [hf] at k; rw [if_pos h3] at k
        exact ⟨none, 0, 0, none, 0, 0, k.1, zeroLst _, zeroLst _, k.2.1, k.2.2⟩
      · unfold RFracPost at k; rw [hf] at k; rw [if_pos h3] at k
        exact ⟨none, 0, 0, none, 0, 0, k.1, zeroLst _, zeroLst _, k.2.1, k.2.2⟩
  · obtain rfl := hd he
    refine ⟨false, [], [], [], e, fun _ => rfl, by simp, fun g w h => (fractionR_dead _ e w (h.dead he)).mono fun en w' k => ?_, fun g w h => (rfractionR_dead g [] e w h he).mono fun en w' k => ?_⟩
    · exact ⟨none, 0, 0, none, 0, 0, k.1, zeroLst _, zeroLst _, h.keep k.2, grown_of_below g k.2⟩
    · exact ⟨none, 0, 0, none, 0, 0, k.1, zeroLst _, zeroLst _, k.2.1, k.2.2⟩
/-- Digits lie in no reader of the reference. -/
theorem Lst.notRR {A : Option Addr} {n c : Nat} {xs : List Nat} {w : World} (h : Lst w A n c xs) {g : Nat} {l : List UInt8} {e : Int} (k : RR w g l e) : 0 < n → ∀ ad, A = some ad → ad.block ≠ g := by
  intro hn ad ea hb
  obtain ⟨ad', e', _, hc⟩ := h.at_ hn
  rw [ea] at e'
  injection e' with e'
  subst e'
  rw [add_zero_] at hc
  obtain ⟨s, k1, _⟩ := k
  rw [← hb] at k1
  unfold World.cell? at hc
  rw [k1] at hc
  simp only at hc
  split at hc
  · cases hc
  · rcases ad with ⟨bl, off, sp⟩
    simp only at hc
    match off with
    | 0 => simp at hc
    | 1 => simp at hc
    | k + 2 => simp at hc
def PlayPost (gr gm B : Nat) (w : World) (en : Ending) (w' : World) : Prop := en = .returned (.bool true) ∧ ∃ l' e', Two gr gm l' e' w' ∧ Below B w w'
theorem Two.after {gr gm B : Nat} {l l' : List UInt8} {e e' : Int} {w w1 w2 : World} (h : Two gr gm l e w) (hr : RP w1 gr l' e') (hG : w.grownBy w1 (some gr)) (hr2 : RR w2 gm l' e') (hG2 : w1.grownBy w2 (some gm)) (hd : e' ≠ 0 → l' = []) (hl : l'.length ≤ 1000000) (hB1 : B ≤ gr) (hB2 : B ≤ gm) (hB : B ≤ w.heap.size) : Two gr gm l' e' w2 ∧ Below B w w2 :=
  ⟨⟨hr.off hG2 h.ne, hr2, hd, hl, h.ne⟩, (grown_below hG hB1 hB).trans (grown_below hG2 hB2 (Nat.le_trans hB hG.size))⟩
theorem Two.mid {gr gm : Nat} {l : List UInt8} {e : Int} {w w1 : World} (h : Two gr gm l e w) (hG : w.grownBy w1 (some gr)) : RR w1 gm l e := h.rr.off hG h.ne.symm
/-- A box of a step. -/
def SB (w : World) (b : Nat) (k n e : Int) : Prop := w.heap[b]? = some (.cells #[.int .u8 k, .int .i64 n, .int .i64 e] 50 (0, 0))
theorem SB.facts {w : World} {b : Nat} {k n e : Int} (h : SB w b k n e) : w.cell? ⟨b, 0, none⟩ = some (.int .u8 k) ∧ w.cell? ⟨b, 1, none⟩ = some (.int .i64 n) ∧ w.cell? ⟨b, 2, none⟩ = some (.int .i64 e) := by
  have h' : w.heap[b]? = some (.cells #[.int .u8 k, .int .i64 n, .int .i64 e] 50 (0, 0)) := h
  refine ⟨?_, ?_, ?_⟩
  all_goals (rw [cell_of_row w b _ _ _ _ h']; rfl)
theorem SB.off {w w1 : World} {b g : Nat} {k n e : Int} (h : SB w b k n e) (hg : w.grownBy w1 (some g)) (hne : b ≠ g) : SB w1 b k n e := (hg.block b (Array.getElem?_eq_some_iff.1 h).1 (by intro e; injection e with e; exact hne e)).trans h
set_option maxRecDepth 100000 in
set_option maxHeartbeats 8000000 in
theorem play_any (gr gm B : Nat) (l : List UInt8) (e : Int) (kd : Nat) (n ee : Int) (w : World) (h : Two gr gm l e w) (hB1 : B ≤ gr) (hB2 : B ≤ gm) (hB : B ≤ w.heap.size) (hk : kd < 256) (hn0 : -9223372036854775808 ≤ n) (hn1 : n ≤ 9223372036854775807) :
    Calls Try.prog 28 #[.pointer (some ⟨gr, 0, none⟩), .pointer (some ⟨gm, 0, none⟩), .agg #[.int .u8 kd, .int .i64 n, .int .i64 ee]] w (PlayPost gr gm B w) := by
  have b0 := below_new w (.cells #[.int .u8 kd, .int .i64 n, .int .i64 ee] 50)
  have hrl := h.rp.lt
  have hml := h.rr.lt
  have T0 := Lib.hid (h.keep b0)
  have X0 := Lib.hid (show SB (w.alloc (.cells #[.int .u8 kd, .int .i64 n, .int .i64 ee] 50)) w.heap.size kd n ee from heap_new w _)
  obtain ⟨x0, x1, x2⟩ := X0.out.facts
  have BB := Lib.hid (b0.mono hB)
  have hB3 : B ≤ (w.alloc (.cells #[.int .u8 kd, .int .i64 n, .int .i64 ee] 50)).heap.size := Nat.le_trans hB b0.size
  have hd := h.dead
  have hl := h.len
  clear h b0
  obtain ⟨xn, hxn⟩ : ∃ xn : Nat, IntKind.u64.wrap n = (xn : Int) := ⟨(IntKind.u64.wrap n).toNat, by rw [IntKind.wrap_u64]; omega⟩
  by_cases k0 : kd % 8 = 0
  · have hk8 : (kd : Int) % 8 = 0 := by omega
    obtain ⟨v, l', e', hd', hl', hp, hq⟩ := uint_pair l e xn hd hl
    have P := Lib.hid hp
    have Q := Lib.hid hq
    clear hp hq
    go_enter Try.func28, Try.ntmps28
    go_wp2_with fail
    generalize hW : w.alloc (.cells #[.int .u8 kd, .int .i64 n, .int .i64 ee] 50) = W at *
    clear hW
    have T1 := Lib.hid (T0.out.keep (below_drawn W))
    have X1 : Hid (SB W.drew w.heap.size kd n ee) := Lib.hid X0.out
    have BD : Hid (Below B w W.drew) := Lib.hid BB.out.drew
    clear T0 X0 BB
    go_region_held3 (fun w' => w'.cell? ⟨w.heap.size, 1, none⟩ = some (.int .i64 n)) (go_keep) (first | (go_at_call 14; (with_reducible refine (P.out _ _ T1.out.rp).mono ?_); rintro e w1 ⟨rfl, hr, hG⟩; have R1 := Lib.hid hr; have G1 := Lib.hid hG; have M1 := Lib.hid (T1.out.mid hG); have X2 := Lib.hid (X1.out.off hG (Nat.ne_of_gt hrl)); obtain ⟨y0, y1, y2⟩ := X2.out.facts; clear hr hG) | (go_at_call 46; (with_reducible refine (Q.out _ _ M1.out).mono ?_); rintro e w2 ⟨rfl, hr, hG⟩; have R2 := Lib.hid hr; have G2 := Lib.hid hG; have X3 := Lib.hid (X2.out.off hG (Nat.ne_of_gt hml)); obtain ⟨z0, z1, z2⟩ := X3.out.facts; clear hr hG))
    have F : Hid (PlayPost gr gm B w (.returned (.bool true)) w2) := Lib.hid (by
      obtain ⟨t1, t2⟩ := T1.out.after R1.out G1.out R2.out G2.out hd' hl' hB1 hB2 hB3
      exact ⟨rfl, _, _, t1, BD.out.trans t2⟩)
    clear R1 G1 R2 G2 M1 X2 X3 T1 X1 BD P Q y0 y1 y2 z0 z1 z2
    go_wp2
    go_ret
    exact F.out
  by_cases k1 : kd % 8 = 1
  · have hk8 : (kd : Int) % 8 = 1 := by omega
    obtain ⟨v, l', e', hd', hl', hp, hq⟩ := int_pair l e hd hl
    have P := Lib.hid hp
    have Q := Lib.hid hq
    clear hp hq
    go_enter Try.func28, Try.ntmps28
    go_wp2_with fail
    generalize hW : w.alloc (.cells #[.int .u8 kd, .int .i64 n, .int .i64 ee] 50) = W at *
    clear hW
    refine (P.out _ _ T0.out.rp).mono ?_
    rintro e w1 ⟨rfl, hr, hG⟩
    have R1 := Lib.hid hr
    have G1 := Lib.hid hG
    have M1 := Lib.hid (T0.out.mid hG)
    have X1 := Lib.hid (X0.out.off hG (by omega))
    clear hr hG x0 x1 x2
    obtain ⟨x0, x1, x2⟩ := X1.out.facts
    go_wp2_with fail
    refine (Q.out _ _ M1.out).mono ?_
    rintro e w2 ⟨rfl, hr, hG⟩
    have X2 := X1.out.off hG (by omega)
    clear x0 x1 x2
    obtain ⟨x0, x1, x2⟩ := X2.facts
    obtain ⟨t1, t2⟩ := T0.out.after R1.out G1.out hr hG hd' hl' hB1 hB2 hB3
    have F : Hid (PlayPost gr gm B w (.returned (.bool true)) w2) := Lib.hid ⟨rfl, _, _, t1, BB.out.trans t2⟩
    clear hr hG t1 t2 R1 G1 T0 BB
    clear X2 X1 M1 P Q
    go_wp2
    go_ret
    exact F.out
  by_cases k2 : kd % 8 = 2
  · have hk8 : (kd : Int) % 8 = 2 := by omega
    obtain ⟨v, l', e', hd', hl', hp, hq⟩ := text_pair l e n hd hl hn0 hn1
    have P := Lib.hid hp
    have Q := Lib.hid hq
    clear hp hq
    go_enter Try.func28, Try.ntmps28
    go_wp2_with fail
    generalize hW : w.alloc (.cells #[.int .u8 kd, .int .i64 n, .int .i64 ee] 50) = W at *
    clear hW
    have T1 := Lib.hid (T0.out.keep (below_drawn W))
    have X1 : Hid (SB W.drew w.heap.size kd n ee) := Lib.hid X0.out
    have BD : Hid (Below B w W.drew) := Lib.hid BB.out.drew
    clear T0 X0 BB
    go_region_held3 (fun w' => w'.cell? ⟨w.heap.size, 1, none⟩ = some (.int .i64 n)) (go_keep) (first | (go_at_call 20; (with_reducible refine (P.out _ _ T1.out.rp).mono ?_); rintro e w1 ⟨rfl, hr, hG⟩; have R1 := Lib.hid hr; have G1 := Lib.hid hG; have M1 := Lib.hid (T1.out.mid hG); have X2 := Lib.hid (X1.out.off hG (Nat.ne_of_gt hrl)); obtain ⟨y0, y1, y2⟩ := X2.out.facts; clear hr hG) | (go_at_call 48; (with_reducible refine (Q.out _ _ M1.out).mono ?_); rintro e w2 ⟨rfl, hr, hG⟩; have R2 := Lib.hid hr; have G2 := Lib.hid hG; have X3 := Lib.hid (X2.out.off hG (Nat.ne_of_gt hml)); obtain ⟨z0, z1, z2⟩ := X3.out.facts; clear hr hG))
    have F : Hid (PlayPost gr gm B w (.returned (.bool true)) w2) := Lib.hid (by
      obtain ⟨t1, t2⟩ := T1.out.after R1.out G1.out R2.out G2.out hd' hl' hB1 hB2 hB3
      exact ⟨rfl, _, _, t1, BD.out.trans t2⟩)
    clear R1 G1 R2 G2 M1 X2 X3 T1 X1 BD P Q y0 y1 y2 z0 z1 z2
    go_wp2
    go_ret
    exact F.out
  by_cases k3 : kd % 8 = 3
  · have hk8 : (kd : Int) % 8 = 3 := by omega
    obtain ⟨s, xs, ys, l', e', hd', hl', hp, hq⟩ := frac_pair l e hd hl
    have P := Lib.hid hp
    have Q := Lib.hid hq
    clear hp hq
    go_enter Try.func28, Try.ntmps28
    go_wp2_with fail
    generalize hW : w.alloc (.cells #[.int .u8 kd, .int .i64 n, .int .i64 ee] 50) = W at *
    clear hW
    refine (P.out _ _ T0.out.rp).mono ?_
    rintro e w1 ⟨A1, n1, c1, A2, n2, c2, rfl, hx, hy, hr, hG⟩
    have R1 := Lib.hid hr
    have G1 := Lib.hid hG
    have M1 := Lib.hid (T0.out.mid hG)
    have LX := Lib.hid hx
    have LY := Lib.hid hy
    clear hr hG hx hy x0 x1 x2
    go_wp2_with fail
    refine (Q.out _ _ M1.out).mono ?_
    rintro e w2 ⟨A3, n3, c3, A4, n4, c4, rfl, hx, hy, hr, hG⟩
    have S := Lib.hid (same04_yes s A1 A2 A3 A4 n1 c1 n2 c2 n3 c3 n4 c4 xs ys w2 (LX.out.off hG (LX.out.notRR M1.out)) (LY.out.off hG (LY.out.notRR M1.out)) hx hy)
    obtain ⟨t1, t2⟩ := T0.out.after R1.out G1.out hr hG hd' hl' hB1 hB2 hB3
    have TT := Lib.hid t1
    have BT := Lib.hid (BB.out.trans t2)
    clear hr hG hx hy t1 t2 R1 G1 T0 BB LX LY M1 P Q
    go_wp2_with fail
    refine S.out.mono ?_
    rintro e w3 ⟨rfl, hb⟩
    have F : Hid (PlayPost gr gm B w (.returned (.bool true)) w3) := Lib.hid ⟨rfl, _, _, TT.out.keep hb, BT.out.trans (hb.mono (Nat.le_trans hB BT.out.size))⟩
    clear hb TT BT
    go_wp2
    go_ret
    exact F.out
  by_cases k4 : kd % 8 = 4
  · have hk8 : (kd : Int) % 8 = 4 := by omega
    have P := Lib.hid (left_pair T0.out).1
    have Q := Lib.hid (left_pair T0.out).2
    go_enter Try.func28, Try.ntmps28
    go_wp2_with fail
    generalize hW : w.alloc (.cells #[.int .u8 kd, .int .i64 n, .int .i64 ee] 50) = W at *
    clear hW
    refine P.out.mono ?_
    rintro e w' ⟨rfl, rfl⟩
    go_wp2_with fail
    refine Q.out.mono ?_
    rintro e w' ⟨rfl, rfl⟩
    have F : Hid (PlayPost gr gm B w (.returned (.bool true)) W) := Lib.hid ⟨rfl, _, _, T0.out, BB.out⟩
    clear P Q T0 BB
    go_wp2
    go_ret
    exact F.out
  by_cases k5 : kd % 8 = 5
  · have hk8 : (kd : Int) % 8 = 5 := by omega
    obtain ⟨l', e', hd', hl', hp, hq⟩ := fail_pair l e ee hd hl
    have P := Lib.hid hp
    have Q := Lib.hid hq
    clear hp hq
    go_enter Try.func28, Try.ntmps28
    go_wp2_with fail
    generalize hW : w.alloc (.cells #[.int .u8 kd, .int .i64 n, .int .i64 ee] 50) = W at *
    clear hW
    refine (P.out _ _ T0.out.rp).mono ?_
    rintro e w1 ⟨rfl, hr, hG⟩
    have R1 := Lib.hid hr
    have G1 := Lib.hid hG
    have M1 := Lib.hid (T0.out.mid hG)
    have X1 := Lib.hid (X0.out.off hG (by omega))
    clear hr hG x0 x1 x2
    obtain ⟨x0, x1, x2⟩ := X1.out.facts
    go_wp2_with fail
    refine (Q.out _ _ M1.out).mono ?_
    rintro e w2 ⟨rfl, hr, hG⟩
    obtain ⟨t1, t2⟩ := T0.out.after R1.out G1.out hr hG hd' hl' hB1 hB2 hB3
    have E1 := Lib.hid (err_pair t1).1
    have E2 := Lib.hid (err_pair t1).2
    have F : Hid (PlayPost gr gm B w (.returned (.bool true)) w2) := Lib.hid ⟨rfl, _, _, t1, BB.out.trans t2⟩
    clear hr hG t1 t2 R1 G1 T0 BB X1 M1 P Q x0 x1 x2
    go_wp2_with fail
    refine E1.out.mono ?_
    rintro e w' ⟨rfl, rfl⟩
    go_wp2_with fail
    refine E2.out.mono ?_
    rintro e w' ⟨rfl, rfl⟩
    go_wp2
    go_ret
    exact F.out
  by_cases k6 : kd % 8 = 6
  · have hk8 : (kd : Int) % 8 = 6 := by omega
    obtain ⟨v, l', e', hd', hl', hp, hq⟩ := uint_pair l e 18446744073709551615 hd hl
    have P := Lib.hid hp
    have Q := Lib.hid hq
    clear hp hq
    go_enter Try.func28, Try.ntmps28
    go_wp2_with fail
    generalize hW : w.alloc (.cells #[.int .u8 kd, .int .i64 n, .int .i64 ee] 50) = W at *
    clear hW
    refine (P.out _ _ T0.out.rp).mono ?_
    rintro e w1 ⟨rfl, hr, hG⟩
    have R1 := Lib.hid hr
    have G1 := Lib.hid hG
    have M1 := Lib.hid (T0.out.mid hG)
    have X1 := Lib.hid (X0.out.off hG (by omega))
    clear hr hG x0 x1 x2
    obtain ⟨x0, x1, x2⟩ := X1.out.facts
    go_wp2_with fail
    refine (Q.out _ _ M1.out).mono ?_
    rintro e w2 ⟨rfl, hr, hG⟩
    have X2 := X1.out.off hG (by omega)
    clear x0 x1 x2
    obtain ⟨x0, x1, x2⟩ := X2.facts
    obtain ⟨t1, t2⟩ := T0.out.after R1.out G1.out hr hG hd' hl' hB1 hB2 hB3
    have F : Hid (PlayPost gr gm B w (.returned (.bool true)) w2) := Lib.hid ⟨rfl, _, _, t1, BB.out.trans t2⟩
    clear hr hG t1 t2 R1 G1 T0 BB
    clear X2 X1 M1 P Q
    go_wp2
    go_ret
    exact F.out
  · have hk8 : (kd : Int) % 8 = 7 := by omega
    obtain ⟨v, l', e', hd', hl', hp, hq⟩ := end_pair l e hd hl
    have P := Lib.hid hp
    have Q := Lib.hid hq
    clear hp hq
    go_enter Try.func28, Try.ntmps28
    go_wp2_with fail
    generalize hW : w.alloc (.cells #[.int .u8 kd, .int .i64 n, .int .i64 ee] 50) = W at *
    clear hW
    refine (P.out _ _ T0.out.rp).mono ?_
    rintro e w1 ⟨rfl, hr, hG⟩
    have R1 := Lib.hid hr
    have G1 := Lib.hid hG
    have M1 := Lib.hid (T0.out.mid hG)
    have X1 := Lib.hid (X0.out.off hG (by omega))
    clear hr hG x0 x1 x2
    obtain ⟨x0, x1, x2⟩ := X1.out.facts
    go_wp2_with fail
    refine (Q.out _ _ M1.out).mono ?_
    rintro e w2 ⟨rfl, hr, hG⟩
    have X2 := X1.out.off hG (by omega)
    clear x0 x1 x2
    obtain ⟨x0, x1, x2⟩ := X2.facts
    obtain ⟨t1, t2⟩ := T0.out.after R1.out G1.out hr hG hd' hl' hB1 hB2 hB3
    have F : Hid (PlayPost gr gm B w (.returned (.bool true)) w2) := Lib.hid ⟨rfl, _, _, t1, BB.out.trans t2⟩
    clear hr hG t1 t2 R1 G1 T0 BB
    clear X2 X1 M1 P Q
    go_wp2
    go_ret
    exact F.out
end Go.Proofs.Ytebfnbnaheolgaa
