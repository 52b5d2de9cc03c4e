/- Unrank and next: no claim of its own. -/
import Derived.Test.YtjjpfpgjpmedmaaBRank
import Derived.Deep.DeepCutAuto
namespace Go.Proofs.Ytjjpfpgjpmedmaa
open Go.RowKit
/-- The bundle behind the n-th, half done. -/
structure Inc (s : List Int) (n i m : Nat) (zs : List Int) : Prop where
  few : m + 1 < MB.P s i
  here : ∀ j, j < i → MB.at_ zs j = MB.at_ (MB.D s i m) j
  zero : ∀ j, i ≤ j → j < 6 → MB.at_ zs j = 0
  next : ∀ j, j < i → MB.at_ (MB.D s 6 (n + 1)) j = MB.at_ (MB.D s i (m + 1)) j
  none_ : ∀ j, i ≤ j → j < 6 → MB.at_ (MB.D s 6 (n + 1)) j = 0
  le : i ≤ 6
  len : zs.length = 6
theorem Inc.pos {s : List Int} {n i m : Nat} {zs : List Int} (h : Inc s n i m zs) : ∃ k, i = k + 1 := by
  cases i with
  | zero => have := h.few; simp only [MB.P] at this; omega
  | succ k => exact ⟨k, rfl⟩
theorem Inc.last {s : List Int} {n i m q : Nat} {zs : List Int} (h : Inc s n (i + 1) m zs) (hq : MB.at_ s i = (q : Int)) : MB.at_ zs i = ((m % (q + 1) : Nat) : Int) := by
  have hq' : (MB.at_ s i).toNat = q := by omega
  rw [h.here i (by omega), MB.D_at_last, hq']
theorem div_up {m q : Nat} (h : m % (q + 1) = q) : (m + 1) / (q + 1) = m / (q + 1) + 1 ∧ (m + 1) % (q + 1) = 0 := by
  have e := Nat.div_add_mod m (q + 1)
  rw [h] at e
  have e2 : m + 1 = (q + 1) * (m / (q + 1) + 1) := by rw [Nat.mul_add, Nat.mul_one]; omega
  exact ⟨by rw [e2]; exact Nat.mul_div_cancel_left _ (Nat.succ_pos q), by rw [e2]; exact Nat.mul_mod_right _ _⟩
theorem div_same {m q : Nat} (h : m % (q + 1) ≠ q) : (m + 1) / (q + 1) = m / (q + 1) ∧ (m + 1) % (q + 1) = m % (q + 1) + 1 := by
  have e := Nat.div_add_mod m (q + 1)
  have l := Nat.mod_lt m (Nat.succ_pos q)
  simp only [Nat.succ_eq_add_one] at l
  have e2 : m + 1 = (q + 1) * (m / (q + 1)) + (m % (q + 1) + 1) := by omega
  refine ⟨?_, ?_⟩
  · conv => lhs; rw [e2]
    have z : (m % (q + 1) + 1) / (q + 1) = 0 := Nat.div_eq_of_lt (by generalize m % (q + 1) = r at *; omega)
    rw [Nat.mul_add_div (Nat.succ_pos q)]
    show _ + (m % (q + 1) + 1) / (q + 1) = _
    rw [z, Nat.add_zero]
  · conv => lhs; rw [e2]
    rw [Nat.mul_add_mod, Nat.mod_eq_of_lt (by generalize m % (q + 1) = r at *; omega)]
theorem Inc.carry {s : List Int} {n i m q : Nat} {zs : List Int} (h : Inc s n (i + 1) m zs) (hq : MB.at_ s i = (q : Int)) (he : m % (q + 1) = q) : Inc s n i (m / (q + 1)) (zs.set i 0) := by
  have hq' : (MB.at_ s i).toNat = q := by omega
  obtain ⟨d1, d2⟩ := div_up he
  have hf := h.few
  have hl := h.len
  have hle := h.le
  rw [MB.P, hq'] at hf
  refine ⟨?_, fun j hj => ?_, fun j hj hj6 => ?_, fun j hj => ?_, fun j hj hj6 => ?_, by omega, by rw [List.length_set]; exact hl⟩
  · rw [← d1]; exact Nat.div_lt_of_lt_mul (by rw [Nat.mul_comm]; exact hf)
  · rw [at_set_other _ (by omega), h.here j (by omega), MB.D_at_lt s hj, hq']
  · by_cases e : j = i
    · subst e; exact at_set_same _ (by omega)
    · rw [at_set_other _ e]; exact h.zero j (by omega) hj6
  · rw [h.next j (by omega), MB.D_at_lt s hj, hq', d1]
  · by_cases e : j = i
    · subst e
      rw [h.next j (by omega), MB.D_at_last, hq', d2]; rfl
    · exact h.none_ j (by omega) hj6
theorem Inc.stop {s : List Int} {n i m q : Nat} {zs : List Int} (h : Inc s n (i + 1) m zs) (hq : MB.at_ s i = (q : Int)) (he : m % (q + 1) ≠ q) : zs.set i (((m % (q + 1) : Nat) : Int) + 1) = MB.D s 6 (n + 1) := by
  have hq' : (MB.at_ s i).toNat = q := by omega
  obtain ⟨d1, d2⟩ := div_same he
  have hl := h.len
  have hle := h.le
  refine MB.ext6 (by rw [List.length_set]; exact hl) (MB.D_length _ _ _) fun j hj => ?_
  rcases Nat.lt_trichotomy j i with g | rfl | g
  · rw [at_set_other _ (by omega), h.here j (by omega), h.next j (by omega), MB.D_at_lt s g, MB.D_at_lt s g, hq', d1]
  · rw [at_set_same _ (by omega), h.next j (by omega), MB.D_at_last, hq', d2]; omega
  · rw [at_set_other _ (by omega), h.zero j (by omega) hj, h.none_ j (by omega) hj]
theorem Inc.start {s zs : List Int} {n : Nat} (hn : n + 1 < MB.P s 6) (hz : zs = MB.D s 6 n) : Inc s n 6 n zs :=
  ⟨hn, fun j _ => by rw [hz], fun j h1 h2 => by omega, fun _ _ => rfl, fun j h1 h2 => by omega, Nat.le_refl _, by rw [hz]; exact MB.D_length _ _ _⟩
set_option maxRecDepth 100000 in
set_option maxHeartbeats 2000000 in
theorem next_any (a b c d e f a' b' c' d' e' f' : Int) (n : Nat) (hs : MB.okB [a', b', c', d', e', f'] = true) (hn : n + 1 < MB.P [a', b', c', d', e', f'] 6) (hb : [a, b, c, d, e, f] = MB.D [a', b', c', d', e', f'] 6 n) (w : World) :
    Calls Try.prog 107 #[.agg #[.int .i64 a, .int .i64 b, .int .i64 c, .int .i64 d, .int .i64 e, .int .i64 f], .agg #[.int .i64 a', .int .i64 b', .int .i64 c', .int .i64 d', .int .i64 e', .int .i64 f']] w (Gives (aggB (MB.D [a', b', c', d', e', f'] 6 (n + 1))) w) := by
  have hS := three_start (fun _ => 0) w a b c d e f a' b' c' d' e' f'
  have HI := Lib.hid (Inc.start hn hb)
  have HSa := Lib.hid (show ∀ k, k < 6 → 0 ≤ MB.at_ [a', b', c', d', e', f'] k ∧ MB.at_ [a', b', c', d', e', f'] k ≤ 4 from fun k hk => okB_at hs (b := [a', b', c', d', e', f']) (k := k) hk)
  obtain ⟨ys, hys⟩ : ∃ ys, [a', b', c', d', e', f'] = ys := ⟨_, rfl⟩
  obtain ⟨xs, hxs⟩ : ∃ xs, [a, b, c, d, e, f] = xs := ⟨_, rfl⟩
  rw [hxs] at hS HI
  rw [hys] at hS HI HSa ⊢
  have HSl := Lib.hid (show ys.length = 6 by rw [← hys]; rfl)
  have H1 := Lib.hid hS.here
  have H2 := Lib.hid hS.other
  have H3 := Lib.hid hS.res
  have HB := Lib.hid hS.below
  clear hS hxs hys hn hb hs
  go_enter Try.func107, Try.ntmps107
  go_wp2
  obtain ⟨W, hW⟩ : ∃ W, W = ((w.alloc (.cells #[.int .i64 a, .int .i64 b, .int .i64 c, .int .i64 d, .int .i64 e, .int .i64 f] 24)).alloc (.cells #[.int .i64 a', .int .i64 b', .int .i64 c', .int .i64 d', .int .i64 e', .int .i64 f'] 24)).alloc (.cells #[.int .i64 0, .int .i64 0, .int .i64 0, .int .i64 0, .int .i64 0, .int .i64 0] 24) := ⟨_, rfl⟩
  rw [← hW] at H1 H2 H3 HB ⊢
  clear hW
  go_loopw [5] (fun t wr => ∃ (i m : Nat) (x : Int) (zs : List Int), x + 1 = (i : Int) ∧ t = .int .i64 x ∧ Inc ys n i m zs ∧ BB wr w.heap.size 24 zs ∧ BB wr (w.heap.size + 1) 24 ys ∧ BB wr (w.heap.size + 2) 24 [0, 0, 0, 0, 0, 0] ∧ Below w.heap.size w wr) (fun t _ => (intOf t + 1).toNat)
  case atStart => exact ⟨6, n, 5, xs, rfl, rfl, HI.out, H1.out, H2.out, H3.out, HB.out⟩
  case round =>
    obtain ⟨i, m, x, zs, hx, rfl, hi, h1, h2, h3, hbw⟩ := hrel
    obtain ⟨k, rfl⟩ := hi.pos
    obtain rfl : x = (k : Int) := by omega
    have hk : k < 6 := by have := hi.le; omega
    have HI' := Lib.hid hi
    clear hi hx HI H1 H2 H3 HB
    have G1 := Lib.hid h1
    have G2 := Lib.hid h2
    have G3 := Lib.hid h3
    have HW := Lib.hid hbw
    clear h1 h2 h3 hbw
    obtain ⟨q, hq⟩ : ∃ q : Nat, MB.at_ ys k = (q : Int) := ⟨(MB.at_ ys k).toNat, by have := (HSa.out k hk).1; omega⟩
    have hl := HI'.out.last hq
    have hq4 := (HSa.out k hk).2
    rw [hq] at hq4
    have c1 := G1.out.cell hk
    have c2 := G2.out.cell hk
    rw [hl] at c1
    rw [hq] at c2
    have g1 := G1.out.free k
    have hsz := G1.out.lt
    have HQ := Lib.hid hq
    have hml : m % (q + 1) ≤ q := by have := Nat.mod_lt m (Nat.succ_pos q); simp only [Nat.succ_eq_add_one] at this; omega
    clear hq hl HSl
    by_cases he : m % (q + 1) = q
    · have HC := Lib.hid (HI'.out.carry HQ.out he)
      have he2 : (((m % (q + 1) : Nat) : Int) == (q : Int)) = true := by rw [he]; simp
      generalize m % (q + 1) = r at *
      clear he
      go_wp2
      go_quiet (fail)
      go_wp2
      go_roundw
      case rel => exact ⟨k, m / (q + 1), _, zs.set k 0, by first | rfl | omega, rfl, HC.out, (G1.out.drewN _).set k 0, (G2.out.drewN _).other _ (by omega), (G3.out.drewN _).other _ (by omega), (below_drewN HW.out _).setCell (p := ⟨w.heap.size, k, none⟩) (Nat.le_refl _) _⟩
      case measure => simp [intOf]; try omega
    · have HC := Lib.hid (HI'.out.stop HQ.out he)
      have he2 : (((m % (q + 1) : Nat) : Int) == (q : Int)) = false := by generalize m % (q + 1) = r at *; simp; omega
      generalize m % (q + 1) = r at *
      clear he
      go_wp2
      go_quiet (fail)
      go_upto_region 6 with (fail)
      have k1 := Lib.hid ((G1.out.drewN nq).set k ((r : Int) + 1))
      have k3 := Lib.hid ((G3.out.drewN nq).other (B' := w.heap.size) (k := k) (.int .i64 ((r : Int) + 1)) (by omega))
      have kb := Lib.hid ((below_drewN HW.out nq).setCell (p := ⟨w.heap.size, k, none⟩) (Nat.le_refl _) (.int .i64 ((r : Int) + 1)))
      generalize (wr.drewN nq).setCell ⟨w.heap.size, k, none⟩ (.int .i64 ((r : Int) + 1)) = w5 at k1 k3 kb ⊢
      rw [HC.out] at k1
      obtain ⟨z0, z1, z2, z3, z4, z5, hz⟩ := six (MB.D_length ys 6 (n + 1))
      rw [hz] at k1
      have HZ := Lib.hid hz
      obtain ⟨c0, c1, c2, c3, c4, c5⟩ := cells6 k1.out
      obtain ⟨r0, r1, r2, r3, r4, r5⟩ := cells6 k3.out
      obtain ⟨g0, g1, g2, g3, g4, g5⟩ := free6 k3.out
      have hsz := k3.out.lt
      clear hz k1 k3 HC G1 G2 G3 HW
      go_wp2
      refine bodyPost_ret (v := .agg #[.int .i64 z0, .int .i64 z1, .int .i64 z2, .int .i64 z3, .int .i64 z4, .int .i64 z5]) (by simp [results, Try.results107, go_sem, r0, r1, r2, r3, r4, r5]) rfl ⟨by rw [HZ.out]; rfl, ?_⟩
      exact below_six kb.out _ (by omega) _ _ _ _ _ _
end Go.Proofs.Ytjjpfpgjpmedmaa
