/- Unrank: no claim of its own. -/
import Derived.Test.YtajdbpkcakkhdaaBNext
namespace Go.Proofs.Ytajdbpkcakkhdaa
open Go.RowKit
/-- Whether there is an n-th bundle within s; the bundle; the error. -/
def unrOk (s : List Int) (n : Int) : Bool := MB.okB s && decide (MB.P s 6 ≤ 1024) && decide (0 ≤ n) && decide (n < (MB.P s 6 : Int))
def unrB (s : List Int) (n : Int) : List Int := if unrOk s n then MB.D s 6 n.toNat else [0, 0, 0, 0, 0, 0]
def unrE (s : List Int) (n : Int) : Int := if unrOk s n then 0 else 4
theorem unrOk_iff (s : List Int) (n : Int) : unrOk s n = true ↔ (MB.okB s = true ∧ MB.P s 6 ≤ 1024) ∧ 0 ≤ n ∧ n < (MB.P s 6 : Int) := by
  unfold unrOk
  simp only [Bool.and_eq_true, decide_eq_true_eq]
  exact ⟨fun h => ⟨h.1.1, h.1.2, h.2⟩, fun h => ⟨⟨h.1, h.2.1⟩, h.2.2⟩⟩
theorem quo_in {m q : Nat} (h : m ≤ 15625) : wrap64 ((m : Int) / ((q : Int) + 1)) = ((m / (q + 1) : Nat) : Int) := by
  have e : (m : Int) / ((q : Int) + 1) = ((m / (q + 1) : Nat) : Int) := by push_cast; rfl
  rw [e]
  have := Nat.div_le_self m (q + 1)
  generalize m / (q + 1) = r at *
  unfold wrap64; omega
theorem unr_length (s : List Int) (n : Int) : (unrB s n).length = 6 := by
  unfold unrB
  split
  · exact MB.D_length _ _ _
  · rfl
def UnrGives (s : List Int) (n : Int) (w : World) : Ending → World → Prop := Gives (.tuple #[aggB (unrB s n), .int .i64 (unrE s n)]) w
theorem UnrGives.no {s : List Int} {n : Int} {w w' : World} (h : unrOk s n = false) (hb : Below w.heap.size w w') : UnrGives s n w (.returned (.tuple #[.agg #[.int .i64 0, .int .i64 0, .int .i64 0, .int .i64 0, .int .i64 0, .int .i64 0], .int .i64 4])) w' := by
  unfold UnrGives unrB unrE
  rw [h]
  exact ⟨rfl, hb⟩
theorem UnrGives.yes {s : List Int} {n : Nat} {w w' : World} {z0 z1 z2 z3 z4 z5 : Int} (h : unrOk s n = true) (hz : [z0, z1, z2, z3, z4, z5] = MB.D s 6 n) (hb : Below w.heap.size w w') :
    UnrGives s n w (.returned (.tuple #[.agg #[.int .i64 z0, .int .i64 z1, .int .i64 z2, .int .i64 z3, .int .i64 z4, .int .i64 z5], .int .i64 0])) w' := by
  unfold UnrGives unrB unrE
  rw [h, if_pos rfl, if_pos rfl, Int.toNat_natCast, ← hz]
  exact ⟨rfl, hb⟩
theorem box_zero (w : World) (a b c d e f : Int) : BB ((w.alloc (.cells #[.int .i64 a, .int .i64 b, .int .i64 c, .int .i64 d, .int .i64 e, .int .i64 f] 23)).alloc (.cells #[.int .i64 0, .int .i64 0, .int .i64 0, .int .i64 0, .int .i64 0, .int .i64 0] 23)) w.heap.size 23 [a, b, c, d, e, f] ∧
    BB ((w.alloc (.cells #[.int .i64 a, .int .i64 b, .int .i64 c, .int .i64 d, .int .i64 e, .int .i64 f] 23)).alloc (.cells #[.int .i64 0, .int .i64 0, .int .i64 0, .int .i64 0, .int .i64 0, .int .i64 0] 23)) (w.heap.size + 1) 23 [0, 0, 0, 0, 0, 0] := two_boxes w _ _ a b c d e f 0 0 0 0 0 0
set_option maxRecDepth 100000 in
set_option maxHeartbeats 2000000 in
theorem unr_1 (a b c d e f : Int) (n : Int) (w : World) (hn : n < 0) : Calls Try.prog 33 #[.agg #[.int .i64 a, .int .i64 b, .int .i64 c, .int .i64 d, .int .i64 e, .int .i64 f], .int .i64 n] w (UnrGives [a, b, c, d, e, f] n w) := by
  have HB := Lib.hid (below_two w (.cells #[.int .i64 a, .int .i64 b, .int .i64 c, .int .i64 d, .int .i64 e, .int .i64 f] 23) (.cells #[.int .i64 0, .int .i64 0, .int .i64 0, .int .i64 0, .int .i64 0, .int .i64 0] 23))
  have G1 := Lib.hid (box_zero w a b c d e f).1
  have G2 := Lib.hid (box_zero w a b c d e f).2
  have HCt := Lib.hid (fun w => count_any a b c d e f w)
  have HN := Lib.hid (show unrOk [a, b, c, d, e, f] n = false by rw [Bool.eq_false_iff]; intro k; have := ((unrOk_iff _ _).1 k).2.1; omega)
  go_enter Try.func33, Try.ntmps33
  go_upto_region 1 with (fail)
  generalize (w.alloc (.cells #[.int .i64 a, .int .i64 b, .int .i64 c, .int .i64 d, .int .i64 e, .int .i64 f] 23)).alloc (.cells #[.int .i64 0, .int .i64 0, .int .i64 0, .int .i64 0, .int .i64 0, .int .i64 0] 23) = W at G1 G2 HB ⊢
  obtain ⟨r0, r1, r2, r3, r4, r5⟩ := cells6 G2.out
  obtain ⟨g0, g1, g2, g3, g4, g5⟩ := free6 G2.out
  have hsz := G2.out.lt
  go_wp2
  refine bodyPost_ret (v := .tuple #[.agg #[.int .i64 0, .int .i64 0, .int .i64 0, .int .i64 0, .int .i64 0, .int .i64 0], .int .i64 4]) (by simp [results, Try.results33, go_sem, r0, r1, r2, r3, r4, r5]) rfl (UnrGives.no HN.out ?_)
  exact below_six HB.out _ (by omega) _ _ _ _ _ _
set_option maxRecDepth 100000 in
set_option maxHeartbeats 2000000 in
theorem unr_2 (a b c d e f : Int) (n : Int) (w : World) (hn : 0 ≤ n) (hc : cntB [a, b, c, d, e, f] ≤ n) (h : unrOk [a, b, c, d, e, f] n = false) : Calls Try.prog 33 #[.agg #[.int .i64 a, .int .i64 b, .int .i64 c, .int .i64 d, .int .i64 e, .int .i64 f], .int .i64 n] w (UnrGives [a, b, c, d, e, f] n w) := by
  have HB := Lib.hid (below_two w (.cells #[.int .i64 a, .int .i64 b, .int .i64 c, .int .i64 d, .int .i64 e, .int .i64 f] 23) (.cells #[.int .i64 0, .int .i64 0, .int .i64 0, .int .i64 0, .int .i64 0, .int .i64 0] 23))
  have G1 := Lib.hid (box_zero w a b c d e f).1
  have G2 := Lib.hid (box_zero w a b c d e f).2
  have HCt := Lib.hid (fun w => count_any a b c d e f w)
  have HN := Lib.hid h
  clear h
  generalize cntB [a, b, c, d, e, f] = c0 at HCt hc
  have hlt : ¬ n < 0 := by omega
  have hz : (decide (n < 0)) = false := by simpa using hn
  go_enter Try.func33, Try.ntmps33
  go_wp2_with fail
  refine (HCt.out _).mono ?_
  rintro e1 w1 ⟨rfl, hb⟩
  have HB1 := Lib.hid (HB.out.trans (hb.mono HB.out.size))
  have k2 := Lib.hid (G2.out.keep hb G2.out.lt)
  obtain ⟨r0, r1, r2, r3, r4, r5⟩ := cells6 k2.out
  obtain ⟨g0, g1, g2, g3, g4, g5⟩ := free6 k2.out
  have hsz := k2.out.lt
  clear hb G1 G2 HB
  go_wp2
  refine bodyPost_ret (v := .tuple #[.agg #[.int .i64 0, .int .i64 0, .int .i64 0, .int .i64 0, .int .i64 0, .int .i64 0], .int .i64 4]) (by simp [results, Try.results33, go_sem, r0, r1, r2, r3, r4, r5]) rfl (UnrGives.no HN.out ?_)
  exact below_six HB1.out _ (by omega) _ _ _ _ _ _
set_option maxRecDepth 100000 in
set_option maxHeartbeats 2000000 in
theorem unr_3 (a b c d e f : Int) (n : Nat) (w : World) (h : MB.okB [a, b, c, d, e, f] = true ∧ MB.P [a, b, c, d, e, f] 6 ≤ 1024) (hn : n < MB.P [a, b, c, d, e, f] 6) : Calls Try.prog 33 #[.agg #[.int .i64 a, .int .i64 b, .int .i64 c, .int .i64 d, .int .i64 e, .int .i64 f], .int .i64 n] w (UnrGives [a, b, c, d, e, f] n w) := by
  have HB := Lib.hid (below_two w (.cells #[.int .i64 a, .int .i64 b, .int .i64 c, .int .i64 d, .int .i64 e, .int .i64 f] 23) (.cells #[.int .i64 0, .int .i64 0, .int .i64 0, .int .i64 0, .int .i64 0, .int .i64 0] 23))
  have G1 := Lib.hid (box_zero w a b c d e f).1
  have G2 := Lib.hid (box_zero w a b c d e f).2
  have HCt := Lib.hid (fun w => count_any a b c d e f w)
  have HN := Lib.hid (show unrOk [a, b, c, d, e, f] n = true from (unrOk_iff _ _).2 ⟨h, by omega, by omega⟩)
  rw [cnt_yes h.1 h.2] at HCt
  have HBa := Lib.hid (show ∀ (k : Nat), k < 6 → ∀ q : Nat, MB.at_ [a, b, c, d, e, f] k = (q : Int) → ∀ w, _ from fun k hk q hq w => (hq ▸ base_any a b c d e f k hk (okB_at h.1 (b := [a, b, c, d, e, f]) hk).1 (okB_at h.1 (b := [a, b, c, d, e, f]) hk).2 w : Calls Try.prog 40 #[.agg #[.int .i64 a, .int .i64 b, .int .i64 c, .int .i64 d, .int .i64 e, .int .i64 f], .int .i64 k] w (Gives (.int .i64 ((q : Int) + 1)) w)))
  have HSa := Lib.hid (show ∀ k, k < 6 → 0 ≤ MB.at_ [a, b, c, d, e, f] k ∧ MB.at_ [a, b, c, d, e, f] k ≤ 4 from fun k hk => okB_at h.1 (b := [a, b, c, d, e, f]) (k := k) hk)
  have HPn := Lib.hid hn
  have HPs := Lib.hid (show ∀ k, k ≤ 6 → MB.P [a, b, c, d, e, f] k ≤ 15625 from fun k hk => P_small h.1 rfl hk)
  have hP := h.2
  clear h
  obtain ⟨P, hPe⟩ : ∃ P, P = MB.P [a, b, c, d, e, f] 6 := ⟨_, rfl⟩
  rw [← hPe] at hP HCt hn
  have hn0 : ¬ (n : Int) < 0 := by omega
  have hz : (decide ((n : Int) < 0)) = false := by simp
  have hz1 : decide ((P : Int) ≤ (n : Int)) = false := by simp; omega
  have hz2 : decide (P ≤ n) = false := by simp; omega
  clear hPe
  go_enter Try.func33, Try.ntmps33
  go_wp2_with fail
  refine (HCt.out _).mono ?_
  rintro e1 w1 ⟨rfl, hb⟩
  have HB1 := Lib.hid (HB.out.trans (hb.mono HB.out.size))
  have k1 := Lib.hid (G1.out.keep hb G1.out.lt)
  have k2 := Lib.hid (G2.out.keep hb G2.out.lt)
  clear hb G1 G2 HB
  go_wp2
  have k3 := Lib.hid (BB.new w1 23 0 0 0 0 0 0)
  have k4 := Lib.hid (k1.out.alloc (.cells #[.int .i64 0, .int .i64 0, .int .i64 0, .int .i64 0, .int .i64 0, .int .i64 0] 23))
  have k5 := Lib.hid (k2.out.alloc (.cells #[.int .i64 0, .int .i64 0, .int .i64 0, .int .i64 0, .int .i64 0, .int .i64 0] 23))
  have k6 := Lib.hid (HB1.out.alloc HB1.out.size (.cells #[.int .i64 0, .int .i64 0, .int .i64 0, .int .i64 0, .int .i64 0, .int .i64 0] 23))
  have k7 := k2.out.lt
  generalize w1.heap.size = B3 at *
  generalize w1.alloc (.cells #[.int .i64 0, .int .i64 0, .int .i64 0, .int .i64 0, .int .i64 0, .int .i64 0] 23) = w2 at *
  clear k1 k2 HB1 hz hz1 hz2 hn0 hP
  go_loopw [1, 7] (fun u t wr => ∃ (i m : Nat) (x : Int) (zs : List Int), i ≤ 6 ∧ x + 1 = (i : Int) ∧ t = .int .i64 x ∧ u = .int .i64 (m : Nat) ∧ m < MB.P [a, b, c, d, e, f] i ∧
      (∀ j, j < i → MB.at_ (MB.D [a, b, c, d, e, f] i m) j = MB.at_ (MB.D [a, b, c, d, e, f] 6 n) j) ∧ (∀ j, i ≤ j → j < 6 → MB.at_ zs j = MB.at_ (MB.D [a, b, c, d, e, f] 6 n) j) ∧
      BB wr B3 23 zs ∧ BB wr w.heap.size 23 [a, b, c, d, e, f] ∧ BB wr (w.heap.size + 1) 23 [0, 0, 0, 0, 0, 0] ∧ Below w.heap.size w wr) (fun _ t _ => (intOf t + 1).toNat)
  case atStart => exact ⟨6, n, 5, _, Nat.le_refl _, rfl, rfl, rfl, HPn.out, fun _ _ => rfl, fun j h1 h2 => absurd h1 (by omega), k3.out, k4.out, k5.out, k6.out⟩
  case round =>
    obtain ⟨i, m, x, zs, hi6, hx, rfl, rfl, hm, hh1, hh2, h1, h2, h3, hbw⟩ := hrel
    clear k3 k4 k5 k6
    have G1 := Lib.hid h1
    have G2 := Lib.hid h2
    have G3 := Lib.hid h3
    have HW := Lib.hid hbw
    have X1 := Lib.hid hh1
    have X2 := Lib.hid hh2
    clear h1 h2 h3 hbw hh1 hh2
    cases i with
    | zero =>
      obtain rfl : x = -1 := by omega
      have HE := Lib.hid (MB.ext6 G1.out.2 (MB.D_length _ 6 n) fun j hj => X2.out j (Nat.zero_le _) hj)
      clear X1 X2 hm
      obtain ⟨z0, z1, z2, z3, z4, z5, hz⟩ := six G1.out.2
      rw [hz] at G1 HE
      obtain ⟨c0, c1, c2, c3, c4, c5⟩ := cells6 G1.out
      obtain ⟨r0, r1, r2, r3, r4, r5⟩ := cells6 G3.out
      obtain ⟨g0, g1, g2, g3, g4, g5⟩ := free6 G3.out
      have hsz := G3.out.lt
      clear hz
      go_wp2
      refine bodyPost_ret (v := .tuple #[.agg #[.int .i64 z0, .int .i64 z1, .int .i64 z2, .int .i64 z3, .int .i64 z4, .int .i64 z5], .int .i64 0]) (by simp [results, Try.results33, go_sem, r0, r1, r2, r3, r4, r5]) rfl (UnrGives.yes HN.out HE.out ?_)
      exact below_six HW.out _ (by omega) _ _ _ _ _ _
    | succ k =>
      obtain rfl : x = (k : Int) := by omega
      have hk : k < 6 := by omega
      obtain ⟨q, hq⟩ : ∃ q : Nat, MB.at_ [a, b, c, d, e, f] k = (q : Int) := ⟨(MB.at_ [a, b, c, d, e, f] k).toNat, by have := (HSa.out k hk).1; omega⟩
      have hq4 := (HSa.out k hk).2
      rw [hq] at hq4
      have HST := Lib.hid (unrank_step hq hm X1.out X2.out G1.out.2 hk)
      have HBk := Lib.hid (HBa.out k hk q hq)
      have HQu := Lib.hid (congrArg (Value.int .i64) (quo_in (m := m) (q := q) (by have := HPs.out (k + 1) hi6; omega)))
      obtain ⟨c0, c1, c2, c3, c4, c5⟩ := cells6 G2.out
      have hml : m % (q + 1) ≤ q := by have := Nat.mod_lt m (Nat.succ_pos q); simp only [Nat.succ_eq_add_one] at this; omega
      clear X1 X2 hq hm hi6 hx
      go_wp2_with fail
      refine (HBk.out _).mono ?_
      rintro e3 w3 ⟨rfl, hb⟩
      have HW3 := Lib.hid (HW.out.trans (hb.mono HW.out.size))
      have K1 := Lib.hid (G1.out.keep hb G1.out.lt)
      have K2 := Lib.hid (G2.out.keep hb G2.out.lt)
      have K3 := Lib.hid (G3.out.keep hb G3.out.lt)
      clear hb c0 c1 c2 c3 c4 c5 G1 G2 G3 HW
      have d1 := K1.out.cell hk
      have f1 := K1.out.free k
      have hs1 := K1.out.lt
      go_upto_region 8 with (fail)
      have j1 := Lib.hid (K1.out.set k ((m : Int) % ((q : Int) + 1)))
      have j2 := Lib.hid (K2.out.other (B' := B3) (k := k) (.int .i64 ((m : Int) % ((q : Int) + 1))) (by have := k7; omega))
      have j3 := Lib.hid (K3.out.other (B' := B3) (k := k) (.int .i64 ((m : Int) % ((q : Int) + 1))) (by have := k7; omega))
      have jb := Lib.hid (HW3.out.setCell (p := ⟨B3, k, none⟩) (by have := k7; show w.heap.size ≤ B3; omega) (.int .i64 ((m : Int) % ((q : Int) + 1))))
      generalize w3.setCell ⟨B3, k, none⟩ (.int .i64 ((m : Int) % ((q : Int) + 1))) = w5 at j1 j2 j3 jb ⊢
      obtain ⟨c0, c1, c2, c3, c4, c5⟩ := cells6 j2.out
      clear K1 K2 K3 HW3 d1 f1 hs1
      go_wp2_with fail
      refine (HBk.out _).mono ?_
      rintro e6 w6 ⟨rfl, hb⟩
      have HW6 := Lib.hid (jb.out.trans (hb.mono jb.out.size))
      have l1 := Lib.hid (j1.out.keep hb j1.out.lt)
      have l2 := Lib.hid (j2.out.keep hb j2.out.lt)
      have l3 := Lib.hid (j3.out.keep hb j3.out.lt)
      clear hb c0 c1 c2 c3 c4 c5 j1 j2 j3 jb
      go_wp2
      go_roundw
      case rel => exact ⟨k, m / (q + 1), _, zs.set k ((m % (q + 1) : Nat) : Int), by omega, by first | rfl | omega, rfl, HQu.out, HST.out.1, HST.out.2.1, HST.out.2.2, l1.out, l2.out, l3.out, HW6.out⟩
      case measure => simp [intOf]; try omega
theorem unr_any (a b c d e f n : Int) (w : World) : Calls Try.prog 33 #[.agg #[.int .i64 a, .int .i64 b, .int .i64 c, .int .i64 d, .int .i64 e, .int .i64 f], .int .i64 n] w (UnrGives [a, b, c, d, e, f] n w) := by
  rcases Int.lt_or_le n 0 with hn | hn
  · exact unr_1 a b c d e f n w hn
  · cases h : unrOk [a, b, c, d, e, f] n
    · refine unr_2 a b c d e f n w hn ?_ h
      by_cases hs : MB.okB [a, b, c, d, e, f] = true ∧ MB.P [a, b, c, d, e, f] 6 ≤ 1024
      · rw [cnt_yes hs.1 hs.2]
        rcases Int.lt_or_le n (MB.P [a, b, c, d, e, f] 6 : Int) with g | g
        · have := (unrOk_iff [a, b, c, d, e, f] n).2 ⟨hs, hn, g⟩
          rw [h] at this; cases this
        · exact g
      · rw [cnt_no hs]; exact hn
    · obtain ⟨hs, _, g⟩ := (unrOk_iff [a, b, c, d, e, f] n).1 h
      obtain ⟨m, rfl⟩ := Int.eq_ofNat_of_zero_le hn
      exact unr_3 a b c d e f m w hs (by omega)
end Go.Proofs.Ytajdbpkcakkhdaa
