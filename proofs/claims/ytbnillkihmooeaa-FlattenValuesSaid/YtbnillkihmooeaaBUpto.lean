/- upTo's iterator: no claim of its own. -/
import Derived.Test.YtbnillkihmooeaaBIter
import Derived.Test.YtbnillkihmooeaaBRRank
import Derived.Test.YtbnillkihmooeaaBNext
namespace Go.Proofs.Ytbnillkihmooeaa
open Go.RowKit
attribute [local go_sem] Oper.semAt_some
theorem round_any {m m' l : Nat} {fn : FuncId} {tmps : Array Value} {assign body : Code} {w : World} {R : Ending → World → Prop} (h : RoundIn Fence.wide m Try.prog l fn tmps assign body w R) : RoundIn Fence.wide m' Try.prog l fn tmps assign body w R := ⟨h.1, fun c cs _ => h.2 c cs (room_wide _)⟩
theorem BB.six {w : World} {B : Nat} {T : TypeId} {a b c d e f : Int} (h : BB w B T [a, b, c, d, e, f]) (y0 y1 y2 y3 y4 y5 : Int) : BB ((((((w.setCell ⟨B, 0, none⟩ (.int .i64 y0)).setCell ⟨B, 1, none⟩ (.int .i64 y1)).setCell ⟨B, 2, none⟩ (.int .i64 y2)).setCell ⟨B, 3, none⟩ (.int .i64 y3)).setCell ⟨B, 4, none⟩ (.int .i64 y4)).setCell ⟨B, 5, none⟩ (.int .i64 y5)) B T [y0, y1, y2, y3, y4, y5] :=
  (((((h.set 0 y0).set 1 y1).set 2 y2).set 3 y3).set 4 y4).set 5 y5
theorem BB.six_other {w : World} {B B' : Nat} {T : TypeId} {xs : List Int} (h : BB w B' T xs) (hne : B' ≠ B) (y0 y1 y2 y3 y4 y5 : Int) : BB ((((((w.setCell ⟨B, 0, none⟩ (.int .i64 y0)).setCell ⟨B, 1, none⟩ (.int .i64 y1)).setCell ⟨B, 2, none⟩ (.int .i64 y2)).setCell ⟨B, 3, none⟩ (.int .i64 y3)).setCell ⟨B, 4, none⟩ (.int .i64 y4)).setCell ⟨B, 5, none⟩ (.int .i64 y5)) B' T xs :=
  (((((h.other _ hne).other _ hne).other _ hne).other _ hne).other _ hne).other _ hne
theorem six_size {w : World} (B : Nat) (y0 y1 y2 y3 y4 y5 : Int) : ((((((w.setCell ⟨B, 0, none⟩ (.int .i64 y0)).setCell ⟨B, 1, none⟩ (.int .i64 y1)).setCell ⟨B, 2, none⟩ (.int .i64 y2)).setCell ⟨B, 3, none⟩ (.int .i64 y3)).setCell ⟨B, 4, none⟩ (.int .i64 y4)).setCell ⟨B, 5, none⟩ (.int .i64 y5)).heap.size = w.heap.size := by simp [World.setCell]
theorem six_steps {w : World} {b e B : Nat} {Q : World → Prop} (hQ : ∀ X Y, e ≤ X.heap.size → Q X → Stp b e X Y → Q Y) (hw : e ≤ w.heap.size) (h1 : b ≤ B) (h2 : B < e) (h : Q w) (y0 y1 y2 y3 y4 y5 : Int) : Q ((((((w.setCell ⟨B, 0, none⟩ (.int .i64 y0)).setCell ⟨B, 1, none⟩ (.int .i64 y1)).setCell ⟨B, 2, none⟩ (.int .i64 y2)).setCell ⟨B, 3, none⟩ (.int .i64 y3)).setCell ⟨B, 4, none⟩ (.int .i64 y4)).setCell ⟨B, 5, none⟩ (.int .i64 y5)) := by
  have st : ∀ (X : World) k v, e ≤ X.heap.size → Q X → e ≤ (X.setCell ⟨B, k, none⟩ v).heap.size ∧ Q (X.setCell ⟨B, k, none⟩ v) := fun X k v hX q => ⟨by simpa [World.setCell] using hX, hQ X _ hX q (Stp.setCell X k v h1 h2)⟩
  obtain ⟨a0, q0⟩ := st _ 0 (.int .i64 y0) hw h
  obtain ⟨a1, q1⟩ := st _ 1 (.int .i64 y1) a0 q0
  obtain ⟨a2, q2⟩ := st _ 2 (.int .i64 y2) a1 q1
  obtain ⟨a3, q3⟩ := st _ 3 (.int .i64 y3) a2 q2
  obtain ⟨a4, q4⟩ := st _ 4 (.int .i64 y4) a3 q3
  exact (st _ 5 (.int .i64 y5) a4 q4).2
theorem row_len (s : List Int) (n : Nat) : (MB.row s 6 n).length = n := MB.row_length s 6 n
theorem row_next (s : List Int) (k : Nat) : MB.row s 6 k ++ [MB.D s 6 k] = MB.row s 6 (k + 1) := by
  rw [MB.row_snoc, MB.pad_full (MB.D_length _ _ _)]
theorem row_pre (s : List Int) {k n : Nat} (h : k ≤ n) : MB.row s 6 k <+: MB.row s 6 n := by
  induction n with
  | zero => obtain rfl : k = 0 := by omega
            exact List.prefix_refl _
  | succ n ih =>
    rcases Nat.lt_or_ge k (n + 1) with g | g
    · exact (ih (by omega)).trans ⟨[MB.D s 6 n], row_next s n⟩
    · obtain rfl : k = n + 1 := by omega
      exact List.prefix_refl _
theorem D_zero (s : List Int) : ∀ i, MB.D s i 0 = List.replicate i 0
  | 0 => rfl
  | i + 1 => by rw [MB.D, Nat.zero_div, D_zero s i, Nat.zero_mod, List.replicate_succ']; rfl
theorem R_self (s : List Int) : ∀ i, MB.R s s i + 1 = MB.P s i
  | 0 => rfl
  | i + 1 => by
    have h := R_self s i
    rw [MB.R, MB.P, ← h, Nat.add_mul, Nat.one_mul]
    omega
/-- The last bundle is the supply itself. -/
theorem D_last {s : List Int} (hs : MB.okB s = true) (hl : s.length = 6) {k : Nat} (hk : k < MB.P s 6) : MB.D s 6 k = s ↔ k + 1 = MB.P s 6 := by
  constructor
  · intro h
    have h1 := MB.R_D s 6 k hk
    have h2 := R_self s 6
    rw [h] at h1
    omega
  · intro h
    have h2 := R_self s 6
    have e : k = MB.R s s 6 := by omega
    subst e
    exact MB.ext6 (MB.D_length _ _ _) hl (MB.D_R s s 6 fun j hj => ⟨(okB_at hs (k := j) (by omega)).1, Nat.le_refl _⟩)
/-- The bundle that a block holds. -/
def rdB (w : World) (B : Nat) : List Int := match w.heap[B]? with
  | some (.cells cs _ _) => cs.toList.map intOf
  | _ => []
theorem rdB_of {w : World} {B : Nat} {T : TypeId} {xs : List Int} (h : BB w B T xs) : rdB w B = xs := by
  unfold rdB
  rw [h.1]
  simp only [cellsB, List.map_map]
  exact (List.map_congr_left fun x _ => rfl).trans (List.map_id xs)
theorem run_neq_lit (a b c d e f a' b' c' d' e' f' : Int) (w : World) : (Op.equalIn 10000 23 (.agg #[.int .i64 a, .int .i64 b, .int .i64 c, .int .i64 d, .int .i64 e, .int .i64 f]) (.agg #[.int .i64 a', .int .i64 b', .int .i64 c', .int .i64 d', .int .i64 e', .int .i64 f'])).run Try.prog w = .ok (decide ([a, b, c, d, e, f] = [a', b', c', d', e', f'])) w := run_same [a, b, c, d, e, f] [a', b', c', d', e', f'] rfl rfl w
set_option maxRecDepth 100000 in
set_option maxHeartbeats 4000000 in
theorem upTo_iter (a b c d e f : Int) (hs : MB.okB [a, b, c, d, e, f] = true) (Bn : Nat) (w : World) (hbox : BB w Bn 23 [a, b, c, d, e, f]) :
    Iter 118 #[.pointer (some ⟨Bn, 0, none⟩)] (fun x => #[aggB x]) (MB.row [a, b, c, d, e, f] 6 (MB.P [a, b, c, d, e, f] 6)) Bn w := by
  intro l W J Jx hW hJ hJx hY h0
  show CallsIn Fence.wide 5 Try.prog 118 #[.func (.yield l) #[] #[], .pointer (some ⟨Bn, 0, none⟩)] W _
  have HJ := Lib.hid hJ
  have HJx := Lib.hid hJx
  have HY := Lib.hid hY
  have H0 := Lib.hid h0
  have HBn := Lib.hid (hbox.keep hW hbox.lt)
  have HNx := Lib.hid (fun (x0 x1 x2 x3 x4 x5 : Int) n hn hb w => next_any x0 x1 x2 x3 x4 x5 a b c d e f n hs hn hb w)
  have HLa := Lib.hid (fun k hk => D_last (s := [a, b, c, d, e, f]) (k := k) hs rfl hk)
  have HP1 := MB.P_pos [a, b, c, d, e, f] 6
  have HEq := Lib.hid (fun x0 x1 x2 x3 x4 x5 w => run_neq_lit x0 x1 x2 x3 x4 x5 a b c d e f w)
  clear hJ hJx hY h0 hbox hW hs
  obtain ⟨s, hs⟩ : ∃ s, [a, b, c, d, e, f] = s := ⟨_, rfl⟩
  rw [hs] at HY HBn HNx HLa HP1 HEq ⊢
  have HS := Lib.hid hs
  clear hs
  obtain ⟨R, hR⟩ : ∃ R : Ending → World → Prop, (fun v Y => (∃ u, v = Ending.returned u) ∧ ∃ e, W.heap.size ≤ e ∧ e ≤ Y.heap.size ∧ (J e (MB.row s 6 (MB.P s 6)) Y ∨ ∃ pre, pre <+: MB.row s 6 (MB.P s 6) ∧ Jx e pre Y)) = R := ⟨_, rfl⟩
  rw [hR]
  have HR := Lib.hid hR
  clear hR
  refine callsIn_of_wp Try.func118 rfl trivial ?_ rfl
  simp only [Try.ntmps118, List.size_toArray, List.length_cons, List.length_nil, Nat.reduceAdd, Nat.reduceSub, Array.replicate_succ, Array.replicate_zero, List.push_toArray, List.append_toArray, List.nil_append, List.cons_append]
  gi_wp2
  have B1 := Lib.hid (BB.new W 23 0 0 0 0 0 0)
  rw [show ([0, 0, 0, 0, 0, 0] : List Int) = MB.D s 6 0 from (D_zero s 6).symm] at B1
  have N1 := Lib.hid (HBn.out.alloc (.cells #[.int .i64 0, .int .i64 0, .int .i64 0, .int .i64 0, .int .i64 0, .int .i64 0] 23))
  have J1 := Lib.hid (H0.out (W.heap.size + 1) (W.alloc (.cells #[.int .i64 0, .int .i64 0, .int .i64 0, .int .i64 0, .int .i64 0, .int .i64 0] 23)) (by omega) (by simp) (below_new _ _))
  have hs1 : W.heap.size + 1 ≤ (W.alloc (.cells #[.int .i64 0, .int .i64 0, .int .i64 0, .int .i64 0, .int .i64 0, .int .i64 0] 23)).heap.size := by simp
  have hBnW := HBn.out.lt
  generalize W.alloc (.cells #[.int .i64 0, .int .i64 0, .int .i64 0, .int .i64 0, .int .i64 0, .int .i64 0] 23) = W1 at *
  clear H0 HBn
  gi_loopw [6] (fun _ wr => ∃ k : Nat, k < MB.P s 6 ∧ BB wr W.heap.size 23 (MB.D s 6 k) ∧ BB wr Bn 23 s ∧ J (W.heap.size + 1) (MB.row s 6 k) wr ∧ W.heap.size + 1 ≤ wr.heap.size) (fun _ wr => MB.P s 6 - MB.R s (rdB wr W.heap.size) 6)
  case atStart => exact ⟨0, HP1, B1.out, N1.out, J1.out, hs1⟩
  case round =>
    obtain ⟨k, hk, hbb, hbn, hj, hsz⟩ := hrel
    have G := Lib.hid hbb
    have GN := Lib.hid hbn
    have HJk := Lib.hid hj
    clear hbb hbn hj B1 N1 J1 hs1
    obtain ⟨z0, z1, z2, z3, z4, z5, hz⟩ := six (MB.D_length s 6 k)
    obtain ⟨fn, tmps, assign, body, hy, hRd⟩ := HY.out (W.heap.size + 1) (MB.row s 6 k) (MB.D s 6 k) wr (by omega) hsz HJk.out (by rw [row_next]; exact row_pre s hk)
    rw [hz, aggB_lit] at hy
    have HRd := Lib.hid hRd
    have HZ := Lib.hid hz
    obtain ⟨c0, c1, c2, c3, c4, c5⟩ := cells6 (by have h := G.out; rw [hz] at h; exact h : BB wr W.heap.size 23 [z0, z1, z2, z3, z4, z5])
    clear hz hRd
    gi_wp2
    refine (round_any HRd.out).mono ?_
    rintro ev W3 (⟨rfl, hJ3, hk3⟩ | ⟨rfl, hJx3, hk3⟩)
    · have G3 : BB W3 W.heap.size 23 [z0, z1, z2, z3, z4, z5] := by rw [← HZ.out]; exact ⟨(hk3.own _ (Nat.le_refl _) (by omega)).trans G.out.1, G.out.2⟩
      have N3 : BB W3 Bn 23 s := ⟨hk3.one.trans GN.out.1, GN.out.2⟩
      have N3' : BB W3 Bn 23 [a, b, c, d, e, f] := by rw [HS.out]; exact N3
      have hsz3 := hk3.size
      rw [row_next] at hJ3
      have HJ3 := Lib.hid hJ3
      have q1 := HEq.out z0 z1 z2 z3 z4 z5
      obtain ⟨d0, d1, d2, d3, d4, d5⟩ := cells6 G3
      obtain ⟨e0, e1, e2, e3, e4, e5⟩ := cells6 N3'
      by_cases hlast : k + 1 = MB.P s 6
      · have hd : decide ([z0, z1, z2, z3, z4, z5] = s) = true := by rw [← HZ.out]; exact decide_eq_true ((HLa.out k hk).2 hlast)
        rw [hd] at q1
        have HJ4 := Lib.hid (hlast ▸ HJ3.out)
        clear hd hlast hJ3 hk3 hy
        gi_wp2
        go_end0
        rw [← HR.out]
        exact ⟨⟨_, rfl⟩, W.heap.size + 1, by omega, by omega, .inl HJ4.out⟩
      · have hd : decide ([z0, z1, z2, z3, z4, z5] = s) = false := by rw [← HZ.out]; exact decide_eq_false fun h => hlast ((HLa.out k hk).1 h)
        rw [hd] at q1
        have hk1 : k + 1 < MB.P s 6 := by omega
        have HNk := Lib.hid (HNx.out z0 z1 z2 z3 z4 z5 k hk1 HZ.out.symm)
        clear hd hlast hJ3 hk3 hy
        obtain ⟨y0, y1, y2, y3, y4, y5, hy5⟩ := six (MB.D_length s 6 (k + 1))
        rw [hy5, aggB_lit] at HNk
        have HY5 := Lib.hid hy5
        have HG3 := Lib.hid G3
        have HN3 := Lib.hid N3
        clear hy5 c0 c1 c2 c3 c4 c5 G3 N3 N3' GN
        gi_wp2_with fail
        refine ⟨trivial, (callsIn_wide.2 (HNk.out _)).mono ?_⟩
        rintro ev4 W4 ⟨rfl, hb⟩
        have G4 := Lib.hid (HG3.out.keep hb HG3.out.lt)
        have N4 := Lib.hid (HN3.out.keep hb HN3.out.lt)
        have J4 := Lib.hid (HJ.out (W.heap.size + 1) _ W3 W4 (by omega) (by omega) HJ3.out (Stp.below hb))
        have hz4 := hb.size
        clear hb d0 d1 d2 d3 d4 d5 e0 e1 e2 e3 e4 e5 HG3 HN3 HJ3
        obtain ⟨d0, d1, d2, d3, d4, d5⟩ := cells6 G4.out
        obtain ⟨g0, g1, g2, g3, g4, g5⟩ := free6 G4.out
        have hlt4 := G4.out.lt
        gi_wp2
        go_roundw
        case rel => exact ⟨k + 1, hk1, by rw [HY5.out]; exact G4.out.six _ _ _ _ _ _, N4.out.six_other (by omega) _ _ _ _ _ _, six_steps (fun X Y hX h hs => HJ.out (W.heap.size + 1) _ X Y (by omega) hX h hs) (by omega) (Nat.le_refl _) (by omega) J4.out _ _ _ _ _ _, by rw [six_size]; omega⟩
        case measure =>
          rw [rdB_of (G4.out.six y0 y1 y2 y3 y4 y5), rdB_of G.out, ← HY5.out, MB.R_D s 6 (k + 1) hk1, MB.R_D s 6 k hk]
          omega
    · have hsz3 := hk3.size
      clear hy c0 c1 c2 c3 c4 c5 hk3
      gi_wp2
      go_end0
      rw [← HR.out]
      exact ⟨⟨_, rfl⟩, W.heap.size + 1, by omega, by omega, .inr ⟨_, by rw [row_next]; exact row_pre s hk, hJx3⟩⟩
end Go.Proofs.Ytbnillkihmooeaa
