/- The walk of BundleAdds: no claim of its own. -/
import Derived.Test.YtajdbpkcakkhdaaBWalkCompares
import Derived.Deep.DeepCutAuto
namespace Go.Proofs.Ytajdbpkcakkhdaa
open Go.RowKit
/-- Two bundles and prices in the first variables of a call that began at w0. -/
structure PriIn (w0 : World) (xs ys ps : List Int) (W : World) : Prop where
  s : BB W w0.heap.size 23 xs
  t : BB W (w0.heap.size + 1) 23 ys
  p : BB W (w0.heap.size + 1 + 1) 31 ps
  b : Below w0.heap.size w0 W
theorem PriIn.keep {w0 W W' : World} {xs ys ps : List Int} (h : PriIn w0 xs ys ps W) (hb : Below W.heap.size W W') : PriIn w0 xs ys ps W' :=
  ⟨h.s.keep hb h.s.lt, h.t.keep hb h.t.lt, h.p.keep hb h.p.lt, h.b.trans (hb.mono h.b.size)⟩
theorem PriIn.start (w0 : World) (a b c d e f a' b' c' d' e' f' p0 p1 p2 p3 p4 p5 : Int) : PriIn w0 [a, b, c, d, e, f] [a', b', c', d', e', f'] [p0, p1, p2, p3, p4, p5] (((w0.alloc (.cells #[.int .i64 a, .int .i64 b, .int .i64 c, .int .i64 d, .int .i64 e, .int .i64 f] 23)).alloc (.cells #[.int .i64 a', .int .i64 b', .int .i64 c', .int .i64 d', .int .i64 e', .int .i64 f'] 23)).alloc (.cells #[.int .i64 p0, .int .i64 p1, .int .i64 p2, .int .i64 p3, .int .i64 p4, .int .i64 p5] 31)) :=
  ⟨(two_boxes w0 _ _ a b c d e f a' b' c' d' e' f').1.alloc _, (two_boxes w0 _ _ a b c d e f a' b' c' d' e' f').2.alloc _,
   by have := BB.new ((w0.alloc (.cells #[.int .i64 a, .int .i64 b, .int .i64 c, .int .i64 d, .int .i64 e, .int .i64 f] 23)).alloc (.cells #[.int .i64 a', .int .i64 b', .int .i64 c', .int .i64 d', .int .i64 e', .int .i64 f'] 23)) 31 p0 p1 p2 p3 p4 p5; simpa using this, below_three _ _ _ _⟩
theorem add_meet_join (xs ys : List Int) : addB (meetB xs ys) (joinB xs ys) = addB xs ys := by
  unfold addB
  refine mapB_ext _ rfl fun j hj => ?_
  rw [mapB_at _ hj]
  unfold meetB joinB
  rw [mapB_at _ hj, mapB_at _ hj]
  congr 1
  split <;> split <;> omega
set_option maxRecDepth 100000 in
set_option maxHeartbeats 4000000 in
theorem adds_1 (a b c d e f a' b' c' d' e' f' p0 p1 p2 p3 p4 p5 : Int) (w : World) (h1 : inR (-1000000) 1000000 [a, b, c, d, e, f] = false) : Calls Try.prog 4 #[.agg #[.int .i64 a, .int .i64 b, .int .i64 c, .int .i64 d, .int .i64 e, .int .i64 f], .agg #[.int .i64 a', .int .i64 b', .int .i64 c', .int .i64 d', .int .i64 e', .int .i64 f'], .agg #[.int .i64 p0, .int .i64 p1, .int .i64 p2, .int .i64 p3, .int .i64 p4, .int .i64 p5]] w (Gives (.bool true) w) := by
  have M1 := Lib.hid (fun w => mod_any a b c d e f w)
  have M2 := Lib.hid (fun w => mod_any a' b' c' d' e' f' w)
  have HL := Lib.hid (fun w => lives_any w)
  have I := PriIn.start w a b c d e f a' b' c' d' e' f' p0 p1 p2 p3 p4 p5
  rw [h1] at M1
  go_enter Try.func4, Try.ntmps4
  go_wp2_with fail
  generalize ((w.alloc (.cells #[.int .i64 a, .int .i64 b, .int .i64 c, .int .i64 d, .int .i64 e, .int .i64 f] 23)).alloc (.cells #[.int .i64 a', .int .i64 b', .int .i64 c', .int .i64 d', .int .i64 e', .int .i64 f'] 23)).alloc (.cells #[.int .i64 p0, .int .i64 p1, .int .i64 p2, .int .i64 p3, .int .i64 p4, .int .i64 p5] 31) = W at I ⊢
  refine (M1.out _).mono ?_
  rintro e1 w1 ⟨rfl, hb⟩
  replace I := I.keep hb
  clear hb
  go_wp2_with fail
  refine (HL.out _).mono ?_
  rintro e2 w2 ⟨rfl, hb⟩
  replace I := I.keep hb
  clear hb
  go_wp2
  go_ret
  exact ⟨rfl, I.b⟩

set_option maxRecDepth 100000 in
set_option maxHeartbeats 4000000 in
theorem adds_2 (a b c d e f a' b' c' d' e' f' p0 p1 p2 p3 p4 p5 : Int) (w : World) (h1 : inR (-1000000) 1000000 [a, b, c, d, e, f] = true) (h2 : inR (-1000000) 1000000 [a', b', c', d', e', f'] = false) : Calls Try.prog 4 #[.agg #[.int .i64 a, .int .i64 b, .int .i64 c, .int .i64 d, .int .i64 e, .int .i64 f], .agg #[.int .i64 a', .int .i64 b', .int .i64 c', .int .i64 d', .int .i64 e', .int .i64 f'], .agg #[.int .i64 p0, .int .i64 p1, .int .i64 p2, .int .i64 p3, .int .i64 p4, .int .i64 p5]] w (Gives (.bool true) w) := by
  have M1 := Lib.hid (fun w => mod_any a b c d e f w)
  have M2 := Lib.hid (fun w => mod_any a' b' c' d' e' f' w)
  have HL := Lib.hid (fun w => lives_any w)
  have I := PriIn.start w a b c d e f a' b' c' d' e' f' p0 p1 p2 p3 p4 p5
  rw [h1] at M1
  rw [h2] at M2
  go_enter Try.func4, Try.ntmps4
  go_wp2_with fail
  generalize ((w.alloc (.cells #[.int .i64 a, .int .i64 b, .int .i64 c, .int .i64 d, .int .i64 e, .int .i64 f] 23)).alloc (.cells #[.int .i64 a', .int .i64 b', .int .i64 c', .int .i64 d', .int .i64 e', .int .i64 f'] 23)).alloc (.cells #[.int .i64 p0, .int .i64 p1, .int .i64 p2, .int .i64 p3, .int .i64 p4, .int .i64 p5] 31) = W at I ⊢
  refine (M1.out _).mono ?_
  rintro e1 w1 ⟨rfl, hb⟩
  replace I := I.keep hb
  clear hb
  obtain ⟨x0, x1, x2, x3, x4, x5⟩ := cells6 I.s
  obtain ⟨y0, y1, y2, y3, y4, y5⟩ := cells6 I.t
  obtain ⟨u0, u1, u2, u3, u4, u5⟩ := cells6 I.p
  go_wp2_with fail
  refine (M2.out _).mono ?_
  rintro e2 w2 ⟨rfl, hb⟩
  replace I := I.keep hb
  clear hb
  clear x0 x1 x2 x3 x4 x5 y0 y1 y2 y3 y4 y5 u0 u1 u2 u3 u4 u5
  go_wp2_with fail
  refine (HL.out _).mono ?_
  rintro e3 w3 ⟨rfl, hb⟩
  replace I := I.keep hb
  clear hb
  go_wp2
  go_ret
  exact ⟨rfl, I.b⟩

set_option maxRecDepth 100000 in
set_option maxHeartbeats 4000000 in
theorem adds_3 (a b c d e f a' b' c' d' e' f' p0 p1 p2 p3 p4 p5 : Int) (w : World) (h1 : inR (-1000000) 1000000 [a, b, c, d, e, f] = true) (h2 : inR (-1000000) 1000000 [a', b', c', d', e', f'] = true) : Calls Try.prog 4 #[.agg #[.int .i64 a, .int .i64 b, .int .i64 c, .int .i64 d, .int .i64 e, .int .i64 f], .agg #[.int .i64 a', .int .i64 b', .int .i64 c', .int .i64 d', .int .i64 e', .int .i64 f'], .agg #[.int .i64 p0, .int .i64 p1, .int .i64 p2, .int .i64 p3, .int .i64 p4, .int .i64 p5]] w (Gives (.bool true) w) := by
  have M1 := Lib.hid (fun w => mod_any a b c d e f w)
  have M2 := Lib.hid (fun w => mod_any a' b' c' d' e' f' w)
  have HL := Lib.hid (fun w => lives_any w)
  have I := PriIn.start w a b c d e f a' b' c' d' e' f' p0 p1 p2 p3 p4 p5
  rw [h1] at M1
  rw [h2] at M2
  have hP : ([p0, p1, p2, p3, p4, p5] : List Int).length = 6 := rfl
  have H0 := Lib.hid (show ∀ w, Calls Try.prog 21 #[.agg #[.int .i64 a, .int .i64 b, .int .i64 c, .int .i64 d, .int .i64 e, .int .i64 f], .agg #[.int .i64 a', .int .i64 b', .int .i64 c', .int .i64 d', .int .i64 e', .int .i64 f']] w (Gives (aggB (addB [a, b, c, d, e, f] [a', b', c', d', e', f'])) w) from fun w => add_any a b c d e f a' b' c' d' e' f' w)
  have H1 := Lib.hid (show ∀ w, Calls Try.prog 22 #[.agg #[.int .i64 a, .int .i64 b, .int .i64 c, .int .i64 d, .int .i64 e, .int .i64 f], .agg #[.int .i64 a', .int .i64 b', .int .i64 c', .int .i64 d', .int .i64 e', .int .i64 f']] w (Gives (aggB (addB [a, b, c, d, e, f] [a', b', c', d', e', f'])) w) from fun w => radd_any a b c d e f a' b' c' d' e' f' w)
  have H2 := Lib.hid (show ∀ w, Calls Try.prog 23 #[.agg #[.int .i64 a, .int .i64 b, .int .i64 c, .int .i64 d, .int .i64 e, .int .i64 f], .agg #[.int .i64 a', .int .i64 b', .int .i64 c', .int .i64 d', .int .i64 e', .int .i64 f']] w (Gives (.agg (cellsB (subB [a, b, c, d, e, f] [a', b', c', d', e', f']))) w) from fun w => sub_any a b c d e f a' b' c' d' e' f' w)
  have H3 := Lib.hid (show ∀ w, Calls Try.prog 24 #[.agg #[.int .i64 a, .int .i64 b, .int .i64 c, .int .i64 d, .int .i64 e, .int .i64 f], .agg #[.int .i64 a', .int .i64 b', .int .i64 c', .int .i64 d', .int .i64 e', .int .i64 f']] w (Gives (.agg (cellsB (subB [a, b, c, d, e, f] [a', b', c', d', e', f']))) w) from fun w => rsub_any a b c d e f a' b' c' d' e' f' w)
  have H4 := Lib.hid (fun w => total_any a b c d e f w)
  have H5 := Lib.hid (fun w => rtotal_any a b c d e f w)
  have H6 := Lib.hid (fun w => cost_any p0 p1 p2 p3 p4 p5 a b c d e f w)
  have H7 := Lib.hid (fun w => rcost_any p0 p1 p2 p3 p4 p5 a b c d e f w)
  have H8 := Lib.hid (fun w => meet_any a b c d e f a' b' c' d' e' f' w)
  have H9 := Lib.hid (fun w => join_any a b c d e f a' b' c' d' e' f' w)
  have hmj := add_meet_join [a, b, c, d, e, f] [a', b', c', d', e', f']
  obtain ⟨m0, m1, m2, m3, m4, m5, hm⟩ := six (meet_len [a, b, c, d, e, f] [a', b', c', d', e', f'])
  obtain ⟨j0, j1, j2, j3, j4, j5, hj⟩ := six (join_len [a, b, c, d, e, f] [a', b', c', d', e', f'])
  rw [hm, hj] at hmj
  rw [hm] at H8
  rw [hj] at H9
  have H10 := Lib.hid (fun w => add_any m0 m1 m2 m3 m4 m5 j0 j1 j2 j3 j4 j5 w)
  rw [hmj] at H10
  obtain ⟨s0, s1, s2, s3, s4, s5, hs⟩ := six (add_len [a, b, c, d, e, f] [a', b', c', d', e', f'])
  rw [hs] at H0 H1 H10
  have H11 := HL
  have q1 : ∀ w, (Op.equalIn 10000 23 (.agg #[.int .i64 s0, .int .i64 s1, .int .i64 s2, .int .i64 s3, .int .i64 s4, .int .i64 s5]) (.agg #[.int .i64 s0, .int .i64 s1, .int .i64 s2, .int .i64 s3, .int .i64 s4, .int .i64 s5])).run Try.prog w = .ok true w := same_self [s0, s1, s2, s3, s4, s5] rfl
  have q2 := same_self _ (sub_len [a, b, c, d, e, f] [a', b', c', d', e', f'])
  simp only [aggB_lit] at H0 H1 H8 H9 H10
  clear hm hj hmj hs
  generalize totB [a, b, c, d, e, f] 6 = v1 at *
  generalize cstB [p0, p1, p2, p3, p4, p5] [a, b, c, d, e, f] 6 = v2 at *
  generalize subB [a, b, c, d, e, f] [a', b', c', d', e', f'] = v3 at *
  go_enter Try.func4, Try.ntmps4
  go_wp2_with fail
  generalize ((w.alloc (.cells #[.int .i64 a, .int .i64 b, .int .i64 c, .int .i64 d, .int .i64 e, .int .i64 f] 23)).alloc (.cells #[.int .i64 a', .int .i64 b', .int .i64 c', .int .i64 d', .int .i64 e', .int .i64 f'] 23)).alloc (.cells #[.int .i64 p0, .int .i64 p1, .int .i64 p2, .int .i64 p3, .int .i64 p4, .int .i64 p5] 31) = W at I ⊢
  refine (M1.out _).mono ?_
  rintro e1 w1 ⟨rfl, hb⟩
  replace I := I.keep hb
  clear hb
  obtain ⟨x0, x1, x2, x3, x4, x5⟩ := cells6 I.s
  obtain ⟨y0, y1, y2, y3, y4, y5⟩ := cells6 I.t
  obtain ⟨u0, u1, u2, u3, u4, u5⟩ := cells6 I.p
  go_wp2_with fail
  refine (M2.out _).mono ?_
  rintro e2 w2 ⟨rfl, hb⟩
  replace I := I.keep hb
  clear hb
  clear x0 x1 x2 x3 x4 x5 y0 y1 y2 y3 y4 y5 u0 u1 u2 u3 u4 u5
  go_wp2
  go_loopw [7] (fun i wr => ∃ k : Nat, k ≤ 6 ∧ i = .int .i64 k ∧ PriIn w [a, b, c, d, e, f] [a', b', c', d', e', f'] [p0, p1, p2, p3, p4, p5] wr) (fun i _ => 6 - (intOf i).toNat)
  case atStart => exact ⟨0, Nat.zero_le _, rfl, I⟩
  case round =>
    obtain ⟨k, hk, rfl, I'⟩ := hrel
    clear I
    have I := I'
    clear I'
    by_cases hlt : k < 6
    · have c1 := I.p.cell hlt
      generalize MB.at_ [p0, p1, p2, p3, p4, p5] k = y at *
      by_cases hb : -1000000000 ≤ y ∧ y ≤ 1000000000
      · obtain ⟨hy1, hy2⟩ := hb
        go_wp2
        go_roundw
        case rel => exact ⟨k + 1, by omega, by go_num, I⟩
        case measure => simp [intOf]; omega
      · by_cases hy : y < -1000000000
        · clear hb
          go_wp2_with fail
          refine (HL.out _).mono ?_
          rintro e5 w5 ⟨rfl, hb⟩
          replace I := I.keep hb
          clear hb
          go_wp2
          go_ret
          exact ⟨rfl, I.b⟩
        · have hy' : 1000000000 < y := by omega
          clear hb
          go_wp2_with fail
          refine (HL.out _).mono ?_
          rintro e5 w5 ⟨rfl, hb⟩
          replace I := I.keep hb
          clear hb
          go_wp2
          go_ret
          exact ⟨rfl, I.b⟩
    · clear M1 M2 HL
      obtain ⟨x0, x1, x2, x3, x4, x5⟩ := cells6 I.s
      obtain ⟨y0, y1, y2, y3, y4, y5⟩ := cells6 I.t
      go_wp2_with fail
      refine (H0.out _).mono ?_
      rintro e6 w6 ⟨rfl, hb⟩
      replace I := I.keep hb
      clear hb x0 x1 x2 x3 x4 x5 y0 y1 y2 y3 y4 y5 H0
      go_upto_region 9 with (fail)
      have J := BB.new w6 23 s0 s1 s2 s3 s4 s5
      replace I := I.keep (below_new w6 (.cells #[.int .i64 s0, .int .i64 s1, .int .i64 s2, .int .i64 s3, .int .i64 s4, .int .i64 s5] 23))
      generalize w6.alloc (.cells #[.int .i64 s0, .int .i64 s1, .int .i64 s2, .int .i64 s3, .int .i64 s4, .int .i64 s5] 23) = w7 at *
      generalize w6.heap.size = BS at *
      replace I := I.keep (Below.refl _ _).drew
      replace J := J.drew
      obtain ⟨x0, x1, x2, x3, x4, x5⟩ := cells6 I.s
      obtain ⟨y0, y1, y2, y3, y4, y5⟩ := cells6 I.t
      obtain ⟨u0, u1, u2, u3, u4, u5⟩ := cells6 I.p
      obtain ⟨z0, z1, z2, z3, z4, z5⟩ := cells6 J
      refine wp_region_held_drew (S := fun w' => w'.cell? ⟨w.heap.size, 0, none⟩ = some (.int .i64 a) ∧ w'.cell? ⟨w.heap.size, 1, none⟩ = some (.int .i64 b) ∧ w'.cell? ⟨w.heap.size, 2, none⟩ = some (.int .i64 c) ∧ w'.cell? ⟨w.heap.size, 3, none⟩ = some (.int .i64 d) ∧ w'.cell? ⟨w.heap.size, 4, none⟩ = some (.int .i64 e) ∧ w'.cell? ⟨w.heap.size, 5, none⟩ = some (.int .i64 f) ∧ w'.cell? ⟨w.heap.size + 1, 0, none⟩ = some (.int .i64 a') ∧ w'.cell? ⟨w.heap.size + 1, 1, none⟩ = some (.int .i64 b') ∧ w'.cell? ⟨w.heap.size + 1, 2, none⟩ = some (.int .i64 c') ∧ w'.cell? ⟨w.heap.size + 1, 3, none⟩ = some (.int .i64 d') ∧ w'.cell? ⟨w.heap.size + 1, 4, none⟩ = some (.int .i64 e') ∧ w'.cell? ⟨w.heap.size + 1, 5, none⟩ = some (.int .i64 f') ∧ w'.cell? ⟨w.heap.size + 1 + 1, 0, none⟩ = some (.int .i64 p0) ∧ w'.cell? ⟨w.heap.size + 1 + 1, 1, none⟩ = some (.int .i64 p1) ∧ w'.cell? ⟨w.heap.size + 1 + 1, 2, none⟩ = some (.int .i64 p2) ∧ w'.cell? ⟨w.heap.size + 1 + 1, 3, none⟩ = some (.int .i64 p3) ∧ w'.cell? ⟨w.heap.size + 1 + 1, 4, none⟩ = some (.int .i64 p4) ∧ w'.cell? ⟨w.heap.size + 1 + 1, 5, none⟩ = some (.int .i64 p5) ∧ w'.cell? ⟨BS, 0, none⟩ = some (.int .i64 s0) ∧ w'.cell? ⟨BS, 1, none⟩ = some (.int .i64 s1) ∧ w'.cell? ⟨BS, 2, none⟩ = some (.int .i64 s2) ∧ w'.cell? ⟨BS, 3, none⟩ = some (.int .i64 s3) ∧ w'.cell? ⟨BS, 4, none⟩ = some (.int .i64 s4) ∧ w'.cell? ⟨BS, 5, none⟩ = some (.int .i64 s5)) (by kernel_rfl) ⟨x0, x1, x2, x3, x4, x5, y0, y1, y2, y3, y4, y5, u0, u1, u2, u3, u4, u5, z0, z1, z2, z3, z4, z5⟩ (fun hHeld => ?_)
      refine wpAnyH_take (i := 0) (oi := { dst := some 36, op := Op.load 23 (Operand.tmp 8), type := 23, pos := "law.go:34", after := #[], guard := none }) (v := ?_) rfl (by kernel_rfl) (by kernel_rfl) (by kernel_rfl) (fun _ _ _ h => h) (Or.inl ⟨by rfl, ?_⟩) (by assumption) ?_
      rotate_left
      · intro w hSw; (try dsimp only at hSw); go_simp; try with_reducible rfl
      (try simp only [Act.put, List.setIfInBounds_toArray, List.set_cons_zero, List.set_cons_succ])
      refine wpAnyH_take (i := 1) (oi := { dst := some 37, op := Op.load 23 (Operand.tmp 3), type := 23, pos := "law.go:34", after := #[], guard := none }) (v := ?_) rfl (by kernel_rfl) (by kernel_rfl) (by kernel_rfl) (fun _ _ _ h => h) (Or.inl ⟨by rfl, ?_⟩) (by assumption) ?_
      rotate_left
      · intro w hSw; (try dsimp only at hSw); go_simp; try with_reducible rfl
      (try simp only [Act.put, List.setIfInBounds_toArray, List.set_cons_zero, List.set_cons_succ])
      refine wpAnyH_take (i := 2) (oi := { dst := some 38, op := Op.load 23 (Operand.tmp 4), type := 23, pos := "law.go:34", after := #[], guard := none }) (v := ?_) rfl (by kernel_rfl) (by kernel_rfl) (by kernel_rfl) (fun _ _ _ h => h) (Or.inl ⟨by rfl, ?_⟩) (by assumption) ?_
      rotate_left
      · intro w hSw; (try dsimp only at hSw); go_simp; try with_reducible rfl
      (try simp only [Act.put, List.setIfInBounds_toArray, List.set_cons_zero, List.set_cons_succ])
      refine wpAnyH_ready (rs := [3]) (by kernel_rfl) (by simp) ?_
      refine AllReadyH.cons (o := { dst := some 39, op := Op.call { callee := Callee.value (Operand.func 22), args := #[Operand.tmp 37, Operand.tmp 38], argTypes := #[23, 23] }, type := 23, pos := "law.go:34", after := #[{ on := 1, ground := Ground.data }, { on := 2, ground := Ground.data }], guard := none }) rfl (fun K hK => ?_) AllReadyH.nil
      go_simp
      go_at_call 22
      (with_reducible refine (H1.out _).mono ?_)
      rintro e wq ⟨rfl, hb⟩
      replace J := J.keep hb J.lt
      replace I := I.keep hb
      clear hb
      clear x0 x1 x2 x3 x4 x5 y0 y1 y2 y3 y4 y5 u0 u1 u2 u3 u4 u5 z0 z1 z2 z3 z4 z5
      obtain ⟨x0, x1, x2, x3, x4, x5⟩ := cells6 I.s
      obtain ⟨y0, y1, y2, y3, y4, y5⟩ := cells6 I.t
      obtain ⟨u0, u1, u2, u3, u4, u5⟩ := cells6 I.p
      obtain ⟨z0, z1, z2, z3, z4, z5⟩ := cells6 J
      refine hK.out _ _ ?_ (fun hHeld => ?_)
      · exact ⟨x0, x1, x2, x3, x4, x5, y0, y1, y2, y3, y4, y5, u0, u1, u2, u3, u4, u5, z0, z1, z2, z3, z4, z5⟩
      clear hK K
      (try simp only [Act.put, List.setIfInBounds_toArray, List.set_cons_zero, List.set_cons_succ])
      refine wpAnyH_take (i := 4) (oi := { dst := some 40, op := Op.binOp BinOp.eql 23 (Operand.tmp 36) (Operand.tmp 39) 23, type := 4, pos := "law.go:34", after := #[{ on := 0, ground := Ground.data }, { on := 3, ground := Ground.data }], guard := none }) (v := ?_) rfl (by kernel_rfl) (by kernel_rfl) (by kernel_rfl) (fun _ _ _ h => h) (Or.inl ⟨by rfl, ?_⟩) (by assumption) ?_
      rotate_left
      · intro w hSw; (try dsimp only at hSw); go_simp; try with_reducible rfl
      (try simp only [Act.put, List.setIfInBounds_toArray, List.set_cons_zero, List.set_cons_succ])
      refine wpAnyH_take (i := 5) (oi := { dst := some 41, op := Op.move (Operand.tmp 40), type := 4, pos := "law.go:34", after := #[{ on := 4, ground := Ground.data }, { on := 3, ground := Ground.chain }], guard := none }) (v := ?_) rfl (by kernel_rfl) (by kernel_rfl) (by kernel_rfl) (fun _ _ _ h => h) (Or.inl ⟨by rfl, ?_⟩) (by assumption) ?_
      rotate_left
      · intro w hSw; (try dsimp only at hSw); go_simp; try with_reducible rfl
      (try simp only [Act.put, List.setIfInBounds_toArray, List.set_cons_zero, List.set_cons_succ])
      refine wpAnyH_take (i := 6) (oi := { dst := some 42, op := Op.load 23 (Operand.tmp 3), type := 23, pos := "law.go:34", after := #[{ on := 5, ground := Ground.guard }], guard := some (5, true) }) (v := ?_) rfl (by kernel_rfl) (by kernel_rfl) (by kernel_rfl) (fun _ _ _ h => h) (Or.inl ⟨by rfl, ?_⟩) (by assumption) ?_
      rotate_left
      · intro w hSw; (try dsimp only at hSw); go_simp; try with_reducible rfl
      (try simp only [Act.put, List.setIfInBounds_toArray, List.set_cons_zero, List.set_cons_succ])
      refine wpAnyH_take (i := 7) (oi := { dst := some 43, op := Op.load 23 (Operand.tmp 4), type := 23, pos := "law.go:34", after := #[{ on := 5, ground := Ground.guard }], guard := some (5, true) }) (v := ?_) rfl (by kernel_rfl) (by kernel_rfl) (by kernel_rfl) (fun _ _ _ h => h) (Or.inl ⟨by rfl, ?_⟩) (by assumption) ?_
      rotate_left
      · intro w hSw; (try dsimp only at hSw); go_simp; try with_reducible rfl
      (try simp only [Act.put, List.setIfInBounds_toArray, List.set_cons_zero, List.set_cons_succ])
      refine wpAnyH_take (i := 9) (oi := { dst := some 45, op := Op.load 23 (Operand.tmp 3), type := 23, pos := "law.go:34", after := #[{ on := 5, ground := Ground.guard }], guard := some (5, true) }) (v := ?_) rfl (by kernel_rfl) (by kernel_rfl) (by kernel_rfl) (fun _ _ _ h => h) (Or.inl ⟨by rfl, ?_⟩) (by assumption) ?_
      rotate_left
      · intro w hSw; (try dsimp only at hSw); go_simp; try with_reducible rfl
      (try simp only [Act.put, List.setIfInBounds_toArray, List.set_cons_zero, List.set_cons_succ])
      refine wpAnyH_take (i := 10) (oi := { dst := some 46, op := Op.load 23 (Operand.tmp 4), type := 23, pos := "law.go:34", after := #[{ on := 5, ground := Ground.guard }], guard := some (5, true) }) (v := ?_) rfl (by kernel_rfl) (by kernel_rfl) (by kernel_rfl) (fun _ _ _ h => h) (Or.inl ⟨by rfl, ?_⟩) (by assumption) ?_
      rotate_left
      · intro w hSw; (try dsimp only at hSw); go_simp; try with_reducible rfl
      (try simp only [Act.put, List.setIfInBounds_toArray, List.set_cons_zero, List.set_cons_succ])
      refine wpAnyH_ready (rs := [8]) (by kernel_rfl) (by simp) ?_
      refine AllReadyH.cons (o := { dst := some 44, op := Op.call { callee := Callee.value (Operand.func 23), args := #[Operand.tmp 42, Operand.tmp 43], argTypes := #[23, 23] }, type := 23, pos := "law.go:34", after := #[{ on := 6, ground := Ground.data }, { on := 7, ground := Ground.data }, { on := 5, ground := Ground.chain }, { on := 5, ground := Ground.guard }], guard := some (5, true) }) rfl (fun K hK => ?_) AllReadyH.nil
      go_simp
      go_at_call 23
      (with_reducible refine (H2.out _).mono ?_)
      rintro e wq ⟨rfl, hb⟩
      replace J := J.keep hb J.lt
      replace I := I.keep hb
      clear hb
      clear x0 x1 x2 x3 x4 x5 y0 y1 y2 y3 y4 y5 u0 u1 u2 u3 u4 u5 z0 z1 z2 z3 z4 z5
      obtain ⟨x0, x1, x2, x3, x4, x5⟩ := cells6 I.s
      obtain ⟨y0, y1, y2, y3, y4, y5⟩ := cells6 I.t
      obtain ⟨u0, u1, u2, u3, u4, u5⟩ := cells6 I.p
      obtain ⟨z0, z1, z2, z3, z4, z5⟩ := cells6 J
      refine hK.out _ _ ?_ (fun hHeld => ?_)
      · exact ⟨x0, x1, x2, x3, x4, x5, y0, y1, y2, y3, y4, y5, u0, u1, u2, u3, u4, u5, z0, z1, z2, z3, z4, z5⟩
      clear hK K
      (try simp only [Act.put, List.setIfInBounds_toArray, List.set_cons_zero, List.set_cons_succ])
      refine wpAnyH_ready (rs := [11]) (by kernel_rfl) (by simp) ?_
      refine AllReadyH.cons (o := { dst := some 47, op := Op.call { callee := Callee.value (Operand.func 24), args := #[Operand.tmp 45, Operand.tmp 46], argTypes := #[23, 23] }, type := 23, pos := "law.go:34", after := #[{ on := 9, ground := Ground.data }, { on := 10, ground := Ground.data }, { on := 8, ground := Ground.chain }, { on := 5, ground := Ground.guard }], guard := some (5, true) }) rfl (fun K hK => ?_) AllReadyH.nil
      go_simp
      go_at_call 24
      (with_reducible refine (H3.out _).mono ?_)
      rintro e wq ⟨rfl, hb⟩
      replace J := J.keep hb J.lt
      replace I := I.keep hb
      clear hb
      clear x0 x1 x2 x3 x4 x5 y0 y1 y2 y3 y4 y5 u0 u1 u2 u3 u4 u5 z0 z1 z2 z3 z4 z5
      obtain ⟨x0, x1, x2, x3, x4, x5⟩ := cells6 I.s
      obtain ⟨y0, y1, y2, y3, y4, y5⟩ := cells6 I.t
      obtain ⟨u0, u1, u2, u3, u4, u5⟩ := cells6 I.p
      obtain ⟨z0, z1, z2, z3, z4, z5⟩ := cells6 J
      refine hK.out _ _ ?_ (fun hHeld => ?_)
      · exact ⟨x0, x1, x2, x3, x4, x5, y0, y1, y2, y3, y4, y5, u0, u1, u2, u3, u4, u5, z0, z1, z2, z3, z4, z5⟩
      clear hK K
      (try simp only [Act.put, List.setIfInBounds_toArray, List.set_cons_zero, List.set_cons_succ])
      refine wpAnyH_take (i := 12) (oi := { dst := some 48, op := Op.binOp BinOp.eql 23 (Operand.tmp 44) (Operand.tmp 47) 23, type := 4, pos := "law.go:34", after := #[{ on := 8, ground := Ground.data }, { on := 11, ground := Ground.data }, { on := 5, ground := Ground.guard }], guard := some (5, true) }) (v := ?_) rfl (by kernel_rfl) (by kernel_rfl) (by kernel_rfl) (fun _ _ _ h => h) (Or.inl ⟨by rfl, ?_⟩) (by assumption) ?_
      rotate_left
      · intro w hSw; (try dsimp only at hSw); go_simp; try with_reducible rfl
      (try simp only [Act.put, List.setIfInBounds_toArray, List.set_cons_zero, List.set_cons_succ])
      refine wpAnyH_take (i := 13) (oi := { dst := some 49, op := Op.pick (Operand.tmp 41) (Operand.tmp 48) (Operand.const (Value.bool false)), type := 4, pos := "law.go:34", after := #[{ on := 5, ground := Ground.data }, { on := 12, ground := Ground.data }], guard := none }) (v := ?_) rfl (by kernel_rfl) (by kernel_rfl) (by kernel_rfl) (fun _ _ _ h => h) (Or.inl ⟨by rfl, ?_⟩) (by assumption) ?_
      rotate_left
      · intro w hSw; (try dsimp only at hSw); go_simp; try with_reducible rfl
      (try simp only [Act.put, List.setIfInBounds_toArray, List.set_cons_zero, List.set_cons_succ])
      refine wpAnyH_take (i := 14) (oi := { dst := some 50, op := Op.move (Operand.tmp 49), type := 4, pos := "law.go:34", after := #[{ on := 13, ground := Ground.data }, { on := 11, ground := Ground.chain }], guard := none }) (v := ?_) rfl (by kernel_rfl) (by kernel_rfl) (by kernel_rfl) (fun _ _ _ h => h) (Or.inl ⟨by rfl, ?_⟩) (by assumption) ?_
      rotate_left
      · intro w hSw; (try dsimp only at hSw); go_simp; try with_reducible rfl
      (try simp only [Act.put, List.setIfInBounds_toArray, List.set_cons_zero, List.set_cons_succ])
      refine wpAnyH_take (i := 15) (oi := { dst := some 51, op := Op.load 23 (Operand.tmp 3), type := 23, pos := "law.go:34", after := #[{ on := 14, ground := Ground.guard }], guard := some (14, true) }) (v := ?_) rfl (by kernel_rfl) (by kernel_rfl) (by kernel_rfl) (fun _ _ _ h => h) (Or.inl ⟨by rfl, ?_⟩) (by assumption) ?_
      rotate_left
      · intro w hSw; (try dsimp only at hSw); go_simp; try with_reducible rfl
      (try simp only [Act.put, List.setIfInBounds_toArray, List.set_cons_zero, List.set_cons_succ])
      refine wpAnyH_take (i := 17) (oi := { dst := some 53, op := Op.load 23 (Operand.tmp 3), type := 23, pos := "law.go:34", after := #[{ on := 14, ground := Ground.guard }], guard := some (14, true) }) (v := ?_) rfl (by kernel_rfl) (by kernel_rfl) (by kernel_rfl) (fun _ _ _ h => h) (Or.inl ⟨by rfl, ?_⟩) (by assumption) ?_
      rotate_left
      · intro w hSw; (try dsimp only at hSw); go_simp; try with_reducible rfl
      (try simp only [Act.put, List.setIfInBounds_toArray, List.set_cons_zero, List.set_cons_succ])
      refine wpAnyH_ready (rs := [16]) (by kernel_rfl) (by simp) ?_
      refine AllReadyH.cons (o := { dst := some 52, op := Op.call { callee := Callee.value (Operand.func 25), args := #[Operand.tmp 51], argTypes := #[23] }, type := 3, pos := "law.go:34", after := #[{ on := 15, ground := Ground.data }, { on := 14, ground := Ground.chain }, { on := 14, ground := Ground.guard }], guard := some (14, true) }) rfl (fun K hK => ?_) AllReadyH.nil
      go_simp
      go_at_call 25
      (with_reducible refine (H4.out _).mono ?_)
      rintro e wq ⟨rfl, hb⟩
      replace J := J.keep hb J.lt
      replace I := I.keep hb
      clear hb
      clear x0 x1 x2 x3 x4 x5 y0 y1 y2 y3 y4 y5 u0 u1 u2 u3 u4 u5 z0 z1 z2 z3 z4 z5
      obtain ⟨x0, x1, x2, x3, x4, x5⟩ := cells6 I.s
      obtain ⟨y0, y1, y2, y3, y4, y5⟩ := cells6 I.t
      obtain ⟨u0, u1, u2, u3, u4, u5⟩ := cells6 I.p
      obtain ⟨z0, z1, z2, z3, z4, z5⟩ := cells6 J
      refine hK.out _ _ ?_ (fun hHeld => ?_)
      · exact ⟨x0, x1, x2, x3, x4, x5, y0, y1, y2, y3, y4, y5, u0, u1, u2, u3, u4, u5, z0, z1, z2, z3, z4, z5⟩
      clear hK K
      (try simp only [Act.put, List.setIfInBounds_toArray, List.set_cons_zero, List.set_cons_succ])
      refine wpAnyH_ready (rs := [18]) (by kernel_rfl) (by simp) ?_
      refine AllReadyH.cons (o := { dst := some 54, op := Op.call { callee := Callee.value (Operand.func 26), args := #[Operand.tmp 53], argTypes := #[23] }, type := 3, pos := "law.go:34", after := #[{ on := 17, ground := Ground.data }, { on := 16, ground := Ground.chain }, { on := 14, ground := Ground.guard }], guard := some (14, true) }) rfl (fun K hK => ?_) AllReadyH.nil
      go_simp
      go_at_call 26
      (with_reducible refine (H5.out _).mono ?_)
      rintro e wq ⟨rfl, hb⟩
      replace J := J.keep hb J.lt
      replace I := I.keep hb
      clear hb
      clear x0 x1 x2 x3 x4 x5 y0 y1 y2 y3 y4 y5 u0 u1 u2 u3 u4 u5 z0 z1 z2 z3 z4 z5
      obtain ⟨x0, x1, x2, x3, x4, x5⟩ := cells6 I.s
      obtain ⟨y0, y1, y2, y3, y4, y5⟩ := cells6 I.t
      obtain ⟨u0, u1, u2, u3, u4, u5⟩ := cells6 I.p
      obtain ⟨z0, z1, z2, z3, z4, z5⟩ := cells6 J
      refine hK.out _ _ ?_ (fun hHeld => ?_)
      · exact ⟨x0, x1, x2, x3, x4, x5, y0, y1, y2, y3, y4, y5, u0, u1, u2, u3, u4, u5, z0, z1, z2, z3, z4, z5⟩
      clear hK K
      (try simp only [Act.put, List.setIfInBounds_toArray, List.set_cons_zero, List.set_cons_succ])
      refine wpAnyH_take (i := 19) (oi := { dst := some 55, op := Op.binOp BinOp.eql 3 (Operand.tmp 52) (Operand.tmp 54) 3, type := 4, pos := "law.go:34", after := #[{ on := 16, ground := Ground.data }, { on := 18, ground := Ground.data }, { on := 14, ground := Ground.guard }], guard := some (14, true) }) (v := ?_) rfl (by kernel_rfl) (by kernel_rfl) (by kernel_rfl) (fun _ _ _ h => h) (Or.inl ⟨by rfl, ?_⟩) (by assumption) ?_
      rotate_left
      · intro w hSw; (try dsimp only at hSw); go_simp; try with_reducible rfl
      (try simp only [Act.put, List.setIfInBounds_toArray, List.set_cons_zero, List.set_cons_succ])
      refine wpAnyH_take (i := 20) (oi := { dst := some 56, op := Op.pick (Operand.tmp 50) (Operand.tmp 55) (Operand.const (Value.bool false)), type := 4, pos := "law.go:34", after := #[{ on := 14, ground := Ground.data }, { on := 19, ground := Ground.data }], guard := none }) (v := ?_) rfl (by kernel_rfl) (by kernel_rfl) (by kernel_rfl) (fun _ _ _ h => h) (Or.inl ⟨by rfl, ?_⟩) (by assumption) ?_
      rotate_left
      · intro w hSw; (try dsimp only at hSw); go_simp; try with_reducible rfl
      (try simp only [Act.put, List.setIfInBounds_toArray, List.set_cons_zero, List.set_cons_succ])
      refine wpAnyH_take (i := 21) (oi := { dst := some 57, op := Op.move (Operand.tmp 56), type := 4, pos := "law.go:34", after := #[{ on := 20, ground := Ground.data }, { on := 18, ground := Ground.chain }], guard := none }) (v := ?_) rfl (by kernel_rfl) (by kernel_rfl) (by kernel_rfl) (fun _ _ _ h => h) (Or.inl ⟨by rfl, ?_⟩) (by assumption) ?_
      rotate_left
      · intro w hSw; (try dsimp only at hSw); go_simp; try with_reducible rfl
      (try simp only [Act.put, List.setIfInBounds_toArray, List.set_cons_zero, List.set_cons_succ])
      refine wpAnyH_take (i := 22) (oi := { dst := some 58, op := Op.load 31 (Operand.tmp 5), type := 31, pos := "law.go:34", after := #[{ on := 21, ground := Ground.guard }], guard := some (21, true) }) (v := ?_) rfl (by kernel_rfl) (by kernel_rfl) (by kernel_rfl) (fun _ _ _ h => h) (Or.inl ⟨by rfl, ?_⟩) (by assumption) ?_
      rotate_left
      · intro w hSw; (try dsimp only at hSw); go_simp; try with_reducible rfl
      (try simp only [Act.put, List.setIfInBounds_toArray, List.set_cons_zero, List.set_cons_succ])
      refine wpAnyH_take (i := 23) (oi := { dst := some 59, op := Op.load 23 (Operand.tmp 3), type := 23, pos := "law.go:34", after := #[{ on := 21, ground := Ground.guard }], guard := some (21, true) }) (v := ?_) rfl (by kernel_rfl) (by kernel_rfl) (by kernel_rfl) (fun _ _ _ h => h) (Or.inl ⟨by rfl, ?_⟩) (by assumption) ?_
      rotate_left
      · intro w hSw; (try dsimp only at hSw); go_simp; try with_reducible rfl
      (try simp only [Act.put, List.setIfInBounds_toArray, List.set_cons_zero, List.set_cons_succ])
      refine wpAnyH_take (i := 25) (oi := { dst := some 61, op := Op.load 31 (Operand.tmp 5), type := 31, pos := "law.go:34", after := #[{ on := 21, ground := Ground.guard }], guard := some (21, true) }) (v := ?_) rfl (by kernel_rfl) (by kernel_rfl) (by kernel_rfl) (fun _ _ _ h => h) (Or.inl ⟨by rfl, ?_⟩) (by assumption) ?_
      rotate_left
      · intro w hSw; (try dsimp only at hSw); go_simp; try with_reducible rfl
      (try simp only [Act.put, List.setIfInBounds_toArray, List.set_cons_zero, List.set_cons_succ])
      refine wpAnyH_take (i := 26) (oi := { dst := some 62, op := Op.load 23 (Operand.tmp 3), type := 23, pos := "law.go:34", after := #[{ on := 21, ground := Ground.guard }], guard := some (21, true) }) (v := ?_) rfl (by kernel_rfl) (by kernel_rfl) (by kernel_rfl) (fun _ _ _ h => h) (Or.inl ⟨by rfl, ?_⟩) (by assumption) ?_
      rotate_left
      · intro w hSw; (try dsimp only at hSw); go_simp; try with_reducible rfl
      (try simp only [Act.put, List.setIfInBounds_toArray, List.set_cons_zero, List.set_cons_succ])
      refine wpAnyH_ready (rs := [24]) (by kernel_rfl) (by simp) ?_
      refine AllReadyH.cons (o := { dst := some 60, op := Op.call { callee := Callee.value (Operand.func 27), args := #[Operand.tmp 58, Operand.tmp 59], argTypes := #[31, 23] }, type := 2, pos := "law.go:34", after := #[{ on := 22, ground := Ground.data }, { on := 23, ground := Ground.data }, { on := 21, ground := Ground.chain }, { on := 21, ground := Ground.guard }], guard := some (21, true) }) rfl (fun K hK => ?_) AllReadyH.nil
      go_simp
      go_at_call 27
      (with_reducible refine (H6.out _).mono ?_)
      rintro e wq ⟨rfl, hb⟩
      replace J := J.keep hb J.lt
      replace I := I.keep hb
      clear hb
      clear x0 x1 x2 x3 x4 x5 y0 y1 y2 y3 y4 y5 u0 u1 u2 u3 u4 u5 z0 z1 z2 z3 z4 z5
      obtain ⟨x0, x1, x2, x3, x4, x5⟩ := cells6 I.s
      obtain ⟨y0, y1, y2, y3, y4, y5⟩ := cells6 I.t
      obtain ⟨u0, u1, u2, u3, u4, u5⟩ := cells6 I.p
      obtain ⟨z0, z1, z2, z3, z4, z5⟩ := cells6 J
      refine hK.out _ _ ?_ (fun hHeld => ?_)
      · exact ⟨x0, x1, x2, x3, x4, x5, y0, y1, y2, y3, y4, y5, u0, u1, u2, u3, u4, u5, z0, z1, z2, z3, z4, z5⟩
      clear hK K
      (try simp only [Act.put, List.setIfInBounds_toArray, List.set_cons_zero, List.set_cons_succ])
      refine wpAnyH_ready (rs := [27]) (by kernel_rfl) (by simp) ?_
      refine AllReadyH.cons (o := { dst := some 63, op := Op.call { callee := Callee.value (Operand.func 28), args := #[Operand.tmp 61, Operand.tmp 62], argTypes := #[31, 23] }, type := 2, pos := "law.go:34", after := #[{ on := 25, ground := Ground.data }, { on := 26, ground := Ground.data }, { on := 24, ground := Ground.chain }, { on := 21, ground := Ground.guard }], guard := some (21, true) }) rfl (fun K hK => ?_) AllReadyH.nil
      go_simp
      go_at_call 28
      (with_reducible refine (H7.out _).mono ?_)
      rintro e wq ⟨rfl, hb⟩
      replace J := J.keep hb J.lt
      replace I := I.keep hb
      clear hb
      clear x0 x1 x2 x3 x4 x5 y0 y1 y2 y3 y4 y5 u0 u1 u2 u3 u4 u5 z0 z1 z2 z3 z4 z5
      obtain ⟨x0, x1, x2, x3, x4, x5⟩ := cells6 I.s
      obtain ⟨y0, y1, y2, y3, y4, y5⟩ := cells6 I.t
      obtain ⟨u0, u1, u2, u3, u4, u5⟩ := cells6 I.p
      obtain ⟨z0, z1, z2, z3, z4, z5⟩ := cells6 J
      refine hK.out _ _ ?_ (fun hHeld => ?_)
      · exact ⟨x0, x1, x2, x3, x4, x5, y0, y1, y2, y3, y4, y5, u0, u1, u2, u3, u4, u5, z0, z1, z2, z3, z4, z5⟩
      clear hK K
      (try simp only [Act.put, List.setIfInBounds_toArray, List.set_cons_zero, List.set_cons_succ])
      refine wpAnyH_take (i := 28) (oi := { dst := some 64, op := Op.binOp BinOp.eql 2 (Operand.tmp 60) (Operand.tmp 63) 2, type := 4, pos := "law.go:34", after := #[{ on := 24, ground := Ground.data }, { on := 27, ground := Ground.data }, { on := 21, ground := Ground.guard }], guard := some (21, true) }) (v := ?_) rfl (by kernel_rfl) (by kernel_rfl) (by kernel_rfl) (fun _ _ _ h => h) (Or.inl ⟨by rfl, ?_⟩) (by assumption) ?_
      rotate_left
      · intro w hSw; (try dsimp only at hSw); go_simp; try with_reducible rfl
      (try simp only [Act.put, List.setIfInBounds_toArray, List.set_cons_zero, List.set_cons_succ])
      refine wpAnyH_take (i := 29) (oi := { dst := some 65, op := Op.pick (Operand.tmp 57) (Operand.tmp 64) (Operand.const (Value.bool false)), type := 4, pos := "law.go:34", after := #[{ on := 21, ground := Ground.data }, { on := 28, ground := Ground.data }], guard := none }) (v := ?_) rfl (by kernel_rfl) (by kernel_rfl) (by kernel_rfl) (fun _ _ _ h => h) (Or.inl ⟨by rfl, ?_⟩) (by assumption) ?_
      rotate_left
      · intro w hSw; (try dsimp only at hSw); go_simp; try with_reducible rfl
      (try simp only [Act.put, List.setIfInBounds_toArray, List.set_cons_zero, List.set_cons_succ])
      refine wpAnyH_take (i := 30) (oi := { dst := some 66, op := Op.move (Operand.tmp 65), type := 4, pos := "law.go:34", after := #[{ on := 29, ground := Ground.data }, { on := 27, ground := Ground.chain }], guard := none }) (v := ?_) rfl (by kernel_rfl) (by kernel_rfl) (by kernel_rfl) (fun _ _ _ h => h) (Or.inl ⟨by rfl, ?_⟩) (by assumption) ?_
      rotate_left
      · intro w hSw; (try dsimp only at hSw); go_simp; try with_reducible rfl
      (try simp only [Act.put, List.setIfInBounds_toArray, List.set_cons_zero, List.set_cons_succ])
      refine wpAnyH_take (i := 31) (oi := { dst := some 67, op := Op.load 23 (Operand.tmp 3), type := 23, pos := "law.go:34", after := #[{ on := 30, ground := Ground.guard }], guard := some (30, true) }) (v := ?_) rfl (by kernel_rfl) (by kernel_rfl) (by kernel_rfl) (fun _ _ _ h => h) (Or.inl ⟨by rfl, ?_⟩) (by assumption) ?_
      rotate_left
      · intro w hSw; (try dsimp only at hSw); go_simp; try with_reducible rfl
      (try simp only [Act.put, List.setIfInBounds_toArray, List.set_cons_zero, List.set_cons_succ])
      refine wpAnyH_take (i := 32) (oi := { dst := some 68, op := Op.load 23 (Operand.tmp 4), type := 23, pos := "law.go:34", after := #[{ on := 30, ground := Ground.guard }], guard := some (30, true) }) (v := ?_) rfl (by kernel_rfl) (by kernel_rfl) (by kernel_rfl) (fun _ _ _ h => h) (Or.inl ⟨by rfl, ?_⟩) (by assumption) ?_
      rotate_left
      · intro w hSw; (try dsimp only at hSw); go_simp; try with_reducible rfl
      (try simp only [Act.put, List.setIfInBounds_toArray, List.set_cons_zero, List.set_cons_succ])
      refine wpAnyH_take (i := 34) (oi := { dst := some 70, op := Op.load 23 (Operand.tmp 3), type := 23, pos := "law.go:34", after := #[{ on := 30, ground := Ground.guard }], guard := some (30, true) }) (v := ?_) rfl (by kernel_rfl) (by kernel_rfl) (by kernel_rfl) (fun _ _ _ h => h) (Or.inl ⟨by rfl, ?_⟩) (by assumption) ?_
      rotate_left
      · intro w hSw; (try dsimp only at hSw); go_simp; try with_reducible rfl
      (try simp only [Act.put, List.setIfInBounds_toArray, List.set_cons_zero, List.set_cons_succ])
      refine wpAnyH_take (i := 35) (oi := { dst := some 71, op := Op.load 23 (Operand.tmp 4), type := 23, pos := "law.go:34", after := #[{ on := 30, ground := Ground.guard }], guard := some (30, true) }) (v := ?_) rfl (by kernel_rfl) (by kernel_rfl) (by kernel_rfl) (fun _ _ _ h => h) (Or.inl ⟨by rfl, ?_⟩) (by assumption) ?_
      rotate_left
      · intro w hSw; (try dsimp only at hSw); go_simp; try with_reducible rfl
      (try simp only [Act.put, List.setIfInBounds_toArray, List.set_cons_zero, List.set_cons_succ])
      refine wpAnyH_take (i := 38) (oi := { dst := some 74, op := Op.load 23 (Operand.tmp 8), type := 23, pos := "law.go:34", after := #[{ on := 30, ground := Ground.guard }], guard := some (30, true) }) (v := ?_) rfl (by kernel_rfl) (by kernel_rfl) (by kernel_rfl) (fun _ _ _ h => h) (Or.inl ⟨by rfl, ?_⟩) (by assumption) ?_
      rotate_left
      · intro w hSw; (try dsimp only at hSw); go_simp; try with_reducible rfl
      (try simp only [Act.put, List.setIfInBounds_toArray, List.set_cons_zero, List.set_cons_succ])
      refine wpAnyH_ready (rs := [33]) (by kernel_rfl) (by simp) ?_
      refine AllReadyH.cons (o := { dst := some 69, op := Op.call { callee := Callee.value (Operand.func 11), args := #[Operand.tmp 67, Operand.tmp 68], argTypes := #[23, 23] }, type := 23, pos := "law.go:34", after := #[{ on := 31, ground := Ground.data }, { on := 32, ground := Ground.data }, { on := 30, ground := Ground.chain }, { on := 30, ground := Ground.guard }], guard := some (30, true) }) rfl (fun K hK => ?_) AllReadyH.nil
      go_simp
      go_at_call 11
      (with_reducible refine (H8.out _).mono ?_)
      rintro e wq ⟨rfl, hb⟩
      replace J := J.keep hb J.lt
      replace I := I.keep hb
      clear hb
      clear x0 x1 x2 x3 x4 x5 y0 y1 y2 y3 y4 y5 u0 u1 u2 u3 u4 u5 z0 z1 z2 z3 z4 z5
      obtain ⟨x0, x1, x2, x3, x4, x5⟩ := cells6 I.s
      obtain ⟨y0, y1, y2, y3, y4, y5⟩ := cells6 I.t
      obtain ⟨u0, u1, u2, u3, u4, u5⟩ := cells6 I.p
      obtain ⟨z0, z1, z2, z3, z4, z5⟩ := cells6 J
      refine hK.out _ _ ?_ (fun hHeld => ?_)
      · exact ⟨x0, x1, x2, x3, x4, x5, y0, y1, y2, y3, y4, y5, u0, u1, u2, u3, u4, u5, z0, z1, z2, z3, z4, z5⟩
      clear hK K
      (try simp only [Act.put, List.setIfInBounds_toArray, List.set_cons_zero, List.set_cons_succ])
      refine wpAnyH_ready (rs := [36]) (by kernel_rfl) (by simp) ?_
      refine AllReadyH.cons (o := { dst := some 72, op := Op.call { callee := Callee.value (Operand.func 13), args := #[Operand.tmp 70, Operand.tmp 71], argTypes := #[23, 23] }, type := 23, pos := "law.go:34", after := #[{ on := 34, ground := Ground.data }, { on := 35, ground := Ground.data }, { on := 33, ground := Ground.chain }, { on := 30, ground := Ground.guard }], guard := some (30, true) }) rfl (fun K hK => ?_) AllReadyH.nil
      go_simp
      go_at_call 13
      (with_reducible refine (H9.out _).mono ?_)
      rintro e wq ⟨rfl, hb⟩
      replace J := J.keep hb J.lt
      replace I := I.keep hb
      clear hb
      clear x0 x1 x2 x3 x4 x5 y0 y1 y2 y3 y4 y5 u0 u1 u2 u3 u4 u5 z0 z1 z2 z3 z4 z5
      obtain ⟨x0, x1, x2, x3, x4, x5⟩ := cells6 I.s
      obtain ⟨y0, y1, y2, y3, y4, y5⟩ := cells6 I.t
      obtain ⟨u0, u1, u2, u3, u4, u5⟩ := cells6 I.p
      obtain ⟨z0, z1, z2, z3, z4, z5⟩ := cells6 J
      refine hK.out _ _ ?_ (fun hHeld => ?_)
      · exact ⟨x0, x1, x2, x3, x4, x5, y0, y1, y2, y3, y4, y5, u0, u1, u2, u3, u4, u5, z0, z1, z2, z3, z4, z5⟩
      clear hK K
      (try simp only [Act.put, List.setIfInBounds_toArray, List.set_cons_zero, List.set_cons_succ])
      refine wpAnyH_ready (rs := [37]) (by kernel_rfl) (by simp) ?_
      refine AllReadyH.cons (o := { dst := some 73, op := Op.call { callee := Callee.value (Operand.func 21), args := #[Operand.tmp 69, Operand.tmp 72], argTypes := #[23, 23] }, type := 23, pos := "law.go:34", after := #[{ on := 33, ground := Ground.data }, { on := 36, ground := Ground.data }, { on := 36, ground := Ground.chain }, { on := 30, ground := Ground.guard }], guard := some (30, true) }) rfl (fun K hK => ?_) AllReadyH.nil
      go_simp
      go_at_call 21
      (with_reducible refine (H10.out _).mono ?_)
      rintro e wq ⟨rfl, hb⟩
      replace J := J.keep hb J.lt
      replace I := I.keep hb
      clear hb
      clear x0 x1 x2 x3 x4 x5 y0 y1 y2 y3 y4 y5 u0 u1 u2 u3 u4 u5 z0 z1 z2 z3 z4 z5
      obtain ⟨x0, x1, x2, x3, x4, x5⟩ := cells6 I.s
      obtain ⟨y0, y1, y2, y3, y4, y5⟩ := cells6 I.t
      obtain ⟨u0, u1, u2, u3, u4, u5⟩ := cells6 I.p
      obtain ⟨z0, z1, z2, z3, z4, z5⟩ := cells6 J
      refine hK.out _ _ ?_ (fun hHeld => ?_)
      · exact ⟨x0, x1, x2, x3, x4, x5, y0, y1, y2, y3, y4, y5, u0, u1, u2, u3, u4, u5, z0, z1, z2, z3, z4, z5⟩
      clear hK K
      (try simp only [Act.put, List.setIfInBounds_toArray, List.set_cons_zero, List.set_cons_succ])
      refine wpAnyH_take (i := 39) (oi := { dst := some 75, op := Op.binOp BinOp.eql 23 (Operand.tmp 73) (Operand.tmp 74) 23, type := 4, pos := "law.go:34", after := #[{ on := 37, ground := Ground.data }, { on := 38, ground := Ground.data }, { on := 30, ground := Ground.guard }], guard := some (30, true) }) (v := ?_) rfl (by kernel_rfl) (by kernel_rfl) (by kernel_rfl) (fun _ _ _ h => h) (Or.inl ⟨by rfl, ?_⟩) (by assumption) ?_
      rotate_left
      · intro w hSw; (try dsimp only at hSw); go_simp; try with_reducible rfl
      (try simp only [Act.put, List.setIfInBounds_toArray, List.set_cons_zero, List.set_cons_succ])
      refine wpAnyH_take (i := 40) (oi := { dst := some 76, op := Op.pick (Operand.tmp 66) (Operand.tmp 75) (Operand.const (Value.bool false)), type := 4, pos := "law.go:34", after := #[{ on := 30, ground := Ground.data }, { on := 39, ground := Ground.data }], guard := none }) (v := ?_) rfl (by kernel_rfl) (by kernel_rfl) (by kernel_rfl) (fun _ _ _ h => h) (Or.inl ⟨by rfl, ?_⟩) (by assumption) ?_
      rotate_left
      · intro w hSw; (try dsimp only at hSw); go_simp; try with_reducible rfl
      (try simp only [Act.put, List.setIfInBounds_toArray, List.set_cons_zero, List.set_cons_succ])
      refine wpAnyH_take (i := 41) (oi := { dst := some 77, op := Op.move (Operand.tmp 76), type := 4, pos := "law.go:34", after := #[{ on := 40, ground := Ground.data }, { on := 37, ground := Ground.chain }], guard := none }) (v := ?_) rfl (by kernel_rfl) (by kernel_rfl) (by kernel_rfl) (fun _ _ _ h => h) (Or.inl ⟨by rfl, ?_⟩) (by assumption) ?_
      rotate_left
      · intro w hSw; (try dsimp only at hSw); go_simp; try with_reducible rfl
      (try simp only [Act.put, List.setIfInBounds_toArray, List.set_cons_zero, List.set_cons_succ])
      refine wpAnyH_ready (rs := [42]) (by kernel_rfl) (by simp) ?_
      refine AllReadyH.cons (o := { dst := some 78, op := Op.call { callee := Callee.value (Operand.func 19), args := #[], argTypes := #[] }, type := 4, pos := "law.go:34", after := #[{ on := 41, ground := Ground.chain }, { on := 41, ground := Ground.guard }], guard := some (41, true) }) rfl (fun K hK => ?_) AllReadyH.nil
      go_simp
      go_at_call 19
      (with_reducible refine (H11.out _).mono ?_)
      rintro e wq ⟨rfl, hb⟩
      replace J := J.keep hb J.lt
      replace I := I.keep hb
      clear hb
      clear x0 x1 x2 x3 x4 x5 y0 y1 y2 y3 y4 y5 u0 u1 u2 u3 u4 u5 z0 z1 z2 z3 z4 z5
      obtain ⟨x0, x1, x2, x3, x4, x5⟩ := cells6 I.s
      obtain ⟨y0, y1, y2, y3, y4, y5⟩ := cells6 I.t
      obtain ⟨u0, u1, u2, u3, u4, u5⟩ := cells6 I.p
      obtain ⟨z0, z1, z2, z3, z4, z5⟩ := cells6 J
      refine hK.out _ _ ?_ (fun hHeld => ?_)
      · exact ⟨x0, x1, x2, x3, x4, x5, y0, y1, y2, y3, y4, y5, u0, u1, u2, u3, u4, u5, z0, z1, z2, z3, z4, z5⟩
      clear hK K
      (try simp only [Act.put, List.setIfInBounds_toArray, List.set_cons_zero, List.set_cons_succ])
      refine wpAnyH_take (i := 43) (oi := { dst := some 79, op := Op.pick (Operand.tmp 77) (Operand.tmp 78) (Operand.const (Value.bool false)), type := 4, pos := "law.go:34", after := #[{ on := 41, ground := Ground.data }, { on := 42, ground := Ground.data }], guard := none }) (v := ?_) rfl (by kernel_rfl) (by kernel_rfl) (by kernel_rfl) (fun _ _ _ h => h) (Or.inl ⟨by rfl, ?_⟩) (by assumption) ?_
      rotate_left
      · intro w hSw; (try dsimp only at hSw); go_simp; try with_reducible rfl
      (try simp only [Act.put, List.setIfInBounds_toArray, List.set_cons_zero, List.set_cons_succ])
      refine wpAnyH_take (i := 44) (oi := { dst := some 6, op := Op.assign (Operand.tmp 79), type := 4, pos := "law.go:34", after := #[{ on := 43, ground := Ground.data }, { on := 42, ground := Ground.chain }, { on := 0, ground := Ground.phase }, { on := 1, ground := Ground.phase }, { on := 2, ground := Ground.phase }, { on := 3, ground := Ground.phase }, { on := 4, ground := Ground.phase }, { on := 5, ground := Ground.phase }, { on := 6, ground := Ground.phase }, { on := 7, ground := Ground.phase }, { on := 8, ground := Ground.phase }, { on := 9, ground := Ground.phase }, { on := 10, ground := Ground.phase }, { on := 11, ground := Ground.phase }, { on := 12, ground := Ground.phase }, { on := 13, ground := Ground.phase }, { on := 14, ground := Ground.phase }, { on := 15, ground := Ground.phase }, { on := 16, ground := Ground.phase }, { on := 17, ground := Ground.phase }, { on := 18, ground := Ground.phase }, { on := 19, ground := Ground.phase }, { on := 20, ground := Ground.phase }, { on := 21, ground := Ground.phase }, { on := 22, ground := Ground.phase }, { on := 23, ground := Ground.phase }, { on := 24, ground := Ground.phase }, { on := 25, ground := Ground.phase }, { on := 26, ground := Ground.phase }, { on := 27, ground := Ground.phase }, { on := 28, ground := Ground.phase }, { on := 29, ground := Ground.phase }, { on := 30, ground := Ground.phase }, { on := 31, ground := Ground.phase }, { on := 32, ground := Ground.phase }, { on := 33, ground := Ground.phase }, { on := 34, ground := Ground.phase }, { on := 35, ground := Ground.phase }, { on := 36, ground := Ground.phase }, { on := 37, ground := Ground.phase }, { on := 38, ground := Ground.phase }, { on := 39, ground := Ground.phase }, { on := 40, ground := Ground.phase }, { on := 41, ground := Ground.phase }, { on := 42, ground := Ground.phase }, { on := 43, ground := Ground.phase }], guard := none }) (v := ?_) rfl (by kernel_rfl) (by kernel_rfl) (by kernel_rfl) (fun _ _ _ h => h) (Or.inl ⟨by rfl, ?_⟩) (by assumption) ?_
      rotate_left
      · intro w hSw; (try dsimp only at hSw); go_simp; try with_reducible rfl
      (try simp only [Act.put, List.setIfInBounds_toArray, List.set_cons_zero, List.set_cons_succ])
      refine wpAnyH_done (by kernel_rfl) ?_ _
      go_wp2
      go_ret
      exact ⟨rfl, I.b⟩
theorem adds_walk (a b c d e f a' b' c' d' e' f' p0 p1 p2 p3 p4 p5 : Int) (w : World) : Calls Try.prog 4 #[.agg #[.int .i64 a, .int .i64 b, .int .i64 c, .int .i64 d, .int .i64 e, .int .i64 f], .agg #[.int .i64 a', .int .i64 b', .int .i64 c', .int .i64 d', .int .i64 e', .int .i64 f'], .agg #[.int .i64 p0, .int .i64 p1, .int .i64 p2, .int .i64 p3, .int .i64 p4, .int .i64 p5]] w (Gives (.bool true) w) := by
  cases h1 : inR (-1000000) 1000000 [a, b, c, d, e, f]
  · exact adds_1 _ _ _ _ _ _ _ _ _ _ _ _ _ _ _ _ _ _ w h1
  · cases h2 : inR (-1000000) 1000000 [a', b', c', d', e', f']
    · exact adds_2 _ _ _ _ _ _ _ _ _ _ _ _ _ _ _ _ _ _ w h1 h2
    · exact adds_3 _ _ _ _ _ _ _ _ _ _ _ _ _ _ _ _ _ _ w h1 h2
end Go.Proofs.Ytajdbpkcakkhdaa
