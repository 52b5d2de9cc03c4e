/- The walk of BundleRanks: no claim of its own. -/
import Derived.Test.YtajdbpkcakkhdaaBWalkCompares
import Derived.Test.YtajdbpkcakkhdaaBRRank
import Derived.Deep.DeepCutAuto
namespace Go.Proofs.Ytajdbpkcakkhdaa
open Go.RowKit
theorem unr_val_no {s : List Int} {n : Int} (h : unrOk s n = false) : unrE s n = 4 := by unfold unrE; rw [h]; rfl
theorem unr_val_yes {s : List Int} {n : Int} (h : unrOk s n = true) : unrE s n = 0 ∧ unrB s n = MB.D s 6 n.toNat := by unfold unrE unrB; rw [h]; exact ⟨rfl, rfl⟩
/-- The rank of what Unrank hands back. -/
theorem rank_unr {s : List Int} {n : Int} (hl : s.length = 6) (h : unrOk s n = true) : rankB s (unrB s n) = n ∧ rankE s (unrB s n) = 0 := by
  obtain ⟨hs, h0, h1⟩ := (unrOk_iff _ _).1 h
  rw [(unr_val_yes h).2]
  have hk : n.toNat < MB.P s 6 := by omega
  have ho : rankOk s (MB.D s 6 n.toNat) = true := (rankOk_iff _ _).2 ⟨hs, digits_ok hs.1 hl _⟩
  rw [(rank_yes ho).1, (rank_yes ho).2, MB.R_D s 6 _ hk]
  exact ⟨by omega, rfl⟩
/-- How what Unrank hands back compares. -/
theorem cmp_unr {s : List Int} {n m : Int} (h : unrOk s n = true) (h' : unrOk s m = true) : MB.cmp (unrB s n) (unrB s m) 6 = if n < m then -1 else if m < n then 1 else 0 := by
  obtain ⟨hs, h0, h1⟩ := (unrOk_iff _ _).1 h
  obtain ⟨_, k0, k1⟩ := (unrOk_iff _ _).1 h'
  rw [(unr_val_yes h).2, (unr_val_yes h').2]
  have c := MB.cmp_rank s (MB.D s 6 n.toNat) (MB.D s 6 m.toNat) 6 (fun j hj => MB.D_within s 6 _ j hj) (fun j hj => MB.D_within s 6 _ j hj)
  rw [MB.R_D s 6 _ (by omega), MB.R_D s 6 _ (by omega)] at c
  have r := MB.cmp_range (MB.D s 6 n.toNat) (MB.D s 6 m.toNat) 6
  generalize MB.cmp (MB.D s 6 n.toNat) (MB.D s 6 m.toNat) 6 = v at c r
  obtain ⟨c1, c2⟩ := c
  split
  · exact c1.2 (by omega)
  · split
    · exact c2.2 (by omega)
    · rcases r with r | r | r
      · have := c1.1 r; omega
      · exact r
      · have := c2.1 r; omega
/-- The supply in the first variable of a call that began at w0, and what else it holds. -/
structure SupIn (w0 : World) (xs : List Int) (W : World) : Prop where
  s : BB W w0.heap.size 23 xs
  b : Below w0.heap.size w0 W
theorem SupIn.keep {w0 W W' : World} {xs : List Int} (h : SupIn w0 xs W) (hb : Below W.heap.size W W') : SupIn w0 xs W' := ⟨h.s.keep hb h.s.lt, h.b.trans (hb.mono h.b.size)⟩

set_option maxRecDepth 100000 in
set_option maxHeartbeats 4000000 in
theorem ranks_1 (a b c d e f n m : Int) (w : World) (h : unrOk [a, b, c, d, e, f] n = false) : Calls Try.prog 6 #[.agg #[.int .i64 a, .int .i64 b, .int .i64 c, .int .i64 d, .int .i64 e, .int .i64 f], .int .i64 n, .int .i64 m] w (Gives (.bool true) w) := by
  obtain ⟨b0, b1, b2, b3, b4, b5, hb0⟩ := six (unr_length [a, b, c, d, e, f] n)
  have U1 : ∀ w, Calls Try.prog 33 #[.agg #[.int .i64 a, .int .i64 b, .int .i64 c, .int .i64 d, .int .i64 e, .int .i64 f], .int .i64 n] w (Gives (.tuple #[.agg #[.int .i64 b0, .int .i64 b1, .int .i64 b2, .int .i64 b3, .int .i64 b4, .int .i64 b5], .int .i64 (unrE [a, b, c, d, e, f] n)]) w) := fun w => by have := unr_any a b c d e f n w; unfold UnrGives at this; rw [hb0] at this; exact this
  have U2 : ∀ w, Calls Try.prog 34 #[.agg #[.int .i64 a, .int .i64 b, .int .i64 c, .int .i64 d, .int .i64 e, .int .i64 f], .int .i64 n] w (Gives (.tuple #[.agg #[.int .i64 b0, .int .i64 b1, .int .i64 b2, .int .i64 b3, .int .i64 b4, .int .i64 b5], .int .i64 (unrE [a, b, c, d, e, f] n)]) w) := fun w => by have := runr_any a b c d e f n w; unfold UnrGives at this; rw [hb0] at this; exact this
  have HL := Lib.hid (fun w => lives_any w)
  have I : SupIn w [a, b, c, d, e, f] _ := ⟨BB.new w 23 a b c d e f, below_new _ _⟩
  have q1 : ∀ w, (Op.equalIn 10000 23 (.agg #[.int .i64 b0, .int .i64 b1, .int .i64 b2, .int .i64 b3, .int .i64 b4, .int .i64 b5]) (.agg #[.int .i64 b0, .int .i64 b1, .int .i64 b2, .int .i64 b3, .int .i64 b4, .int .i64 b5])).run Try.prog w = .ok true w := same_self [b0, b1, b2, b3, b4, b5] rfl
  rw [unr_val_no h] at U1 U2
  have V1 := Lib.hid U1
  have V2 := Lib.hid U2
  clear U1 U2 h hb0
  go_enter Try.func6, Try.ntmps6
  go_upto_region 1 with (fail)
  generalize w.alloc (.cells #[.int .i64 a, .int .i64 b, .int .i64 c, .int .i64 d, .int .i64 e, .int .i64 f] 23) = W at I ⊢
  obtain ⟨x0, x1, x2, x3, x4, x5⟩ := cells6 I.s
  go_wp2_with fail
  refine (V1.out _).mono ?_
  rintro e1 w1 ⟨rfl, hb⟩
  replace I := I.keep hb
  clear hb x0 x1 x2 x3 x4 x5
  go_upto_region 2 with (fail)
  have J := BB.new w1 23 b0 b1 b2 b3 b4 b5
  replace I := I.keep (below_new w1 (.cells #[.int .i64 b0, .int .i64 b1, .int .i64 b2, .int .i64 b3, .int .i64 b4, .int .i64 b5] 23))
  generalize w1.alloc (.cells #[.int .i64 b0, .int .i64 b1, .int .i64 b2, .int .i64 b3, .int .i64 b4, .int .i64 b5] 23) = w2 at *
  generalize w1.heap.size = g1 at *
  obtain ⟨x0, x1, x2, x3, x4, x5⟩ := cells6 I.s
  go_wp2_with fail
  refine (V2.out _).mono ?_
  rintro e3 w3 ⟨rfl, hb⟩
  replace J := J.keep hb J.lt
  replace I := I.keep hb
  clear hb x0 x1 x2 x3 x4 x5
  go_upto_region 3 with (fail)
  have K := BB.new w3 23 b0 b1 b2 b3 b4 b5
  replace J := J.keep (below_new w3 (.cells #[.int .i64 b0, .int .i64 b1, .int .i64 b2, .int .i64 b3, .int .i64 b4, .int .i64 b5] 23)) J.lt
  replace I := I.keep (below_new w3 (.cells #[.int .i64 b0, .int .i64 b1, .int .i64 b2, .int .i64 b3, .int .i64 b4, .int .i64 b5] 23))
  generalize w3.alloc (.cells #[.int .i64 b0, .int .i64 b1, .int .i64 b2, .int .i64 b3, .int .i64 b4, .int .i64 b5] 23) = w4 at *
  generalize w3.heap.size = g3 at *
  obtain ⟨x0, x1, x2, x3, x4, x5⟩ := cells6 I.s
  obtain ⟨y0, y1, y2, y3, y4, y5⟩ := cells6 J
  obtain ⟨z0, z1, z2, z3, z4, z5⟩ := cells6 K
  go_wp2_with fail
  refine (HL.out _).mono ?_
  rintro e9 w9 ⟨rfl, hb⟩
  replace I := I.keep hb
  clear hb
  go_wp2
  go_ret
  exact ⟨rfl, I.b⟩

set_option maxRecDepth 100000 in
set_option maxHeartbeats 4000000 in
theorem ranks_2 (a b c d e f n m : Int) (w : World) (h : unrOk [a, b, c, d, e, f] n = true) (h2 : unrOk [a, b, c, d, e, f] m = false) : Calls Try.prog 6 #[.agg #[.int .i64 a, .int .i64 b, .int .i64 c, .int .i64 d, .int .i64 e, .int .i64 f], .int .i64 n, .int .i64 m] w (Gives (.bool true) w) := by
  obtain ⟨b0, b1, b2, b3, b4, b5, hb0⟩ := six (unr_length [a, b, c, d, e, f] n)
  have U1 : ∀ w, Calls Try.prog 33 #[.agg #[.int .i64 a, .int .i64 b, .int .i64 c, .int .i64 d, .int .i64 e, .int .i64 f], .int .i64 n] w (Gives (.tuple #[.agg #[.int .i64 b0, .int .i64 b1, .int .i64 b2, .int .i64 b3, .int .i64 b4, .int .i64 b5], .int .i64 (unrE [a, b, c, d, e, f] n)]) w) := fun w => by have := unr_any a b c d e f n w; unfold UnrGives at this; rw [hb0] at this; exact this
  have U2 : ∀ w, Calls Try.prog 34 #[.agg #[.int .i64 a, .int .i64 b, .int .i64 c, .int .i64 d, .int .i64 e, .int .i64 f], .int .i64 n] w (Gives (.tuple #[.agg #[.int .i64 b0, .int .i64 b1, .int .i64 b2, .int .i64 b3, .int .i64 b4, .int .i64 b5], .int .i64 (unrE [a, b, c, d, e, f] n)]) w) := fun w => by have := runr_any a b c d e f n w; unfold UnrGives at this; rw [hb0] at this; exact this
  have HL := Lib.hid (fun w => lives_any w)
  have I : SupIn w [a, b, c, d, e, f] _ := ⟨BB.new w 23 a b c d e f, below_new _ _⟩
  have q1 : ∀ w, (Op.equalIn 10000 23 (.agg #[.int .i64 b0, .int .i64 b1, .int .i64 b2, .int .i64 b3, .int .i64 b4, .int .i64 b5]) (.agg #[.int .i64 b0, .int .i64 b1, .int .i64 b2, .int .i64 b3, .int .i64 b4, .int .i64 b5])).run Try.prog w = .ok true w := same_self [b0, b1, b2, b3, b4, b5] rfl
  obtain ⟨d0, d1, d2, d3, d4, d5, hd0⟩ := six (unr_length [a, b, c, d, e, f] m)
  have U3 : ∀ w, Calls Try.prog 33 #[.agg #[.int .i64 a, .int .i64 b, .int .i64 c, .int .i64 d, .int .i64 e, .int .i64 f], .int .i64 m] w (Gives (.tuple #[.agg #[.int .i64 d0, .int .i64 d1, .int .i64 d2, .int .i64 d3, .int .i64 d4, .int .i64 d5], .int .i64 (unrE [a, b, c, d, e, f] m)]) w) := fun w => by have := unr_any a b c d e f m w; unfold UnrGives at this; rw [hd0] at this; exact this
  have HR : Hid (∀ w, Calls Try.prog 29 #[.agg #[.int .i64 a, .int .i64 b, .int .i64 c, .int .i64 d, .int .i64 e, .int .i64 f], .agg #[.int .i64 b0, .int .i64 b1, .int .i64 b2, .int .i64 b3, .int .i64 b4, .int .i64 b5]] w (Gives (.tuple #[.int .i64 n, .int .i64 0]) w)) := Lib.hid fun w => by
    have := rank_any a b c d e f b0 b1 b2 b3 b4 b5 w
    unfold RankGives at this
    have r := rank_unr (s := [a, b, c, d, e, f]) rfl h
    rw [hb0] at r
    rw [r.1, r.2] at this
    exact this
  rw [(unr_val_yes h).1] at U1 U2
  have V1 := Lib.hid U1
  have V2 := Lib.hid U2
  clear U1 U2
  rw [unr_val_no h2] at U3
  have V3 := Lib.hid U3
  clear U3 h h2 hb0 hd0
  go_enter Try.func6, Try.ntmps6
  go_upto_region 1 with (fail)
  generalize w.alloc (.cells #[.int .i64 a, .int .i64 b, .int .i64 c, .int .i64 d, .int .i64 e, .int .i64 f] 23) = W at I ⊢
  obtain ⟨x0, x1, x2, x3, x4, x5⟩ := cells6 I.s
  go_wp2_with fail
  refine (V1.out _).mono ?_
  rintro e1 w1 ⟨rfl, hb⟩
  replace I := I.keep hb
  clear hb x0 x1 x2 x3 x4 x5
  go_upto_region 2 with (fail)
  have J := BB.new w1 23 b0 b1 b2 b3 b4 b5
  replace I := I.keep (below_new w1 (.cells #[.int .i64 b0, .int .i64 b1, .int .i64 b2, .int .i64 b3, .int .i64 b4, .int .i64 b5] 23))
  generalize w1.alloc (.cells #[.int .i64 b0, .int .i64 b1, .int .i64 b2, .int .i64 b3, .int .i64 b4, .int .i64 b5] 23) = w2 at *
  generalize w1.heap.size = g1 at *
  obtain ⟨x0, x1, x2, x3, x4, x5⟩ := cells6 I.s
  go_wp2_with fail
  refine (V2.out _).mono ?_
  rintro e3 w3 ⟨rfl, hb⟩
  replace J := J.keep hb J.lt
  replace I := I.keep hb
  clear hb x0 x1 x2 x3 x4 x5
  go_upto_region 3 with (fail)
  have K := BB.new w3 23 b0 b1 b2 b3 b4 b5
  replace J := J.keep (below_new w3 (.cells #[.int .i64 b0, .int .i64 b1, .int .i64 b2, .int .i64 b3, .int .i64 b4, .int .i64 b5] 23)) J.lt
  replace I := I.keep (below_new w3 (.cells #[.int .i64 b0, .int .i64 b1, .int .i64 b2, .int .i64 b3, .int .i64 b4, .int .i64 b5] 23))
  generalize w3.alloc (.cells #[.int .i64 b0, .int .i64 b1, .int .i64 b2, .int .i64 b3, .int .i64 b4, .int .i64 b5] 23) = w4 at *
  generalize w3.heap.size = g3 at *
  obtain ⟨x0, x1, x2, x3, x4, x5⟩ := cells6 I.s
  obtain ⟨y0, y1, y2, y3, y4, y5⟩ := cells6 J
  obtain ⟨z0, z1, z2, z3, z4, z5⟩ := cells6 K
  go_wp2_with fail
  refine (HR.out _).mono ?_
  rintro e5 w5 ⟨rfl, hb⟩
  replace J := J.keep hb J.lt
  replace K := K.keep hb K.lt
  replace I := I.keep hb
  clear hb x0 x1 x2 x3 x4 x5 y0 y1 y2 y3 y4 y5 z0 z1 z2 z3 z4 z5
  obtain ⟨x0, x1, x2, x3, x4, x5⟩ := cells6 I.s
  go_wp2_with fail
  refine (V3.out _).mono ?_
  rintro e6 w6 ⟨rfl, hb⟩
  replace J := J.keep hb J.lt
  replace K := K.keep hb K.lt
  replace I := I.keep hb
  clear hb x0 x1 x2 x3 x4 x5
  go_upto_region 11 with (fail)
  have M := BB.new w6 23 d0 d1 d2 d3 d4 d5
  replace J := J.keep (below_new w6 (.cells #[.int .i64 d0, .int .i64 d1, .int .i64 d2, .int .i64 d3, .int .i64 d4, .int .i64 d5] 23)) J.lt
  replace I := I.keep (below_new w6 (.cells #[.int .i64 d0, .int .i64 d1, .int .i64 d2, .int .i64 d3, .int .i64 d4, .int .i64 d5] 23))
  clear K
  generalize w6.alloc (.cells #[.int .i64 d0, .int .i64 d1, .int .i64 d2, .int .i64 d3, .int .i64 d4, .int .i64 d5] 23) = w7 at *
  generalize w6.heap.size = g6 at *
  obtain ⟨y0, y1, y2, y3, y4, y5⟩ := cells6 J
  obtain ⟨z0, z1, z2, z3, z4, z5⟩ := cells6 M
  go_wp2_with fail
  refine (HL.out _).mono ?_
  rintro e9 w9 ⟨rfl, hb⟩
  replace I := I.keep hb
  clear hb
  go_wp2
  go_ret
  exact ⟨rfl, I.b⟩

set_option maxRecDepth 100000 in
set_option maxHeartbeats 4000000 in
theorem ranks_3 (a b c d e f n m : Int) (w : World) (h : unrOk [a, b, c, d, e, f] n = true) (h2 : unrOk [a, b, c, d, e, f] m = true) (hlt : n < m) : Calls Try.prog 6 #[.agg #[.int .i64 a, .int .i64 b, .int .i64 c, .int .i64 d, .int .i64 e, .int .i64 f], .int .i64 n, .int .i64 m] w (Gives (.bool true) w) := by
  obtain ⟨b0, b1, b2, b3, b4, b5, hb0⟩ := six (unr_length [a, b, c, d, e, f] n)
  have U1 : ∀ w, Calls Try.prog 33 #[.agg #[.int .i64 a, .int .i64 b, .int .i64 c, .int .i64 d, .int .i64 e, .int .i64 f], .int .i64 n] w (Gives (.tuple #[.agg #[.int .i64 b0, .int .i64 b1, .int .i64 b2, .int .i64 b3, .int .i64 b4, .int .i64 b5], .int .i64 (unrE [a, b, c, d, e, f] n)]) w) := fun w => by have := unr_any a b c d e f n w; unfold UnrGives at this; rw [hb0] at this; exact this
  have U2 : ∀ w, Calls Try.prog 34 #[.agg #[.int .i64 a, .int .i64 b, .int .i64 c, .int .i64 d, .int .i64 e, .int .i64 f], .int .i64 n] w (Gives (.tuple #[.agg #[.int .i64 b0, .int .i64 b1, .int .i64 b2, .int .i64 b3, .int .i64 b4, .int .i64 b5], .int .i64 (unrE [a, b, c, d, e, f] n)]) w) := fun w => by have := runr_any a b c d e f n w; unfold UnrGives at this; rw [hb0] at this; exact this
  have HL := Lib.hid (fun w => lives_any w)
  have I : SupIn w [a, b, c, d, e, f] _ := ⟨BB.new w 23 a b c d e f, below_new _ _⟩
  have q1 : ∀ w, (Op.equalIn 10000 23 (.agg #[.int .i64 b0, .int .i64 b1, .int .i64 b2, .int .i64 b3, .int .i64 b4, .int .i64 b5]) (.agg #[.int .i64 b0, .int .i64 b1, .int .i64 b2, .int .i64 b3, .int .i64 b4, .int .i64 b5])).run Try.prog w = .ok true w := same_self [b0, b1, b2, b3, b4, b5] rfl
  obtain ⟨d0, d1, d2, d3, d4, d5, hd0⟩ := six (unr_length [a, b, c, d, e, f] m)
  have U3 : ∀ w, Calls Try.prog 33 #[.agg #[.int .i64 a, .int .i64 b, .int .i64 c, .int .i64 d, .int .i64 e, .int .i64 f], .int .i64 m] w (Gives (.tuple #[.agg #[.int .i64 d0, .int .i64 d1, .int .i64 d2, .int .i64 d3, .int .i64 d4, .int .i64 d5], .int .i64 (unrE [a, b, c, d, e, f] m)]) w) := fun w => by have := unr_any a b c d e f m w; unfold UnrGives at this; rw [hd0] at this; exact this
  have HR : Hid (∀ w, Calls Try.prog 29 #[.agg #[.int .i64 a, .int .i64 b, .int .i64 c, .int .i64 d, .int .i64 e, .int .i64 f], .agg #[.int .i64 b0, .int .i64 b1, .int .i64 b2, .int .i64 b3, .int .i64 b4, .int .i64 b5]] w (Gives (.tuple #[.int .i64 n, .int .i64 0]) w)) := Lib.hid fun w => by
    have := rank_any a b c d e f b0 b1 b2 b3 b4 b5 w
    unfold RankGives at this
    have r := rank_unr (s := [a, b, c, d, e, f]) rfl h
    rw [hb0] at r
    rw [r.1, r.2] at this
    exact this
  rw [(unr_val_yes h).1] at U1 U2
  have V1 := Lib.hid U1
  have V2 := Lib.hid U2
  clear U1 U2
  rw [(unr_val_yes h2).1] at U3
  have V3 := Lib.hid U3
  have HC : Hid (∀ w, Calls Try.prog 17 #[.agg #[.int .i64 b0, .int .i64 b1, .int .i64 b2, .int .i64 b3, .int .i64 b4, .int .i64 b5], .agg #[.int .i64 d0, .int .i64 d1, .int .i64 d2, .int .i64 d3, .int .i64 d4, .int .i64 d5]] w (Gives (.int .i64 (-1)) w)) := Lib.hid fun w => by
    have := compare_any b0 b1 b2 b3 b4 b5 d0 d1 d2 d3 d4 d5 w
    have r := cmp_unr h h2
    rw [hb0, hd0] at r
    rw [r] at this
    rw [if_pos hlt] at this
    exact this
  clear U3 h h2 hb0 hd0
  go_enter Try.func6, Try.ntmps6
  go_upto_region 1 with (fail)
  generalize w.alloc (.cells #[.int .i64 a, .int .i64 b, .int .i64 c, .int .i64 d, .int .i64 e, .int .i64 f] 23) = W at I ⊢
  obtain ⟨x0, x1, x2, x3, x4, x5⟩ := cells6 I.s
  go_wp2_with fail
  refine (V1.out _).mono ?_
  rintro e1 w1 ⟨rfl, hb⟩
  replace I := I.keep hb
  clear hb x0 x1 x2 x3 x4 x5
  go_upto_region 2 with (fail)
  have J := BB.new w1 23 b0 b1 b2 b3 b4 b5
  replace I := I.keep (below_new w1 (.cells #[.int .i64 b0, .int .i64 b1, .int .i64 b2, .int .i64 b3, .int .i64 b4, .int .i64 b5] 23))
  generalize w1.alloc (.cells #[.int .i64 b0, .int .i64 b1, .int .i64 b2, .int .i64 b3, .int .i64 b4, .int .i64 b5] 23) = w2 at *
  generalize w1.heap.size = g1 at *
  obtain ⟨x0, x1, x2, x3, x4, x5⟩ := cells6 I.s
  go_wp2_with fail
  refine (V2.out _).mono ?_
  rintro e3 w3 ⟨rfl, hb⟩
  replace J := J.keep hb J.lt
  replace I := I.keep hb
  clear hb x0 x1 x2 x3 x4 x5
  go_upto_region 3 with (fail)
  have K := BB.new w3 23 b0 b1 b2 b3 b4 b5
  replace J := J.keep (below_new w3 (.cells #[.int .i64 b0, .int .i64 b1, .int .i64 b2, .int .i64 b3, .int .i64 b4, .int .i64 b5] 23)) J.lt
  replace I := I.keep (below_new w3 (.cells #[.int .i64 b0, .int .i64 b1, .int .i64 b2, .int .i64 b3, .int .i64 b4, .int .i64 b5] 23))
  generalize w3.alloc (.cells #[.int .i64 b0, .int .i64 b1, .int .i64 b2, .int .i64 b3, .int .i64 b4, .int .i64 b5] 23) = w4 at *
  generalize w3.heap.size = g3 at *
  obtain ⟨x0, x1, x2, x3, x4, x5⟩ := cells6 I.s
  obtain ⟨y0, y1, y2, y3, y4, y5⟩ := cells6 J
  obtain ⟨z0, z1, z2, z3, z4, z5⟩ := cells6 K
  go_wp2_with fail
  refine (HR.out _).mono ?_
  rintro e5 w5 ⟨rfl, hb⟩
  replace J := J.keep hb J.lt
  replace K := K.keep hb K.lt
  replace I := I.keep hb
  clear hb x0 x1 x2 x3 x4 x5 y0 y1 y2 y3 y4 y5 z0 z1 z2 z3 z4 z5
  obtain ⟨x0, x1, x2, x3, x4, x5⟩ := cells6 I.s
  go_wp2_with fail
  refine (V3.out _).mono ?_
  rintro e6 w6 ⟨rfl, hb⟩
  replace J := J.keep hb J.lt
  replace K := K.keep hb K.lt
  replace I := I.keep hb
  clear hb x0 x1 x2 x3 x4 x5
  go_upto_region 11 with (fail)
  have M := BB.new w6 23 d0 d1 d2 d3 d4 d5
  replace J := J.keep (below_new w6 (.cells #[.int .i64 d0, .int .i64 d1, .int .i64 d2, .int .i64 d3, .int .i64 d4, .int .i64 d5] 23)) J.lt
  replace I := I.keep (below_new w6 (.cells #[.int .i64 d0, .int .i64 d1, .int .i64 d2, .int .i64 d3, .int .i64 d4, .int .i64 d5] 23))
  clear K
  generalize w6.alloc (.cells #[.int .i64 d0, .int .i64 d1, .int .i64 d2, .int .i64 d3, .int .i64 d4, .int .i64 d5] 23) = w7 at *
  generalize w6.heap.size = g6 at *
  obtain ⟨y0, y1, y2, y3, y4, y5⟩ := cells6 J
  obtain ⟨z0, z1, z2, z3, z4, z5⟩ := cells6 M
  go_wp2_with fail
  refine (HC.out _).mono ?_
  rintro e8 w8 ⟨rfl, hb⟩
  replace I := I.keep hb
  clear hb y0 y1 y2 y3 y4 y5 z0 z1 z2 z3 z4 z5 J M
  go_wp2_with fail
  refine (HL.out _).mono ?_
  rintro e9 w9 ⟨rfl, hb⟩
  replace I := I.keep hb
  clear hb
  go_wp2
  go_ret
  exact ⟨rfl, I.b⟩

set_option maxRecDepth 100000 in
set_option maxHeartbeats 4000000 in
theorem ranks_4 (a b c d e f n m : Int) (w : World) (h : unrOk [a, b, c, d, e, f] n = true) (h2 : unrOk [a, b, c, d, e, f] m = true) (hlt : m < n) : Calls Try.prog 6 #[.agg #[.int .i64 a, .int .i64 b, .int .i64 c, .int .i64 d, .int .i64 e, .int .i64 f], .int .i64 n, .int .i64 m] w (Gives (.bool true) w) := by
  obtain ⟨b0, b1, b2, b3, b4, b5, hb0⟩ := six (unr_length [a, b, c, d, e, f] n)
  have U1 : ∀ w, Calls Try.prog 33 #[.agg #[.int .i64 a, .int .i64 b, .int .i64 c, .int .i64 d, .int .i64 e, .int .i64 f], .int .i64 n] w (Gives (.tuple #[.agg #[.int .i64 b0, .int .i64 b1, .int .i64 b2, .int .i64 b3, .int .i64 b4, .int .i64 b5], .int .i64 (unrE [a, b, c, d, e, f] n)]) w) := fun w => by have := unr_any a b c d e f n w; unfold UnrGives at this; rw [hb0] at this; exact this
  have U2 : ∀ w, Calls Try.prog 34 #[.agg #[.int .i64 a, .int .i64 b, .int .i64 c, .int .i64 d, .int .i64 e, .int .i64 f], .int .i64 n] w (Gives (.tuple #[.agg #[.int .i64 b0, .int .i64 b1, .int .i64 b2, .int .i64 b3, .int .i64 b4, .int .i64 b5], .int .i64 (unrE [a, b, c, d, e, f] n)]) w) := fun w => by have := runr_any a b c d e f n w; unfold UnrGives at this; rw [hb0] at this; exact this
  have HL := Lib.hid (fun w => lives_any w)
  have I : SupIn w [a, b, c, d, e, f] _ := ⟨BB.new w 23 a b c d e f, below_new _ _⟩
  have q1 : ∀ w, (Op.equalIn 10000 23 (.agg #[.int .i64 b0, .int .i64 b1, .int .i64 b2, .int .i64 b3, .int .i64 b4, .int .i64 b5]) (.agg #[.int .i64 b0, .int .i64 b1, .int .i64 b2, .int .i64 b3, .int .i64 b4, .int .i64 b5])).run Try.prog w = .ok true w := same_self [b0, b1, b2, b3, b4, b5] rfl
  obtain ⟨d0, d1, d2, d3, d4, d5, hd0⟩ := six (unr_length [a, b, c, d, e, f] m)
  have U3 : ∀ w, Calls Try.prog 33 #[.agg #[.int .i64 a, .int .i64 b, .int .i64 c, .int .i64 d, .int .i64 e, .int .i64 f], .int .i64 m] w (Gives (.tuple #[.agg #[.int .i64 d0, .int .i64 d1, .int .i64 d2, .int .i64 d3, .int .i64 d4, .int .i64 d5], .int .i64 (unrE [a, b, c, d, e, f] m)]) w) := fun w => by have := unr_any a b c d e f m w; unfold UnrGives at this; rw [hd0] at this; exact this
  have HR : Hid (∀ w, Calls Try.prog 29 #[.agg #[.int .i64 a, .int .i64 b, .int .i64 c, .int .i64 d, .int .i64 e, .int .i64 f], .agg #[.int .i64 b0, .int .i64 b1, .int .i64 b2, .int .i64 b3, .int .i64 b4, .int .i64 b5]] w (Gives (.tuple #[.int .i64 n, .int .i64 0]) w)) := Lib.hid fun w => by
    have := rank_any a b c d e f b0 b1 b2 b3 b4 b5 w
    unfold RankGives at this
    have r := rank_unr (s := [a, b, c, d, e, f]) rfl h
    rw [hb0] at r
    rw [r.1, r.2] at this
    exact this
  rw [(unr_val_yes h).1] at U1 U2
  have V1 := Lib.hid U1
  have V2 := Lib.hid U2
  clear U1 U2
  rw [(unr_val_yes h2).1] at U3
  have V3 := Lib.hid U3
  have HC : Hid (∀ w, Calls Try.prog 17 #[.agg #[.int .i64 b0, .int .i64 b1, .int .i64 b2, .int .i64 b3, .int .i64 b4, .int .i64 b5], .agg #[.int .i64 d0, .int .i64 d1, .int .i64 d2, .int .i64 d3, .int .i64 d4, .int .i64 d5]] w (Gives (.int .i64 (1)) w)) := Lib.hid fun w => by
    have := compare_any b0 b1 b2 b3 b4 b5 d0 d1 d2 d3 d4 d5 w
    have r := cmp_unr h h2
    rw [hb0, hd0] at r
    rw [r] at this
    rw [if_neg (by omega), if_pos hlt] at this
    exact this
  clear U3 h h2 hb0 hd0
  go_enter Try.func6, Try.ntmps6
  go_upto_region 1 with (fail)
  generalize w.alloc (.cells #[.int .i64 a, .int .i64 b, .int .i64 c, .int .i64 d, .int .i64 e, .int .i64 f] 23) = W at I ⊢
  obtain ⟨x0, x1, x2, x3, x4, x5⟩ := cells6 I.s
  go_wp2_with fail
  refine (V1.out _).mono ?_
  rintro e1 w1 ⟨rfl, hb⟩
  replace I := I.keep hb
  clear hb x0 x1 x2 x3 x4 x5
  go_upto_region 2 with (fail)
  have J := BB.new w1 23 b0 b1 b2 b3 b4 b5
  replace I := I.keep (below_new w1 (.cells #[.int .i64 b0, .int .i64 b1, .int .i64 b2, .int .i64 b3, .int .i64 b4, .int .i64 b5] 23))
  generalize w1.alloc (.cells #[.int .i64 b0, .int .i64 b1, .int .i64 b2, .int .i64 b3, .int .i64 b4, .int .i64 b5] 23) = w2 at *
  generalize w1.heap.size = g1 at *
  obtain ⟨x0, x1, x2, x3, x4, x5⟩ := cells6 I.s
  go_wp2_with fail
  refine (V2.out _).mono ?_
  rintro e3 w3 ⟨rfl, hb⟩
  replace J := J.keep hb J.lt
  replace I := I.keep hb
  clear hb x0 x1 x2 x3 x4 x5
  go_upto_region 3 with (fail)
  have K := BB.new w3 23 b0 b1 b2 b3 b4 b5
  replace J := J.keep (below_new w3 (.cells #[.int .i64 b0, .int .i64 b1, .int .i64 b2, .int .i64 b3, .int .i64 b4, .int .i64 b5] 23)) J.lt
  replace I := I.keep (below_new w3 (.cells #[.int .i64 b0, .int .i64 b1, .int .i64 b2, .int .i64 b3, .int .i64 b4, .int .i64 b5] 23))
  generalize w3.alloc (.cells #[.int .i64 b0, .int .i64 b1, .int .i64 b2, .int .i64 b3, .int .i64 b4, .int .i64 b5] 23) = w4 at *
  generalize w3.heap.size = g3 at *
  obtain ⟨x0, x1, x2, x3, x4, x5⟩ := cells6 I.s
  obtain ⟨y0, y1, y2, y3, y4, y5⟩ := cells6 J
  obtain ⟨z0, z1, z2, z3, z4, z5⟩ := cells6 K
  go_wp2_with fail
  refine (HR.out _).mono ?_
  rintro e5 w5 ⟨rfl, hb⟩
  replace J := J.keep hb J.lt
  replace K := K.keep hb K.lt
  replace I := I.keep hb
  clear hb x0 x1 x2 x3 x4 x5 y0 y1 y2 y3 y4 y5 z0 z1 z2 z3 z4 z5
  obtain ⟨x0, x1, x2, x3, x4, x5⟩ := cells6 I.s
  go_wp2_with fail
  refine (V3.out _).mono ?_
  rintro e6 w6 ⟨rfl, hb⟩
  replace J := J.keep hb J.lt
  replace K := K.keep hb K.lt
  replace I := I.keep hb
  clear hb x0 x1 x2 x3 x4 x5
  go_upto_region 11 with (fail)
  have M := BB.new w6 23 d0 d1 d2 d3 d4 d5
  replace J := J.keep (below_new w6 (.cells #[.int .i64 d0, .int .i64 d1, .int .i64 d2, .int .i64 d3, .int .i64 d4, .int .i64 d5] 23)) J.lt
  replace I := I.keep (below_new w6 (.cells #[.int .i64 d0, .int .i64 d1, .int .i64 d2, .int .i64 d3, .int .i64 d4, .int .i64 d5] 23))
  clear K
  generalize w6.alloc (.cells #[.int .i64 d0, .int .i64 d1, .int .i64 d2, .int .i64 d3, .int .i64 d4, .int .i64 d5] 23) = w7 at *
  generalize w6.heap.size = g6 at *
  obtain ⟨y0, y1, y2, y3, y4, y5⟩ := cells6 J
  obtain ⟨z0, z1, z2, z3, z4, z5⟩ := cells6 M
  go_wp2_with fail
  refine (HC.out _).mono ?_
  rintro e8 w8 ⟨rfl, hb⟩
  replace I := I.keep hb
  clear hb y0 y1 y2 y3 y4 y5 z0 z1 z2 z3 z4 z5 J M
  go_wp2_with fail
  refine (HL.out _).mono ?_
  rintro e9 w9 ⟨rfl, hb⟩
  replace I := I.keep hb
  clear hb
  go_wp2
  go_ret
  exact ⟨rfl, I.b⟩

set_option maxRecDepth 100000 in
set_option maxHeartbeats 4000000 in
theorem ranks_5 (a b c d e f n m : Int) (w : World) (h : unrOk [a, b, c, d, e, f] n = true) (h2 : unrOk [a, b, c, d, e, f] m = true) (hlt : ¬ n < m) (hlt2 : ¬ m < n) : Calls Try.prog 6 #[.agg #[.int .i64 a, .int .i64 b, .int .i64 c, .int .i64 d, .int .i64 e, .int .i64 f], .int .i64 n, .int .i64 m] w (Gives (.bool true) w) := by
  obtain ⟨b0, b1, b2, b3, b4, b5, hb0⟩ := six (unr_length [a, b, c, d, e, f] n)
  have U1 : ∀ w, Calls Try.prog 33 #[.agg #[.int .i64 a, .int .i64 b, .int .i64 c, .int .i64 d, .int .i64 e, .int .i64 f], .int .i64 n] w (Gives (.tuple #[.agg #[.int .i64 b0, .int .i64 b1, .int .i64 b2, .int .i64 b3, .int .i64 b4, .int .i64 b5], .int .i64 (unrE [a, b, c, d, e, f] n)]) w) := fun w => by have := unr_any a b c d e f n w; unfold UnrGives at this; rw [hb0] at this; exact this
  have U2 : ∀ w, Calls Try.prog 34 #[.agg #[.int .i64 a, .int .i64 b, .int .i64 c, .int .i64 d, .int .i64 e, .int .i64 f], .int .i64 n] w (Gives (.tuple #[.agg #[.int .i64 b0, .int .i64 b1, .int .i64 b2, .int .i64 b3, .int .i64 b4, .int .i64 b5], .int .i64 (unrE [a, b, c, d, e, f] n)]) w) := fun w => by have := runr_any a b c d e f n w; unfold UnrGives at this; rw [hb0] at this; exact this
  have HL := Lib.hid (fun w => lives_any w)
  have I : SupIn w [a, b, c, d, e, f] _ := ⟨BB.new w 23 a b c d e f, below_new _ _⟩
  have q1 : ∀ w, (Op.equalIn 10000 23 (.agg #[.int .i64 b0, .int .i64 b1, .int .i64 b2, .int .i64 b3, .int .i64 b4, .int .i64 b5]) (.agg #[.int .i64 b0, .int .i64 b1, .int .i64 b2, .int .i64 b3, .int .i64 b4, .int .i64 b5])).run Try.prog w = .ok true w := same_self [b0, b1, b2, b3, b4, b5] rfl
  obtain ⟨d0, d1, d2, d3, d4, d5, hd0⟩ := six (unr_length [a, b, c, d, e, f] m)
  have U3 : ∀ w, Calls Try.prog 33 #[.agg #[.int .i64 a, .int .i64 b, .int .i64 c, .int .i64 d, .int .i64 e, .int .i64 f], .int .i64 m] w (Gives (.tuple #[.agg #[.int .i64 d0, .int .i64 d1, .int .i64 d2, .int .i64 d3, .int .i64 d4, .int .i64 d5], .int .i64 (unrE [a, b, c, d, e, f] m)]) w) := fun w => by have := unr_any a b c d e f m w; unfold UnrGives at this; rw [hd0] at this; exact this
  have HR : Hid (∀ w, Calls Try.prog 29 #[.agg #[.int .i64 a, .int .i64 b, .int .i64 c, .int .i64 d, .int .i64 e, .int .i64 f], .agg #[.int .i64 b0, .int .i64 b1, .int .i64 b2, .int .i64 b3, .int .i64 b4, .int .i64 b5]] w (Gives (.tuple #[.int .i64 n, .int .i64 0]) w)) := Lib.hid fun w => by
    have := rank_any a b c d e f b0 b1 b2 b3 b4 b5 w
    unfold RankGives at this
    have r := rank_unr (s := [a, b, c, d, e, f]) rfl h
    rw [hb0] at r
    rw [r.1, r.2] at this
    exact this
  rw [(unr_val_yes h).1] at U1 U2
  have V1 := Lib.hid U1
  have V2 := Lib.hid U2
  clear U1 U2
  rw [(unr_val_yes h2).1] at U3
  have V3 := Lib.hid U3
  have HC : Hid (∀ w, Calls Try.prog 17 #[.agg #[.int .i64 b0, .int .i64 b1, .int .i64 b2, .int .i64 b3, .int .i64 b4, .int .i64 b5], .agg #[.int .i64 d0, .int .i64 d1, .int .i64 d2, .int .i64 d3, .int .i64 d4, .int .i64 d5]] w (Gives (.int .i64 (0)) w)) := Lib.hid fun w => by
    have := compare_any b0 b1 b2 b3 b4 b5 d0 d1 d2 d3 d4 d5 w
    have r := cmp_unr h h2
    rw [hb0, hd0] at r
    rw [r] at this
    rw [if_neg hlt, if_neg hlt2] at this
    exact this
  clear U3 h h2 hb0 hd0
  go_enter Try.func6, Try.ntmps6
  go_upto_region 1 with (fail)
  generalize w.alloc (.cells #[.int .i64 a, .int .i64 b, .int .i64 c, .int .i64 d, .int .i64 e, .int .i64 f] 23) = W at I ⊢
  obtain ⟨x0, x1, x2, x3, x4, x5⟩ := cells6 I.s
  go_wp2_with fail
  refine (V1.out _).mono ?_
  rintro e1 w1 ⟨rfl, hb⟩
  replace I := I.keep hb
  clear hb x0 x1 x2 x3 x4 x5
  go_upto_region 2 with (fail)
  have J := BB.new w1 23 b0 b1 b2 b3 b4 b5
  replace I := I.keep (below_new w1 (.cells #[.int .i64 b0, .int .i64 b1, .int .i64 b2, .int .i64 b3, .int .i64 b4, .int .i64 b5] 23))
  generalize w1.alloc (.cells #[.int .i64 b0, .int .i64 b1, .int .i64 b2, .int .i64 b3, .int .i64 b4, .int .i64 b5] 23) = w2 at *
  generalize w1.heap.size = g1 at *
  obtain ⟨x0, x1, x2, x3, x4, x5⟩ := cells6 I.s
  go_wp2_with fail
  refine (V2.out _).mono ?_
  rintro e3 w3 ⟨rfl, hb⟩
  replace J := J.keep hb J.lt
  replace I := I.keep hb
  clear hb x0 x1 x2 x3 x4 x5
  go_upto_region 3 with (fail)
  have K := BB.new w3 23 b0 b1 b2 b3 b4 b5
  replace J := J.keep (below_new w3 (.cells #[.int .i64 b0, .int .i64 b1, .int .i64 b2, .int .i64 b3, .int .i64 b4, .int .i64 b5] 23)) J.lt
  replace I := I.keep (below_new w3 (.cells #[.int .i64 b0, .int .i64 b1, .int .i64 b2, .int .i64 b3, .int .i64 b4, .int .i64 b5] 23))
  generalize w3.alloc (.cells #[.int .i64 b0, .int .i64 b1, .int .i64 b2, .int .i64 b3, .int .i64 b4, .int .i64 b5] 23) = w4 at *
  generalize w3.heap.size = g3 at *
  obtain ⟨x0, x1, x2, x3, x4, x5⟩ := cells6 I.s
  obtain ⟨y0, y1, y2, y3, y4, y5⟩ := cells6 J
  obtain ⟨z0, z1, z2, z3, z4, z5⟩ := cells6 K
  go_wp2_with fail
  refine (HR.out _).mono ?_
  rintro e5 w5 ⟨rfl, hb⟩
  replace J := J.keep hb J.lt
  replace K := K.keep hb K.lt
  replace I := I.keep hb
  clear hb x0 x1 x2 x3 x4 x5 y0 y1 y2 y3 y4 y5 z0 z1 z2 z3 z4 z5
  obtain ⟨x0, x1, x2, x3, x4, x5⟩ := cells6 I.s
  go_wp2_with fail
  refine (V3.out _).mono ?_
  rintro e6 w6 ⟨rfl, hb⟩
  replace J := J.keep hb J.lt
  replace K := K.keep hb K.lt
  replace I := I.keep hb
  clear hb x0 x1 x2 x3 x4 x5
  go_upto_region 11 with (fail)
  have M := BB.new w6 23 d0 d1 d2 d3 d4 d5
  replace J := J.keep (below_new w6 (.cells #[.int .i64 d0, .int .i64 d1, .int .i64 d2, .int .i64 d3, .int .i64 d4, .int .i64 d5] 23)) J.lt
  replace I := I.keep (below_new w6 (.cells #[.int .i64 d0, .int .i64 d1, .int .i64 d2, .int .i64 d3, .int .i64 d4, .int .i64 d5] 23))
  clear K
  generalize w6.alloc (.cells #[.int .i64 d0, .int .i64 d1, .int .i64 d2, .int .i64 d3, .int .i64 d4, .int .i64 d5] 23) = w7 at *
  generalize w6.heap.size = g6 at *
  obtain ⟨y0, y1, y2, y3, y4, y5⟩ := cells6 J
  obtain ⟨z0, z1, z2, z3, z4, z5⟩ := cells6 M
  go_wp2_with fail
  refine (HC.out _).mono ?_
  rintro e8 w8 ⟨rfl, hb⟩
  replace I := I.keep hb
  clear hb y0 y1 y2 y3 y4 y5 z0 z1 z2 z3 z4 z5 J M
  go_wp2_with fail
  refine (HL.out _).mono ?_
  rintro e9 w9 ⟨rfl, hb⟩
  replace I := I.keep hb
  clear hb
  go_wp2
  go_ret
  exact ⟨rfl, I.b⟩

theorem ranks_walk (a b c d e f n m : Int) (w : World) : Calls Try.prog 6 #[.agg #[.int .i64 a, .int .i64 b, .int .i64 c, .int .i64 d, .int .i64 e, .int .i64 f], .int .i64 n, .int .i64 m] w (Gives (.bool true) w) := by
  cases h : unrOk [a, b, c, d, e, f] n
  · exact ranks_1 _ _ _ _ _ _ n m w h
  · cases h2 : unrOk [a, b, c, d, e, f] m
    · exact ranks_2 _ _ _ _ _ _ n m w h h2
    · rcases Int.lt_trichotomy n m with g | g | g
      · exact ranks_3 _ _ _ _ _ _ n m w h h2 g
      · exact ranks_5 _ _ _ _ _ _ n m w h h2 (by omega) (by omega)
      · exact ranks_4 _ _ _ _ _ _ n m w h h2 g
end Go.Proofs.Ytajdbpkcakkhdaa
