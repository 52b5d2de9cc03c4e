/- The walk of SetupAllows: no claim of its own. -/
import Derived.Test.YtnpkjobbolijbaaGreatDoorUWalkC
namespace Go.Proofs.YtnpkjobbolijbaaGreatDoor
open Go.RowKit
open MU (Su Cp As)
def B6 (w : World) (g : Nat) (a0 a1 a2 a3 a4 a5 : Int) : Prop := w.heap[g]? = some (.cells #[.int .i64 a0, .int .i64 a1, .int .i64 a2, .int .i64 a3, .int .i64 a4, .int .i64 a5] 39 (0, 0))
theorem B6.keep {w w' : World} {g : Nat} {a0 a1 a2 a3 a4 a5 : Int} (h : B6 w g a0 a1 a2 a3 a4 a5) (hb : Below w.heap.size w w') : B6 w' g a0 a1 a2 a3 a4 a5 := (hb.block g (Array.getElem?_eq_some_iff.1 h).1).trans h
theorem B6.cells {w : World} {g : Nat} {a0 a1 a2 a3 a4 a5 : Int} (h : B6 w g a0 a1 a2 a3 a4 a5) : w.cell? ⟨g, 0, none⟩ = some (.int .i64 a0) ∧ w.cell? ⟨g, 1, none⟩ = some (.int .i64 a1) ∧ w.cell? ⟨g, 2, none⟩ = some (.int .i64 a2) ∧ w.cell? ⟨g, 3, none⟩ = some (.int .i64 a3) ∧ w.cell? ⟨g, 4, none⟩ = some (.int .i64 a4) ∧ w.cell? ⟨g, 5, none⟩ = some (.int .i64 a5) := by
  have h' : w.heap[g]? = some (.cells #[.int .i64 a0, .int .i64 a1, .int .i64 a2, .int .i64 a3, .int .i64 a4, .int .i64 a5] 39 (0, 0)) := h
  refine ⟨?_, ?_, ?_, ?_, ?_, ?_⟩ <;> (rw [cell_of_row w g _ _ _ _ h']; rfl)
theorem list6x {l : List Int} (h : l.length = 6) : ∃ a b c d e f, l = [a, b, c, d, e, f] := by
  match l, h with
  | [a, b, c, d, e, f], _ => exact ⟨a, b, c, d, e, f, rfl⟩
theorem same_lit6 (a b c d e f : Int) (w : World) : (Op.equalIn 10000 39 (.agg #[.int .i64 a, .int .i64 b, .int .i64 c, .int .i64 d, .int .i64 e, .int .i64 f]) (.agg #[.int .i64 a, .int .i64 b, .int .i64 c, .int .i64 d, .int .i64 e, .int .i64 f])).run Tryz.prog w = .ok true w := by
  have := run_same [a, b, c, d, e, f] [a, b, c, d, e, f] rfl rfl w
  rw [decide_eq_true rfl] at this
  exact this
/-- What the last region of SetupAllows reads. -/
structure AllIn (w : World) (p g h : Nat) (v1 v2 v3 v4 : Value) (b0 b1 b2 b3 b4 b5 x0 x1 x2 x3 x4 x5 y0 y1 y2 y3 y4 y5 : Int) : Prop where
  box : TB w p 27 v1 v2 v3 v4
  b : B6 w (p + 1) b0 b1 b2 b3 b4 b5
  x : B6 w g x0 x1 x2 x3 x4 x5
  y : B6 w (g + 1) y0 y1 y2 y3 y4 y5
  x' : B6 w h x0 x1 x2 x3 x4 x5
  y' : B6 w (h + 1) y0 y1 y2 y3 y4 y5
section
variable {w w' : World} {p g h : Nat} {v1 v2 v3 v4 : Value} {b0 b1 b2 b3 b4 b5 x0 x1 x2 x3 x4 x5 y0 y1 y2 y3 y4 y5 : Int}
theorem AllIn.keep (q : AllIn w p g h v1 v2 v3 v4 b0 b1 b2 b3 b4 b5 x0 x1 x2 x3 x4 x5 y0 y1 y2 y3 y4 y5) (hb : Below w.heap.size w w') : AllIn w' p g h v1 v2 v3 v4 b0 b1 b2 b3 b4 b5 x0 x1 x2 x3 x4 x5 y0 y1 y2 y3 y4 y5 := ⟨q.box.keep hb, q.b.keep hb, q.x.keep hb, q.y.keep hb, q.x'.keep hb, q.y'.keep hb⟩
end
set_option maxRecDepth 100000 in
set_option maxHeartbeats 16000000 in
theorem setupAllows_walk (A1 : Option Addr) (n1 c1 : Nat) (A2 : Option Addr) (n2 c2 : Nat) (A3 : Option Addr) (n3 c3 : Nat) (A4 : Option Addr) (n4 c4 : Nat) (s : Su) (i b0 b1 b2 b3 b4 b5 : Int) (w : World) (h : SuIn w A1 n1 c1 A2 n2 c2 A3 n3 c3 A4 n4 c4 s) (_ : -9223372036854775808 ≤ i ∧ i ≤ 9223372036854775807) (ht : Tab w) :
    Calls Tryz.prog 7 #[.agg #[.slice A1 n1 c1, .slice A2 n2 c2, .slice A3 n3 c3, .slice A4 n4 c4], .int .i64 i, .agg #[.int .i64 b0, .int .i64 b1, .int .i64 b2, .int .i64 b3, .int .i64 b4, .int .i64 b5]] w (Gives (.bool true) w) := by
  have s0 : (w.alloc (.cells #[.slice A1 n1 c1, .slice A2 n2 c2, .slice A3 n3 c3, .slice A4 n4 c4] 27)).heap.size = w.heap.size + 1 := by simp
  have TB0 := Lib.hid ((TB.new w 27 (.slice A1 n1 c1) (.slice A2 n2 c2) (.slice A3 n3 c3) (.slice A4 n4 c4)).keep (below_new (w.alloc (.cells #[.slice A1 n1 c1, .slice A2 n2 c2, .slice A3 n3 c3, .slice A4 n4 c4] 27)) (.cells #[.int .i64 b0, .int .i64 b1, .int .i64 b2, .int .i64 b3, .int .i64 b4, .int .i64 b5] 39)))
  have BB0 : Hid (B6 ((w.alloc (.cells #[.slice A1 n1 c1, .slice A2 n2 c2, .slice A3 n3 c3, .slice A4 n4 c4] 27)).alloc (.cells #[.int .i64 b0, .int .i64 b1, .int .i64 b2, .int .i64 b3, .int .i64 b4, .int .i64 b5] 39)) (w.heap.size + 1) b0 b1 b2 b3 b4 b5) := Lib.hid (by have := heap_new (w.alloc (.cells #[.slice A1 n1 c1, .slice A2 n2 c2, .slice A3 n3 c3, .slice A4 n4 c4] 27)) (.cells #[.int .i64 b0, .int .i64 b1, .int .i64 b2, .int .i64 b3, .int .i64 b4, .int .i64 b5] 39); rwa [s0] at this)
  have B0 := Lib.hid ((below_new w (.cells #[.slice A1 n1 c1, .slice A2 n2 c2, .slice A3 n3 c3, .slice A4 n4 c4] 27)).trans ((below_new (w.alloc (.cells #[.slice A1 n1 c1, .slice A2 n2 c2, .slice A3 n3 c3, .slice A4 n4 c4] 27)) (.cells #[.int .i64 b0, .int .i64 b1, .int .i64 b2, .int .i64 b3, .int .i64 b4, .int .i64 b5] 39)).mono (by omega)))
  have AW := Lib.hid (fun w' (hb : Below w.heap.size w w') => awake_any w' (ht.keep hb))
  have HH := Lib.hid h
  clear ht h
  obtain ⟨t0, t1, t2, t3⟩ := TB0.out.cells
  go_enter Tryz.func7, Tryz.ntmps7
  go_wp2_with fail
  obtain ⟨W0, hW0⟩ : ∃ W0, W0 = (w.alloc (.cells #[.slice A1 n1 c1, .slice A2 n2 c2, .slice A3 n3 c3, .slice A4 n4 c4] 27)).alloc (.cells #[.int .i64 b0, .int .i64 b1, .int .i64 b2, .int .i64 b3, .int .i64 b4, .int .i64 b5] 39) := ⟨_, rfl⟩
  rw [← hW0] at TB0 B0 BB0 ⊢
  clear hW0 t0 t1 t2 t3 s0
  refine (great_any A1 n1 c1 A2 n2 c2 A3 n3 c3 A4 n4 c4 W0).mono ?_
  rintro e w1 ⟨rfl, hb⟩
  have TB1 := Lib.hid (TB0.out.keep hb)
  have BB1 := Lib.hid (BB0.out.keep hb)
  have B1 := Lib.hid (B0.out.trans (hb.mono B0.out.size))
  clear hb TB0 B0 BB0
  by_cases hg : (decide (50 < n1) || decide (50 < n2) || decide (50 < n3) || decide (50 < n4)) = true
  · rw [hg]
    clear hg HH
    go_wp2_with fail
    refine (AW.out _ B1.out).mono ?_
    rintro e w2 ⟨rfl, hb⟩
    have B2 := Lib.hid (B1.out.trans (hb.mono B1.out.size))
    clear hb
    go_wp2
    go_ret
    exact ⟨rfl, B2.out⟩
  · have hn : n1 ≤ 5000 := by
      simp at hg
      omega
    have HS := Lib.hid (HH.out.at hn)
    have hg' := Bool.eq_false_iff.2 hg
    rw [hg']
    have P1 := Lib.hid (fun w' (hb : Below w.heap.size w w') => popen_any A1 n1 c1 A2 n2 c2 A3 n3 c3 A4 n4 c4 s w' (HS.out.keep hb))
    have P2 := Lib.hid (fun w' (hb : Below w.heap.size w w') => ropen_any A1 n1 c1 A2 n2 c2 A3 n3 c3 A4 n4 c4 s w' (HS.out.keep hb))
    have P3 := Lib.hid (fun w' (hb : Below w.heap.size w w') => pallow_any A1 n1 c1 A2 n2 c2 A3 n3 c3 A4 n4 c4 s i b0 b1 b2 b3 b4 b5 w' (HS.out.keep hb))
    have P4 := Lib.hid (fun w' (hb : Below w.heap.size w w') => rallow_any A1 n1 c1 A2 n2 c2 A3 n3 c3 A4 n4 c4 s i b0 b1 b2 b3 b4 b5 w' (HS.out.keep hb))
    obtain ⟨x0, x1, x2, x3, x4, x5, hx⟩ := list6x (MU.openB_len s)
    obtain ⟨y0, y1, y2, y3, y4, y5, hy⟩ := list6x (MU.classB_len s)
    rw [hx, hy, show aggB [x0, x1, x2, x3, x4, x5] = .agg #[.int .i64 x0, .int .i64 x1, .int .i64 x2, .int .i64 x3, .int .i64 x4, .int .i64 x5] from rfl, show aggB [y0, y1, y2, y3, y4, y5] = .agg #[.int .i64 y0, .int .i64 y1, .int .i64 y2, .int .i64 y3, .int .i64 y4, .int .i64 y5] from rfl] at P1 P2
    generalize MU.allowE s i [b0, b1, b2, b3, b4, b5] = er at *
    have de : (er == er) = true := beq_self_eq_true er
    have E1 := same_lit6 x0 x1 x2 x3 x4 x5
    have E2 := same_lit6 y0 y1 y2 y3 y4 y5
    clear hg hg' HH HS hn hx hy
    have hz := TB1.out.lt
    obtain ⟨t0, t1, t2, t3⟩ := TB1.out.cells
    go_wp2_with fail
    refine (P1.out _ B1.out).mono ?_
    rintro e w2 ⟨rfl, hb⟩
    have s2 : (w2.alloc (.cells #[.int .i64 x0, .int .i64 x1, .int .i64 x2, .int .i64 x3, .int .i64 x4, .int .i64 x5] 39)).heap.size = w2.heap.size + 1 := by simp
    have K2 := (below_new w2 (.cells #[.int .i64 x0, .int .i64 x1, .int .i64 x2, .int .i64 x3, .int .i64 x4, .int .i64 x5] 39)).trans ((below_new (w2.alloc (.cells #[.int .i64 x0, .int .i64 x1, .int .i64 x2, .int .i64 x3, .int .i64 x4, .int .i64 x5] 39)) (.cells #[.int .i64 y0, .int .i64 y1, .int .i64 y2, .int .i64 y3, .int .i64 y4, .int .i64 y5] 39)).mono (by omega))
    have TB2 := Lib.hid ((TB1.out.keep hb).keep K2)
    have BB2 := Lib.hid ((BB1.out.keep hb).keep K2)
    have X2 : Hid (B6 ((w2.alloc (.cells #[.int .i64 x0, .int .i64 x1, .int .i64 x2, .int .i64 x3, .int .i64 x4, .int .i64 x5] 39)).alloc (.cells #[.int .i64 y0, .int .i64 y1, .int .i64 y2, .int .i64 y3, .int .i64 y4, .int .i64 y5] 39)) w2.heap.size x0 x1 x2 x3 x4 x5) := Lib.hid (B6.keep (heap_new w2 (.cells #[.int .i64 x0, .int .i64 x1, .int .i64 x2, .int .i64 x3, .int .i64 x4, .int .i64 x5] 39)) (below_new _ _))
    have Y2 : Hid (B6 ((w2.alloc (.cells #[.int .i64 x0, .int .i64 x1, .int .i64 x2, .int .i64 x3, .int .i64 x4, .int .i64 x5] 39)).alloc (.cells #[.int .i64 y0, .int .i64 y1, .int .i64 y2, .int .i64 y3, .int .i64 y4, .int .i64 y5] 39)) (w2.heap.size + 1) y0 y1 y2 y3 y4 y5) := Lib.hid (by have := heap_new (w2.alloc (.cells #[.int .i64 x0, .int .i64 x1, .int .i64 x2, .int .i64 x3, .int .i64 x4, .int .i64 x5] 39)) (.cells #[.int .i64 y0, .int .i64 y1, .int .i64 y2, .int .i64 y3, .int .i64 y4, .int .i64 y5] 39); rwa [s2] at this)
    have B2 := Lib.hid ((B1.out.trans (hb.mono B1.out.size)).trans (K2.mono (B1.out.trans (hb.mono B1.out.size)).size))
    have hz2 := (TB1.out.keep hb).lt
    clear t0 t1 t2 t3 hz
    obtain ⟨t0, t1, t2, t3⟩ := (TB1.out.keep hb).cells
    clear hb TB1 BB1 B1 K2 s2
    go_wp2_with fail
    obtain ⟨W2, hW2⟩ : ∃ W2, W2 = (w2.alloc (.cells #[.int .i64 x0, .int .i64 x1, .int .i64 x2, .int .i64 x3, .int .i64 x4, .int .i64 x5] 39)).alloc (.cells #[.int .i64 y0, .int .i64 y1, .int .i64 y2, .int .i64 y3, .int .i64 y4, .int .i64 y5] 39) := ⟨_, rfl⟩
    rw [← hW2] at TB2 BB2 X2 Y2 B2 ⊢
    clear hW2 t0 t1 t2 t3 hz2
    refine (P2.out _ B2.out).mono ?_
    rintro e w3 ⟨rfl, hb⟩
    have s3 : (w3.alloc (.cells #[.int .i64 x0, .int .i64 x1, .int .i64 x2, .int .i64 x3, .int .i64 x4, .int .i64 x5] 39)).heap.size = w3.heap.size + 1 := by simp
    have K3 := (below_new w3 (.cells #[.int .i64 x0, .int .i64 x1, .int .i64 x2, .int .i64 x3, .int .i64 x4, .int .i64 x5] 39)).trans ((below_new (w3.alloc (.cells #[.int .i64 x0, .int .i64 x1, .int .i64 x2, .int .i64 x3, .int .i64 x4, .int .i64 x5] 39)) (.cells #[.int .i64 y0, .int .i64 y1, .int .i64 y2, .int .i64 y3, .int .i64 y4, .int .i64 y5] 39)).mono (by omega))
    have AI3 : Hid (AllIn ((w3.alloc (.cells #[.int .i64 x0, .int .i64 x1, .int .i64 x2, .int .i64 x3, .int .i64 x4, .int .i64 x5] 39)).alloc (.cells #[.int .i64 y0, .int .i64 y1, .int .i64 y2, .int .i64 y3, .int .i64 y4, .int .i64 y5] 39)) w.heap.size w2.heap.size w3.heap.size (.slice A1 n1 c1) (.slice A2 n2 c2) (.slice A3 n3 c3) (.slice A4 n4 c4) b0 b1 b2 b3 b4 b5 x0 x1 x2 x3 x4 x5 y0 y1 y2 y3 y4 y5) := Lib.hid
      ⟨(TB2.out.keep hb).keep K3, (BB2.out.keep hb).keep K3, (X2.out.keep hb).keep K3, (Y2.out.keep hb).keep K3, B6.keep (heap_new w3 (.cells #[.int .i64 x0, .int .i64 x1, .int .i64 x2, .int .i64 x3, .int .i64 x4, .int .i64 x5] 39)) (below_new _ _), by have := heap_new (w3.alloc (.cells #[.int .i64 x0, .int .i64 x1, .int .i64 x2, .int .i64 x3, .int .i64 x4, .int .i64 x5] 39)) (.cells #[.int .i64 y0, .int .i64 y1, .int .i64 y2, .int .i64 y3, .int .i64 y4, .int .i64 y5] 39); rwa [s3] at this⟩
    have B3 := Lib.hid ((B2.out.trans (hb.mono B2.out.size)).trans (K3.mono (B2.out.trans (hb.mono B2.out.size)).size))
    clear hb TB2 BB2 X2 Y2 B2 K3 s3
    go_wp2
    obtain ⟨W3, hW3⟩ : ∃ W3, W3 = (w3.alloc (.cells #[.int .i64 x0, .int .i64 x1, .int .i64 x2, .int .i64 x3, .int .i64 x4, .int .i64 x5] 39)).alloc (.cells #[.int .i64 y0, .int .i64 y1, .int .i64 y2, .int .i64 y3, .int .i64 y4, .int .i64 y5] 39) := ⟨_, rfl⟩
    rw [← hW3] at AI3 B3 ⊢
    clear hW3
    have AI4 := Lib.hid (AI3.out.keep (below_drawn W3))
    have B4 := Lib.hid (B3.out.trans ((below_drawn W3).mono B3.out.size))
    clear AI3 B3
    refine wp_region_held_drew (S := fun w' => AllIn w' w.heap.size w2.heap.size w3.heap.size (.slice A1 n1 c1) (.slice A2 n2 c2) (.slice A3 n3 c3) (.slice A4 n4 c4) b0 b1 b2 b3 b4 b5 x0 x1 x2 x3 x4 x5 y0 y1 y2 y3 y4 y5) (by kernel_rfl) AI4.out (fun hHeld => ?_)
    refine wpAnyH_take (i := 0) (oi := { dst := some 24, op := Op.load 39 (Operand.tmp 7), type := 39, pos := "law.go:76", after := #[], guard := none }) (v := ?_) rfl (by kernel_rfl) (by kernel_rfl) (by kernel_rfl) (fun _ _ _ h => h) (Or.inl ⟨by rfl, ?_⟩) (by assumption) ?_
    rotate_left
    · intro w hSw; (try dsimp only at hSw); obtain ⟨⟨t0, t1, t2, t3⟩, ⟨u0, u1, u2, u3, u4, u5⟩, ⟨r0, r1, r2, r3, r4, r5⟩, ⟨q0, q1, q2, q3, q4, q5⟩, ⟨m0, m1, m2, m3, m4, m5⟩, ⟨k0, k1, k2, k3, k4, k5⟩⟩ := And.intro hSw.box.cells (And.intro hSw.b.cells (And.intro hSw.x.cells (And.intro hSw.y.cells (And.intro hSw.x'.cells hSw.y'.cells)))); go_simp; try with_reducible rfl
    (try simp only [Act.put, List.setIfInBounds_toArray, List.set_cons_zero, List.set_cons_succ])
    refine wpAnyH_take (i := 1) (oi := { dst := some 25, op := Op.load 39 (Operand.tmp 9), type := 39, pos := "law.go:76", after := #[], guard := none }) (v := ?_) rfl (by kernel_rfl) (by kernel_rfl) (by kernel_rfl) (fun _ _ _ h => h) (Or.inl ⟨by rfl, ?_⟩) (by assumption) ?_
    rotate_left
    · intro w hSw; (try dsimp only at hSw); obtain ⟨⟨t0, t1, t2, t3⟩, ⟨u0, u1, u2, u3, u4, u5⟩, ⟨r0, r1, r2, r3, r4, r5⟩, ⟨q0, q1, q2, q3, q4, q5⟩, ⟨m0, m1, m2, m3, m4, m5⟩, ⟨k0, k1, k2, k3, k4, k5⟩⟩ := And.intro hSw.box.cells (And.intro hSw.b.cells (And.intro hSw.x.cells (And.intro hSw.y.cells (And.intro hSw.x'.cells hSw.y'.cells)))); go_simp; try with_reducible rfl
    (try simp only [Act.put, List.setIfInBounds_toArray, List.set_cons_zero, List.set_cons_succ])
    refine wpAnyH_take (i := 2) (oi := { dst := some 26, op := Op.binOp BinOp.eql 39 (Operand.tmp 24) (Operand.tmp 25) 39, type := 4, pos := "law.go:76", after := #[{ on := 0, ground := Ground.data }, { on := 1, ground := Ground.data }], guard := none }) (v := ?_) rfl (by kernel_rfl) (by kernel_rfl) (by kernel_rfl) (fun _ _ _ h => h) (Or.inl ⟨by rfl, ?_⟩) (by assumption) ?_
    rotate_left
    · intro w hSw; (try dsimp only at hSw); obtain ⟨⟨t0, t1, t2, t3⟩, ⟨u0, u1, u2, u3, u4, u5⟩, ⟨r0, r1, r2, r3, r4, r5⟩, ⟨q0, q1, q2, q3, q4, q5⟩, ⟨m0, m1, m2, m3, m4, m5⟩, ⟨k0, k1, k2, k3, k4, k5⟩⟩ := And.intro hSw.box.cells (And.intro hSw.b.cells (And.intro hSw.x.cells (And.intro hSw.y.cells (And.intro hSw.x'.cells hSw.y'.cells)))); go_simp; try with_reducible rfl
    (try simp only [Act.put, List.setIfInBounds_toArray, List.set_cons_zero, List.set_cons_succ])
    refine wpAnyH_take (i := 3) (oi := { dst := some 27, op := Op.move (Operand.tmp 26), type := 4, pos := "law.go:76", after := #[{ on := 2, ground := Ground.data }], guard := none }) (v := ?_) rfl (by kernel_rfl) (by kernel_rfl) (by kernel_rfl) (fun _ _ _ h => h) (Or.inl ⟨by rfl, ?_⟩) (by assumption) ?_
    rotate_left
    · intro w hSw; (try dsimp only at hSw); obtain ⟨⟨t0, t1, t2, t3⟩, ⟨u0, u1, u2, u3, u4, u5⟩, ⟨r0, r1, r2, r3, r4, r5⟩, ⟨q0, q1, q2, q3, q4, q5⟩, ⟨m0, m1, m2, m3, m4, m5⟩, ⟨k0, k1, k2, k3, k4, k5⟩⟩ := And.intro hSw.box.cells (And.intro hSw.b.cells (And.intro hSw.x.cells (And.intro hSw.y.cells (And.intro hSw.x'.cells hSw.y'.cells)))); go_simp; try with_reducible rfl
    (try simp only [Act.put, List.setIfInBounds_toArray, List.set_cons_zero, List.set_cons_succ])
    refine wpAnyH_take (i := 4) (oi := { dst := some 28, op := Op.load 39 (Operand.tmp 8), type := 39, pos := "law.go:76", after := #[{ on := 3, ground := Ground.guard }], guard := some (3, true) }) (v := ?_) rfl (by kernel_rfl) (by kernel_rfl) (by kernel_rfl) (fun _ _ _ h => h) (Or.inl ⟨by rfl, ?_⟩) (by assumption) ?_
    rotate_left
    · intro w hSw; (try dsimp only at hSw); obtain ⟨⟨t0, t1, t2, t3⟩, ⟨u0, u1, u2, u3, u4, u5⟩, ⟨r0, r1, r2, r3, r4, r5⟩, ⟨q0, q1, q2, q3, q4, q5⟩, ⟨m0, m1, m2, m3, m4, m5⟩, ⟨k0, k1, k2, k3, k4, k5⟩⟩ := And.intro hSw.box.cells (And.intro hSw.b.cells (And.intro hSw.x.cells (And.intro hSw.y.cells (And.intro hSw.x'.cells hSw.y'.cells)))); go_simp; try with_reducible rfl
    (try simp only [Act.put, List.setIfInBounds_toArray, List.set_cons_zero, List.set_cons_succ])
    refine wpAnyH_take (i := 5) (oi := { dst := some 29, op := Op.load 39 (Operand.tmp 10), type := 39, pos := "law.go:76", after := #[{ on := 3, ground := Ground.guard }], guard := some (3, true) }) (v := ?_) rfl (by kernel_rfl) (by kernel_rfl) (by kernel_rfl) (fun _ _ _ h => h) (Or.inl ⟨by rfl, ?_⟩) (by assumption) ?_
    rotate_left
    · intro w hSw; (try dsimp only at hSw); obtain ⟨⟨t0, t1, t2, t3⟩, ⟨u0, u1, u2, u3, u4, u5⟩, ⟨r0, r1, r2, r3, r4, r5⟩, ⟨q0, q1, q2, q3, q4, q5⟩, ⟨m0, m1, m2, m3, m4, m5⟩, ⟨k0, k1, k2, k3, k4, k5⟩⟩ := And.intro hSw.box.cells (And.intro hSw.b.cells (And.intro hSw.x.cells (And.intro hSw.y.cells (And.intro hSw.x'.cells hSw.y'.cells)))); go_simp; try with_reducible rfl
    (try simp only [Act.put, List.setIfInBounds_toArray, List.set_cons_zero, List.set_cons_succ])
    refine wpAnyH_take (i := 6) (oi := { dst := some 30, op := Op.binOp BinOp.eql 39 (Operand.tmp 28) (Operand.tmp 29) 39, type := 4, pos := "law.go:76", after := #[{ on := 4, ground := Ground.data }, { on := 5, ground := Ground.data }, { on := 3, ground := Ground.guard }], guard := some (3, true) }) (v := ?_) rfl (by kernel_rfl) (by kernel_rfl) (by kernel_rfl) (fun _ _ _ h => h) (Or.inl ⟨by rfl, ?_⟩) (by assumption) ?_
    rotate_left
    · intro w hSw; (try dsimp only at hSw); obtain ⟨⟨t0, t1, t2, t3⟩, ⟨u0, u1, u2, u3, u4, u5⟩, ⟨r0, r1, r2, r3, r4, r5⟩, ⟨q0, q1, q2, q3, q4, q5⟩, ⟨m0, m1, m2, m3, m4, m5⟩, ⟨k0, k1, k2, k3, k4, k5⟩⟩ := And.intro hSw.box.cells (And.intro hSw.b.cells (And.intro hSw.x.cells (And.intro hSw.y.cells (And.intro hSw.x'.cells hSw.y'.cells)))); go_simp; try with_reducible rfl
    (try simp only [Act.put, List.setIfInBounds_toArray, List.set_cons_zero, List.set_cons_succ])
    refine wpAnyH_take (i := 7) (oi := { dst := some 31, op := Op.pick (Operand.tmp 27) (Operand.tmp 30) (Operand.const (Value.bool false)), type := 4, pos := "law.go:76", after := #[{ on := 3, ground := Ground.data }, { on := 6, ground := Ground.data }], guard := none }) (v := ?_) rfl (by kernel_rfl) (by kernel_rfl) (by kernel_rfl) (fun _ _ _ h => h) (Or.inl ⟨by rfl, ?_⟩) (by assumption) ?_
    rotate_left
    · intro w hSw; (try dsimp only at hSw); obtain ⟨⟨t0, t1, t2, t3⟩, ⟨u0, u1, u2, u3, u4, u5⟩, ⟨r0, r1, r2, r3, r4, r5⟩, ⟨q0, q1, q2, q3, q4, q5⟩, ⟨m0, m1, m2, m3, m4, m5⟩, ⟨k0, k1, k2, k3, k4, k5⟩⟩ := And.intro hSw.box.cells (And.intro hSw.b.cells (And.intro hSw.x.cells (And.intro hSw.y.cells (And.intro hSw.x'.cells hSw.y'.cells)))); go_simp; try with_reducible rfl
    (try simp only [Act.put, List.setIfInBounds_toArray, List.set_cons_zero, List.set_cons_succ])
    refine wpAnyH_take (i := 8) (oi := { dst := some 32, op := Op.move (Operand.tmp 31), type := 4, pos := "law.go:76", after := #[{ on := 7, ground := Ground.data }, { on := 3, ground := Ground.chain }], guard := none }) (v := ?_) rfl (by kernel_rfl) (by kernel_rfl) (by kernel_rfl) (fun _ _ _ h => h) (Or.inl ⟨by rfl, ?_⟩) (by assumption) ?_
    rotate_left
    · intro w hSw; (try dsimp only at hSw); obtain ⟨⟨t0, t1, t2, t3⟩, ⟨u0, u1, u2, u3, u4, u5⟩, ⟨r0, r1, r2, r3, r4, r5⟩, ⟨q0, q1, q2, q3, q4, q5⟩, ⟨m0, m1, m2, m3, m4, m5⟩, ⟨k0, k1, k2, k3, k4, k5⟩⟩ := And.intro hSw.box.cells (And.intro hSw.b.cells (And.intro hSw.x.cells (And.intro hSw.y.cells (And.intro hSw.x'.cells hSw.y'.cells)))); go_simp; try with_reducible rfl
    (try simp only [Act.put, List.setIfInBounds_toArray, List.set_cons_zero, List.set_cons_succ])
    refine wpAnyH_take (i := 9) (oi := { dst := some 33, op := Op.load 27 (Operand.tmp 3), type := 27, pos := "law.go:76", after := #[{ on := 8, ground := Ground.guard }], guard := some (8, true) }) (v := ?_) rfl (by kernel_rfl) (by kernel_rfl) (by kernel_rfl) (fun _ _ _ h => h) (Or.inl ⟨by rfl, ?_⟩) (by assumption) ?_
    rotate_left
    · intro w hSw; (try dsimp only at hSw); obtain ⟨⟨t0, t1, t2, t3⟩, ⟨u0, u1, u2, u3, u4, u5⟩, ⟨r0, r1, r2, r3, r4, r5⟩, ⟨q0, q1, q2, q3, q4, q5⟩, ⟨m0, m1, m2, m3, m4, m5⟩, ⟨k0, k1, k2, k3, k4, k5⟩⟩ := And.intro hSw.box.cells (And.intro hSw.b.cells (And.intro hSw.x.cells (And.intro hSw.y.cells (And.intro hSw.x'.cells hSw.y'.cells)))); go_simp; try with_reducible rfl
    (try simp only [Act.put, List.setIfInBounds_toArray, List.set_cons_zero, List.set_cons_succ])
    refine wpAnyH_take (i := 10) (oi := { dst := some 34, op := Op.move (Operand.tmp 1), type := 3, pos := "law.go:76", after := #[{ on := 8, ground := Ground.guard }], guard := some (8, true) }) (v := ?_) rfl (by kernel_rfl) (by kernel_rfl) (by kernel_rfl) (fun _ _ _ h => h) (Or.inl ⟨by rfl, ?_⟩) (by assumption) ?_
    rotate_left
    · intro w hSw; (try dsimp only at hSw); obtain ⟨⟨t0, t1, t2, t3⟩, ⟨u0, u1, u2, u3, u4, u5⟩, ⟨r0, r1, r2, r3, r4, r5⟩, ⟨q0, q1, q2, q3, q4, q5⟩, ⟨m0, m1, m2, m3, m4, m5⟩, ⟨k0, k1, k2, k3, k4, k5⟩⟩ := And.intro hSw.box.cells (And.intro hSw.b.cells (And.intro hSw.x.cells (And.intro hSw.y.cells (And.intro hSw.x'.cells hSw.y'.cells)))); go_simp; try with_reducible rfl
    (try simp only [Act.put, List.setIfInBounds_toArray, List.set_cons_zero, List.set_cons_succ])
    refine wpAnyH_take (i := 11) (oi := { dst := some 35, op := Op.load 39 (Operand.tmp 5), type := 39, pos := "law.go:76", after := #[{ on := 8, ground := Ground.guard }], guard := some (8, true) }) (v := ?_) rfl (by kernel_rfl) (by kernel_rfl) (by kernel_rfl) (fun _ _ _ h => h) (Or.inl ⟨by rfl, ?_⟩) (by assumption) ?_
    rotate_left
    · intro w hSw; (try dsimp only at hSw); obtain ⟨⟨t0, t1, t2, t3⟩, ⟨u0, u1, u2, u3, u4, u5⟩, ⟨r0, r1, r2, r3, r4, r5⟩, ⟨q0, q1, q2, q3, q4, q5⟩, ⟨m0, m1, m2, m3, m4, m5⟩, ⟨k0, k1, k2, k3, k4, k5⟩⟩ := And.intro hSw.box.cells (And.intro hSw.b.cells (And.intro hSw.x.cells (And.intro hSw.y.cells (And.intro hSw.x'.cells hSw.y'.cells)))); go_simp; try with_reducible rfl
    (try simp only [Act.put, List.setIfInBounds_toArray, List.set_cons_zero, List.set_cons_succ])
    refine wpAnyH_take (i := 13) (oi := { dst := some 37, op := Op.load 27 (Operand.tmp 3), type := 27, pos := "law.go:76", after := #[{ on := 8, ground := Ground.guard }], guard := some (8, true) }) (v := ?_) rfl (by kernel_rfl) (by kernel_rfl) (by kernel_rfl) (fun _ _ _ h => h) (Or.inl ⟨by rfl, ?_⟩) (by assumption) ?_
    rotate_left
    · intro w hSw; (try dsimp only at hSw); obtain ⟨⟨t0, t1, t2, t3⟩, ⟨u0, u1, u2, u3, u4, u5⟩, ⟨r0, r1, r2, r3, r4, r5⟩, ⟨q0, q1, q2, q3, q4, q5⟩, ⟨m0, m1, m2, m3, m4, m5⟩, ⟨k0, k1, k2, k3, k4, k5⟩⟩ := And.intro hSw.box.cells (And.intro hSw.b.cells (And.intro hSw.x.cells (And.intro hSw.y.cells (And.intro hSw.x'.cells hSw.y'.cells)))); go_simp; try with_reducible rfl
    (try simp only [Act.put, List.setIfInBounds_toArray, List.set_cons_zero, List.set_cons_succ])
    refine wpAnyH_take (i := 14) (oi := { dst := some 38, op := Op.move (Operand.tmp 1), type := 3, pos := "law.go:76", after := #[{ on := 8, ground := Ground.guard }], guard := some (8, true) }) (v := ?_) rfl (by kernel_rfl) (by kernel_rfl) (by kernel_rfl) (fun _ _ _ h => h) (Or.inl ⟨by rfl, ?_⟩) (by assumption) ?_
    rotate_left
    · intro w hSw; (try dsimp only at hSw); obtain ⟨⟨t0, t1, t2, t3⟩, ⟨u0, u1, u2, u3, u4, u5⟩, ⟨r0, r1, r2, r3, r4, r5⟩, ⟨q0, q1, q2, q3, q4, q5⟩, ⟨m0, m1, m2, m3, m4, m5⟩, ⟨k0, k1, k2, k3, k4, k5⟩⟩ := And.intro hSw.box.cells (And.intro hSw.b.cells (And.intro hSw.x.cells (And.intro hSw.y.cells (And.intro hSw.x'.cells hSw.y'.cells)))); go_simp; try with_reducible rfl
    (try simp only [Act.put, List.setIfInBounds_toArray, List.set_cons_zero, List.set_cons_succ])
    refine wpAnyH_take (i := 15) (oi := { dst := some 39, op := Op.load 39 (Operand.tmp 5), type := 39, pos := "law.go:76", after := #[{ on := 8, ground := Ground.guard }], guard := some (8, true) }) (v := ?_) rfl (by kernel_rfl) (by kernel_rfl) (by kernel_rfl) (fun _ _ _ h => h) (Or.inl ⟨by rfl, ?_⟩) (by assumption) ?_
    rotate_left
    · intro w hSw; (try dsimp only at hSw); obtain ⟨⟨t0, t1, t2, t3⟩, ⟨u0, u1, u2, u3, u4, u5⟩, ⟨r0, r1, r2, r3, r4, r5⟩, ⟨q0, q1, q2, q3, q4, q5⟩, ⟨m0, m1, m2, m3, m4, m5⟩, ⟨k0, k1, k2, k3, k4, k5⟩⟩ := And.intro hSw.box.cells (And.intro hSw.b.cells (And.intro hSw.x.cells (And.intro hSw.y.cells (And.intro hSw.x'.cells hSw.y'.cells)))); go_simp; try with_reducible rfl
    (try simp only [Act.put, List.setIfInBounds_toArray, List.set_cons_zero, List.set_cons_succ])
    refine wpAnyH_ready (rs := [12]) (by kernel_rfl) (by simp) ?_
    refine AllReadyH.cons (o := { dst := some 36, op := Op.call { callee := Callee.value (Operand.func 21), args := #[Operand.tmp 33, Operand.tmp 34, Operand.tmp 35], argTypes := #[27, 3, 39] }, type := 30, pos := "law.go:76", after := #[{ on := 9, ground := Ground.data }, { on := 10, ground := Ground.data }, { on := 11, ground := Ground.data }, { on := 8, ground := Ground.chain }, { on := 8, ground := Ground.guard }], guard := some (8, true) }) rfl (fun K hK => ?_) AllReadyH.nil
    go_simp
    refine (P3.out _ B4.out).mono ?_
    rintro e w5 ⟨rfl, hb⟩
    have AI5 := Lib.hid (AI4.out.keep hb)
    have B5 := Lib.hid (B4.out.trans (hb.mono B4.out.size))
    clear hb
    refine hK.out _ _ ?_ (fun hHeld => ?_)
    · exact AI5.out
    clear hK K
    (try simp only [Act.put, List.setIfInBounds_toArray, List.set_cons_zero, List.set_cons_succ])
    refine wpAnyH_ready (rs := [16]) (by kernel_rfl) (by simp) ?_
    refine AllReadyH.cons (o := { dst := some 40, op := Op.call { callee := Callee.value (Operand.func 22), args := #[Operand.tmp 37, Operand.tmp 38, Operand.tmp 39], argTypes := #[27, 3, 39] }, type := 30, pos := "law.go:76", after := #[{ on := 13, ground := Ground.data }, { on := 14, ground := Ground.data }, { on := 15, ground := Ground.data }, { on := 12, ground := Ground.chain }, { on := 8, ground := Ground.guard }], guard := some (8, true) }) rfl (fun K hK => ?_) AllReadyH.nil
    go_simp
    refine (P4.out _ B5.out).mono ?_
    rintro e w6 ⟨rfl, hb⟩
    have AI6 := Lib.hid (AI5.out.keep hb)
    have B6 := Lib.hid (B5.out.trans (hb.mono B5.out.size))
    clear hb
    refine hK.out _ _ ?_ (fun hHeld => ?_)
    · exact AI6.out
    clear hK K
    (try simp only [Act.put, List.setIfInBounds_toArray, List.set_cons_zero, List.set_cons_succ])
    refine wpAnyH_take (i := 17) (oi := { dst := some 41, op := Op.binOp BinOp.eql 30 (Operand.tmp 36) (Operand.tmp 40) 30, type := 4, pos := "law.go:76", after := #[{ on := 12, ground := Ground.data }, { on := 16, ground := Ground.data }, { on := 8, ground := Ground.guard }], guard := some (8, true) }) (v := ?_) rfl (by kernel_rfl) (by kernel_rfl) (by kernel_rfl) (fun _ _ _ h => h) (Or.inl ⟨by rfl, ?_⟩) (by assumption) ?_
    rotate_left
    · intro w hSw; (try dsimp only at hSw); obtain ⟨⟨t0, t1, t2, t3⟩, ⟨u0, u1, u2, u3, u4, u5⟩, ⟨r0, r1, r2, r3, r4, r5⟩, ⟨q0, q1, q2, q3, q4, q5⟩, ⟨m0, m1, m2, m3, m4, m5⟩, ⟨k0, k1, k2, k3, k4, k5⟩⟩ := And.intro hSw.box.cells (And.intro hSw.b.cells (And.intro hSw.x.cells (And.intro hSw.y.cells (And.intro hSw.x'.cells hSw.y'.cells)))); go_simp; try with_reducible rfl
    (try simp only [Act.put, List.setIfInBounds_toArray, List.set_cons_zero, List.set_cons_succ])
    refine wpAnyH_take (i := 18) (oi := { dst := some 42, op := Op.pick (Operand.tmp 32) (Operand.tmp 41) (Operand.const (Value.bool false)), type := 4, pos := "law.go:76", after := #[{ on := 8, ground := Ground.data }, { on := 17, ground := Ground.data }], guard := none }) (v := ?_) rfl (by kernel_rfl) (by kernel_rfl) (by kernel_rfl) (fun _ _ _ h => h) (Or.inl ⟨by rfl, ?_⟩) (by assumption) ?_
    rotate_left
    · intro w hSw; (try dsimp only at hSw); obtain ⟨⟨t0, t1, t2, t3⟩, ⟨u0, u1, u2, u3, u4, u5⟩, ⟨r0, r1, r2, r3, r4, r5⟩, ⟨q0, q1, q2, q3, q4, q5⟩, ⟨m0, m1, m2, m3, m4, m5⟩, ⟨k0, k1, k2, k3, k4, k5⟩⟩ := And.intro hSw.box.cells (And.intro hSw.b.cells (And.intro hSw.x.cells (And.intro hSw.y.cells (And.intro hSw.x'.cells hSw.y'.cells)))); go_simp; try with_reducible rfl
    (try simp only [Act.put, List.setIfInBounds_toArray, List.set_cons_zero, List.set_cons_succ])
    refine wpAnyH_take (i := 19) (oi := { dst := some 43, op := Op.move (Operand.tmp 42), type := 4, pos := "law.go:76", after := #[{ on := 18, ground := Ground.data }, { on := 16, ground := Ground.chain }], guard := none }) (v := ?_) rfl (by kernel_rfl) (by kernel_rfl) (by kernel_rfl) (fun _ _ _ h => h) (Or.inl ⟨by rfl, ?_⟩) (by assumption) ?_
    rotate_left
    · intro w hSw; (try dsimp only at hSw); obtain ⟨⟨t0, t1, t2, t3⟩, ⟨u0, u1, u2, u3, u4, u5⟩, ⟨r0, r1, r2, r3, r4, r5⟩, ⟨q0, q1, q2, q3, q4, q5⟩, ⟨m0, m1, m2, m3, m4, m5⟩, ⟨k0, k1, k2, k3, k4, k5⟩⟩ := And.intro hSw.box.cells (And.intro hSw.b.cells (And.intro hSw.x.cells (And.intro hSw.y.cells (And.intro hSw.x'.cells hSw.y'.cells)))); go_simp; try with_reducible rfl
    (try simp only [Act.put, List.setIfInBounds_toArray, List.set_cons_zero, List.set_cons_succ])
    refine wpAnyH_ready (rs := [20]) (by kernel_rfl) (by simp) ?_
    refine AllReadyH.cons (o := { dst := some 44, op := Op.call { callee := Callee.value (Operand.func 11), args := #[], argTypes := #[] }, type := 4, pos := "law.go:76", after := #[{ on := 19, ground := Ground.chain }, { on := 19, ground := Ground.guard }], guard := some (19, true) }) rfl (fun K hK => ?_) AllReadyH.nil
    go_simp
    refine (AW.out _ B6.out).mono ?_
    rintro e w7 ⟨rfl, hb⟩
    have AI7 := Lib.hid (AI6.out.keep hb)
    have B7 := Lib.hid (B6.out.trans (hb.mono B6.out.size))
    clear hb
    refine hK.out _ _ ?_ (fun hHeld => ?_)
    · exact AI7.out
    clear hK K
    (try simp only [Act.put, List.setIfInBounds_toArray, List.set_cons_zero, List.set_cons_succ])
    refine wpAnyH_take (i := 21) (oi := { dst := some 45, op := Op.pick (Operand.tmp 43) (Operand.tmp 44) (Operand.const (Value.bool false)), type := 4, pos := "law.go:76", after := #[{ on := 19, ground := Ground.data }, { on := 20, ground := Ground.data }], guard := none }) (v := ?_) rfl (by kernel_rfl) (by kernel_rfl) (by kernel_rfl) (fun _ _ _ h => h) (Or.inl ⟨by rfl, ?_⟩) (by assumption) ?_
    rotate_left
    · intro w hSw; (try dsimp only at hSw); obtain ⟨⟨t0, t1, t2, t3⟩, ⟨u0, u1, u2, u3, u4, u5⟩, ⟨r0, r1, r2, r3, r4, r5⟩, ⟨q0, q1, q2, q3, q4, q5⟩, ⟨m0, m1, m2, m3, m4, m5⟩, ⟨k0, k1, k2, k3, k4, k5⟩⟩ := And.intro hSw.box.cells (And.intro hSw.b.cells (And.intro hSw.x.cells (And.intro hSw.y.cells (And.intro hSw.x'.cells hSw.y'.cells)))); go_simp; try with_reducible rfl
    (try simp only [Act.put, List.setIfInBounds_toArray, List.set_cons_zero, List.set_cons_succ])
    refine wpAnyH_take (i := 22) (oi := { dst := some 6, op := Op.assign (Operand.tmp 45), type := 4, pos := "law.go:76", after := #[{ on := 21, ground := Ground.data }, { on := 20, ground := Ground.chain }, { on := 0, ground := Ground.phase }, { on := 1, ground := Ground.phase }, { on := 2, ground := Ground.phase }, { on := 3, ground := Ground.phase }, { on := 4, ground := Ground.phase }, { on := 5, ground := Ground.phase }, { on := 6, ground := Ground.phase }, { on := 7, ground := Ground.phase }, { on := 8, ground := Ground.phase }, { on := 9, ground := Ground.phase }, { on := 10, ground := Ground.phase }, { on := 11, ground := Ground.phase }, { on := 12, ground := Ground.phase }, { on := 13, ground := Ground.phase }, { on := 14, ground := Ground.phase }, { on := 15, ground := Ground.phase }, { on := 16, ground := Ground.phase }, { on := 17, ground := Ground.phase }, { on := 18, ground := Ground.phase }, { on := 19, ground := Ground.phase }, { on := 20, ground := Ground.phase }, { on := 21, ground := Ground.phase }], guard := none }) (v := ?_) rfl (by kernel_rfl) (by kernel_rfl) (by kernel_rfl) (fun _ _ _ h => h) (Or.inl ⟨by rfl, ?_⟩) (by assumption) ?_
    rotate_left
    · intro w hSw; (try dsimp only at hSw); obtain ⟨⟨t0, t1, t2, t3⟩, ⟨u0, u1, u2, u3, u4, u5⟩, ⟨r0, r1, r2, r3, r4, r5⟩, ⟨q0, q1, q2, q3, q4, q5⟩, ⟨m0, m1, m2, m3, m4, m5⟩, ⟨k0, k1, k2, k3, k4, k5⟩⟩ := And.intro hSw.box.cells (And.intro hSw.b.cells (And.intro hSw.x.cells (And.intro hSw.y.cells (And.intro hSw.x'.cells hSw.y'.cells)))); go_simp; try with_reducible rfl
    (try simp only [Act.put, List.setIfInBounds_toArray, List.set_cons_zero, List.set_cons_succ])
    refine wpAnyH_done (by kernel_rfl) ?_ _
    go_wp2
    go_ret
    exact ⟨rfl, by first | exact B7.out | exact B7.out.drew⟩
end Go.Proofs.YtnpkjobbolijbaaGreatDoor
