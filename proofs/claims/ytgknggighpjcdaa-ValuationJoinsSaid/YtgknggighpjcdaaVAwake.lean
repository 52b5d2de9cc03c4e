/- awake. No claim of its own. -/
import Derived.Test.YtgknggighpjcdaaVAwk0
import Derived.Deep.DeepCutAuto
namespace Go.Proofs.Ytgknggighpjcdaa
open Go.RowKit
attribute [local go_sem] Oper.semAt_some
/-- The variables of the examples, as far as they are made. -/
structure S4 (w : World) (g gb gl gO : Nat) (X : World) : Prop where
  below : Below w.heap.size w X
  a : X.heap[g]? = some (.cells #[.int .i64 1, .int .i64 1, .int .i64 0, .int .i64 0, .int .i64 0, .int .i64 0, .int .i64 0, .int .i64 5, .slice none 0 0] 26 (0, 0))
  b : X.heap[g + 1]? = some (.cells #[.int .i64 1, .int .i64 0, .int .i64 1, .int .i64 0, .int .i64 0, .int .i64 0, .int .i64 0, .int .i64 7, .slice none 0 0] 26 (0, 0))
  both : BB X gb 23 [1, 1, 0, 0, 0, 0]
  l : X.heap[gl]? = some (.cells #[.int .i64 1, .int .i64 1, .int .i64 0, .int .i64 0, .int .i64 0, .int .i64 0, .int .i64 0, .int .i64 5, .slice none 0 0, .int .i64 1, .int .i64 0, .int .i64 1, .int .i64 0, .int .i64 0, .int .i64 0, .int .i64 0, .int .i64 7, .slice none 0 0] 26 (0, 0))
  o : X.heap[gO]? = some (.cells #[.int .i64 3, .int .i64 0, .int .i64 0, .int .i64 0, .int .i64 0, .int .i64 0, .int .i64 0, .int .i64 0, .slice (some ⟨gl, 0, none⟩) 2 2] 26 (0, 0))
structure S5 (w : World) (g gb gl gO gk gT : Nat) (X : World) : Prop where
  s : S4 w g gb gl gO X
  k : X.heap[gk]? = some (.cells #[.int .i64 1, .int .i64 1, .int .i64 0, .int .i64 0, .int .i64 0, .int .i64 0, .int .i64 0, .int .i64 5, .slice none 0 0, .int .i64 1, .int .i64 1, .int .i64 0, .int .i64 0, .int .i64 0, .int .i64 0, .int .i64 0, .int .i64 7, .slice none 0 0] 26 (0, 0))
  t : X.heap[gT]? = some (.cells #[.int .i64 3, .int .i64 0, .int .i64 0, .int .i64 0, .int .i64 0, .int .i64 0, .int .i64 0, .int .i64 0, .slice (some ⟨gk, 0, none⟩) 2 2] 26 (0, 0))
structure S6 (w : World) (g gb gl gO gk gT gm gM : Nat) (X : World) : Prop where
  s : S5 w g gb gl gO gk gT X
  m : X.heap[gm]? = some (.cells #[.int .i64 3, .int .i64 0, .int .i64 0, .int .i64 0, .int .i64 0, .int .i64 0, .int .i64 0, .int .i64 0, .slice (some ⟨gl, 0, none⟩) 2 2] 26 (0, 0))
  v : X.heap[gM]? = some (.cells #[.int .i64 4, .int .i64 1, .int .i64 1, .int .i64 0, .int .i64 0, .int .i64 0, .int .i64 0, .int .i64 3, .slice (some ⟨gm, 0, none⟩) 1 1] 26 (0, 0))
section
variable {w X Y : World} {g gb gl gO gk gT gm gM : Nat}
theorem at_lt {X : World} {k : Nat} {o : Obj} (h : X.heap[k]? = some o) : k < X.heap.size := (Array.getElem?_eq_some_iff.1 h).1
theorem S4.keep (h : S4 w g gb gl gO X) (hb : Below X.heap.size X Y) : S4 w g gb gl gO Y :=
  ⟨h.below.trans (hb.mono h.below.size), (hb.block _ (at_lt h.a)).trans h.a, (hb.block _ (at_lt h.b)).trans h.b, h.both.keep hb h.both.lt, (hb.block _ (at_lt h.l)).trans h.l, (hb.block _ (at_lt h.o)).trans h.o⟩
theorem S5.keep (h : S5 w g gb gl gO gk gT X) (hb : Below X.heap.size X Y) : S5 w g gb gl gO gk gT Y :=
  ⟨h.s.keep hb, (hb.block _ (at_lt h.k)).trans h.k, (hb.block _ (at_lt h.t)).trans h.t⟩
theorem S6.keep (h : S6 w g gb gl gO gk gT gm gM X) (hb : Below X.heap.size X Y) : S6 w g gb gl gO gk gT gm gM Y :=
  ⟨h.s.keep hb, (hb.block _ (at_lt h.m)).trans h.m, (hb.block _ (at_lt h.v)).trans h.v⟩
theorem row9 {X : World} {g : Nat} {T : TypeId} {v0 v1 v2 v3 v4 v5 v6 v7 v8 : Value} (h : X.heap[g]? = some (.cells #[v0, v1, v2, v3, v4, v5, v6, v7, v8] T (0, 0))) : X.cell? ⟨g, 0, none⟩ = some v0 ∧ X.cell? ⟨g, 1, none⟩ = some v1 ∧ X.cell? ⟨g, 2, none⟩ = some v2 ∧ X.cell? ⟨g, 3, none⟩ = some v3 ∧ X.cell? ⟨g, 4, none⟩ = some v4 ∧ X.cell? ⟨g, 5, none⟩ = some v5 ∧ X.cell? ⟨g, 6, none⟩ = some v6 ∧ X.cell? ⟨g, 7, none⟩ = some v7 ∧ X.cell? ⟨g, 8, none⟩ = some v8 :=
  ⟨(cell_of_row _ _ _ _ _ _ h).trans rfl, (cell_of_row _ _ _ _ _ _ h).trans rfl, (cell_of_row _ _ _ _ _ _ h).trans rfl, (cell_of_row _ _ _ _ _ _ h).trans rfl, (cell_of_row _ _ _ _ _ _ h).trans rfl, (cell_of_row _ _ _ _ _ _ h).trans rfl, (cell_of_row _ _ _ _ _ _ h).trans rfl, (cell_of_row _ _ _ _ _ _ h).trans rfl, (cell_of_row _ _ _ _ _ _ h).trans rfl⟩
theorem two_new (w : World) (o0 o1 : Obj) : ((w.alloc o0).alloc o1).heap[w.heap.size]? = some o0 ∧ ((w.alloc o0).alloc o1).heap[w.heap.size + 1]? = some o1 := by
  refine ⟨((below_new (w.alloc o0) o1).block w.heap.size (by simp)).trans (heap_new w o0), ?_⟩
  have := heap_new (w.alloc o0) o1
  rwa [World.size_alloc] at this
theorem S4.far (h : S4 w g gb gl gO X) {al : Nat} (hg : X.grownBy Y (some al)) (hn : g < al ∧ g + 1 < al ∧ gb < al ∧ gl < al ∧ gO < al ∧ w.heap.size ≤ al) : S4 w g gb gl gO Y := by
  obtain ⟨n1, n2, n3, n4, n5, n6⟩ := hn
  have far : ∀ k, k < X.heap.size → k < al → Y.heap[k]? = X.heap[k]? := fun k h1 h2 => hg.block k h1 (by simp; omega)
  exact ⟨h.below.grown hg h.below.size (fun k e => by injection e with e; omega), (far _ (at_lt h.a) n1).trans h.a, (far _ (at_lt h.b) n2).trans h.b, ⟨(far _ h.both.lt n3).trans h.both.1, h.both.2⟩, (far _ (at_lt h.l) n4).trans h.l, (far _ (at_lt h.o) n5).trans h.o⟩
theorem S4.lts (h : S4 w g gb gl gO X) : g < X.heap.size ∧ g + 1 < X.heap.size ∧ gb < X.heap.size ∧ gl < X.heap.size ∧ gO < X.heap.size ∧ w.heap.size ≤ X.heap.size := ⟨at_lt h.a, at_lt h.b, h.both.lt, at_lt h.l, at_lt h.o, h.below.size⟩
theorem callV (X : World) (t : NT) (ht : t.Ok X (fun _ => True)) (hs : t.size ≤ 2000000) (a b c d e f z : Int) (hz : VV.value t.n [a, b, c, d, e, f] = z) : Calls Try.prog 18 #[t.val, .agg #[.int .i64 a, .int .i64 b, .int .i64 c, .int .i64 d, .int .i64 e, .int .i64 f]] X (Gives (.int .i64 z) X) := by
  rw [← hz]; exact value_any t hs a b c d e f X _ ht
end
set_option maxRecDepth 100000 in
set_option maxHeartbeats 16000000 in
theorem awake13_any (w : World) : Calls Try.prog 17 #[] w (Gives (.bool true) w) := by
  have A5 := Lib.hid (fun w' => atom_any 5 (some ⟨w'.heap.size, 0, none⟩) 1 1 [1] (by decide) (w'.alloc (.cells #[.int .i64 1] 3)) (lit_int [1] 1 (heap_new w' _) rfl rfl (by decide) (by decide)))
  have A7 := Lib.hid (fun w' => atom_any 7 (some ⟨w'.heap.size, 0, none⟩) 2 2 [0, 1] (by decide) (w'.alloc (.cells #[.int .i64 0, .int .i64 1] 3)) (lit_int [0, 1] 2 (heap_new w' _) rfl rfl (by decide) (by decide)))
  have A7a := Lib.hid (fun w' g (h : w'.heap[g]? = some (.cells #[.int .i64 1] 3 (0, 0))) => atom_any 7 (some ⟨g, 0, none⟩) 1 1 [1] (by decide) w' (lit_int [1] 1 h rfl rfl (by decide) (by decide)))
  simp only [List.getD_cons_zero, List.getD_cons_succ, List.getD_nil] at A5 A7 A7a
  go_enter Try.func17, Try.ntmps17
  go_wp2_with fail
  refine (A5.out _).mono ?_
  rintro ev w1 ⟨rfl, hb1⟩
  have B1 := Lib.hid ((below_new w (.cells #[.int .i64 1] 3)).trans (hb1.mono (by simp)))
  clear hb1
  go_wp2_with fail
  refine (A7.out _).mono ?_
  rintro ev w2 ⟨rfl, hb2⟩
  have B2 := Lib.hid (B1.out.trans (((below_new w1 (.cells #[.int .i64 0, .int .i64 1] 3)).trans (hb2.mono (by simp))).mono B1.out.size))
  clear hb2 B1
  go_upto_region 2 with (fail)
  have N3 := Lib.hid (two_new w2 (.cells #[.int .i64 1, .int .i64 1, .int .i64 0, .int .i64 0, .int .i64 0, .int .i64 0, .int .i64 0, .int .i64 5, .slice none 0 0] 26) (.cells #[.int .i64 1, .int .i64 0, .int .i64 1, .int .i64 0, .int .i64 0, .int .i64 0, .int .i64 0, .int .i64 7, .slice none 0 0] 26))
  have B3 := Lib.hid (B2.out.trans ((below_two w2 (.cells #[.int .i64 1, .int .i64 1, .int .i64 0, .int .i64 0, .int .i64 0, .int .i64 0, .int .i64 0, .int .i64 5, .slice none 0 0] 26) (.cells #[.int .i64 1, .int .i64 0, .int .i64 1, .int .i64 0, .int .i64 0, .int .i64 0, .int .i64 0, .int .i64 7, .slice none 0 0] 26)).mono B2.out.size))
  clear B2
  generalize (w2.alloc (.cells #[.int .i64 1, .int .i64 1, .int .i64 0, .int .i64 0, .int .i64 0, .int .i64 0, .int .i64 0, .int .i64 5, .slice none 0 0] 26)).alloc (.cells #[.int .i64 1, .int .i64 0, .int .i64 1, .int .i64 0, .int .i64 0, .int .i64 0, .int .i64 0, .int .i64 7, .slice none 0 0] 26) = w3 at *
  generalize w2.heap.size = g at *
  go_upto_region 3 with (fail)
  have nb := below_new w3 (.cells #[.int .i64 1, .int .i64 1, .int .i64 0, .int .i64 0, .int .i64 0, .int .i64 0] 23)
  have M4 := Lib.hid (BB.new w3 23 1 1 0 0 0 0)
  have N4 := Lib.hid (And.intro ((nb.block _ (at_lt N3.out.1)).trans N3.out.1) ((nb.block _ (at_lt N3.out.2)).trans N3.out.2))
  have B4 := Lib.hid (B3.out.trans (nb.mono B3.out.size))
  clear nb N3 B3
  generalize w3.alloc (.cells #[.int .i64 1, .int .i64 1, .int .i64 0, .int .i64 0, .int .i64 0, .int .i64 0] 23) = w4 at *
  generalize w3.heap.size = gb at *
  obtain ⟨a0, a1, a2, a3, a4, a5, a6, a7, a8⟩ := row9 N4.out.1
  obtain ⟨b0, b1, b2, b3, b4, b5, b6, b7, b8⟩ := row9 N4.out.2
  go_upto_region 4 with (fail)
  have nb := below_two w4 (.cells #[.int .i64 1, .int .i64 1, .int .i64 0, .int .i64 0, .int .i64 0, .int .i64 0, .int .i64 0, .int .i64 5, .slice none 0 0, .int .i64 1, .int .i64 0, .int .i64 1, .int .i64 0, .int .i64 0, .int .i64 0, .int .i64 0, .int .i64 7, .slice none 0 0] 26) (.cells #[.int .i64 3, .int .i64 0, .int .i64 0, .int .i64 0, .int .i64 0, .int .i64 0, .int .i64 0, .int .i64 0, .slice (some ⟨w4.heap.size, 0, none⟩) 2 2] 26)
  have N5 := Lib.hid (two_new w4 (.cells #[.int .i64 1, .int .i64 1, .int .i64 0, .int .i64 0, .int .i64 0, .int .i64 0, .int .i64 0, .int .i64 5, .slice none 0 0, .int .i64 1, .int .i64 0, .int .i64 1, .int .i64 0, .int .i64 0, .int .i64 0, .int .i64 0, .int .i64 7, .slice none 0 0] 26) (.cells #[.int .i64 3, .int .i64 0, .int .i64 0, .int .i64 0, .int .i64 0, .int .i64 0, .int .i64 0, .int .i64 0, .slice (some ⟨w4.heap.size, 0, none⟩) 2 2] 26))
  have Q5 := Lib.hid (show S4 w g gb w4.heap.size (w4.heap.size + 1) ((w4.alloc (.cells #[.int .i64 1, .int .i64 1, .int .i64 0, .int .i64 0, .int .i64 0, .int .i64 0, .int .i64 0, .int .i64 5, .slice none 0 0, .int .i64 1, .int .i64 0, .int .i64 1, .int .i64 0, .int .i64 0, .int .i64 0, .int .i64 0, .int .i64 7, .slice none 0 0] 26)).alloc (.cells #[.int .i64 3, .int .i64 0, .int .i64 0, .int .i64 0, .int .i64 0, .int .i64 0, .int .i64 0, .int .i64 0, .slice (some ⟨w4.heap.size, 0, none⟩) 2 2] 26)) from
    ⟨B4.out.trans (nb.mono B4.out.size), (nb.block _ (at_lt N4.out.1)).trans N4.out.1, (nb.block _ (at_lt N4.out.2)).trans N4.out.2, M4.out.keep nb M4.out.lt, N5.out.1, N5.out.2⟩)
  clear nb N5 B4 N4 M4 a0 a1 a2 a3 a4 a5 a6 a7 a8 b0 b1 b2 b3 b4 b5 b6 b7 b8
  generalize (w4.alloc (.cells #[.int .i64 1, .int .i64 1, .int .i64 0, .int .i64 0, .int .i64 0, .int .i64 0, .int .i64 0, .int .i64 5, .slice none 0 0, .int .i64 1, .int .i64 0, .int .i64 1, .int .i64 0, .int .i64 0, .int .i64 0, .int .i64 0, .int .i64 7, .slice none 0 0] 26)).alloc (.cells #[.int .i64 3, .int .i64 0, .int .i64 0, .int .i64 0, .int .i64 0, .int .i64 0, .int .i64 0, .int .i64 0, .slice (some ⟨w4.heap.size, 0, none⟩) 2 2] 26) = w5 at *
  generalize w4.heap.size = gl at *
  go_cut [5] (fun s5 wx => ∃ gk gT : Nat, s5 = .pointer (some ⟨gT, 0, none⟩) ∧ Hid (S5 w g gb gl (gl + 1) gk gT wx))
  case first =>
    have Q6 := Lib.hid (Q5.out.keep (below_drawn w5))
    clear Q5
    refine wp_region_held_drew (S := fun w' => S4 w g gb gl (gl + 1) w') (by kernel_rfl) Q6.out (fun hHeld => ?_)
    generalize w5.drew = Y at *
    refine wpAnyH_take (i := 0) (oi := { dst := some 20, op := Op.load 26 (Operand.tmp 1), type := 26, pos := "law.go:24", after := #[], guard := none }) (v := ?_) rfl (by kernel_rfl) (by kernel_rfl) (by kernel_rfl) (fun _ _ _ h => h) (Or.inl ⟨by rfl, ?_⟩) (by assumption) ?_
    rotate_left
    · intro w hSw; (try dsimp only at hSw); obtain ⟨e0, e1, e2, e3, e4, e5, e6, e7, e8⟩ := row9 hSw.a; go_simp; try with_reducible rfl
    (try simp only [Act.put, List.setIfInBounds_toArray, List.set_cons_zero, List.set_cons_succ])
    refine wpAnyH_ready (rs := [1, 5]) (by kernel_rfl) (by simp) ?_
    refine AllReadyH.cons (o := { dst := some 21, op := Op.buildSlice 86 1 #[(0, Operand.const (Value.int IntKind.i64 1))], type := 86, pos := "law.go:24", after := #[], guard := none }) rfl (fun K hK => ?_) (AllReadyH.cons (o := { dst := some 5, op := Op.alloc 26, type := 0, pos := "law.go:24", after := #[], guard := none }) rfl (fun K hK => ?_) AllReadyH.nil)
    {
 go_simp
 have nb := below_new Y (.cells #[.int .i64 1] 3)
 have K0 := Lib.hid (heap_new Y (.cells #[.int .i64 1] 3))
 have Q0 := Lib.hid (Lib.hid hHeld |>.out.keep nb)
 clear nb hHeld
 obtain ⟨v0, hv0⟩ : ∃ z, z = Y.alloc (.cells #[.int .i64 1] 3) := ⟨_, rfl⟩
 rw [← hv0]
 rw [← hv0] at K0 Q0
 clear hv0
 refine hK.out _ _ ?_ (fun hHeld => ?_)
 · exact Q0.out
 clear hK K
 (try simp only [Act.put, List.setIfInBounds_toArray, List.set_cons_zero, List.set_cons_succ])
 refine wpAnyH_ready (rs := [2, 5]) (by kernel_rfl) (by simp) ?_
 refine AllReadyH.cons (o := { dst := some 22, op := Op.call { callee := Callee.value (Operand.func 47), args := #[Operand.const (Value.int IntKind.i64 7), Operand.tmp 21], argTypes := #[2, 86] }, type := 26, pos := "law.go:24", after := #[{ on := 1, ground := Ground.data }], guard := none }) rfl (fun K hK => ?_) (AllReadyH.cons (o := { dst := some 5, op := Op.alloc 26, type := 0, pos := "law.go:24", after := #[], guard := none }) rfl (fun K hK => ?_) AllReadyH.nil)
 {
 go_simp
 refine (A7a.out v0 _ K0.out).mono ?_
 rintro ev v1 ⟨rfl, nb⟩
 have Q1 := Lib.hid (Lib.hid hHeld |>.out.keep nb)
 clear nb hHeld
 refine hK.out _ _ ?_ (fun hHeld => ?_)
 · exact Q1.out
 clear hK K
 (try simp only [Act.put, List.setIfInBounds_toArray, List.set_cons_zero, List.set_cons_succ])
 refine wpAnyH_ready (rs := [3, 5]) (by kernel_rfl) (by simp) ?_
 refine AllReadyH.cons (o := { dst := some 23, op := Op.buildSlice 24 2 #[(0, Operand.tmp 20), (1, Operand.tmp 22)], type := 24, pos := "law.go:24", after := #[{ on := 0, ground := Ground.data }, { on := 2, ground := Ground.data }], guard := none }) rfl (fun K hK => ?_) (AllReadyH.cons (o := { dst := some 5, op := Op.alloc 26, type := 0, pos := "law.go:24", after := #[], guard := none }) rfl (fun K hK => ?_) AllReadyH.nil)
 {
 go_simp
 have nb := below_new v1 (.cells #[.int .i64 1, .int .i64 1, .int .i64 0, .int .i64 0, .int .i64 0, .int .i64 0, .int .i64 0, .int .i64 5, .slice none 0 0, .int .i64 1, .int .i64 1, .int .i64 0, .int .i64 0, .int .i64 0, .int .i64 0, .int .i64 0, .int .i64 7, .slice none 0 0] 26)
 have K2 := Lib.hid (heap_new v1 (.cells #[.int .i64 1, .int .i64 1, .int .i64 0, .int .i64 0, .int .i64 0, .int .i64 0, .int .i64 0, .int .i64 5, .slice none 0 0, .int .i64 1, .int .i64 1, .int .i64 0, .int .i64 0, .int .i64 0, .int .i64 0, .int .i64 0, .int .i64 7, .slice none 0 0] 26))
 have Q2 := Lib.hid (Lib.hid hHeld |>.out.keep nb)
 clear nb hHeld
 obtain ⟨v2, hv2⟩ : ∃ z, z = v1.alloc (.cells #[.int .i64 1, .int .i64 1, .int .i64 0, .int .i64 0, .int .i64 0, .int .i64 0, .int .i64 0, .int .i64 5, .slice none 0 0, .int .i64 1, .int .i64 1, .int .i64 0, .int .i64 0, .int .i64 0, .int .i64 0, .int .i64 0, .int .i64 7, .slice none 0 0] 26) := ⟨_, rfl⟩
 rw [← hv2]
 rw [← hv2] at K2 Q2
 clear hv2
 refine hK.out _ _ ?_ (fun hHeld => ?_)
 · exact Q2.out
 clear hK K
 (try simp only [Act.put, List.setIfInBounds_toArray, List.set_cons_zero, List.set_cons_succ])
 refine wpAnyH_take (i := 4) (oi := { dst := some 24, op := Op.build 26 #[(0, Operand.const (Value.int IntKind.i64 3)), (3, Operand.tmp 23)], type := 26, pos := "law.go:24", after := #[{ on := 3, ground := Ground.data }], guard := none }) (v := ?_) rfl (by kernel_rfl) (by kernel_rfl) (by kernel_rfl) (fun _ _ _ h => h) (Or.inl ⟨by rfl, ?_⟩) (by assumption) ?_
 rotate_left
 · intro w hSw; (try dsimp only at hSw); obtain ⟨e0, e1, e2, e3, e4, e5, e6, e7, e8⟩ := row9 hSw.a; go_simp; try with_reducible rfl
 (try simp only [Act.put, List.setIfInBounds_toArray, List.set_cons_zero, List.set_cons_succ])
 refine wpAnyH_ready (rs := [5]) (by kernel_rfl) (by simp) ?_
 refine AllReadyH.cons (o := { dst := some 5, op := Op.alloc 26, type := 0, pos := "law.go:24", after := #[], guard := none }) rfl (fun K hK => ?_) AllReadyH.nil
 go_simp
 have nb := below_new v2 (.cells #[.int .i64 0, .int .i64 0, .int .i64 0, .int .i64 0, .int .i64 0, .int .i64 0, .int .i64 0, .int .i64 0, .slice none 0 0] 26)
 have AL3 := Lib.hid (heap_new v2 (.cells #[.int .i64 0, .int .i64 0, .int .i64 0, .int .i64 0, .int .i64 0, .int .i64 0, .int .i64 0, .int .i64 0, .slice none 0 0] 26))
 have Q3 := Lib.hid (Lib.hid hHeld |>.out.keep nb)
 have LTS := Lib.hid (S4.lts hHeld)
 have NE := Lib.hid (show v1.heap.size ≠ v2.heap.size from by have := at_lt K2.out; omega)
 have Wtw3 := Lib.hid ((nb.block _ (at_lt K2.out)).trans K2.out)
 clear nb hHeld
 obtain ⟨v3, hv3⟩ : ∃ z, z = v2.alloc (.cells #[.int .i64 0, .int .i64 0, .int .i64 0, .int .i64 0, .int .i64 0, .int .i64 0, .int .i64 0, .int .i64 0, .slice none 0 0] 26) := ⟨_, rfl⟩
 rw [← hv3]
 rw [← hv3] at AL3 Q3 Wtw3
 clear hv3
 refine hK.out _ _ ?_ (fun hHeld => ?_)
 · exact Q3.out
 clear hK K
 (try simp only [Act.put, List.setIfInBounds_toArray, List.set_cons_zero, List.set_cons_succ])
 refine wpAnyH_ready (rs := [6]) (by kernel_rfl) (by simp) ?_
 refine AllReadyH.cons (o := { dst := none, op := Op.store 26 (Operand.tmp 5) (Operand.tmp 24), type := 0, pos := "law.go:24", after := #[{ on := 5, ground := Ground.data }, { on := 4, ground := Ground.data }, { on := 2, ground := Ground.chain }, { on := 0, ground := Ground.phase }, { on := 1, ground := Ground.phase }, { on := 2, ground := Ground.phase }, { on := 3, ground := Ground.phase }, { on := 4, ground := Ground.phase }, { on := 5, ground := Ground.phase }], guard := none }) rfl (fun K hK => ?_) AllReadyH.nil
 obtain ⟨z0, z1, z2, z3, z4, z5, z6, z7, z8⟩ := row9 AL3.out
 have AL9 := Lib.hid (show B9 v3 v2.heap.size (.int .i64 0) (.int .i64 0) (.int .i64 0) (.int .i64 0) (.int .i64 0) (.int .i64 0) (.int .i64 0) (.int .i64 0) (.slice none 0 0) from AL3.out)
 obtain ⟨y0, y1, y2, y3, y4, y5, y6, y7, y8⟩ := B9.free AL9.out
 have Q9 := Lib.hid hHeld
 clear hHeld
 go_simp
 rw [nest_0]
 have gs := grown_setsV (w := v3) (g := v2.heap.size) [.int .i64 3, .int .i64 0, .int .i64 0, .int .i64 0, .int .i64 0, .int .i64 0, .int .i64 0, .int .i64 0, .slice (some ⟨v1.heap.size, 0, none⟩) 2 2] 0
 have T9 := Lib.hid (B9.put AL9.out (.int .i64 3) (.int .i64 0) (.int .i64 0) (.int .i64 0) (.int .i64 0) (.int .i64 0) (.int .i64 0) (.int .i64 0) (.slice (some ⟨v1.heap.size, 0, none⟩) 2 2))
 obtain ⟨wz, hwz⟩ : ∃ wz, wz = sets v3 v2.heap.size 0 [.int .i64 3, .int .i64 0, .int .i64 0, .int .i64 0, .int .i64 0, .int .i64 0, .int .i64 0, .int .i64 0, .slice (some ⟨v1.heap.size, 0, none⟩) 2 2] := ⟨_, rfl⟩
 rw [← hwz] at gs T9 ⊢
 clear hwz z0 z1 z2 z3 z4 z5 z6 z7 z8 y0 y1 y2 y3 y4 y5 y6 y7 y8
 have R9 := Lib.hid (show S5 w g gb gl (gl + 1) v1.heap.size v2.heap.size wz from ⟨Q9.out.far gs LTS.out, (gs.block v1.heap.size (at_lt Wtw3.out) (by have := NE.out; simp; omega)).trans Wtw3.out, T9.out⟩)
 clear gs T9 Q9
 refine hK.out _ _ ?_ (fun hHeld => ?_)
 · exact R9.out.s
 clear hK K
 (try simp only [Act.put, List.setIfInBounds_toArray, List.set_cons_zero, List.set_cons_succ])
 refine wpAnyH_done (by kernel_rfl) ?_ _
 go_wp2_with fail
 go_meet
 exact ⟨_, _, rfl, R9⟩
 }
 {
 go_simp
 have nb := below_new v1 (.cells #[.int .i64 0, .int .i64 0, .int .i64 0, .int .i64 0, .int .i64 0, .int .i64 0, .int .i64 0, .int .i64 0, .slice none 0 0] 26)
 have AL2 := Lib.hid (heap_new v1 (.cells #[.int .i64 0, .int .i64 0, .int .i64 0, .int .i64 0, .int .i64 0, .int .i64 0, .int .i64 0, .int .i64 0, .slice none 0 0] 26))
 have Q2 := Lib.hid (Lib.hid hHeld |>.out.keep nb)
 have LTS := Lib.hid (S4.lts hHeld)
 clear nb hHeld
 obtain ⟨v2, hv2⟩ : ∃ z, z = v1.alloc (.cells #[.int .i64 0, .int .i64 0, .int .i64 0, .int .i64 0, .int .i64 0, .int .i64 0, .int .i64 0, .int .i64 0, .slice none 0 0] 26) := ⟨_, rfl⟩
 rw [← hv2]
 rw [← hv2] at AL2 Q2
 clear hv2
 refine hK.out _ _ ?_ (fun hHeld => ?_)
 · exact Q2.out
 clear hK K
 (try simp only [Act.put, List.setIfInBounds_toArray, List.set_cons_zero, List.set_cons_succ])
 refine wpAnyH_ready (rs := [3]) (by kernel_rfl) (by simp) ?_
 refine AllReadyH.cons (o := { dst := some 23, op := Op.buildSlice 24 2 #[(0, Operand.tmp 20), (1, Operand.tmp 22)], type := 24, pos := "law.go:24", after := #[{ on := 0, ground := Ground.data }, { on := 2, ground := Ground.data }], guard := none }) rfl (fun K hK => ?_) AllReadyH.nil
 go_simp
 have NE := Lib.hid (show v2.heap.size ≠ v1.heap.size from by have := at_lt AL2.out; omega)
 have nb := below_new v2 (.cells #[.int .i64 1, .int .i64 1, .int .i64 0, .int .i64 0, .int .i64 0, .int .i64 0, .int .i64 0, .int .i64 5, .slice none 0 0, .int .i64 1, .int .i64 1, .int .i64 0, .int .i64 0, .int .i64 0, .int .i64 0, .int .i64 0, .int .i64 7, .slice none 0 0] 26)
 have K3 := Lib.hid (heap_new v2 (.cells #[.int .i64 1, .int .i64 1, .int .i64 0, .int .i64 0, .int .i64 0, .int .i64 0, .int .i64 0, .int .i64 5, .slice none 0 0, .int .i64 1, .int .i64 1, .int .i64 0, .int .i64 0, .int .i64 0, .int .i64 0, .int .i64 0, .int .i64 7, .slice none 0 0] 26))
 have Q3 := Lib.hid (Lib.hid hHeld |>.out.keep nb)
 have AL3 := Lib.hid ((nb.block _ (at_lt AL2.out)).trans AL2.out)
 clear nb hHeld
 obtain ⟨v3, hv3⟩ : ∃ z, z = v2.alloc (.cells #[.int .i64 1, .int .i64 1, .int .i64 0, .int .i64 0, .int .i64 0, .int .i64 0, .int .i64 0, .int .i64 5, .slice none 0 0, .int .i64 1, .int .i64 1, .int .i64 0, .int .i64 0, .int .i64 0, .int .i64 0, .int .i64 0, .int .i64 7, .slice none 0 0] 26) := ⟨_, rfl⟩
 rw [← hv3]
 rw [← hv3] at K3 Q3 AL3
 clear hv3
 refine hK.out _ _ ?_ (fun hHeld => ?_)
 · exact Q3.out
 clear hK K
 (try simp only [Act.put, List.setIfInBounds_toArray, List.set_cons_zero, List.set_cons_succ])
 refine wpAnyH_take (i := 4) (oi := { dst := some 24, op := Op.build 26 #[(0, Operand.const (Value.int IntKind.i64 3)), (3, Operand.tmp 23)], type := 26, pos := "law.go:24", after := #[{ on := 3, ground := Ground.data }], guard := none }) (v := ?_) rfl (by kernel_rfl) (by kernel_rfl) (by kernel_rfl) (fun _ _ _ h => h) (Or.inl ⟨by rfl, ?_⟩) (by assumption) ?_
 rotate_left
 · intro w hSw; (try dsimp only at hSw); obtain ⟨e0, e1, e2, e3, e4, e5, e6, e7, e8⟩ := row9 hSw.a; go_simp; try with_reducible rfl
 (try simp only [Act.put, List.setIfInBounds_toArray, List.set_cons_zero, List.set_cons_succ])
 refine wpAnyH_ready (rs := [6]) (by kernel_rfl) (by simp) ?_
 refine AllReadyH.cons (o := { dst := none, op := Op.store 26 (Operand.tmp 5) (Operand.tmp 24), type := 0, pos := "law.go:24", after := #[{ on := 5, ground := Ground.data }, { on := 4, ground := Ground.data }, { on := 2, ground := Ground.chain }, { on := 0, ground := Ground.phase }, { on := 1, ground := Ground.phase }, { on := 2, ground := Ground.phase }, { on := 3, ground := Ground.phase }, { on := 4, ground := Ground.phase }, { on := 5, ground := Ground.phase }], guard := none }) rfl (fun K hK => ?_) AllReadyH.nil
 obtain ⟨z0, z1, z2, z3, z4, z5, z6, z7, z8⟩ := row9 AL3.out
 have AL9 := Lib.hid (show B9 v3 v1.heap.size (.int .i64 0) (.int .i64 0) (.int .i64 0) (.int .i64 0) (.int .i64 0) (.int .i64 0) (.int .i64 0) (.int .i64 0) (.slice none 0 0) from AL3.out)
 obtain ⟨y0, y1, y2, y3, y4, y5, y6, y7, y8⟩ := B9.free AL9.out
 have Q9 := Lib.hid hHeld
 clear hHeld
 go_simp
 rw [nest_0]
 have gs := grown_setsV (w := v3) (g := v1.heap.size) [.int .i64 3, .int .i64 0, .int .i64 0, .int .i64 0, .int .i64 0, .int .i64 0, .int .i64 0, .int .i64 0, .slice (some ⟨v2.heap.size, 0, none⟩) 2 2] 0
 have T9 := Lib.hid (B9.put AL9.out (.int .i64 3) (.int .i64 0) (.int .i64 0) (.int .i64 0) (.int .i64 0) (.int .i64 0) (.int .i64 0) (.int .i64 0) (.slice (some ⟨v2.heap.size, 0, none⟩) 2 2))
 obtain ⟨wz, hwz⟩ : ∃ wz, wz = sets v3 v1.heap.size 0 [.int .i64 3, .int .i64 0, .int .i64 0, .int .i64 0, .int .i64 0, .int .i64 0, .int .i64 0, .int .i64 0, .slice (some ⟨v2.heap.size, 0, none⟩) 2 2] := ⟨_, rfl⟩
 rw [← hwz] at gs T9 ⊢
 clear hwz z0 z1 z2 z3 z4 z5 z6 z7 z8 y0 y1 y2 y3 y4 y5 y6 y7 y8
 have R9 := Lib.hid (show S5 w g gb gl (gl + 1) v2.heap.size v1.heap.size wz from ⟨Q9.out.far gs LTS.out, (gs.block v2.heap.size (at_lt K3.out) (by have := NE.out; simp; omega)).trans K3.out, T9.out⟩)
 clear gs T9 Q9
 refine hK.out _ _ ?_ (fun hHeld => ?_)
 · exact R9.out.s
 clear hK K
 (try simp only [Act.put, List.setIfInBounds_toArray, List.set_cons_zero, List.set_cons_succ])
 refine wpAnyH_done (by kernel_rfl) ?_ _
 go_wp2_with fail
 go_meet
 exact ⟨_, _, rfl, R9⟩
 }
 }
 {
 go_simp
 have nb := below_new v0 (.cells #[.int .i64 0, .int .i64 0, .int .i64 0, .int .i64 0, .int .i64 0, .int .i64 0, .int .i64 0, .int .i64 0, .slice none 0 0] 26)
 have AL1 := Lib.hid (heap_new v0 (.cells #[.int .i64 0, .int .i64 0, .int .i64 0, .int .i64 0, .int .i64 0, .int .i64 0, .int .i64 0, .int .i64 0, .slice none 0 0] 26))
 have Q1 := Lib.hid (Lib.hid hHeld |>.out.keep nb)
 have LTS := Lib.hid (S4.lts hHeld)
 have Wsl1 := Lib.hid ((nb.block _ (at_lt K0.out)).trans K0.out)
 clear nb hHeld
 obtain ⟨v1, hv1⟩ : ∃ z, z = v0.alloc (.cells #[.int .i64 0, .int .i64 0, .int .i64 0, .int .i64 0, .int .i64 0, .int .i64 0, .int .i64 0, .int .i64 0, .slice none 0 0] 26) := ⟨_, rfl⟩
 rw [← hv1]
 rw [← hv1] at AL1 Q1 Wsl1
 clear hv1
 refine hK.out _ _ ?_ (fun hHeld => ?_)
 · exact Q1.out
 clear hK K
 (try simp only [Act.put, List.setIfInBounds_toArray, List.set_cons_zero, List.set_cons_succ])
 refine wpAnyH_ready (rs := [2]) (by kernel_rfl) (by simp) ?_
 refine AllReadyH.cons (o := { dst := some 22, op := Op.call { callee := Callee.value (Operand.func 47), args := #[Operand.const (Value.int IntKind.i64 7), Operand.tmp 21], argTypes := #[2, 86] }, type := 26, pos := "law.go:24", after := #[{ on := 1, ground := Ground.data }], guard := none }) rfl (fun K hK => ?_) AllReadyH.nil
 go_simp
 refine (A7a.out v1 _ Wsl1.out).mono ?_
 rintro ev v2 ⟨rfl, nb⟩
 have Q2 := Lib.hid (Lib.hid hHeld |>.out.keep nb)
 have AL2 := Lib.hid ((nb.block _ (at_lt AL1.out)).trans AL1.out)
 clear nb hHeld
 refine hK.out _ _ ?_ (fun hHeld => ?_)
 · exact Q2.out
 clear hK K
 (try simp only [Act.put, List.setIfInBounds_toArray, List.set_cons_zero, List.set_cons_succ])
 refine wpAnyH_ready (rs := [3]) (by kernel_rfl) (by simp) ?_
 refine AllReadyH.cons (o := { dst := some 23, op := Op.buildSlice 24 2 #[(0, Operand.tmp 20), (1, Operand.tmp 22)], type := 24, pos := "law.go:24", after := #[{ on := 0, ground := Ground.data }, { on := 2, ground := Ground.data }], guard := none }) rfl (fun K hK => ?_) AllReadyH.nil
 go_simp
 have NE := Lib.hid (show v2.heap.size ≠ v0.heap.size from by have := at_lt AL2.out; omega)
 have nb := below_new v2 (.cells #[.int .i64 1, .int .i64 1, .int .i64 0, .int .i64 0, .int .i64 0, .int .i64 0, .int .i64 0, .int .i64 5, .slice none 0 0, .int .i64 1, .int .i64 1, .int .i64 0, .int .i64 0, .int .i64 0, .int .i64 0, .int .i64 0, .int .i64 7, .slice none 0 0] 26)
 have K3 := Lib.hid (heap_new v2 (.cells #[.int .i64 1, .int .i64 1, .int .i64 0, .int .i64 0, .int .i64 0, .int .i64 0, .int .i64 0, .int .i64 5, .slice none 0 0, .int .i64 1, .int .i64 1, .int .i64 0, .int .i64 0, .int .i64 0, .int .i64 0, .int .i64 0, .int .i64 7, .slice none 0 0] 26))
 have Q3 := Lib.hid (Lib.hid hHeld |>.out.keep nb)
 have AL3 := Lib.hid ((nb.block _ (at_lt AL2.out)).trans AL2.out)
 clear nb hHeld
 obtain ⟨v3, hv3⟩ : ∃ z, z = v2.alloc (.cells #[.int .i64 1, .int .i64 1, .int .i64 0, .int .i64 0, .int .i64 0, .int .i64 0, .int .i64 0, .int .i64 5, .slice none 0 0, .int .i64 1, .int .i64 1, .int .i64 0, .int .i64 0, .int .i64 0, .int .i64 0, .int .i64 0, .int .i64 7, .slice none 0 0] 26) := ⟨_, rfl⟩
 rw [← hv3]
 rw [← hv3] at K3 Q3 AL3
 clear hv3
 refine hK.out _ _ ?_ (fun hHeld => ?_)
 · exact Q3.out
 clear hK K
 (try simp only [Act.put, List.setIfInBounds_toArray, List.set_cons_zero, List.set_cons_succ])
 refine wpAnyH_take (i := 4) (oi := { dst := some 24, op := Op.build 26 #[(0, Operand.const (Value.int IntKind.i64 3)), (3, Operand.tmp 23)], type := 26, pos := "law.go:24", after := #[{ on := 3, ground := Ground.data }], guard := none }) (v := ?_) rfl (by kernel_rfl) (by kernel_rfl) (by kernel_rfl) (fun _ _ _ h => h) (Or.inl ⟨by rfl, ?_⟩) (by assumption) ?_
 rotate_left
 · intro w hSw; (try dsimp only at hSw); obtain ⟨e0, e1, e2, e3, e4, e5, e6, e7, e8⟩ := row9 hSw.a; go_simp; try with_reducible rfl
 (try simp only [Act.put, List.setIfInBounds_toArray, List.set_cons_zero, List.set_cons_succ])
 refine wpAnyH_ready (rs := [6]) (by kernel_rfl) (by simp) ?_
 refine AllReadyH.cons (o := { dst := none, op := Op.store 26 (Operand.tmp 5) (Operand.tmp 24), type := 0, pos := "law.go:24", after := #[{ on := 5, ground := Ground.data }, { on := 4, ground := Ground.data }, { on := 2, ground := Ground.chain }, { on := 0, ground := Ground.phase }, { on := 1, ground := Ground.phase }, { on := 2, ground := Ground.phase }, { on := 3, ground := Ground.phase }, { on := 4, ground := Ground.phase }, { on := 5, ground := Ground.phase }], guard := none }) rfl (fun K hK => ?_) AllReadyH.nil
 obtain ⟨z0, z1, z2, z3, z4, z5, z6, z7, z8⟩ := row9 AL3.out
 have AL9 := Lib.hid (show B9 v3 v0.heap.size (.int .i64 0) (.int .i64 0) (.int .i64 0) (.int .i64 0) (.int .i64 0) (.int .i64 0) (.int .i64 0) (.int .i64 0) (.slice none 0 0) from AL3.out)
 obtain ⟨y0, y1, y2, y3, y4, y5, y6, y7, y8⟩ := B9.free AL9.out
 have Q9 := Lib.hid hHeld
 clear hHeld
 go_simp
 rw [nest_0]
 have gs := grown_setsV (w := v3) (g := v0.heap.size) [.int .i64 3, .int .i64 0, .int .i64 0, .int .i64 0, .int .i64 0, .int .i64 0, .int .i64 0, .int .i64 0, .slice (some ⟨v2.heap.size, 0, none⟩) 2 2] 0
 have T9 := Lib.hid (B9.put AL9.out (.int .i64 3) (.int .i64 0) (.int .i64 0) (.int .i64 0) (.int .i64 0) (.int .i64 0) (.int .i64 0) (.int .i64 0) (.slice (some ⟨v2.heap.size, 0, none⟩) 2 2))
 obtain ⟨wz, hwz⟩ : ∃ wz, wz = sets v3 v0.heap.size 0 [.int .i64 3, .int .i64 0, .int .i64 0, .int .i64 0, .int .i64 0, .int .i64 0, .int .i64 0, .int .i64 0, .slice (some ⟨v2.heap.size, 0, none⟩) 2 2] := ⟨_, rfl⟩
 rw [← hwz] at gs T9 ⊢
 clear hwz z0 z1 z2 z3 z4 z5 z6 z7 z8 y0 y1 y2 y3 y4 y5 y6 y7 y8
 have R9 := Lib.hid (show S5 w g gb gl (gl + 1) v2.heap.size v0.heap.size wz from ⟨Q9.out.far gs LTS.out, (gs.block v2.heap.size (at_lt K3.out) (by have := NE.out; simp; omega)).trans K3.out, T9.out⟩)
 clear gs T9 Q9
 refine hK.out _ _ ?_ (fun hHeld => ?_)
 · exact R9.out.s
 clear hK K
 (try simp only [Act.put, List.setIfInBounds_toArray, List.set_cons_zero, List.set_cons_succ])
 refine wpAnyH_done (by kernel_rfl) ?_ _
 go_wp2_with fail
 go_meet
 exact ⟨_, _, rfl, R9⟩
 }
 }
    {
 go_simp
 have nb := below_new Y (.cells #[.int .i64 0, .int .i64 0, .int .i64 0, .int .i64 0, .int .i64 0, .int .i64 0, .int .i64 0, .int .i64 0, .slice none 0 0] 26)
 have AL0 := Lib.hid (heap_new Y (.cells #[.int .i64 0, .int .i64 0, .int .i64 0, .int .i64 0, .int .i64 0, .int .i64 0, .int .i64 0, .int .i64 0, .slice none 0 0] 26))
 have Q0 := Lib.hid (Lib.hid hHeld |>.out.keep nb)
 have LTS := Lib.hid (S4.lts hHeld)
 clear nb hHeld
 obtain ⟨v0, hv0⟩ : ∃ z, z = Y.alloc (.cells #[.int .i64 0, .int .i64 0, .int .i64 0, .int .i64 0, .int .i64 0, .int .i64 0, .int .i64 0, .int .i64 0, .slice none 0 0] 26) := ⟨_, rfl⟩
 rw [← hv0]
 rw [← hv0] at AL0 Q0
 clear hv0
 refine hK.out _ _ ?_ (fun hHeld => ?_)
 · exact Q0.out
 clear hK K
 (try simp only [Act.put, List.setIfInBounds_toArray, List.set_cons_zero, List.set_cons_succ])
 refine wpAnyH_ready (rs := [1]) (by kernel_rfl) (by simp) ?_
 refine AllReadyH.cons (o := { dst := some 21, op := Op.buildSlice 86 1 #[(0, Operand.const (Value.int IntKind.i64 1))], type := 86, pos := "law.go:24", after := #[], guard := none }) rfl (fun K hK => ?_) AllReadyH.nil
 go_simp
 have nb := below_new v0 (.cells #[.int .i64 1] 3)
 have K1 := Lib.hid (heap_new v0 (.cells #[.int .i64 1] 3))
 have Q1 := Lib.hid (Lib.hid hHeld |>.out.keep nb)
 have AL1 := Lib.hid ((nb.block _ (at_lt AL0.out)).trans AL0.out)
 clear nb hHeld
 obtain ⟨v1, hv1⟩ : ∃ z, z = v0.alloc (.cells #[.int .i64 1] 3) := ⟨_, rfl⟩
 rw [← hv1]
 rw [← hv1] at K1 Q1 AL1
 clear hv1
 refine hK.out _ _ ?_ (fun hHeld => ?_)
 · exact Q1.out
 clear hK K
 (try simp only [Act.put, List.setIfInBounds_toArray, List.set_cons_zero, List.set_cons_succ])
 refine wpAnyH_ready (rs := [2]) (by kernel_rfl) (by simp) ?_
 refine AllReadyH.cons (o := { dst := some 22, op := Op.call { callee := Callee.value (Operand.func 47), args := #[Operand.const (Value.int IntKind.i64 7), Operand.tmp 21], argTypes := #[2, 86] }, type := 26, pos := "law.go:24", after := #[{ on := 1, ground := Ground.data }], guard := none }) rfl (fun K hK => ?_) AllReadyH.nil
 go_simp
 refine (A7a.out v1 _ K1.out).mono ?_
 rintro ev v2 ⟨rfl, nb⟩
 have Q2 := Lib.hid (Lib.hid hHeld |>.out.keep nb)
 have AL2 := Lib.hid ((nb.block _ (at_lt AL1.out)).trans AL1.out)
 clear nb hHeld
 refine hK.out _ _ ?_ (fun hHeld => ?_)
 · exact Q2.out
 clear hK K
 (try simp only [Act.put, List.setIfInBounds_toArray, List.set_cons_zero, List.set_cons_succ])
 refine wpAnyH_ready (rs := [3]) (by kernel_rfl) (by simp) ?_
 refine AllReadyH.cons (o := { dst := some 23, op := Op.buildSlice 24 2 #[(0, Operand.tmp 20), (1, Operand.tmp 22)], type := 24, pos := "law.go:24", after := #[{ on := 0, ground := Ground.data }, { on := 2, ground := Ground.data }], guard := none }) rfl (fun K hK => ?_) AllReadyH.nil
 go_simp
 have NE := Lib.hid (show v2.heap.size ≠ Y.heap.size from by have := at_lt AL2.out; omega)
 have nb := below_new v2 (.cells #[.int .i64 1, .int .i64 1, .int .i64 0, .int .i64 0, .int .i64 0, .int .i64 0, .int .i64 0, .int .i64 5, .slice none 0 0, .int .i64 1, .int .i64 1, .int .i64 0, .int .i64 0, .int .i64 0, .int .i64 0, .int .i64 0, .int .i64 7, .slice none 0 0] 26)
 have K3 := Lib.hid (heap_new v2 (.cells #[.int .i64 1, .int .i64 1, .int .i64 0, .int .i64 0, .int .i64 0, .int .i64 0, .int .i64 0, .int .i64 5, .slice none 0 0, .int .i64 1, .int .i64 1, .int .i64 0, .int .i64 0, .int .i64 0, .int .i64 0, .int .i64 0, .int .i64 7, .slice none 0 0] 26))
 have Q3 := Lib.hid (Lib.hid hHeld |>.out.keep nb)
 have AL3 := Lib.hid ((nb.block _ (at_lt AL2.out)).trans AL2.out)
 clear nb hHeld
 obtain ⟨v3, hv3⟩ : ∃ z, z = v2.alloc (.cells #[.int .i64 1, .int .i64 1, .int .i64 0, .int .i64 0, .int .i64 0, .int .i64 0, .int .i64 0, .int .i64 5, .slice none 0 0, .int .i64 1, .int .i64 1, .int .i64 0, .int .i64 0, .int .i64 0, .int .i64 0, .int .i64 0, .int .i64 7, .slice none 0 0] 26) := ⟨_, rfl⟩
 rw [← hv3]
 rw [← hv3] at K3 Q3 AL3
 clear hv3
 refine hK.out _ _ ?_ (fun hHeld => ?_)
 · exact Q3.out
 clear hK K
 (try simp only [Act.put, List.setIfInBounds_toArray, List.set_cons_zero, List.set_cons_succ])
 refine wpAnyH_take (i := 4) (oi := { dst := some 24, op := Op.build 26 #[(0, Operand.const (Value.int IntKind.i64 3)), (3, Operand.tmp 23)], type := 26, pos := "law.go:24", after := #[{ on := 3, ground := Ground.data }], guard := none }) (v := ?_) rfl (by kernel_rfl) (by kernel_rfl) (by kernel_rfl) (fun _ _ _ h => h) (Or.inl ⟨by rfl, ?_⟩) (by assumption) ?_
 rotate_left
 · intro w hSw; (try dsimp only at hSw); obtain ⟨e0, e1, e2, e3, e4, e5, e6, e7, e8⟩ := row9 hSw.a; go_simp; try with_reducible rfl
 (try simp only [Act.put, List.setIfInBounds_toArray, List.set_cons_zero, List.set_cons_succ])
 refine wpAnyH_ready (rs := [6]) (by kernel_rfl) (by simp) ?_
 refine AllReadyH.cons (o := { dst := none, op := Op.store 26 (Operand.tmp 5) (Operand.tmp 24), type := 0, pos := "law.go:24", after := #[{ on := 5, ground := Ground.data }, { on := 4, ground := Ground.data }, { on := 2, ground := Ground.chain }, { on := 0, ground := Ground.phase }, { on := 1, ground := Ground.phase }, { on := 2, ground := Ground.phase }, { on := 3, ground := Ground.phase }, { on := 4, ground := Ground.phase }, { on := 5, ground := Ground.phase }], guard := none }) rfl (fun K hK => ?_) AllReadyH.nil
 obtain ⟨z0, z1, z2, z3, z4, z5, z6, z7, z8⟩ := row9 AL3.out
 have AL9 := Lib.hid (show B9 v3 Y.heap.size (.int .i64 0) (.int .i64 0) (.int .i64 0) (.int .i64 0) (.int .i64 0) (.int .i64 0) (.int .i64 0) (.int .i64 0) (.slice none 0 0) from AL3.out)
 obtain ⟨y0, y1, y2, y3, y4, y5, y6, y7, y8⟩ := B9.free AL9.out
 have Q9 := Lib.hid hHeld
 clear hHeld
 go_simp
 rw [nest_0]
 have gs := grown_setsV (w := v3) (g := Y.heap.size) [.int .i64 3, .int .i64 0, .int .i64 0, .int .i64 0, .int .i64 0, .int .i64 0, .int .i64 0, .int .i64 0, .slice (some ⟨v2.heap.size, 0, none⟩) 2 2] 0
 have T9 := Lib.hid (B9.put AL9.out (.int .i64 3) (.int .i64 0) (.int .i64 0) (.int .i64 0) (.int .i64 0) (.int .i64 0) (.int .i64 0) (.int .i64 0) (.slice (some ⟨v2.heap.size, 0, none⟩) 2 2))
 obtain ⟨wz, hwz⟩ : ∃ wz, wz = sets v3 Y.heap.size 0 [.int .i64 3, .int .i64 0, .int .i64 0, .int .i64 0, .int .i64 0, .int .i64 0, .int .i64 0, .int .i64 0, .slice (some ⟨v2.heap.size, 0, none⟩) 2 2] := ⟨_, rfl⟩
 rw [← hwz] at gs T9 ⊢
 clear hwz z0 z1 z2 z3 z4 z5 z6 z7 z8 y0 y1 y2 y3 y4 y5 y6 y7 y8
 have R9 := Lib.hid (show S5 w g gb gl (gl + 1) v2.heap.size Y.heap.size wz from ⟨Q9.out.far gs LTS.out, (gs.block v2.heap.size (at_lt K3.out) (by have := NE.out; simp; omega)).trans K3.out, T9.out⟩)
 clear gs T9 Q9
 refine hK.out _ _ ?_ (fun hHeld => ?_)
 · exact R9.out.s
 clear hK K
 (try simp only [Act.put, List.setIfInBounds_toArray, List.set_cons_zero, List.set_cons_succ])
 refine wpAnyH_done (by kernel_rfl) ?_ _
 go_wp2_with fail
 go_meet
 exact ⟨_, _, rfl, R9⟩
 }
  case rest =>
    obtain ⟨gk, gT, rfl, hQ⟩ := hcut
    generalize gl + 1 = gO at *
    clear Q5 A5 A7 A7a
    have Q6 := hQ
    clear hQ
    obtain ⟨w6, hw6⟩ : ∃ w6, w6 = wc := ⟨_, rfl⟩
    rw [← hw6] at Q6 ⊢
    clear hw6
    obtain ⟨a0, a1, a2, a3, a4, a5, a6, a7, a8⟩ := row9 Q6.out.s.a
    obtain ⟨b0, b1, b2, b3, b4, b5, b6, b7, b8⟩ := row9 Q6.out.s.b
    obtain ⟨q0, q1, q2, q3, q4, q5⟩ := cells6 Q6.out.s.both
    obtain ⟨o0, o1, o2, o3, o4, o5, o6, o7, o8⟩ := row9 Q6.out.s.o
    obtain ⟨p0, p1, p2, p3, p4, p5, p6, p7, p8⟩ := row9 Q6.out.t
    go_upto_region 6 with (fail)
    have nb := below_two w6 (.cells #[.int .i64 3, .int .i64 0, .int .i64 0, .int .i64 0, .int .i64 0, .int .i64 0, .int .i64 0, .int .i64 0, .slice (some ⟨gl, 0, none⟩) 2 2] 26) (.cells #[.int .i64 4, .int .i64 1, .int .i64 1, .int .i64 0, .int .i64 0, .int .i64 0, .int .i64 0, .int .i64 3, .slice (some ⟨w6.heap.size, 0, none⟩) 1 1] 26)
    have N7 := Lib.hid (two_new w6 (.cells #[.int .i64 3, .int .i64 0, .int .i64 0, .int .i64 0, .int .i64 0, .int .i64 0, .int .i64 0, .int .i64 0, .slice (some ⟨gl, 0, none⟩) 2 2] 26) (.cells #[.int .i64 4, .int .i64 1, .int .i64 1, .int .i64 0, .int .i64 0, .int .i64 0, .int .i64 0, .int .i64 3, .slice (some ⟨w6.heap.size, 0, none⟩) 1 1] 26))
    have Q7 := Lib.hid (show S6 w g gb gl gO gk gT w6.heap.size (w6.heap.size + 1) ((w6.alloc (.cells #[.int .i64 3, .int .i64 0, .int .i64 0, .int .i64 0, .int .i64 0, .int .i64 0, .int .i64 0, .int .i64 0, .slice (some ⟨gl, 0, none⟩) 2 2] 26)).alloc (.cells #[.int .i64 4, .int .i64 1, .int .i64 1, .int .i64 0, .int .i64 0, .int .i64 0, .int .i64 0, .int .i64 3, .slice (some ⟨w6.heap.size, 0, none⟩) 1 1] 26)) from ⟨Q6.out.keep nb, N7.out.1, N7.out.2⟩)
    clear nb N7 Q6
    clear a0 a1 a2 a3 a4 a5 a6 a7 a8 b0 b1 b2 b3 b4 b5 b6 b7 b8 q0 q1 q2 q3 q4 q5 o0 o1 o2 o3 o4 o5 o6 o7 o8 p0 p1 p2 p3 p4 p5 p6 p7 p8
    generalize (w6.alloc (.cells #[.int .i64 3, .int .i64 0, .int .i64 0, .int .i64 0, .int .i64 0, .int .i64 0, .int .i64 0, .int .i64 0, .slice (some ⟨gl, 0, none⟩) 2 2] 26)).alloc (.cells #[.int .i64 4, .int .i64 1, .int .i64 1, .int .i64 0, .int .i64 0, .int .i64 0, .int .i64 0, .int .i64 3, .slice (some ⟨w6.heap.size, 0, none⟩) 1 1] 26) = w7 at *
    generalize w6.heap.size = gm at *
    generalize gm + 1 = gM at *
    obtain ⟨a0, a1, a2, a3, a4, a5, a6, a7, a8⟩ := row9 Q7.out.s.s.a
    obtain ⟨b0, b1, b2, b3, b4, b5, b6, b7, b8⟩ := row9 Q7.out.s.s.b
    obtain ⟨q0, q1, q2, q3, q4, q5⟩ := cells6 Q7.out.s.s.both
    obtain ⟨o0, o1, o2, o3, o4, o5, o6, o7, o8⟩ := row9 Q7.out.s.s.o
    obtain ⟨p0, p1, p2, p3, p4, p5, p6, p7, p8⟩ := row9 Q7.out.s.t
    obtain ⟨m0, m1, m2, m3, m4, m5, m6, m7, m8⟩ := row9 Q7.out.v
    have CO := Lib.hid (fun (X : World) (h : S6 w g gb gl gO gk gT gm gM X) => (show Calls Try.prog 18 #[.agg #[.int .i64 3, .int .i64 0, .int .i64 0, .int .i64 0, .int .i64 0, .int .i64 0, .int .i64 0, .int .i64 0, .slice (some ⟨gl, 0, none⟩) 2 2], .agg #[.int .i64 1, .int .i64 1, .int .i64 0, .int .i64 0, .int .i64 0, .int .i64 0]] X (Gives (.int .i64 12) X) from callV X (tOr gl) (tOr_ok h.s.s.l) (by show 3 ≤ 2000000; decide) 1 1 0 0 0 0 12 (ex_or gl)))
    have CT1 := Lib.hid (fun (X : World) (h : S6 w g gb gl gO gk gT gm gM X) => (show Calls Try.prog 18 #[.agg #[.int .i64 3, .int .i64 0, .int .i64 0, .int .i64 0, .int .i64 0, .int .i64 0, .int .i64 0, .int .i64 0, .slice (some ⟨gk, 0, none⟩) 2 2], .agg #[.int .i64 1, .int .i64 0, .int .i64 0, .int .i64 0, .int .i64 0, .int .i64 0]] X (Gives (.int .i64 7) X) from callV X (tTw gk) (tTw_ok h.s.k) (by show 3 ≤ 2000000; decide) 1 0 0 0 0 0 7 (ex_tw1 gk)))
    have CT2 := Lib.hid (fun (X : World) (h : S6 w g gb gl gO gk gT gm gM X) => (show Calls Try.prog 18 #[.agg #[.int .i64 3, .int .i64 0, .int .i64 0, .int .i64 0, .int .i64 0, .int .i64 0, .int .i64 0, .int .i64 0, .slice (some ⟨gk, 0, none⟩) 2 2], .agg #[.int .i64 2, .int .i64 0, .int .i64 0, .int .i64 0, .int .i64 0, .int .i64 0]] X (Gives (.int .i64 12) X) from callV X (tTw gk) (tTw_ok h.s.k) (by show 3 ≤ 2000000; decide) 2 0 0 0 0 0 12 (ex_tw2 gk)))
    have CM1 := Lib.hid (fun (X : World) (h : S6 w g gb gl gO gk gT gm gM X) => (show Calls Try.prog 18 #[.agg #[.int .i64 4, .int .i64 1, .int .i64 1, .int .i64 0, .int .i64 0, .int .i64 0, .int .i64 0, .int .i64 3, .slice (some ⟨gm, 0, none⟩) 1 1], .agg #[.int .i64 1, .int .i64 1, .int .i64 0, .int .i64 0, .int .i64 0, .int .i64 0]] X (Gives (.int .i64 15) X) from callV X (tMo gm gl) (tMo_ok (tOr_ok h.s.s.l) h.m) (by show 4 ≤ 2000000; decide) 1 1 0 0 0 0 15 (ex_mo1 gm gl)))
    have CM2 := Lib.hid (fun (X : World) (h : S6 w g gb gl gO gk gT gm gM X) => (show Calls Try.prog 18 #[.agg #[.int .i64 4, .int .i64 1, .int .i64 1, .int .i64 0, .int .i64 0, .int .i64 0, .int .i64 0, .int .i64 3, .slice (some ⟨gm, 0, none⟩) 1 1], .agg #[.int .i64 0, .int .i64 1, .int .i64 0, .int .i64 0, .int .i64 0, .int .i64 0]] X (Gives (.int .i64 7) X) from callV X (tMo gm gl) (tMo_ok (tOr_ok h.s.s.l) h.m) (by show 4 ≤ 2000000; decide) 0 1 0 0 0 0 7 (ex_mo2 gm gl)))
    have CX := Lib.hid (fun (X : World) (gx : Nat) (h : X.heap[gx]? = some (.cells #[.int .i64 1, .int .i64 1, .int .i64 0, .int .i64 0, .int .i64 0, .int .i64 0, .int .i64 0, .int .i64 5, .slice none 0 0, .int .i64 1, .int .i64 0, .int .i64 1, .int .i64 0, .int .i64 0, .int .i64 0, .int .i64 0, .int .i64 7, .slice none 0 0] 26 (0, 0))) => (show Calls Try.prog 18 #[.agg #[.int .i64 2, .int .i64 0, .int .i64 0, .int .i64 0, .int .i64 0, .int .i64 0, .int .i64 0, .int .i64 0, .slice (some ⟨gx, 0, none⟩) 2 2], .agg #[.int .i64 1, .int .i64 1, .int .i64 0, .int .i64 0, .int .i64 0, .int .i64 0]] X (Gives (.int .i64 7) X) from callV X (tXo gx) (tXo_ok h) (by show 3 ≤ 2000000; decide) 1 1 0 0 0 0 7 (ex_xor gx)))
    have CL := Lib.hid (fun (X : World) (gx : Nat) (hS : S6 w g gb gl gO gk gT gm gM X) (h : X.heap[gx]? = some (.cells #[.int .i64 3, .int .i64 0, .int .i64 0, .int .i64 0, .int .i64 0, .int .i64 0, .int .i64 0, .int .i64 0, .slice (some ⟨gl, 0, none⟩) 2 2] 26 (0, 0))) => (show Calls Try.prog 18 #[.agg #[.int .i64 5, .int .i64 0, .int .i64 0, .int .i64 0, .int .i64 0, .int .i64 0, .int .i64 0, .int .i64 10, .slice (some ⟨gx, 0, none⟩) 1 1], .agg #[.int .i64 1, .int .i64 1, .int .i64 0, .int .i64 0, .int .i64 0, .int .i64 0]] X (Gives (.int .i64 10) X) from callV X (tLi gx gl) (tLi_ok (tOr_ok hS.s.s.l) h) (by show 4 ≤ 2000000; decide) 1 1 0 0 0 0 10 (ex_li gx gl)))
    have CTa := Lib.hid (fun (X : World) => (show Calls Try.prog 24 #[.agg #[.int .i64 1, .int .i64 1, .int .i64 0, .int .i64 0, .int .i64 0, .int .i64 0, .int .i64 0, .int .i64 5, .slice none 0 0], .agg #[.int .i64 2, .int .i64 0, .int .i64 0, .int .i64 0, .int .i64 0, .int .i64 0]] X (GivesT ([0, 5, 5], 0) X) from by have := table_any t5 (by show 1 ≤ 2000000; decide) 2 0 0 0 0 0 X _ (t5_ok X); rw [ex_tab1] at this; exact this))
    have CTb := Lib.hid (fun (X : World) => (show Calls Try.prog 24 #[.agg #[.int .i64 1, .int .i64 1, .int .i64 0, .int .i64 0, .int .i64 0, .int .i64 0, .int .i64 0, .int .i64 5, .slice none 0 0], .agg #[.int .i64 5, .int .i64 0, .int .i64 0, .int .i64 0, .int .i64 0, .int .i64 0]] X (GivesT ([], 4) X) from by have := table_any t5 (by show 1 ≤ 2000000; decide) 5 0 0 0 0 0 X _ (t5_ok X); rw [ex_tab2] at this; exact this))
    have CMo := Lib.hid (fun (X : World) => (show Calls Try.prog 20 #[.agg #[.int .i64 1, .int .i64 1, .int .i64 0, .int .i64 0, .int .i64 0, .int .i64 0, .int .i64 0, .int .i64 5, .slice none 0 0]] X (Gives (.int .i64 5) X) from by have := most_any t5 (by show 1 ≤ 2000000; decide) X _ (t5_ok X); rw [ex_most] at this; exact this))
    have CN1 := Lib.hid (fun (X : World) (gx : Nat) (h : X.heap[gx]? = some (.cells #[.int .i64 0, .int .i64 5, .int .i64 4] 2 (0, 0))) => (show Calls Try.prog 27 #[.slice (some ⟨gx, 0, none⟩) 3 3, .agg #[.int .i64 2, .int .i64 0, .int .i64 0, .int .i64 0, .int .i64 0, .int .i64 0]] X (Gives (.bool false) X) from by have := monotone_any (some ⟨gx, 0, none⟩) 3 3 [0, 5, 4] 2 0 0 0 0 0 X (lit_int [0, 5, 4] 3 h rfl rfl (by decide) (by decide)); rw [ex_mono1] at this; exact this))
    have CN2 := Lib.hid (fun (X : World) (A : Option Addr) (c : Nat) (h : Lst intE X A 3 c [0, 5, 5]) => (show Calls Try.prog 27 #[.slice A 3 c, .agg #[.int .i64 2, .int .i64 0, .int .i64 0, .int .i64 0, .int .i64 0, .int .i64 0]] X (Gives (.bool true) X) from by have := monotone_any A 3 c [0, 5, 5] 2 0 0 0 0 0 X h; rw [ex_mono2] at this; exact this))
    go_wp2_with fail
    refine (CTa.out _).mono ?_
    rintro ev w8 ⟨At, nt, ct, rfl, hl, nb⟩
    have Q8 := Lib.hid (Q7.out.keep nb)
    have hnt : nt = 3 := hl.len.symm
    subst hnt
    have L8 := Lib.hid hl
    clear nb hl Q7
    clear a0 a1 a2 a3 a4 a5 a6 a7 a8 b0 b1 b2 b3 b4 b5 b6 b7 b8 q0 q1 q2 q3 q4 q5 o0 o1 o2 o3 o4 o5 o6 o7 o8 p0 p1 p2 p3 p4 p5 p6 p7 p8 m0 m1 m2 m3 m4 m5 m6 m7 m8
    obtain ⟨a0, a1, a2, a3, a4, a5, a6, a7, a8⟩ := row9 Q8.out.s.s.a
    obtain ⟨b0, b1, b2, b3, b4, b5, b6, b7, b8⟩ := row9 Q8.out.s.s.b
    obtain ⟨q0, q1, q2, q3, q4, q5⟩ := cells6 Q8.out.s.s.both
    obtain ⟨o0, o1, o2, o3, o4, o5, o6, o7, o8⟩ := row9 Q8.out.s.s.o
    obtain ⟨p0, p1, p2, p3, p4, p5, p6, p7, p8⟩ := row9 Q8.out.s.t
    obtain ⟨m0, m1, m2, m3, m4, m5, m6, m7, m8⟩ := row9 Q8.out.v
    go_wp2_with fail
    refine (CTb.out _).mono ?_
    rintro ev w9 ⟨At2, nt2, ct2, rfl, hl2, nb⟩
    have Q9 := Lib.hid (Q8.out.keep nb)
    have L9 := Lib.hid (L8.out.keep nb)
    clear nb hl2 Q8 L8
    clear a0 a1 a2 a3 a4 a5 a6 a7 a8 b0 b1 b2 b3 b4 b5 b6 b7 b8 q0 q1 q2 q3 q4 q5 o0 o1 o2 o3 o4 o5 o6 o7 o8 p0 p1 p2 p3 p4 p5 p6 p7 p8 m0 m1 m2 m3 m4 m5 m6 m7 m8
    obtain ⟨a0, a1, a2, a3, a4, a5, a6, a7, a8⟩ := row9 Q9.out.s.s.a
    obtain ⟨b0, b1, b2, b3, b4, b5, b6, b7, b8⟩ := row9 Q9.out.s.s.b
    obtain ⟨q0, q1, q2, q3, q4, q5⟩ := cells6 Q9.out.s.s.both
    obtain ⟨o0, o1, o2, o3, o4, o5, o6, o7, o8⟩ := row9 Q9.out.s.s.o
    obtain ⟨p0, p1, p2, p3, p4, p5, p6, p7, p8⟩ := row9 Q9.out.s.t
    obtain ⟨m0, m1, m2, m3, m4, m5, m6, m7, m8⟩ := row9 Q9.out.v
    obtain ⟨ad, x0, rfl, hx0, _, _, l0⟩ := int_at L9.out (show 0 < 3 by decide)
    obtain ⟨ad1, x1, had1, hx1, _, _, l1⟩ := int_at L9.out (show 1 < 3 by decide)
    obtain ⟨ad2, x2, had2, hx2, _, _, l2⟩ := int_at L9.out (show 2 < 3 by decide)
    have e1 : ad1 = ad := by injection had1 with e; exact e.symm
    have e2 : ad2 = ad := by injection had2 with e; exact e.symm
    rw [e1] at l1
    rw [e2] at l2
    obtain rfl : x0 = 0 := by simpa using hx0.symm
    obtain rfl : x1 = 5 := by simpa using hx1.symm
    obtain rfl : x2 = 5 := by simpa using hx2.symm
    clear had1 had2 e1 e2 hx0 hx1 hx2
    rw [show ad.add 0 = ad from by unfold Addr.add; simp] at l0
    rw [show ad.add 1 = ⟨ad.block, ad.off + 1, none⟩ from rfl] at l1
    rw [show ad.add 2 = ⟨ad.block, ad.off + 2, none⟩ from rfl] at l2
    go_upto_region 10 with (fail)
    clear l0 l1 l2
    have lgb : gb < w9.heap.size := Q9.out.s.s.both.lt
    go_wp2_with fail
    refine (CX.out (w9.alloc (.cells #[.int .i64 1, .int .i64 1, .int .i64 0, .int .i64 0, .int .i64 0, .int .i64 0, .int .i64 0, .int .i64 5, .slice none 0 0, .int .i64 1, .int .i64 0, .int .i64 1, .int .i64 0, .int .i64 0, .int .i64 0, .int .i64 0, .int .i64 7, .slice none 0 0] 26)) w9.heap.size (heap_new w9 _)).mono ?_
    rintro ev w10 ⟨rfl, nb⟩
    clear lgb
    have nb9 := (below_new w9 (.cells #[.int .i64 1, .int .i64 1, .int .i64 0, .int .i64 0, .int .i64 0, .int .i64 0, .int .i64 0, .int .i64 5, .slice none 0 0, .int .i64 1, .int .i64 0, .int .i64 1, .int .i64 0, .int .i64 0, .int .i64 0, .int .i64 0, .int .i64 7, .slice none 0 0] 26)).trans (nb.mono (by simp))
    have Q10 := Lib.hid (Q9.out.keep nb9)
    have L10 := Lib.hid (L9.out.keep nb9)
    clear nb nb9 Q9 L9
    clear a0 a1 a2 a3 a4 a5 a6 a7 a8 b0 b1 b2 b3 b4 b5 b6 b7 b8 q0 q1 q2 q3 q4 q5 o0 o1 o2 o3 o4 o5 o6 o7 o8 p0 p1 p2 p3 p4 p5 p6 p7 p8 m0 m1 m2 m3 m4 m5 m6 m7 m8
    obtain ⟨a0, a1, a2, a3, a4, a5, a6, a7, a8⟩ := row9 Q10.out.s.s.a
    obtain ⟨b0, b1, b2, b3, b4, b5, b6, b7, b8⟩ := row9 Q10.out.s.s.b
    obtain ⟨q0, q1, q2, q3, q4, q5⟩ := cells6 Q10.out.s.s.both
    obtain ⟨o0, o1, o2, o3, o4, o5, o6, o7, o8⟩ := row9 Q10.out.s.s.o
    obtain ⟨p0, p1, p2, p3, p4, p5, p6, p7, p8⟩ := row9 Q10.out.s.t
    obtain ⟨m0, m1, m2, m3, m4, m5, m6, m7, m8⟩ := row9 Q10.out.v
    go_wp2_with fail
    refine (CO.out _ Q10.out).mono ?_
    rintro ev w11 ⟨rfl, nb⟩
    have Q11 := Lib.hid (Q10.out.keep nb)
    have L11 := Lib.hid (L10.out.keep nb)
    clear nb Q10 L10
    clear a0 a1 a2 a3 a4 a5 a6 a7 a8 b0 b1 b2 b3 b4 b5 b6 b7 b8 q0 q1 q2 q3 q4 q5 o0 o1 o2 o3 o4 o5 o6 o7 o8 p0 p1 p2 p3 p4 p5 p6 p7 p8 m0 m1 m2 m3 m4 m5 m6 m7 m8
    obtain ⟨a0, a1, a2, a3, a4, a5, a6, a7, a8⟩ := row9 Q11.out.s.s.a
    obtain ⟨b0, b1, b2, b3, b4, b5, b6, b7, b8⟩ := row9 Q11.out.s.s.b
    obtain ⟨q0, q1, q2, q3, q4, q5⟩ := cells6 Q11.out.s.s.both
    obtain ⟨o0, o1, o2, o3, o4, o5, o6, o7, o8⟩ := row9 Q11.out.s.s.o
    obtain ⟨p0, p1, p2, p3, p4, p5, p6, p7, p8⟩ := row9 Q11.out.s.t
    obtain ⟨m0, m1, m2, m3, m4, m5, m6, m7, m8⟩ := row9 Q11.out.v
    go_wp2_with fail
    refine (CT1.out _ Q11.out).mono ?_
    rintro ev w12 ⟨rfl, nb⟩
    have Q12 := Lib.hid (Q11.out.keep nb)
    have L12 := Lib.hid (L11.out.keep nb)
    clear nb Q11 L11
    clear a0 a1 a2 a3 a4 a5 a6 a7 a8 b0 b1 b2 b3 b4 b5 b6 b7 b8 q0 q1 q2 q3 q4 q5 o0 o1 o2 o3 o4 o5 o6 o7 o8 p0 p1 p2 p3 p4 p5 p6 p7 p8 m0 m1 m2 m3 m4 m5 m6 m7 m8
    obtain ⟨a0, a1, a2, a3, a4, a5, a6, a7, a8⟩ := row9 Q12.out.s.s.a
    obtain ⟨b0, b1, b2, b3, b4, b5, b6, b7, b8⟩ := row9 Q12.out.s.s.b
    obtain ⟨q0, q1, q2, q3, q4, q5⟩ := cells6 Q12.out.s.s.both
    obtain ⟨o0, o1, o2, o3, o4, o5, o6, o7, o8⟩ := row9 Q12.out.s.s.o
    obtain ⟨p0, p1, p2, p3, p4, p5, p6, p7, p8⟩ := row9 Q12.out.s.t
    obtain ⟨m0, m1, m2, m3, m4, m5, m6, m7, m8⟩ := row9 Q12.out.v
    go_wp2_with fail
    refine (CT2.out _ Q12.out).mono ?_
    rintro ev w13 ⟨rfl, nb⟩
    have Q13 := Lib.hid (Q12.out.keep nb)
    have L13 := Lib.hid (L12.out.keep nb)
    clear nb Q12 L12
    clear a0 a1 a2 a3 a4 a5 a6 a7 a8 b0 b1 b2 b3 b4 b5 b6 b7 b8 q0 q1 q2 q3 q4 q5 o0 o1 o2 o3 o4 o5 o6 o7 o8 p0 p1 p2 p3 p4 p5 p6 p7 p8 m0 m1 m2 m3 m4 m5 m6 m7 m8
    obtain ⟨a0, a1, a2, a3, a4, a5, a6, a7, a8⟩ := row9 Q13.out.s.s.a
    obtain ⟨b0, b1, b2, b3, b4, b5, b6, b7, b8⟩ := row9 Q13.out.s.s.b
    obtain ⟨q0, q1, q2, q3, q4, q5⟩ := cells6 Q13.out.s.s.both
    obtain ⟨o0, o1, o2, o3, o4, o5, o6, o7, o8⟩ := row9 Q13.out.s.s.o
    obtain ⟨p0, p1, p2, p3, p4, p5, p6, p7, p8⟩ := row9 Q13.out.s.t
    obtain ⟨m0, m1, m2, m3, m4, m5, m6, m7, m8⟩ := row9 Q13.out.v
    go_wp2_with fail
    refine (CM1.out _ Q13.out).mono ?_
    rintro ev w14 ⟨rfl, nb⟩
    have Q14 := Lib.hid (Q13.out.keep nb)
    have L14 := Lib.hid (L13.out.keep nb)
    clear nb Q13 L13
    clear a0 a1 a2 a3 a4 a5 a6 a7 a8 b0 b1 b2 b3 b4 b5 b6 b7 b8 q0 q1 q2 q3 q4 q5 o0 o1 o2 o3 o4 o5 o6 o7 o8 p0 p1 p2 p3 p4 p5 p6 p7 p8 m0 m1 m2 m3 m4 m5 m6 m7 m8
    obtain ⟨a0, a1, a2, a3, a4, a5, a6, a7, a8⟩ := row9 Q14.out.s.s.a
    obtain ⟨b0, b1, b2, b3, b4, b5, b6, b7, b8⟩ := row9 Q14.out.s.s.b
    obtain ⟨q0, q1, q2, q3, q4, q5⟩ := cells6 Q14.out.s.s.both
    obtain ⟨o0, o1, o2, o3, o4, o5, o6, o7, o8⟩ := row9 Q14.out.s.s.o
    obtain ⟨p0, p1, p2, p3, p4, p5, p6, p7, p8⟩ := row9 Q14.out.s.t
    obtain ⟨m0, m1, m2, m3, m4, m5, m6, m7, m8⟩ := row9 Q14.out.v
    go_wp2_with fail
    refine (CM2.out _ Q14.out).mono ?_
    rintro ev w15 ⟨rfl, nb⟩
    have Q15 := Lib.hid (Q14.out.keep nb)
    have L15 := Lib.hid (L14.out.keep nb)
    clear nb Q14 L14
    clear a0 a1 a2 a3 a4 a5 a6 a7 a8 b0 b1 b2 b3 b4 b5 b6 b7 b8 q0 q1 q2 q3 q4 q5 o0 o1 o2 o3 o4 o5 o6 o7 o8 p0 p1 p2 p3 p4 p5 p6 p7 p8 m0 m1 m2 m3 m4 m5 m6 m7 m8
    obtain ⟨a0, a1, a2, a3, a4, a5, a6, a7, a8⟩ := row9 Q15.out.s.s.a
    obtain ⟨b0, b1, b2, b3, b4, b5, b6, b7, b8⟩ := row9 Q15.out.s.s.b
    obtain ⟨q0, q1, q2, q3, q4, q5⟩ := cells6 Q15.out.s.s.both
    obtain ⟨o0, o1, o2, o3, o4, o5, o6, o7, o8⟩ := row9 Q15.out.s.s.o
    obtain ⟨p0, p1, p2, p3, p4, p5, p6, p7, p8⟩ := row9 Q15.out.s.t
    obtain ⟨m0, m1, m2, m3, m4, m5, m6, m7, m8⟩ := row9 Q15.out.v
    have lgb : gb < w15.heap.size := Q15.out.s.s.both.lt
    go_wp2_with fail
    refine (CL.out (w15.alloc (.cells #[.int .i64 3, .int .i64 0, .int .i64 0, .int .i64 0, .int .i64 0, .int .i64 0, .int .i64 0, .int .i64 0, .slice (some ⟨gl, 0, none⟩) 2 2] 26)) w15.heap.size (Q15.out.keep (below_new w15 _)) (heap_new w15 _)).mono ?_
    rintro ev w16 ⟨rfl, nb⟩
    clear lgb
    have nb9 := (below_new w15 (.cells #[.int .i64 3, .int .i64 0, .int .i64 0, .int .i64 0, .int .i64 0, .int .i64 0, .int .i64 0, .int .i64 0, .slice (some ⟨gl, 0, none⟩) 2 2] 26)).trans (nb.mono (by simp))
    have Q16 := Lib.hid (Q15.out.keep nb9)
    have L16 := Lib.hid (L15.out.keep nb9)
    clear nb nb9 Q15 L15
    clear a0 a1 a2 a3 a4 a5 a6 a7 a8 b0 b1 b2 b3 b4 b5 b6 b7 b8 q0 q1 q2 q3 q4 q5 o0 o1 o2 o3 o4 o5 o6 o7 o8 p0 p1 p2 p3 p4 p5 p6 p7 p8 m0 m1 m2 m3 m4 m5 m6 m7 m8
    obtain ⟨a0, a1, a2, a3, a4, a5, a6, a7, a8⟩ := row9 Q16.out.s.s.a
    obtain ⟨b0, b1, b2, b3, b4, b5, b6, b7, b8⟩ := row9 Q16.out.s.s.b
    obtain ⟨q0, q1, q2, q3, q4, q5⟩ := cells6 Q16.out.s.s.both
    obtain ⟨o0, o1, o2, o3, o4, o5, o6, o7, o8⟩ := row9 Q16.out.s.s.o
    obtain ⟨p0, p1, p2, p3, p4, p5, p6, p7, p8⟩ := row9 Q16.out.s.t
    obtain ⟨m0, m1, m2, m3, m4, m5, m6, m7, m8⟩ := row9 Q16.out.v
    go_wp2_with fail
    refine (CMo.out _).mono ?_
    rintro ev w17 ⟨rfl, nb⟩
    have Q17 := Lib.hid (Q16.out.keep nb)
    have L17 := Lib.hid (L16.out.keep nb)
    clear nb Q16 L16
    clear a0 a1 a2 a3 a4 a5 a6 a7 a8 b0 b1 b2 b3 b4 b5 b6 b7 b8 q0 q1 q2 q3 q4 q5 o0 o1 o2 o3 o4 o5 o6 o7 o8 p0 p1 p2 p3 p4 p5 p6 p7 p8 m0 m1 m2 m3 m4 m5 m6 m7 m8
    obtain ⟨a0, a1, a2, a3, a4, a5, a6, a7, a8⟩ := row9 Q17.out.s.s.a
    obtain ⟨b0, b1, b2, b3, b4, b5, b6, b7, b8⟩ := row9 Q17.out.s.s.b
    obtain ⟨q0, q1, q2, q3, q4, q5⟩ := cells6 Q17.out.s.s.both
    obtain ⟨o0, o1, o2, o3, o4, o5, o6, o7, o8⟩ := row9 Q17.out.s.s.o
    obtain ⟨p0, p1, p2, p3, p4, p5, p6, p7, p8⟩ := row9 Q17.out.s.t
    obtain ⟨m0, m1, m2, m3, m4, m5, m6, m7, m8⟩ := row9 Q17.out.v
    go_wp2_with fail
    refine (CN1.out (w17.alloc (.cells #[.int .i64 0, .int .i64 5, .int .i64 4] 2)) w17.heap.size (heap_new w17 _)).mono ?_
    rintro ev w18 ⟨rfl, nb⟩
    have nb9 := (below_new w17 (.cells #[.int .i64 0, .int .i64 5, .int .i64 4] 2)).trans (nb.mono (by simp))
    have Q18 := Lib.hid (Q17.out.keep nb9)
    have L18 := Lib.hid (L17.out.keep nb9)
    clear nb nb9 Q17 L17
    clear a0 a1 a2 a3 a4 a5 a6 a7 a8 b0 b1 b2 b3 b4 b5 b6 b7 b8 q0 q1 q2 q3 q4 q5 o0 o1 o2 o3 o4 o5 o6 o7 o8 p0 p1 p2 p3 p4 p5 p6 p7 p8 m0 m1 m2 m3 m4 m5 m6 m7 m8
    go_wp2_with fail
    refine (CN2.out _ _ _ L18.out).mono ?_
    rintro ev w19 ⟨rfl, nb⟩
    have Q19 := Lib.hid (Q18.out.keep nb)
    clear nb Q18 L18
    go_wp2
    go_ret
    exact ⟨rfl, Q19.out.s.s.below⟩
end Go.Proofs.Ytgknggighpjcdaa
