/- The chapter's examples: no claim of its own. -/
import Derived.Test.YtdlpolnnhhnecaaDoorCTwo
import Derived.Test.YtdlpolnnhhnecaaDoorBEq
import Derived.Deep.RegionHeld3
namespace Go.Proofs.YtdlpolnnhhnecaaDoor
open Go.RowKit
open MC (Pr)
section
variable (A : Option Addr) (n c : Nat) (w : World) (h : Prs w A n c two2)
include h
theorem w_chk : Calls Tryd.prog 13 #[.slice A n c] w (Gives (.int .i64 0) w) := by have := check_any A n c two2 w h; rwa [two_chk] at this
theorem w_find : Calls Tryd.prog 11 #[.slice A n c, .string ⟨#[98]⟩] w (Gives (.tuple #[.int .i64 1, .bool true]) w) := by have := find_any A n c two2 [98] w h; rw [two_find] at this; exact this
theorem w_parse1 : Calls Tryd.prog 24 #[.slice A n c, .string ⟨#[123, 32, 98, 32, 58, 32, 50, 32, 44, 32, 97, 32, 58, 32, 49, 32, 125]⟩] w (Gives (.tuple #[.agg #[.int .i64 1, .int .i64 2, .int .i64 0, .int .i64 0, .int .i64 0, .int .i64 0], .int .i64 0]) w) := by
  have := parse_any A n c two2 ⟨#[123, 32, 98, 32, 58, 32, 50, 32, 44, 32, 97, 32, 58, 32, 49, 32, 125]⟩ (by decide) w h
  rw [show (⟨#[123, 32, 98, 32, 58, 32, 50, 32, 44, 32, 97, 32, 58, 32, 49, 32, 125]⟩ : ByteArray).data.toList = [123, 32, 98, 32, 58, 32, 50, 32, 44, 32, 97, 32, 58, 32, 49, 32, 125] from rfl, two_p1] at this
  exact this
theorem w_parse2 : Calls Tryd.prog 24 #[.slice A n c, .string ⟨#[123, 97, 58, 48, 125]⟩] w (Gives (.tuple #[.agg #[.int .i64 0, .int .i64 0, .int .i64 0, .int .i64 0, .int .i64 0, .int .i64 0], .int .i64 4]) w) := by
  have := parse_any A n c two2 ⟨#[123, 97, 58, 48, 125]⟩ (by decide) w h
  rw [show (⟨#[123, 97, 58, 48, 125]⟩ : ByteArray).data.toList = [123, 97, 58, 48, 125] from rfl, two_p2] at this
  exact this
theorem w_parse3 : Calls Tryd.prog 24 #[.slice A n c, .string ⟨#[123, 97, 58, 49, 44, 97, 58, 49, 125]⟩] w (Gives (.tuple #[.agg #[.int .i64 0, .int .i64 0, .int .i64 0, .int .i64 0, .int .i64 0, .int .i64 0], .int .i64 7]) w) := by
  have := parse_any A n c two2 ⟨#[123, 97, 58, 49, 44, 97, 58, 49, 125]⟩ (by decide) w h
  rw [show (⟨#[123, 97, 58, 49, 44, 97, 58, 49, 125]⟩ : ByteArray).data.toList = [123, 97, 58, 49, 44, 97, 58, 49, 125] from rfl, two_p3] at this
  exact this
theorem w_parse4 : Calls Tryd.prog 24 #[.slice A n c, .string ⟨#[123, 97, 58, 49]⟩] w (Gives (.tuple #[.agg #[.int .i64 0, .int .i64 0, .int .i64 0, .int .i64 0, .int .i64 0, .int .i64 0], .int .i64 1]) w) := by
  have := parse_any A n c two2 ⟨#[123, 97, 58, 49]⟩ (by decide) w h
  rw [show (⟨#[123, 97, 58, 49]⟩ : ByteArray).data.toList = [123, 97, 58, 49] from rfl, two_p4] at this
  exact this
theorem w_points : Calls Tryd.prog 18 #[.slice A n c, .agg #[.int .i64 1, .int .i64 2, .int .i64 0, .int .i64 0, .int .i64 0, .int .i64 0]] w (Gives (.int .i64 8) w) := by have := points_any A n c two2 1 2 0 0 0 0 w h; rwa [two_points] at this
theorem w_reserve : Calls Tryd.prog 19 #[.slice A n c, .agg #[.int .i64 1, .int .i64 2, .int .i64 0, .int .i64 0, .int .i64 0, .int .i64 0]] w (Gives (.int .i64 10) w) := by have := reserve_any A n c two2 1 2 0 0 0 0 w h; rwa [two_reserve] at this
theorem w_units : Calls Tryd.prog 20 #[.slice A n c, .int .i64 1, .agg #[.int .i64 1, .int .i64 2, .int .i64 0, .int .i64 0, .int .i64 0, .int .i64 0]] w (Gives (.int .i64 2) w) := by have := units_any 1 A n c two2 1 2 0 0 0 0 w h; rwa [two_units] at this
theorem w_format : Calls Tryd.prog 22 #[.slice A n c, .agg #[.int .i64 1, .int .i64 2, .int .i64 0, .int .i64 0, .int .i64 0, .int .i64 0]] w (Gives (.string ⟨#[123, 97, 58, 49, 44, 98, 58, 50, 125]⟩) w) := by have := format_any A n c two2 1 2 0 0 0 0 w h; rw [two_text] at this; exact this
theorem w_supply : Calls Tryd.prog 15 #[.slice A n c] w (Gives (.agg #[.int .i64 2, .int .i64 2, .int .i64 0, .int .i64 0, .int .i64 0, .int .i64 0]) w) := by have := supply_any A n c two2 w h; rw [two_sup] at this; exact this
end
theorem same_12 (w : World) : (Op.equalIn 10000 29 (.agg #[.int .i64 1, .int .i64 2, .int .i64 0, .int .i64 0, .int .i64 0, .int .i64 0]) (.agg #[.int .i64 1, .int .i64 2, .int .i64 0, .int .i64 0, .int .i64 0, .int .i64 0])).run Tryd.prog w = .ok true w := by
  have := run_same [1, 2, 0, 0, 0, 0] [1, 2, 0, 0, 0, 0] rfl rfl w
  exact this
theorem same_22 (w : World) : (Op.equalIn 10000 29 (.agg #[.int .i64 2, .int .i64 2, .int .i64 0, .int .i64 0, .int .i64 0, .int .i64 0]) (.agg #[.int .i64 2, .int .i64 2, .int .i64 0, .int .i64 0, .int .i64 0, .int .i64 0])).run Tryd.prog w = .ok true w := by
  have := run_same [2, 2, 0, 0, 0, 0] [2, 2, 0, 0, 0, 0] rfl rfl w
  exact this
set_option maxRecDepth 100000 in
set_option maxHeartbeats 16000000 in
theorem awake8 (w : World) : Calls Tryd.prog 10 #[] w (Gives (.bool true) w) := by
  have E1 := same_12
  have E2 := same_22
  have B0 := Lib.hid (Below.refl w.heap.size w)
  go_enter Tryd.func10, Tryd.ntmps10
  go_wp2_with fail
  refine (two_any _).mono ?_
  rintro qa1 wa1 ⟨A1, n1, c1, rfl, hp, hb⟩
  have P1 := Lib.hid hp
  have C1 := Lib.hid (B0.out.trans (hb.mono B0.out.size))
  clear hp hb B0
  go_wp2_with fail
  refine (w_parse1 A1 n1 c1 _ P1.out).mono ?_
  rintro qb1 wb1 ⟨rfl, hb⟩
  have D1 := Lib.hid (C1.out.trans (hb.mono C1.out.size))
  have L1 := Lib.hid (BB.new wb1 29 1 2 0 0 0 0)
  have M1 := Lib.hid (D1.out.trans ((below_new wb1 (.cells #[.int .i64 1, .int .i64 2, .int .i64 0, .int .i64 0, .int .i64 0, .int .i64 0] 29)).mono D1.out.size))
  clear hb C1 P1 D1
  go_wp2_with fail
  refine (two_any _).mono ?_
  rintro qa2 wa2 ⟨A2, n2, c2, rfl, hp, hb⟩
  have P2 := Lib.hid hp
  have C2 := Lib.hid (M1.out.trans (hb.mono M1.out.size))
  have K2 := Lib.hid (L1.out.keep hb L1.out.lt)
  clear hp hb M1 L1
  go_wp2_with fail
  refine (w_parse2 A2 n2 c2 _ P2.out).mono ?_
  rintro qb2 wb2 ⟨rfl, hb⟩
  have D2 := Lib.hid (C2.out.trans (hb.mono C2.out.size))
  have L2 := Lib.hid ((K2.out.keep hb K2.out.lt).alloc (.cells #[.int .i64 0, .int .i64 0, .int .i64 0, .int .i64 0, .int .i64 0, .int .i64 0] 29))
  have M2 := Lib.hid (D2.out.trans ((below_new wb2 (.cells #[.int .i64 0, .int .i64 0, .int .i64 0, .int .i64 0, .int .i64 0, .int .i64 0] 29)).mono D2.out.size))
  clear hb C2 P2 D2 K2
  go_wp2_with fail
  refine (two_any _).mono ?_
  rintro qa3 wa3 ⟨A3, n3, c3, rfl, hp, hb⟩
  have P3 := Lib.hid hp
  have C3 := Lib.hid (M2.out.trans (hb.mono M2.out.size))
  have K3 := Lib.hid (L2.out.keep hb L2.out.lt)
  clear hp hb M2 L2
  go_wp2_with fail
  refine (w_parse3 A3 n3 c3 _ P3.out).mono ?_
  rintro qb3 wb3 ⟨rfl, hb⟩
  have D3 := Lib.hid (C3.out.trans (hb.mono C3.out.size))
  have L3 := Lib.hid ((K3.out.keep hb K3.out.lt).alloc (.cells #[.int .i64 0, .int .i64 0, .int .i64 0, .int .i64 0, .int .i64 0, .int .i64 0] 29))
  have M3 := Lib.hid (D3.out.trans ((below_new wb3 (.cells #[.int .i64 0, .int .i64 0, .int .i64 0, .int .i64 0, .int .i64 0, .int .i64 0] 29)).mono D3.out.size))
  clear hb C3 P3 D3 K3
  go_wp2_with fail
  refine (two_any _).mono ?_
  rintro qa4 wa4 ⟨A4, n4, c4, rfl, hp, hb⟩
  have P4 := Lib.hid hp
  have C4 := Lib.hid (M3.out.trans (hb.mono M3.out.size))
  have K4 := Lib.hid (L3.out.keep hb L3.out.lt)
  clear hp hb M3 L3
  go_wp2_with fail
  refine (w_parse4 A4 n4 c4 _ P4.out).mono ?_
  rintro qb4 wb4 ⟨rfl, hb⟩
  have D4 := Lib.hid (C4.out.trans (hb.mono C4.out.size))
  have L4 := Lib.hid ((K4.out.keep hb K4.out.lt).alloc (.cells #[.int .i64 0, .int .i64 0, .int .i64 0, .int .i64 0, .int .i64 0, .int .i64 0] 29))
  have M4 := Lib.hid (D4.out.trans ((below_new wb4 (.cells #[.int .i64 0, .int .i64 0, .int .i64 0, .int .i64 0, .int .i64 0, .int .i64 0] 29)).mono D4.out.size))
  clear hb C4 P4 D4 K4
  go_wp2_with fail
  refine (two_any _).mono ?_
  rintro qa5 wa5 ⟨A5, n5, c5, rfl, hp, hb⟩
  have P5 := Lib.hid hp
  have C5 := Lib.hid (M4.out.trans (hb.mono M4.out.size))
  have K5 := Lib.hid (L4.out.keep hb L4.out.lt)
  clear hp hb M4 L4
  go_wp2_with fail
  refine (w_find A5 n5 c5 _ P5.out).mono ?_
  rintro qb5 W ⟨rfl, hb⟩
  have D5 := Lib.hid (C5.out.trans (hb.mono C5.out.size))
  have HB := Lib.hid (K5.out.keep hb K5.out.lt)
  clear hb C5 K5 P5
  have HD := Lib.hid (below_drawn W)
  go_wp2_with fail
  refine wp_region_held_drew (S := fun w' => Below W.heap.size W w') (by kernel_rfl) HD.out (fun hHeld => ?_)
  refine wpAnyH_ready (rs := [0]) (by kernel_rfl) (by simp) ?_
  refine AllReadyH.cons (o := { dst := some 36, op := Op.call { callee := Callee.value (Operand.func 35), args := #[], argTypes := #[] }, type := 22, pos := "law.go:24", after := #[], guard := none }) rfl (fun K hK => ?_) AllReadyH.nil
  go_simp
  refine (two_any _).mono ?_
  rintro q1 v1 ⟨A1, n1, c1, rfl, hp1, hb1⟩
  have P1 := Lib.hid hp1
  have H1 := Lib.hid (hHeld.trans (hb1.mono hHeld.size))
  clear hp1 hb1 hHeld
  refine hK.out _ _ ?_ (fun hHeld => ?_)
  · exact H1.out
  clear H1
  clear hK K
  (try simp only [Act.put, List.setIfInBounds_toArray, List.set_cons_zero, List.set_cons_succ])
  refine wpAnyH_ready (rs := [1]) (by kernel_rfl) (by simp) ?_
  refine AllReadyH.cons (o := { dst := some 37, op := Op.call { callee := Callee.value (Operand.func 13), args := #[Operand.tmp 36], argTypes := #[22] }, type := 26, pos := "law.go:24", after := #[{ on := 0, ground := Ground.data }, { on := 0, ground := Ground.chain }], guard := none }) rfl (fun K hK => ?_) AllReadyH.nil
  go_simp
  refine (w_chk A1 n1 c1 _ P1.out).mono ?_
  rintro q1' v1' ⟨rfl, hb1⟩
  have H1 := Lib.hid (hHeld.trans (hb1.mono hHeld.size))
  clear hb1 hHeld P1
  refine hK.out _ _ ?_ (fun hHeld => ?_)
  · exact H1.out
  clear H1
  clear hK K
  (try simp only [Act.put, List.setIfInBounds_toArray, List.set_cons_zero, List.set_cons_succ])
  refine wpAnyH_take (i := 2) (oi := { dst := some 38, op := Op.binOp BinOp.eql 26 (Operand.tmp 37) (Operand.const (Value.int IntKind.i64 0)) 26, type := 4, pos := "law.go:24", after := #[{ on := 1, ground := Ground.data }], guard := none }) (v := ?_) rfl (by kernel_rfl) (by kernel_rfl) (by kernel_rfl) (fun _ _ _ h => h) (Or.inl ⟨by rfl, ?_⟩) (by assumption) ?_
  rotate_left
  · intro w hSw; (try dsimp only at hSw); obtain ⟨hz0, hz1, hz2, hz3, hz4, hz5⟩ := cells6 (HB.out.keep hSw HB.out.lt); go_simp; try with_reducible rfl
  (try simp only [Act.put, List.setIfInBounds_toArray, List.set_cons_zero, List.set_cons_succ])
  refine wpAnyH_take (i := 3) (oi := { dst := some 39, op := Op.move (Operand.tmp 38), type := 4, pos := "law.go:24", after := #[{ on := 2, ground := Ground.data }, { on := 1, ground := Ground.chain }], guard := none }) (v := ?_) rfl (by kernel_rfl) (by kernel_rfl) (by kernel_rfl) (fun _ _ _ h => h) (Or.inl ⟨by rfl, ?_⟩) (by assumption) ?_
  rotate_left
  · intro w hSw; (try dsimp only at hSw); obtain ⟨hz0, hz1, hz2, hz3, hz4, hz5⟩ := cells6 (HB.out.keep hSw HB.out.lt); go_simp; try with_reducible rfl
  (try simp only [Act.put, List.setIfInBounds_toArray, List.set_cons_zero, List.set_cons_succ])
  refine wpAnyH_take (i := 4) (oi := { dst := some 40, op := Op.move (Operand.tmp 2), type := 26, pos := "law.go:24", after := #[{ on := 3, ground := Ground.guard }], guard := some (3, true) }) (v := ?_) rfl (by kernel_rfl) (by kernel_rfl) (by kernel_rfl) (fun _ _ _ h => h) (Or.inl ⟨by rfl, ?_⟩) (by assumption) ?_
  rotate_left
  · intro w hSw; (try dsimp only at hSw); obtain ⟨hz0, hz1, hz2, hz3, hz4, hz5⟩ := cells6 (HB.out.keep hSw HB.out.lt); go_simp; try with_reducible rfl
  (try simp only [Act.put, List.setIfInBounds_toArray, List.set_cons_zero, List.set_cons_succ])
  refine wpAnyH_take (i := 5) (oi := { dst := some 41, op := Op.binOp BinOp.eql 26 (Operand.tmp 40) (Operand.const (Value.int IntKind.i64 0)) 26, type := 4, pos := "law.go:24", after := #[{ on := 4, ground := Ground.data }, { on := 3, ground := Ground.guard }], guard := some (3, true) }) (v := ?_) rfl (by kernel_rfl) (by kernel_rfl) (by kernel_rfl) (fun _ _ _ h => h) (Or.inl ⟨by rfl, ?_⟩) (by assumption) ?_
  rotate_left
  · intro w hSw; (try dsimp only at hSw); obtain ⟨hz0, hz1, hz2, hz3, hz4, hz5⟩ := cells6 (HB.out.keep hSw HB.out.lt); go_simp; try with_reducible rfl
  (try simp only [Act.put, List.setIfInBounds_toArray, List.set_cons_zero, List.set_cons_succ])
  refine wpAnyH_take (i := 6) (oi := { dst := some 42, op := Op.pick (Operand.tmp 39) (Operand.tmp 41) (Operand.const (Value.bool false)), type := 4, pos := "law.go:24", after := #[{ on := 3, ground := Ground.data }, { on := 5, ground := Ground.data }], guard := none }) (v := ?_) rfl (by kernel_rfl) (by kernel_rfl) (by kernel_rfl) (fun _ _ _ h => h) (Or.inl ⟨by rfl, ?_⟩) (by assumption) ?_
  rotate_left
  · intro w hSw; (try dsimp only at hSw); obtain ⟨hz0, hz1, hz2, hz3, hz4, hz5⟩ := cells6 (HB.out.keep hSw HB.out.lt); go_simp; try with_reducible rfl
  (try simp only [Act.put, List.setIfInBounds_toArray, List.set_cons_zero, List.set_cons_succ])
  refine wpAnyH_take (i := 7) (oi := { dst := some 43, op := Op.move (Operand.tmp 42), type := 4, pos := "law.go:24", after := #[{ on := 6, ground := Ground.data }, { on := 3, ground := Ground.chain }], guard := none }) (v := ?_) rfl (by kernel_rfl) (by kernel_rfl) (by kernel_rfl) (fun _ _ _ h => h) (Or.inl ⟨by rfl, ?_⟩) (by assumption) ?_
  rotate_left
  · intro w hSw; (try dsimp only at hSw); obtain ⟨hz0, hz1, hz2, hz3, hz4, hz5⟩ := cells6 (HB.out.keep hSw HB.out.lt); go_simp; try with_reducible rfl
  (try simp only [Act.put, List.setIfInBounds_toArray, List.set_cons_zero, List.set_cons_succ])
  refine wpAnyH_take (i := 8) (oi := { dst := some 44, op := Op.load 29 (Operand.tmp 1), type := 29, pos := "law.go:24", after := #[{ on := 7, ground := Ground.guard }], guard := some (7, true) }) (v := ?_) rfl (by kernel_rfl) (by kernel_rfl) (by kernel_rfl) (fun _ _ _ h => h) (Or.inl ⟨by rfl, ?_⟩) (by assumption) ?_
  rotate_left
  · intro w hSw; (try dsimp only at hSw); obtain ⟨hz0, hz1, hz2, hz3, hz4, hz5⟩ := cells6 (HB.out.keep hSw HB.out.lt); go_simp; try with_reducible rfl
  (try simp only [Act.put, List.setIfInBounds_toArray, List.set_cons_zero, List.set_cons_succ])
  refine wpAnyH_take (i := 9) (oi := { dst := some 45, op := Op.build 29 #[(0, Operand.const (Value.int IntKind.i64 1)), (1, Operand.const (Value.int IntKind.i64 2))], type := 29, pos := "law.go:24", after := #[{ on := 7, ground := Ground.guard }], guard := some (7, true) }) (v := ?_) rfl (by kernel_rfl) (by kernel_rfl) (by kernel_rfl) (fun _ _ _ h => h) (Or.inl ⟨by rfl, ?_⟩) (by assumption) ?_
  rotate_left
  · intro w hSw; (try dsimp only at hSw); obtain ⟨hz0, hz1, hz2, hz3, hz4, hz5⟩ := cells6 (HB.out.keep hSw HB.out.lt); go_simp; try with_reducible rfl
  (try simp only [Act.put, List.setIfInBounds_toArray, List.set_cons_zero, List.set_cons_succ])
  refine wpAnyH_take (i := 10) (oi := { dst := some 46, op := Op.binOp BinOp.eql 29 (Operand.tmp 44) (Operand.tmp 45) 29, type := 4, pos := "law.go:24", after := #[{ on := 8, ground := Ground.data }, { on := 9, ground := Ground.data }, { on := 7, ground := Ground.guard }], guard := some (7, true) }) (v := ?_) rfl (by kernel_rfl) (by kernel_rfl) (by kernel_rfl) (fun _ _ _ h => h) (Or.inl ⟨by rfl, ?_⟩) (by assumption) ?_
  rotate_left
  · intro w hSw; (try dsimp only at hSw); obtain ⟨hz0, hz1, hz2, hz3, hz4, hz5⟩ := cells6 (HB.out.keep hSw HB.out.lt); go_simp; try with_reducible rfl
  (try simp only [Act.put, List.setIfInBounds_toArray, List.set_cons_zero, List.set_cons_succ])
  refine wpAnyH_take (i := 11) (oi := { dst := some 47, op := Op.pick (Operand.tmp 43) (Operand.tmp 46) (Operand.const (Value.bool false)), type := 4, pos := "law.go:24", after := #[{ on := 7, ground := Ground.data }, { on := 10, ground := Ground.data }], guard := none }) (v := ?_) rfl (by kernel_rfl) (by kernel_rfl) (by kernel_rfl) (fun _ _ _ h => h) (Or.inl ⟨by rfl, ?_⟩) (by assumption) ?_
  rotate_left
  · intro w hSw; (try dsimp only at hSw); obtain ⟨hz0, hz1, hz2, hz3, hz4, hz5⟩ := cells6 (HB.out.keep hSw HB.out.lt); go_simp; try with_reducible rfl
  (try simp only [Act.put, List.setIfInBounds_toArray, List.set_cons_zero, List.set_cons_succ])
  refine wpAnyH_take (i := 12) (oi := { dst := some 48, op := Op.move (Operand.tmp 47), type := 4, pos := "law.go:24", after := #[{ on := 11, ground := Ground.data }, { on := 7, ground := Ground.chain }], guard := none }) (v := ?_) rfl (by kernel_rfl) (by kernel_rfl) (by kernel_rfl) (fun _ _ _ h => h) (Or.inl ⟨by rfl, ?_⟩) (by assumption) ?_
  rotate_left
  · intro w hSw; (try dsimp only at hSw); obtain ⟨hz0, hz1, hz2, hz3, hz4, hz5⟩ := cells6 (HB.out.keep hSw HB.out.lt); go_simp; try with_reducible rfl
  (try simp only [Act.put, List.setIfInBounds_toArray, List.set_cons_zero, List.set_cons_succ])
  refine wpAnyH_take (i := 13) (oi := { dst := some 49, op := Op.move (Operand.tmp 4), type := 26, pos := "law.go:24", after := #[{ on := 12, ground := Ground.guard }], guard := some (12, true) }) (v := ?_) rfl (by kernel_rfl) (by kernel_rfl) (by kernel_rfl) (fun _ _ _ h => h) (Or.inl ⟨by rfl, ?_⟩) (by assumption) ?_
  rotate_left
  · intro w hSw; (try dsimp only at hSw); obtain ⟨hz0, hz1, hz2, hz3, hz4, hz5⟩ := cells6 (HB.out.keep hSw HB.out.lt); go_simp; try with_reducible rfl
  (try simp only [Act.put, List.setIfInBounds_toArray, List.set_cons_zero, List.set_cons_succ])
  refine wpAnyH_take (i := 14) (oi := { dst := some 50, op := Op.binOp BinOp.eql 26 (Operand.tmp 49) (Operand.const (Value.int IntKind.i64 4)) 26, type := 4, pos := "law.go:24", after := #[{ on := 13, ground := Ground.data }, { on := 12, ground := Ground.guard }], guard := some (12, true) }) (v := ?_) rfl (by kernel_rfl) (by kernel_rfl) (by kernel_rfl) (fun _ _ _ h => h) (Or.inl ⟨by rfl, ?_⟩) (by assumption) ?_
  rotate_left
  · intro w hSw; (try dsimp only at hSw); obtain ⟨hz0, hz1, hz2, hz3, hz4, hz5⟩ := cells6 (HB.out.keep hSw HB.out.lt); go_simp; try with_reducible rfl
  (try simp only [Act.put, List.setIfInBounds_toArray, List.set_cons_zero, List.set_cons_succ])
  refine wpAnyH_take (i := 15) (oi := { dst := some 51, op := Op.pick (Operand.tmp 48) (Operand.tmp 50) (Operand.const (Value.bool false)), type := 4, pos := "law.go:24", after := #[{ on := 12, ground := Ground.data }, { on := 14, ground := Ground.data }], guard := none }) (v := ?_) rfl (by kernel_rfl) (by kernel_rfl) (by kernel_rfl) (fun _ _ _ h => h) (Or.inl ⟨by rfl, ?_⟩) (by assumption) ?_
  rotate_left
  · intro w hSw; (try dsimp only at hSw); obtain ⟨hz0, hz1, hz2, hz3, hz4, hz5⟩ := cells6 (HB.out.keep hSw HB.out.lt); go_simp; try with_reducible rfl
  (try simp only [Act.put, List.setIfInBounds_toArray, List.set_cons_zero, List.set_cons_succ])
  refine wpAnyH_take (i := 16) (oi := { dst := some 52, op := Op.move (Operand.tmp 51), type := 4, pos := "law.go:24", after := #[{ on := 15, ground := Ground.data }, { on := 12, ground := Ground.chain }], guard := none }) (v := ?_) rfl (by kernel_rfl) (by kernel_rfl) (by kernel_rfl) (fun _ _ _ h => h) (Or.inl ⟨by rfl, ?_⟩) (by assumption) ?_
  rotate_left
  · intro w hSw; (try dsimp only at hSw); obtain ⟨hz0, hz1, hz2, hz3, hz4, hz5⟩ := cells6 (HB.out.keep hSw HB.out.lt); go_simp; try with_reducible rfl
  (try simp only [Act.put, List.setIfInBounds_toArray, List.set_cons_zero, List.set_cons_succ])
  refine wpAnyH_take (i := 17) (oi := { dst := some 53, op := Op.move (Operand.tmp 6), type := 26, pos := "law.go:24", after := #[{ on := 16, ground := Ground.guard }], guard := some (16, true) }) (v := ?_) rfl (by kernel_rfl) (by kernel_rfl) (by kernel_rfl) (fun _ _ _ h => h) (Or.inl ⟨by rfl, ?_⟩) (by assumption) ?_
  rotate_left
  · intro w hSw; (try dsimp only at hSw); obtain ⟨hz0, hz1, hz2, hz3, hz4, hz5⟩ := cells6 (HB.out.keep hSw HB.out.lt); go_simp; try with_reducible rfl
  (try simp only [Act.put, List.setIfInBounds_toArray, List.set_cons_zero, List.set_cons_succ])
  refine wpAnyH_take (i := 18) (oi := { dst := some 54, op := Op.binOp BinOp.eql 26 (Operand.tmp 53) (Operand.const (Value.int IntKind.i64 7)) 26, type := 4, pos := "law.go:24", after := #[{ on := 17, ground := Ground.data }, { on := 16, ground := Ground.guard }], guard := some (16, true) }) (v := ?_) rfl (by kernel_rfl) (by kernel_rfl) (by kernel_rfl) (fun _ _ _ h => h) (Or.inl ⟨by rfl, ?_⟩) (by assumption) ?_
  rotate_left
  · intro w hSw; (try dsimp only at hSw); obtain ⟨hz0, hz1, hz2, hz3, hz4, hz5⟩ := cells6 (HB.out.keep hSw HB.out.lt); go_simp; try with_reducible rfl
  (try simp only [Act.put, List.setIfInBounds_toArray, List.set_cons_zero, List.set_cons_succ])
  refine wpAnyH_take (i := 19) (oi := { dst := some 55, op := Op.pick (Operand.tmp 52) (Operand.tmp 54) (Operand.const (Value.bool false)), type := 4, pos := "law.go:24", after := #[{ on := 16, ground := Ground.data }, { on := 18, ground := Ground.data }], guard := none }) (v := ?_) rfl (by kernel_rfl) (by kernel_rfl) (by kernel_rfl) (fun _ _ _ h => h) (Or.inl ⟨by rfl, ?_⟩) (by assumption) ?_
  rotate_left
  · intro w hSw; (try dsimp only at hSw); obtain ⟨hz0, hz1, hz2, hz3, hz4, hz5⟩ := cells6 (HB.out.keep hSw HB.out.lt); go_simp; try with_reducible rfl
  (try simp only [Act.put, List.setIfInBounds_toArray, List.set_cons_zero, List.set_cons_succ])
  refine wpAnyH_take (i := 20) (oi := { dst := some 56, op := Op.move (Operand.tmp 55), type := 4, pos := "law.go:24", after := #[{ on := 19, ground := Ground.data }, { on := 16, ground := Ground.chain }], guard := none }) (v := ?_) rfl (by kernel_rfl) (by kernel_rfl) (by kernel_rfl) (fun _ _ _ h => h) (Or.inl ⟨by rfl, ?_⟩) (by assumption) ?_
  rotate_left
  · intro w hSw; (try dsimp only at hSw); obtain ⟨hz0, hz1, hz2, hz3, hz4, hz5⟩ := cells6 (HB.out.keep hSw HB.out.lt); go_simp; try with_reducible rfl
  (try simp only [Act.put, List.setIfInBounds_toArray, List.set_cons_zero, List.set_cons_succ])
  refine wpAnyH_take (i := 21) (oi := { dst := some 57, op := Op.move (Operand.tmp 8), type := 26, pos := "law.go:24", after := #[{ on := 20, ground := Ground.guard }], guard := some (20, true) }) (v := ?_) rfl (by kernel_rfl) (by kernel_rfl) (by kernel_rfl) (fun _ _ _ h => h) (Or.inl ⟨by rfl, ?_⟩) (by assumption) ?_
  rotate_left
  · intro w hSw; (try dsimp only at hSw); obtain ⟨hz0, hz1, hz2, hz3, hz4, hz5⟩ := cells6 (HB.out.keep hSw HB.out.lt); go_simp; try with_reducible rfl
  (try simp only [Act.put, List.setIfInBounds_toArray, List.set_cons_zero, List.set_cons_succ])
  refine wpAnyH_take (i := 22) (oi := { dst := some 58, op := Op.binOp BinOp.eql 26 (Operand.tmp 57) (Operand.const (Value.int IntKind.i64 1)) 26, type := 4, pos := "law.go:24", after := #[{ on := 21, ground := Ground.data }, { on := 20, ground := Ground.guard }], guard := some (20, true) }) (v := ?_) rfl (by kernel_rfl) (by kernel_rfl) (by kernel_rfl) (fun _ _ _ h => h) (Or.inl ⟨by rfl, ?_⟩) (by assumption) ?_
  rotate_left
  · intro w hSw; (try dsimp only at hSw); obtain ⟨hz0, hz1, hz2, hz3, hz4, hz5⟩ := cells6 (HB.out.keep hSw HB.out.lt); go_simp; try with_reducible rfl
  (try simp only [Act.put, List.setIfInBounds_toArray, List.set_cons_zero, List.set_cons_succ])
  refine wpAnyH_take (i := 23) (oi := { dst := some 59, op := Op.pick (Operand.tmp 56) (Operand.tmp 58) (Operand.const (Value.bool false)), type := 4, pos := "law.go:24", after := #[{ on := 20, ground := Ground.data }, { on := 22, ground := Ground.data }], guard := none }) (v := ?_) rfl (by kernel_rfl) (by kernel_rfl) (by kernel_rfl) (fun _ _ _ h => h) (Or.inl ⟨by rfl, ?_⟩) (by assumption) ?_
  rotate_left
  · intro w hSw; (try dsimp only at hSw); obtain ⟨hz0, hz1, hz2, hz3, hz4, hz5⟩ := cells6 (HB.out.keep hSw HB.out.lt); go_simp; try with_reducible rfl
  (try simp only [Act.put, List.setIfInBounds_toArray, List.set_cons_zero, List.set_cons_succ])
  refine wpAnyH_take (i := 24) (oi := { dst := some 60, op := Op.move (Operand.tmp 59), type := 4, pos := "law.go:24", after := #[{ on := 23, ground := Ground.data }, { on := 20, ground := Ground.chain }], guard := none }) (v := ?_) rfl (by kernel_rfl) (by kernel_rfl) (by kernel_rfl) (fun _ _ _ h => h) (Or.inl ⟨by rfl, ?_⟩) (by assumption) ?_
  rotate_left
  · intro w hSw; (try dsimp only at hSw); obtain ⟨hz0, hz1, hz2, hz3, hz4, hz5⟩ := cells6 (HB.out.keep hSw HB.out.lt); go_simp; try with_reducible rfl
  (try simp only [Act.put, List.setIfInBounds_toArray, List.set_cons_zero, List.set_cons_succ])
  refine wpAnyH_take (i := 25) (oi := { dst := some 61, op := Op.move (Operand.tmp 9), type := 3, pos := "law.go:24", after := #[{ on := 24, ground := Ground.guard }], guard := some (24, true) }) (v := ?_) rfl (by kernel_rfl) (by kernel_rfl) (by kernel_rfl) (fun _ _ _ h => h) (Or.inl ⟨by rfl, ?_⟩) (by assumption) ?_
  rotate_left
  · intro w hSw; (try dsimp only at hSw); obtain ⟨hz0, hz1, hz2, hz3, hz4, hz5⟩ := cells6 (HB.out.keep hSw HB.out.lt); go_simp; try with_reducible rfl
  (try simp only [Act.put, List.setIfInBounds_toArray, List.set_cons_zero, List.set_cons_succ])
  refine wpAnyH_take (i := 26) (oi := { dst := some 62, op := Op.binOp BinOp.eql 3 (Operand.tmp 61) (Operand.const (Value.int IntKind.i64 1)) 3, type := 4, pos := "law.go:24", after := #[{ on := 25, ground := Ground.data }, { on := 24, ground := Ground.guard }], guard := some (24, true) }) (v := ?_) rfl (by kernel_rfl) (by kernel_rfl) (by kernel_rfl) (fun _ _ _ h => h) (Or.inl ⟨by rfl, ?_⟩) (by assumption) ?_
  rotate_left
  · intro w hSw; (try dsimp only at hSw); obtain ⟨hz0, hz1, hz2, hz3, hz4, hz5⟩ := cells6 (HB.out.keep hSw HB.out.lt); go_simp; try with_reducible rfl
  (try simp only [Act.put, List.setIfInBounds_toArray, List.set_cons_zero, List.set_cons_succ])
  refine wpAnyH_take (i := 27) (oi := { dst := some 63, op := Op.pick (Operand.tmp 60) (Operand.tmp 62) (Operand.const (Value.bool false)), type := 4, pos := "law.go:24", after := #[{ on := 24, ground := Ground.data }, { on := 26, ground := Ground.data }], guard := none }) (v := ?_) rfl (by kernel_rfl) (by kernel_rfl) (by kernel_rfl) (fun _ _ _ h => h) (Or.inl ⟨by rfl, ?_⟩) (by assumption) ?_
  rotate_left
  · intro w hSw; (try dsimp only at hSw); obtain ⟨hz0, hz1, hz2, hz3, hz4, hz5⟩ := cells6 (HB.out.keep hSw HB.out.lt); go_simp; try with_reducible rfl
  (try simp only [Act.put, List.setIfInBounds_toArray, List.set_cons_zero, List.set_cons_succ])
  refine wpAnyH_take (i := 28) (oi := { dst := some 64, op := Op.move (Operand.tmp 63), type := 4, pos := "law.go:24", after := #[{ on := 27, ground := Ground.data }, { on := 24, ground := Ground.chain }], guard := none }) (v := ?_) rfl (by kernel_rfl) (by kernel_rfl) (by kernel_rfl) (fun _ _ _ h => h) (Or.inl ⟨by rfl, ?_⟩) (by assumption) ?_
  rotate_left
  · intro w hSw; (try dsimp only at hSw); obtain ⟨hz0, hz1, hz2, hz3, hz4, hz5⟩ := cells6 (HB.out.keep hSw HB.out.lt); go_simp; try with_reducible rfl
  (try simp only [Act.put, List.setIfInBounds_toArray, List.set_cons_zero, List.set_cons_succ])
  refine wpAnyH_take (i := 29) (oi := { dst := some 65, op := Op.move (Operand.tmp 10), type := 4, pos := "law.go:24", after := #[{ on := 28, ground := Ground.guard }], guard := some (28, true) }) (v := ?_) rfl (by kernel_rfl) (by kernel_rfl) (by kernel_rfl) (fun _ _ _ h => h) (Or.inl ⟨by rfl, ?_⟩) (by assumption) ?_
  rotate_left
  · intro w hSw; (try dsimp only at hSw); obtain ⟨hz0, hz1, hz2, hz3, hz4, hz5⟩ := cells6 (HB.out.keep hSw HB.out.lt); go_simp; try with_reducible rfl
  (try simp only [Act.put, List.setIfInBounds_toArray, List.set_cons_zero, List.set_cons_succ])
  refine wpAnyH_take (i := 30) (oi := { dst := some 66, op := Op.pick (Operand.tmp 64) (Operand.tmp 65) (Operand.const (Value.bool false)), type := 4, pos := "law.go:24", after := #[{ on := 28, ground := Ground.data }, { on := 29, ground := Ground.data }], guard := none }) (v := ?_) rfl (by kernel_rfl) (by kernel_rfl) (by kernel_rfl) (fun _ _ _ h => h) (Or.inl ⟨by rfl, ?_⟩) (by assumption) ?_
  rotate_left
  · intro w hSw; (try dsimp only at hSw); obtain ⟨hz0, hz1, hz2, hz3, hz4, hz5⟩ := cells6 (HB.out.keep hSw HB.out.lt); go_simp; try with_reducible rfl
  (try simp only [Act.put, List.setIfInBounds_toArray, List.set_cons_zero, List.set_cons_succ])
  refine wpAnyH_take (i := 31) (oi := { dst := some 67, op := Op.move (Operand.tmp 66), type := 4, pos := "law.go:24", after := #[{ on := 30, ground := Ground.data }, { on := 28, ground := Ground.chain }], guard := none }) (v := ?_) rfl (by kernel_rfl) (by kernel_rfl) (by kernel_rfl) (fun _ _ _ h => h) (Or.inl ⟨by rfl, ?_⟩) (by assumption) ?_
  rotate_left
  · intro w hSw; (try dsimp only at hSw); obtain ⟨hz0, hz1, hz2, hz3, hz4, hz5⟩ := cells6 (HB.out.keep hSw HB.out.lt); go_simp; try with_reducible rfl
  (try simp only [Act.put, List.setIfInBounds_toArray, List.set_cons_zero, List.set_cons_succ])
  refine wpAnyH_take (i := 33) (oi := { dst := some 69, op := Op.load 29 (Operand.tmp 1), type := 29, pos := "law.go:24", after := #[{ on := 31, ground := Ground.guard }], guard := some (31, true) }) (v := ?_) rfl (by kernel_rfl) (by kernel_rfl) (by kernel_rfl) (fun _ _ _ h => h) (Or.inl ⟨by rfl, ?_⟩) (by assumption) ?_
  rotate_left
  · intro w hSw; (try dsimp only at hSw); obtain ⟨hz0, hz1, hz2, hz3, hz4, hz5⟩ := cells6 (HB.out.keep hSw HB.out.lt); go_simp; try with_reducible rfl
  (try simp only [Act.put, List.setIfInBounds_toArray, List.set_cons_zero, List.set_cons_succ])
  refine wpAnyH_ready (rs := [32]) (by kernel_rfl) (by simp) ?_
  refine AllReadyH.cons (o := { dst := some 68, op := Op.call { callee := Callee.value (Operand.func 35), args := #[], argTypes := #[] }, type := 22, pos := "law.go:24", after := #[{ on := 31, ground := Ground.chain }, { on := 31, ground := Ground.guard }], guard := some (31, true) }) rfl (fun K hK => ?_) AllReadyH.nil
  go_simp
  refine (two_any _).mono ?_
  rintro q2 v2 ⟨A2, n2, c2, rfl, hp2, hb2⟩
  have P2 := Lib.hid hp2
  have H2 := Lib.hid (hHeld.trans (hb2.mono hHeld.size))
  clear hp2 hb2 hHeld
  refine hK.out _ _ ?_ (fun hHeld => ?_)
  · exact H2.out
  clear H2
  clear hK K
  (try simp only [Act.put, List.setIfInBounds_toArray, List.set_cons_zero, List.set_cons_succ])
  refine wpAnyH_ready (rs := [34]) (by kernel_rfl) (by simp) ?_
  refine AllReadyH.cons (o := { dst := some 70, op := Op.call { callee := Callee.value (Operand.func 18), args := #[Operand.tmp 68, Operand.tmp 69], argTypes := #[22, 29] }, type := 3, pos := "law.go:24", after := #[{ on := 32, ground := Ground.data }, { on := 33, ground := Ground.data }, { on := 32, ground := Ground.chain }, { on := 31, ground := Ground.guard }], guard := some (31, true) }) rfl (fun K hK => ?_) AllReadyH.nil
  go_simp
  refine (w_points A2 n2 c2 _ P2.out).mono ?_
  rintro q2' v2' ⟨rfl, hb2⟩
  have H2 := Lib.hid (hHeld.trans (hb2.mono hHeld.size))
  clear hb2 hHeld P2
  refine hK.out _ _ ?_ (fun hHeld => ?_)
  · exact H2.out
  clear H2
  clear hK K
  (try simp only [Act.put, List.setIfInBounds_toArray, List.set_cons_zero, List.set_cons_succ])
  refine wpAnyH_take (i := 35) (oi := { dst := some 71, op := Op.binOp BinOp.eql 3 (Operand.tmp 70) (Operand.const (Value.int IntKind.i64 8)) 3, type := 4, pos := "law.go:24", after := #[{ on := 34, ground := Ground.data }, { on := 31, ground := Ground.guard }], guard := some (31, true) }) (v := ?_) rfl (by kernel_rfl) (by kernel_rfl) (by kernel_rfl) (fun _ _ _ h => h) (Or.inl ⟨by rfl, ?_⟩) (by assumption) ?_
  rotate_left
  · intro w hSw; (try dsimp only at hSw); obtain ⟨hz0, hz1, hz2, hz3, hz4, hz5⟩ := cells6 (HB.out.keep hSw HB.out.lt); go_simp; try with_reducible rfl
  (try simp only [Act.put, List.setIfInBounds_toArray, List.set_cons_zero, List.set_cons_succ])
  refine wpAnyH_take (i := 36) (oi := { dst := some 72, op := Op.pick (Operand.tmp 67) (Operand.tmp 71) (Operand.const (Value.bool false)), type := 4, pos := "law.go:24", after := #[{ on := 31, ground := Ground.data }, { on := 35, ground := Ground.data }], guard := none }) (v := ?_) rfl (by kernel_rfl) (by kernel_rfl) (by kernel_rfl) (fun _ _ _ h => h) (Or.inl ⟨by rfl, ?_⟩) (by assumption) ?_
  rotate_left
  · intro w hSw; (try dsimp only at hSw); obtain ⟨hz0, hz1, hz2, hz3, hz4, hz5⟩ := cells6 (HB.out.keep hSw HB.out.lt); go_simp; try with_reducible rfl
  (try simp only [Act.put, List.setIfInBounds_toArray, List.set_cons_zero, List.set_cons_succ])
  refine wpAnyH_take (i := 37) (oi := { dst := some 73, op := Op.move (Operand.tmp 72), type := 4, pos := "law.go:24", after := #[{ on := 36, ground := Ground.data }, { on := 34, ground := Ground.chain }], guard := none }) (v := ?_) rfl (by kernel_rfl) (by kernel_rfl) (by kernel_rfl) (fun _ _ _ h => h) (Or.inl ⟨by rfl, ?_⟩) (by assumption) ?_
  rotate_left
  · intro w hSw; (try dsimp only at hSw); obtain ⟨hz0, hz1, hz2, hz3, hz4, hz5⟩ := cells6 (HB.out.keep hSw HB.out.lt); go_simp; try with_reducible rfl
  (try simp only [Act.put, List.setIfInBounds_toArray, List.set_cons_zero, List.set_cons_succ])
  refine wpAnyH_take (i := 39) (oi := { dst := some 75, op := Op.load 29 (Operand.tmp 1), type := 29, pos := "law.go:24", after := #[{ on := 37, ground := Ground.guard }], guard := some (37, true) }) (v := ?_) rfl (by kernel_rfl) (by kernel_rfl) (by kernel_rfl) (fun _ _ _ h => h) (Or.inl ⟨by rfl, ?_⟩) (by assumption) ?_
  rotate_left
  · intro w hSw; (try dsimp only at hSw); obtain ⟨hz0, hz1, hz2, hz3, hz4, hz5⟩ := cells6 (HB.out.keep hSw HB.out.lt); go_simp; try with_reducible rfl
  (try simp only [Act.put, List.setIfInBounds_toArray, List.set_cons_zero, List.set_cons_succ])
  refine wpAnyH_ready (rs := [38]) (by kernel_rfl) (by simp) ?_
  refine AllReadyH.cons (o := { dst := some 74, op := Op.call { callee := Callee.value (Operand.func 35), args := #[], argTypes := #[] }, type := 22, pos := "law.go:24", after := #[{ on := 37, ground := Ground.chain }, { on := 37, ground := Ground.guard }], guard := some (37, true) }) rfl (fun K hK => ?_) AllReadyH.nil
  go_simp
  refine (two_any _).mono ?_
  rintro q3 v3 ⟨A3, n3, c3, rfl, hp3, hb3⟩
  have P3 := Lib.hid hp3
  have H3 := Lib.hid (hHeld.trans (hb3.mono hHeld.size))
  clear hp3 hb3 hHeld
  refine hK.out _ _ ?_ (fun hHeld => ?_)
  · exact H3.out
  clear H3
  clear hK K
  (try simp only [Act.put, List.setIfInBounds_toArray, List.set_cons_zero, List.set_cons_succ])
  refine wpAnyH_ready (rs := [40]) (by kernel_rfl) (by simp) ?_
  refine AllReadyH.cons (o := { dst := some 76, op := Op.call { callee := Callee.value (Operand.func 19), args := #[Operand.tmp 74, Operand.tmp 75], argTypes := #[22, 29] }, type := 2, pos := "law.go:24", after := #[{ on := 38, ground := Ground.data }, { on := 39, ground := Ground.data }, { on := 38, ground := Ground.chain }, { on := 37, ground := Ground.guard }], guard := some (37, true) }) rfl (fun K hK => ?_) AllReadyH.nil
  go_simp
  refine (w_reserve A3 n3 c3 _ P3.out).mono ?_
  rintro q3' v3' ⟨rfl, hb3⟩
  have H3 := Lib.hid (hHeld.trans (hb3.mono hHeld.size))
  clear hb3 hHeld P3
  refine hK.out _ _ ?_ (fun hHeld => ?_)
  · exact H3.out
  clear H3
  clear hK K
  (try simp only [Act.put, List.setIfInBounds_toArray, List.set_cons_zero, List.set_cons_succ])
  refine wpAnyH_take (i := 41) (oi := { dst := some 77, op := Op.binOp BinOp.eql 2 (Operand.tmp 76) (Operand.const (Value.int IntKind.i64 10)) 2, type := 4, pos := "law.go:24", after := #[{ on := 40, ground := Ground.data }, { on := 37, ground := Ground.guard }], guard := some (37, true) }) (v := ?_) rfl (by kernel_rfl) (by kernel_rfl) (by kernel_rfl) (fun _ _ _ h => h) (Or.inl ⟨by rfl, ?_⟩) (by assumption) ?_
  rotate_left
  · intro w hSw; (try dsimp only at hSw); obtain ⟨hz0, hz1, hz2, hz3, hz4, hz5⟩ := cells6 (HB.out.keep hSw HB.out.lt); go_simp; try with_reducible rfl
  (try simp only [Act.put, List.setIfInBounds_toArray, List.set_cons_zero, List.set_cons_succ])
  refine wpAnyH_take (i := 42) (oi := { dst := some 78, op := Op.pick (Operand.tmp 73) (Operand.tmp 77) (Operand.const (Value.bool false)), type := 4, pos := "law.go:24", after := #[{ on := 37, ground := Ground.data }, { on := 41, ground := Ground.data }], guard := none }) (v := ?_) rfl (by kernel_rfl) (by kernel_rfl) (by kernel_rfl) (fun _ _ _ h => h) (Or.inl ⟨by rfl, ?_⟩) (by assumption) ?_
  rotate_left
  · intro w hSw; (try dsimp only at hSw); obtain ⟨hz0, hz1, hz2, hz3, hz4, hz5⟩ := cells6 (HB.out.keep hSw HB.out.lt); go_simp; try with_reducible rfl
  (try simp only [Act.put, List.setIfInBounds_toArray, List.set_cons_zero, List.set_cons_succ])
  refine wpAnyH_take (i := 43) (oi := { dst := some 79, op := Op.move (Operand.tmp 78), type := 4, pos := "law.go:24", after := #[{ on := 42, ground := Ground.data }, { on := 40, ground := Ground.chain }], guard := none }) (v := ?_) rfl (by kernel_rfl) (by kernel_rfl) (by kernel_rfl) (fun _ _ _ h => h) (Or.inl ⟨by rfl, ?_⟩) (by assumption) ?_
  rotate_left
  · intro w hSw; (try dsimp only at hSw); obtain ⟨hz0, hz1, hz2, hz3, hz4, hz5⟩ := cells6 (HB.out.keep hSw HB.out.lt); go_simp; try with_reducible rfl
  (try simp only [Act.put, List.setIfInBounds_toArray, List.set_cons_zero, List.set_cons_succ])
  refine wpAnyH_take (i := 45) (oi := { dst := some 81, op := Op.load 29 (Operand.tmp 1), type := 29, pos := "law.go:24", after := #[{ on := 43, ground := Ground.guard }], guard := some (43, true) }) (v := ?_) rfl (by kernel_rfl) (by kernel_rfl) (by kernel_rfl) (fun _ _ _ h => h) (Or.inl ⟨by rfl, ?_⟩) (by assumption) ?_
  rotate_left
  · intro w hSw; (try dsimp only at hSw); obtain ⟨hz0, hz1, hz2, hz3, hz4, hz5⟩ := cells6 (HB.out.keep hSw HB.out.lt); go_simp; try with_reducible rfl
  (try simp only [Act.put, List.setIfInBounds_toArray, List.set_cons_zero, List.set_cons_succ])
  refine wpAnyH_ready (rs := [44]) (by kernel_rfl) (by simp) ?_
  refine AllReadyH.cons (o := { dst := some 80, op := Op.call { callee := Callee.value (Operand.func 35), args := #[], argTypes := #[] }, type := 22, pos := "law.go:24", after := #[{ on := 43, ground := Ground.chain }, { on := 43, ground := Ground.guard }], guard := some (43, true) }) rfl (fun K hK => ?_) AllReadyH.nil
  go_simp
  refine (two_any _).mono ?_
  rintro q4 v4 ⟨A4, n4, c4, rfl, hp4, hb4⟩
  have P4 := Lib.hid hp4
  have H4 := Lib.hid (hHeld.trans (hb4.mono hHeld.size))
  clear hp4 hb4 hHeld
  refine hK.out _ _ ?_ (fun hHeld => ?_)
  · exact H4.out
  clear H4
  clear hK K
  (try simp only [Act.put, List.setIfInBounds_toArray, List.set_cons_zero, List.set_cons_succ])
  refine wpAnyH_ready (rs := [46]) (by kernel_rfl) (by simp) ?_
  refine AllReadyH.cons (o := { dst := some 82, op := Op.call { callee := Callee.value (Operand.func 20), args := #[Operand.tmp 80, Operand.const (Value.int IntKind.i64 1), Operand.tmp 81], argTypes := #[22, 3, 29] }, type := 3, pos := "law.go:24", after := #[{ on := 44, ground := Ground.data }, { on := 45, ground := Ground.data }, { on := 44, ground := Ground.chain }, { on := 43, ground := Ground.guard }], guard := some (43, true) }) rfl (fun K hK => ?_) AllReadyH.nil
  go_simp
  refine (w_units A4 n4 c4 _ P4.out).mono ?_
  rintro q4' v4' ⟨rfl, hb4⟩
  have H4 := Lib.hid (hHeld.trans (hb4.mono hHeld.size))
  clear hb4 hHeld P4
  refine hK.out _ _ ?_ (fun hHeld => ?_)
  · exact H4.out
  clear H4
  clear hK K
  (try simp only [Act.put, List.setIfInBounds_toArray, List.set_cons_zero, List.set_cons_succ])
  refine wpAnyH_take (i := 47) (oi := { dst := some 83, op := Op.binOp BinOp.eql 3 (Operand.tmp 82) (Operand.const (Value.int IntKind.i64 2)) 3, type := 4, pos := "law.go:24", after := #[{ on := 46, ground := Ground.data }, { on := 43, ground := Ground.guard }], guard := some (43, true) }) (v := ?_) rfl (by kernel_rfl) (by kernel_rfl) (by kernel_rfl) (fun _ _ _ h => h) (Or.inl ⟨by rfl, ?_⟩) (by assumption) ?_
  rotate_left
  · intro w hSw; (try dsimp only at hSw); obtain ⟨hz0, hz1, hz2, hz3, hz4, hz5⟩ := cells6 (HB.out.keep hSw HB.out.lt); go_simp; try with_reducible rfl
  (try simp only [Act.put, List.setIfInBounds_toArray, List.set_cons_zero, List.set_cons_succ])
  refine wpAnyH_take (i := 48) (oi := { dst := some 84, op := Op.pick (Operand.tmp 79) (Operand.tmp 83) (Operand.const (Value.bool false)), type := 4, pos := "law.go:24", after := #[{ on := 43, ground := Ground.data }, { on := 47, ground := Ground.data }], guard := none }) (v := ?_) rfl (by kernel_rfl) (by kernel_rfl) (by kernel_rfl) (fun _ _ _ h => h) (Or.inl ⟨by rfl, ?_⟩) (by assumption) ?_
  rotate_left
  · intro w hSw; (try dsimp only at hSw); obtain ⟨hz0, hz1, hz2, hz3, hz4, hz5⟩ := cells6 (HB.out.keep hSw HB.out.lt); go_simp; try with_reducible rfl
  (try simp only [Act.put, List.setIfInBounds_toArray, List.set_cons_zero, List.set_cons_succ])
  refine wpAnyH_take (i := 49) (oi := { dst := some 85, op := Op.move (Operand.tmp 84), type := 4, pos := "law.go:24", after := #[{ on := 48, ground := Ground.data }, { on := 46, ground := Ground.chain }], guard := none }) (v := ?_) rfl (by kernel_rfl) (by kernel_rfl) (by kernel_rfl) (fun _ _ _ h => h) (Or.inl ⟨by rfl, ?_⟩) (by assumption) ?_
  rotate_left
  · intro w hSw; (try dsimp only at hSw); obtain ⟨hz0, hz1, hz2, hz3, hz4, hz5⟩ := cells6 (HB.out.keep hSw HB.out.lt); go_simp; try with_reducible rfl
  (try simp only [Act.put, List.setIfInBounds_toArray, List.set_cons_zero, List.set_cons_succ])
  refine wpAnyH_take (i := 51) (oi := { dst := some 87, op := Op.load 29 (Operand.tmp 1), type := 29, pos := "law.go:24", after := #[{ on := 49, ground := Ground.guard }], guard := some (49, true) }) (v := ?_) rfl (by kernel_rfl) (by kernel_rfl) (by kernel_rfl) (fun _ _ _ h => h) (Or.inl ⟨by rfl, ?_⟩) (by assumption) ?_
  rotate_left
  · intro w hSw; (try dsimp only at hSw); obtain ⟨hz0, hz1, hz2, hz3, hz4, hz5⟩ := cells6 (HB.out.keep hSw HB.out.lt); go_simp; try with_reducible rfl
  (try simp only [Act.put, List.setIfInBounds_toArray, List.set_cons_zero, List.set_cons_succ])
  refine wpAnyH_ready (rs := [50]) (by kernel_rfl) (by simp) ?_
  refine AllReadyH.cons (o := { dst := some 86, op := Op.call { callee := Callee.value (Operand.func 35), args := #[], argTypes := #[] }, type := 22, pos := "law.go:24", after := #[{ on := 49, ground := Ground.chain }, { on := 49, ground := Ground.guard }], guard := some (49, true) }) rfl (fun K hK => ?_) AllReadyH.nil
  go_simp
  refine (two_any _).mono ?_
  rintro q5 v5 ⟨A5, n5, c5, rfl, hp5, hb5⟩
  have P5 := Lib.hid hp5
  have H5 := Lib.hid (hHeld.trans (hb5.mono hHeld.size))
  clear hp5 hb5 hHeld
  refine hK.out _ _ ?_ (fun hHeld => ?_)
  · exact H5.out
  clear H5
  clear hK K
  (try simp only [Act.put, List.setIfInBounds_toArray, List.set_cons_zero, List.set_cons_succ])
  refine wpAnyH_ready (rs := [52]) (by kernel_rfl) (by simp) ?_
  refine AllReadyH.cons (o := { dst := some 88, op := Op.call { callee := Callee.value (Operand.func 22), args := #[Operand.tmp 86, Operand.tmp 87], argTypes := #[22, 29] }, type := 9, pos := "law.go:24", after := #[{ on := 50, ground := Ground.data }, { on := 51, ground := Ground.data }, { on := 50, ground := Ground.chain }, { on := 49, ground := Ground.guard }], guard := some (49, true) }) rfl (fun K hK => ?_) AllReadyH.nil
  go_simp
  refine (w_format A5 n5 c5 _ P5.out).mono ?_
  rintro q5' v5' ⟨rfl, hb5⟩
  have H5 := Lib.hid (hHeld.trans (hb5.mono hHeld.size))
  clear hb5 hHeld P5
  refine hK.out _ _ ?_ (fun hHeld => ?_)
  · exact H5.out
  clear H5
  clear hK K
  (try simp only [Act.put, List.setIfInBounds_toArray, List.set_cons_zero, List.set_cons_succ])
  refine wpAnyH_take (i := 53) (oi := { dst := some 89, op := Op.binOp BinOp.eql 9 (Operand.tmp 88) (Operand.const (Value.string { data := #[123, 97, 58, 49, 44, 98, 58, 50, 125] })) 9, type := 4, pos := "law.go:24", after := #[{ on := 52, ground := Ground.data }, { on := 49, ground := Ground.guard }], guard := some (49, true) }) (v := ?_) rfl (by kernel_rfl) (by kernel_rfl) (by kernel_rfl) (fun _ _ _ h => h) (Or.inl ⟨by rfl, ?_⟩) (by assumption) ?_
  rotate_left
  · intro w hSw; (try dsimp only at hSw); obtain ⟨hz0, hz1, hz2, hz3, hz4, hz5⟩ := cells6 (HB.out.keep hSw HB.out.lt); go_simp; try with_reducible rfl
  (try simp only [Act.put, List.setIfInBounds_toArray, List.set_cons_zero, List.set_cons_succ])
  refine wpAnyH_take (i := 54) (oi := { dst := some 90, op := Op.pick (Operand.tmp 85) (Operand.tmp 89) (Operand.const (Value.bool false)), type := 4, pos := "law.go:24", after := #[{ on := 49, ground := Ground.data }, { on := 53, ground := Ground.data }], guard := none }) (v := ?_) rfl (by kernel_rfl) (by kernel_rfl) (by kernel_rfl) (fun _ _ _ h => h) (Or.inl ⟨by rfl, ?_⟩) (by assumption) ?_
  rotate_left
  · intro w hSw; (try dsimp only at hSw); obtain ⟨hz0, hz1, hz2, hz3, hz4, hz5⟩ := cells6 (HB.out.keep hSw HB.out.lt); go_simp; try with_reducible rfl
  (try simp only [Act.put, List.setIfInBounds_toArray, List.set_cons_zero, List.set_cons_succ])
  refine wpAnyH_take (i := 55) (oi := { dst := some 91, op := Op.move (Operand.tmp 90), type := 4, pos := "law.go:24", after := #[{ on := 54, ground := Ground.data }, { on := 52, ground := Ground.chain }], guard := none }) (v := ?_) rfl (by kernel_rfl) (by kernel_rfl) (by kernel_rfl) (fun _ _ _ h => h) (Or.inl ⟨by rfl, ?_⟩) (by assumption) ?_
  rotate_left
  · intro w hSw; (try dsimp only at hSw); obtain ⟨hz0, hz1, hz2, hz3, hz4, hz5⟩ := cells6 (HB.out.keep hSw HB.out.lt); go_simp; try with_reducible rfl
  (try simp only [Act.put, List.setIfInBounds_toArray, List.set_cons_zero, List.set_cons_succ])
  refine wpAnyH_take (i := 58) (oi := { dst := some 94, op := Op.build 29 #[(0, Operand.const (Value.int IntKind.i64 2)), (1, Operand.const (Value.int IntKind.i64 2))], type := 29, pos := "law.go:24", after := #[{ on := 55, ground := Ground.guard }], guard := some (55, true) }) (v := ?_) rfl (by kernel_rfl) (by kernel_rfl) (by kernel_rfl) (fun _ _ _ h => h) (Or.inl ⟨by rfl, ?_⟩) (by assumption) ?_
  rotate_left
  · intro w hSw; (try dsimp only at hSw); obtain ⟨hz0, hz1, hz2, hz3, hz4, hz5⟩ := cells6 (HB.out.keep hSw HB.out.lt); go_simp; try with_reducible rfl
  (try simp only [Act.put, List.setIfInBounds_toArray, List.set_cons_zero, List.set_cons_succ])
  refine wpAnyH_ready (rs := [56]) (by kernel_rfl) (by simp) ?_
  refine AllReadyH.cons (o := { dst := some 92, op := Op.call { callee := Callee.value (Operand.func 35), args := #[], argTypes := #[] }, type := 22, pos := "law.go:24", after := #[{ on := 55, ground := Ground.chain }, { on := 55, ground := Ground.guard }], guard := some (55, true) }) rfl (fun K hK => ?_) AllReadyH.nil
  go_simp
  refine (two_any _).mono ?_
  rintro q6 v6 ⟨A6, n6, c6, rfl, hp6, hb6⟩
  have P6 := Lib.hid hp6
  have H6 := Lib.hid (hHeld.trans (hb6.mono hHeld.size))
  clear hp6 hb6 hHeld
  refine hK.out _ _ ?_ (fun hHeld => ?_)
  · exact H6.out
  clear H6
  clear hK K
  (try simp only [Act.put, List.setIfInBounds_toArray, List.set_cons_zero, List.set_cons_succ])
  refine wpAnyH_ready (rs := [57]) (by kernel_rfl) (by simp) ?_
  refine AllReadyH.cons (o := { dst := some 93, op := Op.call { callee := Callee.value (Operand.func 15), args := #[Operand.tmp 92], argTypes := #[22] }, type := 29, pos := "law.go:24", after := #[{ on := 56, ground := Ground.data }, { on := 56, ground := Ground.chain }, { on := 55, ground := Ground.guard }], guard := some (55, true) }) rfl (fun K hK => ?_) AllReadyH.nil
  go_simp
  refine (w_supply A6 n6 c6 _ P6.out).mono ?_
  rintro q6' v6' ⟨rfl, hb6⟩
  have H6 := Lib.hid (hHeld.trans (hb6.mono hHeld.size))
  clear hb6 hHeld P6
  refine hK.out _ _ ?_ (fun hHeld => ?_)
  · exact H6.out
  clear H6
  clear hK K
  (try simp only [Act.put, List.setIfInBounds_toArray, List.set_cons_zero, List.set_cons_succ])
  refine wpAnyH_take (i := 59) (oi := { dst := some 95, op := Op.binOp BinOp.eql 29 (Operand.tmp 93) (Operand.tmp 94) 29, type := 4, pos := "law.go:24", after := #[{ on := 57, ground := Ground.data }, { on := 58, ground := Ground.data }, { on := 55, ground := Ground.guard }], guard := some (55, true) }) (v := ?_) rfl (by kernel_rfl) (by kernel_rfl) (by kernel_rfl) (fun _ _ _ h => h) (Or.inl ⟨by rfl, ?_⟩) (by assumption) ?_
  rotate_left
  · intro w hSw; (try dsimp only at hSw); obtain ⟨hz0, hz1, hz2, hz3, hz4, hz5⟩ := cells6 (HB.out.keep hSw HB.out.lt); go_simp; try with_reducible rfl
  (try simp only [Act.put, List.setIfInBounds_toArray, List.set_cons_zero, List.set_cons_succ])
  refine wpAnyH_take (i := 60) (oi := { dst := some 96, op := Op.pick (Operand.tmp 91) (Operand.tmp 95) (Operand.const (Value.bool false)), type := 4, pos := "law.go:24", after := #[{ on := 55, ground := Ground.data }, { on := 59, ground := Ground.data }], guard := none }) (v := ?_) rfl (by kernel_rfl) (by kernel_rfl) (by kernel_rfl) (fun _ _ _ h => h) (Or.inl ⟨by rfl, ?_⟩) (by assumption) ?_
  rotate_left
  · intro w hSw; (try dsimp only at hSw); obtain ⟨hz0, hz1, hz2, hz3, hz4, hz5⟩ := cells6 (HB.out.keep hSw HB.out.lt); go_simp; try with_reducible rfl
  (try simp only [Act.put, List.setIfInBounds_toArray, List.set_cons_zero, List.set_cons_succ])
  refine wpAnyH_take (i := 61) (oi := { dst := some 0, op := Op.assign (Operand.tmp 96), type := 4, pos := "law.go:24", after := #[{ on := 60, ground := Ground.data }, { on := 57, ground := Ground.chain }, { on := 0, ground := Ground.phase }, { on := 1, ground := Ground.phase }, { on := 2, ground := Ground.phase }, { on := 3, ground := Ground.phase }, { on := 4, ground := Ground.phase }, { on := 5, ground := Ground.phase }, { on := 6, ground := Ground.phase }, { on := 7, ground := Ground.phase }, { on := 8, ground := Ground.phase }, { on := 9, ground := Ground.phase }, { on := 10, ground := Ground.phase }, { on := 11, ground := Ground.phase }, { on := 12, ground := Ground.phase }, { on := 13, ground := Ground.phase }, { on := 14, ground := Ground.phase }, { on := 15, ground := Ground.phase }, { on := 16, ground := Ground.phase }, { on := 17, ground := Ground.phase }, { on := 18, ground := Ground.phase }, { on := 19, ground := Ground.phase }, { on := 20, ground := Ground.phase }, { on := 21, ground := Ground.phase }, { on := 22, ground := Ground.phase }, { on := 23, ground := Ground.phase }, { on := 24, ground := Ground.phase }, { on := 25, ground := Ground.phase }, { on := 26, ground := Ground.phase }, { on := 27, ground := Ground.phase }, { on := 28, ground := Ground.phase }, { on := 29, ground := Ground.phase }, { on := 30, ground := Ground.phase }, { on := 31, ground := Ground.phase }, { on := 32, ground := Ground.phase }, { on := 33, ground := Ground.phase }, { on := 34, ground := Ground.phase }, { on := 35, ground := Ground.phase }, { on := 36, ground := Ground.phase }, { on := 37, ground := Ground.phase }, { on := 38, ground := Ground.phase }, { on := 39, ground := Ground.phase }, { on := 40, ground := Ground.phase }, { on := 41, ground := Ground.phase }, { on := 42, ground := Ground.phase }, { on := 43, ground := Ground.phase }, { on := 44, ground := Ground.phase }, { on := 45, ground := Ground.phase }, { on := 46, ground := Ground.phase }, { on := 47, ground := Ground.phase }, { on := 48, ground := Ground.phase }, { on := 49, ground := Ground.phase }, { on := 50, ground := Ground.phase }, { on := 51, ground := Ground.phase }, { on := 52, ground := Ground.phase }, { on := 53, ground := Ground.phase }, { on := 54, ground := Ground.phase }, { on := 55, ground := Ground.phase }, { on := 56, ground := Ground.phase }, { on := 57, ground := Ground.phase }, { on := 58, ground := Ground.phase }, { on := 59, ground := Ground.phase }, { on := 60, ground := Ground.phase }], guard := none }) (v := ?_) rfl (by kernel_rfl) (by kernel_rfl) (by kernel_rfl) (fun _ _ _ h => h) (Or.inl ⟨by rfl, ?_⟩) (by assumption) ?_
  rotate_left
  · intro w hSw; (try dsimp only at hSw); obtain ⟨hz0, hz1, hz2, hz3, hz4, hz5⟩ := cells6 (HB.out.keep hSw HB.out.lt); go_simp; try with_reducible rfl
  (try simp only [Act.put, List.setIfInBounds_toArray, List.set_cons_zero])
  refine wpAnyH_done (by kernel_rfl) ?_ _
  have DE := Lib.hid (D5.out.trans (hHeld.mono D5.out.size))
  clear hHeld HD HB
  go_wp2_with fail
  go_ret
  exact ⟨rfl, DE.out⟩
end Go.Proofs.YtdlpolnnhhnecaaDoor
