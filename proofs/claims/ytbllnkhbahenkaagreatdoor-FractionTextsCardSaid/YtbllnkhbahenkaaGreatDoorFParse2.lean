/- fraction.Parse of a text that can't be read: no claim of its own. -/
import Derived.Test.YtbllnkhbahenkaaGreatDoorFParse
import Derived.Deep.DeepCutAuto
namespace Go.Proofs.YtbllnkhbahenkaaGreatDoor
open Go.RowKit
set_option maxRecDepth 100000 in
set_option maxHeartbeats 2000000 in
theorem parse_bad (s N D : ByteArray) (u z : Bool) (h : Split s u N z D) (hs : s.size ≤ 1202) (k : Int) (hk : (k != 0) = true)
    (rd : ∀ w, Calls Tryz.prog 25 #[.agg #[.bool u, .string N, .bool z, .string D]] w (GivesRd false 0 0 k w)) (w : World) :
    Calls Tryz.prog 8 #[.string s] w (GivesFrE ⟨false, 0, 0⟩ 2 w) := by
  have RD := Lib.hid rd
  clear rd
  have B0 := Lib.hid ((Below.refl w.heap.size w).alloc (Nat.le_refl _) (.cells #[.bool false, .slice none 0 0, .slice none 0 0] 25))
  have R0 := Lib.hid (FB.new w false none 0 0 none 0 0)
  have SP := Lib.hid (fun w' => split_any s N D u z h (by omega) w')
  clear h
  go_enter Tryz.func8, Tryz.ntmps8
  go_wp2_with fail
  refine (SP.out _).mono ?_
  rintro e w1 ⟨rfl, hb⟩
  have R1 := Lib.hid (R0.out.keep hb)
  have B1 := Lib.hid (B0.out.trans (hb.mono B0.out.size))
  clear hb B0 R0
  have w2 := Lib.hid (WB.new w1 u N z D)
  have bw : Below w1.heap.size w1 (w1.alloc (.cells #[.bool u, .string N, .bool z, .string D] 44)) := (Below.refl _ _).alloc (Nat.le_refl _) _
  have R2 := Lib.hid (R1.out.keep bw)
  have B2 := Lib.hid (B1.out.trans (bw.mono B1.out.size))
  clear R1 B1 bw
  go_wp2_with fail
  refine (RD.out _).mono ?_
  rintro e w3 ⟨AP, nP, cP, xP, AQ, nQ, cQ, xQ, rfl, hn, hn', hb⟩
  go_wp2_with fail
  have f3 : FB (w3.alloc (.cells #[.bool false, .slice AP nP cP, .slice AQ nQ cQ] 25)) w3.heap.size false AP nP cP AQ nQ cQ := FB.new _ _ _ _ _ _ _ _
  have bf : Below w3.heap.size w3 (w3.alloc (.cells #[.bool false, .slice AP nP cP, .slice AQ nQ cQ] 25)) := (Below.refl _ _).alloc (Nat.le_refl _) _
  have W3 := Lib.hid ((w2.out.keep hb).keep bf)
  have F3 := Lib.hid f3
  have R3 := Lib.hid ((R2.out.keep hb).keep bf)
  have P3 := Lib.hid (hn.keep bf).drew2
  have Q3 := Lib.hid (hn'.keep bf).drew2
  have B3 := Lib.hid ((B2.out.trans (hb.mono B2.out.size)).trans (bf.mono (Nat.le_trans B2.out.size hb.size)))
  clear hn hn' hb w2 R2 B2 f3 bf
  obtain ⟨Wa, Wb, Wc, Wd, _, _, _, _⟩ := W3.out.facts
  obtain ⟨Fa, Fb, Fc, _, _, _⟩ := F3.out.facts
  obtain ⟨G3, hG3⟩ : ∃ G3, w3.heap.size = G3 := ⟨_, rfl⟩
  obtain ⟨G1, hG1⟩ : ∃ G1, w1.heap.size = G1 := ⟨_, rfl⟩
  obtain ⟨w5, hw5⟩ : ∃ w5, w3.alloc (.cells #[.bool false, .slice AP nP cP, .slice AQ nQ cQ] 25) = w5 := ⟨_, rfl⟩
  rw [hG3] at F3 Fa Fb Fc
  rw [hG1] at W3 Wa Wb Wc Wd
  rw [hw5] at F3 Fa Fb Fc W3 Wa Wb Wc Wd R3 P3 Q3 B3
  rw [hw5, hG3, hG1]
  clear hG3 hG1 hw5
  have R6 := Lib.hid (R3.out.keep (Below.refl _ _).drew)
  have B6 := Lib.hid (B3.out.drew)
  obtain ⟨Ra, Rb, Rc, Rd, Re, Rf⟩ := R3.out.facts
  refine wp_region_held_drew (S := fun _ => True) (by kernel_rfl) trivial (fun hHeld => ?_)
  refine wpAnyH_take (i := 0) (oi := { dst := some 18, op := Op.move (Operand.tmp 6), type := 29, pos := "text.go:42", after := #[], guard := none }) (v := ?_) rfl (by kernel_rfl) (by kernel_rfl) (by kernel_rfl) (fun _ _ _ h => h) (Or.inl ⟨by rfl, ?_⟩) (by assumption) ?_
  rotate_left
  · intro w hSw; (try dsimp only at hSw); go_simp; try with_reducible rfl
  (try simp only [Act.put, List.setIfInBounds_toArray, List.set_cons_zero, List.set_cons_succ])
  refine wpAnyH_take (i := 1) (oi := { dst := some 19, op := Op.binOp BinOp.neq 29 (Operand.tmp 18) (Operand.const (Value.int IntKind.i64 0)) 29, type := 4, pos := "text.go:42", after := #[{ on := 0, ground := Ground.data }], guard := none }) (v := ?_) rfl (by kernel_rfl) (by kernel_rfl) (by kernel_rfl) (fun _ _ _ h => h) (Or.inl ⟨by rfl, ?_⟩) (by assumption) ?_
  rotate_left
  · intro w hSw; (try dsimp only at hSw); go_simp; try with_reducible rfl
  (try simp only [Act.put, List.setIfInBounds_toArray, List.set_cons_zero, List.set_cons_succ])
  refine wpAnyH_take (i := 2) (oi := { dst := some 20, op := Op.move (Operand.tmp 19), type := 4, pos := "text.go:42", after := #[{ on := 1, ground := Ground.data }], guard := none }) (v := ?_) rfl (by kernel_rfl) (by kernel_rfl) (by kernel_rfl) (fun _ _ _ h => h) (Or.inl ⟨by rfl, ?_⟩) (by assumption) ?_
  rotate_left
  · intro w hSw; (try dsimp only at hSw); go_simp; try with_reducible rfl
  (try simp only [Act.put, List.setIfInBounds_toArray, List.set_cons_zero, List.set_cons_succ])
  refine wpAnyH_take (i := 3) (oi := { dst := some 21, op := Op.load 25 (Operand.tmp 5), type := 25, pos := "text.go:42", after := #[{ on := 2, ground := Ground.guard }], guard := some (2, false) }) (v := undef) rfl (by kernel_rfl) (by kernel_rfl) (by kernel_rfl) (fun _ _ _ h => h) (Or.inr ⟨by rfl, rfl⟩) (by assumption) ?_
  (try simp only [Act.put, List.setIfInBounds_toArray, List.set_cons_zero, List.set_cons_succ])
  refine wpAnyH_take (i := 5) (oi := { dst := some 23, op := Op.load 44 (Operand.tmp 4), type := 44, pos := "text.go:42", after := #[{ on := 2, ground := Ground.guard }], guard := some (2, false) }) (v := undef) rfl (by kernel_rfl) (by kernel_rfl) (by kernel_rfl) (fun _ _ _ h => h) (Or.inr ⟨by rfl, rfl⟩) (by assumption) ?_
  (try simp only [Act.put, List.setIfInBounds_toArray, List.set_cons_zero, List.set_cons_succ])
  refine wpAnyH_ready (rs := [4]) (by kernel_rfl) (by simp) ?_
  refine AllReadyH.cons (o := { dst := some 22, op := Op.call { callee := Callee.value (Operand.func 23), args := #[Operand.tmp 21], argTypes := #[25] }, type := 44, pos := "text.go:42", after := #[{ on := 3, ground := Ground.data }, { on := 2, ground := Ground.chain }, { on := 2, ground := Ground.guard }], guard := some (2, false) }) rfl (fun K hK => ?_) AllReadyH.nil
  rw [if_neg (Bool.eq_false_iff.1 (by rfl))]
  refine hK.out _ _ hHeld (fun hHeld => ?_)
  clear hK K
  (try simp only [Act.put, List.setIfInBounds_toArray, List.set_cons_zero, List.set_cons_succ])
  refine wpAnyH_take (i := 6) (oi := { dst := some 24, op := Op.binOp BinOp.neq 44 (Operand.tmp 22) (Operand.tmp 23) 44, type := 4, pos := "text.go:42", after := #[{ on := 4, ground := Ground.data }, { on := 5, ground := Ground.data }, { on := 2, ground := Ground.guard }], guard := some (2, false) }) (v := undef) rfl (by kernel_rfl) (by kernel_rfl) (by kernel_rfl) (fun _ _ _ h => h) (Or.inr ⟨by rfl, rfl⟩) (by assumption) ?_
  (try simp only [Act.put, List.setIfInBounds_toArray, List.set_cons_zero, List.set_cons_succ])
  refine wpAnyH_take (i := 7) (oi := { dst := some 25, op := Op.pick (Operand.tmp 20) (Operand.const (Value.bool true)) (Operand.tmp 24), type := 4, pos := "text.go:42", after := #[{ on := 2, ground := Ground.data }, { on := 6, ground := Ground.data }], guard := none }) (v := ?_) rfl (by kernel_rfl) (by kernel_rfl) (by kernel_rfl) (fun _ _ _ h => h) (Or.inl ⟨by rfl, ?_⟩) (by assumption) ?_
  rotate_left
  · intro w hSw; (try dsimp only at hSw); go_simp; try with_reducible rfl
  (try simp only [Act.put, List.setIfInBounds_toArray, List.set_cons_zero, List.set_cons_succ])
  refine wpAnyH_done (by kernel_rfl) ?_ _
  go_wp2
  refine bodyPost_ret (v := .tuple #[.agg #[.bool false, .slice none 0 0, .slice none 0 0], .int .i64 2]) (by simp [results, Tryz.results8, go_sem, Ra, Rb, Rc]) rfl ?_
  exact giveFrE (t := ⟨false, 0, 0⟩) B6.out (Nat.le_refl _) R6.out (Num.zero _) (Num.zero _)
end Go.Proofs.YtbllnkhbahenkaaGreatDoor
