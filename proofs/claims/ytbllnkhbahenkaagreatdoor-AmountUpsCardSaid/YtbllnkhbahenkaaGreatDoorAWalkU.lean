/- The walk of AmountUps, given what awake answers: no claim of its own. -/
import Derived.Test.YtbllnkhbahenkaaGreatDoorARUp
import Derived.Test.YtbllnkhbahenkaaGreatDoorAwakeA
import Derived.Test.YtbllnkhbahenkaaGreatDoorAShare
namespace Go.Proofs.YtbllnkhbahenkaaGreatDoor
open Go.RowKit MA
/-- A fraction in the first variable of a call that began at w0. -/
structure FrIn (w0 : World) (s : Bool) (A : Option Addr) (n c : Nat) (B : Option Addr) (m d p q : Nat) (xs ys : List Nat) (W : World) : Prop where
  x : Num W A n c xs p
  y : Num W B m d ys q
  h : FB W w0.heap.size s A n c B m d
  b : Below w0.heap.size w0 W
section
variable {w0 : World} {s : Bool} {A : Option Addr} {n c : Nat} {B : Option Addr} {m d p q : Nat} {xs ys : List Nat} {W W' : World}
theorem FrIn.keep (h : FrIn w0 s A n c B m d p q xs ys W) (hb : Below W.heap.size W W') : FrIn w0 s A n c B m d p q xs ys W' := ⟨h.x.keep hb, h.y.keep hb, h.h.keep hb, h.b.trans (hb.mono h.b.size)⟩
theorem FrIn.start (hx : Num w0 A n c xs p) (hy : Num w0 B m d ys q) : FrIn w0 s A n c B m d p q xs ys (w0.alloc (.cells #[.bool s, .slice A n c, .slice B m d] 25)) :=
  ⟨hx.keep (below_new _ _), hy.keep (below_new _ _), FB.new w0 s A n c B m d, below_new _ _⟩
end
/-- A call hands back a fraction with these fields. -/
def GivesF1 (s : Bool) (p q : Nat) (w : World) (e : Ending) (w' : World) : Prop :=
  ∃ A n c xs B m d ys, e = .returned (.agg #[.bool s, .slice A n c, .slice B m d]) ∧ Num w' A n c xs p ∧ Num w' B m d ys q ∧ Below w.heap.size w w'
theorem fromInt1 (v : Int) (h0 : -9223372036854775808 ≤ v) (h1 : v ≤ 9223372036854775807) (w : World) : Calls Tryz.prog 17 #[.int .i64 v] w (GivesF1 (decide (v < 0)) v.natAbs 1 w) :=
  (rfromInt_any v h0 h1 w _ rfl).mono fun _ _ g => g
theorem ok_int (v : Int) : Fr.Ok ⟨decide (v < 0), v.natAbs, 1⟩ := ⟨Nat.one_pos, Nat.gcd_one_right _, fun h => by have := of_decide_eq_true h; simp only; omega⟩
theorem up_wrap (V : Nat) (h : V ≤ 1000000) : IntKind.i64.wrap ((V : Int) - 1) = (V : Int) - 1 := IntWalk.i64_in _ (by omega)
set_option maxRecDepth 100000 in
set_option maxHeartbeats 4000000 in
theorem ups_main (AW : ∀ w, Tab w → Calls Tryz.prog 13 #[] w (Gives (.bool true) w)) (s : Bool) (A B : Option Addr) (n c m d p q : Nat) (xs ys : List Nat) (w : World) (hx : Num w A n c xs p) (hy : Num w B m d ys q) (ok : Fr.Ok ⟨s, p, q⟩) (hn : n ≤ 20) (hm : m ≤ 20) (ht : Tab w)
    (v : ∀ w', Below w.heap.size w w' → Calls Tryz.prog 12 #[.agg #[.bool s, .slice A n c, .slice B m d]] w' (Gives (.bool true) w')) :
    Calls Tryz.prog 4 #[.agg #[.bool s, .slice A n c, .slice B m d]] w (Gives (.bool true) w) := by
  have pp := hx.below hn
  have pq := hy.below hm
  have AH := Lib.hid AW
  have T0 := Lib.hid ht
  have V1 := Lib.hid v
  have I0 : FrIn w s A n c B m d p q xs ys _ := FrIn.start hx hy
  have U1 := Lib.hid (fun W (I : FrIn w s A n c B m d p q xs ys W) => up_any s A B n c m d p q 20 xs ys W I.x I.y ok.1 pp pq (by decide))
  have U2 := Lib.hid (fun W (I : FrIn w s A n c B m d p q xs ys W) => rup_any s A B n c m d p q 20 xs ys W I.x I.y ok pp pq (by decide))
  have z1 : ((upR s p q).1 == (upR s p q).1) = true := by simp
  have z2 : ((upR s p q).2 == (upR s p q).2) = true := by simp
  have UC := Lib.hid (up_cases ok)
  have KC := Lib.hid (fun (u : Int) (hu : u.natAbs ≤ 1000000) (l : Int) (hl : cmpFr ⟨decide (u < 0), u.natAbs, 1⟩ ⟨s, p, q⟩ = l) W A' n' c' x' B' m' d' y' (h1 : Num W A' n' c' x' u.natAbs) (h2 : Num W B' m' d' y' 1) (I : FrIn w s A n c B m d p q xs ys W) =>
    rcmpFr_any (decide (u < 0)) s A' B' A B n' c' m' d' n c m d u.natAbs 1 p q 20 x' y' xs ys W h1 h2 I.x I.y (Nat.lt_of_le_of_lt hu (by decide)) (by decide) pp pq (by decide) (ok_int u) ok l hl)
  generalize upR s p q = U at *
  obtain ⟨a, e⟩ := U
  obtain ⟨Ha, Hb, Hc, _, _, _⟩ := I0.h.facts
  have I1 := Lib.hid I0
  clear hx hy v ht AW pp pq I0 ok
  go_enter Tryz.func4, Tryz.ntmps4
  go_wp2_with fail
  refine (V1.out _ I1.out.b).mono ?_
  rintro e w1 ⟨rfl, hb⟩
  have I2 := Lib.hid (I1.out.keep hb)
  clear hb I1 Ha Hb Hc
  obtain ⟨Ha, Hb, Hc, _, _, _⟩ := I2.out.h.facts
  go_wp2_with fail
  refine (U1.out _ I2.out).mono ?_
  rintro e w2 ⟨rfl, hb⟩
  have I3 := Lib.hid (I2.out.keep hb)
  clear hb I2 Ha Hb Hc
  obtain ⟨Ha, Hb, Hc, _, _, _⟩ := I3.out.h.facts
  go_wp2_with fail
  refine (U2.out _ I3.out).mono ?_
  rintro e w3 ⟨rfl, hb⟩
  have I := I3.out.keep hb
  clear hb I3 Ha Hb Hc U1 U2
  obtain ⟨Ha, Hb, Hc, _, _, _⟩ := I.h.facts
  replace I := I.keep (Below.refl _ _).drew
  rcases UC.out with h | ⟨V, hV, h, l1, l2⟩
  · injection h with h1 h2
    subst h1 h2
    clear KC UC
    go_wp2
    refine wp_region_held_drew (S := fun w' => w'.cell? ⟨w.heap.size, 0, none⟩ = some (.bool s) ∧ w'.cell? ⟨w.heap.size, 1, none⟩ = some (.slice A n c) ∧ w'.cell? ⟨w.heap.size, 2, none⟩ = some (.slice B m d)) (by kernel_rfl) ⟨Ha, Hb, Hc⟩ (fun hHeld => ?_)
    refine wpAnyH_take (i := 0) (oi := { dst := some 41, op := Op.move (Operand.tmp 4), type := 29, pos := "law.go:100", after := #[], guard := none }) (v := ?_) rfl (by kernel_rfl) (by kernel_rfl) (by kernel_rfl) (fun _ _ _ h => h) (Or.inl ⟨by rfl, ?_⟩) (by assumption) ?_
    rotate_left
    · intro w hSw; (try dsimp only at hSw); go_simp; try with_reducible rfl
    (try simp only [Act.put, List.setIfInBounds_toArray, List.set_cons_zero, List.set_cons_succ])
    refine wpAnyH_take (i := 1) (oi := { dst := some 42, op := Op.binOp BinOp.neq 29 (Operand.tmp 41) (Operand.const (Value.int IntKind.i64 0)) 29, type := 4, pos := "law.go:100", after := #[{ on := 0, ground := Ground.data }], guard := none }) (v := ?_) rfl (by kernel_rfl) (by kernel_rfl) (by kernel_rfl) (fun _ _ _ h => h) (Or.inl ⟨by rfl, ?_⟩) (by assumption) ?_
    rotate_left
    · intro w hSw; (try dsimp only at hSw); go_simp; try with_reducible rfl
    (try simp only [Act.put, List.setIfInBounds_toArray, List.set_cons_zero, List.set_cons_succ])
    refine wpAnyH_take (i := 2) (oi := { dst := some 43, op := Op.move (Operand.tmp 42), type := 4, pos := "law.go:100", after := #[{ on := 1, ground := Ground.data }], guard := none }) (v := ?_) rfl (by kernel_rfl) (by kernel_rfl) (by kernel_rfl) (fun _ _ _ h => h) (Or.inl ⟨by rfl, ?_⟩) (by assumption) ?_
    rotate_left
    · intro w hSw; (try dsimp only at hSw); go_simp; try with_reducible rfl
    (try simp only [Act.put, List.setIfInBounds_toArray, List.set_cons_zero, List.set_cons_succ])
    refine wpAnyH_take (i := 3) (oi := { dst := some 44, op := Op.move (Operand.tmp 3), type := 2, pos := "law.go:100", after := #[{ on := 2, ground := Ground.guard }], guard := some (2, false) }) (v := undef) rfl (by kernel_rfl) (by kernel_rfl) (by kernel_rfl) (fun _ _ _ h => h) (Or.inr ⟨by rfl, rfl⟩) (by assumption) ?_
    (try simp only [Act.put, List.setIfInBounds_toArray, List.set_cons_zero, List.set_cons_succ])
    refine wpAnyH_take (i := 5) (oi := { dst := some 46, op := Op.load 25 (Operand.tmp 1), type := 25, pos := "law.go:100", after := #[{ on := 2, ground := Ground.guard }], guard := some (2, false) }) (v := undef) rfl (by kernel_rfl) (by kernel_rfl) (by kernel_rfl) (fun _ _ _ h => h) (Or.inr ⟨by rfl, rfl⟩) (by assumption) ?_
    (try simp only [Act.put, List.setIfInBounds_toArray, List.set_cons_zero, List.set_cons_succ])
    refine wpAnyH_ready (rs := [4]) (by kernel_rfl) (by simp) ?_
    refine AllReadyH.cons (o := { dst := some 45, op := Op.call { callee := Callee.value (Operand.func 17), args := #[Operand.tmp 44], argTypes := #[2] }, type := 25, pos := "law.go:100", after := #[{ on := 3, ground := Ground.data }, { on := 2, ground := Ground.chain }, { on := 2, ground := Ground.guard }], guard := some (2, false) }) rfl (fun K hK => ?_) AllReadyH.nil
    rw [if_neg (Bool.eq_false_iff.1 (by rfl))]
    refine hK.out _ _ hHeld (fun hHeld => ?_)
    clear hK K
    (try simp only [Act.put, List.setIfInBounds_toArray, List.set_cons_zero, List.set_cons_succ])
    refine wpAnyH_ready (rs := [6]) (by kernel_rfl) (by simp) ?_
    refine AllReadyH.cons (o := { dst := some 47, op := Op.call { callee := Callee.value (Operand.func 16), args := #[Operand.tmp 45, Operand.tmp 46], argTypes := #[25, 25] }, type := 3, pos := "law.go:100", after := #[{ on := 4, ground := Ground.data }, { on := 5, ground := Ground.data }, { on := 4, ground := Ground.chain }, { on := 2, ground := Ground.guard }], guard := some (2, false) }) rfl (fun K hK => ?_) AllReadyH.nil
    rw [if_neg (Bool.eq_false_iff.1 (by rfl))]
    refine hK.out _ _ hHeld (fun hHeld => ?_)
    clear hK K
    (try simp only [Act.put, List.setIfInBounds_toArray, List.set_cons_zero, List.set_cons_succ])
    refine wpAnyH_take (i := 7) (oi := { dst := some 48, op := Op.binOp BinOp.geq 3 (Operand.tmp 47) (Operand.const (Value.int IntKind.i64 0)) 3, type := 4, pos := "law.go:100", after := #[{ on := 6, ground := Ground.data }, { on := 2, ground := Ground.guard }], guard := some (2, false) }) (v := undef) rfl (by kernel_rfl) (by kernel_rfl) (by kernel_rfl) (fun _ _ _ h => h) (Or.inr ⟨by rfl, rfl⟩) (by assumption) ?_
    (try simp only [Act.put, List.setIfInBounds_toArray, List.set_cons_zero, List.set_cons_succ])
    refine wpAnyH_take (i := 8) (oi := { dst := some 49, op := Op.move (Operand.tmp 48), type := 4, pos := "law.go:100", after := #[{ on := 7, ground := Ground.data }, { on := 6, ground := Ground.chain }, { on := 2, ground := Ground.guard }], guard := some (2, false) }) (v := undef) rfl (by kernel_rfl) (by kernel_rfl) (by kernel_rfl) (fun _ _ _ h => h) (Or.inr ⟨by rfl, rfl⟩) (by assumption) ?_
    (try simp only [Act.put, List.setIfInBounds_toArray, List.set_cons_zero, List.set_cons_succ])
    refine wpAnyH_take (i := 9) (oi := { dst := some 50, op := Op.move (Operand.tmp 3), type := 2, pos := "law.go:100", after := #[{ on := 8, ground := Ground.guard }], guard := some (8, true) }) (v := undef) rfl (by kernel_rfl) (by kernel_rfl) (by kernel_rfl) (fun _ _ _ h => h) (Or.inr ⟨by rfl, rfl⟩) (by assumption) ?_
    (try simp only [Act.put, List.setIfInBounds_toArray, List.set_cons_zero, List.set_cons_succ])
    refine wpAnyH_take (i := 10) (oi := { dst := some 51, op := Op.binOp BinOp.sub 2 (Operand.tmp 50) (Operand.const (Value.int IntKind.i64 1)) 2, type := 2, pos := "law.go:100", after := #[{ on := 9, ground := Ground.data }, { on := 8, ground := Ground.guard }], guard := some (8, true) }) (v := undef) rfl (by kernel_rfl) (by kernel_rfl) (by kernel_rfl) (fun _ _ _ h => h) (Or.inr ⟨by rfl, rfl⟩) (by assumption) ?_
    (try simp only [Act.put, List.setIfInBounds_toArray, List.set_cons_zero, List.set_cons_succ])
    refine wpAnyH_take (i := 12) (oi := { dst := some 53, op := Op.load 25 (Operand.tmp 1), type := 25, pos := "law.go:100", after := #[{ on := 8, ground := Ground.guard }], guard := some (8, true) }) (v := undef) rfl (by kernel_rfl) (by kernel_rfl) (by kernel_rfl) (fun _ _ _ h => h) (Or.inr ⟨by rfl, rfl⟩) (by assumption) ?_
    (try simp only [Act.put, List.setIfInBounds_toArray, List.set_cons_zero, List.set_cons_succ])
    refine wpAnyH_ready (rs := [11]) (by kernel_rfl) (by simp) ?_
    refine AllReadyH.cons (o := { dst := some 52, op := Op.call { callee := Callee.value (Operand.func 17), args := #[Operand.tmp 51], argTypes := #[2] }, type := 25, pos := "law.go:100", after := #[{ on := 10, ground := Ground.data }, { on := 8, ground := Ground.chain }, { on := 8, ground := Ground.guard }], guard := some (8, true) }) rfl (fun K hK => ?_) AllReadyH.nil
    rw [if_neg (Bool.eq_false_iff.1 (by rfl))]
    refine hK.out _ _ hHeld (fun hHeld => ?_)
    clear hK K
    (try simp only [Act.put, List.setIfInBounds_toArray, List.set_cons_zero, List.set_cons_succ])
    refine wpAnyH_ready (rs := [13]) (by kernel_rfl) (by simp) ?_
    refine AllReadyH.cons (o := { dst := some 54, op := Op.call { callee := Callee.value (Operand.func 16), args := #[Operand.tmp 52, Operand.tmp 53], argTypes := #[25, 25] }, type := 3, pos := "law.go:100", after := #[{ on := 11, ground := Ground.data }, { on := 12, ground := Ground.data }, { on := 11, ground := Ground.chain }, { on := 8, ground := Ground.guard }], guard := some (8, true) }) rfl (fun K hK => ?_) AllReadyH.nil
    rw [if_neg (Bool.eq_false_iff.1 (by rfl))]
    refine hK.out _ _ hHeld (fun hHeld => ?_)
    clear hK K
    (try simp only [Act.put, List.setIfInBounds_toArray, List.set_cons_zero, List.set_cons_succ])
    refine wpAnyH_take (i := 14) (oi := { dst := some 55, op := Op.binOp BinOp.lss 3 (Operand.tmp 54) (Operand.const (Value.int IntKind.i64 0)) 3, type := 4, pos := "law.go:100", after := #[{ on := 13, ground := Ground.data }, { on := 8, ground := Ground.guard }], guard := some (8, true) }) (v := undef) rfl (by kernel_rfl) (by kernel_rfl) (by kernel_rfl) (fun _ _ _ h => h) (Or.inr ⟨by rfl, rfl⟩) (by assumption) ?_
    (try simp only [Act.put, List.setIfInBounds_toArray, List.set_cons_zero, List.set_cons_succ])
    refine wpAnyH_take (i := 15) (oi := { dst := some 56, op := Op.pick (Operand.tmp 49) (Operand.tmp 55) (Operand.const (Value.bool false)), type := 4, pos := "law.go:100", after := #[{ on := 8, ground := Ground.data }, { on := 14, ground := Ground.data }, { on := 2, ground := Ground.guard }], guard := some (2, false) }) (v := undef) rfl (by kernel_rfl) (by kernel_rfl) (by kernel_rfl) (fun _ _ _ h => h) (Or.inr ⟨by rfl, rfl⟩) (by assumption) ?_
    (try simp only [Act.put, List.setIfInBounds_toArray, List.set_cons_zero, List.set_cons_succ])
    refine wpAnyH_take (i := 16) (oi := { dst := some 57, op := Op.pick (Operand.tmp 43) (Operand.const (Value.bool true)) (Operand.tmp 56), type := 4, pos := "law.go:100", after := #[{ on := 2, ground := Ground.data }, { on := 15, ground := Ground.data }], guard := none }) (v := ?_) rfl (by kernel_rfl) (by kernel_rfl) (by kernel_rfl) (fun _ _ _ h => h) (Or.inl ⟨by rfl, ?_⟩) (by assumption) ?_
    rotate_left
    · intro w hSw; (try dsimp only at hSw); go_simp; try with_reducible rfl
    (try simp only [Act.put, List.setIfInBounds_toArray, List.set_cons_zero, List.set_cons_succ])
    refine wpAnyH_take (i := 17) (oi := { dst := some 58, op := Op.move (Operand.tmp 57), type := 4, pos := "law.go:100", after := #[{ on := 16, ground := Ground.data }, { on := 13, ground := Ground.chain }], guard := none }) (v := ?_) rfl (by kernel_rfl) (by kernel_rfl) (by kernel_rfl) (fun _ _ _ h => h) (Or.inl ⟨by rfl, ?_⟩) (by assumption) ?_
    rotate_left
    · intro w hSw; (try dsimp only at hSw); go_simp; try with_reducible rfl
    (try simp only [Act.put, List.setIfInBounds_toArray, List.set_cons_zero, List.set_cons_succ])
    refine wpAnyH_ready (rs := [18]) (by kernel_rfl) (by simp) ?_
    refine AllReadyH.cons (o := { dst := some 59, op := Op.call { callee := Callee.value (Operand.func 13), args := #[], argTypes := #[] }, type := 4, pos := "law.go:100", after := #[{ on := 17, ground := Ground.chain }, { on := 17, ground := Ground.guard }], guard := some (17, true) }) rfl (fun K hK => ?_) AllReadyH.nil
    go_simp
    go_at_call 13
    (with_reducible refine (AH.out _ (T0.out.keep I.b)).mono ?_)
    rintro e wq ⟨rfl, hb⟩
    replace I := I.keep hb
    clear hb Ha Hb Hc
    obtain ⟨Ha, Hb, Hc, _, _, _⟩ := I.h.facts
    refine hK.out _ _ ?_ (fun hHeld => ?_)
    · exact ⟨Ha, Hb, Hc⟩
    clear hK K
    (try simp only [Act.put, List.setIfInBounds_toArray, List.set_cons_zero, List.set_cons_succ])
    refine wpAnyH_take (i := 19) (oi := { dst := some 60, op := Op.pick (Operand.tmp 58) (Operand.tmp 59) (Operand.const (Value.bool false)), type := 4, pos := "law.go:100", after := #[{ on := 17, ground := Ground.data }, { on := 18, ground := Ground.data }], guard := none }) (v := ?_) rfl (by kernel_rfl) (by kernel_rfl) (by kernel_rfl) (fun _ _ _ h => h) (Or.inl ⟨by rfl, ?_⟩) (by assumption) ?_
    rotate_left
    · intro w hSw; (try dsimp only at hSw); go_simp; try with_reducible rfl
    (try simp only [Act.put, List.setIfInBounds_toArray, List.set_cons_zero, List.set_cons_succ])
    refine wpAnyH_take (i := 20) (oi := { dst := some 2, op := Op.assign (Operand.tmp 60), type := 4, pos := "law.go:100", after := #[{ on := 19, ground := Ground.data }, { on := 18, ground := Ground.chain }, { on := 0, ground := Ground.phase }, { on := 1, ground := Ground.phase }, { on := 2, ground := Ground.phase }, { on := 3, ground := Ground.phase }, { on := 4, ground := Ground.phase }, { on := 5, ground := Ground.phase }, { on := 6, ground := Ground.phase }, { on := 7, ground := Ground.phase }, { on := 8, ground := Ground.phase }, { on := 9, ground := Ground.phase }, { on := 10, ground := Ground.phase }, { on := 11, ground := Ground.phase }, { on := 12, ground := Ground.phase }, { on := 13, ground := Ground.phase }, { on := 14, ground := Ground.phase }, { on := 15, ground := Ground.phase }, { on := 16, ground := Ground.phase }, { on := 17, ground := Ground.phase }, { on := 18, ground := Ground.phase }, { on := 19, ground := Ground.phase }], guard := none }) (v := ?_) rfl (by kernel_rfl) (by kernel_rfl) (by kernel_rfl) (fun _ _ _ h => h) (Or.inl ⟨by rfl, ?_⟩) (by assumption) ?_
    rotate_left
    · intro w hSw; (try dsimp only at hSw); go_simp; try with_reducible rfl
    (try simp only [Act.put, List.setIfInBounds_toArray, List.set_cons_zero, List.set_cons_succ])
    refine wpAnyH_done (by kernel_rfl) ?_ _
    go_wp2
    go_ret
    exact ⟨rfl, I.b⟩
  · injection h with h1 h2
    subst h1 h2
    have K1 : Hid (∀ W, Calls Tryz.prog 17 #[.int .i64 (V : Int)] W (GivesF1 false V 1 W)) := Lib.hid fun W => by
      have := fromInt1 (V : Int) (by omega) (by omega) W
      rw [decide_eq_false (by omega)] at this
      exact this
    have K2 := Lib.hid (KC.out (V : Int) (by omega) _ rfl)
    rw [decide_eq_false (by omega : ¬ (V : Int) < 0), show (V : Int).natAbs = V from rfl] at K2
    have K3 := Lib.hid (fun W => fromInt1 ((V : Int) - 1) (by omega) (by omega) W)
    have K4 := Lib.hid (KC.out ((V : Int) - 1) (by omega) _ rfl)
    obtain ⟨u, hu⟩ : ∃ u, (V : Int) - 1 = u := ⟨_, rfl⟩
    have e1 : IntKind.i64.wrap ((V : Int) - 1) = u := by rw [up_wrap V hV, hu]
    simp only [hu] at K3 K4 l2
    clear KC UC hu
    generalize cmpFr ⟨false, V, 1⟩ ⟨s, p, q⟩ = c1 at *
    generalize cmpFr ⟨decide (u < 0), u.natAbs, 1⟩ ⟨s, p, q⟩ = c2 at *
    go_wp2
    refine wp_region_held_drew (S := fun w' => w'.cell? ⟨w.heap.size, 0, none⟩ = some (.bool s) ∧ w'.cell? ⟨w.heap.size, 1, none⟩ = some (.slice A n c) ∧ w'.cell? ⟨w.heap.size, 2, none⟩ = some (.slice B m d)) (by kernel_rfl) ⟨Ha, Hb, Hc⟩ (fun hHeld => ?_)
    refine wpAnyH_take (i := 0) (oi := { dst := some 41, op := Op.move (Operand.tmp 4), type := 29, pos := "law.go:100", after := #[], guard := none }) (v := ?_) rfl (by kernel_rfl) (by kernel_rfl) (by kernel_rfl) (fun _ _ _ h => h) (Or.inl ⟨by rfl, ?_⟩) (by assumption) ?_
    rotate_left
    · intro w hSw; (try dsimp only at hSw); go_simp; try with_reducible rfl
    (try simp only [Act.put, List.setIfInBounds_toArray, List.set_cons_zero, List.set_cons_succ])
    refine wpAnyH_take (i := 1) (oi := { dst := some 42, op := Op.binOp BinOp.neq 29 (Operand.tmp 41) (Operand.const (Value.int IntKind.i64 0)) 29, type := 4, pos := "law.go:100", after := #[{ on := 0, ground := Ground.data }], guard := none }) (v := ?_) rfl (by kernel_rfl) (by kernel_rfl) (by kernel_rfl) (fun _ _ _ h => h) (Or.inl ⟨by rfl, ?_⟩) (by assumption) ?_
    rotate_left
    · intro w hSw; (try dsimp only at hSw); go_simp; try with_reducible rfl
    (try simp only [Act.put, List.setIfInBounds_toArray, List.set_cons_zero, List.set_cons_succ])
    refine wpAnyH_take (i := 2) (oi := { dst := some 43, op := Op.move (Operand.tmp 42), type := 4, pos := "law.go:100", after := #[{ on := 1, ground := Ground.data }], guard := none }) (v := ?_) rfl (by kernel_rfl) (by kernel_rfl) (by kernel_rfl) (fun _ _ _ h => h) (Or.inl ⟨by rfl, ?_⟩) (by assumption) ?_
    rotate_left
    · intro w hSw; (try dsimp only at hSw); go_simp; try with_reducible rfl
    (try simp only [Act.put, List.setIfInBounds_toArray, List.set_cons_zero, List.set_cons_succ])
    refine wpAnyH_take (i := 3) (oi := { dst := some 44, op := Op.move (Operand.tmp 3), type := 2, pos := "law.go:100", after := #[{ on := 2, ground := Ground.guard }], guard := some (2, false) }) (v := ?_) rfl (by kernel_rfl) (by kernel_rfl) (by kernel_rfl) (fun _ _ _ h => h) (Or.inl ⟨by rfl, ?_⟩) (by assumption) ?_
    rotate_left
    · intro w hSw; (try dsimp only at hSw); go_simp; try with_reducible rfl
    (try simp only [Act.put, List.setIfInBounds_toArray, List.set_cons_zero, List.set_cons_succ])
    refine wpAnyH_take (i := 5) (oi := { dst := some 46, op := Op.load 25 (Operand.tmp 1), type := 25, pos := "law.go:100", after := #[{ on := 2, ground := Ground.guard }], guard := some (2, false) }) (v := ?_) rfl (by kernel_rfl) (by kernel_rfl) (by kernel_rfl) (fun _ _ _ h => h) (Or.inl ⟨by rfl, ?_⟩) (by assumption) ?_
    rotate_left
    · intro w hSw; (try dsimp only at hSw); go_simp; try with_reducible rfl
    (try simp only [Act.put, List.setIfInBounds_toArray, List.set_cons_zero, List.set_cons_succ])
    refine wpAnyH_ready (rs := [4]) (by kernel_rfl) (by simp) ?_
    refine AllReadyH.cons (o := { dst := some 45, op := Op.call { callee := Callee.value (Operand.func 17), args := #[Operand.tmp 44], argTypes := #[2] }, type := 25, pos := "law.go:100", after := #[{ on := 3, ground := Ground.data }, { on := 2, ground := Ground.chain }, { on := 2, ground := Ground.guard }], guard := some (2, false) }) rfl (fun K hK => ?_) AllReadyH.nil
    go_simp
    go_at_call 17
    (try rw [e1])
    (with_reducible refine (K1.out _).mono ?_)
    rintro e wq ⟨AE, nE, cE, xE, AG, nG, cG, xG, rfl, zE, zG, hb⟩
    replace I := I.keep hb
    clear hb Ha Hb Hc
    obtain ⟨Ha, Hb, Hc, _, _, _⟩ := I.h.facts
    refine hK.out _ _ ?_ (fun hHeld => ?_)
    · exact ⟨Ha, Hb, Hc⟩
    clear hK K
    (try simp only [Act.put, List.setIfInBounds_toArray, List.set_cons_zero, List.set_cons_succ])
    refine wpAnyH_ready (rs := [6]) (by kernel_rfl) (by simp) ?_
    refine AllReadyH.cons (o := { dst := some 47, op := Op.call { callee := Callee.value (Operand.func 16), args := #[Operand.tmp 45, Operand.tmp 46], argTypes := #[25, 25] }, type := 3, pos := "law.go:100", after := #[{ on := 4, ground := Ground.data }, { on := 5, ground := Ground.data }, { on := 4, ground := Ground.chain }, { on := 2, ground := Ground.guard }], guard := some (2, false) }) rfl (fun K hK => ?_) AllReadyH.nil
    go_simp
    go_at_call 16
    (with_reducible refine (K2.out _ _ _ _ _ _ _ _ _ zE zG I).mono ?_)
    rintro e wq ⟨rfl, hb⟩
    replace I := I.keep hb
    clear zE zG
    clear hb Ha Hb Hc
    obtain ⟨Ha, Hb, Hc, _, _, _⟩ := I.h.facts
    refine hK.out _ _ ?_ (fun hHeld => ?_)
    · exact ⟨Ha, Hb, Hc⟩
    clear hK K
    (try simp only [Act.put, List.setIfInBounds_toArray, List.set_cons_zero, List.set_cons_succ])
    refine wpAnyH_take (i := 7) (oi := { dst := some 48, op := Op.binOp BinOp.geq 3 (Operand.tmp 47) (Operand.const (Value.int IntKind.i64 0)) 3, type := 4, pos := "law.go:100", after := #[{ on := 6, ground := Ground.data }, { on := 2, ground := Ground.guard }], guard := some (2, false) }) (v := ?_) rfl (by kernel_rfl) (by kernel_rfl) (by kernel_rfl) (fun _ _ _ h => h) (Or.inl ⟨by rfl, ?_⟩) (by assumption) ?_
    rotate_left
    · intro w hSw; (try dsimp only at hSw); go_simp; try with_reducible rfl
    (try simp only [Act.put, List.setIfInBounds_toArray, List.set_cons_zero, List.set_cons_succ])
    refine wpAnyH_take (i := 8) (oi := { dst := some 49, op := Op.move (Operand.tmp 48), type := 4, pos := "law.go:100", after := #[{ on := 7, ground := Ground.data }, { on := 6, ground := Ground.chain }, { on := 2, ground := Ground.guard }], guard := some (2, false) }) (v := ?_) rfl (by kernel_rfl) (by kernel_rfl) (by kernel_rfl) (fun _ _ _ h => h) (Or.inl ⟨by rfl, ?_⟩) (by assumption) ?_
    rotate_left
    · intro w hSw; (try dsimp only at hSw); go_simp; try with_reducible rfl
    (try simp only [Act.put, List.setIfInBounds_toArray, List.set_cons_zero, List.set_cons_succ])
    refine wpAnyH_take (i := 9) (oi := { dst := some 50, op := Op.move (Operand.tmp 3), type := 2, pos := "law.go:100", after := #[{ on := 8, ground := Ground.guard }], guard := some (8, true) }) (v := ?_) rfl (by kernel_rfl) (by kernel_rfl) (by kernel_rfl) (fun _ _ _ h => h) (Or.inl ⟨by rfl, ?_⟩) (by assumption) ?_
    rotate_left
    · intro w hSw; (try dsimp only at hSw); go_simp; try with_reducible rfl
    (try simp only [Act.put, List.setIfInBounds_toArray, List.set_cons_zero, List.set_cons_succ])
    refine wpAnyH_take (i := 10) (oi := { dst := some 51, op := Op.binOp BinOp.sub 2 (Operand.tmp 50) (Operand.const (Value.int IntKind.i64 1)) 2, type := 2, pos := "law.go:100", after := #[{ on := 9, ground := Ground.data }, { on := 8, ground := Ground.guard }], guard := some (8, true) }) (v := ?_) rfl (by kernel_rfl) (by kernel_rfl) (by kernel_rfl) (fun _ _ _ h => h) (Or.inl ⟨by rfl, ?_⟩) (by assumption) ?_
    rotate_left
    · intro w hSw; (try dsimp only at hSw); go_simp; try with_reducible rfl
    (try simp only [Act.put, List.setIfInBounds_toArray, List.set_cons_zero, List.set_cons_succ])
    refine wpAnyH_take (i := 12) (oi := { dst := some 53, op := Op.load 25 (Operand.tmp 1), type := 25, pos := "law.go:100", after := #[{ on := 8, ground := Ground.guard }], guard := some (8, true) }) (v := ?_) rfl (by kernel_rfl) (by kernel_rfl) (by kernel_rfl) (fun _ _ _ h => h) (Or.inl ⟨by rfl, ?_⟩) (by assumption) ?_
    rotate_left
    · intro w hSw; (try dsimp only at hSw); go_simp; try with_reducible rfl
    (try simp only [Act.put, List.setIfInBounds_toArray, List.set_cons_zero, List.set_cons_succ])
    refine wpAnyH_ready (rs := [11]) (by kernel_rfl) (by simp) ?_
    refine AllReadyH.cons (o := { dst := some 52, op := Op.call { callee := Callee.value (Operand.func 17), args := #[Operand.tmp 51], argTypes := #[2] }, type := 25, pos := "law.go:100", after := #[{ on := 10, ground := Ground.data }, { on := 8, ground := Ground.chain }, { on := 8, ground := Ground.guard }], guard := some (8, true) }) rfl (fun K hK => ?_) AllReadyH.nil
    go_simp
    go_at_call 17
    (try rw [e1])
    (with_reducible refine (K3.out _).mono ?_)
    rintro e wq ⟨AE, nE, cE, xE, AG, nG, cG, xG, rfl, zE, zG, hb⟩
    replace I := I.keep hb
    clear hb Ha Hb Hc
    obtain ⟨Ha, Hb, Hc, _, _, _⟩ := I.h.facts
    refine hK.out _ _ ?_ (fun hHeld => ?_)
    · exact ⟨Ha, Hb, Hc⟩
    clear hK K
    (try simp only [Act.put, List.setIfInBounds_toArray, List.set_cons_zero, List.set_cons_succ])
    refine wpAnyH_ready (rs := [13]) (by kernel_rfl) (by simp) ?_
    refine AllReadyH.cons (o := { dst := some 54, op := Op.call { callee := Callee.value (Operand.func 16), args := #[Operand.tmp 52, Operand.tmp 53], argTypes := #[25, 25] }, type := 3, pos := "law.go:100", after := #[{ on := 11, ground := Ground.data }, { on := 12, ground := Ground.data }, { on := 11, ground := Ground.chain }, { on := 8, ground := Ground.guard }], guard := some (8, true) }) rfl (fun K hK => ?_) AllReadyH.nil
    go_simp
    go_at_call 16
    (with_reducible refine (K4.out _ _ _ _ _ _ _ _ _ zE zG I).mono ?_)
    rintro e wq ⟨rfl, hb⟩
    replace I := I.keep hb
    clear zE zG
    clear hb Ha Hb Hc
    obtain ⟨Ha, Hb, Hc, _, _, _⟩ := I.h.facts
    refine hK.out _ _ ?_ (fun hHeld => ?_)
    · exact ⟨Ha, Hb, Hc⟩
    clear hK K
    (try simp only [Act.put, List.setIfInBounds_toArray, List.set_cons_zero, List.set_cons_succ])
    refine wpAnyH_take (i := 14) (oi := { dst := some 55, op := Op.binOp BinOp.lss 3 (Operand.tmp 54) (Operand.const (Value.int IntKind.i64 0)) 3, type := 4, pos := "law.go:100", after := #[{ on := 13, ground := Ground.data }, { on := 8, ground := Ground.guard }], guard := some (8, true) }) (v := ?_) rfl (by kernel_rfl) (by kernel_rfl) (by kernel_rfl) (fun _ _ _ h => h) (Or.inl ⟨by rfl, ?_⟩) (by assumption) ?_
    rotate_left
    · intro w hSw; (try dsimp only at hSw); go_simp; try with_reducible rfl
    (try simp only [Act.put, List.setIfInBounds_toArray, List.set_cons_zero, List.set_cons_succ])
    refine wpAnyH_take (i := 15) (oi := { dst := some 56, op := Op.pick (Operand.tmp 49) (Operand.tmp 55) (Operand.const (Value.bool false)), type := 4, pos := "law.go:100", after := #[{ on := 8, ground := Ground.data }, { on := 14, ground := Ground.data }, { on := 2, ground := Ground.guard }], guard := some (2, false) }) (v := ?_) rfl (by kernel_rfl) (by kernel_rfl) (by kernel_rfl) (fun _ _ _ h => h) (Or.inl ⟨by rfl, ?_⟩) (by assumption) ?_
    rotate_left
    · intro w hSw; (try dsimp only at hSw); go_simp; try with_reducible rfl
    (try simp only [Act.put, List.setIfInBounds_toArray, List.set_cons_zero, List.set_cons_succ])
    refine wpAnyH_take (i := 16) (oi := { dst := some 57, op := Op.pick (Operand.tmp 43) (Operand.const (Value.bool true)) (Operand.tmp 56), type := 4, pos := "law.go:100", after := #[{ on := 2, ground := Ground.data }, { on := 15, ground := Ground.data }], guard := none }) (v := ?_) rfl (by kernel_rfl) (by kernel_rfl) (by kernel_rfl) (fun _ _ _ h => h) (Or.inl ⟨by rfl, ?_⟩) (by assumption) ?_
    rotate_left
    · intro w hSw; (try dsimp only at hSw); go_simp; try with_reducible rfl
    (try simp only [Act.put, List.setIfInBounds_toArray, List.set_cons_zero, List.set_cons_succ])
    refine wpAnyH_take (i := 17) (oi := { dst := some 58, op := Op.move (Operand.tmp 57), type := 4, pos := "law.go:100", after := #[{ on := 16, ground := Ground.data }, { on := 13, ground := Ground.chain }], guard := none }) (v := ?_) rfl (by kernel_rfl) (by kernel_rfl) (by kernel_rfl) (fun _ _ _ h => h) (Or.inl ⟨by rfl, ?_⟩) (by assumption) ?_
    rotate_left
    · intro w hSw; (try dsimp only at hSw); go_simp; try with_reducible rfl
    (try simp only [Act.put, List.setIfInBounds_toArray, List.set_cons_zero, List.set_cons_succ])
    refine wpAnyH_ready (rs := [18]) (by kernel_rfl) (by simp) ?_
    refine AllReadyH.cons (o := { dst := some 59, op := Op.call { callee := Callee.value (Operand.func 13), args := #[], argTypes := #[] }, type := 4, pos := "law.go:100", after := #[{ on := 17, ground := Ground.chain }, { on := 17, ground := Ground.guard }], guard := some (17, true) }) rfl (fun K hK => ?_) AllReadyH.nil
    go_simp
    go_at_call 13
    (with_reducible refine (AH.out _ (T0.out.keep I.b)).mono ?_)
    rintro e wq ⟨rfl, hb⟩
    replace I := I.keep hb
    clear hb Ha Hb Hc
    obtain ⟨Ha, Hb, Hc, _, _, _⟩ := I.h.facts
    refine hK.out _ _ ?_ (fun hHeld => ?_)
    · exact ⟨Ha, Hb, Hc⟩
    clear hK K
    (try simp only [Act.put, List.setIfInBounds_toArray, List.set_cons_zero, List.set_cons_succ])
    refine wpAnyH_take (i := 19) (oi := { dst := some 60, op := Op.pick (Operand.tmp 58) (Operand.tmp 59) (Operand.const (Value.bool false)), type := 4, pos := "law.go:100", after := #[{ on := 17, ground := Ground.data }, { on := 18, ground := Ground.data }], guard := none }) (v := ?_) rfl (by kernel_rfl) (by kernel_rfl) (by kernel_rfl) (fun _ _ _ h => h) (Or.inl ⟨by rfl, ?_⟩) (by assumption) ?_
    rotate_left
    · intro w hSw; (try dsimp only at hSw); go_simp; try with_reducible rfl
    (try simp only [Act.put, List.setIfInBounds_toArray, List.set_cons_zero, List.set_cons_succ])
    refine wpAnyH_take (i := 20) (oi := { dst := some 2, op := Op.assign (Operand.tmp 60), type := 4, pos := "law.go:100", after := #[{ on := 19, ground := Ground.data }, { on := 18, ground := Ground.chain }, { on := 0, ground := Ground.phase }, { on := 1, ground := Ground.phase }, { on := 2, ground := Ground.phase }, { on := 3, ground := Ground.phase }, { on := 4, ground := Ground.phase }, { on := 5, ground := Ground.phase }, { on := 6, ground := Ground.phase }, { on := 7, ground := Ground.phase }, { on := 8, ground := Ground.phase }, { on := 9, ground := Ground.phase }, { on := 10, ground := Ground.phase }, { on := 11, ground := Ground.phase }, { on := 12, ground := Ground.phase }, { on := 13, ground := Ground.phase }, { on := 14, ground := Ground.phase }, { on := 15, ground := Ground.phase }, { on := 16, ground := Ground.phase }, { on := 17, ground := Ground.phase }, { on := 18, ground := Ground.phase }, { on := 19, ground := Ground.phase }], guard := none }) (v := ?_) rfl (by kernel_rfl) (by kernel_rfl) (by kernel_rfl) (fun _ _ _ h => h) (Or.inl ⟨by rfl, ?_⟩) (by assumption) ?_
    rotate_left
    · intro w hSw; (try dsimp only at hSw); go_simp; try with_reducible rfl
    (try simp only [Act.put, List.setIfInBounds_toArray, List.set_cons_zero, List.set_cons_succ])
    refine wpAnyH_done (by kernel_rfl) ?_ _
    go_wp2
    go_ret
    exact ⟨rfl, I.b⟩
set_option maxRecDepth 100000 in
set_option maxHeartbeats 1000000 in
theorem ups_long1 (AW : ∀ w, Tab w → Calls Tryz.prog 13 #[] w (Gives (.bool true) w)) (s : Bool) (A B : Option Addr) (n c m d : Nat) (w : World) (h : 20 < n) (hn : n ≤ 9223372036854775807) (ht : Tab w) :
    Calls Tryz.prog 4 #[.agg #[.bool s, .slice A n c, .slice B m d]] w (Gives (.bool true) w) := by
  have B0 := Lib.hid (below_new w (.cells #[.bool s, .slice A n c, .slice B m d] 25))
  have H0 := Lib.hid (FB.new w s A n c B m d)
  have AH := Lib.hid AW
  have T0 := Lib.hid ht
  obtain ⟨Ha, Hb, Hc, _, _, _⟩ := H0.out.facts
  clear ht AW
  go_enter Tryz.func4, Tryz.ntmps4
  go_wp2_with fail
  refine (AH.out _ (T0.out.keep B0.out)).mono ?_
  rintro e w9 ⟨rfl, hb⟩
  have B9 := Lib.hid (B0.out.trans (hb.mono B0.out.size))
  clear hb
  go_wp2
  go_ret
  exact ⟨rfl, B9.out⟩
set_option maxRecDepth 100000 in
set_option maxHeartbeats 1000000 in
theorem ups_long2 (AW : ∀ w, Tab w → Calls Tryz.prog 13 #[] w (Gives (.bool true) w)) (s : Bool) (A B : Option Addr) (n c m d : Nat) (w : World) (h1 : n ≤ 20) (h : 20 < m) (hm : m ≤ 9223372036854775807) (ht : Tab w) :
    Calls Tryz.prog 4 #[.agg #[.bool s, .slice A n c, .slice B m d]] w (Gives (.bool true) w) := by
  have B0 := Lib.hid (below_new w (.cells #[.bool s, .slice A n c, .slice B m d] 25))
  have H0 := Lib.hid (FB.new w s A n c B m d)
  have AH := Lib.hid AW
  have T0 := Lib.hid ht
  obtain ⟨Ha, Hb, Hc, _, _, _⟩ := H0.out.facts
  clear ht AW
  go_enter Tryz.func4, Tryz.ntmps4
  go_wp2_with fail
  refine (AH.out _ (T0.out.keep B0.out)).mono ?_
  rintro e w9 ⟨rfl, hb⟩
  have B9 := Lib.hid (B0.out.trans (hb.mono B0.out.size))
  clear hb
  go_wp2
  go_ret
  exact ⟨rfl, B9.out⟩
set_option maxRecDepth 100000 in
set_option maxHeartbeats 1000000 in
theorem ups_no (AW : ∀ w, Tab w → Calls Tryz.prog 13 #[] w (Gives (.bool true) w)) (s : Bool) (A B : Option Addr) (n c m d : Nat) (w : World) (h1 : n ≤ 20) (h2 : m ≤ 20) (v : ∀ w', Below w.heap.size w w' → Calls Tryz.prog 12 #[.agg #[.bool s, .slice A n c, .slice B m d]] w' (Gives (.bool false) w')) (ht : Tab w) :
    Calls Tryz.prog 4 #[.agg #[.bool s, .slice A n c, .slice B m d]] w (Gives (.bool true) w) := by
  have B0 := Lib.hid (below_new w (.cells #[.bool s, .slice A n c, .slice B m d] 25))
  have H0 := Lib.hid (FB.new w s A n c B m d)
  have AH := Lib.hid AW
  have T0 := Lib.hid ht
  obtain ⟨Ha, Hb, Hc, _, _, _⟩ := H0.out.facts
  have V1 := Lib.hid (v _ B0.out)
  clear v
  clear ht AW
  go_enter Tryz.func4, Tryz.ntmps4
  go_wp2_with fail
  refine V1.out.mono ?_
  rintro e w1 ⟨rfl, hb⟩
  have B1 := Lib.hid (B0.out.trans (hb.mono B0.out.size))
  clear hb
  go_wp2_with fail
  refine (AH.out _ (T0.out.keep B1.out)).mono ?_
  rintro e w9 ⟨rfl, hb⟩
  have B9 := Lib.hid (B1.out.trans (hb.mono B1.out.size))
  clear hb
  go_wp2
  go_ret
  exact ⟨rfl, B9.out⟩
theorem ups_walk_of (AW : ∀ w, Tab w → Calls Tryz.prog 13 #[] w (Gives (.bool true) w)) (s : Bool) (A : Option Addr) (n c : Nat) (z0 : List Int) (B : Option Addr) (m d : Nat) (z1 : List Int) (w : World) (w0 : IsRow .u32 w A n c z0) (w1 : IsRow .u32 w B m d z1) (ht : Tab w) :
    Calls Tryz.prog 4 #[.agg #[.bool s, .slice A n c, .slice B m d]] w (Gives (.bool true) w) := by
  rcases Nat.lt_or_ge 20 n with h1 | h1
  · exact ups_long1 AW s A B n c m d w h1 w0.len_le ht
  rcases Nat.lt_or_ge 20 m with h2 | h2
  · exact ups_long2 AW s A B n c m d w h1 h2 w1.len_le ht
  obtain ⟨xs, hx⟩ := w0.lst (by omega)
  obtain ⟨ys, hy⟩ := w1.lst (by omega)
  obtain ⟨b, hb, hv⟩ := rvalid_ok s A B n c m d xs ys w hx hy h1 h2
  cases b
  · exact ups_no AW s A B n c m d w h1 h2 hv ht
  · obtain ⟨p, q, hp, hq, ok⟩ := hb rfl
    exact ups_main AW s A B n c m d p q xs ys w hp hq ok h1 h2 ht hv
theorem ups_walk (s : Bool) (A : Option Addr) (n c : Nat) (z0 : List Int) (B : Option Addr) (m d : Nat) (z1 : List Int) (w : World) (w0 : IsRow .u32 w A n c z0) (w1 : IsRow .u32 w B m d z1) (ht : Tab w) :
    Calls Tryz.prog 4 #[.agg #[.bool s, .slice A n c, .slice B m d]] w (Gives (.bool true) w) := ups_walk_of (awake5_of share_any) s A n c z0 B m d z1 w w0 w1 ht
end Go.Proofs.YtbllnkhbahenkaaGreatDoor
