/- The walk of SetupChecks: no claim of its own. -/
import Derived.Test.YtnpkjobbolijbaaGreatDoorUAwake
import Derived.Test.YtnpkjobbolijbaaGreatDoorJRk
import Derived.Test.YtnpkjobbolijbaaGreatDoorJUb
namespace Go.Proofs.YtnpkjobbolijbaaGreatDoor
open Go.RowKit
open MU (Su Cp As)
/-- A setup that came in. -/
structure SuIn (w : World) (A1 : Option Addr) (n1 c1 : Nat) (A2 : Option Addr) (n2 c2 : Nat) (A3 : Option Addr) (n3 c3 : Nat) (A4 : Option Addr) (n4 c4 : Nat) (s : Su) : Prop where
  ps : PrsIn w A1 n1 c1 s.ps
  bs : LstIn bdE w A2 n2 c2 s.bs
  cs : LstIn cpE w A3 n3 c3 s.cs
  as_ : LstIn asdE w A4 n4 c4 s.as_
theorem SuIn.at {w : World} {A1 : Option Addr} {n1 c1 : Nat} {A2 : Option Addr} {n2 c2 : Nat} {A3 : Option Addr} {n3 c3 : Nat} {A4 : Option Addr} {n4 c4 : Nat} {s : Su} (h : SuIn w A1 n1 c1 A2 n2 c2 A3 n3 c3 A4 n4 c4 s) (hn : n1 ≤ 5000) : SuAt w A1 n1 c1 A2 n2 c2 A3 n3 c3 A4 n4 c4 s := ⟨h.ps.prs hn, h.bs.lst, h.cs.lst, h.as_.lst⟩
set_option maxRecDepth 100000 in
set_option maxHeartbeats 4000000 in
theorem setupChecks_walk (A1 : Option Addr) (n1 c1 : Nat) (A2 : Option Addr) (n2 c2 : Nat) (A3 : Option Addr) (n3 c3 : Nat) (A4 : Option Addr) (n4 c4 : Nat) (s : Su) (w : World) (h : SuIn w A1 n1 c1 A2 n2 c2 A3 n3 c3 A4 n4 c4 s) (ht : Tab w) :
    Calls Tryz.prog 3 #[.agg #[.slice A1 n1 c1, .slice A2 n2 c2, .slice A3 n3 c3, .slice A4 n4 c4]] w (Gives (.bool true) w) := by
  have TB0 := Lib.hid (TB.new w 27 (.slice A1 n1 c1) (.slice A2 n2 c2) (.slice A3 n3 c3) (.slice A4 n4 c4))
  have B0 := Lib.hid (below_new w (.cells #[.slice A1 n1 c1, .slice A2 n2 c2, .slice A3 n3 c3, .slice A4 n4 c4] 27))
  have AW := Lib.hid (fun w' (hb : Below w.heap.size w w') => awake_any w' (ht.keep hb))
  have HH := Lib.hid h
  clear ht h
  obtain ⟨t0, t1, t2, t3⟩ := TB0.out.cells
  have hmo : Tryz.prog.follows .mixedOrders = true := by kernel_rfl
  go_enter Tryz.func3, Tryz.ntmps3
  go_wp2_with fail
  obtain ⟨W0, hW0⟩ : ∃ W0, W0 = w.alloc (.cells #[.slice A1 n1 c1, .slice A2 n2 c2, .slice A3 n3 c3, .slice A4 n4 c4] 27) := ⟨_, rfl⟩
  rw [← hW0] at TB0 B0 ⊢
  clear hW0 t0 t1 t2 t3
  refine (great_any A1 n1 c1 A2 n2 c2 A3 n3 c3 A4 n4 c4 W0).mono ?_
  rintro e w1 ⟨rfl, hb⟩
  have TB1 := Lib.hid (TB0.out.keep hb)
  have B1 := Lib.hid (B0.out.trans (hb.mono B0.out.size))
  clear hb TB0 B0
  by_cases hg : (decide (50 < n1) || decide (50 < n2) || decide (50 < n3) || decide (50 < n4)) = true
  · rw [hg]
    clear hg HH
    go_wp2_with fail
    refine (AW.out _ B1.out).mono ?_
    rintro e w2 ⟨rfl, hb⟩
    have B2 := Lib.hid (B1.out.trans (hb.mono B1.out.size))
    clear hb
    go_wp2
    go_ret
    exact ⟨rfl, B2.out⟩
  · have hn : n1 ≤ 5000 := by
      simp at hg
      omega
    have HS := Lib.hid (HH.out.at hn)
    have hg' := Bool.eq_false_iff.2 hg
    rw [hg']
    have P1 := Lib.hid (fun w' (hb : Below w.heap.size w w') => pcheck_any A1 n1 c1 A2 n2 c2 A3 n3 c3 A4 n4 c4 s w' (HS.out.keep hb))
    have P2 := Lib.hid (fun w' (hb : Below w.heap.size w w') => rcheck10_any A1 n1 c1 A2 n2 c2 A3 n3 c3 A4 n4 c4 s w' (HS.out.keep hb))
    generalize MU.chkS s = er at *
    have de : (er == er) = true := beq_self_eq_true er
    clear hg hg' HH HS hn
    go_wp2
    have TB2 := Lib.hid (TB1.out.keep (below_drawn w1))
    have B2 := Lib.hid (B1.out.trans ((below_drawn w1).mono B1.out.size))
    clear TB1 B1
    refine wp_region_held_drew (S := fun w' => TB w' w.heap.size 27 (.slice A1 n1 c1) (.slice A2 n2 c2) (.slice A3 n3 c3) (.slice A4 n4 c4)) (by kernel_rfl) TB2.out (fun hHeld => ?_)
    refine wpAnyH_take (i := 0) (oi := { dst := some 6, op := Op.load 27 (Operand.tmp 1), type := 27, pos := "law.go:36", after := #[], guard := none }) (v := ?_) rfl (by kernel_rfl) (by kernel_rfl) (by kernel_rfl) (fun _ _ _ h => h) (Or.inl ⟨by rfl, ?_⟩) (by assumption) ?_
    rotate_left
    · intro w hSw; (try dsimp only at hSw); obtain ⟨t0, t1, t2, t3⟩ := hSw.cells; go_simp; try with_reducible rfl
    (try simp only [Act.put, List.setIfInBounds_toArray, List.set_cons_zero, List.set_cons_succ])
    refine wpAnyH_take (i := 2) (oi := { dst := some 8, op := Op.load 27 (Operand.tmp 1), type := 27, pos := "law.go:36", after := #[], guard := none }) (v := ?_) rfl (by kernel_rfl) (by kernel_rfl) (by kernel_rfl) (fun _ _ _ h => h) (Or.inl ⟨by rfl, ?_⟩) (by assumption) ?_
    rotate_left
    · intro w hSw; (try dsimp only at hSw); obtain ⟨t0, t1, t2, t3⟩ := hSw.cells; go_simp; try with_reducible rfl
    (try simp only [Act.put, List.setIfInBounds_toArray, List.set_cons_zero, List.set_cons_succ])
    refine wpAnyH_ready (rs := [1]) (by kernel_rfl) (by simp) ?_
    refine AllReadyH.cons (o := { dst := some 7, op := Op.call { callee := Callee.value (Operand.func 12), args := #[Operand.tmp 6], argTypes := #[27] }, type := 30, pos := "law.go:36", after := #[{ on := 0, ground := Ground.data }], guard := none }) rfl (fun K hK => ?_) AllReadyH.nil
    go_simp
    refine (P1.out _ B2.out).mono ?_
    rintro e w3 ⟨rfl, hb⟩
    have TB3 := Lib.hid (TB2.out.keep hb)
    have B3 := Lib.hid (B2.out.trans (hb.mono B2.out.size))
    clear hb
    refine hK.out _ _ ?_ (fun hHeld => ?_)
    · exact TB3.out
    clear hK K
    (try simp only [Act.put, List.setIfInBounds_toArray, List.set_cons_zero, List.set_cons_succ])
    refine wpAnyH_ready (rs := [3]) (by kernel_rfl) (by simp) ?_
    refine AllReadyH.cons (o := { dst := some 9, op := Op.call { callee := Callee.value (Operand.func 13), args := #[Operand.tmp 8], argTypes := #[27] }, type := 30, pos := "law.go:36", after := #[{ on := 2, ground := Ground.data }, { on := 1, ground := Ground.chain }], guard := none }) rfl (fun K hK => ?_) AllReadyH.nil
    go_simp
    refine (P2.out _ B3.out).mono ?_
    rintro e w4 ⟨rfl, hb⟩
    have TB4 := Lib.hid (TB3.out.keep hb)
    have B4 := Lib.hid (B3.out.trans (hb.mono B3.out.size))
    clear hb
    refine hK.out _ _ ?_ (fun hHeld => ?_)
    · exact TB4.out
    clear hK K
    (try simp only [Act.put, List.setIfInBounds_toArray, List.set_cons_zero, List.set_cons_succ])
    refine wpAnyH_take (i := 4) (oi := { dst := some 10, op := Op.binOp BinOp.eql 30 (Operand.tmp 7) (Operand.tmp 9) 30, type := 4, pos := "law.go:36", after := #[{ on := 1, ground := Ground.data }, { on := 3, ground := Ground.data }], guard := none }) (v := ?_) rfl (by kernel_rfl) (by kernel_rfl) (by kernel_rfl) (fun _ _ _ h => h) (Or.inl ⟨by rfl, ?_⟩) (by assumption) ?_
    rotate_left
    · intro w hSw; (try dsimp only at hSw); obtain ⟨t0, t1, t2, t3⟩ := hSw.cells; go_simp; try with_reducible rfl
    (try simp only [Act.put, List.setIfInBounds_toArray, List.set_cons_zero, List.set_cons_succ])
    refine wpAnyH_take (i := 5) (oi := { dst := some 11, op := Op.move (Operand.tmp 10), type := 4, pos := "law.go:36", after := #[{ on := 4, ground := Ground.data }, { on := 3, ground := Ground.chain }], guard := none }) (v := ?_) rfl (by kernel_rfl) (by kernel_rfl) (by kernel_rfl) (fun _ _ _ h => h) (Or.inl ⟨by rfl, ?_⟩) (by assumption) ?_
    rotate_left
    · intro w hSw; (try dsimp only at hSw); obtain ⟨t0, t1, t2, t3⟩ := hSw.cells; go_simp; try with_reducible rfl
    (try simp only [Act.put, List.setIfInBounds_toArray, List.set_cons_zero, List.set_cons_succ])
    refine wpAnyH_ready (rs := [6]) (by kernel_rfl) (by simp) ?_
    refine AllReadyH.cons (o := { dst := some 12, op := Op.call { callee := Callee.value (Operand.func 11), args := #[], argTypes := #[] }, type := 4, pos := "law.go:36", after := #[{ on := 5, ground := Ground.chain }, { on := 5, ground := Ground.guard }], guard := some (5, true) }) rfl (fun K hK => ?_) AllReadyH.nil
    go_simp
    refine (AW.out _ B4.out).mono ?_
    rintro e w5 ⟨rfl, hb⟩
    have TB5 := Lib.hid (TB4.out.keep hb)
    have B5 := Lib.hid (B4.out.trans (hb.mono B4.out.size))
    clear hb
    refine hK.out _ _ ?_ (fun hHeld => ?_)
    · exact TB5.out
    clear hK K
    (try simp only [Act.put, List.setIfInBounds_toArray, List.set_cons_zero, List.set_cons_succ])
    refine wpAnyH_take (i := 7) (oi := { dst := some 13, op := Op.pick (Operand.tmp 11) (Operand.tmp 12) (Operand.const (Value.bool false)), type := 4, pos := "law.go:36", after := #[{ on := 5, ground := Ground.data }, { on := 6, ground := Ground.data }], guard := none }) (v := ?_) rfl (by kernel_rfl) (by kernel_rfl) (by kernel_rfl) (fun _ _ _ h => h) (Or.inl ⟨by rfl, ?_⟩) (by assumption) ?_
    rotate_left
    · intro w hSw; (try dsimp only at hSw); obtain ⟨t0, t1, t2, t3⟩ := hSw.cells; go_simp; try with_reducible rfl
    (try simp only [Act.put, List.setIfInBounds_toArray, List.set_cons_zero, List.set_cons_succ])
    refine wpAnyH_take (i := 8) (oi := { dst := some 2, op := Op.assign (Operand.tmp 13), type := 4, pos := "law.go:36", after := #[{ on := 7, ground := Ground.data }, { on := 6, ground := Ground.chain }, { on := 0, ground := Ground.phase }, { on := 1, ground := Ground.phase }, { on := 2, ground := Ground.phase }, { on := 3, ground := Ground.phase }, { on := 4, ground := Ground.phase }, { on := 5, ground := Ground.phase }, { on := 6, ground := Ground.phase }, { on := 7, ground := Ground.phase }], guard := none }) (v := ?_) rfl (by kernel_rfl) (by kernel_rfl) (by kernel_rfl) (fun _ _ _ h => h) (Or.inl ⟨by rfl, ?_⟩) (by assumption) ?_
    rotate_left
    · intro w hSw; (try dsimp only at hSw); obtain ⟨t0, t1, t2, t3⟩ := hSw.cells; go_simp; try with_reducible rfl
    (try simp only [Act.put, List.setIfInBounds_toArray, List.set_cons_zero, List.set_cons_succ])
    refine wpAnyH_done (by kernel_rfl) ?_ _
    go_wp2
    go_ret
    exact ⟨rfl, by first | exact B5.out | exact B5.out.drew⟩
end Go.Proofs.YtnpkjobbolijbaaGreatDoor
