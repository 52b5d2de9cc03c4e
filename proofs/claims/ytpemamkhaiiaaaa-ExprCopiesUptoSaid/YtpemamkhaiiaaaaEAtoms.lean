/- Atoms: no claim of its own. -/
import Derived.Test.YtpemamkhaiiaaaaEAtoms0
import Derived.Deep.RegionHeld3
namespace Go.Proofs.Ytpemamkhaiiaaaa
open Go.RowKit
open ME (F Nd)
theorem OwnL.turn {α : Type} {E : El α} {e : TypeId} {w w' : World} {B : Nat} {v : Value} {l : List α} {row : Option Nat} (h : OwnL E e w B v l) (hg : w.grownBy w' row) (hne : v.ownBlock = none ∨ v.ownBlock ≠ row) : OwnL E e w' B v l := ⟨h.1.kept hg hne, h.2⟩
/-- What the step hands back. -/
theorem at_done {w w9 : World} {g0 gg cp cv : Nat} {Av : Option Addr} {L : List NT} {y : NT} {s : List Nd} {n : Nd} {ln : Nat} (hw : OwnL ntE 26 w9 (g0 + 1) (.slice (some ⟨gg, 0, none⟩) (L.length + 1) cp) (L ++ [y])) (hv : V1 w9 g0 24 (.slice (some ⟨gg, 0, none⟩) (L.length + 1) cp))
    (hl : ∀ z ∈ L, z.Rk w9 (fun k => g0 + 1 ≤ k ∧ k ≠ gg) ∧ z.Al) (hy : y.Rk w9 (fun k => g0 + 1 ≤ k ∧ k ≠ gg)) (hya : y.Al) (hyn : y.n = n) (he : L.map NT.n = s) (hk : Kx (fun k => k = g0 ∨ (.slice Av ln cv : Value).ownBlock = some k) w w9) (hd : (.slice Av ln cv : Value).ownBlock = some gg ∨ w.heap.size ≤ gg) :
    Vis (InA g0) (fun k => k = g0 ∨ (.slice Av ln cv : Value).ownBlock = some k) w (s ++ [n], true) (.returned (.bool true)) w9 := by
  refine ⟨rfl, _, ⟨⟨_, L ++ [y], ⟨hv, hw, by rw [List.map_append, he, List.map_singleton, hyn], fun z hz => ?_⟩, rfl⟩, hk, fun k q => ?_⟩⟩
  · have mono : ∀ z : NT, z.Rk w9 (fun k => g0 + 1 ≤ k ∧ k ≠ gg) → z.Rk w9 (fun k => g0 + 1 ≤ k ∧ (.slice (some ⟨gg, 0, none⟩) (L.length + 1) cp : Value).ownBlock ≠ some k) := fun z q => q.keep (fun _ _ _ => rfl) (Nat.le_refl _) (fun k p _ => ⟨p.1, fun e => p.2 (Option.some.inj e).symm⟩)
    rcases List.mem_append.1 hz with q | q
    · exact ⟨mono z (hl z q).1, (hl z q).2⟩
    · rw [List.mem_singleton.1 q]; exact ⟨mono y hy, hya⟩
  · rcases q with q | q
    · exact .inl (.inl q)
    · have e : gg = k := Option.some.inj q
      subst e
      exact hd.imp (fun q => .inr q) (fun q => q)
theorem at_done2 {g0 : Nat} {D : Nat → Prop} {w w9 : World} {R Q : List Nd × Bool} {e : Ending} (h : R = Q) (q : Vis (InA g0) D w Q e w9) : Vis (InA g0) D w R e w9 := by rw [h]; exact q
set_option maxRecDepth 100000 in
set_option maxHeartbeats 16000000 in
theorem atom_step (g0 : Nat) : Steps 21 #[.pointer (some ⟨g0, 0, none⟩)] (InA g0) atomSt canA where
  less _ _ h := by unfold canA at *; omega
  next m s n h := by
    unfold canA atomSt at *
    dsimp only
    split
    · rw [List.length_append, List.length_singleton]; omega
    · omega
  enters := enters_of Try.func21 (by kernel_rfl) rfl
  lt s D w h k hk := by
    obtain ⟨v, L, hA, rfl⟩ := h
    rcases hk with q | q
    · rw [q]; exact hA.var.lt
    · exact (World.ownsRow.lt hA.own.1 k q).2
  keep s D w w' h hb := by
    obtain ⟨v, L, hA, rfl⟩ := h
    exact ⟨v, L, ⟨hA.var.keep hb, hA.own.keep hb, hA.eq, fun z hz => ⟨(hA.ok z hz).1.below hb, (hA.ok z hz).2⟩⟩, rfl⟩
  call s D w x hcan hxs h hok := by
    obtain ⟨v0, L, hA, rfl⟩ := h
    have hll : L.length + 1 ≤ 2000000 := by unfold canA at hcan; rw [← hA.eq, List.length_map] at hcan; exact hcan
    obtain ⟨Av, cv, rfl, _, _⟩ := hA.own.form2 (by omega)
    have hvb : ∀ k, (.slice Av L.length cv : Value).ownBlock = some k → g0 + 1 ≤ k ∧ k < w.heap.size := fun k q => World.ownsRow.lt hA.own.1 k q
    have hg0 : g0 < w.heap.size := hA.var.lt
    have CC := Lib.hid (copy_any x hxs)
    obtain ⟨i0, hi, hz0, hz1, hz2⟩ := info_parts infoExpr
    obtain ⟨o, b, v, A, c, k⟩ := x
    obtain ⟨x0, x1, x2, x3, x4, x5, rfl⟩ := six hok.six
    have HB := Lib.hid (below_new w (.cells #[.int .i64 o, .int .i64 x0, .int .i64 x1, .int .i64 x2, .int .i64 x3, .int .i64 x4, .int .i64 x5, .int .i64 v, .slice A k.len c] 26))
    have HX0 : Hid (B9 (w.alloc (.cells #[.int .i64 o, .int .i64 x0, .int .i64 x1, .int .i64 x2, .int .i64 x3, .int .i64 x4, .int .i64 x5, .int .i64 v, .slice A k.len c] 26)) w.heap.size (.int .i64 o) (.int .i64 x0) (.int .i64 x1) (.int .i64 x2) (.int .i64 x3) (.int .i64 x4) (.int .i64 x5) (.int .i64 v) (.slice A k.len c)) := Lib.hid (heap_new _ _)
    have HA1 : Hid (AtI g0 s (.slice Av L.length cv) L (w.alloc (.cells #[.int .i64 o, .int .i64 x0, .int .i64 x1, .int .i64 x2, .int .i64 x3, .int .i64 x4, .int .i64 x5, .int .i64 v, .slice A k.len c] 26))) := Lib.hid ⟨hA.var.keep HB.out, hA.own.keep HB.out, hA.eq, fun z hz => ⟨(hA.ok z hz).1.below HB.out, (hA.ok z hz).2⟩⟩
    have HO0 := Lib.hid (hok.below HB.out)
    rw [NT.val_lit] at CC ⊢
    obtain ⟨W0, hW0⟩ : ∃ W0, W0 = w.alloc (.cells #[.int .i64 o, .int .i64 x0, .int .i64 x1, .int .i64 x2, .int .i64 x3, .int .i64 x4, .int .i64 x5, .int .i64 v, .slice A k.len c] 26) := ⟨_, rfl⟩
    rw [← hW0] at HB HX0 HA1 HO0
    clear hok hA hcan hxs
    show Calls Try.prog _ #[.agg #[.int .i64 o, .int .i64 x0, .int .i64 x1, .int .i64 x2, .int .i64 x3, .int .i64 x4, .int .i64 x5, .int .i64 v, .slice A k.len c], .pointer (some ⟨g0, 0, none⟩)] w _
    obtain ⟨R, hR⟩ : ∃ R, atomSt s (NT.n ⟨o, [x0, x1, x2, x3, x4, x5], v, A, c, k⟩) = R := ⟨_, rfl⟩
    rw [hR]
    have HR := Lib.hid hR
    clear hR
    go_enter Try.func21, Try.ntmps21
    go_upto_region 1 with (fail)
    rw [← hW0]
    clear hW0
    obtain ⟨a0, a1, a2, a3, a4, a5, a6, a7, a8⟩ := HX0.out.cells
    by_cases h1 : o = 1
    · have e1 : (o == 1) = true := beq_iff_eq.2 h1
      have ES : Hid (R = (s ++ [NT.n ⟨o, [x0, x1, x2, x3, x4, x5], v, A, c, k⟩], true)) := Lib.hid (by rw [← HR.out]; unfold atomSt; rw [if_pos (show (NT.n ⟨o, [x0, x1, x2, x3, x4, x5], v, A, c, k⟩).o = 1 from h1)])
      have hli : (L.length : Int) < (L.length : Int) + 1 := by omega
      go_upto_region 2 with (fail)
      have HX := Lib.hid (HX0.out.keep (below_drawn W0))
      have HV := Lib.hid (HA1.out.var.keep (below_drawn W0))
      have HEQ := Lib.hid HA1.out.eq
      have HS : Hid (AtS w g0 (fun k => k = g0 ∨ (.slice Av L.length cv : Value).ownBlock = some k) (.slice Av L.length cv) L W0.drew) := Lib.hid ⟨HA1.out.own.keep (below_drawn W0), fun z hz => ⟨(HA1.out.ok z hz).1.below (below_drawn W0), (HA1.out.ok z hz).2⟩, Kx.of_below (HB.out.trans ((below_drawn W0).mono HB.out.size))⟩
      have HO := Lib.hid (HO0.out.below (below_drawn W0))
      clear HX0 HA1 HO0 HB HR e1 h1 a0 a1 a2 a3 a4 a5 a6 a7 a8
      refine wp_region_held_drew (S := fun w' => B9 w' w.heap.size (.int .i64 o) (.int .i64 x0) (.int .i64 x1) (.int .i64 x2) (.int .i64 x3) (.int .i64 x4) (.int .i64 x5) (.int .i64 v) (.slice A k.len c)) (by kernel_rfl) HX.out (fun hHeld => ?_)
      generalize W0.drew = X at *
      refine wpAnyH_take (i := 1) (oi := { dst := some 8, op := Op.load 26 (Operand.tmp 2), type := 26, pos := "expr.go:56", after := #[], guard := none }) (v := ?_) rfl (by kernel_rfl) (by kernel_rfl) (by kernel_rfl) (fun _ _ _ h => h) (Or.inl ⟨by rfl, ?_⟩) (by assumption) ?_
      rotate_left
      · intro w hSw; (try dsimp only at hSw); obtain ⟨a0, a1, a2, a3, a4, a5, a6, a7, a8⟩ := hSw.cells; go_simp; try with_reducible rfl
      (try simp only [Act.put, List.setIfInBounds_toArray, List.set_cons_zero, List.set_cons_succ])
      refine wpAnyH_ready (rs := [0, 2, 4]) (by kernel_rfl) (by simp) ?_
      refine AllReadyH.cons (o := { dst := some 7, op := Op.load 24 (Operand.tmp 1), type := 24, pos := "expr.go:56", after := #[], guard := none }) rfl (fun K hK => ?_) (AllReadyH.cons (o := { dst := some 9, op := Op.call { callee := Callee.value (Operand.func 6), args := #[Operand.tmp 8], argTypes := #[26] }, type := 26, pos := "expr.go:56", after := #[{ on := 1, ground := Ground.data }], guard := none }) rfl (fun K hK => ?_) (AllReadyH.cons (o := { dst := some 11, op := Op.buildSlice 24 1 #[(0, Operand.const (Value.agg #[Value.int IntKind.i64 0, Value.int IntKind.i64 0, Value.int IntKind.i64 0, Value.int IntKind.i64 0, Value.int IntKind.i64 0, Value.int IntKind.i64 0, Value.int IntKind.i64 0, Value.int IntKind.i64 0, Value.slice none 0 0]))], type := 24, pos := "expr.go:56", after := #[], guard := none }) rfl (fun K hK => ?_) AllReadyH.nil))
      · have c0 := HV.out.cell
        go_simp
        refine hK.out _ _ ?_ (fun hHeld => ?_)
        · exact HX.out
        clear c0
        clear hK K
        (try simp only [Act.put, List.setIfInBounds_toArray, List.set_cons_zero, List.set_cons_succ])
        refine wpAnyH_take (i := 3) (oi := { dst := some 10, op := Op.call { callee := Callee.builtin Builtin.len, args := #[Operand.tmp 7], argTypes := #[24] }, type := 3, pos := "expr.go:56", after := #[{ on := 0, ground := Ground.data }], guard := none }) (v := ?_) rfl (by kernel_rfl) (by kernel_rfl) (by kernel_rfl) (fun _ _ _ h => h) (Or.inl ⟨by rfl, ?_⟩) (by assumption) ?_
        rotate_left
        · intro w hSw; (try dsimp only at hSw); obtain ⟨a0, a1, a2, a3, a4, a5, a6, a7, a8⟩ := hSw.cells; go_simp; try with_reducible rfl
        (try simp only [Act.put, List.setIfInBounds_toArray, List.set_cons_zero, List.set_cons_succ])
        refine wpAnyH_ready (rs := [2, 4]) (by kernel_rfl) (by simp) ?_
        refine AllReadyH.cons (o := { dst := some 9, op := Op.call { callee := Callee.value (Operand.func 6), args := #[Operand.tmp 8], argTypes := #[26] }, type := 26, pos := "expr.go:56", after := #[{ on := 1, ground := Ground.data }], guard := none }) rfl (fun K hK => ?_) (AllReadyH.cons (o := { dst := some 11, op := Op.buildSlice 24 1 #[(0, Operand.const (Value.agg #[Value.int IntKind.i64 0, Value.int IntKind.i64 0, Value.int IntKind.i64 0, Value.int IntKind.i64 0, Value.int IntKind.i64 0, Value.int IntKind.i64 0, Value.int IntKind.i64 0, Value.int IntKind.i64 0, Value.slice none 0 0]))], type := 24, pos := "expr.go:56", after := #[], guard := none }) rfl (fun K hK => ?_) AllReadyH.nil)
        · go_simp
          refine (CC.out _ _ HO.out).mono ?_
          rintro ev w5 ⟨y, rfl, hyn, hyo, hya, hb⟩
          obtain ⟨oy, byy, vy, Ay, cy, ky⟩ := y
          obtain ⟨q0, q1, q2, q3, q4, q5, rfl⟩ := six hyo.six
          have HY := Lib.hid (hyo.keep (ok' := fun k => w.heap.size < k) (fun _ _ _ => rfl) (Nat.le_refl _) (fun k q _ => by have := HX.out.lt; omega))
          have HYN := Lib.hid hyn
          have HYA := Lib.hid hya
          replace HS := Lib.hid (HS.out.keep hb)
          replace HX := Lib.hid (HX.out.keep hb)
          replace HV := Lib.hid (HV.out.keep hb)
          rw [NT.val_lit]
          clear hyn hyo hya hb HO CC
          refine hK.out _ _ ?_ (fun hHeld => ?_)
          · exact HX.out
          clear hK K
          (try simp only [Act.put, List.setIfInBounds_toArray, List.set_cons_zero, List.set_cons_succ])
          refine wpAnyH_ready (rs := [4]) (by kernel_rfl) (by simp) ?_
          refine AllReadyH.cons (o := { dst := some 11, op := Op.buildSlice 24 1 #[(0, Operand.const (Value.agg #[Value.int IntKind.i64 0, Value.int IntKind.i64 0, Value.int IntKind.i64 0, Value.int IntKind.i64 0, Value.int IntKind.i64 0, Value.int IntKind.i64 0, Value.int IntKind.i64 0, Value.int IntKind.i64 0, Value.slice none 0 0]))], type := 24, pos := "expr.go:56", after := #[], guard := none }) rfl (fun K hK => ?_) AllReadyH.nil
          go_simp
          have hb := below_new w5 (.cells #[.int .i64 0, .int .i64 0, .int .i64 0, .int .i64 0, .int .i64 0, .int .i64 0, .int .i64 0, .int .i64 0, .slice none 0 0] 26)
          have HZ := Lib.hid (heap_new w5 (.cells #[.int .i64 0, .int .i64 0, .int .i64 0, .int .i64 0, .int .i64 0, .int .i64 0, .int .i64 0, .int .i64 0, .slice none 0 0] 26))
          replace HS := Lib.hid (HS.out.keep hb)
          replace HX := Lib.hid (HX.out.keep hb)
          replace HV := Lib.hid (HV.out.keep hb)
          replace HY := Lib.hid (HY.out.below hb)
          clear hb
          refine hK.out _ _ ?_ (fun hHeld => ?_)
          · exact HX.out
          obtain ⟨w6, hw6⟩ : ∃ w6, w6 = w5.alloc (.cells #[.int .i64 0, .int .i64 0, .int .i64 0, .int .i64 0, .int .i64 0, .int .i64 0, .int .i64 0, .int .i64 0, .slice none 0 0] 26) := ⟨_, rfl⟩
          rw [← hw6] at HZ HS HX HV HY ⊢
          clear hw6
          clear hK K
          (try simp only [Act.put, List.setIfInBounds_toArray, List.set_cons_zero, List.set_cons_succ])
          refine wpAnyH_ready (rs := [5]) (by kernel_rfl) (by simp) ?_
          refine AllReadyH.cons (o := { dst := some 12, op := Op.call { callee := Callee.builtin Builtin.append, args := #[Operand.tmp 7, Operand.tmp 11], argTypes := #[24, 24] }, type := 24, pos := "expr.go:56", after := #[{ on := 0, ground := Ground.data }, { on := 4, ground := Ground.data }, { on := 2, ground := Ground.chain }, { on := 0, ground := Ground.phase }, { on := 1, ground := Ground.phase }, { on := 2, ground := Ground.phase }, { on := 3, ground := Ground.phase }, { on := 4, ground := Ground.phase }], guard := none }) rfl (fun K hK => ?_) AllReadyH.nil
          have hlx := HX.out.lt
          refine step_append_lies _ (by rfl) _ _ _ (by rfl) (g0 + 1) 26 i0 (.agg #[.int .i64 0, .int .i64 0, .int .i64 0, .int .i64 0, .int .i64 0, .int .i64 0, .int .i64 0, .int .i64 0, .slice none 0 0]) 9 88 Try.underlying24 hi hz0 hz1 hz2 rfl (by decide) _ _ _ (by rfl) HS.out.own.1 ⟨w5.heap.size, 0, none⟩ 1 1 [.int .i64 0, .int .i64 0, .int .i64 0, .int .i64 0, .int .i64 0, .int .i64 0, .int .i64 0, .int .i64 0, .slice none 0 0] (by rfl) rfl ?c1 ?c2 (by decide) ?c4 ?c5 ?c6 _ rfl ?_
          case c1 => exact World.news_of_block HZ.out
          case c2 => exact ntE.one ntZ
          case c4 => unfold maxLen; omega
          case c5 => omega
          case c6 => omega
          intro gg cp w7 hown hgrow hat hlt7
          have T7 := HS.out.app hown hgrow hat rfl (fun k e => .inr e)
          have HW := Lib.hid T7.1
          have HL := Lib.hid T7.2.1
          have HK := Lib.hid T7.2.2
          have hgx : g0 + 1 ≤ gg ∧ gg ≠ w.heap.size := (by rcases hat with q | q; have := hvb gg q; omega; omega)
          have HD : Hid ((.slice Av L.length cv : Value).ownBlock = some gg ∨ w.heap.size ≤ gg) := Lib.hid (hat.imp (fun q => q) (fun q => by omega))
          replace HV := Lib.hid (show V1 w7 g0 24 (.slice Av L.length cv) from (hgrow.block g0 HV.out.lt (fun e => by have := hvb g0 e.symm; omega)).trans HV.out)
          have hx7 : w7.heap[w.heap.size]? = w6.heap[w.heap.size]? := hgrow.block _ hlx (fun e => by have := hvb _ e.symm; omega)
          replace HX := Lib.hid (HX.out.same hx7)
          replace HY := Lib.hid (grown_keep (ok' := fun k => g0 + 1 ≤ k ∧ k ≠ gg) hgrow HY.out (fun k q e => by have := hvb k e.symm; omega) (fun k q hl => ⟨by omega, fun e => by rcases hat with p | p; have := hvb gg p; omega; omega⟩))
          clear T7 hown hgrow hat hlt7 HS HZ hx7 hlx
          refine hK.out _ _ ?_ (fun hHeld => ?_)
          · exact HX.out
          clear hK K
          (try simp only [Act.put, List.setIfInBounds_toArray, List.set_cons_zero, List.set_cons_succ])
          refine wpAnyH_take (i := 6) (oi := { dst := some 13, op := Op.indexAddr 24 (Operand.tmp 12) (Operand.tmp 10), type := 0, pos := "expr.go:56", after := #[{ on := 5, ground := Ground.data }, { on := 3, ground := Ground.data }, { on := 0, ground := Ground.phase }, { on := 1, ground := Ground.phase }, { on := 2, ground := Ground.phase }, { on := 3, ground := Ground.phase }, { on := 4, ground := Ground.phase }, { on := 5, ground := Ground.phase }, { on := 8, ground := Ground.gcOnly Departure.appendInPlace }], guard := none }) (v := ?_) rfl (by kernel_rfl) (by kernel_rfl) (by kernel_rfl) (fun _ _ _ h => h) (Or.inl ⟨by rfl, ?_⟩) (by assumption) ?_
          rotate_left
          · intro w hSw; (try dsimp only at hSw); obtain ⟨a0, a1, a2, a3, a4, a5, a6, a7, a8⟩ := hSw.cells; go_simp; try with_reducible rfl
          (try simp only [Act.put, List.setIfInBounds_toArray, List.set_cons_zero, List.set_cons_succ])
          refine wpAnyH_ready (rs := [7, 8]) (by kernel_rfl) (by simp) ?_
          refine AllReadyH.cons (o := { dst := none, op := Op.store 26 (Operand.tmp 13) (Operand.tmp 9), type := 0, pos := "expr.go:56", after := #[{ on := 6, ground := Ground.data }, { on := 2, ground := Ground.data }, { on := 5, ground := Ground.chain }, { on := 0, ground := Ground.phase }, { on := 1, ground := Ground.phase }, { on := 2, ground := Ground.phase }, { on := 3, ground := Ground.phase }, { on := 4, ground := Ground.phase }, { on := 5, ground := Ground.phase }, { on := 8, ground := Ground.gcOnly Departure.appendInPlace }], guard := none }) rfl (fun K hK => ?_) (AllReadyH.cons (o := { dst := none, op := Op.store 24 (Operand.tmp 1) (Operand.tmp 12), type := 0, pos := "expr.go:56", after := #[{ on := 5, ground := Ground.data }, { on := 5, ground := Ground.chain }, { on := 7, ground := Ground.textOnly Departure.appendInPlace }, { on := 0, ground := Ground.phase }, { on := 1, ground := Ground.phase }, { on := 2, ground := Ground.phase }, { on := 3, ground := Ground.phase }, { on := 4, ground := Ground.phase }, { on := 5, ground := Ground.phase }, { on := 6, ground := Ground.textOnly Departure.appendInPlace }, { on := 7, ground := Ground.textOnly Departure.appendInPlace }], guard := none }) rfl (fun K hK => ?_) AllReadyH.nil)
          · obtain ⟨hcl, hfz⟩ := own_cells HW.out
            have d0 := hcl 0 _ rfl
            have d1 := hcl 1 _ rfl
            have d2 := hcl 2 _ rfl
            have d3 := hcl 3 _ rfl
            have d4 := hcl 4 _ rfl
            have d5 := hcl 5 _ rfl
            have d6 := hcl 6 _ rfl
            have d7 := hcl 7 _ rfl
            have d8 := hcl 8 _ rfl
            rw [Nat.add_zero] at d0
            have f0 := hfz (L.length * 9)
            have f1 := hfz (L.length * 9 + 1)
            have f2 := hfz (L.length * 9 + 2)
            have f3 := hfz (L.length * 9 + 3)
            have f4 := hfz (L.length * 9 + 4)
            have f5 := hfz (L.length * 9 + 5)
            have f6 := hfz (L.length * 9 + 6)
            have f7 := hfz (L.length * 9 + 7)
            have f8 := hfz (L.length * 9 + 8)
            clear hcl hfz
            go_simp
            rw [nest_q]
            obtain ⟨w8, hw8⟩ : ∃ w8, w8 = sets w7 gg (L.length * 9) [.int .i64 oy, .int .i64 q0, .int .i64 q1, .int .i64 q2, .int .i64 q3, .int .i64 q4, .int .i64 q5, .int .i64 vy, .slice Ay ky.len cy] := ⟨_, rfl⟩
            rw [← hw8]
            have gs : w7.grownBy w8 (some gg) := by rw [hw8]; exact grown_sets _ _
            have HW8 : Hid (OwnL ntE 26 w8 (g0 + 1) (.slice (some ⟨gg, 0, none⟩) (L.length + 1) cp) (L ++ [(⟨oy, [q0, q1, q2, q3, q4, q5], vy, Ay, cy, ky⟩ : NT)])) := Lib.hid (by rw [hw8]; exact own_last HW.out (list9 oy q0 q1 q2 q3 q4 q5 vy Ay ky.len cy) rfl)
            clear hw8 HW
            have HW := HW8
            clear HW8
            have hx8 : w8.heap[w.heap.size]? = w7.heap[w.heap.size]? := gs.block _ HX.out.lt (fun e => by injection e with e; omega)
            replace HX := Lib.hid (HX.out.same hx8)
            have hv8 : w8.heap[g0]? = w7.heap[g0]? := gs.block _ HV.out.lt (fun e => by injection e with e; omega)
            have HV8 : Hid (V1 w8 g0 24 (.slice Av L.length cv)) := Lib.hid (hv8.trans HV.out)
            clear HV
            have HV := HV8
            clear HV8 hx8 hv8
            replace HY := Lib.hid (grown_keep (ok' := fun k => g0 + 1 ≤ k ∧ k ≠ gg) gs HY.out (fun k q e => q.2 (Option.some.inj e)) (fun k q _ => q))
            have HL8 : Hid (∀ z ∈ L, z.Rk w8 (fun k => g0 + 1 ≤ k ∧ k ≠ gg) ∧ z.Al) := Lib.hid (fun z hz => And.intro (grown_keep gs (HL.out z hz).1 (fun k q e => q.2 (Option.some.inj e)) (fun k q _ => q)) (HL.out z hz).2)
            clear HL
            have HL := HL8
            clear HL8
            replace HK := Lib.hid (HK.out.grown gs (fun k e hk => .inr (by have e' := Option.some.inj e; subst e'; exact HD.out.elim (fun q => q) (fun q => by omega))))
            clear gs
            refine hK.out _ _ ?_ (fun hHeld => ?_)
            · exact HX.out
            clear d0 d1 d2 d3 d4 d5 d6 d7 d8 f0 f1 f2 f3 f4 f5 f6 f7 f8
            clear hK K
            (try simp only [Act.put, List.setIfInBounds_toArray, List.set_cons_zero, List.set_cons_succ])
            refine wpAnyH_ready (rs := [8]) (by kernel_rfl) (by simp) ?_
            refine AllReadyH.cons (o := { dst := none, op := Op.store 24 (Operand.tmp 1) (Operand.tmp 12), type := 0, pos := "expr.go:56", after := #[{ on := 5, ground := Ground.data }, { on := 5, ground := Ground.chain }, { on := 7, ground := Ground.textOnly Departure.appendInPlace }, { on := 0, ground := Ground.phase }, { on := 1, ground := Ground.phase }, { on := 2, ground := Ground.phase }, { on := 3, ground := Ground.phase }, { on := 4, ground := Ground.phase }, { on := 5, ground := Ground.phase }, { on := 6, ground := Ground.textOnly Departure.appendInPlace }, { on := 7, ground := Ground.textOnly Departure.appendInPlace }], guard := none }) rfl (fun K hK => ?_) AllReadyH.nil
            have c0 := HV.out.cell
            have f0 := HV.out.free
            go_simp
            obtain ⟨w9, hw9⟩ : ∃ w9, w9 = w8.setCell ⟨g0, 0, none⟩ (.slice (some ⟨gg, 0, none⟩) (L.length + 1) cp) := ⟨_, rfl⟩
            rw [← hw9]
            have gs : w8.grownBy w9 (some g0) := by rw [hw9]; exact grown_set _
            have HV9 : Hid (V1 w9 g0 24 (.slice (some ⟨gg, 0, none⟩) (L.length + 1) cp)) := Lib.hid (by rw [hw9]; exact HV.out.set _)
            clear hw9 HV c0 f0
            have HV := HV9
            clear HV9
            replace HW := Lib.hid (HW.out.turn gs (.inr (fun e => by have e' : some gg = some g0 := e; have e2 := Option.some.inj e'; omega)))
            have hx9 : w9.heap[w.heap.size]? = w8.heap[w.heap.size]? := gs.block _ HX.out.lt (fun e => by injection e with e; omega)
            replace HX := Lib.hid (HX.out.same hx9)
            clear hx9
            replace HY := Lib.hid (grown_keep (ok' := fun k => g0 + 1 ≤ k ∧ k ≠ gg) gs HY.out (fun k q e => by have e2 := Option.some.inj e; omega) (fun k q _ => q))
            have HL9 : Hid (∀ z ∈ L, z.Rk w9 (fun k => g0 + 1 ≤ k ∧ k ≠ gg) ∧ z.Al) := Lib.hid (fun z hz => And.intro (grown_keep gs (HL.out z hz).1 (fun k q e => by have e2 := Option.some.inj e; omega) (fun k q _ => q)) (HL.out z hz).2)
            clear HL
            have HL := HL9
            clear HL9
            replace HK := Lib.hid (HK.out.grown gs (fun k e _ => .inl (Option.some.inj e).symm))
            clear gs
            refine hK.out _ _ ?_ (fun hHeld => ?_)
            · exact HX.out
            clear hK K
            (try simp only [Act.put, List.setIfInBounds_toArray, List.set_cons_zero, List.set_cons_succ])
            refine wpAnyH_done (by kernel_rfl) ?_ _
            have FI := Lib.hid (at_done2 ES.out (at_done HW.out HV.out HL.out HY.out HYA.out HYN.out HEQ.out HK.out HD.out))
            clear hHeld ES HW HV HL HY HYA HYN HEQ HK HD HX
            go_wp2
            go_ret
            exact FI.out
          · have c0 := HV.out.cell
            have f0 := HV.out.free
            go_simp
            obtain ⟨w9, hw9⟩ : ∃ w9, w9 = w7.setCell ⟨g0, 0, none⟩ (.slice (some ⟨gg, 0, none⟩) (L.length + 1) cp) := ⟨_, rfl⟩
            rw [← hw9]
            have gs : w7.grownBy w9 (some g0) := by rw [hw9]; exact grown_set _
            have HV9 : Hid (V1 w9 g0 24 (.slice (some ⟨gg, 0, none⟩) (L.length + 1) cp)) := Lib.hid (by rw [hw9]; exact HV.out.set _)
            clear hw9 HV c0 f0
            have HV := HV9
            clear HV9
            replace HW := Lib.hid (HW.out.turn gs (.inr (fun e => by have e' : some gg = some g0 := e; have e2 := Option.some.inj e'; omega)))
            have hx9 : w9.heap[w.heap.size]? = w7.heap[w.heap.size]? := gs.block _ HX.out.lt (fun e => by injection e with e; omega)
            replace HX := Lib.hid (HX.out.same hx9)
            clear hx9
            replace HY := Lib.hid (grown_keep (ok' := fun k => g0 + 1 ≤ k ∧ k ≠ gg) gs HY.out (fun k q e => by have e2 := Option.some.inj e; omega) (fun k q _ => q))
            have HL9 : Hid (∀ z ∈ L, z.Rk w9 (fun k => g0 + 1 ≤ k ∧ k ≠ gg) ∧ z.Al) := Lib.hid (fun z hz => And.intro (grown_keep gs (HL.out z hz).1 (fun k q e => by have e2 := Option.some.inj e; omega) (fun k q _ => q)) (HL.out z hz).2)
            clear HL
            have HL := HL9
            clear HL9
            replace HK := Lib.hid (HK.out.grown gs (fun k e _ => .inl (Option.some.inj e).symm))
            clear gs
            refine hK.out _ _ ?_ (fun hHeld => ?_)
            · exact HX.out
            clear hK K
            (try simp only [Act.put, List.setIfInBounds_toArray, List.set_cons_zero, List.set_cons_succ])
            refine wpAnyH_ready (rs := [7]) (by kernel_rfl) (by simp) ?_
            refine AllReadyH.cons (o := { dst := none, op := Op.store 26 (Operand.tmp 13) (Operand.tmp 9), type := 0, pos := "expr.go:56", after := #[{ on := 6, ground := Ground.data }, { on := 2, ground := Ground.data }, { on := 5, ground := Ground.chain }, { on := 0, ground := Ground.phase }, { on := 1, ground := Ground.phase }, { on := 2, ground := Ground.phase }, { on := 3, ground := Ground.phase }, { on := 4, ground := Ground.phase }, { on := 5, ground := Ground.phase }, { on := 8, ground := Ground.gcOnly Departure.appendInPlace }], guard := none }) rfl (fun K hK => ?_) AllReadyH.nil
            obtain ⟨hcl, hfz⟩ := own_cells HW.out
            have d0 := hcl 0 _ rfl
            have d1 := hcl 1 _ rfl
            have d2 := hcl 2 _ rfl
            have d3 := hcl 3 _ rfl
            have d4 := hcl 4 _ rfl
            have d5 := hcl 5 _ rfl
            have d6 := hcl 6 _ rfl
            have d7 := hcl 7 _ rfl
            have d8 := hcl 8 _ rfl
            rw [Nat.add_zero] at d0
            have f0 := hfz (L.length * 9)
            have f1 := hfz (L.length * 9 + 1)
            have f2 := hfz (L.length * 9 + 2)
            have f3 := hfz (L.length * 9 + 3)
            have f4 := hfz (L.length * 9 + 4)
            have f5 := hfz (L.length * 9 + 5)
            have f6 := hfz (L.length * 9 + 6)
            have f7 := hfz (L.length * 9 + 7)
            have f8 := hfz (L.length * 9 + 8)
            clear hcl hfz
            go_simp
            rw [nest_q]
            obtain ⟨w8, hw8⟩ : ∃ w8, w8 = sets w9 gg (L.length * 9) [.int .i64 oy, .int .i64 q0, .int .i64 q1, .int .i64 q2, .int .i64 q3, .int .i64 q4, .int .i64 q5, .int .i64 vy, .slice Ay ky.len cy] := ⟨_, rfl⟩
            rw [← hw8]
            have gs : w9.grownBy w8 (some gg) := by rw [hw8]; exact grown_sets _ _
            have HW8 : Hid (OwnL ntE 26 w8 (g0 + 1) (.slice (some ⟨gg, 0, none⟩) (L.length + 1) cp) (L ++ [(⟨oy, [q0, q1, q2, q3, q4, q5], vy, Ay, cy, ky⟩ : NT)])) := Lib.hid (by rw [hw8]; exact own_last HW.out (list9 oy q0 q1 q2 q3 q4 q5 vy Ay ky.len cy) rfl)
            clear hw8 HW
            have HW := HW8
            clear HW8
            have hx8 : w8.heap[w.heap.size]? = w9.heap[w.heap.size]? := gs.block _ HX.out.lt (fun e => by injection e with e; omega)
            replace HX := Lib.hid (HX.out.same hx8)
            have hv8 : w8.heap[g0]? = w9.heap[g0]? := gs.block _ HV.out.lt (fun e => by injection e with e; omega)
            have HV8 : Hid (V1 w8 g0 24 (.slice (some ⟨gg, 0, none⟩) (L.length + 1) cp)) := Lib.hid (hv8.trans HV.out)
            clear HV
            have HV := HV8
            clear HV8 hx8 hv8
            replace HY := Lib.hid (grown_keep (ok' := fun k => g0 + 1 ≤ k ∧ k ≠ gg) gs HY.out (fun k q e => q.2 (Option.some.inj e)) (fun k q _ => q))
            have HL8 : Hid (∀ z ∈ L, z.Rk w8 (fun k => g0 + 1 ≤ k ∧ k ≠ gg) ∧ z.Al) := Lib.hid (fun z hz => And.intro (grown_keep gs (HL.out z hz).1 (fun k q e => q.2 (Option.some.inj e)) (fun k q _ => q)) (HL.out z hz).2)
            clear HL
            have HL := HL8
            clear HL8
            replace HK := Lib.hid (HK.out.grown gs (fun k e hk => .inr (by have e' := Option.some.inj e; subst e'; exact HD.out.elim (fun q => q) (fun q => by omega))))
            clear gs
            refine hK.out _ _ ?_ (fun hHeld => ?_)
            · exact HX.out
            clear d0 d1 d2 d3 d4 d5 d6 d7 d8 f0 f1 f2 f3 f4 f5 f6 f7 f8
            clear hK K
            (try simp only [Act.put, List.setIfInBounds_toArray, List.set_cons_zero, List.set_cons_succ])
            refine wpAnyH_done (by kernel_rfl) ?_ _
            have FI := Lib.hid (at_done2 ES.out (at_done HW.out HV.out HL.out HY.out HYA.out HYN.out HEQ.out HK.out HD.out))
            clear hHeld ES HW HV HL HY HYA HYN HEQ HK HD HX
            go_wp2
            go_ret
            exact FI.out
        · go_simp
          have hb := below_new X (.cells #[.int .i64 0, .int .i64 0, .int .i64 0, .int .i64 0, .int .i64 0, .int .i64 0, .int .i64 0, .int .i64 0, .slice none 0 0] 26)
          have HZ := Lib.hid (heap_new X (.cells #[.int .i64 0, .int .i64 0, .int .i64 0, .int .i64 0, .int .i64 0, .int .i64 0, .int .i64 0, .int .i64 0, .slice none 0 0] 26))
          replace HS := Lib.hid (HS.out.keep hb)
          replace HX := Lib.hid (HX.out.keep hb)
          replace HV := Lib.hid (HV.out.keep hb)
          replace HO := Lib.hid (HO.out.below hb)
          clear hb
          refine hK.out _ _ ?_ (fun hHeld => ?_)
          · exact HX.out
          obtain ⟨w6, hw6⟩ : ∃ w6, w6 = X.alloc (.cells #[.int .i64 0, .int .i64 0, .int .i64 0, .int .i64 0, .int .i64 0, .int .i64 0, .int .i64 0, .int .i64 0, .slice none 0 0] 26) := ⟨_, rfl⟩
          rw [← hw6] at HZ HS HX HV HO ⊢
          clear hw6
          clear hK K
          (try simp only [Act.put, List.setIfInBounds_toArray, List.set_cons_zero, List.set_cons_succ])
          refine wpAnyH_ready (rs := [2]) (by kernel_rfl) (by simp) ?_
          refine AllReadyH.cons (o := { dst := some 9, op := Op.call { callee := Callee.value (Operand.func 6), args := #[Operand.tmp 8], argTypes := #[26] }, type := 26, pos := "expr.go:56", after := #[{ on := 1, ground := Ground.data }], guard := none }) rfl (fun K hK => ?_) AllReadyH.nil
          go_simp
          refine (CC.out _ _ HO.out).mono ?_
          rintro ev w5 ⟨y, rfl, hyn, hyo, hya, hb⟩
          obtain ⟨oy, byy, vy, Ay, cy, ky⟩ := y
          obtain ⟨q0, q1, q2, q3, q4, q5, rfl⟩ := six hyo.six
          have HY := Lib.hid (hyo.keep (ok' := fun k => w.heap.size < k) (fun _ _ _ => rfl) (Nat.le_refl _) (fun k q _ => by have := HX.out.lt; omega))
          have HYN := Lib.hid hyn
          have HYA := Lib.hid hya
          replace HS := Lib.hid (HS.out.keep hb)
          replace HX := Lib.hid (HX.out.keep hb)
          replace HV := Lib.hid (HV.out.keep hb)
          replace HZ := Lib.hid ((hb.block _ (Array.getElem?_eq_some_iff.1 HZ.out).1).trans HZ.out)
          rw [NT.val_lit]
          clear hyn hyo hya hb HO CC
          refine hK.out _ _ ?_ (fun hHeld => ?_)
          · exact HX.out
          clear hK K
          (try simp only [Act.put, List.setIfInBounds_toArray, List.set_cons_zero, List.set_cons_succ])
          refine wpAnyH_ready (rs := [5]) (by kernel_rfl) (by simp) ?_
          refine AllReadyH.cons (o := { dst := some 12, op := Op.call { callee := Callee.builtin Builtin.append, args := #[Operand.tmp 7, Operand.tmp 11], argTypes := #[24, 24] }, type := 24, pos := "expr.go:56", after := #[{ on := 0, ground := Ground.data }, { on := 4, ground := Ground.data }, { on := 2, ground := Ground.chain }, { on := 0, ground := Ground.phase }, { on := 1, ground := Ground.phase }, { on := 2, ground := Ground.phase }, { on := 3, ground := Ground.phase }, { on := 4, ground := Ground.phase }], guard := none }) rfl (fun K hK => ?_) AllReadyH.nil
          have hlx := HX.out.lt
          refine step_append_lies _ (by rfl) _ _ _ (by rfl) (g0 + 1) 26 i0 (.agg #[.int .i64 0, .int .i64 0, .int .i64 0, .int .i64 0, .int .i64 0, .int .i64 0, .int .i64 0, .int .i64 0, .slice none 0 0]) 9 88 Try.underlying24 hi hz0 hz1 hz2 rfl (by decide) _ _ _ (by rfl) HS.out.own.1 ⟨X.heap.size, 0, none⟩ 1 1 [.int .i64 0, .int .i64 0, .int .i64 0, .int .i64 0, .int .i64 0, .int .i64 0, .int .i64 0, .int .i64 0, .slice none 0 0] (by rfl) rfl ?c1 ?c2 (by decide) ?c4 ?c5 ?c6 _ rfl ?_
          case c1 => exact World.news_of_block HZ.out
          case c2 => exact ntE.one ntZ
          case c4 => unfold maxLen; omega
          case c5 => omega
          case c6 => omega
          intro gg cp w7 hown hgrow hat hlt7
          have T7 := HS.out.app hown hgrow hat rfl (fun k e => .inr e)
          have HW := Lib.hid T7.1
          have HL := Lib.hid T7.2.1
          have HK := Lib.hid T7.2.2
          have hgx : g0 + 1 ≤ gg ∧ gg ≠ w.heap.size := (by rcases hat with q | q; have := hvb gg q; omega; omega)
          have HD : Hid ((.slice Av L.length cv : Value).ownBlock = some gg ∨ w.heap.size ≤ gg) := Lib.hid (hat.imp (fun q => q) (fun q => by omega))
          replace HV := Lib.hid (show V1 w7 g0 24 (.slice Av L.length cv) from (hgrow.block g0 HV.out.lt (fun e => by have := hvb g0 e.symm; omega)).trans HV.out)
          have hx7 : w7.heap[w.heap.size]? = w5.heap[w.heap.size]? := hgrow.block _ hlx (fun e => by have := hvb _ e.symm; omega)
          replace HX := Lib.hid (HX.out.same hx7)
          replace HY := Lib.hid (grown_keep (ok' := fun k => g0 + 1 ≤ k ∧ k ≠ gg) hgrow HY.out (fun k q e => by have := hvb k e.symm; omega) (fun k q hl => ⟨by omega, fun e => by rcases hat with p | p; have := hvb gg p; omega; omega⟩))
          clear T7 hown hgrow hat hlt7 HS HZ hx7 hlx
          refine hK.out _ _ ?_ (fun hHeld => ?_)
          · exact HX.out
          clear hK K
          (try simp only [Act.put, List.setIfInBounds_toArray, List.set_cons_zero, List.set_cons_succ])
          refine wpAnyH_take (i := 6) (oi := { dst := some 13, op := Op.indexAddr 24 (Operand.tmp 12) (Operand.tmp 10), type := 0, pos := "expr.go:56", after := #[{ on := 5, ground := Ground.data }, { on := 3, ground := Ground.data }, { on := 0, ground := Ground.phase }, { on := 1, ground := Ground.phase }, { on := 2, ground := Ground.phase }, { on := 3, ground := Ground.phase }, { on := 4, ground := Ground.phase }, { on := 5, ground := Ground.phase }, { on := 8, ground := Ground.gcOnly Departure.appendInPlace }], guard := none }) (v := ?_) rfl (by kernel_rfl) (by kernel_rfl) (by kernel_rfl) (fun _ _ _ h => h) (Or.inl ⟨by rfl, ?_⟩) (by assumption) ?_
          rotate_left
          · intro w hSw; (try dsimp only at hSw); obtain ⟨a0, a1, a2, a3, a4, a5, a6, a7, a8⟩ := hSw.cells; go_simp; try with_reducible rfl
          (try simp only [Act.put, List.setIfInBounds_toArray, List.set_cons_zero, List.set_cons_succ])
          refine wpAnyH_ready (rs := [7, 8]) (by kernel_rfl) (by simp) ?_
          refine AllReadyH.cons (o := { dst := none, op := Op.store 26 (Operand.tmp 13) (Operand.tmp 9), type := 0, pos := "expr.go:56", after := #[{ on := 6, ground := Ground.data }, { on := 2, ground := Ground.data }, { on := 5, ground := Ground.chain }, { on := 0, ground := Ground.phase }, { on := 1, ground := Ground.phase }, { on := 2, ground := Ground.phase }, { on := 3, ground := Ground.phase }, { on := 4, ground := Ground.phase }, { on := 5, ground := Ground.phase }, { on := 8, ground := Ground.gcOnly Departure.appendInPlace }], guard := none }) rfl (fun K hK => ?_) (AllReadyH.cons (o := { dst := none, op := Op.store 24 (Operand.tmp 1) (Operand.tmp 12), type := 0, pos := "expr.go:56", after := #[{ on := 5, ground := Ground.data }, { on := 5, ground := Ground.chain }, { on := 7, ground := Ground.textOnly Departure.appendInPlace }, { on := 0, ground := Ground.phase }, { on := 1, ground := Ground.phase }, { on := 2, ground := Ground.phase }, { on := 3, ground := Ground.phase }, { on := 4, ground := Ground.phase }, { on := 5, ground := Ground.phase }, { on := 6, ground := Ground.textOnly Departure.appendInPlace }, { on := 7, ground := Ground.textOnly Departure.appendInPlace }], guard := none }) rfl (fun K hK => ?_) AllReadyH.nil)
          · obtain ⟨hcl, hfz⟩ := own_cells HW.out
            have d0 := hcl 0 _ rfl
            have d1 := hcl 1 _ rfl
            have d2 := hcl 2 _ rfl
            have d3 := hcl 3 _ rfl
            have d4 := hcl 4 _ rfl
            have d5 := hcl 5 _ rfl
            have d6 := hcl 6 _ rfl
            have d7 := hcl 7 _ rfl
            have d8 := hcl 8 _ rfl
            rw [Nat.add_zero] at d0
            have f0 := hfz (L.length * 9)
            have f1 := hfz (L.length * 9 + 1)
            have f2 := hfz (L.length * 9 + 2)
            have f3 := hfz (L.length * 9 + 3)
            have f4 := hfz (L.length * 9 + 4)
            have f5 := hfz (L.length * 9 + 5)
            have f6 := hfz (L.length * 9 + 6)
            have f7 := hfz (L.length * 9 + 7)
            have f8 := hfz (L.length * 9 + 8)
            clear hcl hfz
            go_simp
            rw [nest_q]
            obtain ⟨w8, hw8⟩ : ∃ w8, w8 = sets w7 gg (L.length * 9) [.int .i64 oy, .int .i64 q0, .int .i64 q1, .int .i64 q2, .int .i64 q3, .int .i64 q4, .int .i64 q5, .int .i64 vy, .slice Ay ky.len cy] := ⟨_, rfl⟩
            rw [← hw8]
            have gs : w7.grownBy w8 (some gg) := by rw [hw8]; exact grown_sets _ _
            have HW8 : Hid (OwnL ntE 26 w8 (g0 + 1) (.slice (some ⟨gg, 0, none⟩) (L.length + 1) cp) (L ++ [(⟨oy, [q0, q1, q2, q3, q4, q5], vy, Ay, cy, ky⟩ : NT)])) := Lib.hid (by rw [hw8]; exact own_last HW.out (list9 oy q0 q1 q2 q3 q4 q5 vy Ay ky.len cy) rfl)
            clear hw8 HW
            have HW := HW8
            clear HW8
            have hx8 : w8.heap[w.heap.size]? = w7.heap[w.heap.size]? := gs.block _ HX.out.lt (fun e => by injection e with e; omega)
            replace HX := Lib.hid (HX.out.same hx8)
            have hv8 : w8.heap[g0]? = w7.heap[g0]? := gs.block _ HV.out.lt (fun e => by injection e with e; omega)
            have HV8 : Hid (V1 w8 g0 24 (.slice Av L.length cv)) := Lib.hid (hv8.trans HV.out)
            clear HV
            have HV := HV8
            clear HV8 hx8 hv8
            replace HY := Lib.hid (grown_keep (ok' := fun k => g0 + 1 ≤ k ∧ k ≠ gg) gs HY.out (fun k q e => q.2 (Option.some.inj e)) (fun k q _ => q))
            have HL8 : Hid (∀ z ∈ L, z.Rk w8 (fun k => g0 + 1 ≤ k ∧ k ≠ gg) ∧ z.Al) := Lib.hid (fun z hz => And.intro (grown_keep gs (HL.out z hz).1 (fun k q e => q.2 (Option.some.inj e)) (fun k q _ => q)) (HL.out z hz).2)
            clear HL
            have HL := HL8
            clear HL8
            replace HK := Lib.hid (HK.out.grown gs (fun k e hk => .inr (by have e' := Option.some.inj e; subst e'; exact HD.out.elim (fun q => q) (fun q => by omega))))
            clear gs
            refine hK.out _ _ ?_ (fun hHeld => ?_)
            · exact HX.out
            clear d0 d1 d2 d3 d4 d5 d6 d7 d8 f0 f1 f2 f3 f4 f5 f6 f7 f8
            clear hK K
            (try simp only [Act.put, List.setIfInBounds_toArray, List.set_cons_zero, List.set_cons_succ])
            refine wpAnyH_ready (rs := [8]) (by kernel_rfl) (by simp) ?_
            refine AllReadyH.cons (o := { dst := none, op := Op.store 24 (Operand.tmp 1) (Operand.tmp 12), type := 0, pos := "expr.go:56", after := #[{ on := 5, ground := Ground.data }, { on := 5, ground := Ground.chain }, { on := 7, ground := Ground.textOnly Departure.appendInPlace }, { on := 0, ground := Ground.phase }, { on := 1, ground := Ground.phase }, { on := 2, ground := Ground.phase }, { on := 3, ground := Ground.phase }, { on := 4, ground := Ground.phase }, { on := 5, ground := Ground.phase }, { on := 6, ground := Ground.textOnly Departure.appendInPlace }, { on := 7, ground := Ground.textOnly Departure.appendInPlace }], guard := none }) rfl (fun K hK => ?_) AllReadyH.nil
            have c0 := HV.out.cell
            have f0 := HV.out.free
            go_simp
            obtain ⟨w9, hw9⟩ : ∃ w9, w9 = w8.setCell ⟨g0, 0, none⟩ (.slice (some ⟨gg, 0, none⟩) (L.length + 1) cp) := ⟨_, rfl⟩
            rw [← hw9]
            have gs : w8.grownBy w9 (some g0) := by rw [hw9]; exact grown_set _
            have HV9 : Hid (V1 w9 g0 24 (.slice (some ⟨gg, 0, none⟩) (L.length + 1) cp)) := Lib.hid (by rw [hw9]; exact HV.out.set _)
            clear hw9 HV c0 f0
            have HV := HV9
            clear HV9
            replace HW := Lib.hid (HW.out.turn gs (.inr (fun e => by have e' : some gg = some g0 := e; have e2 := Option.some.inj e'; omega)))
            have hx9 : w9.heap[w.heap.size]? = w8.heap[w.heap.size]? := gs.block _ HX.out.lt (fun e => by injection e with e; omega)
            replace HX := Lib.hid (HX.out.same hx9)
            clear hx9
            replace HY := Lib.hid (grown_keep (ok' := fun k => g0 + 1 ≤ k ∧ k ≠ gg) gs HY.out (fun k q e => by have e2 := Option.some.inj e; omega) (fun k q _ => q))
            have HL9 : Hid (∀ z ∈ L, z.Rk w9 (fun k => g0 + 1 ≤ k ∧ k ≠ gg) ∧ z.Al) := Lib.hid (fun z hz => And.intro (grown_keep gs (HL.out z hz).1 (fun k q e => by have e2 := Option.some.inj e; omega) (fun k q _ => q)) (HL.out z hz).2)
            clear HL
            have HL := HL9
            clear HL9
            replace HK := Lib.hid (HK.out.grown gs (fun k e _ => .inl (Option.some.inj e).symm))
            clear gs
            refine hK.out _ _ ?_ (fun hHeld => ?_)
            · exact HX.out
            clear hK K
            (try simp only [Act.put, List.setIfInBounds_toArray, List.set_cons_zero, List.set_cons_succ])
            refine wpAnyH_done (by kernel_rfl) ?_ _
            have FI := Lib.hid (at_done2 ES.out (at_done HW.out HV.out HL.out HY.out HYA.out HYN.out HEQ.out HK.out HD.out))
            clear hHeld ES HW HV HL HY HYA HYN HEQ HK HD HX
            go_wp2
            go_ret
            exact FI.out
          · have c0 := HV.out.cell
            have f0 := HV.out.free
            go_simp
            obtain ⟨w9, hw9⟩ : ∃ w9, w9 = w7.setCell ⟨g0, 0, none⟩ (.slice (some ⟨gg, 0, none⟩) (L.length + 1) cp) := ⟨_, rfl⟩
            rw [← hw9]
            have gs : w7.grownBy w9 (some g0) := by rw [hw9]; exact grown_set _
            have HV9 : Hid (V1 w9 g0 24 (.slice (some ⟨gg, 0, none⟩) (L.length + 1) cp)) := Lib.hid (by rw [hw9]; exact HV.out.set _)
            clear hw9 HV c0 f0
            have HV := HV9
            clear HV9
            replace HW := Lib.hid (HW.out.turn gs (.inr (fun e => by have e' : some gg = some g0 := e; have e2 := Option.some.inj e'; omega)))
            have hx9 : w9.heap[w.heap.size]? = w7.heap[w.heap.size]? := gs.block _ HX.out.lt (fun e => by injection e with e; omega)
            replace HX := Lib.hid (HX.out.same hx9)
            clear hx9
            replace HY := Lib.hid (grown_keep (ok' := fun k => g0 + 1 ≤ k ∧ k ≠ gg) gs HY.out (fun k q e => by have e2 := Option.some.inj e; omega) (fun k q _ => q))
            have HL9 : Hid (∀ z ∈ L, z.Rk w9 (fun k => g0 + 1 ≤ k ∧ k ≠ gg) ∧ z.Al) := Lib.hid (fun z hz => And.intro (grown_keep gs (HL.out z hz).1 (fun k q e => by have e2 := Option.some.inj e; omega) (fun k q _ => q)) (HL.out z hz).2)
            clear HL
            have HL := HL9
            clear HL9
            replace HK := Lib.hid (HK.out.grown gs (fun k e _ => .inl (Option.some.inj e).symm))
            clear gs
            refine hK.out _ _ ?_ (fun hHeld => ?_)
            · exact HX.out
            clear hK K
            (try simp only [Act.put, List.setIfInBounds_toArray, List.set_cons_zero, List.set_cons_succ])
            refine wpAnyH_ready (rs := [7]) (by kernel_rfl) (by simp) ?_
            refine AllReadyH.cons (o := { dst := none, op := Op.store 26 (Operand.tmp 13) (Operand.tmp 9), type := 0, pos := "expr.go:56", after := #[{ on := 6, ground := Ground.data }, { on := 2, ground := Ground.data }, { on := 5, ground := Ground.chain }, { on := 0, ground := Ground.phase }, { on := 1, ground := Ground.phase }, { on := 2, ground := Ground.phase }, { on := 3, ground := Ground.phase }, { on := 4, ground := Ground.phase }, { on := 5, ground := Ground.phase }, { on := 8, ground := Ground.gcOnly Departure.appendInPlace }], guard := none }) rfl (fun K hK => ?_) AllReadyH.nil
            obtain ⟨hcl, hfz⟩ := own_cells HW.out
            have d0 := hcl 0 _ rfl
            have d1 := hcl 1 _ rfl
            have d2 := hcl 2 _ rfl
            have d3 := hcl 3 _ rfl
            have d4 := hcl 4 _ rfl
            have d5 := hcl 5 _ rfl
            have d6 := hcl 6 _ rfl
            have d7 := hcl 7 _ rfl
            have d8 := hcl 8 _ rfl
            rw [Nat.add_zero] at d0
            have f0 := hfz (L.length * 9)
            have f1 := hfz (L.length * 9 + 1)
            have f2 := hfz (L.length * 9 + 2)
            have f3 := hfz (L.length * 9 + 3)
            have f4 := hfz (L.length * 9 + 4)
            have f5 := hfz (L.length * 9 + 5)
            have f6 := hfz (L.length * 9 + 6)
            have f7 := hfz (L.length * 9 + 7)
            have f8 := hfz (L.length * 9 + 8)
            clear hcl hfz
            go_simp
            rw [nest_q]
            obtain ⟨w8, hw8⟩ : ∃ w8, w8 = sets w9 gg (L.length * 9) [.int .i64 oy, .int .i64 q0, .int .i64 q1, .int .i64 q2, .int .i64 q3, .int .i64 q4, .int .i64 q5, .int .i64 vy, .slice Ay ky.len cy] := ⟨_, rfl⟩
            rw [← hw8]
            have gs : w9.grownBy w8 (some gg) := by rw [hw8]; exact grown_sets _ _
            have HW8 : Hid (OwnL ntE 26 w8 (g0 + 1) (.slice (some ⟨gg, 0, none⟩) (L.length + 1) cp) (L ++ [(⟨oy, [q0, q1, q2, q3, q4, q5], vy, Ay, cy, ky⟩ : NT)])) := Lib.hid (by rw [hw8]; exact own_last HW.out (list9 oy q0 q1 q2 q3 q4 q5 vy Ay ky.len cy) rfl)
            clear hw8 HW
            have HW := HW8
            clear HW8
            have hx8 : w8.heap[w.heap.size]? = w9.heap[w.heap.size]? := gs.block _ HX.out.lt (fun e => by injection e with e; omega)
            replace HX := Lib.hid (HX.out.same hx8)
            have hv8 : w8.heap[g0]? = w9.heap[g0]? := gs.block _ HV.out.lt (fun e => by injection e with e; omega)
            have HV8 : Hid (V1 w8 g0 24 (.slice (some ⟨gg, 0, none⟩) (L.length + 1) cp)) := Lib.hid (hv8.trans HV.out)
            clear HV
            have HV := HV8
            clear HV8 hx8 hv8
            replace HY := Lib.hid (grown_keep (ok' := fun k => g0 + 1 ≤ k ∧ k ≠ gg) gs HY.out (fun k q e => q.2 (Option.some.inj e)) (fun k q _ => q))
            have HL8 : Hid (∀ z ∈ L, z.Rk w8 (fun k => g0 + 1 ≤ k ∧ k ≠ gg) ∧ z.Al) := Lib.hid (fun z hz => And.intro (grown_keep gs (HL.out z hz).1 (fun k q e => q.2 (Option.some.inj e)) (fun k q _ => q)) (HL.out z hz).2)
            clear HL
            have HL := HL8
            clear HL8
            replace HK := Lib.hid (HK.out.grown gs (fun k e hk => .inr (by have e' := Option.some.inj e; subst e'; exact HD.out.elim (fun q => q) (fun q => by omega))))
            clear gs
            refine hK.out _ _ ?_ (fun hHeld => ?_)
            · exact HX.out
            clear d0 d1 d2 d3 d4 d5 d6 d7 d8 f0 f1 f2 f3 f4 f5 f6 f7 f8
            clear hK K
            (try simp only [Act.put, List.setIfInBounds_toArray, List.set_cons_zero, List.set_cons_succ])
            refine wpAnyH_done (by kernel_rfl) ?_ _
            have FI := Lib.hid (at_done2 ES.out (at_done HW.out HV.out HL.out HY.out HYA.out HYN.out HEQ.out HK.out HD.out))
            clear hHeld ES HW HV HL HY HYA HYN HEQ HK HD HX
            go_wp2
            go_ret
            exact FI.out
      · go_simp
        refine (CC.out _ _ HO.out).mono ?_
        rintro ev w5 ⟨y, rfl, hyn, hyo, hya, hb⟩
        obtain ⟨oy, byy, vy, Ay, cy, ky⟩ := y
        obtain ⟨q0, q1, q2, q3, q4, q5, rfl⟩ := six hyo.six
        have HY := Lib.hid (hyo.keep (ok' := fun k => w.heap.size < k) (fun _ _ _ => rfl) (Nat.le_refl _) (fun k q _ => by have := HX.out.lt; omega))
        have HYN := Lib.hid hyn
        have HYA := Lib.hid hya
        replace HS := Lib.hid (HS.out.keep hb)
        replace HX := Lib.hid (HX.out.keep hb)
        replace HV := Lib.hid (HV.out.keep hb)
        rw [NT.val_lit]
        clear hyn hyo hya hb HO CC
        refine hK.out _ _ ?_ (fun hHeld => ?_)
        · exact HX.out
        clear hK K
        (try simp only [Act.put, List.setIfInBounds_toArray, List.set_cons_zero, List.set_cons_succ])
        refine wpAnyH_ready (rs := [0, 4]) (by kernel_rfl) (by simp) ?_
        refine AllReadyH.cons (o := { dst := some 7, op := Op.load 24 (Operand.tmp 1), type := 24, pos := "expr.go:56", after := #[], guard := none }) rfl (fun K hK => ?_) (AllReadyH.cons (o := { dst := some 11, op := Op.buildSlice 24 1 #[(0, Operand.const (Value.agg #[Value.int IntKind.i64 0, Value.int IntKind.i64 0, Value.int IntKind.i64 0, Value.int IntKind.i64 0, Value.int IntKind.i64 0, Value.int IntKind.i64 0, Value.int IntKind.i64 0, Value.int IntKind.i64 0, Value.slice none 0 0]))], type := 24, pos := "expr.go:56", after := #[], guard := none }) rfl (fun K hK => ?_) AllReadyH.nil)
        · have c0 := HV.out.cell
          go_simp
          refine hK.out _ _ ?_ (fun hHeld => ?_)
          · exact HX.out
          clear c0
          clear hK K
          (try simp only [Act.put, List.setIfInBounds_toArray, List.set_cons_zero, List.set_cons_succ])
          refine wpAnyH_take (i := 3) (oi := { dst := some 10, op := Op.call { callee := Callee.builtin Builtin.len, args := #[Operand.tmp 7], argTypes := #[24] }, type := 3, pos := "expr.go:56", after := #[{ on := 0, ground := Ground.data }], guard := none }) (v := ?_) rfl (by kernel_rfl) (by kernel_rfl) (by kernel_rfl) (fun _ _ _ h => h) (Or.inl ⟨by rfl, ?_⟩) (by assumption) ?_
          rotate_left
          · intro w hSw; (try dsimp only at hSw); obtain ⟨a0, a1, a2, a3, a4, a5, a6, a7, a8⟩ := hSw.cells; go_simp; try with_reducible rfl
          (try simp only [Act.put, List.setIfInBounds_toArray, List.set_cons_zero, List.set_cons_succ])
          refine wpAnyH_ready (rs := [4]) (by kernel_rfl) (by simp) ?_
          refine AllReadyH.cons (o := { dst := some 11, op := Op.buildSlice 24 1 #[(0, Operand.const (Value.agg #[Value.int IntKind.i64 0, Value.int IntKind.i64 0, Value.int IntKind.i64 0, Value.int IntKind.i64 0, Value.int IntKind.i64 0, Value.int IntKind.i64 0, Value.int IntKind.i64 0, Value.int IntKind.i64 0, Value.slice none 0 0]))], type := 24, pos := "expr.go:56", after := #[], guard := none }) rfl (fun K hK => ?_) AllReadyH.nil
          go_simp
          have hb := below_new w5 (.cells #[.int .i64 0, .int .i64 0, .int .i64 0, .int .i64 0, .int .i64 0, .int .i64 0, .int .i64 0, .int .i64 0, .slice none 0 0] 26)
          have HZ := Lib.hid (heap_new w5 (.cells #[.int .i64 0, .int .i64 0, .int .i64 0, .int .i64 0, .int .i64 0, .int .i64 0, .int .i64 0, .int .i64 0, .slice none 0 0] 26))
          replace HS := Lib.hid (HS.out.keep hb)
          replace HX := Lib.hid (HX.out.keep hb)
          replace HV := Lib.hid (HV.out.keep hb)
          replace HY := Lib.hid (HY.out.below hb)
          clear hb
          refine hK.out _ _ ?_ (fun hHeld => ?_)
          · exact HX.out
          obtain ⟨w6, hw6⟩ : ∃ w6, w6 = w5.alloc (.cells #[.int .i64 0, .int .i64 0, .int .i64 0, .int .i64 0, .int .i64 0, .int .i64 0, .int .i64 0, .int .i64 0, .slice none 0 0] 26) := ⟨_, rfl⟩
          rw [← hw6] at HZ HS HX HV HY ⊢
          clear hw6
          clear hK K
          (try simp only [Act.put, List.setIfInBounds_toArray, List.set_cons_zero, List.set_cons_succ])
          refine wpAnyH_ready (rs := [5]) (by kernel_rfl) (by simp) ?_
          refine AllReadyH.cons (o := { dst := some 12, op := Op.call { callee := Callee.builtin Builtin.append, args := #[Operand.tmp 7, Operand.tmp 11], argTypes := #[24, 24] }, type := 24, pos := "expr.go:56", after := #[{ on := 0, ground := Ground.data }, { on := 4, ground := Ground.data }, { on := 2, ground := Ground.chain }, { on := 0, ground := Ground.phase }, { on := 1, ground := Ground.phase }, { on := 2, ground := Ground.phase }, { on := 3, ground := Ground.phase }, { on := 4, ground := Ground.phase }], guard := none }) rfl (fun K hK => ?_) AllReadyH.nil
          have hlx := HX.out.lt
          refine step_append_lies _ (by rfl) _ _ _ (by rfl) (g0 + 1) 26 i0 (.agg #[.int .i64 0, .int .i64 0, .int .i64 0, .int .i64 0, .int .i64 0, .int .i64 0, .int .i64 0, .int .i64 0, .slice none 0 0]) 9 88 Try.underlying24 hi hz0 hz1 hz2 rfl (by decide) _ _ _ (by rfl) HS.out.own.1 ⟨w5.heap.size, 0, none⟩ 1 1 [.int .i64 0, .int .i64 0, .int .i64 0, .int .i64 0, .int .i64 0, .int .i64 0, .int .i64 0, .int .i64 0, .slice none 0 0] (by rfl) rfl ?c1 ?c2 (by decide) ?c4 ?c5 ?c6 _ rfl ?_
          case c1 => exact World.news_of_block HZ.out
          case c2 => exact ntE.one ntZ
          case c4 => unfold maxLen; omega
          case c5 => omega
          case c6 => omega
          intro gg cp w7 hown hgrow hat hlt7
          have T7 := HS.out.app hown hgrow hat rfl (fun k e => .inr e)
          have HW := Lib.hid T7.1
          have HL := Lib.hid T7.2.1
          have HK := Lib.hid T7.2.2
          have hgx : g0 + 1 ≤ gg ∧ gg ≠ w.heap.size := (by rcases hat with q | q; have := hvb gg q; omega; omega)
          have HD : Hid ((.slice Av L.length cv : Value).ownBlock = some gg ∨ w.heap.size ≤ gg) := Lib.hid (hat.imp (fun q => q) (fun q => by omega))
          replace HV := Lib.hid (show V1 w7 g0 24 (.slice Av L.length cv) from (hgrow.block g0 HV.out.lt (fun e => by have := hvb g0 e.symm; omega)).trans HV.out)
          have hx7 : w7.heap[w.heap.size]? = w6.heap[w.heap.size]? := hgrow.block _ hlx (fun e => by have := hvb _ e.symm; omega)
          replace HX := Lib.hid (HX.out.same hx7)
          replace HY := Lib.hid (grown_keep (ok' := fun k => g0 + 1 ≤ k ∧ k ≠ gg) hgrow HY.out (fun k q e => by have := hvb k e.symm; omega) (fun k q hl => ⟨by omega, fun e => by rcases hat with p | p; have := hvb gg p; omega; omega⟩))
          clear T7 hown hgrow hat hlt7 HS HZ hx7 hlx
          refine hK.out _ _ ?_ (fun hHeld => ?_)
          · exact HX.out
          clear hK K
          (try simp only [Act.put, List.setIfInBounds_toArray, List.set_cons_zero, List.set_cons_succ])
          refine wpAnyH_take (i := 6) (oi := { dst := some 13, op := Op.indexAddr 24 (Operand.tmp 12) (Operand.tmp 10), type := 0, pos := "expr.go:56", after := #[{ on := 5, ground := Ground.data }, { on := 3, ground := Ground.data }, { on := 0, ground := Ground.phase }, { on := 1, ground := Ground.phase }, { on := 2, ground := Ground.phase }, { on := 3, ground := Ground.phase }, { on := 4, ground := Ground.phase }, { on := 5, ground := Ground.phase }, { on := 8, ground := Ground.gcOnly Departure.appendInPlace }], guard := none }) (v := ?_) rfl (by kernel_rfl) (by kernel_rfl) (by kernel_rfl) (fun _ _ _ h => h) (Or.inl ⟨by rfl, ?_⟩) (by assumption) ?_
          rotate_left
          · intro w hSw; (try dsimp only at hSw); obtain ⟨a0, a1, a2, a3, a4, a5, a6, a7, a8⟩ := hSw.cells; go_simp; try with_reducible rfl
          (try simp only [Act.put, List.setIfInBounds_toArray, List.set_cons_zero, List.set_cons_succ])
          refine wpAnyH_ready (rs := [7, 8]) (by kernel_rfl) (by simp) ?_
          refine AllReadyH.cons (o := { dst := none, op := Op.store 26 (Operand.tmp 13) (Operand.tmp 9), type := 0, pos := "expr.go:56", after := #[{ on := 6, ground := Ground.data }, { on := 2, ground := Ground.data }, { on := 5, ground := Ground.chain }, { on := 0, ground := Ground.phase }, { on := 1, ground := Ground.phase }, { on := 2, ground := Ground.phase }, { on := 3, ground := Ground.phase }, { on := 4, ground := Ground.phase }, { on := 5, ground := Ground.phase }, { on := 8, ground := Ground.gcOnly Departure.appendInPlace }], guard := none }) rfl (fun K hK => ?_) (AllReadyH.cons (o := { dst := none, op := Op.store 24 (Operand.tmp 1) (Operand.tmp 12), type := 0, pos := "expr.go:56", after := #[{ on := 5, ground := Ground.data }, { on := 5, ground := Ground.chain }, { on := 7, ground := Ground.textOnly Departure.appendInPlace }, { on := 0, ground := Ground.phase }, { on := 1, ground := Ground.phase }, { on := 2, ground := Ground.phase }, { on := 3, ground := Ground.phase }, { on := 4, ground := Ground.phase }, { on := 5, ground := Ground.phase }, { on := 6, ground := Ground.textOnly Departure.appendInPlace }, { on := 7, ground := Ground.textOnly Departure.appendInPlace }], guard := none }) rfl (fun K hK => ?_) AllReadyH.nil)
          · obtain ⟨hcl, hfz⟩ := own_cells HW.out
            have d0 := hcl 0 _ rfl
            have d1 := hcl 1 _ rfl
            have d2 := hcl 2 _ rfl
            have d3 := hcl 3 _ rfl
            have d4 := hcl 4 _ rfl
            have d5 := hcl 5 _ rfl
            have d6 := hcl 6 _ rfl
            have d7 := hcl 7 _ rfl
            have d8 := hcl 8 _ rfl
            rw [Nat.add_zero] at d0
            have f0 := hfz (L.length * 9)
            have f1 := hfz (L.length * 9 + 1)
            have f2 := hfz (L.length * 9 + 2)
            have f3 := hfz (L.length * 9 + 3)
            have f4 := hfz (L.length * 9 + 4)
            have f5 := hfz (L.length * 9 + 5)
            have f6 := hfz (L.length * 9 + 6)
            have f7 := hfz (L.length * 9 + 7)
            have f8 := hfz (L.length * 9 + 8)
            clear hcl hfz
            go_simp
            rw [nest_q]
            obtain ⟨w8, hw8⟩ : ∃ w8, w8 = sets w7 gg (L.length * 9) [.int .i64 oy, .int .i64 q0, .int .i64 q1, .int .i64 q2, .int .i64 q3, .int .i64 q4, .int .i64 q5, .int .i64 vy, .slice Ay ky.len cy] := ⟨_, rfl⟩
            rw [← hw8]
            have gs : w7.grownBy w8 (some gg) := by rw [hw8]; exact grown_sets _ _
            have HW8 : Hid (OwnL ntE 26 w8 (g0 + 1) (.slice (some ⟨gg, 0, none⟩) (L.length + 1) cp) (L ++ [(⟨oy, [q0, q1, q2, q3, q4, q5], vy, Ay, cy, ky⟩ : NT)])) := Lib.hid (by rw [hw8]; exact own_last HW.out (list9 oy q0 q1 q2 q3 q4 q5 vy Ay ky.len cy) rfl)
            clear hw8 HW
            have HW := HW8
            clear HW8
            have hx8 : w8.heap[w.heap.size]? = w7.heap[w.heap.size]? := gs.block _ HX.out.lt (fun e => by injection e with e; omega)
            replace HX := Lib.hid (HX.out.same hx8)
            have hv8 : w8.heap[g0]? = w7.heap[g0]? := gs.block _ HV.out.lt (fun e => by injection e with e; omega)
            have HV8 : Hid (V1 w8 g0 24 (.slice Av L.length cv)) := Lib.hid (hv8.trans HV.out)
            clear HV
            have HV := HV8
            clear HV8 hx8 hv8
            replace HY := Lib.hid (grown_keep (ok' := fun k => g0 + 1 ≤ k ∧ k ≠ gg) gs HY.out (fun k q e => q.2 (Option.some.inj e)) (fun k q _ => q))
            have HL8 : Hid (∀ z ∈ L, z.Rk w8 (fun k => g0 + 1 ≤ k ∧ k ≠ gg) ∧ z.Al) := Lib.hid (fun z hz => And.intro (grown_keep gs (HL.out z hz).1 (fun k q e => q.2 (Option.some.inj e)) (fun k q _ => q)) (HL.out z hz).2)
            clear HL
            have HL := HL8
            clear HL8
            replace HK := Lib.hid (HK.out.grown gs (fun k e hk => .inr (by have e' := Option.some.inj e; subst e'; exact HD.out.elim (fun q => q) (fun q => by omega))))
            clear gs
            refine hK.out _ _ ?_ (fun hHeld => ?_)
            · exact HX.out
            clear d0 d1 d2 d3 d4 d5 d6 d7 d8 f0 f1 f2 f3 f4 f5 f6 f7 f8
            clear hK K
            (try simp only [Act.put, List.setIfInBounds_toArray, List.set_cons_zero, List.set_cons_succ])
            refine wpAnyH_ready (rs := [8]) (by kernel_rfl) (by simp) ?_
            refine AllReadyH.cons (o := { dst := none, op := Op.store 24 (Operand.tmp 1) (Operand.tmp 12), type := 0, pos := "expr.go:56", after := #[{ on := 5, ground := Ground.data }, { on := 5, ground := Ground.chain }, { on := 7, ground := Ground.textOnly Departure.appendInPlace }, { on := 0, ground := Ground.phase }, { on := 1, ground := Ground.phase }, { on := 2, ground := Ground.phase }, { on := 3, ground := Ground.phase }, { on := 4, ground := Ground.phase }, { on := 5, ground := Ground.phase }, { on := 6, ground := Ground.textOnly Departure.appendInPlace }, { on := 7, ground := Ground.textOnly Departure.appendInPlace }], guard := none }) rfl (fun K hK => ?_) AllReadyH.nil
            have c0 := HV.out.cell
            have f0 := HV.out.free
            go_simp
            obtain ⟨w9, hw9⟩ : ∃ w9, w9 = w8.setCell ⟨g0, 0, none⟩ (.slice (some ⟨gg, 0, none⟩) (L.length + 1) cp) := ⟨_, rfl⟩
            rw [← hw9]
            have gs : w8.grownBy w9 (some g0) := by rw [hw9]; exact grown_set _
            have HV9 : Hid (V1 w9 g0 24 (.slice (some ⟨gg, 0, none⟩) (L.length + 1) cp)) := Lib.hid (by rw [hw9]; exact HV.out.set _)
            clear hw9 HV c0 f0
            have HV := HV9
            clear HV9
            replace HW := Lib.hid (HW.out.turn gs (.inr (fun e => by have e' : some gg = some g0 := e; have e2 := Option.some.inj e'; omega)))
            have hx9 : w9.heap[w.heap.size]? = w8.heap[w.heap.size]? := gs.block _ HX.out.lt (fun e => by injection e with e; omega)
            replace HX := Lib.hid (HX.out.same hx9)
            clear hx9
            replace HY := Lib.hid (grown_keep (ok' := fun k => g0 + 1 ≤ k ∧ k ≠ gg) gs HY.out (fun k q e => by have e2 := Option.some.inj e; omega) (fun k q _ => q))
            have HL9 : Hid (∀ z ∈ L, z.Rk w9 (fun k => g0 + 1 ≤ k ∧ k ≠ gg) ∧ z.Al) := Lib.hid (fun z hz => And.intro (grown_keep gs (HL.out z hz).1 (fun k q e => by have e2 := Option.some.inj e; omega) (fun k q _ => q)) (HL.out z hz).2)
            clear HL
            have HL := HL9
            clear HL9
            replace HK := Lib.hid (HK.out.grown gs (fun k e _ => .inl (Option.some.inj e).symm))
            clear gs
            refine hK.out _ _ ?_ (fun hHeld => ?_)
            · exact HX.out
            clear hK K
            (try simp only [Act.put, List.setIfInBounds_toArray, List.set_cons_zero, List.set_cons_succ])
            refine wpAnyH_done (by kernel_rfl) ?_ _
            have FI := Lib.hid (at_done2 ES.out (at_done HW.out HV.out HL.out HY.out HYA.out HYN.out HEQ.out HK.out HD.out))
            clear hHeld ES HW HV HL HY HYA HYN HEQ HK HD HX
            go_wp2
            go_ret
            exact FI.out
          · have c0 := HV.out.cell
            have f0 := HV.out.free
            go_simp
            obtain ⟨w9, hw9⟩ : ∃ w9, w9 = w7.setCell ⟨g0, 0, none⟩ (.slice (some ⟨gg, 0, none⟩) (L.length + 1) cp) := ⟨_, rfl⟩
            rw [← hw9]
            have gs : w7.grownBy w9 (some g0) := by rw [hw9]; exact grown_set _
            have HV9 : Hid (V1 w9 g0 24 (.slice (some ⟨gg, 0, none⟩) (L.length + 1) cp)) := Lib.hid (by rw [hw9]; exact HV.out.set _)
            clear hw9 HV c0 f0
            have HV := HV9
            clear HV9
            replace HW := Lib.hid (HW.out.turn gs (.inr (fun e => by have e' : some gg = some g0 := e; have e2 := Option.some.inj e'; omega)))
            have hx9 : w9.heap[w.heap.size]? = w7.heap[w.heap.size]? := gs.block _ HX.out.lt (fun e => by injection e with e; omega)
            replace HX := Lib.hid (HX.out.same hx9)
            clear hx9
            replace HY := Lib.hid (grown_keep (ok' := fun k => g0 + 1 ≤ k ∧ k ≠ gg) gs HY.out (fun k q e => by have e2 := Option.some.inj e; omega) (fun k q _ => q))
            have HL9 : Hid (∀ z ∈ L, z.Rk w9 (fun k => g0 + 1 ≤ k ∧ k ≠ gg) ∧ z.Al) := Lib.hid (fun z hz => And.intro (grown_keep gs (HL.out z hz).1 (fun k q e => by have e2 := Option.some.inj e; omega) (fun k q _ => q)) (HL.out z hz).2)
            clear HL
            have HL := HL9
            clear HL9
            replace HK := Lib.hid (HK.out.grown gs (fun k e _ => .inl (Option.some.inj e).symm))
            clear gs
            refine hK.out _ _ ?_ (fun hHeld => ?_)
            · exact HX.out
            clear hK K
            (try simp only [Act.put, List.setIfInBounds_toArray, List.set_cons_zero, List.set_cons_succ])
            refine wpAnyH_ready (rs := [7]) (by kernel_rfl) (by simp) ?_
            refine AllReadyH.cons (o := { dst := none, op := Op.store 26 (Operand.tmp 13) (Operand.tmp 9), type := 0, pos := "expr.go:56", after := #[{ on := 6, ground := Ground.data }, { on := 2, ground := Ground.data }, { on := 5, ground := Ground.chain }, { on := 0, ground := Ground.phase }, { on := 1, ground := Ground.phase }, { on := 2, ground := Ground.phase }, { on := 3, ground := Ground.phase }, { on := 4, ground := Ground.phase }, { on := 5, ground := Ground.phase }, { on := 8, ground := Ground.gcOnly Departure.appendInPlace }], guard := none }) rfl (fun K hK => ?_) AllReadyH.nil
            obtain ⟨hcl, hfz⟩ := own_cells HW.out
            have d0 := hcl 0 _ rfl
            have d1 := hcl 1 _ rfl
            have d2 := hcl 2 _ rfl
            have d3 := hcl 3 _ rfl
            have d4 := hcl 4 _ rfl
            have d5 := hcl 5 _ rfl
            have d6 := hcl 6 _ rfl
            have d7 := hcl 7 _ rfl
            have d8 := hcl 8 _ rfl
            rw [Nat.add_zero] at d0
            have f0 := hfz (L.length * 9)
            have f1 := hfz (L.length * 9 + 1)
            have f2 := hfz (L.length * 9 + 2)
            have f3 := hfz (L.length * 9 + 3)
            have f4 := hfz (L.length * 9 + 4)
            have f5 := hfz (L.length * 9 + 5)
            have f6 := hfz (L.length * 9 + 6)
            have f7 := hfz (L.length * 9 + 7)
            have f8 := hfz (L.length * 9 + 8)
            clear hcl hfz
            go_simp
            rw [nest_q]
            obtain ⟨w8, hw8⟩ : ∃ w8, w8 = sets w9 gg (L.length * 9) [.int .i64 oy, .int .i64 q0, .int .i64 q1, .int .i64 q2, .int .i64 q3, .int .i64 q4, .int .i64 q5, .int .i64 vy, .slice Ay ky.len cy] := ⟨_, rfl⟩
            rw [← hw8]
            have gs : w9.grownBy w8 (some gg) := by rw [hw8]; exact grown_sets _ _
            have HW8 : Hid (OwnL ntE 26 w8 (g0 + 1) (.slice (some ⟨gg, 0, none⟩) (L.length + 1) cp) (L ++ [(⟨oy, [q0, q1, q2, q3, q4, q5], vy, Ay, cy, ky⟩ : NT)])) := Lib.hid (by rw [hw8]; exact own_last HW.out (list9 oy q0 q1 q2 q3 q4 q5 vy Ay ky.len cy) rfl)
            clear hw8 HW
            have HW := HW8
            clear HW8
            have hx8 : w8.heap[w.heap.size]? = w9.heap[w.heap.size]? := gs.block _ HX.out.lt (fun e => by injection e with e; omega)
            replace HX := Lib.hid (HX.out.same hx8)
            have hv8 : w8.heap[g0]? = w9.heap[g0]? := gs.block _ HV.out.lt (fun e => by injection e with e; omega)
            have HV8 : Hid (V1 w8 g0 24 (.slice (some ⟨gg, 0, none⟩) (L.length + 1) cp)) := Lib.hid (hv8.trans HV.out)
            clear HV
            have HV := HV8
            clear HV8 hx8 hv8
            replace HY := Lib.hid (grown_keep (ok' := fun k => g0 + 1 ≤ k ∧ k ≠ gg) gs HY.out (fun k q e => q.2 (Option.some.inj e)) (fun k q _ => q))
            have HL8 : Hid (∀ z ∈ L, z.Rk w8 (fun k => g0 + 1 ≤ k ∧ k ≠ gg) ∧ z.Al) := Lib.hid (fun z hz => And.intro (grown_keep gs (HL.out z hz).1 (fun k q e => q.2 (Option.some.inj e)) (fun k q _ => q)) (HL.out z hz).2)
            clear HL
            have HL := HL8
            clear HL8
            replace HK := Lib.hid (HK.out.grown gs (fun k e hk => .inr (by have e' := Option.some.inj e; subst e'; exact HD.out.elim (fun q => q) (fun q => by omega))))
            clear gs
            refine hK.out _ _ ?_ (fun hHeld => ?_)
            · exact HX.out
            clear d0 d1 d2 d3 d4 d5 d6 d7 d8 f0 f1 f2 f3 f4 f5 f6 f7 f8
            clear hK K
            (try simp only [Act.put, List.setIfInBounds_toArray, List.set_cons_zero, List.set_cons_succ])
            refine wpAnyH_done (by kernel_rfl) ?_ _
            have FI := Lib.hid (at_done2 ES.out (at_done HW.out HV.out HL.out HY.out HYA.out HYN.out HEQ.out HK.out HD.out))
            clear hHeld ES HW HV HL HY HYA HYN HEQ HK HD HX
            go_wp2
            go_ret
            exact FI.out
        · go_simp
          have hb := below_new w5 (.cells #[.int .i64 0, .int .i64 0, .int .i64 0, .int .i64 0, .int .i64 0, .int .i64 0, .int .i64 0, .int .i64 0, .slice none 0 0] 26)
          have HZ := Lib.hid (heap_new w5 (.cells #[.int .i64 0, .int .i64 0, .int .i64 0, .int .i64 0, .int .i64 0, .int .i64 0, .int .i64 0, .int .i64 0, .slice none 0 0] 26))
          replace HS := Lib.hid (HS.out.keep hb)
          replace HX := Lib.hid (HX.out.keep hb)
          replace HV := Lib.hid (HV.out.keep hb)
          replace HY := Lib.hid (HY.out.below hb)
          clear hb
          refine hK.out _ _ ?_ (fun hHeld => ?_)
          · exact HX.out
          obtain ⟨w6, hw6⟩ : ∃ w6, w6 = w5.alloc (.cells #[.int .i64 0, .int .i64 0, .int .i64 0, .int .i64 0, .int .i64 0, .int .i64 0, .int .i64 0, .int .i64 0, .slice none 0 0] 26) := ⟨_, rfl⟩
          rw [← hw6] at HZ HS HX HV HY ⊢
          clear hw6
          clear hK K
          (try simp only [Act.put, List.setIfInBounds_toArray, List.set_cons_zero, List.set_cons_succ])
          refine wpAnyH_ready (rs := [0]) (by kernel_rfl) (by simp) ?_
          refine AllReadyH.cons (o := { dst := some 7, op := Op.load 24 (Operand.tmp 1), type := 24, pos := "expr.go:56", after := #[], guard := none }) rfl (fun K hK => ?_) AllReadyH.nil
          have c0 := HV.out.cell
          go_simp
          refine hK.out _ _ ?_ (fun hHeld => ?_)
          · exact HX.out
          clear c0
          clear hK K
          (try simp only [Act.put, List.setIfInBounds_toArray, List.set_cons_zero, List.set_cons_succ])
          refine wpAnyH_take (i := 3) (oi := { dst := some 10, op := Op.call { callee := Callee.builtin Builtin.len, args := #[Operand.tmp 7], argTypes := #[24] }, type := 3, pos := "expr.go:56", after := #[{ on := 0, ground := Ground.data }], guard := none }) (v := ?_) rfl (by kernel_rfl) (by kernel_rfl) (by kernel_rfl) (fun _ _ _ h => h) (Or.inl ⟨by rfl, ?_⟩) (by assumption) ?_
          rotate_left
          · intro w hSw; (try dsimp only at hSw); obtain ⟨a0, a1, a2, a3, a4, a5, a6, a7, a8⟩ := hSw.cells; go_simp; try with_reducible rfl
          (try simp only [Act.put, List.setIfInBounds_toArray, List.set_cons_zero, List.set_cons_succ])
          refine wpAnyH_ready (rs := [5]) (by kernel_rfl) (by simp) ?_
          refine AllReadyH.cons (o := { dst := some 12, op := Op.call { callee := Callee.builtin Builtin.append, args := #[Operand.tmp 7, Operand.tmp 11], argTypes := #[24, 24] }, type := 24, pos := "expr.go:56", after := #[{ on := 0, ground := Ground.data }, { on := 4, ground := Ground.data }, { on := 2, ground := Ground.chain }, { on := 0, ground := Ground.phase }, { on := 1, ground := Ground.phase }, { on := 2, ground := Ground.phase }, { on := 3, ground := Ground.phase }, { on := 4, ground := Ground.phase }], guard := none }) rfl (fun K hK => ?_) AllReadyH.nil
          have hlx := HX.out.lt
          refine step_append_lies _ (by rfl) _ _ _ (by rfl) (g0 + 1) 26 i0 (.agg #[.int .i64 0, .int .i64 0, .int .i64 0, .int .i64 0, .int .i64 0, .int .i64 0, .int .i64 0, .int .i64 0, .slice none 0 0]) 9 88 Try.underlying24 hi hz0 hz1 hz2 rfl (by decide) _ _ _ (by rfl) HS.out.own.1 ⟨w5.heap.size, 0, none⟩ 1 1 [.int .i64 0, .int .i64 0, .int .i64 0, .int .i64 0, .int .i64 0, .int .i64 0, .int .i64 0, .int .i64 0, .slice none 0 0] (by rfl) rfl ?c1 ?c2 (by decide) ?c4 ?c5 ?c6 _ rfl ?_
          case c1 => exact World.news_of_block HZ.out
          case c2 => exact ntE.one ntZ
          case c4 => unfold maxLen; omega
          case c5 => omega
          case c6 => omega
          intro gg cp w7 hown hgrow hat hlt7
          have T7 := HS.out.app hown hgrow hat rfl (fun k e => .inr e)
          have HW := Lib.hid T7.1
          have HL := Lib.hid T7.2.1
          have HK := Lib.hid T7.2.2
          have hgx : g0 + 1 ≤ gg ∧ gg ≠ w.heap.size := (by rcases hat with q | q; have := hvb gg q; omega; omega)
          have HD : Hid ((.slice Av L.length cv : Value).ownBlock = some gg ∨ w.heap.size ≤ gg) := Lib.hid (hat.imp (fun q => q) (fun q => by omega))
          replace HV := Lib.hid (show V1 w7 g0 24 (.slice Av L.length cv) from (hgrow.block g0 HV.out.lt (fun e => by have := hvb g0 e.symm; omega)).trans HV.out)
          have hx7 : w7.heap[w.heap.size]? = w6.heap[w.heap.size]? := hgrow.block _ hlx (fun e => by have := hvb _ e.symm; omega)
          replace HX := Lib.hid (HX.out.same hx7)
          replace HY := Lib.hid (grown_keep (ok' := fun k => g0 + 1 ≤ k ∧ k ≠ gg) hgrow HY.out (fun k q e => by have := hvb k e.symm; omega) (fun k q hl => ⟨by omega, fun e => by rcases hat with p | p; have := hvb gg p; omega; omega⟩))
          clear T7 hown hgrow hat hlt7 HS HZ hx7 hlx
          refine hK.out _ _ ?_ (fun hHeld => ?_)
          · exact HX.out
          clear hK K
          (try simp only [Act.put, List.setIfInBounds_toArray, List.set_cons_zero, List.set_cons_succ])
          refine wpAnyH_take (i := 6) (oi := { dst := some 13, op := Op.indexAddr 24 (Operand.tmp 12) (Operand.tmp 10), type := 0, pos := "expr.go:56", after := #[{ on := 5, ground := Ground.data }, { on := 3, ground := Ground.data }, { on := 0, ground := Ground.phase }, { on := 1, ground := Ground.phase }, { on := 2, ground := Ground.phase }, { on := 3, ground := Ground.phase }, { on := 4, ground := Ground.phase }, { on := 5, ground := Ground.phase }, { on := 8, ground := Ground.gcOnly Departure.appendInPlace }], guard := none }) (v := ?_) rfl (by kernel_rfl) (by kernel_rfl) (by kernel_rfl) (fun _ _ _ h => h) (Or.inl ⟨by rfl, ?_⟩) (by assumption) ?_
          rotate_left
          · intro w hSw; (try dsimp only at hSw); obtain ⟨a0, a1, a2, a3, a4, a5, a6, a7, a8⟩ := hSw.cells; go_simp; try with_reducible rfl
          (try simp only [Act.put, List.setIfInBounds_toArray, List.set_cons_zero, List.set_cons_succ])
          refine wpAnyH_ready (rs := [7, 8]) (by kernel_rfl) (by simp) ?_
          refine AllReadyH.cons (o := { dst := none, op := Op.store 26 (Operand.tmp 13) (Operand.tmp 9), type := 0, pos := "expr.go:56", after := #[{ on := 6, ground := Ground.data }, { on := 2, ground := Ground.data }, { on := 5, ground := Ground.chain }, { on := 0, ground := Ground.phase }, { on := 1, ground := Ground.phase }, { on := 2, ground := Ground.phase }, { on := 3, ground := Ground.phase }, { on := 4, ground := Ground.phase }, { on := 5, ground := Ground.phase }, { on := 8, ground := Ground.gcOnly Departure.appendInPlace }], guard := none }) rfl (fun K hK => ?_) (AllReadyH.cons (o := { dst := none, op := Op.store 24 (Operand.tmp 1) (Operand.tmp 12), type := 0, pos := "expr.go:56", after := #[{ on := 5, ground := Ground.data }, { on := 5, ground := Ground.chain }, { on := 7, ground := Ground.textOnly Departure.appendInPlace }, { on := 0, ground := Ground.phase }, { on := 1, ground := Ground.phase }, { on := 2, ground := Ground.phase }, { on := 3, ground := Ground.phase }, { on := 4, ground := Ground.phase }, { on := 5, ground := Ground.phase }, { on := 6, ground := Ground.textOnly Departure.appendInPlace }, { on := 7, ground := Ground.textOnly Departure.appendInPlace }], guard := none }) rfl (fun K hK => ?_) AllReadyH.nil)
          · obtain ⟨hcl, hfz⟩ := own_cells HW.out
            have d0 := hcl 0 _ rfl
            have d1 := hcl 1 _ rfl
            have d2 := hcl 2 _ rfl
            have d3 := hcl 3 _ rfl
            have d4 := hcl 4 _ rfl
            have d5 := hcl 5 _ rfl
            have d6 := hcl 6 _ rfl
            have d7 := hcl 7 _ rfl
            have d8 := hcl 8 _ rfl
            rw [Nat.add_zero] at d0
            have f0 := hfz (L.length * 9)
            have f1 := hfz (L.length * 9 + 1)
            have f2 := hfz (L.length * 9 + 2)
            have f3 := hfz (L.length * 9 + 3)
            have f4 := hfz (L.length * 9 + 4)
            have f5 := hfz (L.length * 9 + 5)
            have f6 := hfz (L.length * 9 + 6)
            have f7 := hfz (L.length * 9 + 7)
            have f8 := hfz (L.length * 9 + 8)
            clear hcl hfz
            go_simp
            rw [nest_q]
            obtain ⟨w8, hw8⟩ : ∃ w8, w8 = sets w7 gg (L.length * 9) [.int .i64 oy, .int .i64 q0, .int .i64 q1, .int .i64 q2, .int .i64 q3, .int .i64 q4, .int .i64 q5, .int .i64 vy, .slice Ay ky.len cy] := ⟨_, rfl⟩
            rw [← hw8]
            have gs : w7.grownBy w8 (some gg) := by rw [hw8]; exact grown_sets _ _
            have HW8 : Hid (OwnL ntE 26 w8 (g0 + 1) (.slice (some ⟨gg, 0, none⟩) (L.length + 1) cp) (L ++ [(⟨oy, [q0, q1, q2, q3, q4, q5], vy, Ay, cy, ky⟩ : NT)])) := Lib.hid (by rw [hw8]; exact own_last HW.out (list9 oy q0 q1 q2 q3 q4 q5 vy Ay ky.len cy) rfl)
            clear hw8 HW
            have HW := HW8
            clear HW8
            have hx8 : w8.heap[w.heap.size]? = w7.heap[w.heap.size]? := gs.block _ HX.out.lt (fun e => by injection e with e; omega)
            replace HX := Lib.hid (HX.out.same hx8)
            have hv8 : w8.heap[g0]? = w7.heap[g0]? := gs.block _ HV.out.lt (fun e => by injection e with e; omega)
            have HV8 : Hid (V1 w8 g0 24 (.slice Av L.length cv)) := Lib.hid (hv8.trans HV.out)
            clear HV
            have HV := HV8
            clear HV8 hx8 hv8
            replace HY := Lib.hid (grown_keep (ok' := fun k => g0 + 1 ≤ k ∧ k ≠ gg) gs HY.out (fun k q e => q.2 (Option.some.inj e)) (fun k q _ => q))
            have HL8 : Hid (∀ z ∈ L, z.Rk w8 (fun k => g0 + 1 ≤ k ∧ k ≠ gg) ∧ z.Al) := Lib.hid (fun z hz => And.intro (grown_keep gs (HL.out z hz).1 (fun k q e => q.2 (Option.some.inj e)) (fun k q _ => q)) (HL.out z hz).2)
            clear HL
            have HL := HL8
            clear HL8
            replace HK := Lib.hid (HK.out.grown gs (fun k e hk => .inr (by have e' := Option.some.inj e; subst e'; exact HD.out.elim (fun q => q) (fun q => by omega))))
            clear gs
            refine hK.out _ _ ?_ (fun hHeld => ?_)
            · exact HX.out
            clear d0 d1 d2 d3 d4 d5 d6 d7 d8 f0 f1 f2 f3 f4 f5 f6 f7 f8
            clear hK K
            (try simp only [Act.put, List.setIfInBounds_toArray, List.set_cons_zero, List.set_cons_succ])
            refine wpAnyH_ready (rs := [8]) (by kernel_rfl) (by simp) ?_
            refine AllReadyH.cons (o := { dst := none, op := Op.store 24 (Operand.tmp 1) (Operand.tmp 12), type := 0, pos := "expr.go:56", after := #[{ on := 5, ground := Ground.data }, { on := 5, ground := Ground.chain }, { on := 7, ground := Ground.textOnly Departure.appendInPlace }, { on := 0, ground := Ground.phase }, { on := 1, ground := Ground.phase }, { on := 2, ground := Ground.phase }, { on := 3, ground := Ground.phase }, { on := 4, ground := Ground.phase }, { on := 5, ground := Ground.phase }, { on := 6, ground := Ground.textOnly Departure.appendInPlace }, { on := 7, ground := Ground.textOnly Departure.appendInPlace }], guard := none }) rfl (fun K hK => ?_) AllReadyH.nil
            have c0 := HV.out.cell
            have f0 := HV.out.free
            go_simp
            obtain ⟨w9, hw9⟩ : ∃ w9, w9 = w8.setCell ⟨g0, 0, none⟩ (.slice (some ⟨gg, 0, none⟩) (L.length + 1) cp) := ⟨_, rfl⟩
            rw [← hw9]
            have gs : w8.grownBy w9 (some g0) := by rw [hw9]; exact grown_set _
            have HV9 : Hid (V1 w9 g0 24 (.slice (some ⟨gg, 0, none⟩) (L.length + 1) cp)) := Lib.hid (by rw [hw9]; exact HV.out.set _)
            clear hw9 HV c0 f0
            have HV := HV9
            clear HV9
            replace HW := Lib.hid (HW.out.turn gs (.inr (fun e => by have e' : some gg = some g0 := e; have e2 := Option.some.inj e'; omega)))
            have hx9 : w9.heap[w.heap.size]? = w8.heap[w.heap.size]? := gs.block _ HX.out.lt (fun e => by injection e with e; omega)
            replace HX := Lib.hid (HX.out.same hx9)
            clear hx9
            replace HY := Lib.hid (grown_keep (ok' := fun k => g0 + 1 ≤ k ∧ k ≠ gg) gs HY.out (fun k q e => by have e2 := Option.some.inj e; omega) (fun k q _ => q))
            have HL9 : Hid (∀ z ∈ L, z.Rk w9 (fun k => g0 + 1 ≤ k ∧ k ≠ gg) ∧ z.Al) := Lib.hid (fun z hz => And.intro (grown_keep gs (HL.out z hz).1 (fun k q e => by have e2 := Option.some.inj e; omega) (fun k q _ => q)) (HL.out z hz).2)
            clear HL
            have HL := HL9
            clear HL9
            replace HK := Lib.hid (HK.out.grown gs (fun k e _ => .inl (Option.some.inj e).symm))
            clear gs
            refine hK.out _ _ ?_ (fun hHeld => ?_)
            · exact HX.out
            clear hK K
            (try simp only [Act.put, List.setIfInBounds_toArray, List.set_cons_zero, List.set_cons_succ])
            refine wpAnyH_done (by kernel_rfl) ?_ _
            have FI := Lib.hid (at_done2 ES.out (at_done HW.out HV.out HL.out HY.out HYA.out HYN.out HEQ.out HK.out HD.out))
            clear hHeld ES HW HV HL HY HYA HYN HEQ HK HD HX
            go_wp2
            go_ret
            exact FI.out
          · have c0 := HV.out.cell
            have f0 := HV.out.free
            go_simp
            obtain ⟨w9, hw9⟩ : ∃ w9, w9 = w7.setCell ⟨g0, 0, none⟩ (.slice (some ⟨gg, 0, none⟩) (L.length + 1) cp) := ⟨_, rfl⟩
            rw [← hw9]
            have gs : w7.grownBy w9 (some g0) := by rw [hw9]; exact grown_set _
            have HV9 : Hid (V1 w9 g0 24 (.slice (some ⟨gg, 0, none⟩) (L.length + 1) cp)) := Lib.hid (by rw [hw9]; exact HV.out.set _)
            clear hw9 HV c0 f0
            have HV := HV9
            clear HV9
            replace HW := Lib.hid (HW.out.turn gs (.inr (fun e => by have e' : some gg = some g0 := e; have e2 := Option.some.inj e'; omega)))
            have hx9 : w9.heap[w.heap.size]? = w7.heap[w.heap.size]? := gs.block _ HX.out.lt (fun e => by injection e with e; omega)
            replace HX := Lib.hid (HX.out.same hx9)
            clear hx9
            replace HY := Lib.hid (grown_keep (ok' := fun k => g0 + 1 ≤ k ∧ k ≠ gg) gs HY.out (fun k q e => by have e2 := Option.some.inj e; omega) (fun k q _ => q))
            have HL9 : Hid (∀ z ∈ L, z.Rk w9 (fun k => g0 + 1 ≤ k ∧ k ≠ gg) ∧ z.Al) := Lib.hid (fun z hz => And.intro (grown_keep gs (HL.out z hz).1 (fun k q e => by have e2 := Option.some.inj e; omega) (fun k q _ => q)) (HL.out z hz).2)
            clear HL
            have HL := HL9
            clear HL9
            replace HK := Lib.hid (HK.out.grown gs (fun k e _ => .inl (Option.some.inj e).symm))
            clear gs
            refine hK.out _ _ ?_ (fun hHeld => ?_)
            · exact HX.out
            clear hK K
            (try simp only [Act.put, List.setIfInBounds_toArray, List.set_cons_zero, List.set_cons_succ])
            refine wpAnyH_ready (rs := [7]) (by kernel_rfl) (by simp) ?_
            refine AllReadyH.cons (o := { dst := none, op := Op.store 26 (Operand.tmp 13) (Operand.tmp 9), type := 0, pos := "expr.go:56", after := #[{ on := 6, ground := Ground.data }, { on := 2, ground := Ground.data }, { on := 5, ground := Ground.chain }, { on := 0, ground := Ground.phase }, { on := 1, ground := Ground.phase }, { on := 2, ground := Ground.phase }, { on := 3, ground := Ground.phase }, { on := 4, ground := Ground.phase }, { on := 5, ground := Ground.phase }, { on := 8, ground := Ground.gcOnly Departure.appendInPlace }], guard := none }) rfl (fun K hK => ?_) AllReadyH.nil
            obtain ⟨hcl, hfz⟩ := own_cells HW.out
            have d0 := hcl 0 _ rfl
            have d1 := hcl 1 _ rfl
            have d2 := hcl 2 _ rfl
            have d3 := hcl 3 _ rfl
            have d4 := hcl 4 _ rfl
            have d5 := hcl 5 _ rfl
            have d6 := hcl 6 _ rfl
            have d7 := hcl 7 _ rfl
            have d8 := hcl 8 _ rfl
            rw [Nat.add_zero] at d0
            have f0 := hfz (L.length * 9)
            have f1 := hfz (L.length * 9 + 1)
            have f2 := hfz (L.length * 9 + 2)
            have f3 := hfz (L.length * 9 + 3)
            have f4 := hfz (L.length * 9 + 4)
            have f5 := hfz (L.length * 9 + 5)
            have f6 := hfz (L.length * 9 + 6)
            have f7 := hfz (L.length * 9 + 7)
            have f8 := hfz (L.length * 9 + 8)
            clear hcl hfz
            go_simp
            rw [nest_q]
            obtain ⟨w8, hw8⟩ : ∃ w8, w8 = sets w9 gg (L.length * 9) [.int .i64 oy, .int .i64 q0, .int .i64 q1, .int .i64 q2, .int .i64 q3, .int .i64 q4, .int .i64 q5, .int .i64 vy, .slice Ay ky.len cy] := ⟨_, rfl⟩
            rw [← hw8]
            have gs : w9.grownBy w8 (some gg) := by rw [hw8]; exact grown_sets _ _
            have HW8 : Hid (OwnL ntE 26 w8 (g0 + 1) (.slice (some ⟨gg, 0, none⟩) (L.length + 1) cp) (L ++ [(⟨oy, [q0, q1, q2, q3, q4, q5], vy, Ay, cy, ky⟩ : NT)])) := Lib.hid (by rw [hw8]; exact own_last HW.out (list9 oy q0 q1 q2 q3 q4 q5 vy Ay ky.len cy) rfl)
            clear hw8 HW
            have HW := HW8
            clear HW8
            have hx8 : w8.heap[w.heap.size]? = w9.heap[w.heap.size]? := gs.block _ HX.out.lt (fun e => by injection e with e; omega)
            replace HX := Lib.hid (HX.out.same hx8)
            have hv8 : w8.heap[g0]? = w9.heap[g0]? := gs.block _ HV.out.lt (fun e => by injection e with e; omega)
            have HV8 : Hid (V1 w8 g0 24 (.slice (some ⟨gg, 0, none⟩) (L.length + 1) cp)) := Lib.hid (hv8.trans HV.out)
            clear HV
            have HV := HV8
            clear HV8 hx8 hv8
            replace HY := Lib.hid (grown_keep (ok' := fun k => g0 + 1 ≤ k ∧ k ≠ gg) gs HY.out (fun k q e => q.2 (Option.some.inj e)) (fun k q _ => q))
            have HL8 : Hid (∀ z ∈ L, z.Rk w8 (fun k => g0 + 1 ≤ k ∧ k ≠ gg) ∧ z.Al) := Lib.hid (fun z hz => And.intro (grown_keep gs (HL.out z hz).1 (fun k q e => q.2 (Option.some.inj e)) (fun k q _ => q)) (HL.out z hz).2)
            clear HL
            have HL := HL8
            clear HL8
            replace HK := Lib.hid (HK.out.grown gs (fun k e hk => .inr (by have e' := Option.some.inj e; subst e'; exact HD.out.elim (fun q => q) (fun q => by omega))))
            clear gs
            refine hK.out _ _ ?_ (fun hHeld => ?_)
            · exact HX.out
            clear d0 d1 d2 d3 d4 d5 d6 d7 d8 f0 f1 f2 f3 f4 f5 f6 f7 f8
            clear hK K
            (try simp only [Act.put, List.setIfInBounds_toArray, List.set_cons_zero, List.set_cons_succ])
            refine wpAnyH_done (by kernel_rfl) ?_ _
            have FI := Lib.hid (at_done2 ES.out (at_done HW.out HV.out HL.out HY.out HYA.out HYN.out HEQ.out HK.out HD.out))
            clear hHeld ES HW HV HL HY HYA HYN HEQ HK HD HX
            go_wp2
            go_ret
            exact FI.out
      · go_simp
        have hb := below_new X (.cells #[.int .i64 0, .int .i64 0, .int .i64 0, .int .i64 0, .int .i64 0, .int .i64 0, .int .i64 0, .int .i64 0, .slice none 0 0] 26)
        have HZ := Lib.hid (heap_new X (.cells #[.int .i64 0, .int .i64 0, .int .i64 0, .int .i64 0, .int .i64 0, .int .i64 0, .int .i64 0, .int .i64 0, .slice none 0 0] 26))
        replace HS := Lib.hid (HS.out.keep hb)
        replace HX := Lib.hid (HX.out.keep hb)
        replace HV := Lib.hid (HV.out.keep hb)
        replace HO := Lib.hid (HO.out.below hb)
        clear hb
        refine hK.out _ _ ?_ (fun hHeld => ?_)
        · exact HX.out
        obtain ⟨w6, hw6⟩ : ∃ w6, w6 = X.alloc (.cells #[.int .i64 0, .int .i64 0, .int .i64 0, .int .i64 0, .int .i64 0, .int .i64 0, .int .i64 0, .int .i64 0, .slice none 0 0] 26) := ⟨_, rfl⟩
        rw [← hw6] at HZ HS HX HV HO ⊢
        clear hw6
        clear hK K
        (try simp only [Act.put, List.setIfInBounds_toArray, List.set_cons_zero, List.set_cons_succ])
        refine wpAnyH_ready (rs := [0, 2]) (by kernel_rfl) (by simp) ?_
        refine AllReadyH.cons (o := { dst := some 7, op := Op.load 24 (Operand.tmp 1), type := 24, pos := "expr.go:56", after := #[], guard := none }) rfl (fun K hK => ?_) (AllReadyH.cons (o := { dst := some 9, op := Op.call { callee := Callee.value (Operand.func 6), args := #[Operand.tmp 8], argTypes := #[26] }, type := 26, pos := "expr.go:56", after := #[{ on := 1, ground := Ground.data }], guard := none }) rfl (fun K hK => ?_) AllReadyH.nil)
        · have c0 := HV.out.cell
          go_simp
          refine hK.out _ _ ?_ (fun hHeld => ?_)
          · exact HX.out
          clear c0
          clear hK K
          (try simp only [Act.put, List.setIfInBounds_toArray, List.set_cons_zero, List.set_cons_succ])
          refine wpAnyH_take (i := 3) (oi := { dst := some 10, op := Op.call { callee := Callee.builtin Builtin.len, args := #[Operand.tmp 7], argTypes := #[24] }, type := 3, pos := "expr.go:56", after := #[{ on := 0, ground := Ground.data }], guard := none }) (v := ?_) rfl (by kernel_rfl) (by kernel_rfl) (by kernel_rfl) (fun _ _ _ h => h) (Or.inl ⟨by rfl, ?_⟩) (by assumption) ?_
          rotate_left
          · intro w hSw; (try dsimp only at hSw); obtain ⟨a0, a1, a2, a3, a4, a5, a6, a7, a8⟩ := hSw.cells; go_simp; try with_reducible rfl
          (try simp only [Act.put, List.setIfInBounds_toArray, List.set_cons_zero, List.set_cons_succ])
          refine wpAnyH_ready (rs := [2]) (by kernel_rfl) (by simp) ?_
          refine AllReadyH.cons (o := { dst := some 9, op := Op.call { callee := Callee.value (Operand.func 6), args := #[Operand.tmp 8], argTypes := #[26] }, type := 26, pos := "expr.go:56", after := #[{ on := 1, ground := Ground.data }], guard := none }) rfl (fun K hK => ?_) AllReadyH.nil
          go_simp
          refine (CC.out _ _ HO.out).mono ?_
          rintro ev w5 ⟨y, rfl, hyn, hyo, hya, hb⟩
          obtain ⟨oy, byy, vy, Ay, cy, ky⟩ := y
          obtain ⟨q0, q1, q2, q3, q4, q5, rfl⟩ := six hyo.six
          have HY := Lib.hid (hyo.keep (ok' := fun k => w.heap.size < k) (fun _ _ _ => rfl) (Nat.le_refl _) (fun k q _ => by have := HX.out.lt; omega))
          have HYN := Lib.hid hyn
          have HYA := Lib.hid hya
          replace HS := Lib.hid (HS.out.keep hb)
          replace HX := Lib.hid (HX.out.keep hb)
          replace HV := Lib.hid (HV.out.keep hb)
          replace HZ := Lib.hid ((hb.block _ (Array.getElem?_eq_some_iff.1 HZ.out).1).trans HZ.out)
          rw [NT.val_lit]
          clear hyn hyo hya hb HO CC
          refine hK.out _ _ ?_ (fun hHeld => ?_)
          · exact HX.out
          clear hK K
          (try simp only [Act.put, List.setIfInBounds_toArray, List.set_cons_zero, List.set_cons_succ])
          refine wpAnyH_ready (rs := [5]) (by kernel_rfl) (by simp) ?_
          refine AllReadyH.cons (o := { dst := some 12, op := Op.call { callee := Callee.builtin Builtin.append, args := #[Operand.tmp 7, Operand.tmp 11], argTypes := #[24, 24] }, type := 24, pos := "expr.go:56", after := #[{ on := 0, ground := Ground.data }, { on := 4, ground := Ground.data }, { on := 2, ground := Ground.chain }, { on := 0, ground := Ground.phase }, { on := 1, ground := Ground.phase }, { on := 2, ground := Ground.phase }, { on := 3, ground := Ground.phase }, { on := 4, ground := Ground.phase }], guard := none }) rfl (fun K hK => ?_) AllReadyH.nil
          have hlx := HX.out.lt
          refine step_append_lies _ (by rfl) _ _ _ (by rfl) (g0 + 1) 26 i0 (.agg #[.int .i64 0, .int .i64 0, .int .i64 0, .int .i64 0, .int .i64 0, .int .i64 0, .int .i64 0, .int .i64 0, .slice none 0 0]) 9 88 Try.underlying24 hi hz0 hz1 hz2 rfl (by decide) _ _ _ (by rfl) HS.out.own.1 ⟨X.heap.size, 0, none⟩ 1 1 [.int .i64 0, .int .i64 0, .int .i64 0, .int .i64 0, .int .i64 0, .int .i64 0, .int .i64 0, .int .i64 0, .slice none 0 0] (by rfl) rfl ?c1 ?c2 (by decide) ?c4 ?c5 ?c6 _ rfl ?_
          case c1 => exact World.news_of_block HZ.out
          case c2 => exact ntE.one ntZ
          case c4 => unfold maxLen; omega
          case c5 => omega
          case c6 => omega
          intro gg cp w7 hown hgrow hat hlt7
          have T7 := HS.out.app hown hgrow hat rfl (fun k e => .inr e)
          have HW := Lib.hid T7.1
          have HL := Lib.hid T7.2.1
          have HK := Lib.hid T7.2.2
          have hgx : g0 + 1 ≤ gg ∧ gg ≠ w.heap.size := (by rcases hat with q | q; have := hvb gg q; omega; omega)
          have HD : Hid ((.slice Av L.length cv : Value).ownBlock = some gg ∨ w.heap.size ≤ gg) := Lib.hid (hat.imp (fun q => q) (fun q => by omega))
          replace HV := Lib.hid (show V1 w7 g0 24 (.slice Av L.length cv) from (hgrow.block g0 HV.out.lt (fun e => by have := hvb g0 e.symm; omega)).trans HV.out)
          have hx7 : w7.heap[w.heap.size]? = w5.heap[w.heap.size]? := hgrow.block _ hlx (fun e => by have := hvb _ e.symm; omega)
          replace HX := Lib.hid (HX.out.same hx7)
          replace HY := Lib.hid (grown_keep (ok' := fun k => g0 + 1 ≤ k ∧ k ≠ gg) hgrow HY.out (fun k q e => by have := hvb k e.symm; omega) (fun k q hl => ⟨by omega, fun e => by rcases hat with p | p; have := hvb gg p; omega; omega⟩))
          clear T7 hown hgrow hat hlt7 HS HZ hx7 hlx
          refine hK.out _ _ ?_ (fun hHeld => ?_)
          · exact HX.out
          clear hK K
          (try simp only [Act.put, List.setIfInBounds_toArray, List.set_cons_zero, List.set_cons_succ])
          refine wpAnyH_take (i := 6) (oi := { dst := some 13, op := Op.indexAddr 24 (Operand.tmp 12) (Operand.tmp 10), type := 0, pos := "expr.go:56", after := #[{ on := 5, ground := Ground.data }, { on := 3, ground := Ground.data }, { on := 0, ground := Ground.phase }, { on := 1, ground := Ground.phase }, { on := 2, ground := Ground.phase }, { on := 3, ground := Ground.phase }, { on := 4, ground := Ground.phase }, { on := 5, ground := Ground.phase }, { on := 8, ground := Ground.gcOnly Departure.appendInPlace }], guard := none }) (v := ?_) rfl (by kernel_rfl) (by kernel_rfl) (by kernel_rfl) (fun _ _ _ h => h) (Or.inl ⟨by rfl, ?_⟩) (by assumption) ?_
          rotate_left
          · intro w hSw; (try dsimp only at hSw); obtain ⟨a0, a1, a2, a3, a4, a5, a6, a7, a8⟩ := hSw.cells; go_simp; try with_reducible rfl
          (try simp only [Act.put, List.setIfInBounds_toArray, List.set_cons_zero, List.set_cons_succ])
          refine wpAnyH_ready (rs := [7, 8]) (by kernel_rfl) (by simp) ?_
          refine AllReadyH.cons (o := { dst := none, op := Op.store 26 (Operand.tmp 13) (Operand.tmp 9), type := 0, pos := "expr.go:56", after := #[{ on := 6, ground := Ground.data }, { on := 2, ground := Ground.data }, { on := 5, ground := Ground.chain }, { on := 0, ground := Ground.phase }, { on := 1, ground := Ground.phase }, { on := 2, ground := Ground.phase }, { on := 3, ground := Ground.phase }, { on := 4, ground := Ground.phase }, { on := 5, ground := Ground.phase }, { on := 8, ground := Ground.gcOnly Departure.appendInPlace }], guard := none }) rfl (fun K hK => ?_) (AllReadyH.cons (o := { dst := none, op := Op.store 24 (Operand.tmp 1) (Operand.tmp 12), type := 0, pos := "expr.go:56", after := #[{ on := 5, ground := Ground.data }, { on := 5, ground := Ground.chain }, { on := 7, ground := Ground.textOnly Departure.appendInPlace }, { on := 0, ground := Ground.phase }, { on := 1, ground := Ground.phase }, { on := 2, ground := Ground.phase }, { on := 3, ground := Ground.phase }, { on := 4, ground := Ground.phase }, { on := 5, ground := Ground.phase }, { on := 6, ground := Ground.textOnly Departure.appendInPlace }, { on := 7, ground := Ground.textOnly Departure.appendInPlace }], guard := none }) rfl (fun K hK => ?_) AllReadyH.nil)
          · obtain ⟨hcl, hfz⟩ := own_cells HW.out
            have d0 := hcl 0 _ rfl
            have d1 := hcl 1 _ rfl
            have d2 := hcl 2 _ rfl
            have d3 := hcl 3 _ rfl
            have d4 := hcl 4 _ rfl
            have d5 := hcl 5 _ rfl
            have d6 := hcl 6 _ rfl
            have d7 := hcl 7 _ rfl
            have d8 := hcl 8 _ rfl
            rw [Nat.add_zero] at d0
            have f0 := hfz (L.length * 9)
            have f1 := hfz (L.length * 9 + 1)
            have f2 := hfz (L.length * 9 + 2)
            have f3 := hfz (L.length * 9 + 3)
            have f4 := hfz (L.length * 9 + 4)
            have f5 := hfz (L.length * 9 + 5)
            have f6 := hfz (L.length * 9 + 6)
            have f7 := hfz (L.length * 9 + 7)
            have f8 := hfz (L.length * 9 + 8)
            clear hcl hfz
            go_simp
            rw [nest_q]
            obtain ⟨w8, hw8⟩ : ∃ w8, w8 = sets w7 gg (L.length * 9) [.int .i64 oy, .int .i64 q0, .int .i64 q1, .int .i64 q2, .int .i64 q3, .int .i64 q4, .int .i64 q5, .int .i64 vy, .slice Ay ky.len cy] := ⟨_, rfl⟩
            rw [← hw8]
            have gs : w7.grownBy w8 (some gg) := by rw [hw8]; exact grown_sets _ _
            have HW8 : Hid (OwnL ntE 26 w8 (g0 + 1) (.slice (some ⟨gg, 0, none⟩) (L.length + 1) cp) (L ++ [(⟨oy, [q0, q1, q2, q3, q4, q5], vy, Ay, cy, ky⟩ : NT)])) := Lib.hid (by rw [hw8]; exact own_last HW.out (list9 oy q0 q1 q2 q3 q4 q5 vy Ay ky.len cy) rfl)
            clear hw8 HW
            have HW := HW8
            clear HW8
            have hx8 : w8.heap[w.heap.size]? = w7.heap[w.heap.size]? := gs.block _ HX.out.lt (fun e => by injection e with e; omega)
            replace HX := Lib.hid (HX.out.same hx8)
            have hv8 : w8.heap[g0]? = w7.heap[g0]? := gs.block _ HV.out.lt (fun e => by injection e with e; omega)
            have HV8 : Hid (V1 w8 g0 24 (.slice Av L.length cv)) := Lib.hid (hv8.trans HV.out)
            clear HV
            have HV := HV8
            clear HV8 hx8 hv8
            replace HY := Lib.hid (grown_keep (ok' := fun k => g0 + 1 ≤ k ∧ k ≠ gg) gs HY.out (fun k q e => q.2 (Option.some.inj e)) (fun k q _ => q))
            have HL8 : Hid (∀ z ∈ L, z.Rk w8 (fun k => g0 + 1 ≤ k ∧ k ≠ gg) ∧ z.Al) := Lib.hid (fun z hz => And.intro (grown_keep gs (HL.out z hz).1 (fun k q e => q.2 (Option.some.inj e)) (fun k q _ => q)) (HL.out z hz).2)
            clear HL
            have HL := HL8
            clear HL8
            replace HK := Lib.hid (HK.out.grown gs (fun k e hk => .inr (by have e' := Option.some.inj e; subst e'; exact HD.out.elim (fun q => q) (fun q => by omega))))
            clear gs
            refine hK.out _ _ ?_ (fun hHeld => ?_)
            · exact HX.out
            clear d0 d1 d2 d3 d4 d5 d6 d7 d8 f0 f1 f2 f3 f4 f5 f6 f7 f8
            clear hK K
            (try simp only [Act.put, List.setIfInBounds_toArray, List.set_cons_zero, List.set_cons_succ])
            refine wpAnyH_ready (rs := [8]) (by kernel_rfl) (by simp) ?_
            refine AllReadyH.cons (o := { dst := none, op := Op.store 24 (Operand.tmp 1) (Operand.tmp 12), type := 0, pos := "expr.go:56", after := #[{ on := 5, ground := Ground.data }, { on := 5, ground := Ground.chain }, { on := 7, ground := Ground.textOnly Departure.appendInPlace }, { on := 0, ground := Ground.phase }, { on := 1, ground := Ground.phase }, { on := 2, ground := Ground.phase }, { on := 3, ground := Ground.phase }, { on := 4, ground := Ground.phase }, { on := 5, ground := Ground.phase }, { on := 6, ground := Ground.textOnly Departure.appendInPlace }, { on := 7, ground := Ground.textOnly Departure.appendInPlace }], guard := none }) rfl (fun K hK => ?_) AllReadyH.nil
            have c0 := HV.out.cell
            have f0 := HV.out.free
            go_simp
            obtain ⟨w9, hw9⟩ : ∃ w9, w9 = w8.setCell ⟨g0, 0, none⟩ (.slice (some ⟨gg, 0, none⟩) (L.length + 1) cp) := ⟨_, rfl⟩
            rw [← hw9]
            have gs : w8.grownBy w9 (some g0) := by rw [hw9]; exact grown_set _
            have HV9 : Hid (V1 w9 g0 24 (.slice (some ⟨gg, 0, none⟩) (L.length + 1) cp)) := Lib.hid (by rw [hw9]; exact HV.out.set _)
            clear hw9 HV c0 f0
            have HV := HV9
            clear HV9
            replace HW := Lib.hid (HW.out.turn gs (.inr (fun e => by have e' : some gg = some g0 := e; have e2 := Option.some.inj e'; omega)))
            have hx9 : w9.heap[w.heap.size]? = w8.heap[w.heap.size]? := gs.block _ HX.out.lt (fun e => by injection e with e; omega)
            replace HX := Lib.hid (HX.out.same hx9)
            clear hx9
            replace HY := Lib.hid (grown_keep (ok' := fun k => g0 + 1 ≤ k ∧ k ≠ gg) gs HY.out (fun k q e => by have e2 := Option.some.inj e; omega) (fun k q _ => q))
            have HL9 : Hid (∀ z ∈ L, z.Rk w9 (fun k => g0 + 1 ≤ k ∧ k ≠ gg) ∧ z.Al) := Lib.hid (fun z hz => And.intro (grown_keep gs (HL.out z hz).1 (fun k q e => by have e2 := Option.some.inj e; omega) (fun k q _ => q)) (HL.out z hz).2)
            clear HL
            have HL := HL9
            clear HL9
            replace HK := Lib.hid (HK.out.grown gs (fun k e _ => .inl (Option.some.inj e).symm))
            clear gs
            refine hK.out _ _ ?_ (fun hHeld => ?_)
            · exact HX.out
            clear hK K
            (try simp only [Act.put, List.setIfInBounds_toArray, List.set_cons_zero, List.set_cons_succ])
            refine wpAnyH_done (by kernel_rfl) ?_ _
            have FI := Lib.hid (at_done2 ES.out (at_done HW.out HV.out HL.out HY.out HYA.out HYN.out HEQ.out HK.out HD.out))
            clear hHeld ES HW HV HL HY HYA HYN HEQ HK HD HX
            go_wp2
            go_ret
            exact FI.out
          · have c0 := HV.out.cell
            have f0 := HV.out.free
            go_simp
            obtain ⟨w9, hw9⟩ : ∃ w9, w9 = w7.setCell ⟨g0, 0, none⟩ (.slice (some ⟨gg, 0, none⟩) (L.length + 1) cp) := ⟨_, rfl⟩
            rw [← hw9]
            have gs : w7.grownBy w9 (some g0) := by rw [hw9]; exact grown_set _
            have HV9 : Hid (V1 w9 g0 24 (.slice (some ⟨gg, 0, none⟩) (L.length + 1) cp)) := Lib.hid (by rw [hw9]; exact HV.out.set _)
            clear hw9 HV c0 f0
            have HV := HV9
            clear HV9
            replace HW := Lib.hid (HW.out.turn gs (.inr (fun e => by have e' : some gg = some g0 := e; have e2 := Option.some.inj e'; omega)))
            have hx9 : w9.heap[w.heap.size]? = w7.heap[w.heap.size]? := gs.block _ HX.out.lt (fun e => by injection e with e; omega)
            replace HX := Lib.hid (HX.out.same hx9)
            clear hx9
            replace HY := Lib.hid (grown_keep (ok' := fun k => g0 + 1 ≤ k ∧ k ≠ gg) gs HY.out (fun k q e => by have e2 := Option.some.inj e; omega) (fun k q _ => q))
            have HL9 : Hid (∀ z ∈ L, z.Rk w9 (fun k => g0 + 1 ≤ k ∧ k ≠ gg) ∧ z.Al) := Lib.hid (fun z hz => And.intro (grown_keep gs (HL.out z hz).1 (fun k q e => by have e2 := Option.some.inj e; omega) (fun k q _ => q)) (HL.out z hz).2)
            clear HL
            have HL := HL9
            clear HL9
            replace HK := Lib.hid (HK.out.grown gs (fun k e _ => .inl (Option.some.inj e).symm))
            clear gs
            refine hK.out _ _ ?_ (fun hHeld => ?_)
            · exact HX.out
            clear hK K
            (try simp only [Act.put, List.setIfInBounds_toArray, List.set_cons_zero, List.set_cons_succ])
            refine wpAnyH_ready (rs := [7]) (by kernel_rfl) (by simp) ?_
            refine AllReadyH.cons (o := { dst := none, op := Op.store 26 (Operand.tmp 13) (Operand.tmp 9), type := 0, pos := "expr.go:56", after := #[{ on := 6, ground := Ground.data }, { on := 2, ground := Ground.data }, { on := 5, ground := Ground.chain }, { on := 0, ground := Ground.phase }, { on := 1, ground := Ground.phase }, { on := 2, ground := Ground.phase }, { on := 3, ground := Ground.phase }, { on := 4, ground := Ground.phase }, { on := 5, ground := Ground.phase }, { on := 8, ground := Ground.gcOnly Departure.appendInPlace }], guard := none }) rfl (fun K hK => ?_) AllReadyH.nil
            obtain ⟨hcl, hfz⟩ := own_cells HW.out
            have d0 := hcl 0 _ rfl
            have d1 := hcl 1 _ rfl
            have d2 := hcl 2 _ rfl
            have d3 := hcl 3 _ rfl
            have d4 := hcl 4 _ rfl
            have d5 := hcl 5 _ rfl
            have d6 := hcl 6 _ rfl
            have d7 := hcl 7 _ rfl
            have d8 := hcl 8 _ rfl
            rw [Nat.add_zero] at d0
            have f0 := hfz (L.length * 9)
            have f1 := hfz (L.length * 9 + 1)
            have f2 := hfz (L.length * 9 + 2)
            have f3 := hfz (L.length * 9 + 3)
            have f4 := hfz (L.length * 9 + 4)
            have f5 := hfz (L.length * 9 + 5)
            have f6 := hfz (L.length * 9 + 6)
            have f7 := hfz (L.length * 9 + 7)
            have f8 := hfz (L.length * 9 + 8)
            clear hcl hfz
            go_simp
            rw [nest_q]
            obtain ⟨w8, hw8⟩ : ∃ w8, w8 = sets w9 gg (L.length * 9) [.int .i64 oy, .int .i64 q0, .int .i64 q1, .int .i64 q2, .int .i64 q3, .int .i64 q4, .int .i64 q5, .int .i64 vy, .slice Ay ky.len cy] := ⟨_, rfl⟩
            rw [← hw8]
            have gs : w9.grownBy w8 (some gg) := by rw [hw8]; exact grown_sets _ _
            have HW8 : Hid (OwnL ntE 26 w8 (g0 + 1) (.slice (some ⟨gg, 0, none⟩) (L.length + 1) cp) (L ++ [(⟨oy, [q0, q1, q2, q3, q4, q5], vy, Ay, cy, ky⟩ : NT)])) := Lib.hid (by rw [hw8]; exact own_last HW.out (list9 oy q0 q1 q2 q3 q4 q5 vy Ay ky.len cy) rfl)
            clear hw8 HW
            have HW := HW8
            clear HW8
            have hx8 : w8.heap[w.heap.size]? = w9.heap[w.heap.size]? := gs.block _ HX.out.lt (fun e => by injection e with e; omega)
            replace HX := Lib.hid (HX.out.same hx8)
            have hv8 : w8.heap[g0]? = w9.heap[g0]? := gs.block _ HV.out.lt (fun e => by injection e with e; omega)
            have HV8 : Hid (V1 w8 g0 24 (.slice (some ⟨gg, 0, none⟩) (L.length + 1) cp)) := Lib.hid (hv8.trans HV.out)
            clear HV
            have HV := HV8
            clear HV8 hx8 hv8
            replace HY := Lib.hid (grown_keep (ok' := fun k => g0 + 1 ≤ k ∧ k ≠ gg) gs HY.out (fun k q e => q.2 (Option.some.inj e)) (fun k q _ => q))
            have HL8 : Hid (∀ z ∈ L, z.Rk w8 (fun k => g0 + 1 ≤ k ∧ k ≠ gg) ∧ z.Al) := Lib.hid (fun z hz => And.intro (grown_keep gs (HL.out z hz).1 (fun k q e => q.2 (Option.some.inj e)) (fun k q _ => q)) (HL.out z hz).2)
            clear HL
            have HL := HL8
            clear HL8
            replace HK := Lib.hid (HK.out.grown gs (fun k e hk => .inr (by have e' := Option.some.inj e; subst e'; exact HD.out.elim (fun q => q) (fun q => by omega))))
            clear gs
            refine hK.out _ _ ?_ (fun hHeld => ?_)
            · exact HX.out
            clear d0 d1 d2 d3 d4 d5 d6 d7 d8 f0 f1 f2 f3 f4 f5 f6 f7 f8
            clear hK K
            (try simp only [Act.put, List.setIfInBounds_toArray, List.set_cons_zero, List.set_cons_succ])
            refine wpAnyH_done (by kernel_rfl) ?_ _
            have FI := Lib.hid (at_done2 ES.out (at_done HW.out HV.out HL.out HY.out HYA.out HYN.out HEQ.out HK.out HD.out))
            clear hHeld ES HW HV HL HY HYA HYN HEQ HK HD HX
            go_wp2
            go_ret
            exact FI.out
        · go_simp
          refine (CC.out _ _ HO.out).mono ?_
          rintro ev w5 ⟨y, rfl, hyn, hyo, hya, hb⟩
          obtain ⟨oy, byy, vy, Ay, cy, ky⟩ := y
          obtain ⟨q0, q1, q2, q3, q4, q5, rfl⟩ := six hyo.six
          have HY := Lib.hid (hyo.keep (ok' := fun k => w.heap.size < k) (fun _ _ _ => rfl) (Nat.le_refl _) (fun k q _ => by have := HX.out.lt; omega))
          have HYN := Lib.hid hyn
          have HYA := Lib.hid hya
          replace HS := Lib.hid (HS.out.keep hb)
          replace HX := Lib.hid (HX.out.keep hb)
          replace HV := Lib.hid (HV.out.keep hb)
          replace HZ := Lib.hid ((hb.block _ (Array.getElem?_eq_some_iff.1 HZ.out).1).trans HZ.out)
          rw [NT.val_lit]
          clear hyn hyo hya hb HO CC
          refine hK.out _ _ ?_ (fun hHeld => ?_)
          · exact HX.out
          clear hK K
          (try simp only [Act.put, List.setIfInBounds_toArray, List.set_cons_zero, List.set_cons_succ])
          refine wpAnyH_ready (rs := [0]) (by kernel_rfl) (by simp) ?_
          refine AllReadyH.cons (o := { dst := some 7, op := Op.load 24 (Operand.tmp 1), type := 24, pos := "expr.go:56", after := #[], guard := none }) rfl (fun K hK => ?_) AllReadyH.nil
          have c0 := HV.out.cell
          go_simp
          refine hK.out _ _ ?_ (fun hHeld => ?_)
          · exact HX.out
          clear c0
          clear hK K
          (try simp only [Act.put, List.setIfInBounds_toArray, List.set_cons_zero, List.set_cons_succ])
          refine wpAnyH_take (i := 3) (oi := { dst := some 10, op := Op.call { callee := Callee.builtin Builtin.len, args := #[Operand.tmp 7], argTypes := #[24] }, type := 3, pos := "expr.go:56", after := #[{ on := 0, ground := Ground.data }], guard := none }) (v := ?_) rfl (by kernel_rfl) (by kernel_rfl) (by kernel_rfl) (fun _ _ _ h => h) (Or.inl ⟨by rfl, ?_⟩) (by assumption) ?_
          rotate_left
          · intro w hSw; (try dsimp only at hSw); obtain ⟨a0, a1, a2, a3, a4, a5, a6, a7, a8⟩ := hSw.cells; go_simp; try with_reducible rfl
          (try simp only [Act.put, List.setIfInBounds_toArray, List.set_cons_zero, List.set_cons_succ])
          refine wpAnyH_ready (rs := [5]) (by kernel_rfl) (by simp) ?_
          refine AllReadyH.cons (o := { dst := some 12, op := Op.call { callee := Callee.builtin Builtin.append, args := #[Operand.tmp 7, Operand.tmp 11], argTypes := #[24, 24] }, type := 24, pos := "expr.go:56", after := #[{ on := 0, ground := Ground.data }, { on := 4, ground := Ground.data }, { on := 2, ground := Ground.chain }, { on := 0, ground := Ground.phase }, { on := 1, ground := Ground.phase }, { on := 2, ground := Ground.phase }, { on := 3, ground := Ground.phase }, { on := 4, ground := Ground.phase }], guard := none }) rfl (fun K hK => ?_) AllReadyH.nil
          have hlx := HX.out.lt
          refine step_append_lies _ (by rfl) _ _ _ (by rfl) (g0 + 1) 26 i0 (.agg #[.int .i64 0, .int .i64 0, .int .i64 0, .int .i64 0, .int .i64 0, .int .i64 0, .int .i64 0, .int .i64 0, .slice none 0 0]) 9 88 Try.underlying24 hi hz0 hz1 hz2 rfl (by decide) _ _ _ (by rfl) HS.out.own.1 ⟨X.heap.size, 0, none⟩ 1 1 [.int .i64 0, .int .i64 0, .int .i64 0, .int .i64 0, .int .i64 0, .int .i64 0, .int .i64 0, .int .i64 0, .slice none 0 0] (by rfl) rfl ?c1 ?c2 (by decide) ?c4 ?c5 ?c6 _ rfl ?_
          case c1 => exact World.news_of_block HZ.out
          case c2 => exact ntE.one ntZ
          case c4 => unfold maxLen; omega
          case c5 => omega
          case c6 => omega
          intro gg cp w7 hown hgrow hat hlt7
          have T7 := HS.out.app hown hgrow hat rfl (fun k e => .inr e)
          have HW := Lib.hid T7.1
          have HL := Lib.hid T7.2.1
          have HK := Lib.hid T7.2.2
          have hgx : g0 + 1 ≤ gg ∧ gg ≠ w.heap.size := (by rcases hat with q | q; have := hvb gg q; omega; omega)
          have HD : Hid ((.slice Av L.length cv : Value).ownBlock = some gg ∨ w.heap.size ≤ gg) := Lib.hid (hat.imp (fun q => q) (fun q => by omega))
          replace HV := Lib.hid (show V1 w7 g0 24 (.slice Av L.length cv) from (hgrow.block g0 HV.out.lt (fun e => by have := hvb g0 e.symm; omega)).trans HV.out)
          have hx7 : w7.heap[w.heap.size]? = w5.heap[w.heap.size]? := hgrow.block _ hlx (fun e => by have := hvb _ e.symm; omega)
          replace HX := Lib.hid (HX.out.same hx7)
          replace HY := Lib.hid (grown_keep (ok' := fun k => g0 + 1 ≤ k ∧ k ≠ gg) hgrow HY.out (fun k q e => by have := hvb k e.symm; omega) (fun k q hl => ⟨by omega, fun e => by rcases hat with p | p; have := hvb gg p; omega; omega⟩))
          clear T7 hown hgrow hat hlt7 HS HZ hx7 hlx
          refine hK.out _ _ ?_ (fun hHeld => ?_)
          · exact HX.out
          clear hK K
          (try simp only [Act.put, List.setIfInBounds_toArray, List.set_cons_zero, List.set_cons_succ])
          refine wpAnyH_take (i := 6) (oi := { dst := some 13, op := Op.indexAddr 24 (Operand.tmp 12) (Operand.tmp 10), type := 0, pos := "expr.go:56", after := #[{ on := 5, ground := Ground.data }, { on := 3, ground := Ground.data }, { on := 0, ground := Ground.phase }, { on := 1, ground := Ground.phase }, { on := 2, ground := Ground.phase }, { on := 3, ground := Ground.phase }, { on := 4, ground := Ground.phase }, { on := 5, ground := Ground.phase }, { on := 8, ground := Ground.gcOnly Departure.appendInPlace }], guard := none }) (v := ?_) rfl (by kernel_rfl) (by kernel_rfl) (by kernel_rfl) (fun _ _ _ h => h) (Or.inl ⟨by rfl, ?_⟩) (by assumption) ?_
          rotate_left
          · intro w hSw; (try dsimp only at hSw); obtain ⟨a0, a1, a2, a3, a4, a5, a6, a7, a8⟩ := hSw.cells; go_simp; try with_reducible rfl
          (try simp only [Act.put, List.setIfInBounds_toArray, List.set_cons_zero, List.set_cons_succ])
          refine wpAnyH_ready (rs := [7, 8]) (by kernel_rfl) (by simp) ?_
          refine AllReadyH.cons (o := { dst := none, op := Op.store 26 (Operand.tmp 13) (Operand.tmp 9), type := 0, pos := "expr.go:56", after := #[{ on := 6, ground := Ground.data }, { on := 2, ground := Ground.data }, { on := 5, ground := Ground.chain }, { on := 0, ground := Ground.phase }, { on := 1, ground := Ground.phase }, { on := 2, ground := Ground.phase }, { on := 3, ground := Ground.phase }, { on := 4, ground := Ground.phase }, { on := 5, ground := Ground.phase }, { on := 8, ground := Ground.gcOnly Departure.appendInPlace }], guard := none }) rfl (fun K hK => ?_) (AllReadyH.cons (o := { dst := none, op := Op.store 24 (Operand.tmp 1) (Operand.tmp 12), type := 0, pos := "expr.go:56", after := #[{ on := 5, ground := Ground.data }, { on := 5, ground := Ground.chain }, { on := 7, ground := Ground.textOnly Departure.appendInPlace }, { on := 0, ground := Ground.phase }, { on := 1, ground := Ground.phase }, { on := 2, ground := Ground.phase }, { on := 3, ground := Ground.phase }, { on := 4, ground := Ground.phase }, { on := 5, ground := Ground.phase }, { on := 6, ground := Ground.textOnly Departure.appendInPlace }, { on := 7, ground := Ground.textOnly Departure.appendInPlace }], guard := none }) rfl (fun K hK => ?_) AllReadyH.nil)
          · obtain ⟨hcl, hfz⟩ := own_cells HW.out
            have d0 := hcl 0 _ rfl
            have d1 := hcl 1 _ rfl
            have d2 := hcl 2 _ rfl
            have d3 := hcl 3 _ rfl
            have d4 := hcl 4 _ rfl
            have d5 := hcl 5 _ rfl
            have d6 := hcl 6 _ rfl
            have d7 := hcl 7 _ rfl
            have d8 := hcl 8 _ rfl
            rw [Nat.add_zero] at d0
            have f0 := hfz (L.length * 9)
            have f1 := hfz (L.length * 9 + 1)
            have f2 := hfz (L.length * 9 + 2)
            have f3 := hfz (L.length * 9 + 3)
            have f4 := hfz (L.length * 9 + 4)
            have f5 := hfz (L.length * 9 + 5)
            have f6 := hfz (L.length * 9 + 6)
            have f7 := hfz (L.length * 9 + 7)
            have f8 := hfz (L.length * 9 + 8)
            clear hcl hfz
            go_simp
            rw [nest_q]
            obtain ⟨w8, hw8⟩ : ∃ w8, w8 = sets w7 gg (L.length * 9) [.int .i64 oy, .int .i64 q0, .int .i64 q1, .int .i64 q2, .int .i64 q3, .int .i64 q4, .int .i64 q5, .int .i64 vy, .slice Ay ky.len cy] := ⟨_, rfl⟩
            rw [← hw8]
            have gs : w7.grownBy w8 (some gg) := by rw [hw8]; exact grown_sets _ _
            have HW8 : Hid (OwnL ntE 26 w8 (g0 + 1) (.slice (some ⟨gg, 0, none⟩) (L.length + 1) cp) (L ++ [(⟨oy, [q0, q1, q2, q3, q4, q5], vy, Ay, cy, ky⟩ : NT)])) := Lib.hid (by rw [hw8]; exact own_last HW.out (list9 oy q0 q1 q2 q3 q4 q5 vy Ay ky.len cy) rfl)
            clear hw8 HW
            have HW := HW8
            clear HW8
            have hx8 : w8.heap[w.heap.size]? = w7.heap[w.heap.size]? := gs.block _ HX.out.lt (fun e => by injection e with e; omega)
            replace HX := Lib.hid (HX.out.same hx8)
            have hv8 : w8.heap[g0]? = w7.heap[g0]? := gs.block _ HV.out.lt (fun e => by injection e with e; omega)
            have HV8 : Hid (V1 w8 g0 24 (.slice Av L.length cv)) := Lib.hid (hv8.trans HV.out)
            clear HV
            have HV := HV8
            clear HV8 hx8 hv8
            replace HY := Lib.hid (grown_keep (ok' := fun k => g0 + 1 ≤ k ∧ k ≠ gg) gs HY.out (fun k q e => q.2 (Option.some.inj e)) (fun k q _ => q))
            have HL8 : Hid (∀ z ∈ L, z.Rk w8 (fun k => g0 + 1 ≤ k ∧ k ≠ gg) ∧ z.Al) := Lib.hid (fun z hz => And.intro (grown_keep gs (HL.out z hz).1 (fun k q e => q.2 (Option.some.inj e)) (fun k q _ => q)) (HL.out z hz).2)
            clear HL
            have HL := HL8
            clear HL8
            replace HK := Lib.hid (HK.out.grown gs (fun k e hk => .inr (by have e' := Option.some.inj e; subst e'; exact HD.out.elim (fun q => q) (fun q => by omega))))
            clear gs
            refine hK.out _ _ ?_ (fun hHeld => ?_)
            · exact HX.out
            clear d0 d1 d2 d3 d4 d5 d6 d7 d8 f0 f1 f2 f3 f4 f5 f6 f7 f8
            clear hK K
            (try simp only [Act.put, List.setIfInBounds_toArray, List.set_cons_zero, List.set_cons_succ])
            refine wpAnyH_ready (rs := [8]) (by kernel_rfl) (by simp) ?_
            refine AllReadyH.cons (o := { dst := none, op := Op.store 24 (Operand.tmp 1) (Operand.tmp 12), type := 0, pos := "expr.go:56", after := #[{ on := 5, ground := Ground.data }, { on := 5, ground := Ground.chain }, { on := 7, ground := Ground.textOnly Departure.appendInPlace }, { on := 0, ground := Ground.phase }, { on := 1, ground := Ground.phase }, { on := 2, ground := Ground.phase }, { on := 3, ground := Ground.phase }, { on := 4, ground := Ground.phase }, { on := 5, ground := Ground.phase }, { on := 6, ground := Ground.textOnly Departure.appendInPlace }, { on := 7, ground := Ground.textOnly Departure.appendInPlace }], guard := none }) rfl (fun K hK => ?_) AllReadyH.nil
            have c0 := HV.out.cell
            have f0 := HV.out.free
            go_simp
            obtain ⟨w9, hw9⟩ : ∃ w9, w9 = w8.setCell ⟨g0, 0, none⟩ (.slice (some ⟨gg, 0, none⟩) (L.length + 1) cp) := ⟨_, rfl⟩
            rw [← hw9]
            have gs : w8.grownBy w9 (some g0) := by rw [hw9]; exact grown_set _
            have HV9 : Hid (V1 w9 g0 24 (.slice (some ⟨gg, 0, none⟩) (L.length + 1) cp)) := Lib.hid (by rw [hw9]; exact HV.out.set _)
            clear hw9 HV c0 f0
            have HV := HV9
            clear HV9
            replace HW := Lib.hid (HW.out.turn gs (.inr (fun e => by have e' : some gg = some g0 := e; have e2 := Option.some.inj e'; omega)))
            have hx9 : w9.heap[w.heap.size]? = w8.heap[w.heap.size]? := gs.block _ HX.out.lt (fun e => by injection e with e; omega)
            replace HX := Lib.hid (HX.out.same hx9)
            clear hx9
            replace HY := Lib.hid (grown_keep (ok' := fun k => g0 + 1 ≤ k ∧ k ≠ gg) gs HY.out (fun k q e => by have e2 := Option.some.inj e; omega) (fun k q _ => q))
            have HL9 : Hid (∀ z ∈ L, z.Rk w9 (fun k => g0 + 1 ≤ k ∧ k ≠ gg) ∧ z.Al) := Lib.hid (fun z hz => And.intro (grown_keep gs (HL.out z hz).1 (fun k q e => by have e2 := Option.some.inj e; omega) (fun k q _ => q)) (HL.out z hz).2)
            clear HL
            have HL := HL9
            clear HL9
            replace HK := Lib.hid (HK.out.grown gs (fun k e _ => .inl (Option.some.inj e).symm))
            clear gs
            refine hK.out _ _ ?_ (fun hHeld => ?_)
            · exact HX.out
            clear hK K
            (try simp only [Act.put, List.setIfInBounds_toArray, List.set_cons_zero, List.set_cons_succ])
            refine wpAnyH_done (by kernel_rfl) ?_ _
            have FI := Lib.hid (at_done2 ES.out (at_done HW.out HV.out HL.out HY.out HYA.out HYN.out HEQ.out HK.out HD.out))
            clear hHeld ES HW HV HL HY HYA HYN HEQ HK HD HX
            go_wp2
            go_ret
            exact FI.out
          · have c0 := HV.out.cell
            have f0 := HV.out.free
            go_simp
            obtain ⟨w9, hw9⟩ : ∃ w9, w9 = w7.setCell ⟨g0, 0, none⟩ (.slice (some ⟨gg, 0, none⟩) (L.length + 1) cp) := ⟨_, rfl⟩
            rw [← hw9]
            have gs : w7.grownBy w9 (some g0) := by rw [hw9]; exact grown_set _
            have HV9 : Hid (V1 w9 g0 24 (.slice (some ⟨gg, 0, none⟩) (L.length + 1) cp)) := Lib.hid (by rw [hw9]; exact HV.out.set _)
            clear hw9 HV c0 f0
            have HV := HV9
            clear HV9
            replace HW := Lib.hid (HW.out.turn gs (.inr (fun e => by have e' : some gg = some g0 := e; have e2 := Option.some.inj e'; omega)))
            have hx9 : w9.heap[w.heap.size]? = w7.heap[w.heap.size]? := gs.block _ HX.out.lt (fun e => by injection e with e; omega)
            replace HX := Lib.hid (HX.out.same hx9)
            clear hx9
            replace HY := Lib.hid (grown_keep (ok' := fun k => g0 + 1 ≤ k ∧ k ≠ gg) gs HY.out (fun k q e => by have e2 := Option.some.inj e; omega) (fun k q _ => q))
            have HL9 : Hid (∀ z ∈ L, z.Rk w9 (fun k => g0 + 1 ≤ k ∧ k ≠ gg) ∧ z.Al) := Lib.hid (fun z hz => And.intro (grown_keep gs (HL.out z hz).1 (fun k q e => by have e2 := Option.some.inj e; omega) (fun k q _ => q)) (HL.out z hz).2)
            clear HL
            have HL := HL9
            clear HL9
            replace HK := Lib.hid (HK.out.grown gs (fun k e _ => .inl (Option.some.inj e).symm))
            clear gs
            refine hK.out _ _ ?_ (fun hHeld => ?_)
            · exact HX.out
            clear hK K
            (try simp only [Act.put, List.setIfInBounds_toArray, List.set_cons_zero, List.set_cons_succ])
            refine wpAnyH_ready (rs := [7]) (by kernel_rfl) (by simp) ?_
            refine AllReadyH.cons (o := { dst := none, op := Op.store 26 (Operand.tmp 13) (Operand.tmp 9), type := 0, pos := "expr.go:56", after := #[{ on := 6, ground := Ground.data }, { on := 2, ground := Ground.data }, { on := 5, ground := Ground.chain }, { on := 0, ground := Ground.phase }, { on := 1, ground := Ground.phase }, { on := 2, ground := Ground.phase }, { on := 3, ground := Ground.phase }, { on := 4, ground := Ground.phase }, { on := 5, ground := Ground.phase }, { on := 8, ground := Ground.gcOnly Departure.appendInPlace }], guard := none }) rfl (fun K hK => ?_) AllReadyH.nil
            obtain ⟨hcl, hfz⟩ := own_cells HW.out
            have d0 := hcl 0 _ rfl
            have d1 := hcl 1 _ rfl
            have d2 := hcl 2 _ rfl
            have d3 := hcl 3 _ rfl
            have d4 := hcl 4 _ rfl
            have d5 := hcl 5 _ rfl
            have d6 := hcl 6 _ rfl
            have d7 := hcl 7 _ rfl
            have d8 := hcl 8 _ rfl
            rw [Nat.add_zero] at d0
            have f0 := hfz (L.length * 9)
            have f1 := hfz (L.length * 9 + 1)
            have f2 := hfz (L.length * 9 + 2)
            have f3 := hfz (L.length * 9 + 3)
            have f4 := hfz (L.length * 9 + 4)
            have f5 := hfz (L.length * 9 + 5)
            have f6 := hfz (L.length * 9 + 6)
            have f7 := hfz (L.length * 9 + 7)
            have f8 := hfz (L.length * 9 + 8)
            clear hcl hfz
            go_simp
            rw [nest_q]
            obtain ⟨w8, hw8⟩ : ∃ w8, w8 = sets w9 gg (L.length * 9) [.int .i64 oy, .int .i64 q0, .int .i64 q1, .int .i64 q2, .int .i64 q3, .int .i64 q4, .int .i64 q5, .int .i64 vy, .slice Ay ky.len cy] := ⟨_, rfl⟩
            rw [← hw8]
            have gs : w9.grownBy w8 (some gg) := by rw [hw8]; exact grown_sets _ _
            have HW8 : Hid (OwnL ntE 26 w8 (g0 + 1) (.slice (some ⟨gg, 0, none⟩) (L.length + 1) cp) (L ++ [(⟨oy, [q0, q1, q2, q3, q4, q5], vy, Ay, cy, ky⟩ : NT)])) := Lib.hid (by rw [hw8]; exact own_last HW.out (list9 oy q0 q1 q2 q3 q4 q5 vy Ay ky.len cy) rfl)
            clear hw8 HW
            have HW := HW8
            clear HW8
            have hx8 : w8.heap[w.heap.size]? = w9.heap[w.heap.size]? := gs.block _ HX.out.lt (fun e => by injection e with e; omega)
            replace HX := Lib.hid (HX.out.same hx8)
            have hv8 : w8.heap[g0]? = w9.heap[g0]? := gs.block _ HV.out.lt (fun e => by injection e with e; omega)
            have HV8 : Hid (V1 w8 g0 24 (.slice (some ⟨gg, 0, none⟩) (L.length + 1) cp)) := Lib.hid (hv8.trans HV.out)
            clear HV
            have HV := HV8
            clear HV8 hx8 hv8
            replace HY := Lib.hid (grown_keep (ok' := fun k => g0 + 1 ≤ k ∧ k ≠ gg) gs HY.out (fun k q e => q.2 (Option.some.inj e)) (fun k q _ => q))
            have HL8 : Hid (∀ z ∈ L, z.Rk w8 (fun k => g0 + 1 ≤ k ∧ k ≠ gg) ∧ z.Al) := Lib.hid (fun z hz => And.intro (grown_keep gs (HL.out z hz).1 (fun k q e => q.2 (Option.some.inj e)) (fun k q _ => q)) (HL.out z hz).2)
            clear HL
            have HL := HL8
            clear HL8
            replace HK := Lib.hid (HK.out.grown gs (fun k e hk => .inr (by have e' := Option.some.inj e; subst e'; exact HD.out.elim (fun q => q) (fun q => by omega))))
            clear gs
            refine hK.out _ _ ?_ (fun hHeld => ?_)
            · exact HX.out
            clear d0 d1 d2 d3 d4 d5 d6 d7 d8 f0 f1 f2 f3 f4 f5 f6 f7 f8
            clear hK K
            (try simp only [Act.put, List.setIfInBounds_toArray, List.set_cons_zero, List.set_cons_succ])
            refine wpAnyH_done (by kernel_rfl) ?_ _
            have FI := Lib.hid (at_done2 ES.out (at_done HW.out HV.out HL.out HY.out HYA.out HYN.out HEQ.out HK.out HD.out))
            clear hHeld ES HW HV HL HY HYA HYN HEQ HK HD HX
            go_wp2
            go_ret
            exact FI.out
    · have e1 : (o == 1) = false := beq_eq_false_iff_ne.2 h1
      have ES : Hid (R = (s, true)) := Lib.hid (by rw [← HR.out]; unfold atomSt; rw [if_neg (show ¬ (NT.n ⟨o, [x0, x1, x2, x3, x4, x5], v, A, c, k⟩).o = 1 from h1)])
      have FI : Hid (Vis (InA g0) (fun k => k = g0 ∨ (.slice Av L.length cv : Value).ownBlock = some k) w R (.returned (.bool true)) W0) := Lib.hid (by rw [ES.out]; exact ⟨rfl, _, ⟨⟨_, L, HA1.out, rfl⟩, Kx.of_below HB.out, fun _ h => .inl h⟩⟩)
      clear HA1 HO0 HB ES CC HR
      go_wp2
      go_ret
      exact FI.out
end Go.Proofs.Ytpemamkhaiiaaaa
