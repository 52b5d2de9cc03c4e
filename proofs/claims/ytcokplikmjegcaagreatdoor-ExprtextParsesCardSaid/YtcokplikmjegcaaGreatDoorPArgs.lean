/- readPart, where it reads expressions: no claim of its own. -/
import Derived.Test.YtcokplikmjegcaaGreatDoorJX
import Derived.Deep.RegionHeld3
import Derived.Deep.DeepCutAuto
import Derived.Deep.AppendLies
namespace Go.Proofs.YtcokplikmjegcaaGreatDoor
open Go.RowKit
open ME (F Nd)
open MC (Pr)
/-- What readPart leaves, where it reads expressions. -/
def RdQ (A : Option Addr) (n cp N g ge : Nat) (o x0 x1 x2 x3 x4 x5 v : Int) (ns : List Nd) (ts : List Tk) (er : Int) (w : World) (e : Ending) (w' : World) : Prop :=
  ∃ (vk : Value) (L : List NT), e = .returned (.tuple #[]) ∧ PS A n cp N g ge o x0 x1 x2 x3 x4 x5 v vk vk L ts er w w' ∧ L.map NT.n = ns
def op101a0 : Oper := { dst := some 14, op := Op.move (Operand.tmp 2), type := 104, pos := "parse.go:67", after := #[], guard := none }
def op101a1 : Oper := { dst := some 15, op := Op.nilCheck (Operand.tmp 14), type := 0, pos := "parse.go:67", after := #[{ on := 0, ground := Ground.data }], guard := none }
def op101a2 : Oper := { dst := some 16, op := Op.fieldAddr 27 (Operand.tmp 15) 3, type := 0, pos := "parse.go:67", after := #[{ on := 1, ground := Ground.data }], guard := none }
def op101a3 : Oper := { dst := some 17, op := Op.load 25 (Operand.tmp 16), type := 25, pos := "parse.go:67", after := #[{ on := 2, ground := Ground.data }], guard := none }
def op101a4 : Oper := { dst := some 18, op := Op.load 60 (Operand.tmp 3), type := 60, pos := "parse.go:67", after := #[], guard := none }
def op101a5 : Oper := { dst := some 19, op := Op.call { callee := Callee.value (Operand.func 28), args := #[Operand.tmp 18], argTypes := #[60] }, type := 27, pos := "parse.go:67", after := #[{ on := 4, ground := Ground.data }], guard := none }
def op101a6 : Oper := { dst := some 20, op := Op.call { callee := Callee.builtin Builtin.len, args := #[Operand.tmp 17], argTypes := #[25] }, type := 3, pos := "parse.go:67", after := #[{ on := 3, ground := Ground.data }], guard := none }
def op101a7 : Oper := { dst := some 21, op := Op.buildSlice 25 1 #[(0, Operand.const (Value.agg #[Value.int IntKind.i64 0, Value.int IntKind.i64 0, Value.int IntKind.i64 0, Value.int IntKind.i64 0, Value.int IntKind.i64 0, Value.int IntKind.i64 0, Value.int IntKind.i64 0, Value.int IntKind.i64 0, Value.slice none 0 0]))], type := 25, pos := "parse.go:67", after := #[], guard := none }
def op101a8 : Oper := { dst := some 22, op := Op.call { callee := Callee.builtin Builtin.append, args := #[Operand.tmp 17, Operand.tmp 21], argTypes := #[25, 25] }, type := 25, pos := "parse.go:67", after := #[{ on := 3, ground := Ground.data }, { on := 7, ground := Ground.data }, { on := 5, ground := Ground.chain }, { on := 0, ground := Ground.phase }, { on := 1, ground := Ground.phase }, { on := 2, ground := Ground.phase }, { on := 3, ground := Ground.phase }, { on := 4, ground := Ground.phase }, { on := 5, ground := Ground.phase }, { on := 6, ground := Ground.phase }, { on := 7, ground := Ground.phase }], guard := none }
def op101a9 : Oper := { dst := some 23, op := Op.indexAddr 25 (Operand.tmp 22) (Operand.tmp 20), type := 0, pos := "parse.go:67", after := #[{ on := 8, ground := Ground.data }, { on := 6, ground := Ground.data }, { on := 0, ground := Ground.phase }, { on := 1, ground := Ground.phase }, { on := 2, ground := Ground.phase }, { on := 3, ground := Ground.phase }, { on := 4, ground := Ground.phase }, { on := 5, ground := Ground.phase }, { on := 6, ground := Ground.phase }, { on := 7, ground := Ground.phase }, { on := 8, ground := Ground.phase }, { on := 13, ground := Ground.gcOnly Departure.appendInPlace }], guard := none }
def op101a10 : Oper := { dst := none, op := Op.store 27 (Operand.tmp 23) (Operand.tmp 19), type := 0, pos := "parse.go:67", after := #[{ on := 9, ground := Ground.data }, { on := 5, ground := Ground.data }, { on := 8, ground := Ground.chain }, { on := 0, ground := Ground.phase }, { on := 1, ground := Ground.phase }, { on := 2, ground := Ground.phase }, { on := 3, ground := Ground.phase }, { on := 4, ground := Ground.phase }, { on := 5, ground := Ground.phase }, { on := 6, ground := Ground.phase }, { on := 7, ground := Ground.phase }, { on := 8, ground := Ground.phase }, { on := 13, ground := Ground.gcOnly Departure.appendInPlace }], guard := none }
def op101a11 : Oper := { dst := some 24, op := Op.nilCheck (Operand.tmp 14), type := 0, pos := "parse.go:67", after := #[{ on := 0, ground := Ground.data }, { on := 0, ground := Ground.phase }, { on := 1, ground := Ground.phase }, { on := 2, ground := Ground.phase }, { on := 3, ground := Ground.phase }, { on := 4, ground := Ground.phase }, { on := 5, ground := Ground.phase }, { on := 6, ground := Ground.phase }, { on := 7, ground := Ground.phase }, { on := 8, ground := Ground.phase }, { on := 9, ground := Ground.textOnly Departure.appendInPlace }, { on := 10, ground := Ground.textOnly Departure.appendInPlace }], guard := none }
def op101a12 : Oper := { dst := some 25, op := Op.fieldAddr 27 (Operand.tmp 24) 3, type := 0, pos := "parse.go:67", after := #[{ on := 11, ground := Ground.data }, { on := 0, ground := Ground.phase }, { on := 1, ground := Ground.phase }, { on := 2, ground := Ground.phase }, { on := 3, ground := Ground.phase }, { on := 4, ground := Ground.phase }, { on := 5, ground := Ground.phase }, { on := 6, ground := Ground.phase }, { on := 7, ground := Ground.phase }, { on := 8, ground := Ground.phase }, { on := 9, ground := Ground.textOnly Departure.appendInPlace }, { on := 10, ground := Ground.textOnly Departure.appendInPlace }], guard := none }
def op101a13 : Oper := { dst := none, op := Op.store 25 (Operand.tmp 25) (Operand.tmp 22), type := 0, pos := "parse.go:67", after := #[{ on := 12, ground := Ground.data }, { on := 8, ground := Ground.data }, { on := 8, ground := Ground.chain }, { on := 10, ground := Ground.textOnly Departure.appendInPlace }, { on := 0, ground := Ground.phase }, { on := 1, ground := Ground.phase }, { on := 2, ground := Ground.phase }, { on := 3, ground := Ground.phase }, { on := 4, ground := Ground.phase }, { on := 5, ground := Ground.phase }, { on := 6, ground := Ground.phase }, { on := 7, ground := Ground.phase }, { on := 8, ground := Ground.phase }, { on := 9, ground := Ground.textOnly Departure.appendInPlace }, { on := 10, ground := Ground.textOnly Departure.appendInPlace }], guard := none }
set_option maxRecDepth 100000 in
set_option maxHeartbeats 16000000 in
theorem rpart_args101 (A : Option Addr) (n cp : Nat) (LP : List Pr) (N f g ge : Nat) (ts : List Tk) (er : Int) (o x0 x1 x2 x3 x4 x5 v : Int) (w : World) (hCC : ReadOk A n cp LP N f) (hts : ts.length < f) (hf : f ≤ 100000) (h : SP (fun k => g ≤ k) w g ts er) (hN : N ≤ g) (hNw : N ≤ w.heap.size) (hge : g < ge) (hx : B9 w ge (.int .i64 o) (.int .i64 x0) (.int .i64 x1) (.int .i64 x2) (.int .i64 x3) (.int .i64 x4) (.int .i64 x5) (.int .i64 v) (.slice none 0 0)) (he : REnv N A n cp LP w) (hne : ∀ t ∈ ts, t.kind = 1 → t.text ≠ []) :
    Calls Tryz.prog 59 #[.agg #[.slice A n cp, .pointer (some ⟨g, 0, none⟩)], .int .i32 101, .pointer (some ⟨ge, 0, none⟩)] w (RdQ A n cp N g ge o x0 x1 x2 x3 x4 x5 v [(MX.rdE LP f ts er).1] (MX.rdE LP f ts er).2.1 (MX.rdE LP f ts er).2.2 w) := by
  have hgew : ge < w.heap.size := hx.lt
  have B0 := below_new w (.cells #[.slice A n cp, .pointer (some ⟨g, 0, none⟩)] 60)
  have HPa : Hid (PS A n cp N g ge o x0 x1 x2 x3 x4 x5 v (.slice none 0 0) (.slice none 0 0) [] ts er w (w.alloc (.cells #[.slice A n cp, .pointer (some ⟨g, 0, none⟩)] 60))) := Lib.hid ⟨h.keep B0, hx.keep B0, OwnL.nil _ _ _, (fun z hz => by cases hz), heap_new w (.cells #[.slice A n cp, .pointer (some ⟨g, 0, none⟩)] 60), (Mv.refl N g ge w).quiet B0 hNw⟩
  have HE := Lib.hid he
  have HNE := Lib.hid hne
  have CC := Lib.hid hCC
  have RSUF := Lib.hid ((MX.rd_suf LP f ts er).length_le)
  have RSUB := Lib.hid (fun t (ht : t ∈ (MX.rdE LP f ts er).2.1) => hne t ((MX.rd_suf LP f ts er).subset ht))
  obtain ⟨Av, cv, L, HP0, HL0⟩ : ∃ (Av : Option Addr) (cv : Nat) (L : List NT), Hid (PS A n cp N g ge o x0 x1 x2 x3 x4 x5 v (.slice Av L.length cv) (.slice Av L.length cv) L ts er w (w.alloc (.cells #[.slice A n cp, .pointer (some ⟨g, 0, none⟩)] 60))) ∧ Hid (L = []) := ⟨none, 0, [], HPa, Lib.hid rfl⟩
  have hll : L.length + 1 ≤ 200000 := by rw [HL0.out]; decide
  obtain ⟨i0, hi, hz0, hz1, hz2⟩ := info_parts infoExpr
  clear h hx B0 he hne hCC HPa
  have hgwX : w.heap.size < (w.alloc (.cells #[.slice A n cp, .pointer (some ⟨g, 0, none⟩)] 60)).heap.size := (Array.getElem?_eq_some_iff.1 HP0.out.px).1
  obtain ⟨n1, t1, e1, hr1⟩ : ∃ n1 t1 e1, MX.rdE LP f ts er = (n1, t1, e1) := ⟨_, _, _, rfl⟩
  have HR1 := Lib.hid hr1
  rw [hr1] at RSUF RSUB ⊢
  dsimp only at RSUF RSUB ⊢
  clear hr1
  go_enter Tryz.func59, Tryz.ntmps59
  go_upto_region 6 with (fail)
  obtain ⟨W0, hW0⟩ : ∃ W0, W0 = w.alloc (.cells #[.slice A n cp, .pointer (some ⟨g, 0, none⟩)] 60) := ⟨_, rfl⟩
  rw [← hW0] at HP0 hgwX ⊢
  clear hW0
  go_cut [] (fun wx => ∃ (vk : Value) (y : NT), Hid (PS A n cp N g ge o x0 x1 x2 x3 x4 x5 v vk vk (L ++ [y]) t1 e1 w wx) ∧ Hid (y.n = n1))
  case first =>
    have HP := Lib.hid (HP0.out.keep (below_drawn W0) hNw)
    clear HP0
    have HX5 : W0.drew.heap[w.heap.size]? = some (.cells #[.slice A n cp, .pointer (some ⟨g, 0, none⟩)] 60 (0, 0)) := HP.out.px
    refine wp_region_held_drew (S := fun w' => w'.heap[w.heap.size]? = some (.cells #[.slice A n cp, .pointer (some ⟨g, 0, none⟩)] 60 (0, 0))) (by kernel_rfl) HX5 (fun hHeld => ?_)
    clear HX5
    generalize W0.drew = X at *
    obtain ⟨H, hH⟩ : ∃ H, H = X.heap.size := ⟨_, rfl⟩
    have hzX : H ≤ X.heap.size := Nat.le_of_eq hH
    have hvb : ∀ k, (.slice Av L.length cv : Value).ownBlock = some k → w.heap.size + 1 ≤ k ∧ k < H := fun k q => by have := World.ownsRow.lt HP.out.own.1 k q; omega
    have hgH : w.heap.size < H := by have := (Array.getElem?_eq_some_iff.1 HP.out.px).1; omega
    have hli : (L.length : Int) < (L.length : Int) + 1 := by omega
    clear hH
    refine wpAnyH_take (i := 0) (oi := op101a0) (v := ?_) rfl (by kernel_rfl) (by kernel_rfl) (by kernel_rfl) (fun _ _ _ h => h) (Or.inl ⟨by rfl, ?_⟩) (by assumption) ?_
    rotate_left
    · intro w hSw; (try dsimp only at hSw); unfold op101a0; obtain ⟨s0, s1⟩ := px_cells hSw; go_simp; try with_reducible rfl
    try unfold op101a0
    (try simp only [Act.put, List.setIfInBounds_toArray, List.set_cons_zero, List.set_cons_succ])
    refine wpAnyH_take (i := 1) (oi := op101a1) (v := ?_) rfl (by kernel_rfl) (by kernel_rfl) (by kernel_rfl) (fun _ _ _ h => h) (Or.inl ⟨by rfl, ?_⟩) (by assumption) ?_
    rotate_left
    · intro w hSw; (try dsimp only at hSw); unfold op101a1; obtain ⟨s0, s1⟩ := px_cells hSw; go_simp; try with_reducible rfl
    try unfold op101a1
    (try simp only [Act.put, List.setIfInBounds_toArray, List.set_cons_zero, List.set_cons_succ])
    refine wpAnyH_take (i := 2) (oi := op101a2) (v := ?_) rfl (by kernel_rfl) (by kernel_rfl) (by kernel_rfl) (fun _ _ _ h => h) (Or.inl ⟨by rfl, ?_⟩) (by assumption) ?_
    rotate_left
    · intro w hSw; (try dsimp only at hSw); unfold op101a2; obtain ⟨s0, s1⟩ := px_cells hSw; go_simp; try with_reducible rfl
    try unfold op101a2
    (try simp only [Act.put, List.setIfInBounds_toArray, List.set_cons_zero, List.set_cons_succ])
    refine wpAnyH_take (i := 4) (oi := op101a4) (v := ?_) rfl (by kernel_rfl) (by kernel_rfl) (by kernel_rfl) (fun _ _ _ h => h) (Or.inl ⟨by rfl, ?_⟩) (by assumption) ?_
    rotate_left
    · intro w hSw; (try dsimp only at hSw); unfold op101a4; obtain ⟨s0, s1⟩ := px_cells hSw; go_simp; try with_reducible rfl
    try unfold op101a4
    (try simp only [Act.put, List.setIfInBounds_toArray, List.set_cons_zero, List.set_cons_succ])
    refine wpAnyH_ready (rs := [3, 5, 7]) (by kernel_rfl) (by simp) ?_
    refine AllReadyH.cons (o := op101a3) rfl (fun K hK => ?_) (AllReadyH.cons (o := op101a5) rfl (fun K hK => ?_) (AllReadyH.cons (o := op101a7) rfl (fun K hK => ?_) AllReadyH.nil))
    {
 try unfold op101a3
 have c8 := HP.out.box.cells.2.2.2.2.2.2.2.2
 go_simp
 refine hK.out _ _ ?_ (fun hHeld => ?_)
 · exact HP.out.px
 clear c8
 clear hK K
 try unfold op101a3
 (try simp only [Act.put, List.setIfInBounds_toArray, List.set_cons_zero, List.set_cons_succ])
 refine wpAnyH_take (i := 6) (oi := op101a6) (v := ?_) rfl (by kernel_rfl) (by kernel_rfl) (by kernel_rfl) (fun _ _ _ h => h) (Or.inl ⟨by rfl, ?_⟩) (by assumption) ?_
 rotate_left
 · intro w hSw; (try dsimp only at hSw); unfold op101a6; obtain ⟨s0, s1⟩ := px_cells hSw; go_simp; try with_reducible rfl
 try unfold op101a6
 (try simp only [Act.put, List.setIfInBounds_toArray, List.set_cons_zero, List.set_cons_succ])
 refine wpAnyH_ready (rs := [5, 7]) (by kernel_rfl) (by simp) ?_
 refine AllReadyH.cons (o := op101a5) rfl (fun K hK => ?_) (AllReadyH.cons (o := op101a7) rfl (fun K hK => ?_) AllReadyH.nil)
 {
 try unfold op101a5
 go_simp
 refine (CC.out g ts er X hts hf HP.out.sp hN (Nat.le_trans hNw HP.out.mv.below.size) (HE.out.next HP.out.mv.below) HNE.out).mono ?_
 rintro ev w5 ⟨y, rfl, hyn, hyo, hs5, hm5⟩
 obtain ⟨oy, byy, vy, Ay, cy, ky⟩ := y
 obtain ⟨q0, q1, q2, q3, q4, q5, rfl⟩ := six hyo.six
 have hg5 := hm5.grow
 have HY := Lib.hid (hyo.keep (ok' := fun k => H ≤ k) (fun _ _ _ => rfl) (Nat.le_refl _) (fun k q _ => Nat.le_trans hzX q))
 have HYN := Lib.hid hyn
 have HP5 := Lib.hid (HP.out.turn hg5 hs5 hN hNw hge hgew)
 have hzw5 : H ≤ w5.heap.size := Nat.le_trans hzX hg5.size
 rw [NT.val_lit]
 clear hyn hyo hs5 hm5 hg5 HP
 have HP := HP5
 clear HP5
 refine hK.out _ _ ?_ (fun hHeld => ?_)
 · exact HP.out.px
 clear hK K
 try unfold op101a5
 (try simp only [Act.put, List.setIfInBounds_toArray, List.set_cons_zero, List.set_cons_succ])
 refine wpAnyH_ready (rs := [7]) (by kernel_rfl) (by simp) ?_
 refine AllReadyH.cons (o := op101a7) rfl (fun K hK => ?_) AllReadyH.nil
 try unfold op101a7
 go_simp
 have hb := below_new w5 (.cells #[.int .i64 0, .int .i64 0, .int .i64 0, .int .i64 0, .int .i64 0, .int .i64 0, .int .i64 0, .int .i64 0, .slice none 0 0] 27)
 have HZ := Lib.hid (heap_new w5 (.cells #[.int .i64 0, .int .i64 0, .int .i64 0, .int .i64 0, .int .i64 0, .int .i64 0, .int .i64 0, .int .i64 0, .slice none 0 0] 27))
 have HP4 := Lib.hid (HP.out.keep hb hNw)
 have hzw6 : H ≤ (w5.alloc (.cells #[.int .i64 0, .int .i64 0, .int .i64 0, .int .i64 0, .int .i64 0, .int .i64 0, .int .i64 0, .int .i64 0, .slice none 0 0] 27)).heap.size := Nat.le_trans hzw5 hb.size
 replace HY := Lib.hid (HY.out.below hb)
 clear hb HP
 have HP := HP4
 clear HP4
 obtain ⟨w6, hw6⟩ : ∃ w6, w6 = w5.alloc (.cells #[.int .i64 0, .int .i64 0, .int .i64 0, .int .i64 0, .int .i64 0, .int .i64 0, .int .i64 0, .int .i64 0, .slice none 0 0] 27) := ⟨_, rfl⟩
 rw [← hw6] at HZ HP hzw6 HY ⊢
 clear hw6
 refine hK.out _ _ ?_ (fun hHeld => ?_)
 · exact HP.out.px
 clear hK K
 try unfold op101a7
 (try simp only [Act.put, List.setIfInBounds_toArray, List.set_cons_zero, List.set_cons_succ])
 refine wpAnyH_ready (rs := [8]) (by kernel_rfl) (by simp) ?_
 refine AllReadyH.cons (o := op101a8) rfl (fun K hK => ?_) AllReadyH.nil
 try unfold op101a8
 refine step_append_lies _ (by rfl) _ _ _ (by rfl) (w.heap.size + 1) 27 i0 (.agg #[.int .i64 0, .int .i64 0, .int .i64 0, .int .i64 0, .int .i64 0, .int .i64 0, .int .i64 0, .int .i64 0, .slice none 0 0]) 9 88 Tryz.underlying25 hi hz0 hz1 hz2 rfl (by decide) _ _ _ (by rfl) HP.out.own.1 ⟨w5.heap.size, 0, none⟩ 1 1 [.int .i64 0, .int .i64 0, .int .i64 0, .int .i64 0, .int .i64 0, .int .i64 0, .int .i64 0, .int .i64 0, .slice none 0 0] (by rfl) rfl ?c1 ?c2 (by decide) ?c4 ?c5 ?c6 _ rfl ?_
 case c1 => exact World.news_of_block HZ.out
 case c2 => exact ntE.one ntZP
 case c4 => unfold maxLen; omega
 case c5 => omega
 case c6 => omega
 intro gg cp7 w7 hown hgrow hat hlt7
 have HP7 := Lib.hid (HP.out.app hown hgrow hat hNw hge hgew)
 replace HY := Lib.hid (grown_keepP (ok' := fun k => w.heap.size + 1 ≤ k ∧ k ≠ gg) hgrow HY.out (fun k q e => by have := hvb k e.symm; omega) (fun k q hl => ⟨by omega, fun e => by rcases hat with p | p; have := hvb gg p; omega; omega⟩))
 have hgg : w.heap.size + 1 ≤ gg := (World.ownsRow.lt hown gg rfl).1
 clear hown hgrow hat hlt7 HZ HP
 have HP := HP7
 clear HP7
 refine hK.out _ _ ?_ (fun hHeld => ?_)
 · exact HP.out.px
 clear hK K
 try unfold op101a8
 (try simp only [Act.put, List.setIfInBounds_toArray, List.set_cons_zero, List.set_cons_succ])
 refine wpAnyH_take (i := 9) (oi := op101a9) (v := ?_) rfl (by kernel_rfl) (by kernel_rfl) (by kernel_rfl) (fun _ _ _ h => h) (Or.inl ⟨by rfl, ?_⟩) (by assumption) ?_
 rotate_left
 · intro w hSw; (try dsimp only at hSw); unfold op101a9; obtain ⟨s0, s1⟩ := px_cells hSw; go_simp; try with_reducible rfl
 try unfold op101a9
 (try simp only [Act.put, List.setIfInBounds_toArray, List.set_cons_zero, List.set_cons_succ])
 refine wpAnyH_take (i := 11) (oi := op101a11) (v := ?_) rfl (by kernel_rfl) (by kernel_rfl) (by kernel_rfl) (fun _ _ _ h => h) (Or.inl ⟨by rfl, ?_⟩) (by assumption) ?_
 rotate_left
 · intro w hSw; (try dsimp only at hSw); unfold op101a11; obtain ⟨s0, s1⟩ := px_cells hSw; go_simp; try with_reducible rfl
 try unfold op101a11
 (try simp only [Act.put, List.setIfInBounds_toArray, List.set_cons_zero, List.set_cons_succ])
 refine wpAnyH_take (i := 12) (oi := op101a12) (v := ?_) rfl (by kernel_rfl) (by kernel_rfl) (by kernel_rfl) (fun _ _ _ h => h) (Or.inl ⟨by rfl, ?_⟩) (by assumption) ?_
 rotate_left
 · intro w hSw; (try dsimp only at hSw); unfold op101a12; obtain ⟨s0, s1⟩ := px_cells hSw; go_simp; try with_reducible rfl
 try unfold op101a12
 (try simp only [Act.put, List.setIfInBounds_toArray, List.set_cons_zero, List.set_cons_succ])
 refine wpAnyH_ready (rs := [10, 13]) (by kernel_rfl) (by simp) ?_
 refine AllReadyH.cons (o := op101a10) rfl (fun K hK => ?_) (AllReadyH.cons (o := op101a13) rfl (fun K hK => ?_) AllReadyH.nil)
 {
 try unfold op101a10
 obtain ⟨⟨d0, d1, d2, d3, d4, d5, d6, d7, d8⟩, ⟨f0, f1, f2, f3, f4, f5, f6, f7, f8⟩⟩ := own_c18 HP.out.own
 go_simp
 rw [nest_q]
 have HP8 := Lib.hid (HP.out.fill HY.out (list9 oy q0 q1 q2 q3 q4 q5 vy Ay ky.len cy) hNw hge hgew)
 obtain ⟨w8, hw8⟩ : ∃ w8, w8 = sets w7 gg (L.length * 9) [.int .i64 oy, .int .i64 q0, .int .i64 q1, .int .i64 q2, .int .i64 q3, .int .i64 q4, .int .i64 q5, .int .i64 vy, .slice Ay ky.len cy] := ⟨_, rfl⟩
 rw [← hw8] at HP8 ⊢
 clear hw8 HP HY
 have HP := HP8
 clear HP8
 refine hK.out _ _ ?_ (fun hHeld => ?_)
 · exact HP.out.px
 clear d0 d1 d2 d3 d4 d5 d6 d7 d8 f0 f1 f2 f3 f4 f5 f6 f7 f8
 clear hK K
 try unfold op101a10
 (try simp only [Act.put, List.setIfInBounds_toArray, List.set_cons_zero, List.set_cons_succ])
 refine wpAnyH_ready (rs := [13]) (by kernel_rfl) (by simp) ?_
 refine AllReadyH.cons (o := op101a13) rfl (fun K hK => ?_) AllReadyH.nil
 try unfold op101a13
 have c8 := HP.out.box.cells.2.2.2.2.2.2.2.2
 have f8 := HP.out.box.free.2.2.2.2.2.2.2.2
 go_simp
 have HP9 := Lib.hid (HP.out.box8 (.slice (some ⟨gg, 0, none⟩) (L.length + 1) cp7) (by omega) hNw hge hgew)
 obtain ⟨w9, hw9⟩ : ∃ w9, w9 = w8.setCell ⟨ge, 8, none⟩ (.slice (some ⟨gg, 0, none⟩) (L.length + 1) cp7) := ⟨_, rfl⟩
 rw [← hw9] at HP9 ⊢
 clear hw9 HP c8 f8
 have HP := HP9
 clear HP9
 refine hK.out _ _ ?_ (fun hHeld => ?_)
 · exact HP.out.px
 clear hK K
 try unfold op101a13
 (try simp only [Act.put, List.setIfInBounds_toArray, List.set_cons_zero, List.set_cons_succ])
 refine wpAnyH_done (by kernel_rfl) ?_ _
 rw [HR1.out] at HP HYN
 dsimp only at HP HYN
 go_wp2_with fail
 go_meet
 case rel => exact ⟨_, ⟨oy, [q0, q1, q2, q3, q4, q5], vy, Ay, cy, ky⟩, HP, HYN⟩
 }
 {
 try unfold op101a13
 have c8 := HP.out.box.cells.2.2.2.2.2.2.2.2
 have f8 := HP.out.box.free.2.2.2.2.2.2.2.2
 go_simp
 have HP9 := Lib.hid (HP.out.box8 (.slice (some ⟨gg, 0, none⟩) (L.length + 1) cp7) (by omega) hNw hge hgew)
 replace HY := Lib.hid (grown_keepP (ok' := fun k => w.heap.size + 1 ≤ k ∧ k ≠ gg) (grown_set w7 ge 8 (.slice (some ⟨gg, 0, none⟩) (L.length + 1) cp7)) HY.out (fun k q e => by have := Option.some.inj e; have := q.1; omega) (fun k q _ => q))
 obtain ⟨w9, hw9⟩ : ∃ w9, w9 = w7.setCell ⟨ge, 8, none⟩ (.slice (some ⟨gg, 0, none⟩) (L.length + 1) cp7) := ⟨_, rfl⟩
 rw [← hw9] at HP9 HY ⊢
 clear hw9 HP c8 f8
 have HP := HP9
 clear HP9
 refine hK.out _ _ ?_ (fun hHeld => ?_)
 · exact HP.out.px
 clear hK K
 try unfold op101a13
 (try simp only [Act.put, List.setIfInBounds_toArray, List.set_cons_zero, List.set_cons_succ])
 refine wpAnyH_ready (rs := [10]) (by kernel_rfl) (by simp) ?_
 refine AllReadyH.cons (o := op101a10) rfl (fun K hK => ?_) AllReadyH.nil
 try unfold op101a10
 obtain ⟨⟨d0, d1, d2, d3, d4, d5, d6, d7, d8⟩, ⟨f0, f1, f2, f3, f4, f5, f6, f7, f8⟩⟩ := own_c18 HP.out.own
 go_simp
 rw [nest_q]
 have HP8 := Lib.hid (HP.out.fill HY.out (list9 oy q0 q1 q2 q3 q4 q5 vy Ay ky.len cy) hNw hge hgew)
 obtain ⟨w8, hw8⟩ : ∃ w8, w8 = sets w9 gg (L.length * 9) [.int .i64 oy, .int .i64 q0, .int .i64 q1, .int .i64 q2, .int .i64 q3, .int .i64 q4, .int .i64 q5, .int .i64 vy, .slice Ay ky.len cy] := ⟨_, rfl⟩
 rw [← hw8] at HP8 ⊢
 clear hw8 HP HY
 have HP := HP8
 clear HP8
 refine hK.out _ _ ?_ (fun hHeld => ?_)
 · exact HP.out.px
 clear d0 d1 d2 d3 d4 d5 d6 d7 d8 f0 f1 f2 f3 f4 f5 f6 f7 f8
 clear hK K
 try unfold op101a10
 (try simp only [Act.put, List.setIfInBounds_toArray, List.set_cons_zero, List.set_cons_succ])
 refine wpAnyH_done (by kernel_rfl) ?_ _
 rw [HR1.out] at HP HYN
 dsimp only at HP HYN
 go_wp2_with fail
 go_meet
 case rel => exact ⟨_, ⟨oy, [q0, q1, q2, q3, q4, q5], vy, Ay, cy, ky⟩, HP, HYN⟩
 }
 }
 {
 try unfold op101a7
 go_simp
 have hb := below_new X (.cells #[.int .i64 0, .int .i64 0, .int .i64 0, .int .i64 0, .int .i64 0, .int .i64 0, .int .i64 0, .int .i64 0, .slice none 0 0] 27)
 have HZ := Lib.hid (heap_new X (.cells #[.int .i64 0, .int .i64 0, .int .i64 0, .int .i64 0, .int .i64 0, .int .i64 0, .int .i64 0, .int .i64 0, .slice none 0 0] 27))
 have HP4 := Lib.hid (HP.out.keep hb hNw)
 have hzw6 : H ≤ (X.alloc (.cells #[.int .i64 0, .int .i64 0, .int .i64 0, .int .i64 0, .int .i64 0, .int .i64 0, .int .i64 0, .int .i64 0, .slice none 0 0] 27)).heap.size := Nat.le_trans hzX hb.size
 clear hb HP
 have HP := HP4
 clear HP4
 obtain ⟨w6, hw6⟩ : ∃ w6, w6 = X.alloc (.cells #[.int .i64 0, .int .i64 0, .int .i64 0, .int .i64 0, .int .i64 0, .int .i64 0, .int .i64 0, .int .i64 0, .slice none 0 0] 27) := ⟨_, rfl⟩
 rw [← hw6] at HZ HP hzw6 ⊢
 clear hw6
 refine hK.out _ _ ?_ (fun hHeld => ?_)
 · exact HP.out.px
 clear hK K
 try unfold op101a7
 (try simp only [Act.put, List.setIfInBounds_toArray, List.set_cons_zero, List.set_cons_succ])
 refine wpAnyH_ready (rs := [5]) (by kernel_rfl) (by simp) ?_
 refine AllReadyH.cons (o := op101a5) rfl (fun K hK => ?_) AllReadyH.nil
 try unfold op101a5
 go_simp
 refine (CC.out g ts er w6 hts hf HP.out.sp hN (Nat.le_trans hNw HP.out.mv.below.size) (HE.out.next HP.out.mv.below) HNE.out).mono ?_
 rintro ev w5 ⟨y, rfl, hyn, hyo, hs5, hm5⟩
 obtain ⟨oy, byy, vy, Ay, cy, ky⟩ := y
 obtain ⟨q0, q1, q2, q3, q4, q5, rfl⟩ := six hyo.six
 have hg5 := hm5.grow
 have HY := Lib.hid (hyo.keep (ok' := fun k => H ≤ k) (fun _ _ _ => rfl) (Nat.le_refl _) (fun k q _ => Nat.le_trans hzw6 q))
 have HYN := Lib.hid hyn
 have HP5 := Lib.hid (HP.out.turn hg5 hs5 hN hNw hge hgew)
 have hzw5 : H ≤ w5.heap.size := Nat.le_trans hzw6 hg5.size
 replace HZ := Lib.hid ((hg5.block _ (Array.getElem?_eq_some_iff.1 HZ.out).1 (fun e => by injection e with e; have := hzX; omega)).trans HZ.out)
 rw [NT.val_lit]
 clear hyn hyo hs5 hm5 hg5 HP
 have HP := HP5
 clear HP5
 refine hK.out _ _ ?_ (fun hHeld => ?_)
 · exact HP.out.px
 clear hK K
 try unfold op101a5
 (try simp only [Act.put, List.setIfInBounds_toArray, List.set_cons_zero, List.set_cons_succ])
 refine wpAnyH_ready (rs := [8]) (by kernel_rfl) (by simp) ?_
 refine AllReadyH.cons (o := op101a8) rfl (fun K hK => ?_) AllReadyH.nil
 try unfold op101a8
 refine step_append_lies _ (by rfl) _ _ _ (by rfl) (w.heap.size + 1) 27 i0 (.agg #[.int .i64 0, .int .i64 0, .int .i64 0, .int .i64 0, .int .i64 0, .int .i64 0, .int .i64 0, .int .i64 0, .slice none 0 0]) 9 88 Tryz.underlying25 hi hz0 hz1 hz2 rfl (by decide) _ _ _ (by rfl) HP.out.own.1 ⟨X.heap.size, 0, none⟩ 1 1 [.int .i64 0, .int .i64 0, .int .i64 0, .int .i64 0, .int .i64 0, .int .i64 0, .int .i64 0, .int .i64 0, .slice none 0 0] (by rfl) rfl ?c1 ?c2 (by decide) ?c4 ?c5 ?c6 _ rfl ?_
 case c1 => exact World.news_of_block HZ.out
 case c2 => exact ntE.one ntZP
 case c4 => unfold maxLen; omega
 case c5 => omega
 case c6 => omega
 intro gg cp7 w7 hown hgrow hat hlt7
 have HP7 := Lib.hid (HP.out.app hown hgrow hat hNw hge hgew)
 replace HY := Lib.hid (grown_keepP (ok' := fun k => w.heap.size + 1 ≤ k ∧ k ≠ gg) hgrow HY.out (fun k q e => by have := hvb k e.symm; omega) (fun k q hl => ⟨by omega, fun e => by rcases hat with p | p; have := hvb gg p; omega; omega⟩))
 have hgg : w.heap.size + 1 ≤ gg := (World.ownsRow.lt hown gg rfl).1
 clear hown hgrow hat hlt7 HZ HP
 have HP := HP7
 clear HP7
 refine hK.out _ _ ?_ (fun hHeld => ?_)
 · exact HP.out.px
 clear hK K
 try unfold op101a8
 (try simp only [Act.put, List.setIfInBounds_toArray, List.set_cons_zero, List.set_cons_succ])
 refine wpAnyH_take (i := 9) (oi := op101a9) (v := ?_) rfl (by kernel_rfl) (by kernel_rfl) (by kernel_rfl) (fun _ _ _ h => h) (Or.inl ⟨by rfl, ?_⟩) (by assumption) ?_
 rotate_left
 · intro w hSw; (try dsimp only at hSw); unfold op101a9; obtain ⟨s0, s1⟩ := px_cells hSw; go_simp; try with_reducible rfl
 try unfold op101a9
 (try simp only [Act.put, List.setIfInBounds_toArray, List.set_cons_zero, List.set_cons_succ])
 refine wpAnyH_take (i := 11) (oi := op101a11) (v := ?_) rfl (by kernel_rfl) (by kernel_rfl) (by kernel_rfl) (fun _ _ _ h => h) (Or.inl ⟨by rfl, ?_⟩) (by assumption) ?_
 rotate_left
 · intro w hSw; (try dsimp only at hSw); unfold op101a11; obtain ⟨s0, s1⟩ := px_cells hSw; go_simp; try with_reducible rfl
 try unfold op101a11
 (try simp only [Act.put, List.setIfInBounds_toArray, List.set_cons_zero, List.set_cons_succ])
 refine wpAnyH_take (i := 12) (oi := op101a12) (v := ?_) rfl (by kernel_rfl) (by kernel_rfl) (by kernel_rfl) (fun _ _ _ h => h) (Or.inl ⟨by rfl, ?_⟩) (by assumption) ?_
 rotate_left
 · intro w hSw; (try dsimp only at hSw); unfold op101a12; obtain ⟨s0, s1⟩ := px_cells hSw; go_simp; try with_reducible rfl
 try unfold op101a12
 (try simp only [Act.put, List.setIfInBounds_toArray, List.set_cons_zero, List.set_cons_succ])
 refine wpAnyH_ready (rs := [10, 13]) (by kernel_rfl) (by simp) ?_
 refine AllReadyH.cons (o := op101a10) rfl (fun K hK => ?_) (AllReadyH.cons (o := op101a13) rfl (fun K hK => ?_) AllReadyH.nil)
 {
 try unfold op101a10
 obtain ⟨⟨d0, d1, d2, d3, d4, d5, d6, d7, d8⟩, ⟨f0, f1, f2, f3, f4, f5, f6, f7, f8⟩⟩ := own_c18 HP.out.own
 go_simp
 rw [nest_q]
 have HP8 := Lib.hid (HP.out.fill HY.out (list9 oy q0 q1 q2 q3 q4 q5 vy Ay ky.len cy) hNw hge hgew)
 obtain ⟨w8, hw8⟩ : ∃ w8, w8 = sets w7 gg (L.length * 9) [.int .i64 oy, .int .i64 q0, .int .i64 q1, .int .i64 q2, .int .i64 q3, .int .i64 q4, .int .i64 q5, .int .i64 vy, .slice Ay ky.len cy] := ⟨_, rfl⟩
 rw [← hw8] at HP8 ⊢
 clear hw8 HP HY
 have HP := HP8
 clear HP8
 refine hK.out _ _ ?_ (fun hHeld => ?_)
 · exact HP.out.px
 clear d0 d1 d2 d3 d4 d5 d6 d7 d8 f0 f1 f2 f3 f4 f5 f6 f7 f8
 clear hK K
 try unfold op101a10
 (try simp only [Act.put, List.setIfInBounds_toArray, List.set_cons_zero, List.set_cons_succ])
 refine wpAnyH_ready (rs := [13]) (by kernel_rfl) (by simp) ?_
 refine AllReadyH.cons (o := op101a13) rfl (fun K hK => ?_) AllReadyH.nil
 try unfold op101a13
 have c8 := HP.out.box.cells.2.2.2.2.2.2.2.2
 have f8 := HP.out.box.free.2.2.2.2.2.2.2.2
 go_simp
 have HP9 := Lib.hid (HP.out.box8 (.slice (some ⟨gg, 0, none⟩) (L.length + 1) cp7) (by omega) hNw hge hgew)
 obtain ⟨w9, hw9⟩ : ∃ w9, w9 = w8.setCell ⟨ge, 8, none⟩ (.slice (some ⟨gg, 0, none⟩) (L.length + 1) cp7) := ⟨_, rfl⟩
 rw [← hw9] at HP9 ⊢
 clear hw9 HP c8 f8
 have HP := HP9
 clear HP9
 refine hK.out _ _ ?_ (fun hHeld => ?_)
 · exact HP.out.px
 clear hK K
 try unfold op101a13
 (try simp only [Act.put, List.setIfInBounds_toArray, List.set_cons_zero, List.set_cons_succ])
 refine wpAnyH_done (by kernel_rfl) ?_ _
 rw [HR1.out] at HP HYN
 dsimp only at HP HYN
 go_wp2_with fail
 go_meet
 case rel => exact ⟨_, ⟨oy, [q0, q1, q2, q3, q4, q5], vy, Ay, cy, ky⟩, HP, HYN⟩
 }
 {
 try unfold op101a13
 have c8 := HP.out.box.cells.2.2.2.2.2.2.2.2
 have f8 := HP.out.box.free.2.2.2.2.2.2.2.2
 go_simp
 have HP9 := Lib.hid (HP.out.box8 (.slice (some ⟨gg, 0, none⟩) (L.length + 1) cp7) (by omega) hNw hge hgew)
 replace HY := Lib.hid (grown_keepP (ok' := fun k => w.heap.size + 1 ≤ k ∧ k ≠ gg) (grown_set w7 ge 8 (.slice (some ⟨gg, 0, none⟩) (L.length + 1) cp7)) HY.out (fun k q e => by have := Option.some.inj e; have := q.1; omega) (fun k q _ => q))
 obtain ⟨w9, hw9⟩ : ∃ w9, w9 = w7.setCell ⟨ge, 8, none⟩ (.slice (some ⟨gg, 0, none⟩) (L.length + 1) cp7) := ⟨_, rfl⟩
 rw [← hw9] at HP9 HY ⊢
 clear hw9 HP c8 f8
 have HP := HP9
 clear HP9
 refine hK.out _ _ ?_ (fun hHeld => ?_)
 · exact HP.out.px
 clear hK K
 try unfold op101a13
 (try simp only [Act.put, List.setIfInBounds_toArray, List.set_cons_zero, List.set_cons_succ])
 refine wpAnyH_ready (rs := [10]) (by kernel_rfl) (by simp) ?_
 refine AllReadyH.cons (o := op101a10) rfl (fun K hK => ?_) AllReadyH.nil
 try unfold op101a10
 obtain ⟨⟨d0, d1, d2, d3, d4, d5, d6, d7, d8⟩, ⟨f0, f1, f2, f3, f4, f5, f6, f7, f8⟩⟩ := own_c18 HP.out.own
 go_simp
 rw [nest_q]
 have HP8 := Lib.hid (HP.out.fill HY.out (list9 oy q0 q1 q2 q3 q4 q5 vy Ay ky.len cy) hNw hge hgew)
 obtain ⟨w8, hw8⟩ : ∃ w8, w8 = sets w9 gg (L.length * 9) [.int .i64 oy, .int .i64 q0, .int .i64 q1, .int .i64 q2, .int .i64 q3, .int .i64 q4, .int .i64 q5, .int .i64 vy, .slice Ay ky.len cy] := ⟨_, rfl⟩
 rw [← hw8] at HP8 ⊢
 clear hw8 HP HY
 have HP := HP8
 clear HP8
 refine hK.out _ _ ?_ (fun hHeld => ?_)
 · exact HP.out.px
 clear d0 d1 d2 d3 d4 d5 d6 d7 d8 f0 f1 f2 f3 f4 f5 f6 f7 f8
 clear hK K
 try unfold op101a10
 (try simp only [Act.put, List.setIfInBounds_toArray, List.set_cons_zero, List.set_cons_succ])
 refine wpAnyH_done (by kernel_rfl) ?_ _
 rw [HR1.out] at HP HYN
 dsimp only at HP HYN
 go_wp2_with fail
 go_meet
 case rel => exact ⟨_, ⟨oy, [q0, q1, q2, q3, q4, q5], vy, Ay, cy, ky⟩, HP, HYN⟩
 }
 }
 }
    {
 try unfold op101a5
 go_simp
 refine (CC.out g ts er X hts hf HP.out.sp hN (Nat.le_trans hNw HP.out.mv.below.size) (HE.out.next HP.out.mv.below) HNE.out).mono ?_
 rintro ev w5 ⟨y, rfl, hyn, hyo, hs5, hm5⟩
 obtain ⟨oy, byy, vy, Ay, cy, ky⟩ := y
 obtain ⟨q0, q1, q2, q3, q4, q5, rfl⟩ := six hyo.six
 have hg5 := hm5.grow
 have HY := Lib.hid (hyo.keep (ok' := fun k => H ≤ k) (fun _ _ _ => rfl) (Nat.le_refl _) (fun k q _ => Nat.le_trans hzX q))
 have HYN := Lib.hid hyn
 have HP5 := Lib.hid (HP.out.turn hg5 hs5 hN hNw hge hgew)
 have hzw5 : H ≤ w5.heap.size := Nat.le_trans hzX hg5.size
 rw [NT.val_lit]
 clear hyn hyo hs5 hm5 hg5 HP
 have HP := HP5
 clear HP5
 refine hK.out _ _ ?_ (fun hHeld => ?_)
 · exact HP.out.px
 clear hK K
 try unfold op101a5
 (try simp only [Act.put, List.setIfInBounds_toArray, List.set_cons_zero, List.set_cons_succ])
 refine wpAnyH_ready (rs := [3, 7]) (by kernel_rfl) (by simp) ?_
 refine AllReadyH.cons (o := op101a3) rfl (fun K hK => ?_) (AllReadyH.cons (o := op101a7) rfl (fun K hK => ?_) AllReadyH.nil)
 {
 try unfold op101a3
 have c8 := HP.out.box.cells.2.2.2.2.2.2.2.2
 go_simp
 refine hK.out _ _ ?_ (fun hHeld => ?_)
 · exact HP.out.px
 clear c8
 clear hK K
 try unfold op101a3
 (try simp only [Act.put, List.setIfInBounds_toArray, List.set_cons_zero, List.set_cons_succ])
 refine wpAnyH_take (i := 6) (oi := op101a6) (v := ?_) rfl (by kernel_rfl) (by kernel_rfl) (by kernel_rfl) (fun _ _ _ h => h) (Or.inl ⟨by rfl, ?_⟩) (by assumption) ?_
 rotate_left
 · intro w hSw; (try dsimp only at hSw); unfold op101a6; obtain ⟨s0, s1⟩ := px_cells hSw; go_simp; try with_reducible rfl
 try unfold op101a6
 (try simp only [Act.put, List.setIfInBounds_toArray, List.set_cons_zero, List.set_cons_succ])
 refine wpAnyH_ready (rs := [7]) (by kernel_rfl) (by simp) ?_
 refine AllReadyH.cons (o := op101a7) rfl (fun K hK => ?_) AllReadyH.nil
 try unfold op101a7
 go_simp
 have hb := below_new w5 (.cells #[.int .i64 0, .int .i64 0, .int .i64 0, .int .i64 0, .int .i64 0, .int .i64 0, .int .i64 0, .int .i64 0, .slice none 0 0] 27)
 have HZ := Lib.hid (heap_new w5 (.cells #[.int .i64 0, .int .i64 0, .int .i64 0, .int .i64 0, .int .i64 0, .int .i64 0, .int .i64 0, .int .i64 0, .slice none 0 0] 27))
 have HP4 := Lib.hid (HP.out.keep hb hNw)
 have hzw6 : H ≤ (w5.alloc (.cells #[.int .i64 0, .int .i64 0, .int .i64 0, .int .i64 0, .int .i64 0, .int .i64 0, .int .i64 0, .int .i64 0, .slice none 0 0] 27)).heap.size := Nat.le_trans hzw5 hb.size
 replace HY := Lib.hid (HY.out.below hb)
 clear hb HP
 have HP := HP4
 clear HP4
 obtain ⟨w6, hw6⟩ : ∃ w6, w6 = w5.alloc (.cells #[.int .i64 0, .int .i64 0, .int .i64 0, .int .i64 0, .int .i64 0, .int .i64 0, .int .i64 0, .int .i64 0, .slice none 0 0] 27) := ⟨_, rfl⟩
 rw [← hw6] at HZ HP hzw6 HY ⊢
 clear hw6
 refine hK.out _ _ ?_ (fun hHeld => ?_)
 · exact HP.out.px
 clear hK K
 try unfold op101a7
 (try simp only [Act.put, List.setIfInBounds_toArray, List.set_cons_zero, List.set_cons_succ])
 refine wpAnyH_ready (rs := [8]) (by kernel_rfl) (by simp) ?_
 refine AllReadyH.cons (o := op101a8) rfl (fun K hK => ?_) AllReadyH.nil
 try unfold op101a8
 refine step_append_lies _ (by rfl) _ _ _ (by rfl) (w.heap.size + 1) 27 i0 (.agg #[.int .i64 0, .int .i64 0, .int .i64 0, .int .i64 0, .int .i64 0, .int .i64 0, .int .i64 0, .int .i64 0, .slice none 0 0]) 9 88 Tryz.underlying25 hi hz0 hz1 hz2 rfl (by decide) _ _ _ (by rfl) HP.out.own.1 ⟨w5.heap.size, 0, none⟩ 1 1 [.int .i64 0, .int .i64 0, .int .i64 0, .int .i64 0, .int .i64 0, .int .i64 0, .int .i64 0, .int .i64 0, .slice none 0 0] (by rfl) rfl ?c1 ?c2 (by decide) ?c4 ?c5 ?c6 _ rfl ?_
 case c1 => exact World.news_of_block HZ.out
 case c2 => exact ntE.one ntZP
 case c4 => unfold maxLen; omega
 case c5 => omega
 case c6 => omega
 intro gg cp7 w7 hown hgrow hat hlt7
 have HP7 := Lib.hid (HP.out.app hown hgrow hat hNw hge hgew)
 replace HY := Lib.hid (grown_keepP (ok' := fun k => w.heap.size + 1 ≤ k ∧ k ≠ gg) hgrow HY.out (fun k q e => by have := hvb k e.symm; omega) (fun k q hl => ⟨by omega, fun e => by rcases hat with p | p; have := hvb gg p; omega; omega⟩))
 have hgg : w.heap.size + 1 ≤ gg := (World.ownsRow.lt hown gg rfl).1
 clear hown hgrow hat hlt7 HZ HP
 have HP := HP7
 clear HP7
 refine hK.out _ _ ?_ (fun hHeld => ?_)
 · exact HP.out.px
 clear hK K
 try unfold op101a8
 (try simp only [Act.put, List.setIfInBounds_toArray, List.set_cons_zero, List.set_cons_succ])
 refine wpAnyH_take (i := 9) (oi := op101a9) (v := ?_) rfl (by kernel_rfl) (by kernel_rfl) (by kernel_rfl) (fun _ _ _ h => h) (Or.inl ⟨by rfl, ?_⟩) (by assumption) ?_
 rotate_left
 · intro w hSw; (try dsimp only at hSw); unfold op101a9; obtain ⟨s0, s1⟩ := px_cells hSw; go_simp; try with_reducible rfl
 try unfold op101a9
 (try simp only [Act.put, List.setIfInBounds_toArray, List.set_cons_zero, List.set_cons_succ])
 refine wpAnyH_take (i := 11) (oi := op101a11) (v := ?_) rfl (by kernel_rfl) (by kernel_rfl) (by kernel_rfl) (fun _ _ _ h => h) (Or.inl ⟨by rfl, ?_⟩) (by assumption) ?_
 rotate_left
 · intro w hSw; (try dsimp only at hSw); unfold op101a11; obtain ⟨s0, s1⟩ := px_cells hSw; go_simp; try with_reducible rfl
 try unfold op101a11
 (try simp only [Act.put, List.setIfInBounds_toArray, List.set_cons_zero, List.set_cons_succ])
 refine wpAnyH_take (i := 12) (oi := op101a12) (v := ?_) rfl (by kernel_rfl) (by kernel_rfl) (by kernel_rfl) (fun _ _ _ h => h) (Or.inl ⟨by rfl, ?_⟩) (by assumption) ?_
 rotate_left
 · intro w hSw; (try dsimp only at hSw); unfold op101a12; obtain ⟨s0, s1⟩ := px_cells hSw; go_simp; try with_reducible rfl
 try unfold op101a12
 (try simp only [Act.put, List.setIfInBounds_toArray, List.set_cons_zero, List.set_cons_succ])
 refine wpAnyH_ready (rs := [10, 13]) (by kernel_rfl) (by simp) ?_
 refine AllReadyH.cons (o := op101a10) rfl (fun K hK => ?_) (AllReadyH.cons (o := op101a13) rfl (fun K hK => ?_) AllReadyH.nil)
 {
 try unfold op101a10
 obtain ⟨⟨d0, d1, d2, d3, d4, d5, d6, d7, d8⟩, ⟨f0, f1, f2, f3, f4, f5, f6, f7, f8⟩⟩ := own_c18 HP.out.own
 go_simp
 rw [nest_q]
 have HP8 := Lib.hid (HP.out.fill HY.out (list9 oy q0 q1 q2 q3 q4 q5 vy Ay ky.len cy) hNw hge hgew)
 obtain ⟨w8, hw8⟩ : ∃ w8, w8 = sets w7 gg (L.length * 9) [.int .i64 oy, .int .i64 q0, .int .i64 q1, .int .i64 q2, .int .i64 q3, .int .i64 q4, .int .i64 q5, .int .i64 vy, .slice Ay ky.len cy] := ⟨_, rfl⟩
 rw [← hw8] at HP8 ⊢
 clear hw8 HP HY
 have HP := HP8
 clear HP8
 refine hK.out _ _ ?_ (fun hHeld => ?_)
 · exact HP.out.px
 clear d0 d1 d2 d3 d4 d5 d6 d7 d8 f0 f1 f2 f3 f4 f5 f6 f7 f8
 clear hK K
 try unfold op101a10
 (try simp only [Act.put, List.setIfInBounds_toArray, List.set_cons_zero, List.set_cons_succ])
 refine wpAnyH_ready (rs := [13]) (by kernel_rfl) (by simp) ?_
 refine AllReadyH.cons (o := op101a13) rfl (fun K hK => ?_) AllReadyH.nil
 try unfold op101a13
 have c8 := HP.out.box.cells.2.2.2.2.2.2.2.2
 have f8 := HP.out.box.free.2.2.2.2.2.2.2.2
 go_simp
 have HP9 := Lib.hid (HP.out.box8 (.slice (some ⟨gg, 0, none⟩) (L.length + 1) cp7) (by omega) hNw hge hgew)
 obtain ⟨w9, hw9⟩ : ∃ w9, w9 = w8.setCell ⟨ge, 8, none⟩ (.slice (some ⟨gg, 0, none⟩) (L.length + 1) cp7) := ⟨_, rfl⟩
 rw [← hw9] at HP9 ⊢
 clear hw9 HP c8 f8
 have HP := HP9
 clear HP9
 refine hK.out _ _ ?_ (fun hHeld => ?_)
 · exact HP.out.px
 clear hK K
 try unfold op101a13
 (try simp only [Act.put, List.setIfInBounds_toArray, List.set_cons_zero, List.set_cons_succ])
 refine wpAnyH_done (by kernel_rfl) ?_ _
 rw [HR1.out] at HP HYN
 dsimp only at HP HYN
 go_wp2_with fail
 go_meet
 case rel => exact ⟨_, ⟨oy, [q0, q1, q2, q3, q4, q5], vy, Ay, cy, ky⟩, HP, HYN⟩
 }
 {
 try unfold op101a13
 have c8 := HP.out.box.cells.2.2.2.2.2.2.2.2
 have f8 := HP.out.box.free.2.2.2.2.2.2.2.2
 go_simp
 have HP9 := Lib.hid (HP.out.box8 (.slice (some ⟨gg, 0, none⟩) (L.length + 1) cp7) (by omega) hNw hge hgew)
 replace HY := Lib.hid (grown_keepP (ok' := fun k => w.heap.size + 1 ≤ k ∧ k ≠ gg) (grown_set w7 ge 8 (.slice (some ⟨gg, 0, none⟩) (L.length + 1) cp7)) HY.out (fun k q e => by have := Option.some.inj e; have := q.1; omega) (fun k q _ => q))
 obtain ⟨w9, hw9⟩ : ∃ w9, w9 = w7.setCell ⟨ge, 8, none⟩ (.slice (some ⟨gg, 0, none⟩) (L.length + 1) cp7) := ⟨_, rfl⟩
 rw [← hw9] at HP9 HY ⊢
 clear hw9 HP c8 f8
 have HP := HP9
 clear HP9
 refine hK.out _ _ ?_ (fun hHeld => ?_)
 · exact HP.out.px
 clear hK K
 try unfold op101a13
 (try simp only [Act.put, List.setIfInBounds_toArray, List.set_cons_zero, List.set_cons_succ])
 refine wpAnyH_ready (rs := [10]) (by kernel_rfl) (by simp) ?_
 refine AllReadyH.cons (o := op101a10) rfl (fun K hK => ?_) AllReadyH.nil
 try unfold op101a10
 obtain ⟨⟨d0, d1, d2, d3, d4, d5, d6, d7, d8⟩, ⟨f0, f1, f2, f3, f4, f5, f6, f7, f8⟩⟩ := own_c18 HP.out.own
 go_simp
 rw [nest_q]
 have HP8 := Lib.hid (HP.out.fill HY.out (list9 oy q0 q1 q2 q3 q4 q5 vy Ay ky.len cy) hNw hge hgew)
 obtain ⟨w8, hw8⟩ : ∃ w8, w8 = sets w9 gg (L.length * 9) [.int .i64 oy, .int .i64 q0, .int .i64 q1, .int .i64 q2, .int .i64 q3, .int .i64 q4, .int .i64 q5, .int .i64 vy, .slice Ay ky.len cy] := ⟨_, rfl⟩
 rw [← hw8] at HP8 ⊢
 clear hw8 HP HY
 have HP := HP8
 clear HP8
 refine hK.out _ _ ?_ (fun hHeld => ?_)
 · exact HP.out.px
 clear d0 d1 d2 d3 d4 d5 d6 d7 d8 f0 f1 f2 f3 f4 f5 f6 f7 f8
 clear hK K
 try unfold op101a10
 (try simp only [Act.put, List.setIfInBounds_toArray, List.set_cons_zero, List.set_cons_succ])
 refine wpAnyH_done (by kernel_rfl) ?_ _
 rw [HR1.out] at HP HYN
 dsimp only at HP HYN
 go_wp2_with fail
 go_meet
 case rel => exact ⟨_, ⟨oy, [q0, q1, q2, q3, q4, q5], vy, Ay, cy, ky⟩, HP, HYN⟩
 }
 }
 {
 try unfold op101a7
 go_simp
 have hb := below_new w5 (.cells #[.int .i64 0, .int .i64 0, .int .i64 0, .int .i64 0, .int .i64 0, .int .i64 0, .int .i64 0, .int .i64 0, .slice none 0 0] 27)
 have HZ := Lib.hid (heap_new w5 (.cells #[.int .i64 0, .int .i64 0, .int .i64 0, .int .i64 0, .int .i64 0, .int .i64 0, .int .i64 0, .int .i64 0, .slice none 0 0] 27))
 have HP4 := Lib.hid (HP.out.keep hb hNw)
 have hzw6 : H ≤ (w5.alloc (.cells #[.int .i64 0, .int .i64 0, .int .i64 0, .int .i64 0, .int .i64 0, .int .i64 0, .int .i64 0, .int .i64 0, .slice none 0 0] 27)).heap.size := Nat.le_trans hzw5 hb.size
 replace HY := Lib.hid (HY.out.below hb)
 clear hb HP
 have HP := HP4
 clear HP4
 obtain ⟨w6, hw6⟩ : ∃ w6, w6 = w5.alloc (.cells #[.int .i64 0, .int .i64 0, .int .i64 0, .int .i64 0, .int .i64 0, .int .i64 0, .int .i64 0, .int .i64 0, .slice none 0 0] 27) := ⟨_, rfl⟩
 rw [← hw6] at HZ HP hzw6 HY ⊢
 clear hw6
 refine hK.out _ _ ?_ (fun hHeld => ?_)
 · exact HP.out.px
 clear hK K
 try unfold op101a7
 (try simp only [Act.put, List.setIfInBounds_toArray, List.set_cons_zero, List.set_cons_succ])
 refine wpAnyH_ready (rs := [3]) (by kernel_rfl) (by simp) ?_
 refine AllReadyH.cons (o := op101a3) rfl (fun K hK => ?_) AllReadyH.nil
 try unfold op101a3
 have c8 := HP.out.box.cells.2.2.2.2.2.2.2.2
 go_simp
 refine hK.out _ _ ?_ (fun hHeld => ?_)
 · exact HP.out.px
 clear c8
 clear hK K
 try unfold op101a3
 (try simp only [Act.put, List.setIfInBounds_toArray, List.set_cons_zero, List.set_cons_succ])
 refine wpAnyH_take (i := 6) (oi := op101a6) (v := ?_) rfl (by kernel_rfl) (by kernel_rfl) (by kernel_rfl) (fun _ _ _ h => h) (Or.inl ⟨by rfl, ?_⟩) (by assumption) ?_
 rotate_left
 · intro w hSw; (try dsimp only at hSw); unfold op101a6; obtain ⟨s0, s1⟩ := px_cells hSw; go_simp; try with_reducible rfl
 try unfold op101a6
 (try simp only [Act.put, List.setIfInBounds_toArray, List.set_cons_zero, List.set_cons_succ])
 refine wpAnyH_ready (rs := [8]) (by kernel_rfl) (by simp) ?_
 refine AllReadyH.cons (o := op101a8) rfl (fun K hK => ?_) AllReadyH.nil
 try unfold op101a8
 refine step_append_lies _ (by rfl) _ _ _ (by rfl) (w.heap.size + 1) 27 i0 (.agg #[.int .i64 0, .int .i64 0, .int .i64 0, .int .i64 0, .int .i64 0, .int .i64 0, .int .i64 0, .int .i64 0, .slice none 0 0]) 9 88 Tryz.underlying25 hi hz0 hz1 hz2 rfl (by decide) _ _ _ (by rfl) HP.out.own.1 ⟨w5.heap.size, 0, none⟩ 1 1 [.int .i64 0, .int .i64 0, .int .i64 0, .int .i64 0, .int .i64 0, .int .i64 0, .int .i64 0, .int .i64 0, .slice none 0 0] (by rfl) rfl ?c1 ?c2 (by decide) ?c4 ?c5 ?c6 _ rfl ?_
 case c1 => exact World.news_of_block HZ.out
 case c2 => exact ntE.one ntZP
 case c4 => unfold maxLen; omega
 case c5 => omega
 case c6 => omega
 intro gg cp7 w7 hown hgrow hat hlt7
 have HP7 := Lib.hid (HP.out.app hown hgrow hat hNw hge hgew)
 replace HY := Lib.hid (grown_keepP (ok' := fun k => w.heap.size + 1 ≤ k ∧ k ≠ gg) hgrow HY.out (fun k q e => by have := hvb k e.symm; omega) (fun k q hl => ⟨by omega, fun e => by rcases hat with p | p; have := hvb gg p; omega; omega⟩))
 have hgg : w.heap.size + 1 ≤ gg := (World.ownsRow.lt hown gg rfl).1
 clear hown hgrow hat hlt7 HZ HP
 have HP := HP7
 clear HP7
 refine hK.out _ _ ?_ (fun hHeld => ?_)
 · exact HP.out.px
 clear hK K
 try unfold op101a8
 (try simp only [Act.put, List.setIfInBounds_toArray, List.set_cons_zero, List.set_cons_succ])
 refine wpAnyH_take (i := 9) (oi := op101a9) (v := ?_) rfl (by kernel_rfl) (by kernel_rfl) (by kernel_rfl) (fun _ _ _ h => h) (Or.inl ⟨by rfl, ?_⟩) (by assumption) ?_
 rotate_left
 · intro w hSw; (try dsimp only at hSw); unfold op101a9; obtain ⟨s0, s1⟩ := px_cells hSw; go_simp; try with_reducible rfl
 try unfold op101a9
 (try simp only [Act.put, List.setIfInBounds_toArray, List.set_cons_zero, List.set_cons_succ])
 refine wpAnyH_take (i := 11) (oi := op101a11) (v := ?_) rfl (by kernel_rfl) (by kernel_rfl) (by kernel_rfl) (fun _ _ _ h => h) (Or.inl ⟨by rfl, ?_⟩) (by assumption) ?_
 rotate_left
 · intro w hSw; (try dsimp only at hSw); unfold op101a11; obtain ⟨s0, s1⟩ := px_cells hSw; go_simp; try with_reducible rfl
 try unfold op101a11
 (try simp only [Act.put, List.setIfInBounds_toArray, List.set_cons_zero, List.set_cons_succ])
 refine wpAnyH_take (i := 12) (oi := op101a12) (v := ?_) rfl (by kernel_rfl) (by kernel_rfl) (by kernel_rfl) (fun _ _ _ h => h) (Or.inl ⟨by rfl, ?_⟩) (by assumption) ?_
 rotate_left
 · intro w hSw; (try dsimp only at hSw); unfold op101a12; obtain ⟨s0, s1⟩ := px_cells hSw; go_simp; try with_reducible rfl
 try unfold op101a12
 (try simp only [Act.put, List.setIfInBounds_toArray, List.set_cons_zero, List.set_cons_succ])
 refine wpAnyH_ready (rs := [10, 13]) (by kernel_rfl) (by simp) ?_
 refine AllReadyH.cons (o := op101a10) rfl (fun K hK => ?_) (AllReadyH.cons (o := op101a13) rfl (fun K hK => ?_) AllReadyH.nil)
 {
 try unfold op101a10
 obtain ⟨⟨d0, d1, d2, d3, d4, d5, d6, d7, d8⟩, ⟨f0, f1, f2, f3, f4, f5, f6, f7, f8⟩⟩ := own_c18 HP.out.own
 go_simp
 rw [nest_q]
 have HP8 := Lib.hid (HP.out.fill HY.out (list9 oy q0 q1 q2 q3 q4 q5 vy Ay ky.len cy) hNw hge hgew)
 obtain ⟨w8, hw8⟩ : ∃ w8, w8 = sets w7 gg (L.length * 9) [.int .i64 oy, .int .i64 q0, .int .i64 q1, .int .i64 q2, .int .i64 q3, .int .i64 q4, .int .i64 q5, .int .i64 vy, .slice Ay ky.len cy] := ⟨_, rfl⟩
 rw [← hw8] at HP8 ⊢
 clear hw8 HP HY
 have HP := HP8
 clear HP8
 refine hK.out _ _ ?_ (fun hHeld => ?_)
 · exact HP.out.px
 clear d0 d1 d2 d3 d4 d5 d6 d7 d8 f0 f1 f2 f3 f4 f5 f6 f7 f8
 clear hK K
 try unfold op101a10
 (try simp only [Act.put, List.setIfInBounds_toArray, List.set_cons_zero, List.set_cons_succ])
 refine wpAnyH_ready (rs := [13]) (by kernel_rfl) (by simp) ?_
 refine AllReadyH.cons (o := op101a13) rfl (fun K hK => ?_) AllReadyH.nil
 try unfold op101a13
 have c8 := HP.out.box.cells.2.2.2.2.2.2.2.2
 have f8 := HP.out.box.free.2.2.2.2.2.2.2.2
 go_simp
 have HP9 := Lib.hid (HP.out.box8 (.slice (some ⟨gg, 0, none⟩) (L.length + 1) cp7) (by omega) hNw hge hgew)
 obtain ⟨w9, hw9⟩ : ∃ w9, w9 = w8.setCell ⟨ge, 8, none⟩ (.slice (some ⟨gg, 0, none⟩) (L.length + 1) cp7) := ⟨_, rfl⟩
 rw [← hw9] at HP9 ⊢
 clear hw9 HP c8 f8
 have HP := HP9
 clear HP9
 refine hK.out _ _ ?_ (fun hHeld => ?_)
 · exact HP.out.px
 clear hK K
 try unfold op101a13
 (try simp only [Act.put, List.setIfInBounds_toArray, List.set_cons_zero, List.set_cons_succ])
 refine wpAnyH_done (by kernel_rfl) ?_ _
 rw [HR1.out] at HP HYN
 dsimp only at HP HYN
 go_wp2_with fail
 go_meet
 case rel => exact ⟨_, ⟨oy, [q0, q1, q2, q3, q4, q5], vy, Ay, cy, ky⟩, HP, HYN⟩
 }
 {
 try unfold op101a13
 have c8 := HP.out.box.cells.2.2.2.2.2.2.2.2
 have f8 := HP.out.box.free.2.2.2.2.2.2.2.2
 go_simp
 have HP9 := Lib.hid (HP.out.box8 (.slice (some ⟨gg, 0, none⟩) (L.length + 1) cp7) (by omega) hNw hge hgew)
 replace HY := Lib.hid (grown_keepP (ok' := fun k => w.heap.size + 1 ≤ k ∧ k ≠ gg) (grown_set w7 ge 8 (.slice (some ⟨gg, 0, none⟩) (L.length + 1) cp7)) HY.out (fun k q e => by have := Option.some.inj e; have := q.1; omega) (fun k q _ => q))
 obtain ⟨w9, hw9⟩ : ∃ w9, w9 = w7.setCell ⟨ge, 8, none⟩ (.slice (some ⟨gg, 0, none⟩) (L.length + 1) cp7) := ⟨_, rfl⟩
 rw [← hw9] at HP9 HY ⊢
 clear hw9 HP c8 f8
 have HP := HP9
 clear HP9
 refine hK.out _ _ ?_ (fun hHeld => ?_)
 · exact HP.out.px
 clear hK K
 try unfold op101a13
 (try simp only [Act.put, List.setIfInBounds_toArray, List.set_cons_zero, List.set_cons_succ])
 refine wpAnyH_ready (rs := [10]) (by kernel_rfl) (by simp) ?_
 refine AllReadyH.cons (o := op101a10) rfl (fun K hK => ?_) AllReadyH.nil
 try unfold op101a10
 obtain ⟨⟨d0, d1, d2, d3, d4, d5, d6, d7, d8⟩, ⟨f0, f1, f2, f3, f4, f5, f6, f7, f8⟩⟩ := own_c18 HP.out.own
 go_simp
 rw [nest_q]
 have HP8 := Lib.hid (HP.out.fill HY.out (list9 oy q0 q1 q2 q3 q4 q5 vy Ay ky.len cy) hNw hge hgew)
 obtain ⟨w8, hw8⟩ : ∃ w8, w8 = sets w9 gg (L.length * 9) [.int .i64 oy, .int .i64 q0, .int .i64 q1, .int .i64 q2, .int .i64 q3, .int .i64 q4, .int .i64 q5, .int .i64 vy, .slice Ay ky.len cy] := ⟨_, rfl⟩
 rw [← hw8] at HP8 ⊢
 clear hw8 HP HY
 have HP := HP8
 clear HP8
 refine hK.out _ _ ?_ (fun hHeld => ?_)
 · exact HP.out.px
 clear d0 d1 d2 d3 d4 d5 d6 d7 d8 f0 f1 f2 f3 f4 f5 f6 f7 f8
 clear hK K
 try unfold op101a10
 (try simp only [Act.put, List.setIfInBounds_toArray, List.set_cons_zero, List.set_cons_succ])
 refine wpAnyH_done (by kernel_rfl) ?_ _
 rw [HR1.out] at HP HYN
 dsimp only at HP HYN
 go_wp2_with fail
 go_meet
 case rel => exact ⟨_, ⟨oy, [q0, q1, q2, q3, q4, q5], vy, Ay, cy, ky⟩, HP, HYN⟩
 }
 }
 }
    {
 try unfold op101a7
 go_simp
 have hb := below_new X (.cells #[.int .i64 0, .int .i64 0, .int .i64 0, .int .i64 0, .int .i64 0, .int .i64 0, .int .i64 0, .int .i64 0, .slice none 0 0] 27)
 have HZ := Lib.hid (heap_new X (.cells #[.int .i64 0, .int .i64 0, .int .i64 0, .int .i64 0, .int .i64 0, .int .i64 0, .int .i64 0, .int .i64 0, .slice none 0 0] 27))
 have HP4 := Lib.hid (HP.out.keep hb hNw)
 have hzw6 : H ≤ (X.alloc (.cells #[.int .i64 0, .int .i64 0, .int .i64 0, .int .i64 0, .int .i64 0, .int .i64 0, .int .i64 0, .int .i64 0, .slice none 0 0] 27)).heap.size := Nat.le_trans hzX hb.size
 clear hb HP
 have HP := HP4
 clear HP4
 obtain ⟨w6, hw6⟩ : ∃ w6, w6 = X.alloc (.cells #[.int .i64 0, .int .i64 0, .int .i64 0, .int .i64 0, .int .i64 0, .int .i64 0, .int .i64 0, .int .i64 0, .slice none 0 0] 27) := ⟨_, rfl⟩
 rw [← hw6] at HZ HP hzw6 ⊢
 clear hw6
 refine hK.out _ _ ?_ (fun hHeld => ?_)
 · exact HP.out.px
 clear hK K
 try unfold op101a7
 (try simp only [Act.put, List.setIfInBounds_toArray, List.set_cons_zero, List.set_cons_succ])
 refine wpAnyH_ready (rs := [3, 5]) (by kernel_rfl) (by simp) ?_
 refine AllReadyH.cons (o := op101a3) rfl (fun K hK => ?_) (AllReadyH.cons (o := op101a5) rfl (fun K hK => ?_) AllReadyH.nil)
 {
 try unfold op101a3
 have c8 := HP.out.box.cells.2.2.2.2.2.2.2.2
 go_simp
 refine hK.out _ _ ?_ (fun hHeld => ?_)
 · exact HP.out.px
 clear c8
 clear hK K
 try unfold op101a3
 (try simp only [Act.put, List.setIfInBounds_toArray, List.set_cons_zero, List.set_cons_succ])
 refine wpAnyH_take (i := 6) (oi := op101a6) (v := ?_) rfl (by kernel_rfl) (by kernel_rfl) (by kernel_rfl) (fun _ _ _ h => h) (Or.inl ⟨by rfl, ?_⟩) (by assumption) ?_
 rotate_left
 · intro w hSw; (try dsimp only at hSw); unfold op101a6; obtain ⟨s0, s1⟩ := px_cells hSw; go_simp; try with_reducible rfl
 try unfold op101a6
 (try simp only [Act.put, List.setIfInBounds_toArray, List.set_cons_zero, List.set_cons_succ])
 refine wpAnyH_ready (rs := [5]) (by kernel_rfl) (by simp) ?_
 refine AllReadyH.cons (o := op101a5) rfl (fun K hK => ?_) AllReadyH.nil
 try unfold op101a5
 go_simp
 refine (CC.out g ts er w6 hts hf HP.out.sp hN (Nat.le_trans hNw HP.out.mv.below.size) (HE.out.next HP.out.mv.below) HNE.out).mono ?_
 rintro ev w5 ⟨y, rfl, hyn, hyo, hs5, hm5⟩
 obtain ⟨oy, byy, vy, Ay, cy, ky⟩ := y
 obtain ⟨q0, q1, q2, q3, q4, q5, rfl⟩ := six hyo.six
 have hg5 := hm5.grow
 have HY := Lib.hid (hyo.keep (ok' := fun k => H ≤ k) (fun _ _ _ => rfl) (Nat.le_refl _) (fun k q _ => Nat.le_trans hzw6 q))
 have HYN := Lib.hid hyn
 have HP5 := Lib.hid (HP.out.turn hg5 hs5 hN hNw hge hgew)
 have hzw5 : H ≤ w5.heap.size := Nat.le_trans hzw6 hg5.size
 replace HZ := Lib.hid ((hg5.block _ (Array.getElem?_eq_some_iff.1 HZ.out).1 (fun e => by injection e with e; have := hzX; omega)).trans HZ.out)
 rw [NT.val_lit]
 clear hyn hyo hs5 hm5 hg5 HP
 have HP := HP5
 clear HP5
 refine hK.out _ _ ?_ (fun hHeld => ?_)
 · exact HP.out.px
 clear hK K
 try unfold op101a5
 (try simp only [Act.put, List.setIfInBounds_toArray, List.set_cons_zero, List.set_cons_succ])
 refine wpAnyH_ready (rs := [8]) (by kernel_rfl) (by simp) ?_
 refine AllReadyH.cons (o := op101a8) rfl (fun K hK => ?_) AllReadyH.nil
 try unfold op101a8
 refine step_append_lies _ (by rfl) _ _ _ (by rfl) (w.heap.size + 1) 27 i0 (.agg #[.int .i64 0, .int .i64 0, .int .i64 0, .int .i64 0, .int .i64 0, .int .i64 0, .int .i64 0, .int .i64 0, .slice none 0 0]) 9 88 Tryz.underlying25 hi hz0 hz1 hz2 rfl (by decide) _ _ _ (by rfl) HP.out.own.1 ⟨X.heap.size, 0, none⟩ 1 1 [.int .i64 0, .int .i64 0, .int .i64 0, .int .i64 0, .int .i64 0, .int .i64 0, .int .i64 0, .int .i64 0, .slice none 0 0] (by rfl) rfl ?c1 ?c2 (by decide) ?c4 ?c5 ?c6 _ rfl ?_
 case c1 => exact World.news_of_block HZ.out
 case c2 => exact ntE.one ntZP
 case c4 => unfold maxLen; omega
 case c5 => omega
 case c6 => omega
 intro gg cp7 w7 hown hgrow hat hlt7
 have HP7 := Lib.hid (HP.out.app hown hgrow hat hNw hge hgew)
 replace HY := Lib.hid (grown_keepP (ok' := fun k => w.heap.size + 1 ≤ k ∧ k ≠ gg) hgrow HY.out (fun k q e => by have := hvb k e.symm; omega) (fun k q hl => ⟨by omega, fun e => by rcases hat with p | p; have := hvb gg p; omega; omega⟩))
 have hgg : w.heap.size + 1 ≤ gg := (World.ownsRow.lt hown gg rfl).1
 clear hown hgrow hat hlt7 HZ HP
 have HP := HP7
 clear HP7
 refine hK.out _ _ ?_ (fun hHeld => ?_)
 · exact HP.out.px
 clear hK K
 try unfold op101a8
 (try simp only [Act.put, List.setIfInBounds_toArray, List.set_cons_zero, List.set_cons_succ])
 refine wpAnyH_take (i := 9) (oi := op101a9) (v := ?_) rfl (by kernel_rfl) (by kernel_rfl) (by kernel_rfl) (fun _ _ _ h => h) (Or.inl ⟨by rfl, ?_⟩) (by assumption) ?_
 rotate_left
 · intro w hSw; (try dsimp only at hSw); unfold op101a9; obtain ⟨s0, s1⟩ := px_cells hSw; go_simp; try with_reducible rfl
 try unfold op101a9
 (try simp only [Act.put, List.setIfInBounds_toArray, List.set_cons_zero, List.set_cons_succ])
 refine wpAnyH_take (i := 11) (oi := op101a11) (v := ?_) rfl (by kernel_rfl) (by kernel_rfl) (by kernel_rfl) (fun _ _ _ h => h) (Or.inl ⟨by rfl, ?_⟩) (by assumption) ?_
 rotate_left
 · intro w hSw; (try dsimp only at hSw); unfold op101a11; obtain ⟨s0, s1⟩ := px_cells hSw; go_simp; try with_reducible rfl
 try unfold op101a11
 (try simp only [Act.put, List.setIfInBounds_toArray, List.set_cons_zero, List.set_cons_succ])
 refine wpAnyH_take (i := 12) (oi := op101a12) (v := ?_) rfl (by kernel_rfl) (by kernel_rfl) (by kernel_rfl) (fun _ _ _ h => h) (Or.inl ⟨by rfl, ?_⟩) (by assumption) ?_
 rotate_left
 · intro w hSw; (try dsimp only at hSw); unfold op101a12; obtain ⟨s0, s1⟩ := px_cells hSw; go_simp; try with_reducible rfl
 try unfold op101a12
 (try simp only [Act.put, List.setIfInBounds_toArray, List.set_cons_zero, List.set_cons_succ])
 refine wpAnyH_ready (rs := [10, 13]) (by kernel_rfl) (by simp) ?_
 refine AllReadyH.cons (o := op101a10) rfl (fun K hK => ?_) (AllReadyH.cons (o := op101a13) rfl (fun K hK => ?_) AllReadyH.nil)
 {
 try unfold op101a10
 obtain ⟨⟨d0, d1, d2, d3, d4, d5, d6, d7, d8⟩, ⟨f0, f1, f2, f3, f4, f5, f6, f7, f8⟩⟩ := own_c18 HP.out.own
 go_simp
 rw [nest_q]
 have HP8 := Lib.hid (HP.out.fill HY.out (list9 oy q0 q1 q2 q3 q4 q5 vy Ay ky.len cy) hNw hge hgew)
 obtain ⟨w8, hw8⟩ : ∃ w8, w8 = sets w7 gg (L.length * 9) [.int .i64 oy, .int .i64 q0, .int .i64 q1, .int .i64 q2, .int .i64 q3, .int .i64 q4, .int .i64 q5, .int .i64 vy, .slice Ay ky.len cy] := ⟨_, rfl⟩
 rw [← hw8] at HP8 ⊢
 clear hw8 HP HY
 have HP := HP8
 clear HP8
 refine hK.out _ _ ?_ (fun hHeld => ?_)
 · exact HP.out.px
 clear d0 d1 d2 d3 d4 d5 d6 d7 d8 f0 f1 f2 f3 f4 f5 f6 f7 f8
 clear hK K
 try unfold op101a10
 (try simp only [Act.put, List.setIfInBounds_toArray, List.set_cons_zero, List.set_cons_succ])
 refine wpAnyH_ready (rs := [13]) (by kernel_rfl) (by simp) ?_
 refine AllReadyH.cons (o := op101a13) rfl (fun K hK => ?_) AllReadyH.nil
 try unfold op101a13
 have c8 := HP.out.box.cells.2.2.2.2.2.2.2.2
 have f8 := HP.out.box.free.2.2.2.2.2.2.2.2
 go_simp
 have HP9 := Lib.hid (HP.out.box8 (.slice (some ⟨gg, 0, none⟩) (L.length + 1) cp7) (by omega) hNw hge hgew)
 obtain ⟨w9, hw9⟩ : ∃ w9, w9 = w8.setCell ⟨ge, 8, none⟩ (.slice (some ⟨gg, 0, none⟩) (L.length + 1) cp7) := ⟨_, rfl⟩
 rw [← hw9] at HP9 ⊢
 clear hw9 HP c8 f8
 have HP := HP9
 clear HP9
 refine hK.out _ _ ?_ (fun hHeld => ?_)
 · exact HP.out.px
 clear hK K
 try unfold op101a13
 (try simp only [Act.put, List.setIfInBounds_toArray, List.set_cons_zero, List.set_cons_succ])
 refine wpAnyH_done (by kernel_rfl) ?_ _
 rw [HR1.out] at HP HYN
 dsimp only at HP HYN
 go_wp2_with fail
 go_meet
 case rel => exact ⟨_, ⟨oy, [q0, q1, q2, q3, q4, q5], vy, Ay, cy, ky⟩, HP, HYN⟩
 }
 {
 try unfold op101a13
 have c8 := HP.out.box.cells.2.2.2.2.2.2.2.2
 have f8 := HP.out.box.free.2.2.2.2.2.2.2.2
 go_simp
 have HP9 := Lib.hid (HP.out.box8 (.slice (some ⟨gg, 0, none⟩) (L.length + 1) cp7) (by omega) hNw hge hgew)
 replace HY := Lib.hid (grown_keepP (ok' := fun k => w.heap.size + 1 ≤ k ∧ k ≠ gg) (grown_set w7 ge 8 (.slice (some ⟨gg, 0, none⟩) (L.length + 1) cp7)) HY.out (fun k q e => by have := Option.some.inj e; have := q.1; omega) (fun k q _ => q))
 obtain ⟨w9, hw9⟩ : ∃ w9, w9 = w7.setCell ⟨ge, 8, none⟩ (.slice (some ⟨gg, 0, none⟩) (L.length + 1) cp7) := ⟨_, rfl⟩
 rw [← hw9] at HP9 HY ⊢
 clear hw9 HP c8 f8
 have HP := HP9
 clear HP9
 refine hK.out _ _ ?_ (fun hHeld => ?_)
 · exact HP.out.px
 clear hK K
 try unfold op101a13
 (try simp only [Act.put, List.setIfInBounds_toArray, List.set_cons_zero, List.set_cons_succ])
 refine wpAnyH_ready (rs := [10]) (by kernel_rfl) (by simp) ?_
 refine AllReadyH.cons (o := op101a10) rfl (fun K hK => ?_) AllReadyH.nil
 try unfold op101a10
 obtain ⟨⟨d0, d1, d2, d3, d4, d5, d6, d7, d8⟩, ⟨f0, f1, f2, f3, f4, f5, f6, f7, f8⟩⟩ := own_c18 HP.out.own
 go_simp
 rw [nest_q]
 have HP8 := Lib.hid (HP.out.fill HY.out (list9 oy q0 q1 q2 q3 q4 q5 vy Ay ky.len cy) hNw hge hgew)
 obtain ⟨w8, hw8⟩ : ∃ w8, w8 = sets w9 gg (L.length * 9) [.int .i64 oy, .int .i64 q0, .int .i64 q1, .int .i64 q2, .int .i64 q3, .int .i64 q4, .int .i64 q5, .int .i64 vy, .slice Ay ky.len cy] := ⟨_, rfl⟩
 rw [← hw8] at HP8 ⊢
 clear hw8 HP HY
 have HP := HP8
 clear HP8
 refine hK.out _ _ ?_ (fun hHeld => ?_)
 · exact HP.out.px
 clear d0 d1 d2 d3 d4 d5 d6 d7 d8 f0 f1 f2 f3 f4 f5 f6 f7 f8
 clear hK K
 try unfold op101a10
 (try simp only [Act.put, List.setIfInBounds_toArray, List.set_cons_zero, List.set_cons_succ])
 refine wpAnyH_done (by kernel_rfl) ?_ _
 rw [HR1.out] at HP HYN
 dsimp only at HP HYN
 go_wp2_with fail
 go_meet
 case rel => exact ⟨_, ⟨oy, [q0, q1, q2, q3, q4, q5], vy, Ay, cy, ky⟩, HP, HYN⟩
 }
 }
 {
 try unfold op101a5
 go_simp
 refine (CC.out g ts er w6 hts hf HP.out.sp hN (Nat.le_trans hNw HP.out.mv.below.size) (HE.out.next HP.out.mv.below) HNE.out).mono ?_
 rintro ev w5 ⟨y, rfl, hyn, hyo, hs5, hm5⟩
 obtain ⟨oy, byy, vy, Ay, cy, ky⟩ := y
 obtain ⟨q0, q1, q2, q3, q4, q5, rfl⟩ := six hyo.six
 have hg5 := hm5.grow
 have HY := Lib.hid (hyo.keep (ok' := fun k => H ≤ k) (fun _ _ _ => rfl) (Nat.le_refl _) (fun k q _ => Nat.le_trans hzw6 q))
 have HYN := Lib.hid hyn
 have HP5 := Lib.hid (HP.out.turn hg5 hs5 hN hNw hge hgew)
 have hzw5 : H ≤ w5.heap.size := Nat.le_trans hzw6 hg5.size
 replace HZ := Lib.hid ((hg5.block _ (Array.getElem?_eq_some_iff.1 HZ.out).1 (fun e => by injection e with e; have := hzX; omega)).trans HZ.out)
 rw [NT.val_lit]
 clear hyn hyo hs5 hm5 hg5 HP
 have HP := HP5
 clear HP5
 refine hK.out _ _ ?_ (fun hHeld => ?_)
 · exact HP.out.px
 clear hK K
 try unfold op101a5
 (try simp only [Act.put, List.setIfInBounds_toArray, List.set_cons_zero, List.set_cons_succ])
 refine wpAnyH_ready (rs := [3]) (by kernel_rfl) (by simp) ?_
 refine AllReadyH.cons (o := op101a3) rfl (fun K hK => ?_) AllReadyH.nil
 try unfold op101a3
 have c8 := HP.out.box.cells.2.2.2.2.2.2.2.2
 go_simp
 refine hK.out _ _ ?_ (fun hHeld => ?_)
 · exact HP.out.px
 clear c8
 clear hK K
 try unfold op101a3
 (try simp only [Act.put, List.setIfInBounds_toArray, List.set_cons_zero, List.set_cons_succ])
 refine wpAnyH_take (i := 6) (oi := op101a6) (v := ?_) rfl (by kernel_rfl) (by kernel_rfl) (by kernel_rfl) (fun _ _ _ h => h) (Or.inl ⟨by rfl, ?_⟩) (by assumption) ?_
 rotate_left
 · intro w hSw; (try dsimp only at hSw); unfold op101a6; obtain ⟨s0, s1⟩ := px_cells hSw; go_simp; try with_reducible rfl
 try unfold op101a6
 (try simp only [Act.put, List.setIfInBounds_toArray, List.set_cons_zero, List.set_cons_succ])
 refine wpAnyH_ready (rs := [8]) (by kernel_rfl) (by simp) ?_
 refine AllReadyH.cons (o := op101a8) rfl (fun K hK => ?_) AllReadyH.nil
 try unfold op101a8
 refine step_append_lies _ (by rfl) _ _ _ (by rfl) (w.heap.size + 1) 27 i0 (.agg #[.int .i64 0, .int .i64 0, .int .i64 0, .int .i64 0, .int .i64 0, .int .i64 0, .int .i64 0, .int .i64 0, .slice none 0 0]) 9 88 Tryz.underlying25 hi hz0 hz1 hz2 rfl (by decide) _ _ _ (by rfl) HP.out.own.1 ⟨X.heap.size, 0, none⟩ 1 1 [.int .i64 0, .int .i64 0, .int .i64 0, .int .i64 0, .int .i64 0, .int .i64 0, .int .i64 0, .int .i64 0, .slice none 0 0] (by rfl) rfl ?c1 ?c2 (by decide) ?c4 ?c5 ?c6 _ rfl ?_
 case c1 => exact World.news_of_block HZ.out
 case c2 => exact ntE.one ntZP
 case c4 => unfold maxLen; omega
 case c5 => omega
 case c6 => omega
 intro gg cp7 w7 hown hgrow hat hlt7
 have HP7 := Lib.hid (HP.out.app hown hgrow hat hNw hge hgew)
 replace HY := Lib.hid (grown_keepP (ok' := fun k => w.heap.size + 1 ≤ k ∧ k ≠ gg) hgrow HY.out (fun k q e => by have := hvb k e.symm; omega) (fun k q hl => ⟨by omega, fun e => by rcases hat with p | p; have := hvb gg p; omega; omega⟩))
 have hgg : w.heap.size + 1 ≤ gg := (World.ownsRow.lt hown gg rfl).1
 clear hown hgrow hat hlt7 HZ HP
 have HP := HP7
 clear HP7
 refine hK.out _ _ ?_ (fun hHeld => ?_)
 · exact HP.out.px
 clear hK K
 try unfold op101a8
 (try simp only [Act.put, List.setIfInBounds_toArray, List.set_cons_zero, List.set_cons_succ])
 refine wpAnyH_take (i := 9) (oi := op101a9) (v := ?_) rfl (by kernel_rfl) (by kernel_rfl) (by kernel_rfl) (fun _ _ _ h => h) (Or.inl ⟨by rfl, ?_⟩) (by assumption) ?_
 rotate_left
 · intro w hSw; (try dsimp only at hSw); unfold op101a9; obtain ⟨s0, s1⟩ := px_cells hSw; go_simp; try with_reducible rfl
 try unfold op101a9
 (try simp only [Act.put, List.setIfInBounds_toArray, List.set_cons_zero, List.set_cons_succ])
 refine wpAnyH_take (i := 11) (oi := op101a11) (v := ?_) rfl (by kernel_rfl) (by kernel_rfl) (by kernel_rfl) (fun _ _ _ h => h) (Or.inl ⟨by rfl, ?_⟩) (by assumption) ?_
 rotate_left
 · intro w hSw; (try dsimp only at hSw); unfold op101a11; obtain ⟨s0, s1⟩ := px_cells hSw; go_simp; try with_reducible rfl
 try unfold op101a11
 (try simp only [Act.put, List.setIfInBounds_toArray, List.set_cons_zero, List.set_cons_succ])
 refine wpAnyH_take (i := 12) (oi := op101a12) (v := ?_) rfl (by kernel_rfl) (by kernel_rfl) (by kernel_rfl) (fun _ _ _ h => h) (Or.inl ⟨by rfl, ?_⟩) (by assumption) ?_
 rotate_left
 · intro w hSw; (try dsimp only at hSw); unfold op101a12; obtain ⟨s0, s1⟩ := px_cells hSw; go_simp; try with_reducible rfl
 try unfold op101a12
 (try simp only [Act.put, List.setIfInBounds_toArray, List.set_cons_zero, List.set_cons_succ])
 refine wpAnyH_ready (rs := [10, 13]) (by kernel_rfl) (by simp) ?_
 refine AllReadyH.cons (o := op101a10) rfl (fun K hK => ?_) (AllReadyH.cons (o := op101a13) rfl (fun K hK => ?_) AllReadyH.nil)
 {
 try unfold op101a10
 obtain ⟨⟨d0, d1, d2, d3, d4, d5, d6, d7, d8⟩, ⟨f0, f1, f2, f3, f4, f5, f6, f7, f8⟩⟩ := own_c18 HP.out.own
 go_simp
 rw [nest_q]
 have HP8 := Lib.hid (HP.out.fill HY.out (list9 oy q0 q1 q2 q3 q4 q5 vy Ay ky.len cy) hNw hge hgew)
 obtain ⟨w8, hw8⟩ : ∃ w8, w8 = sets w7 gg (L.length * 9) [.int .i64 oy, .int .i64 q0, .int .i64 q1, .int .i64 q2, .int .i64 q3, .int .i64 q4, .int .i64 q5, .int .i64 vy, .slice Ay ky.len cy] := ⟨_, rfl⟩
 rw [← hw8] at HP8 ⊢
 clear hw8 HP HY
 have HP := HP8
 clear HP8
 refine hK.out _ _ ?_ (fun hHeld => ?_)
 · exact HP.out.px
 clear d0 d1 d2 d3 d4 d5 d6 d7 d8 f0 f1 f2 f3 f4 f5 f6 f7 f8
 clear hK K
 try unfold op101a10
 (try simp only [Act.put, List.setIfInBounds_toArray, List.set_cons_zero, List.set_cons_succ])
 refine wpAnyH_ready (rs := [13]) (by kernel_rfl) (by simp) ?_
 refine AllReadyH.cons (o := op101a13) rfl (fun K hK => ?_) AllReadyH.nil
 try unfold op101a13
 have c8 := HP.out.box.cells.2.2.2.2.2.2.2.2
 have f8 := HP.out.box.free.2.2.2.2.2.2.2.2
 go_simp
 have HP9 := Lib.hid (HP.out.box8 (.slice (some ⟨gg, 0, none⟩) (L.length + 1) cp7) (by omega) hNw hge hgew)
 obtain ⟨w9, hw9⟩ : ∃ w9, w9 = w8.setCell ⟨ge, 8, none⟩ (.slice (some ⟨gg, 0, none⟩) (L.length + 1) cp7) := ⟨_, rfl⟩
 rw [← hw9] at HP9 ⊢
 clear hw9 HP c8 f8
 have HP := HP9
 clear HP9
 refine hK.out _ _ ?_ (fun hHeld => ?_)
 · exact HP.out.px
 clear hK K
 try unfold op101a13
 (try simp only [Act.put, List.setIfInBounds_toArray, List.set_cons_zero, List.set_cons_succ])
 refine wpAnyH_done (by kernel_rfl) ?_ _
 rw [HR1.out] at HP HYN
 dsimp only at HP HYN
 go_wp2_with fail
 go_meet
 case rel => exact ⟨_, ⟨oy, [q0, q1, q2, q3, q4, q5], vy, Ay, cy, ky⟩, HP, HYN⟩
 }
 {
 try unfold op101a13
 have c8 := HP.out.box.cells.2.2.2.2.2.2.2.2
 have f8 := HP.out.box.free.2.2.2.2.2.2.2.2
 go_simp
 have HP9 := Lib.hid (HP.out.box8 (.slice (some ⟨gg, 0, none⟩) (L.length + 1) cp7) (by omega) hNw hge hgew)
 replace HY := Lib.hid (grown_keepP (ok' := fun k => w.heap.size + 1 ≤ k ∧ k ≠ gg) (grown_set w7 ge 8 (.slice (some ⟨gg, 0, none⟩) (L.length + 1) cp7)) HY.out (fun k q e => by have := Option.some.inj e; have := q.1; omega) (fun k q _ => q))
 obtain ⟨w9, hw9⟩ : ∃ w9, w9 = w7.setCell ⟨ge, 8, none⟩ (.slice (some ⟨gg, 0, none⟩) (L.length + 1) cp7) := ⟨_, rfl⟩
 rw [← hw9] at HP9 HY ⊢
 clear hw9 HP c8 f8
 have HP := HP9
 clear HP9
 refine hK.out _ _ ?_ (fun hHeld => ?_)
 · exact HP.out.px
 clear hK K
 try unfold op101a13
 (try simp only [Act.put, List.setIfInBounds_toArray, List.set_cons_zero, List.set_cons_succ])
 refine wpAnyH_ready (rs := [10]) (by kernel_rfl) (by simp) ?_
 refine AllReadyH.cons (o := op101a10) rfl (fun K hK => ?_) AllReadyH.nil
 try unfold op101a10
 obtain ⟨⟨d0, d1, d2, d3, d4, d5, d6, d7, d8⟩, ⟨f0, f1, f2, f3, f4, f5, f6, f7, f8⟩⟩ := own_c18 HP.out.own
 go_simp
 rw [nest_q]
 have HP8 := Lib.hid (HP.out.fill HY.out (list9 oy q0 q1 q2 q3 q4 q5 vy Ay ky.len cy) hNw hge hgew)
 obtain ⟨w8, hw8⟩ : ∃ w8, w8 = sets w9 gg (L.length * 9) [.int .i64 oy, .int .i64 q0, .int .i64 q1, .int .i64 q2, .int .i64 q3, .int .i64 q4, .int .i64 q5, .int .i64 vy, .slice Ay ky.len cy] := ⟨_, rfl⟩
 rw [← hw8] at HP8 ⊢
 clear hw8 HP HY
 have HP := HP8
 clear HP8
 refine hK.out _ _ ?_ (fun hHeld => ?_)
 · exact HP.out.px
 clear d0 d1 d2 d3 d4 d5 d6 d7 d8 f0 f1 f2 f3 f4 f5 f6 f7 f8
 clear hK K
 try unfold op101a10
 (try simp only [Act.put, List.setIfInBounds_toArray, List.set_cons_zero, List.set_cons_succ])
 refine wpAnyH_done (by kernel_rfl) ?_ _
 rw [HR1.out] at HP HYN
 dsimp only at HP HYN
 go_wp2_with fail
 go_meet
 case rel => exact ⟨_, ⟨oy, [q0, q1, q2, q3, q4, q5], vy, Ay, cy, ky⟩, HP, HYN⟩
 }
 }
 }
  case rest =>
    obtain ⟨vk, y, HP1, HY1⟩ := hcut
    clear HP0
    have R := Lib.hid (show RdQ A n cp N g ge o x0 x1 x2 x3 x4 x5 v [n1] t1 e1 w (.returned (.tuple #[])) wc from ⟨vk, L ++ [y], rfl, HP1.out, by rw [HL0.out]; show [y.n] = _; rw [HY1.out]⟩)
    obtain ⟨s0, s1⟩ := px_cells HP1.out.px
    clear HP1 HY1 HL0 RSUF RSUB CC HE HNE HR1
    go_wp2
    refine wp_loop_rounds 1 ?_
    rw [rounds_succ]
    go_wp2
    go_end0
    exact R.out
end Go.Proofs.YtcokplikmjegcaaGreatDoor
