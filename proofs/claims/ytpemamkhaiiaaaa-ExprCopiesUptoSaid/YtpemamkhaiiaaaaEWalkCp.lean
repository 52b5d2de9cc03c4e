/- The walk of ExprCopies: no claim of its own. -/
import Derived.Test.YtpemamkhaiiaaaaEAwk
import Derived.Test.YtpemamkhaiiaaaaESpoil2
import Derived.Test.YtpemamkhaiiaaaaERef5
import Derived.Deep.RegionHeld3
namespace Go.Proofs.Ytpemamkhaiiaaaa
open Go.RowKit
open ME (F Nd)
theorem NT.Ok.any {x : NT} {w : World} {ok : Nat → Prop} (h : x.Ok w ok) : x.Ok w (fun _ => True) := h.keep (fun _ _ _ => rfl) (Nat.le_refl _) (fun _ _ _ => trivial)
theorem equal_same (x y : NT) (w : World) (hx : x.Ok w (fun _ => True)) (hy : y.Ok w (fun _ => True)) (h : x.n = y.n) : Calls Try.prog 7 #[x.val, y.val] w (Gives (.bool true) w) := by
  have := requal_any _ x y (Nat.le_refl _) w _ _ hx hy
  rw [h, ME.eqN_self] at this
  exact this
theorem node_of_b9 {w : World} {g : Nat} {ok : Nat → Prop} {od d0 d1 d2 d3 d4 d5 vd : Int} {Ad : Option Addr} {cd : Nat} {kd : FT} (h : B9 w g (.int .i64 od) (.int .i64 d0) (.int .i64 d1) (.int .i64 d2) (.int .i64 d3) (.int .i64 d4) (.int .i64 d5) (.int .i64 vd) (.slice Ad kd.len cd)) (hok : NT.Ok (⟨od, [d0, d1, d2, d3, d4, d5], vd, Ad, cd, kd⟩ : NT) w ok) (hg : ok g) : NodeAt w ok ⟨g, 0, none⟩ (⟨od, [d0, d1, d2, d3, d4, d5], vd, Ad, cd, kd⟩ : NT) := by
  obtain ⟨a0, a1, a2, a3, a4, a5, a6, a7, a8⟩ := h.cells
  refine ⟨hg, h.lt, hok, fun i u hu => ?_⟩
  rw [addr_add, Nat.zero_add]
  match i, hu with
  | 0, hu => rw [← Option.some.inj hu]; exact a0
  | 1, hu => rw [← Option.some.inj hu]; exact a1
  | 2, hu => rw [← Option.some.inj hu]; exact a2
  | 3, hu => rw [← Option.some.inj hu]; exact a3
  | 4, hu => rw [← Option.some.inj hu]; exact a4
  | 5, hu => rw [← Option.some.inj hu]; exact a5
  | 6, hu => rw [← Option.some.inj hu]; exact a6
  | 7, hu => rw [← Option.some.inj hu]; exact a7
  | 8, hu => rw [← Option.some.inj hu]; exact a8
  | n + 9, hu => simp [cellsE] at hu
/-- A row of the call's own as arguments, all of it in rows. -/
theorem own_kids {w : World} {B cp : Nat} {A : Option Addr} {L : List NT} (h : OwnL ntE 26 w B (.slice A L.length cp) L) (hk : ∀ z ∈ L, NT.Rk z w (fun k => B ≤ k)) (ha : ∀ z ∈ L, NT.Al z) :
    Kids w (fun k => B ≤ k ∧ RowAt w k) A cp (FT.of L) ∧ (FT.of L = .nil ∨ ∃ ad, A = some ad ∧ (FT.of L).al ad) := by
  obtain ⟨ho, hf⟩ := h
  rcases ho.2 with ⟨e, h0⟩ | ⟨g, cap, cur, e, h1, h2, h3, h4, h5, h6⟩
  · have e1 := (Value.slice.inj e).2.1
    have hl : L = [] := List.eq_nil_of_length_eq_zero e1
    subst hl
    exact ⟨Kids.nil _ _ _ _, .inl rfl⟩
  · have e3 := (Value.slice.inj e).2.2
    have e1 := (Value.slice.inj e).1
    subst e1 e3
    refine ⟨⟨by rw [FT.of_len]; exact h3, by rw [FT.of_len]; exact (by have h4' := h4; unfold maxLen at h4'; omega), .inr ⟨_, rfl, lay_of L _ fun i x hx => ?_⟩⟩, .inr ⟨_, rfl, al_of L g 0 rfl ha⟩⟩
    rw [addr_add]
    refine ⟨⟨h1, ⟨_, _, h2⟩⟩, (Array.getElem?_eq_some_iff.1 h2).1, hk x (List.mem_of_getElem? hx), fun j u hu => ?_⟩
    rw [addr_add, cell_of_row w g _ _ _ _ h2]
    have hj : j < ntE.sz := by rw [← ntE.len x (hf x (List.mem_of_getElem? hx))]; exact (List.getElem?_eq_some_iff.1 hu).1
    have hall := (El.all_at hf hx hj).trans hu
    have hlt := (List.getElem?_eq_some_iff.1 hall).1
    have hl9 : (ntE.all L).length = L.length * 9 := El.all_length hf
    have e2 := congrArg (fun l => l[i * ntE.sz + j]?) h6
    simp only [List.getElem?_take, hall, Array.getElem?_toList] at e2
    rw [if_pos (by have h := hlt; rw [hl9] at h; exact h)] at e2
    rw [Nat.zero_add]
    exact e2
set_option maxRecDepth 100000 in
set_option maxHeartbeats 16000000 in
theorem exprCopies_walk (x : NT) (w : World) (hx : 2 * x.size ≤ 1048576) (hox : x.Ok w (fun _ => True)) : Calls Try.prog 3 #[x.val] w (Gives (.bool true) w) := by
  have FX := Lib.hid (fun w' (hb : Below w.heap.size w w') => few_any x (by omega) w' _ (hox.below hb))
  have KX := Lib.hid (fun w' (hb : Below w.heap.size w w') => copy_any x (by omega) w' _ (hox.below hb))
  have AX0 := Lib.hid (fun w' (hb : Below w.heap.size w w') => atoms_any x (by omega) w' _ (hox.below hb))
  have XO := Lib.hid (fun w' (hb : Below w.heap.size w w') => hox.below hb)
  have hal : (ME.atomsL x.n.pre).length ≤ 1000000 := Nat.le_trans (atomsL_le x.n.pre) (by rw [ME.Nd.pre_length, NT.size_n]; omega)
  have AW := Lib.hid awake_any
  obtain ⟨i0, hi, hz0, hz1, hz2⟩ := info_parts infoExpr
  obtain ⟨o, b, v, A, c, k⟩ := x
  obtain ⟨x0, x1, x2, x3, x4, x5, rfl⟩ := six hox.six
  rw [NT.val_lit] at FX KX AX0
  rw [NT.val_lit]
  generalize NT.size (⟨o, [x0, x1, x2, x3, x4, x5], v, A, c, k⟩ : NT) = sx at *
  generalize ME.atomsL (NT.n (⟨o, [x0, x1, x2, x3, x4, x5], v, A, c, k⟩ : NT)).pre = R at *
  have HB := Lib.hid (below_new w (.cells #[.int .i64 o, .int .i64 x0, .int .i64 x1, .int .i64 x2, .int .i64 x3, .int .i64 x4, .int .i64 x5, .int .i64 v, .slice A k.len c] 26))
  have X0 : Hid (B9 (w.alloc (.cells #[.int .i64 o, .int .i64 x0, .int .i64 x1, .int .i64 x2, .int .i64 x3, .int .i64 x4, .int .i64 x5, .int .i64 v, .slice A k.len c] 26)) w.heap.size (.int .i64 o) (.int .i64 x0) (.int .i64 x1) (.int .i64 x2) (.int .i64 x3) (.int .i64 x4) (.int .i64 x5) (.int .i64 v) (.slice A k.len c)) := Lib.hid (heap_new _ _)
  clear hox
  obtain ⟨W0, hW0⟩ : ∃ W0, W0 = w.alloc (.cells #[.int .i64 o, .int .i64 x0, .int .i64 x1, .int .i64 x2, .int .i64 x3, .int .i64 x4, .int .i64 x5, .int .i64 v, .slice A k.len c] 26) := ⟨_, rfl⟩
  rw [← hW0] at HB X0
  obtain ⟨a0, a1, a2, a3, a4, a5, a6, a7, a8⟩ := X0.out.cells
  go_enter Try.func3, Try.ntmps3
  go_upto_region 1 with (fail)
  rw [← hW0]
  clear hW0
  go_wp2_with fail
  refine (FX.out _ HB.out).mono ?_
  rintro ev w1 ⟨rfl, hb⟩
  have B1 := Lib.hid (HB.out.trans (hb.mono HB.out.size))
  have X1 := Lib.hid (X0.out.keep hb)
  clear hb X0 HB FX a0 a1 a2 a3 a4 a5 a6 a7 a8
  by_cases h1 : sx ≤ 400
  case neg =>
    rw [decide_eq_false h1]
    clear KX AX0 XO X1
    go_wp2_with fail
    refine (AW.out _).mono ?_
    rintro ev wz ⟨rfl, hb⟩
    have BZ := Lib.hid (B1.out.trans (hb.mono B1.out.size))
    clear hb
    go_wp2
    go_ret
    exact ⟨rfl, BZ.out⟩
  rw [decide_eq_true h1]
  obtain ⟨a0, a1, a2, a3, a4, a5, a6, a7, a8⟩ := X1.out.cells
  go_wp2_with fail
  refine (KX.out _ B1.out).mono ?_
  rintro ev w2 ⟨y, rfl, hyn, hyo, _, hb⟩
  obtain ⟨oc, bc, vc, Ac, cc, kc⟩ := y
  obtain ⟨c0, c1, c2, c3, c4, c5, rfl⟩ := six hyo.six
  have B2 := Lib.hid (B1.out.trans (hb.mono B1.out.size))
  have X2 := Lib.hid (X1.out.keep hb)
  have NE5 := Lib.hid hyn
  have CO2 := Lib.hid (hyo.toOk.any)
  have HB3 := Lib.hid (below_new w2 (.cells #[.int .i64 oc, .int .i64 c0, .int .i64 c1, .int .i64 c2, .int .i64 c3, .int .i64 c4, .int .i64 c5, .int .i64 vc, .slice Ac kc.len cc] 26))
  have C3 : Hid (B9 (w2.alloc (.cells #[.int .i64 oc, .int .i64 c0, .int .i64 c1, .int .i64 c2, .int .i64 c3, .int .i64 c4, .int .i64 c5, .int .i64 vc, .slice Ac kc.len cc] 26)) w2.heap.size (.int .i64 oc) (.int .i64 c0) (.int .i64 c1) (.int .i64 c2) (.int .i64 c3) (.int .i64 c4) (.int .i64 c5) (.int .i64 vc) (.slice Ac kc.len cc)) := Lib.hid (heap_new _ _)
  rw [NT.val_lit]
  clear hb hyn hyo X1 B1 a0 a1 a2 a3 a4 a5 a6 a7 a8
  go_upto_region 4 with (fail)
  obtain ⟨W3, hW3⟩ : ∃ W3, W3 = w2.alloc (.cells #[.int .i64 oc, .int .i64 c0, .int .i64 c1, .int .i64 c2, .int .i64 c3, .int .i64 c4, .int .i64 c5, .int .i64 vc, .slice Ac kc.len cc] 26) := ⟨_, rfl⟩
  rw [← hW3] at HB3 C3 ⊢
  clear hW3
  have B3 := Lib.hid (B2.out.trans (HB3.out.mono B2.out.size))
  have X3 := Lib.hid (X2.out.keep HB3.out)
  have CO3 := Lib.hid (CO2.out.below HB3.out)
  have EQ := Lib.hid (equal_same (⟨oc, [c0, c1, c2, c3, c4, c5], vc, Ac, cc, kc⟩ : NT) (⟨o, [x0, x1, x2, x3, x4, x5], v, A, c, k⟩ : NT) W3 CO3.out (XO.out _ B3.out) NE5.out)
  rw [NT.val_lit, NT.val_lit] at EQ
  generalize w2.heap.size = gc at *
  obtain ⟨a0, a1, a2, a3, a4, a5, a6, a7, a8⟩ := X3.out.cells
  obtain ⟨b0, b1, b2, b3, b4, b5, b6, b7, b8⟩ := C3.out.cells
  clear X2 B2 CO2 HB3
  go_wp2_with fail
  refine EQ.out.mono ?_
  rintro ev W5 ⟨rfl, hb⟩
  have B5 := Lib.hid (B3.out.trans (hb.mono B3.out.size))
  have X5 := Lib.hid (X3.out.keep hb)
  have C5 := Lib.hid (C3.out.keep hb)
  have CO5 := Lib.hid (CO3.out.below hb)
  have XO5 := Lib.hid (XO.out _ B5.out)
  have KC := Lib.hid (fun w' (hb' : Below W5.heap.size W5 w') => KX.out w' (B5.out.trans (hb'.mono B5.out.size)))
  have AX := Lib.hid (fun w' (hb' : Below W5.heap.size W5 w') => AX0.out w' (B5.out.trans (hb'.mono B5.out.size)))
  have HLT : Hid (w.heap.size < W5.heap.size) := Lib.hid X5.out.lt
  have BL := Lib.hid (below_drawn W5)
  have HX := Lib.hid (X5.out.keep (below_drawn W5))
  clear hb EQ X3 B3 C3 CO3 KX AX0 XO a0 a1 a2 a3 a4 a5 a6 a7 a8 b0 b1 b2 b3 b4 b5 b6 b7 b8
  go_upto_region 6 with (fail)
  refine wp_region_held_drew (S := fun w' => B9 w' w.heap.size (.int .i64 o) (.int .i64 x0) (.int .i64 x1) (.int .i64 x2) (.int .i64 x3) (.int .i64 x4) (.int .i64 x5) (.int .i64 v) (.slice A k.len c)) (by kernel_rfl) HX.out (fun hHeld => ?_)
  generalize W5.drew = X at *
  refine wpAnyH_take (i := 0) (oi := { dst := some 17, op := Op.load 26 (Operand.tmp 1), type := 26, pos := "law.go:75", after := #[], guard := none }) (v := ?_) rfl (by kernel_rfl) (by kernel_rfl) (by kernel_rfl) (fun _ _ _ h => h) (Or.inl ⟨by rfl, ?_⟩) (by assumption) ?_
  rotate_left
  · intro w hSw; (try dsimp only at hSw); obtain ⟨a0, a1, a2, a3, a4, a5, a6, a7, a8⟩ := hSw.cells; go_simp; try with_reducible rfl
  (try simp only [Act.put, List.setIfInBounds_toArray, List.set_cons_zero, List.set_cons_succ])
  refine wpAnyH_take (i := 2) (oi := { dst := some 19, op := Op.load 26 (Operand.tmp 1), type := 26, pos := "law.go:75", after := #[], guard := none }) (v := ?_) rfl (by kernel_rfl) (by kernel_rfl) (by kernel_rfl) (fun _ _ _ h => h) (Or.inl ⟨by rfl, ?_⟩) (by assumption) ?_
  rotate_left
  · intro w hSw; (try dsimp only at hSw); obtain ⟨a0, a1, a2, a3, a4, a5, a6, a7, a8⟩ := hSw.cells; go_simp; try with_reducible rfl
  (try simp only [Act.put, List.setIfInBounds_toArray, List.set_cons_zero, List.set_cons_succ])
  refine wpAnyH_ready (rs := [1, 4]) (by kernel_rfl) (by simp) ?_
  refine AllReadyH.cons (o := { dst := some 18, op := Op.call { callee := Callee.value (Operand.func 6), args := #[Operand.tmp 17], argTypes := #[26] }, type := 26, pos := "law.go:75", after := #[{ on := 0, ground := Ground.data }], guard := none }) rfl (fun K hK => ?_) (AllReadyH.cons (o := { dst := some 4, op := Op.alloc 26, type := 0, pos := "law.go:75", after := #[], guard := none }) rfl (fun K hK => ?_) AllReadyH.nil)
  · go_simp
    refine (KC.out _ BL.out).mono ?_
    rintro ev wA ⟨y, rfl, hyn, hyo, hya, hb⟩
    obtain ⟨od, bd, vd, Ad, cd, kd⟩ := y
    obtain ⟨d0, d1, d2, d3, d4, d5, rfl⟩ := six hyo.six
    have HD := Lib.hid (hyo.keep (ok' := fun k => W5.heap.size ≤ k) (fun _ _ _ => rfl) (Nat.le_refl _) (fun k q _ => Nat.le_trans BL.out.size q))
    have HDA := Lib.hid hya
    replace BL := Lib.hid (BL.out.trans (hb.mono BL.out.size))
    replace HX := Lib.hid (HX.out.keep hb)
    rw [NT.val_lit]
    clear hyn hyo hya hb KC
    refine hK.out _ _ ?_ (fun hHeld => ?_)
    · exact HX.out
    clear hK K
    (try simp only [Act.put, List.setIfInBounds_toArray, List.set_cons_zero, List.set_cons_succ])
    refine wpAnyH_ready (rs := [3, 4]) (by kernel_rfl) (by simp) ?_
    refine AllReadyH.cons (o := { dst := some 20, op := Op.call { callee := Callee.value (Operand.func 8), args := #[Operand.tmp 19], argTypes := #[26] }, type := 24, pos := "law.go:75", after := #[{ on := 2, ground := Ground.data }, { on := 1, ground := Ground.chain }], guard := none }) rfl (fun K hK => ?_) (AllReadyH.cons (o := { dst := some 4, op := Op.alloc 26, type := 0, pos := "law.go:75", after := #[], guard := none }) rfl (fun K hK => ?_) AllReadyH.nil)
    · go_simp
      refine (AX.out _ BL.out).mono ?_
      rintro ev wB ⟨va, La, rfl, ha, hna, hoka, hb⟩
      have hla : La.length ≤ 1000000 := by have := congrArg List.length hna; rw [List.length_map] at this; omega
      obtain ⟨Aa, ca, rfl, _, _⟩ := ha.form2 (by omega)
      have HL := Lib.hid (ownL_low ha BL.out.size)
      have HLK := Lib.hid (fun z hz => And.intro ((hoka z hz).1.keep (ok' := fun k => W5.heap.size ≤ k) (fun _ _ _ => rfl) (Nat.le_refl _) (fun k q _ => Nat.le_trans BL.out.size q.1)) (hoka z hz).2)
      replace BL := Lib.hid (BL.out.trans (hb.mono BL.out.size))
      replace HX := Lib.hid (HX.out.keep hb)
      replace HD := Lib.hid (HD.out.below hb)
      clear ha hna hoka hb AX
      refine hK.out _ _ ?_ (fun hHeld => ?_)
      · exact HX.out
      clear hK K
      (try simp only [Act.put, List.setIfInBounds_toArray, List.set_cons_zero, List.set_cons_succ])
      refine wpAnyH_ready (rs := [4]) (by kernel_rfl) (by simp) ?_
      refine AllReadyH.cons (o := { dst := some 4, op := Op.alloc 26, type := 0, pos := "law.go:75", after := #[], guard := none }) rfl (fun K hK => ?_) AllReadyH.nil
      go_simp
      have BLS := Lib.hid BL.out.size
      have hb := below_new wB (.cells #[.int .i64 0, .int .i64 0, .int .i64 0, .int .i64 0, .int .i64 0, .int .i64 0, .int .i64 0, .int .i64 0, .slice none 0 0] 26)
      have HG : Hid (B9 (wB.alloc (.cells #[.int .i64 0, .int .i64 0, .int .i64 0, .int .i64 0, .int .i64 0, .int .i64 0, .int .i64 0, .int .i64 0, .slice none 0 0] 26)) wB.heap.size (.int .i64 0) (.int .i64 0) (.int .i64 0) (.int .i64 0) (.int .i64 0) (.int .i64 0) (.int .i64 0) (.int .i64 0) (.slice none 0 0)) := Lib.hid (heap_new wB (.cells #[.int .i64 0, .int .i64 0, .int .i64 0, .int .i64 0, .int .i64 0, .int .i64 0, .int .i64 0, .int .i64 0, .slice none 0 0] 26))
      replace HD := Lib.hid (HD.out.keep (w' := wB) (ok' := fun k => W5.heap.size ≤ k ∧ k ≠ wB.heap.size) (fun _ _ _ => rfl) (Nat.le_refl _) (fun k q hl => ⟨q, by omega⟩))
      have HNE : Hid (∀ k, (.slice Aa La.length ca : Value).ownBlock = some k → k ≠ wB.heap.size) := Lib.hid (fun k q => by have h1 := (World.ownsRow.lt HL.out.1 k q).2; omega)
      replace HLK := Lib.hid (fun z hz => And.intro ((HLK.out z hz).1.keep (w' := wB) (ok' := fun k => W5.heap.size ≤ k ∧ k ≠ wB.heap.size) (fun _ _ _ => rfl) (Nat.le_refl _) (fun k q hl => ⟨q, by omega⟩)) (HLK.out z hz).2)
      replace BL := Lib.hid (BL.out.trans (hb.mono BL.out.size))
      replace HX := Lib.hid (HX.out.keep hb)
      replace HD := Lib.hid (HD.out.below hb)
      replace HL := Lib.hid (HL.out.keep hb)
      replace HLK := Lib.hid (fun z hz => And.intro ((HLK.out z hz).1.below hb) (HLK.out z hz).2)
      clear hb
      refine hK.out _ _ ?_ (fun hHeld => ?_)
      · exact HX.out
      obtain ⟨w6, hw6⟩ : ∃ w6, w6 = wB.alloc (.cells #[.int .i64 0, .int .i64 0, .int .i64 0, .int .i64 0, .int .i64 0, .int .i64 0, .int .i64 0, .int .i64 0, .slice none 0 0] 26) := ⟨_, rfl⟩
      rw [← hw6] at HG BL HX HD HL HLK ⊢
      clear hw6
      have HGE : Hid (W5.heap.size ≤ wB.heap.size) := BLS
      clear hK K
      (try simp only [Act.put, List.setIfInBounds_toArray, List.set_cons_zero, List.set_cons_succ])
      refine wpAnyH_ready (rs := [5]) (by kernel_rfl) (by simp) ?_
      refine AllReadyH.cons (o := { dst := none, op := Op.store 26 (Operand.tmp 4) (Operand.tmp 18), type := 0, pos := "law.go:75", after := #[{ on := 4, ground := Ground.data }, { on := 1, ground := Ground.data }, { on := 3, ground := Ground.chain }, { on := 0, ground := Ground.phase }, { on := 1, ground := Ground.phase }, { on := 2, ground := Ground.textOnly Departure.lateStores }, { on := 3, ground := Ground.phase }, { on := 4, ground := Ground.phase }], guard := none }) rfl (fun K hK => ?_) AllReadyH.nil
      obtain ⟨a0, a1, a2, a3, a4, a5, a6, a7, a8⟩ := HG.out.cells
      obtain ⟨f0, f1, f2, f3, f4, f5, f6, f7, f8⟩ := HG.out.free
      go_simp
      rw [nest_0]
      obtain ⟨w8, hw8⟩ : ∃ w8, w8 = sets w6 wB.heap.size 0 [.int .i64 od, .int .i64 d0, .int .i64 d1, .int .i64 d2, .int .i64 d3, .int .i64 d4, .int .i64 d5, .int .i64 vd, .slice Ad kd.len cd] := ⟨_, rfl⟩
      rw [← hw8]
      have gs : w6.grownBy w8 (some wB.heap.size) := by rw [hw8]; exact grown_sets _ _
      replace HG : Hid (B9 w8 wB.heap.size (.int .i64 od) (.int .i64 d0) (.int .i64 d1) (.int .i64 d2) (.int .i64 d3) (.int .i64 d4) (.int .i64 d5) (.int .i64 vd) (.slice Ad kd.len cd)) := Lib.hid (by rw [hw8]; exact HG.out.put (.int .i64 od) (.int .i64 d0) (.int .i64 d1) (.int .i64 d2) (.int .i64 d3) (.int .i64 d4) (.int .i64 d5) (.int .i64 vd) (.slice Ad kd.len cd))
      have hgx : wB.heap.size ≠ w.heap.size := by have h1 := HGE.out; have h2 := HLT.out; omega
      replace HX := Lib.hid (HX.out.same (gs.block _ HX.out.lt (fun e => by injection e with e; omega)))
      have HD8 : Hid (NT.Rk (⟨od, [d0, d1, d2, d3, d4, d5], vd, Ad, cd, kd⟩ : NT) w8 (fun k => W5.heap.size ≤ k ∧ k ≠ wB.heap.size)) := Lib.hid (grown_keep gs HD.out (fun k q e => q.2 (Option.some.inj e)) (fun k q _ => q))
      clear HD
      have HD := HD8
      clear HD8
      replace BL := Lib.hid (BL.out.grown gs BL.out.size (fun k e => by have e' := Option.some.inj e; subst e'; exact HGE.out))
      replace HL := Lib.hid (HL.out.turn gs (.inr (fun e => HNE.out _ e rfl)))
      have HLK8 : Hid (∀ z ∈ La, NT.Rk z w8 (fun k => W5.heap.size ≤ k ∧ k ≠ wB.heap.size) ∧ NT.Al z) := Lib.hid (fun z hz => And.intro (grown_keep gs (HLK.out z hz).1 (fun k q e => q.2 (Option.some.inj e)) (fun k q _ => q)) (HLK.out z hz).2)
      clear HLK
      have HLK := HLK8
      clear HLK8
      refine hK.out _ _ ?_ (fun hHeld => ?_)
      · exact HX.out
      clear a0 a1 a2 a3 a4 a5 a6 a7 a8 f0 f1 f2 f3 f4 f5 f6 f7 f8 hw8 gs hgx
      clear hK K
      (try simp only [Act.put, List.setIfInBounds_toArray, List.set_cons_zero, List.set_cons_succ])
      refine wpAnyH_take (i := 6) (oi := { dst := some 5, op := Op.assign (Operand.tmp 20), type := 24, pos := "law.go:75", after := #[{ on := 3, ground := Ground.data }, { on := 5, ground := Ground.chain }, { on := 0, ground := Ground.phase }, { on := 1, ground := Ground.phase }, { on := 2, ground := Ground.phase }, { on := 3, ground := Ground.phase }, { on := 4, ground := Ground.phase }, { on := 5, ground := Ground.phase }], guard := none }) (v := ?_) rfl (by kernel_rfl) (by kernel_rfl) (by kernel_rfl) (fun _ _ _ h => h) (Or.inl ⟨by rfl, ?_⟩) (by assumption) ?_
      rotate_left
      · intro w hSw; (try dsimp only at hSw); obtain ⟨a0, a1, a2, a3, a4, a5, a6, a7, a8⟩ := hSw.cells; go_simp; try with_reducible rfl
      (try simp only [Act.put, List.setIfInBounds_toArray, List.set_cons_zero, List.set_cons_succ])
      refine wpAnyH_done (by kernel_rfl) ?_ _
      clear hHeld HNE
      generalize wB.heap.size = gd at *
      have NA : NodeAt w8 (fun j => W5.heap.size ≤ j ∧ RowAt w8 j) ⟨gd, 0, none⟩ (⟨od, [d0, d1, d2, d3, d4, d5], vd, Ad, cd, kd⟩ : NT) := node_of_b9 HG.out (NT.Ok.keep HD.out (fun _ _ _ => rfl) (Nat.le_refl _) (fun k q _ => ⟨q.1.1, q.2⟩)) ⟨HGE.out, ⟨_, _, HG.out⟩⟩
      have CE := Lib.hid (spoil_any _ (⟨od, [d0, d1, d2, d3, d4, d5], vd, Ad, cd, kd⟩ : NT) ⟨gd, 0, none⟩ w8 (fun j => W5.heap.size ≤ j ∧ RowAt w8 j) (Nat.le_refl _) NA rfl HDA.out (fun j q => q.2))
      obtain ⟨HKD, HAL⟩ := own_kids HL.out (fun z hz => NT.Rk.keep (HLK.out z hz).1 (ok' := fun k => W5.heap.size ≤ k) (fun _ _ _ => rfl) (Nat.le_refl _) (fun k q _ => q.1)) (fun z hz => (HLK.out z hz).2)
      have HK := Lib.hid HKD
      have HA := Lib.hid HAL
      have hle : (FT.of La).len = La.length := FT.of_len La
      have hlf : (La.length : Int) ≤ 9223372036854775807 := by have := HKD.few; rw [hle] at this; omega
      have hcp : La.length ≤ ca := by have := HKD.cap; rw [hle] at this; exact this
      have KEEP : Hid (∀ wr, Sp (fun j => W5.heap.size ≤ j ∧ RowAt w8 j) w8 wr → Below W5.heap.size W5 wr) := Lib.hid (fun wr s => ⟨s.kx.os.trans BL.out.os, s.kx.tape.trans BL.out.tape, s.kx.output.trans BL.out.output, Nat.le_trans BL.out.size s.kx.size, fun k hk => (s.kx.block k (Nat.lt_of_lt_of_le hk BL.out.size) (fun q => by have := q.1; omega)).trans (BL.out.block k hk)⟩)
      have HRW : Hid (∀ j, W5.heap.size ≤ j ∧ RowAt w8 j → RowAt w8 j) := Lib.hid (fun j q => q.2)
      clear NA HKD HAL HLK HL HD HDA HG HX BL HGE
      go_wp2_with fail
      refine CE.out.mono ?_
      rintro ev w10 ⟨rfl, hs⟩
      have HS0 := Lib.hid hs
      clear hs CE
      go_wp2
      go_loopw [24] (fun i wr => ∃ q : Nat, q ≤ La.length ∧ i = .int .i64 q ∧ Hid (Sp (fun j => W5.heap.size ≤ j ∧ RowAt w8 j) w8 wr)) (fun i _ => La.length - (intOf i).toNat)
      case atStart => exact ⟨0, Nat.zero_le _, rfl, HS0⟩
      case round =>
        clear HS0
        obtain ⟨q, hq, rfl, HS⟩ := hrel
        by_cases hlt : q < La.length
        · have hlt' : (q : Int) < (La.length : Int) := by omega
          obtain ⟨ada, rfl, hlay, hal⟩ : ∃ ada, Aa = some ada ∧ Lay w8 (fun j => W5.heap.size ≤ j ∧ RowAt w8 j) ada (FT.of La) ∧ (FT.of La).al ada := by
            rcases HK.out.lay with e | ⟨a1, e, hl⟩
            · rw [e] at hle; simp only [FT.len] at hle; omega
            · rcases HA.out with e2 | ⟨a2, e2, h2⟩
              · rw [e2] at hle; simp only [FT.len] at hle; omega
              · rw [e] at e2; injection e2 with e2; subst e2
                exact ⟨a1, e, hl, h2⟩
          obtain ⟨k', k1, k2, k3, k4⟩ := Lay.spoilt HS.out _ hlay hal
          obtain ⟨y, y1, y2, y3, y4⟩ := Lay.node k' q k1 k2 (by omega)
          have CE := Lib.hid (spoil_any _ y _ wr (fun j => W5.heap.size ≤ j ∧ RowAt w8 j) (Nat.le_refl _) y1 y2 y3 (fun j q => HS.out.row j (HRW.out j q)))
          clear k1 k2 k3 k4 y1 y2 y3 y4 hlay hal
          go_wp2_with fail
          refine CE.out.mono ?_
          rintro ev w11 ⟨rfl, hs⟩
          have HS3 := Lib.hid (HS.out.trans hs)
          clear hs CE HS
          go_wp2
          go_roundw
          case rel => exact ⟨q + 1, by omega, by go_num, HS3⟩
          case measure => simp [intOf]; omega
        · have hlt' : ¬ (q : Int) < (La.length : Int) := by omega
          have BK := Lib.hid (KEEP.out _ HS.out)
          have XB := Lib.hid (X5.out.keep BK.out)
          have CB := Lib.hid (C5.out.keep BK.out)
          have EQ := Lib.hid (equal_same (⟨o, [x0, x1, x2, x3, x4, x5], v, A, c, k⟩ : NT) (⟨oc, [c0, c1, c2, c3, c4, c5], vc, Ac, cc, kc⟩ : NT) wr (XO5.out.below BK.out) (CO5.out.below BK.out) NE5.out.symm)
          have BW := Lib.hid (B5.out.trans (BK.out.mono B5.out.size))
          rw [NT.val_lit, NT.val_lit] at EQ
          clear HS HK HA KEEP HRW BK
          obtain ⟨a0, a1, a2, a3, a4, a5, a6, a7, a8⟩ := XB.out.cells
          obtain ⟨b0, b1, b2, b3, b4, b5, b6, b7, b8⟩ := CB.out.cells
          go_wp2_with fail
          refine EQ.out.mono ?_
          rintro ev w12 ⟨rfl, hb⟩
          have B12 := Lib.hid (BW.out.trans (hb.mono BW.out.size))
          clear hb EQ BW XB CB a0 a1 a2 a3 a4 a5 a6 a7 a8 b0 b1 b2 b3 b4 b5 b6 b7 b8
          go_wp2_with fail
          refine (AW.out _).mono ?_
          rintro ev wz ⟨rfl, hb⟩
          have BZ := Lib.hid (B12.out.trans (hb.mono B12.out.size))
          clear hb
          go_wp2
          go_ret
          exact ⟨rfl, BZ.out⟩
    · go_simp
      have BLS := Lib.hid BL.out.size
      have hb := below_new wA (.cells #[.int .i64 0, .int .i64 0, .int .i64 0, .int .i64 0, .int .i64 0, .int .i64 0, .int .i64 0, .int .i64 0, .slice none 0 0] 26)
      have HG : Hid (B9 (wA.alloc (.cells #[.int .i64 0, .int .i64 0, .int .i64 0, .int .i64 0, .int .i64 0, .int .i64 0, .int .i64 0, .int .i64 0, .slice none 0 0] 26)) wA.heap.size (.int .i64 0) (.int .i64 0) (.int .i64 0) (.int .i64 0) (.int .i64 0) (.int .i64 0) (.int .i64 0) (.int .i64 0) (.slice none 0 0)) := Lib.hid (heap_new wA (.cells #[.int .i64 0, .int .i64 0, .int .i64 0, .int .i64 0, .int .i64 0, .int .i64 0, .int .i64 0, .int .i64 0, .slice none 0 0] 26))
      replace HD := Lib.hid (HD.out.keep (w' := wA) (ok' := fun k => W5.heap.size ≤ k ∧ k ≠ wA.heap.size) (fun _ _ _ => rfl) (Nat.le_refl _) (fun k q hl => ⟨q, by omega⟩))
      replace BL := Lib.hid (BL.out.trans (hb.mono BL.out.size))
      replace HX := Lib.hid (HX.out.keep hb)
      replace HD := Lib.hid (HD.out.below hb)
      clear hb
      refine hK.out _ _ ?_ (fun hHeld => ?_)
      · exact HX.out
      obtain ⟨w6, hw6⟩ : ∃ w6, w6 = wA.alloc (.cells #[.int .i64 0, .int .i64 0, .int .i64 0, .int .i64 0, .int .i64 0, .int .i64 0, .int .i64 0, .int .i64 0, .slice none 0 0] 26) := ⟨_, rfl⟩
      rw [← hw6] at HG BL HX HD ⊢
      clear hw6
      have HGE : Hid (W5.heap.size ≤ wA.heap.size) := BLS
      clear hK K
      (try simp only [Act.put, List.setIfInBounds_toArray, List.set_cons_zero, List.set_cons_succ])
      refine wpAnyH_ready (rs := [3]) (by kernel_rfl) (by simp) ?_
      refine AllReadyH.cons (o := { dst := some 20, op := Op.call { callee := Callee.value (Operand.func 8), args := #[Operand.tmp 19], argTypes := #[26] }, type := 24, pos := "law.go:75", after := #[{ on := 2, ground := Ground.data }, { on := 1, ground := Ground.chain }], guard := none }) rfl (fun K hK => ?_) AllReadyH.nil
      go_simp
      refine (AX.out _ BL.out).mono ?_
      rintro ev wB ⟨va, La, rfl, ha, hna, hoka, hb⟩
      have hla : La.length ≤ 1000000 := by have := congrArg List.length hna; rw [List.length_map] at this; omega
      obtain ⟨Aa, ca, rfl, _, _⟩ := ha.form2 (by omega)
      have HL := Lib.hid (ownL_low ha BL.out.size)
      have HLK := Lib.hid (fun z hz => And.intro ((hoka z hz).1.keep (ok' := fun k => W5.heap.size ≤ k ∧ k ≠ wA.heap.size) (fun _ _ _ => rfl) (Nat.le_refl _) (fun k q _ => ⟨Nat.le_trans BL.out.size q.1, by have := HG.out.lt; omega⟩)) (hoka z hz).2)
      have HNE : Hid (∀ k, (.slice Aa La.length ca : Value).ownBlock = some k → k ≠ wA.heap.size) := Lib.hid (fun k q => by have h1 := (World.ownsRow.lt ha.1 k q).1; have h2 := HG.out.lt; omega)
      replace BL := Lib.hid (BL.out.trans (hb.mono BL.out.size))
      replace HX := Lib.hid (HX.out.keep hb)
      replace HD := Lib.hid (HD.out.below hb)
      replace HG := Lib.hid (HG.out.keep hb)
      clear ha hna hoka hb AX
      refine hK.out _ _ ?_ (fun hHeld => ?_)
      · exact HX.out
      clear hK K
      (try simp only [Act.put, List.setIfInBounds_toArray, List.set_cons_zero, List.set_cons_succ])
      refine wpAnyH_ready (rs := [5]) (by kernel_rfl) (by simp) ?_
      refine AllReadyH.cons (o := { dst := none, op := Op.store 26 (Operand.tmp 4) (Operand.tmp 18), type := 0, pos := "law.go:75", after := #[{ on := 4, ground := Ground.data }, { on := 1, ground := Ground.data }, { on := 3, ground := Ground.chain }, { on := 0, ground := Ground.phase }, { on := 1, ground := Ground.phase }, { on := 2, ground := Ground.textOnly Departure.lateStores }, { on := 3, ground := Ground.phase }, { on := 4, ground := Ground.phase }], guard := none }) rfl (fun K hK => ?_) AllReadyH.nil
      obtain ⟨a0, a1, a2, a3, a4, a5, a6, a7, a8⟩ := HG.out.cells
      obtain ⟨f0, f1, f2, f3, f4, f5, f6, f7, f8⟩ := HG.out.free
      go_simp
      rw [nest_0]
      obtain ⟨w8, hw8⟩ : ∃ w8, w8 = sets wB wA.heap.size 0 [.int .i64 od, .int .i64 d0, .int .i64 d1, .int .i64 d2, .int .i64 d3, .int .i64 d4, .int .i64 d5, .int .i64 vd, .slice Ad kd.len cd] := ⟨_, rfl⟩
      rw [← hw8]
      have gs : wB.grownBy w8 (some wA.heap.size) := by rw [hw8]; exact grown_sets _ _
      replace HG : Hid (B9 w8 wA.heap.size (.int .i64 od) (.int .i64 d0) (.int .i64 d1) (.int .i64 d2) (.int .i64 d3) (.int .i64 d4) (.int .i64 d5) (.int .i64 vd) (.slice Ad kd.len cd)) := Lib.hid (by rw [hw8]; exact HG.out.put (.int .i64 od) (.int .i64 d0) (.int .i64 d1) (.int .i64 d2) (.int .i64 d3) (.int .i64 d4) (.int .i64 d5) (.int .i64 vd) (.slice Ad kd.len cd))
      have hgx : wA.heap.size ≠ w.heap.size := by have h1 := HGE.out; have h2 := HLT.out; omega
      replace HX := Lib.hid (HX.out.same (gs.block _ HX.out.lt (fun e => by injection e with e; omega)))
      have HD8 : Hid (NT.Rk (⟨od, [d0, d1, d2, d3, d4, d5], vd, Ad, cd, kd⟩ : NT) w8 (fun k => W5.heap.size ≤ k ∧ k ≠ wA.heap.size)) := Lib.hid (grown_keep gs HD.out (fun k q e => q.2 (Option.some.inj e)) (fun k q _ => q))
      clear HD
      have HD := HD8
      clear HD8
      replace BL := Lib.hid (BL.out.grown gs BL.out.size (fun k e => by have e' := Option.some.inj e; subst e'; exact HGE.out))
      replace HL := Lib.hid (HL.out.turn gs (.inr (fun e => HNE.out _ e rfl)))
      have HLK8 : Hid (∀ z ∈ La, NT.Rk z w8 (fun k => W5.heap.size ≤ k ∧ k ≠ wA.heap.size) ∧ NT.Al z) := Lib.hid (fun z hz => And.intro (grown_keep gs (HLK.out z hz).1 (fun k q e => q.2 (Option.some.inj e)) (fun k q _ => q)) (HLK.out z hz).2)
      clear HLK
      have HLK := HLK8
      clear HLK8
      refine hK.out _ _ ?_ (fun hHeld => ?_)
      · exact HX.out
      clear a0 a1 a2 a3 a4 a5 a6 a7 a8 f0 f1 f2 f3 f4 f5 f6 f7 f8 hw8 gs hgx
      clear hK K
      (try simp only [Act.put, List.setIfInBounds_toArray, List.set_cons_zero, List.set_cons_succ])
      refine wpAnyH_take (i := 6) (oi := { dst := some 5, op := Op.assign (Operand.tmp 20), type := 24, pos := "law.go:75", after := #[{ on := 3, ground := Ground.data }, { on := 5, ground := Ground.chain }, { on := 0, ground := Ground.phase }, { on := 1, ground := Ground.phase }, { on := 2, ground := Ground.phase }, { on := 3, ground := Ground.phase }, { on := 4, ground := Ground.phase }, { on := 5, ground := Ground.phase }], guard := none }) (v := ?_) rfl (by kernel_rfl) (by kernel_rfl) (by kernel_rfl) (fun _ _ _ h => h) (Or.inl ⟨by rfl, ?_⟩) (by assumption) ?_
      rotate_left
      · intro w hSw; (try dsimp only at hSw); obtain ⟨a0, a1, a2, a3, a4, a5, a6, a7, a8⟩ := hSw.cells; go_simp; try with_reducible rfl
      (try simp only [Act.put, List.setIfInBounds_toArray, List.set_cons_zero, List.set_cons_succ])
      refine wpAnyH_done (by kernel_rfl) ?_ _
      clear hHeld HNE
      generalize wA.heap.size = gd at *
      have NA : NodeAt w8 (fun j => W5.heap.size ≤ j ∧ RowAt w8 j) ⟨gd, 0, none⟩ (⟨od, [d0, d1, d2, d3, d4, d5], vd, Ad, cd, kd⟩ : NT) := node_of_b9 HG.out (NT.Ok.keep HD.out (fun _ _ _ => rfl) (Nat.le_refl _) (fun k q _ => ⟨q.1.1, q.2⟩)) ⟨HGE.out, ⟨_, _, HG.out⟩⟩
      have CE := Lib.hid (spoil_any _ (⟨od, [d0, d1, d2, d3, d4, d5], vd, Ad, cd, kd⟩ : NT) ⟨gd, 0, none⟩ w8 (fun j => W5.heap.size ≤ j ∧ RowAt w8 j) (Nat.le_refl _) NA rfl HDA.out (fun j q => q.2))
      obtain ⟨HKD, HAL⟩ := own_kids HL.out (fun z hz => NT.Rk.keep (HLK.out z hz).1 (ok' := fun k => W5.heap.size ≤ k) (fun _ _ _ => rfl) (Nat.le_refl _) (fun k q _ => q.1)) (fun z hz => (HLK.out z hz).2)
      have HK := Lib.hid HKD
      have HA := Lib.hid HAL
      have hle : (FT.of La).len = La.length := FT.of_len La
      have hlf : (La.length : Int) ≤ 9223372036854775807 := by have := HKD.few; rw [hle] at this; omega
      have hcp : La.length ≤ ca := by have := HKD.cap; rw [hle] at this; exact this
      have KEEP : Hid (∀ wr, Sp (fun j => W5.heap.size ≤ j ∧ RowAt w8 j) w8 wr → Below W5.heap.size W5 wr) := Lib.hid (fun wr s => ⟨s.kx.os.trans BL.out.os, s.kx.tape.trans BL.out.tape, s.kx.output.trans BL.out.output, Nat.le_trans BL.out.size s.kx.size, fun k hk => (s.kx.block k (Nat.lt_of_lt_of_le hk BL.out.size) (fun q => by have := q.1; omega)).trans (BL.out.block k hk)⟩)
      have HRW : Hid (∀ j, W5.heap.size ≤ j ∧ RowAt w8 j → RowAt w8 j) := Lib.hid (fun j q => q.2)
      clear NA HKD HAL HLK HL HD HDA HG HX BL HGE
      go_wp2_with fail
      refine CE.out.mono ?_
      rintro ev w10 ⟨rfl, hs⟩
      have HS0 := Lib.hid hs
      clear hs CE
      go_wp2
      go_loopw [24] (fun i wr => ∃ q : Nat, q ≤ La.length ∧ i = .int .i64 q ∧ Hid (Sp (fun j => W5.heap.size ≤ j ∧ RowAt w8 j) w8 wr)) (fun i _ => La.length - (intOf i).toNat)
      case atStart => exact ⟨0, Nat.zero_le _, rfl, HS0⟩
      case round =>
        clear HS0
        obtain ⟨q, hq, rfl, HS⟩ := hrel
        by_cases hlt : q < La.length
        · have hlt' : (q : Int) < (La.length : Int) := by omega
          obtain ⟨ada, rfl, hlay, hal⟩ : ∃ ada, Aa = some ada ∧ Lay w8 (fun j => W5.heap.size ≤ j ∧ RowAt w8 j) ada (FT.of La) ∧ (FT.of La).al ada := by
            rcases HK.out.lay with e | ⟨a1, e, hl⟩
            · rw [e] at hle; simp only [FT.len] at hle; omega
            · rcases HA.out with e2 | ⟨a2, e2, h2⟩
              · rw [e2] at hle; simp only [FT.len] at hle; omega
              · rw [e] at e2; injection e2 with e2; subst e2
                exact ⟨a1, e, hl, h2⟩
          obtain ⟨k', k1, k2, k3, k4⟩ := Lay.spoilt HS.out _ hlay hal
          obtain ⟨y, y1, y2, y3, y4⟩ := Lay.node k' q k1 k2 (by omega)
          have CE := Lib.hid (spoil_any _ y _ wr (fun j => W5.heap.size ≤ j ∧ RowAt w8 j) (Nat.le_refl _) y1 y2 y3 (fun j q => HS.out.row j (HRW.out j q)))
          clear k1 k2 k3 k4 y1 y2 y3 y4 hlay hal
          go_wp2_with fail
          refine CE.out.mono ?_
          rintro ev w11 ⟨rfl, hs⟩
          have HS3 := Lib.hid (HS.out.trans hs)
          clear hs CE HS
          go_wp2
          go_roundw
          case rel => exact ⟨q + 1, by omega, by go_num, HS3⟩
          case measure => simp [intOf]; omega
        · have hlt' : ¬ (q : Int) < (La.length : Int) := by omega
          have BK := Lib.hid (KEEP.out _ HS.out)
          have XB := Lib.hid (X5.out.keep BK.out)
          have CB := Lib.hid (C5.out.keep BK.out)
          have EQ := Lib.hid (equal_same (⟨o, [x0, x1, x2, x3, x4, x5], v, A, c, k⟩ : NT) (⟨oc, [c0, c1, c2, c3, c4, c5], vc, Ac, cc, kc⟩ : NT) wr (XO5.out.below BK.out) (CO5.out.below BK.out) NE5.out.symm)
          have BW := Lib.hid (B5.out.trans (BK.out.mono B5.out.size))
          rw [NT.val_lit, NT.val_lit] at EQ
          clear HS HK HA KEEP HRW BK
          obtain ⟨a0, a1, a2, a3, a4, a5, a6, a7, a8⟩ := XB.out.cells
          obtain ⟨b0, b1, b2, b3, b4, b5, b6, b7, b8⟩ := CB.out.cells
          go_wp2_with fail
          refine EQ.out.mono ?_
          rintro ev w12 ⟨rfl, hb⟩
          have B12 := Lib.hid (BW.out.trans (hb.mono BW.out.size))
          clear hb EQ BW XB CB a0 a1 a2 a3 a4 a5 a6 a7 a8 b0 b1 b2 b3 b4 b5 b6 b7 b8
          go_wp2_with fail
          refine (AW.out _).mono ?_
          rintro ev wz ⟨rfl, hb⟩
          have BZ := Lib.hid (B12.out.trans (hb.mono B12.out.size))
          clear hb
          go_wp2
          go_ret
          exact ⟨rfl, BZ.out⟩
  · go_simp
    have BLS := Lib.hid BL.out.size
    have hb := below_new X (.cells #[.int .i64 0, .int .i64 0, .int .i64 0, .int .i64 0, .int .i64 0, .int .i64 0, .int .i64 0, .int .i64 0, .slice none 0 0] 26)
    have HG : Hid (B9 (X.alloc (.cells #[.int .i64 0, .int .i64 0, .int .i64 0, .int .i64 0, .int .i64 0, .int .i64 0, .int .i64 0, .int .i64 0, .slice none 0 0] 26)) X.heap.size (.int .i64 0) (.int .i64 0) (.int .i64 0) (.int .i64 0) (.int .i64 0) (.int .i64 0) (.int .i64 0) (.int .i64 0) (.slice none 0 0)) := Lib.hid (heap_new X (.cells #[.int .i64 0, .int .i64 0, .int .i64 0, .int .i64 0, .int .i64 0, .int .i64 0, .int .i64 0, .int .i64 0, .slice none 0 0] 26))
    replace BL := Lib.hid (BL.out.trans (hb.mono BL.out.size))
    replace HX := Lib.hid (HX.out.keep hb)
    clear hb
    refine hK.out _ _ ?_ (fun hHeld => ?_)
    · exact HX.out
    obtain ⟨w6, hw6⟩ : ∃ w6, w6 = X.alloc (.cells #[.int .i64 0, .int .i64 0, .int .i64 0, .int .i64 0, .int .i64 0, .int .i64 0, .int .i64 0, .int .i64 0, .slice none 0 0] 26) := ⟨_, rfl⟩
    rw [← hw6] at HG BL HX ⊢
    clear hw6
    have HGE : Hid (W5.heap.size ≤ X.heap.size) := BLS
    clear hK K
    (try simp only [Act.put, List.setIfInBounds_toArray, List.set_cons_zero, List.set_cons_succ])
    refine wpAnyH_ready (rs := [1]) (by kernel_rfl) (by simp) ?_
    refine AllReadyH.cons (o := { dst := some 18, op := Op.call { callee := Callee.value (Operand.func 6), args := #[Operand.tmp 17], argTypes := #[26] }, type := 26, pos := "law.go:75", after := #[{ on := 0, ground := Ground.data }], guard := none }) rfl (fun K hK => ?_) AllReadyH.nil
    go_simp
    refine (KC.out _ BL.out).mono ?_
    rintro ev wA ⟨y, rfl, hyn, hyo, hya, hb⟩
    obtain ⟨od, bd, vd, Ad, cd, kd⟩ := y
    obtain ⟨d0, d1, d2, d3, d4, d5, rfl⟩ := six hyo.six
    have HD := Lib.hid (hyo.keep (ok' := fun k => W5.heap.size ≤ k ∧ k ≠ X.heap.size) (fun _ _ _ => rfl) (Nat.le_refl _) (fun k q _ => ⟨Nat.le_trans BL.out.size q, by have := HG.out.lt; omega⟩))
    have HDA := Lib.hid hya
    replace BL := Lib.hid (BL.out.trans (hb.mono BL.out.size))
    replace HX := Lib.hid (HX.out.keep hb)
    replace HG := Lib.hid (HG.out.keep hb)
    rw [NT.val_lit]
    clear hyn hyo hya hb KC
    refine hK.out _ _ ?_ (fun hHeld => ?_)
    · exact HX.out
    clear hK K
    (try simp only [Act.put, List.setIfInBounds_toArray, List.set_cons_zero, List.set_cons_succ])
    refine wpAnyH_ready (rs := [3]) (by kernel_rfl) (by simp) ?_
    refine AllReadyH.cons (o := { dst := some 20, op := Op.call { callee := Callee.value (Operand.func 8), args := #[Operand.tmp 19], argTypes := #[26] }, type := 24, pos := "law.go:75", after := #[{ on := 2, ground := Ground.data }, { on := 1, ground := Ground.chain }], guard := none }) rfl (fun K hK => ?_) AllReadyH.nil
    go_simp
    refine (AX.out _ BL.out).mono ?_
    rintro ev wB ⟨va, La, rfl, ha, hna, hoka, hb⟩
    have hla : La.length ≤ 1000000 := by have := congrArg List.length hna; rw [List.length_map] at this; omega
    obtain ⟨Aa, ca, rfl, _, _⟩ := ha.form2 (by omega)
    have HL := Lib.hid (ownL_low ha BL.out.size)
    have HLK := Lib.hid (fun z hz => And.intro ((hoka z hz).1.keep (ok' := fun k => W5.heap.size ≤ k ∧ k ≠ X.heap.size) (fun _ _ _ => rfl) (Nat.le_refl _) (fun k q _ => ⟨Nat.le_trans BL.out.size q.1, by have := HG.out.lt; omega⟩)) (hoka z hz).2)
    have HNE : Hid (∀ k, (.slice Aa La.length ca : Value).ownBlock = some k → k ≠ X.heap.size) := Lib.hid (fun k q => by have h1 := (World.ownsRow.lt ha.1 k q).1; have h2 := HG.out.lt; omega)
    replace BL := Lib.hid (BL.out.trans (hb.mono BL.out.size))
    replace HX := Lib.hid (HX.out.keep hb)
    replace HD := Lib.hid (HD.out.below hb)
    replace HG := Lib.hid (HG.out.keep hb)
    clear ha hna hoka hb AX
    refine hK.out _ _ ?_ (fun hHeld => ?_)
    · exact HX.out
    clear hK K
    (try simp only [Act.put, List.setIfInBounds_toArray, List.set_cons_zero, List.set_cons_succ])
    refine wpAnyH_ready (rs := [5]) (by kernel_rfl) (by simp) ?_
    refine AllReadyH.cons (o := { dst := none, op := Op.store 26 (Operand.tmp 4) (Operand.tmp 18), type := 0, pos := "law.go:75", after := #[{ on := 4, ground := Ground.data }, { on := 1, ground := Ground.data }, { on := 3, ground := Ground.chain }, { on := 0, ground := Ground.phase }, { on := 1, ground := Ground.phase }, { on := 2, ground := Ground.textOnly Departure.lateStores }, { on := 3, ground := Ground.phase }, { on := 4, ground := Ground.phase }], guard := none }) rfl (fun K hK => ?_) AllReadyH.nil
    obtain ⟨a0, a1, a2, a3, a4, a5, a6, a7, a8⟩ := HG.out.cells
    obtain ⟨f0, f1, f2, f3, f4, f5, f6, f7, f8⟩ := HG.out.free
    go_simp
    rw [nest_0]
    obtain ⟨w8, hw8⟩ : ∃ w8, w8 = sets wB X.heap.size 0 [.int .i64 od, .int .i64 d0, .int .i64 d1, .int .i64 d2, .int .i64 d3, .int .i64 d4, .int .i64 d5, .int .i64 vd, .slice Ad kd.len cd] := ⟨_, rfl⟩
    rw [← hw8]
    have gs : wB.grownBy w8 (some X.heap.size) := by rw [hw8]; exact grown_sets _ _
    replace HG : Hid (B9 w8 X.heap.size (.int .i64 od) (.int .i64 d0) (.int .i64 d1) (.int .i64 d2) (.int .i64 d3) (.int .i64 d4) (.int .i64 d5) (.int .i64 vd) (.slice Ad kd.len cd)) := Lib.hid (by rw [hw8]; exact HG.out.put (.int .i64 od) (.int .i64 d0) (.int .i64 d1) (.int .i64 d2) (.int .i64 d3) (.int .i64 d4) (.int .i64 d5) (.int .i64 vd) (.slice Ad kd.len cd))
    have hgx : X.heap.size ≠ w.heap.size := by have h1 := HGE.out; have h2 := HLT.out; omega
    replace HX := Lib.hid (HX.out.same (gs.block _ HX.out.lt (fun e => by injection e with e; omega)))
    have HD8 : Hid (NT.Rk (⟨od, [d0, d1, d2, d3, d4, d5], vd, Ad, cd, kd⟩ : NT) w8 (fun k => W5.heap.size ≤ k ∧ k ≠ X.heap.size)) := Lib.hid (grown_keep gs HD.out (fun k q e => q.2 (Option.some.inj e)) (fun k q _ => q))
    clear HD
    have HD := HD8
    clear HD8
    replace BL := Lib.hid (BL.out.grown gs BL.out.size (fun k e => by have e' := Option.some.inj e; subst e'; exact HGE.out))
    replace HL := Lib.hid (HL.out.turn gs (.inr (fun e => HNE.out _ e rfl)))
    have HLK8 : Hid (∀ z ∈ La, NT.Rk z w8 (fun k => W5.heap.size ≤ k ∧ k ≠ X.heap.size) ∧ NT.Al z) := Lib.hid (fun z hz => And.intro (grown_keep gs (HLK.out z hz).1 (fun k q e => q.2 (Option.some.inj e)) (fun k q _ => q)) (HLK.out z hz).2)
    clear HLK
    have HLK := HLK8
    clear HLK8
    refine hK.out _ _ ?_ (fun hHeld => ?_)
    · exact HX.out
    clear a0 a1 a2 a3 a4 a5 a6 a7 a8 f0 f1 f2 f3 f4 f5 f6 f7 f8 hw8 gs hgx
    clear hK K
    (try simp only [Act.put, List.setIfInBounds_toArray, List.set_cons_zero, List.set_cons_succ])
    refine wpAnyH_take (i := 6) (oi := { dst := some 5, op := Op.assign (Operand.tmp 20), type := 24, pos := "law.go:75", after := #[{ on := 3, ground := Ground.data }, { on := 5, ground := Ground.chain }, { on := 0, ground := Ground.phase }, { on := 1, ground := Ground.phase }, { on := 2, ground := Ground.phase }, { on := 3, ground := Ground.phase }, { on := 4, ground := Ground.phase }, { on := 5, ground := Ground.phase }], guard := none }) (v := ?_) rfl (by kernel_rfl) (by kernel_rfl) (by kernel_rfl) (fun _ _ _ h => h) (Or.inl ⟨by rfl, ?_⟩) (by assumption) ?_
    rotate_left
    · intro w hSw; (try dsimp only at hSw); obtain ⟨a0, a1, a2, a3, a4, a5, a6, a7, a8⟩ := hSw.cells; go_simp; try with_reducible rfl
    (try simp only [Act.put, List.setIfInBounds_toArray, List.set_cons_zero, List.set_cons_succ])
    refine wpAnyH_done (by kernel_rfl) ?_ _
    clear hHeld HNE
    generalize X.heap.size = gd at *
    have NA : NodeAt w8 (fun j => W5.heap.size ≤ j ∧ RowAt w8 j) ⟨gd, 0, none⟩ (⟨od, [d0, d1, d2, d3, d4, d5], vd, Ad, cd, kd⟩ : NT) := node_of_b9 HG.out (NT.Ok.keep HD.out (fun _ _ _ => rfl) (Nat.le_refl _) (fun k q _ => ⟨q.1.1, q.2⟩)) ⟨HGE.out, ⟨_, _, HG.out⟩⟩
    have CE := Lib.hid (spoil_any _ (⟨od, [d0, d1, d2, d3, d4, d5], vd, Ad, cd, kd⟩ : NT) ⟨gd, 0, none⟩ w8 (fun j => W5.heap.size ≤ j ∧ RowAt w8 j) (Nat.le_refl _) NA rfl HDA.out (fun j q => q.2))
    obtain ⟨HKD, HAL⟩ := own_kids HL.out (fun z hz => NT.Rk.keep (HLK.out z hz).1 (ok' := fun k => W5.heap.size ≤ k) (fun _ _ _ => rfl) (Nat.le_refl _) (fun k q _ => q.1)) (fun z hz => (HLK.out z hz).2)
    have HK := Lib.hid HKD
    have HA := Lib.hid HAL
    have hle : (FT.of La).len = La.length := FT.of_len La
    have hlf : (La.length : Int) ≤ 9223372036854775807 := by have := HKD.few; rw [hle] at this; omega
    have hcp : La.length ≤ ca := by have := HKD.cap; rw [hle] at this; exact this
    have KEEP : Hid (∀ wr, Sp (fun j => W5.heap.size ≤ j ∧ RowAt w8 j) w8 wr → Below W5.heap.size W5 wr) := Lib.hid (fun wr s => ⟨s.kx.os.trans BL.out.os, s.kx.tape.trans BL.out.tape, s.kx.output.trans BL.out.output, Nat.le_trans BL.out.size s.kx.size, fun k hk => (s.kx.block k (Nat.lt_of_lt_of_le hk BL.out.size) (fun q => by have := q.1; omega)).trans (BL.out.block k hk)⟩)
    have HRW : Hid (∀ j, W5.heap.size ≤ j ∧ RowAt w8 j → RowAt w8 j) := Lib.hid (fun j q => q.2)
    clear NA HKD HAL HLK HL HD HDA HG HX BL HGE
    go_wp2_with fail
    refine CE.out.mono ?_
    rintro ev w10 ⟨rfl, hs⟩
    have HS0 := Lib.hid hs
    clear hs CE
    go_wp2
    go_loopw [24] (fun i wr => ∃ q : Nat, q ≤ La.length ∧ i = .int .i64 q ∧ Hid (Sp (fun j => W5.heap.size ≤ j ∧ RowAt w8 j) w8 wr)) (fun i _ => La.length - (intOf i).toNat)
    case atStart => exact ⟨0, Nat.zero_le _, rfl, HS0⟩
    case round =>
      clear HS0
      obtain ⟨q, hq, rfl, HS⟩ := hrel
      by_cases hlt : q < La.length
      · have hlt' : (q : Int) < (La.length : Int) := by omega
        obtain ⟨ada, rfl, hlay, hal⟩ : ∃ ada, Aa = some ada ∧ Lay w8 (fun j => W5.heap.size ≤ j ∧ RowAt w8 j) ada (FT.of La) ∧ (FT.of La).al ada := by
          rcases HK.out.lay with e | ⟨a1, e, hl⟩
          · rw [e] at hle; simp only [FT.len] at hle; omega
          · rcases HA.out with e2 | ⟨a2, e2, h2⟩
            · rw [e2] at hle; simp only [FT.len] at hle; omega
            · rw [e] at e2; injection e2 with e2; subst e2
              exact ⟨a1, e, hl, h2⟩
        obtain ⟨k', k1, k2, k3, k4⟩ := Lay.spoilt HS.out _ hlay hal
        obtain ⟨y, y1, y2, y3, y4⟩ := Lay.node k' q k1 k2 (by omega)
        have CE := Lib.hid (spoil_any _ y _ wr (fun j => W5.heap.size ≤ j ∧ RowAt w8 j) (Nat.le_refl _) y1 y2 y3 (fun j q => HS.out.row j (HRW.out j q)))
        clear k1 k2 k3 k4 y1 y2 y3 y4 hlay hal
        go_wp2_with fail
        refine CE.out.mono ?_
        rintro ev w11 ⟨rfl, hs⟩
        have HS3 := Lib.hid (HS.out.trans hs)
        clear hs CE HS
        go_wp2
        go_roundw
        case rel => exact ⟨q + 1, by omega, by go_num, HS3⟩
        case measure => simp [intOf]; omega
      · have hlt' : ¬ (q : Int) < (La.length : Int) := by omega
        have BK := Lib.hid (KEEP.out _ HS.out)
        have XB := Lib.hid (X5.out.keep BK.out)
        have CB := Lib.hid (C5.out.keep BK.out)
        have EQ := Lib.hid (equal_same (⟨o, [x0, x1, x2, x3, x4, x5], v, A, c, k⟩ : NT) (⟨oc, [c0, c1, c2, c3, c4, c5], vc, Ac, cc, kc⟩ : NT) wr (XO5.out.below BK.out) (CO5.out.below BK.out) NE5.out.symm)
        have BW := Lib.hid (B5.out.trans (BK.out.mono B5.out.size))
        rw [NT.val_lit, NT.val_lit] at EQ
        clear HS HK HA KEEP HRW BK
        obtain ⟨a0, a1, a2, a3, a4, a5, a6, a7, a8⟩ := XB.out.cells
        obtain ⟨b0, b1, b2, b3, b4, b5, b6, b7, b8⟩ := CB.out.cells
        go_wp2_with fail
        refine EQ.out.mono ?_
        rintro ev w12 ⟨rfl, hb⟩
        have B12 := Lib.hid (BW.out.trans (hb.mono BW.out.size))
        clear hb EQ BW XB CB a0 a1 a2 a3 a4 a5 a6 a7 a8 b0 b1 b2 b3 b4 b5 b6 b7 b8
        go_wp2_with fail
        refine (AW.out _).mono ?_
        rintro ev wz ⟨rfl, hb⟩
        have BZ := Lib.hid (B12.out.trans (hb.mono B12.out.size))
        clear hb
        go_wp2
        go_ret
        exact ⟨rfl, BZ.out⟩
end Go.Proofs.Ytpemamkhaiiaaaa
