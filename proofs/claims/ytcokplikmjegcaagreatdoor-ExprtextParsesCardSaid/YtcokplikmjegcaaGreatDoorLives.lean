/- The chapter's examples: no claim of its own. -/
import Derived.Test.YtcokplikmjegcaaGreatDoorJW
import Derived.Test.YtcokplikmjegcaaGreatDoorJZ
import Derived.Test.YtcokplikmjegcaaGreatDoorJQ
import Derived.Test.YtcokplikmjegcaaGreatDoorJAA
import Derived.Deep.RegionHeld3
import Derived.BigQuiet
namespace Go.Proofs.YtcokplikmjegcaaGreatDoor
open Go.RowKit
open ME (F Nd)
open MC (Pr)
def tA12 : NT := ⟨1, [1, 0, 0, 0, 0, 0], 5, none, 0, .nil⟩
def tB12 : NT := ⟨1, [0, 1, 0, 0, 0, 0], 7, none, 0, .nil⟩
def tE (g : Nat) : NT := ⟨2, [0, 0, 0, 0, 0, 0], 0, some ⟨g, 0, none⟩, 2, FT.of [tA12, tB12]⟩
theorem tE_n (g : Nat) : (tE g).n = nE := rfl
theorem tE_size (g : Nat) : (tE g).size = 3 := rfl
theorem tE_val (g : Nat) : (tE g).val = .agg #[.int .i64 2, .int .i64 0, .int .i64 0, .int .i64 0, .int .i64 0, .int .i64 0, .int .i64 0, .int .i64 0, .slice (some ⟨g, 0, none⟩) 2 2] := rfl
theorem tE_fmt (g : Nat) : fmtV saleL (tE g).n = .tuple #[.string ⟨#[120, 111, 114, 40, 123, 97, 58, 49, 125, 64, 53, 44, 123, 98, 58, 49, 125, 64, 55, 41]⟩, .int .i64 0] := by
  rw [tE_n]
  unfold fmtV
  rw [ex_fmt]
  rfl
theorem in64_lit {z : Int} (h : 0 ≤ z ∧ z ≤ 100) : In64 z := by unfold In64; omega
theorem tE_ok {w : World} {g : Nat} (h : w.heap[g]? = some (.cells #[.int .i64 1, .int .i64 1, .int .i64 0, .int .i64 0, .int .i64 0, .int .i64 0, .int .i64 0, .int .i64 5, .slice none 0 0, .int .i64 1, .int .i64 0, .int .i64 1, .int .i64 0, .int .i64 0, .int .i64 0, .int .i64 0, .int .i64 7, .slice none 0 0] 27 (0, 0))) : (tE g).Ok w (fun _ => True) := by
  have a6 : Arg w g 2 [tA12, tB12] := ⟨Nat.le_refl _, fun y hy => (by rcases List.mem_cons.1 hy with rfl | hy; rfl; rw [List.mem_singleton.1 hy]; rfl), _, h, rfl, fun j u hu => by rw [← hu]; simp [El.all, ntE, cellsE, tA12, tB12, FT.len]⟩
  have all6 : ∀ z ∈ ([0, 0, 0, 0, 0, 0] : List Int), In64 z := fun z hz => in64_lit (by simp at hz; omega)
  refine ⟨rfl, in64_lit (show (0 : Int) ≤ 2 ∧ (2 : Int) ≤ 100 by decide), in64_lit (show (0 : Int) ≤ 0 ∧ (0 : Int) ≤ 100 by decide), all6, a6.kids rfl (by decide) trivial fun y hy => ?_⟩
  rcases List.mem_cons.1 hy with rfl | hy
  · exact ⟨rfl, in64_lit (by decide), in64_lit (by decide), fun z hz => in64_lit (by simp [tA12] at hz; omega), Kids.nil _ _ _ _⟩
  · rw [List.mem_singleton.1 hy]
    exact ⟨rfl, in64_lit (by decide), in64_lit (by decide), fun z hz => in64_lit (by simp [tB12] at hz; omega), Kids.nil _ _ _ _⟩
set_option maxRecDepth 100000 in
set_option maxHeartbeats 8000000 in
theorem lives12_any (w : World) (ht : Tab w) (hops : Ops w) : Calls Tryz.prog 7 #[] w (Gives (.bool true) w) := by
  have SL := Lib.hid sale_any
  have B1 := below_new w (.cells #[.int .i64 1, .int .i64 1, .int .i64 0, .int .i64 0, .int .i64 0, .int .i64 0, .int .i64 0, .int .i64 5, .slice none 0 0, .int .i64 1, .int .i64 0, .int .i64 1, .int .i64 0, .int .i64 0, .int .i64 0, .int .i64 0, .int .i64 7, .slice none 0 0] 27)
  have hs1 : (w.alloc (.cells #[.int .i64 1, .int .i64 1, .int .i64 0, .int .i64 0, .int .i64 0, .int .i64 0, .int .i64 0, .int .i64 5, .slice none 0 0, .int .i64 1, .int .i64 0, .int .i64 1, .int .i64 0, .int .i64 0, .int .i64 0, .int .i64 0, .int .i64 7, .slice none 0 0] 27)).heap.size = w.heap.size + 1 := by simp
  have B2 := below_new (w.alloc (.cells #[.int .i64 1, .int .i64 1, .int .i64 0, .int .i64 0, .int .i64 0, .int .i64 0, .int .i64 0, .int .i64 5, .slice none 0 0, .int .i64 1, .int .i64 0, .int .i64 1, .int .i64 0, .int .i64 0, .int .i64 0, .int .i64 0, .int .i64 7, .slice none 0 0] 27)) (.cells #[.int .i64 2, .int .i64 0, .int .i64 0, .int .i64 0, .int .i64 0, .int .i64 0, .int .i64 0, .int .i64 0, .slice (some ⟨w.heap.size, 0, none⟩) 2 2] 27)
  have BB0 : Below w.heap.size w ((w.alloc (.cells #[.int .i64 1, .int .i64 1, .int .i64 0, .int .i64 0, .int .i64 0, .int .i64 0, .int .i64 0, .int .i64 5, .slice none 0 0, .int .i64 1, .int .i64 0, .int .i64 1, .int .i64 0, .int .i64 0, .int .i64 0, .int .i64 0, .int .i64 7, .slice none 0 0] 27)).alloc (.cells #[.int .i64 2, .int .i64 0, .int .i64 0, .int .i64 0, .int .i64 0, .int .i64 0, .int .i64 0, .int .i64 0, .slice (some ⟨w.heap.size, 0, none⟩) 2 2] 27)) := B1.trans (B2.mono (by omega))
  have BB := Lib.hid BB0
  have EX : Hid (B9 ((w.alloc (.cells #[.int .i64 1, .int .i64 1, .int .i64 0, .int .i64 0, .int .i64 0, .int .i64 0, .int .i64 0, .int .i64 5, .slice none 0 0, .int .i64 1, .int .i64 0, .int .i64 1, .int .i64 0, .int .i64 0, .int .i64 0, .int .i64 0, .int .i64 7, .slice none 0 0] 27)).alloc (.cells #[.int .i64 2, .int .i64 0, .int .i64 0, .int .i64 0, .int .i64 0, .int .i64 0, .int .i64 0, .int .i64 0, .slice (some ⟨w.heap.size, 0, none⟩) 2 2] 27)) (w.heap.size + 1) (.int .i64 2) (.int .i64 0) (.int .i64 0) (.int .i64 0) (.int .i64 0) (.int .i64 0) (.int .i64 0) (.int .i64 0) (.slice (some ⟨w.heap.size, 0, none⟩) 2 2)) := Lib.hid (by have := heap_new (w.alloc (.cells #[.int .i64 1, .int .i64 1, .int .i64 0, .int .i64 0, .int .i64 0, .int .i64 0, .int .i64 0, .int .i64 5, .slice none 0 0, .int .i64 1, .int .i64 0, .int .i64 1, .int .i64 0, .int .i64 0, .int .i64 0, .int .i64 0, .int .i64 7, .slice none 0 0] 27)) (.cells #[.int .i64 2, .int .i64 0, .int .i64 0, .int .i64 0, .int .i64 0, .int .i64 0, .int .i64 0, .int .i64 0, .slice (some ⟨w.heap.size, 0, none⟩) 2 2] 27); rw [hs1] at this; exact this)
  have TT := Lib.hid (ht.keep BB0)
  have OO := Lib.hid (hops.keep BB0)
  have OE := Lib.hid ((tE_ok (heap_new w (.cells #[.int .i64 1, .int .i64 1, .int .i64 0, .int .i64 0, .int .i64 0, .int .i64 0, .int .i64 0, .int .i64 5, .slice none 0 0, .int .i64 1, .int .i64 0, .int .i64 1, .int .i64 0, .int .i64 0, .int .i64 0, .int .i64 0, .int .i64 7, .slice none 0 0] 27))).below B2)
  clear ht hops B1 B2 hs1 BB0
  go_enter Tryz.func7, Tryz.ntmps7
  go_upto_region 2 with (fail)
  obtain ⟨W0, hW0⟩ : ∃ W0, W0 = (w.alloc (.cells #[.int .i64 1, .int .i64 1, .int .i64 0, .int .i64 0, .int .i64 0, .int .i64 0, .int .i64 0, .int .i64 5, .slice none 0 0, .int .i64 1, .int .i64 0, .int .i64 1, .int .i64 0, .int .i64 0, .int .i64 0, .int .i64 0, .int .i64 7, .slice none 0 0] 27)).alloc (.cells #[.int .i64 2, .int .i64 0, .int .i64 0, .int .i64 0, .int .i64 0, .int .i64 0, .int .i64 0, .int .i64 0, .slice (some ⟨w.heap.size, 0, none⟩) 2 2] 27) := ⟨_, rfl⟩
  rw [← hW0] at BB EX TT OO OE ⊢
  clear hW0
  have EX' := Lib.hid (EX.out.keep (below_drawn W0))
  have TT' := Lib.hid (TT.out.keep (below_drawn W0))
  have OO' := Lib.hid (OO.out.keep (below_drawn W0))
  have BB' := Lib.hid (BB.out.drew)
  have OE' := Lib.hid (OE.out.below (below_drawn W0))
  clear BB EX TT OO OE
  have EX := EX'
  have TT := TT'
  have OO := OO'
  have BB := BB'
  have OE := OE'
  clear EX' TT' OO' BB' OE'
  refine wp_region_held_drew (S := fun w' => w'.heap[w.heap.size + 1]? = some (.cells #[.int .i64 2, .int .i64 0, .int .i64 0, .int .i64 0, .int .i64 0, .int .i64 0, .int .i64 0, .int .i64 0, .slice (some ⟨w.heap.size, 0, none⟩) 2 2] 27 (0, 0))) (by kernel_rfl) EX.out (fun hHeld => ?_)
  refine wpAnyH_take (i := 1) (oi := { dst := some 18, op := Op.load 27 (Operand.tmp 1), type := 27, pos := "law.go:19", after := #[], guard := none }) (v := ?_) rfl (by kernel_rfl) (by kernel_rfl) (by kernel_rfl) (fun _ _ _ h => h) (Or.inl ⟨by rfl, ?_⟩) (by assumption) ?_
  rotate_left
  · intro w hSw; (try dsimp only at hSw); have s0 := B9.cells hSw; obtain ⟨u0, u1, u2, u3, u4, u5, u6, u7, u8⟩ := s0; go_simp; try with_reducible rfl
  (try simp only [Act.put, List.setIfInBounds_toArray, List.set_cons_zero, List.set_cons_succ])
  refine wpAnyH_ready (rs := [0]) (by kernel_rfl) (by simp) ?_
  refine AllReadyH.cons (o := { dst := some 17, op := Op.call { callee := Callee.value (Operand.func 14), args := #[], argTypes := #[] }, type := 22, pos := "law.go:19", after := #[], guard := none }) rfl (fun K hK => ?_) AllReadyH.nil
  go_simp
  refine (SL.out _).mono ?_
  rintro ev w1 ⟨As0, ns0, cs0, rfl, hps, hb⟩
  have HP := Lib.hid hps
  have E1 := Lib.hid (EX.out.keep hb)
  have TT1 := Lib.hid (TT.out.keep hb)
  have OO1 := Lib.hid (OO.out.keep hb)
  have BB1 := Lib.hid (BB.out.trans (hb.mono BB.out.size))
  have O1 := Lib.hid (OE.out.below hb)
  clear hps hb EX TT OO BB OE
  refine hK.out _ _ ?_ (fun hHeld => ?_)
  · exact E1.out
  clear hK K
  (try simp only [Act.put, List.setIfInBounds_toArray, List.set_cons_zero, List.set_cons_succ])
  refine wpAnyH_ready (rs := [2]) (by kernel_rfl) (by simp) ?_
  refine AllReadyH.cons (o := { dst := some 19, op := Op.call { callee := Callee.value (Operand.func 8), args := #[Operand.tmp 17, Operand.tmp 18], argTypes := #[22, 27] }, type := 31, pos := "law.go:19", after := #[{ on := 0, ground := Ground.data }, { on := 1, ground := Ground.data }, { on := 0, ground := Ground.chain }], guard := none }) rfl (fun K hK => ?_) AllReadyH.nil
  go_simp
  have FC := Lib.hid (format12_any As0 ns0 cs0 saleL (tE w.heap.size) (by rw [tE_size]; decide) w1 HP.out O1.out TT1.out OO1.out)
  rw [tE_val, tE_fmt] at FC
  refine FC.out.mono ?_
  rintro ev w2 ⟨rfl, hb⟩
  have EX := Lib.hid (E1.out.keep hb)
  have TT := Lib.hid (TT1.out.keep hb)
  have OO := Lib.hid (OO1.out.keep hb)
  have BB := Lib.hid (BB1.out.trans (hb.mono BB1.out.size))
  have OE := Lib.hid (O1.out.below hb)
  clear hb E1 TT1 OO1 BB1 O1 FC HP
  refine hK.out _ _ ?_ (fun hHeld => ?_)
  · exact EX.out
  clear hK K
  (try simp only [Act.put, List.setIfInBounds_toArray, List.set_cons_zero, List.set_cons_succ])
  refine wpAnyH_take (i := 3) (oi := { dst := some 16, op := Op.move (Operand.tmp 19), type := 31, pos := "law.go:19", after := #[{ on := 2, ground := Ground.data }], guard := none }) (v := ?_) rfl (by kernel_rfl) (by kernel_rfl) (by kernel_rfl) (fun _ _ _ h => h) (Or.inl ⟨by rfl, ?_⟩) (by assumption) ?_
  rotate_left
  · intro w hSw; (try dsimp only at hSw); have s0 := B9.cells hSw; obtain ⟨u0, u1, u2, u3, u4, u5, u6, u7, u8⟩ := s0; go_simp; try with_reducible rfl
  (try simp only [Act.put, List.setIfInBounds_toArray, List.set_cons_zero, List.set_cons_succ])
  refine wpAnyH_take (i := 4) (oi := { dst := some 20, op := Op.extract (Operand.tmp 16) 0, type := 9, pos := "law.go:19", after := #[{ on := 3, ground := Ground.data }], guard := none }) (v := ?_) rfl (by kernel_rfl) (by kernel_rfl) (by kernel_rfl) (fun _ _ _ h => h) (Or.inl ⟨by rfl, ?_⟩) (by assumption) ?_
  rotate_left
  · intro w hSw; (try dsimp only at hSw); have s0 := B9.cells hSw; obtain ⟨u0, u1, u2, u3, u4, u5, u6, u7, u8⟩ := s0; go_simp; try with_reducible rfl
  (try simp only [Act.put, List.setIfInBounds_toArray, List.set_cons_zero, List.set_cons_succ])
  refine wpAnyH_take (i := 5) (oi := { dst := some 21, op := Op.extract (Operand.tmp 16) 1, type := 30, pos := "law.go:19", after := #[{ on := 3, ground := Ground.data }, { on := 6, ground := Ground.gcOnly Departure.lateStores }], guard := none }) (v := ?_) rfl (by kernel_rfl) (by kernel_rfl) (by kernel_rfl) (fun _ _ _ h => h) (Or.inl ⟨by rfl, ?_⟩) (by assumption) ?_
  rotate_left
  · intro w hSw; (try dsimp only at hSw); have s0 := B9.cells hSw; obtain ⟨u0, u1, u2, u3, u4, u5, u6, u7, u8⟩ := s0; go_simp; try with_reducible rfl
  (try simp only [Act.put, List.setIfInBounds_toArray, List.set_cons_zero, List.set_cons_succ])
  refine wpAnyH_take (i := 6) (oi := { dst := some 2, op := Op.assign (Operand.tmp 20), type := 9, pos := "law.go:19", after := #[{ on := 4, ground := Ground.data }, { on := 2, ground := Ground.chain }, { on := 0, ground := Ground.phase }, { on := 1, ground := Ground.phase }, { on := 2, ground := Ground.phase }, { on := 3, ground := Ground.phase }, { on := 4, ground := Ground.phase }, { on := 5, ground := Ground.textOnly Departure.lateStores }], guard := none }) (v := ?_) rfl (by kernel_rfl) (by kernel_rfl) (by kernel_rfl) (fun _ _ _ h => h) (Or.inl ⟨by rfl, ?_⟩) (by assumption) ?_
  rotate_left
  · intro w hSw; (try dsimp only at hSw); have s0 := B9.cells hSw; obtain ⟨u0, u1, u2, u3, u4, u5, u6, u7, u8⟩ := s0; go_simp; try with_reducible rfl
  (try simp only [Act.put, List.setIfInBounds_toArray, List.set_cons_zero, List.set_cons_succ])
  refine wpAnyH_take (i := 7) (oi := { dst := some 3, op := Op.assign (Operand.tmp 21), type := 30, pos := "law.go:19", after := #[{ on := 5, ground := Ground.data }, { on := 6, ground := Ground.chain }, { on := 0, ground := Ground.phase }, { on := 1, ground := Ground.phase }, { on := 2, ground := Ground.phase }, { on := 3, ground := Ground.phase }, { on := 4, ground := Ground.phase }, { on := 5, ground := Ground.phase }, { on := 6, ground := Ground.phase }], guard := none }) (v := ?_) rfl (by kernel_rfl) (by kernel_rfl) (by kernel_rfl) (fun _ _ _ h => h) (Or.inl ⟨by rfl, ?_⟩) (by assumption) ?_
  rotate_left
  · intro w hSw; (try dsimp only at hSw); have s0 := B9.cells hSw; obtain ⟨u0, u1, u2, u3, u4, u5, u6, u7, u8⟩ := s0; go_simp; try with_reducible rfl
  (try simp only [Act.put, List.setIfInBounds_toArray, List.set_cons_zero, List.set_cons_succ])
  refine wpAnyH_done (by kernel_rfl) ?_ _
  clear hHeld
  go_wp2_with fail
  refine (SL.out _).mono ?_
  rintro ev a1 ⟨As1, ns1, cs1, rfl, hps, hb⟩
  have HP := Lib.hid hps
  have E1 := Lib.hid (EX.out.keep hb)
  have TT1 := Lib.hid (TT.out.keep hb)
  have OO1 := Lib.hid (OO.out.keep hb)
  have BB1 := Lib.hid (BB.out.trans (hb.mono BB.out.size))
  have O1 := Lib.hid (OE.out.below hb)
  
  
  clear hps hb EX TT OO BB OE 
  have PC := Lib.hid (parse12_any As1 ns1 cs1 saleL ⟨#[120, 111, 114, 40, 32, 123, 97, 58, 49, 125, 32, 64, 32, 53, 32, 44, 32, 123, 98, 58, 49, 125, 32, 64, 32, 55, 32, 41]⟩ (by decide) a1 HP.out OO1.out)
  go_wp2_with fail
  refine PC.out.mono ?_
  rintro ev b1 ⟨y1, rfl, hyn, hyo, hb⟩
  have hbs := HP.out
  obtain ⟨oy1, by1, vy1, Ay1, cy1, ky1⟩ := y1
  obtain ⟨p10, p11, p12, p13, p14, p15, rfl⟩ := six hyo.six
  have HYN1 := Lib.hid hyn
  rw [NT.val_lit]
  have e1 : (MX.parseE saleL (⟨#[120, 111, 114, 40, 32, 123, 97, 58, 49, 125, 32, 64, 32, 53, 32, 44, 32, 123, 98, 58, 49, 125, 32, 64, 32, 55, 32, 41]⟩ : ByteArray).data.toList).2 = 0 := ex_p1
  rw [e1]
  have BY := below_new b1 (.cells #[.int .i64 oy1, .int .i64 p10, .int .i64 p11, .int .i64 p12, .int .i64 p13, .int .i64 p14, .int .i64 p15, .int .i64 vy1, .slice Ay1 ky1.len cy1] 27)
  have EX := Lib.hid ((E1.out.keep hb).keep BY)
  have TT := Lib.hid ((TT1.out.keep hb).keep BY)
  have OO := Lib.hid ((OO1.out.keep hb).keep BY)
  have B9b := BB1.out.trans (hb.mono BB1.out.size)
  have BB := Lib.hid (B9b.trans (BY.mono B9b.size))
  have OE := Lib.hid ((O1.out.below hb).below BY)
  have YX : Hid (B9 (b1.alloc (.cells #[.int .i64 oy1, .int .i64 p10, .int .i64 p11, .int .i64 p12, .int .i64 p13, .int .i64 p14, .int .i64 p15, .int .i64 vy1, .slice Ay1 ky1.len cy1] 27)) b1.heap.size (.int .i64 oy1) (.int .i64 p10) (.int .i64 p11) (.int .i64 p12) (.int .i64 p13) (.int .i64 p14) (.int .i64 p15) (.int .i64 vy1) (.slice Ay1 ky1.len cy1)) := Lib.hid (heap_new b1 _)
  have YO := Lib.hid ((hyo.keep (ok' := fun _ => True) (fun _ _ _ => rfl) (Nat.le_refl _) (fun _ _ _ => trivial)).below BY)
  clear hyn hyo hb BY B9b E1 TT1 OO1 BB1 O1 PC HP hbs 
  go_upto_region 4 with (fail)
  obtain ⟨W1, hW1⟩ : ∃ W1, W1 = b1.alloc (.cells #[.int .i64 oy1, .int .i64 p10, .int .i64 p11, .int .i64 p12, .int .i64 p13, .int .i64 p14, .int .i64 p15, .int .i64 vy1, .slice Ay1 ky1.len cy1] 27) := ⟨_, rfl⟩
  rw [← hW1] at EX TT OO BB OE YX YO ⊢
  clear hW1
  obtain ⟨gy, hgy⟩ : ∃ gy, gy = b1.heap.size := ⟨_, rfl⟩
  rw [← hgy] at YX ⊢
  clear hgy
  go_wp2_with fail
  refine (SL.out _).mono ?_
  rintro ev a2 ⟨As2, ns2, cs2, rfl, hps, hb⟩
  have HP := Lib.hid hps
  have E1 := Lib.hid (EX.out.keep hb)
  have TT1 := Lib.hid (TT.out.keep hb)
  have OO1 := Lib.hid (OO.out.keep hb)
  have BB1 := Lib.hid (BB.out.trans (hb.mono BB.out.size))
  have O1 := Lib.hid (OE.out.below hb)
  have YX1 := Lib.hid (YX.out.keep hb)
  have YO1 := Lib.hid (YO.out.below hb)
  clear hps hb EX TT OO BB OE YX YO
  have PC := Lib.hid (parse12_any As2 ns2 cs2 saleL ⟨#[123, 99, 58, 49, 125, 64, 53]⟩ (by decide) a2 HP.out OO1.out)
  go_wp2_with fail
  refine PC.out.mono ?_
  rintro ev b2 ⟨y2, rfl, hyn, hyo, hb⟩
  have hbs := HP.out
  obtain ⟨oy2, by2, vy2, Ay2, cy2, ky2⟩ := y2
  obtain ⟨p20, p21, p22, p23, p24, p25, rfl⟩ := six hyo.six
  have HYN2 := Lib.hid hyn
  rw [NT.val_lit]
  have e2 : (MX.parseE saleL (⟨#[123, 99, 58, 49, 125, 64, 53]⟩ : ByteArray).data.toList).2 = 6 := ex_p2
  rw [e2]
  have BY := below_new b2 (.cells #[.int .i64 oy2, .int .i64 p20, .int .i64 p21, .int .i64 p22, .int .i64 p23, .int .i64 p24, .int .i64 p25, .int .i64 vy2, .slice Ay2 ky2.len cy2] 27)
  have EX := Lib.hid ((E1.out.keep hb).keep BY)
  have TT := Lib.hid ((TT1.out.keep hb).keep BY)
  have OO := Lib.hid ((OO1.out.keep hb).keep BY)
  have B9b := BB1.out.trans (hb.mono BB1.out.size)
  have BB := Lib.hid (B9b.trans (BY.mono B9b.size))
  have OE := Lib.hid ((O1.out.below hb).below BY)
  have YX := Lib.hid ((YX1.out.keep hb).keep BY)
  have YO := Lib.hid ((YO1.out.below hb).below BY)
  clear hyn hyo hb BY B9b E1 TT1 OO1 BB1 O1 PC HP hbs YX1 YO1
  go_upto_region 5 with (fail)
  obtain ⟨W2, hW2⟩ : ∃ W2, W2 = b2.alloc (.cells #[.int .i64 oy2, .int .i64 p20, .int .i64 p21, .int .i64 p22, .int .i64 p23, .int .i64 p24, .int .i64 p25, .int .i64 vy2, .slice Ay2 ky2.len cy2] 27) := ⟨_, rfl⟩
  rw [← hW2] at EX TT OO BB OE YX YO ⊢
  clear hW2
  generalize b2.heap.size = gz2 at *
  go_wp2_with fail
  refine (SL.out _).mono ?_
  rintro ev a3 ⟨As3, ns3, cs3, rfl, hps, hb⟩
  have HP := Lib.hid hps
  have E1 := Lib.hid (EX.out.keep hb)
  have TT1 := Lib.hid (TT.out.keep hb)
  have OO1 := Lib.hid (OO.out.keep hb)
  have BB1 := Lib.hid (BB.out.trans (hb.mono BB.out.size))
  have O1 := Lib.hid (OE.out.below hb)
  have YX1 := Lib.hid (YX.out.keep hb)
  have YO1 := Lib.hid (YO.out.below hb)
  clear hps hb EX TT OO BB OE YX YO
  have PC := Lib.hid (parse12_any As3 ns3 cs3 saleL ⟨#[123, 97, 58, 49, 125, 64, 48]⟩ (by decide) a3 HP.out OO1.out)
  go_wp2_with fail
  refine PC.out.mono ?_
  rintro ev b3 ⟨y3, rfl, hyn, hyo, hb⟩
  have hbs := HP.out
  obtain ⟨oy3, by3, vy3, Ay3, cy3, ky3⟩ := y3
  obtain ⟨p30, p31, p32, p33, p34, p35, rfl⟩ := six hyo.six
  have HYN3 := Lib.hid hyn
  rw [NT.val_lit]
  have e3 : (MX.parseE saleL (⟨#[123, 97, 58, 49, 125, 64, 48]⟩ : ByteArray).data.toList).2 = 4 := ex_p3
  rw [e3]
  have BY := below_new b3 (.cells #[.int .i64 oy3, .int .i64 p30, .int .i64 p31, .int .i64 p32, .int .i64 p33, .int .i64 p34, .int .i64 p35, .int .i64 vy3, .slice Ay3 ky3.len cy3] 27)
  have EX := Lib.hid ((E1.out.keep hb).keep BY)
  have TT := Lib.hid ((TT1.out.keep hb).keep BY)
  have OO := Lib.hid ((OO1.out.keep hb).keep BY)
  have B9b := BB1.out.trans (hb.mono BB1.out.size)
  have BB := Lib.hid (B9b.trans (BY.mono B9b.size))
  have OE := Lib.hid ((O1.out.below hb).below BY)
  have YX := Lib.hid ((YX1.out.keep hb).keep BY)
  have YO := Lib.hid ((YO1.out.below hb).below BY)
  clear hyn hyo hb BY B9b E1 TT1 OO1 BB1 O1 PC HP hbs YX1 YO1
  go_upto_region 6 with (fail)
  obtain ⟨W3, hW3⟩ : ∃ W3, W3 = b3.alloc (.cells #[.int .i64 oy3, .int .i64 p30, .int .i64 p31, .int .i64 p32, .int .i64 p33, .int .i64 p34, .int .i64 p35, .int .i64 vy3, .slice Ay3 ky3.len cy3] 27) := ⟨_, rfl⟩
  rw [← hW3] at EX TT OO BB OE YX YO ⊢
  clear hW3
  generalize b3.heap.size = gz3 at *
  have SM := Lib.hid (rsame12_any 3 (tE w.heap.size) ⟨oy1, [p10, p11, p12, p13, p14, p15], vy1, Ay1, cy1, ky1⟩ (by rw [tE_size]; decide) W3 _ _ OE.out YO.out)
  rw [HYN1.out, tE_n, tE_val, NT.val_lit] at SM
  have e9 : ME.eqN nE (MX.parseE saleL (⟨#[120, 111, 114, 40, 32, 123, 97, 58, 49, 125, 32, 64, 32, 53, 32, 44, 32, 123, 98, 58, 49, 125, 32, 64, 32, 55, 32, 41]⟩ : ByteArray).data.toList).1 = true := ex_p1'
  rw [e9] at SM
  obtain ⟨a0, a1, a2, a3, a4, a5, a6, a7, a8⟩ := EX.out.cells
  obtain ⟨d0, d1, d2, d3, d4, d5, d6, d7, d8⟩ := YX.out.cells
  clear EX YX OE YO HYN1 HYN2 HYN3 TT OO SL e1 e2 e3 e9
  go_wp2_with fail
  refine SM.out.mono ?_
  rintro ev w9 ⟨rfl, hb⟩
  have FB := Lib.hid (BB.out.trans (hb.mono BB.out.size))
  clear hb BB SM
  go_wp2
  go_ret
  exact ⟨rfl, FB.out⟩
end Go.Proofs.YtcokplikmjegcaaGreatDoor
