/- DOpt, DWor, DBest, joined: no claim of its own. -/
import Derived.Test.YtjjpfpgjpmedmaaJDA
import Derived.Test.YtjjpfpgjpmedmaaJGH
import Derived.Deep.AppendLies
import Derived.Test.YtjjpfpgjpmedmaaJDB
import Derived.Test.YtjjpfpgjpmedmaaJFA
import Derived.Test.YtjjpfpgjpmedmaaJBA
import Derived.Test.YtjjpfpgjpmedmaaBRound
import Derived.Test.YtjjpfpgjpmedmaaVTable
import Derived.Test.YtjjpfpgjpmedmaaBRows
namespace Go.Proofs.Ytjjpfpgjpmedmaa
open Go.RowKit
attribute [local go_sem] Oper.semAt_some
theorem infoOpt : (Try.prog.info? 81).map (fun i => (i.zero, i.size, i.bytes)) = some (some (.agg #[.int .i64 0, .int .i64 0, .int .i64 0, .int .i64 0, .int .i64 0, .int .i64 0, .int .i64 0]), 7, 56) := by kernel_rfl
theorem bb_far {X Y : World} {b : Nat} {t : TypeId} {xs : List Int} {row : Option Nat} (h : BB X b t xs) (hg : X.grownBy Y row) (hr : ∀ r, row = some r → r ≠ b) : BB Y b t xs := ⟨(hg.block b h.lt (fun e => hr b e.symm rfl)).trans h.1, h.2⟩
/-- The prices' box, and the options so far. -/
structure Op1 (w : World) (p : List Int) (v : Value) (Os : List MD.W7) (X : World) : Prop where
  below : Below w.heap.size w X
  pb : BB X w.heap.size 39 p
  own : OwnL w7E 81 X (w.heap.size + 1) v Os
  hs : w.heap.size + 1 ≤ X.heap.size
theorem Op1.keep {w X Y : World} {p : List Int} {v : Value} {Os : List MD.W7} (h : Op1 w p v Os X) (hb : Below X.heap.size X Y) : Op1 w p v Os Y :=
  ⟨h.below.trans (hb.mono h.below.size), h.pb.keep hb h.pb.lt, h.own.keep hb, Nat.le_trans h.hs hb.size⟩
theorem Op1.app {w X Y : World} {p : List Int} {v v' : Value} {Os : List MD.W7} {o : MD.W7} (h : Op1 w p v Os X) (ho : w7E.fine o) (hown : Y.ownsRow (w.heap.size + 1) 81 7 v' (Os.length + 1) (w7E.all Os ++ w7E.cells o)) (hg : X.grownBy Y v.ownBlock) : Op1 w p v' (Os ++ [o]) Y := by
  have hr := fun k (hk : v.ownBlock = some k) => (World.ownsRow.lt h.own.1 k hk).1
  exact ⟨h.below.grown hg h.below.size (fun k hk => by have := hr k hk; omega), bb_far h.pb hg (fun r q => by have := hr r q; omega), ⟨by rw [El.all_append, El.all_one, List.length_append]; exact hown, h.own.2.snoc ho⟩, Nat.le_trans h.hs hg.size⟩
theorem opt_take {p : List Int} {l : List MD.W7} {k : Nat} {x : MD.W7} (h : l[k]? = some x) : (l.take (k + 1)).map (MD.opt1 p) = (l.take k).map (MD.opt1 p) ++ [MD.opt1 p x] := by
  rw [take_snoc' h, List.map_append]; rfl
set_option maxRecDepth 100000 in
set_option maxHeartbeats 8000000 in
theorem options_any (A : Option Addr) (n c : Nat) (l : List MD.W7) (p0 p1 p2 p3 p4 p5 : Int) (hn : n ≤ 100000) (hok : ∀ x ∈ l, MD.WOk x) (w : World) (hl : Lst w7E w A n c l) : Calls Try.prog 53 #[.slice A n c, .agg #[.int .i64 p0, .int .i64 p1, .int .i64 p2, .int .i64 p3, .int .i64 p4, .int .i64 p5]] w (GivesL w7E (MD.options l [p0, p1, p2, p3, p4, p5]) w) := by
  have hmo : Try.prog.follows .mixedOrders = true := by kernel_rfl
  have HP := Lib.hid (fun w' => valid_any p0 p1 p2 p3 p4 p5 w')
  have nb0 := below_new w (.cells #[.int .i64 p0, .int .i64 p1, .int .i64 p2, .int .i64 p3, .int .i64 p4, .int .i64 p5] 39)
  have P0 := Lib.hid (BB.new w 39 p0 p1 p2 p3 p4 p5)
  have B0 := Lib.hid nb0
  have HL := Lib.hid hl
  have HLN := Lib.hid hl.len
  have HWO := Lib.hid hok
  have hz0 : (w.alloc (.cells #[.int .i64 p0, .int .i64 p1, .int .i64 p2, .int .i64 p3, .int .i64 p4, .int .i64 p5] 39)).heap.size = w.heap.size + 1 := by simp
  clear nb0 hl hok
  obtain ⟨i1, hi1, hy0, hy1, hy2⟩ := info_parts infoOpt
  go_enter Try.func53, Try.ntmps53
  go_upto_region 1 with (fail)
  generalize w.alloc (.cells #[.int .i64 p0, .int .i64 p1, .int .i64 p2, .int .i64 p3, .int .i64 p4, .int .i64 p5] 39) = w1 at *
  obtain ⟨r0, r1, r2, r3, r4, r5⟩ := cells6 P0.out
  cases hpr : MD.prB [p0, p1, p2, p3, p4, p5] with
  | false =>
    rw [hpr] at HP
    have HE := Lib.hid (show MD.options l [p0, p1, p2, p3, p4, p5] = [] from if_neg (by rw [hpr]; exact Bool.false_ne_true))
    go_wp2_with fail
    refine (HP.out _).mono ?_
    rintro ev w2 ⟨rfl, nb⟩
    have B2 := Lib.hid (B0.out.trans (nb.mono B0.out.size))
    clear nb r0 r1 r2 r3 r4 r5 P0 B0
    go_wp2
    go_ret
    exact ⟨none, 0, 0, rfl, by rw [HE.out]; exact Lst.nil _, B2.out⟩
  | true =>
    rw [hpr] at HP
    have HE := Lib.hid (show MD.options l [p0, p1, p2, p3, p4, p5] = l.map (MD.opt1 [p0, p1, p2, p3, p4, p5]) from if_pos hpr)
    have HPR := Lib.hid hpr
    clear hpr
    go_wp2_with fail
    refine (HP.out _).mono ?_
    rintro ev w2 ⟨rfl, nb⟩
    have B2 := Lib.hid (B0.out.trans (nb.mono B0.out.size))
    have P2 := Lib.hid (P0.out.keep nb P0.out.lt)
    have hs2 : w.heap.size + 1 ≤ w2.heap.size := by have := nb.size; omega
    clear nb r0 r1 r2 r3 r4 r5 P0 B0 HP hz0
    go_wp2_with (at_make; refine wpList_make_own _ rfl _ _ 76 rfl (w.heap.size + 1) 81 i1 (.agg #[.int .i64 0, .int .i64 0, .int .i64 0, .int .i64 0, .int .i64 0, .int .i64 0, .int .i64 0]) 7 Try.underlying76 hi1 hy0 hy1 .i64 .i64 _ n rfl rfl rfl ?b2 ?b3 (by omega) ?_)
    case b2 => rw [hy2]; omega
    case b3 => unfold maxLen; omega
    intro w3 hrow hg3
    have S3 := Lib.hid (show Op1 w [p0, p1, p2, p3, p4, p5] (.slice (some ⟨w2.heap.size, 0, none⟩) 0 n) [] w3 from ⟨B2.out.grown hg3 B2.out.size (by simp), bb_far P2.out hg3 (by simp), ⟨hrow, El.Fine.nil _⟩, Nat.le_trans hs2 hg3.size⟩)
    clear hrow hg3 B2 P2
    go_wp2_with fail
    go_loopw [5, 16] (fun v i wr => ∃ k : Nat, k ≤ n ∧ i = .int .i64 k ∧ Op1 w [p0, p1, p2, p3, p4, p5] v ((l.take k).map (MD.opt1 [p0, p1, p2, p3, p4, p5])) wr) (fun _ i _ => n - (intOf i).toNat)
    case atStart => exact ⟨0, Nat.zero_le _, rfl, S3.out⟩
    case round =>
      obtain ⟨k, hk, rfl, hst⟩ := hrel
      have S0 := Lib.hid hst
      clear hst S3
      have hlen : ((l.take k).map (MD.opt1 [p0, p1, p2, p3, p4, p5])).length ≤ k := by rw [List.length_map, List.length_take]; omega
      by_cases hlt : k < n
      · obtain ⟨ad, x, rfl, hrow, hfx, hadl, e0, e1, e2, e3, e4, e5, e6⟩ := w7_at (HL.out.keep S0.out.below) hlt
        have hwo := HWO.out x (List.mem_of_getElem? hrow)
        have HNX0 := Lib.hid (opt_take (p := [p0, p1, p2, p3, p4, p5]) hrow)
        obtain ⟨x0, x1, x2, x3, x4, x5, xv⟩ := x
        dsimp only at e0 e1 e2 e3 e4 e5 e6
        have hC := MD.cst_in HPR.out hwo.1 rfl rfl
        have HC := Lib.hid (fun w' => cost_any p0 p1 p2 p3 p4 p5 x0 x1 x2 x3 x4 x5 w')
        have hfx2 := hfx
        dsimp only [w7E] at hfx2
        have hv := hwo.2
        dsimp only at hv
        obtain ⟨C, hCe⟩ : ∃ C, C = cstB [p0, p1, p2, p3, p4, p5] [x0, x1, x2, x3, x4, x5] 6 := ⟨_, rfl⟩
        have HNX1 := Lib.hid (show (l.take (k + 1)).map (MD.opt1 [p0, p1, p2, p3, p4, p5]) = (l.take k).map (MD.opt1 [p0, p1, p2, p3, p4, p5]) ++ [(⟨x0, x1, x2, x3, x4, x5, xv - C⟩ : MD.W7)] from by rw [HNX0.out, hCe]; rfl)
        have hC' : 0 ≤ C ∧ C ≤ 24000000 := by rw [hCe]; exact hC
        rw [← hCe] at HC
        clear hC hCe HNX0 hwo hrow hfx
        have HOF := Lib.hid (show w7E.fine ⟨x0, x1, x2, x3, x4, x5, xv - C⟩ from by dsimp only [w7E]; omega)
        have HWR := Lib.hid (show IntKind.i64.wrap (xv - C) = xv - C from by first | exact Go.i64_in _ (by omega) | exact IntWalk.i64_in _ (by omega) | (simp only [IntKind.wrap, IntKind.bits, IntKind.signed]; simp; omega))
        have HWS := Lib.hid (show wrap64 (xv - C) = xv - C from by unfold wrap64; omega)
        clear hfx2 hv hC'
        obtain ⟨Rs', hRS⟩ : ∃ R, R = (l.take (k + 1)).map (MD.opt1 [p0, p1, p2, p3, p4, p5]) := ⟨_, rfl⟩
        rw [← hRS] at HNX1
        have HRS := Lib.hid hRS.symm
        have HNX := Lib.hid HNX1.out.symm
        clear hRS HNX1
        generalize (l.take k).map (MD.opt1 [p0, p1, p2, p3, p4, p5]) = Rs at *
        have HVB := Lib.hid (show ∀ r, u5.ownBlock = some r → r ≠ wr.heap.size from fun r q => by have := (World.ownsRow.lt S0.out.own.1 r q).2; omega)
        go_upto_region 7 with (fail)
        have nb := below_new wr (.cells #[.int .i64 x0, .int .i64 x1, .int .i64 x2, .int .i64 x3, .int .i64 x4, .int .i64 x5, .int .i64 xv] 109)
        have WY := Lib.hid ((Blk.new wr #[.int .i64 x0, .int .i64 x1, .int .i64 x2, .int .i64 x3, .int .i64 x4, .int .i64 x5, .int .i64 xv] 109).keep (below_drawn _))
        have SY := Lib.hid ((S0.out.keep nb).keep (below_drawn _))
        have NY := Lib.hid (show wr.heap.size < (wr.alloc (.cells #[.int .i64 x0, .int .i64 x1, .int .i64 x2, .int .i64 x3, .int .i64 x4, .int .i64 x5, .int .i64 xv] 109)).drew.heap.size from WY.out.lt)
        clear nb e0 e1 e2 e3 e4 e5 e6 S0 hadl
        refine wp_region_held_drew (S := fun w' => Blk w' wr.heap.size [.int .i64 x0, .int .i64 x1, .int .i64 x2, .int .i64 x3, .int .i64 x4, .int .i64 x5, .int .i64 xv] 109 ∧ BB w' w.heap.size 39 [p0, p1, p2, p3, p4, p5]) hmo ⟨WY.out, SY.out.pb⟩ (fun hHeld => ?_)
        generalize (wr.alloc (.cells #[.int .i64 x0, .int .i64 x1, .int .i64 x2, .int .i64 x3, .int .i64 x4, .int .i64 x5, .int .i64 xv] 109)).drew = Y at *
        generalize wr.heap.size = Bx at *
        refine wpAnyH_take (i := 0) (oi := { dst := some 20, op := Op.move (Operand.tmp 5), type := 76, pos := "options.go:47", after := #[], guard := none }) (v := ?_) rfl (by kernel_rfl) (by kernel_rfl) (by kernel_rfl) (fun _ _ _ h => h) (Or.inl ⟨by rfl, ?_⟩) (by assumption) ?_
        rotate_left
        · intro w hSw; (try dsimp only at hSw); obtain ⟨hW, hP⟩ := hSw; obtain ⟨r0, r1, r2, r3, r4, r5⟩ := cells6 hP; obtain ⟨g0, g1, g2, g3, g4, g5, g6⟩ := seven hW; go_simp; try with_reducible rfl
        (try simp only [Act.put, List.setIfInBounds_toArray, List.set_cons_zero, List.set_cons_succ])
        refine wpAnyH_take (i := 1) (oi := { dst := some 21, op := Op.fieldAddr 109 (Operand.tmp 7) 0, type := 0, pos := "options.go:47", after := #[], guard := none }) (v := ?_) rfl (by kernel_rfl) (by kernel_rfl) (by kernel_rfl) (fun _ _ _ h => h) (Or.inl ⟨by rfl, ?_⟩) (by assumption) ?_
        rotate_left
        · intro w hSw; (try dsimp only at hSw); obtain ⟨hW, hP⟩ := hSw; obtain ⟨r0, r1, r2, r3, r4, r5⟩ := cells6 hP; obtain ⟨g0, g1, g2, g3, g4, g5, g6⟩ := seven hW; go_simp; try with_reducible rfl
        (try simp only [Act.put, List.setIfInBounds_toArray, List.set_cons_zero, List.set_cons_succ])
        refine wpAnyH_take (i := 2) (oi := { dst := some 22, op := Op.load 24 (Operand.tmp 21), type := 24, pos := "options.go:47", after := #[{ on := 1, ground := Ground.data }], guard := none }) (v := ?_) rfl (by kernel_rfl) (by kernel_rfl) (by kernel_rfl) (fun _ _ _ h => h) (Or.inl ⟨by rfl, ?_⟩) (by assumption) ?_
        rotate_left
        · intro w hSw; (try dsimp only at hSw); obtain ⟨hW, hP⟩ := hSw; obtain ⟨r0, r1, r2, r3, r4, r5⟩ := cells6 hP; obtain ⟨g0, g1, g2, g3, g4, g5, g6⟩ := seven hW; go_simp; try with_reducible rfl
        (try simp only [Act.put, List.setIfInBounds_toArray, List.set_cons_zero, List.set_cons_succ])
        refine wpAnyH_take (i := 3) (oi := { dst := some 23, op := Op.fieldAddr 109 (Operand.tmp 7) 1, type := 0, pos := "options.go:47", after := #[], guard := none }) (v := ?_) rfl (by kernel_rfl) (by kernel_rfl) (by kernel_rfl) (fun _ _ _ h => h) (Or.inl ⟨by rfl, ?_⟩) (by assumption) ?_
        rotate_left
        · intro w hSw; (try dsimp only at hSw); obtain ⟨hW, hP⟩ := hSw; obtain ⟨r0, r1, r2, r3, r4, r5⟩ := cells6 hP; obtain ⟨g0, g1, g2, g3, g4, g5, g6⟩ := seven hW; go_simp; try with_reducible rfl
        (try simp only [Act.put, List.setIfInBounds_toArray, List.set_cons_zero, List.set_cons_succ])
        refine wpAnyH_take (i := 4) (oi := { dst := some 24, op := Op.load 2 (Operand.tmp 23), type := 2, pos := "options.go:47", after := #[{ on := 3, ground := Ground.data }], guard := none }) (v := ?_) rfl (by kernel_rfl) (by kernel_rfl) (by kernel_rfl) (fun _ _ _ h => h) (Or.inl ⟨by rfl, ?_⟩) (by assumption) ?_
        rotate_left
        · intro w hSw; (try dsimp only at hSw); obtain ⟨hW, hP⟩ := hSw; obtain ⟨r0, r1, r2, r3, r4, r5⟩ := cells6 hP; obtain ⟨g0, g1, g2, g3, g4, g5, g6⟩ := seven hW; go_simp; try with_reducible rfl
        (try simp only [Act.put, List.setIfInBounds_toArray, List.set_cons_zero, List.set_cons_succ])
        refine wpAnyH_take (i := 5) (oi := { dst := some 25, op := Op.load 39 (Operand.tmp 3), type := 39, pos := "options.go:47", after := #[], guard := none }) (v := ?_) rfl (by kernel_rfl) (by kernel_rfl) (by kernel_rfl) (fun _ _ _ h => h) (Or.inl ⟨by rfl, ?_⟩) (by assumption) ?_
        rotate_left
        · intro w hSw; (try dsimp only at hSw); obtain ⟨hW, hP⟩ := hSw; obtain ⟨r0, r1, r2, r3, r4, r5⟩ := cells6 hP; obtain ⟨g0, g1, g2, g3, g4, g5, g6⟩ := seven hW; go_simp; try with_reducible rfl
        (try simp only [Act.put, List.setIfInBounds_toArray, List.set_cons_zero, List.set_cons_succ])
        refine wpAnyH_take (i := 6) (oi := { dst := some 26, op := Op.fieldAddr 109 (Operand.tmp 7) 0, type := 0, pos := "options.go:47", after := #[], guard := none }) (v := ?_) rfl (by kernel_rfl) (by kernel_rfl) (by kernel_rfl) (fun _ _ _ h => h) (Or.inl ⟨by rfl, ?_⟩) (by assumption) ?_
        rotate_left
        · intro w hSw; (try dsimp only at hSw); obtain ⟨hW, hP⟩ := hSw; obtain ⟨r0, r1, r2, r3, r4, r5⟩ := cells6 hP; obtain ⟨g0, g1, g2, g3, g4, g5, g6⟩ := seven hW; go_simp; try with_reducible rfl
        (try simp only [Act.put, List.setIfInBounds_toArray, List.set_cons_zero, List.set_cons_succ])
        refine wpAnyH_take (i := 7) (oi := { dst := some 27, op := Op.load 24 (Operand.tmp 26), type := 24, pos := "options.go:47", after := #[{ on := 6, ground := Ground.data }], guard := none }) (v := ?_) rfl (by kernel_rfl) (by kernel_rfl) (by kernel_rfl) (fun _ _ _ h => h) (Or.inl ⟨by rfl, ?_⟩) (by assumption) ?_
        rotate_left
        · intro w hSw; (try dsimp only at hSw); obtain ⟨hW, hP⟩ := hSw; obtain ⟨r0, r1, r2, r3, r4, r5⟩ := cells6 hP; obtain ⟨g0, g1, g2, g3, g4, g5, g6⟩ := seven hW; go_simp; try with_reducible rfl
        (try simp only [Act.put, List.setIfInBounds_toArray, List.set_cons_zero, List.set_cons_succ])
        refine wpAnyH_ready (rs := [8]) (by kernel_rfl) (by simp) ?_
        refine AllReadyH.cons (o := { dst := some 28, op := Op.call { callee := Callee.value (Operand.func 49), args := #[Operand.tmp 25, Operand.tmp 27], argTypes := #[39, 24] }, type := 2, pos := "options.go:47", after := #[{ on := 5, ground := Ground.data }, { on := 7, ground := Ground.data }], guard := none }) rfl (fun K hK => ?_) AllReadyH.nil
        go_simp
        refine (HC.out Y).mono ?_
        rintro ev v1 ⟨rfl, nb⟩
        have S2 := Lib.hid (SY.out.keep nb)
        have W2 := Lib.hid (WY.out.keep nb)
        have N2 := Lib.hid (Nat.lt_of_lt_of_le NY.out nb.size)
        clear nb SY WY NY
        refine hK.out _ _ ?_ (fun hHeld => ?_)
        · exact ⟨W2.out, S2.out.pb⟩
        clear hK K
        (try simp only [Act.put, List.setIfInBounds_toArray, List.set_cons_zero, List.set_cons_succ])
        refine wpAnyH_take (i := 9) (oi := { dst := some 29, op := Op.binOp BinOp.sub 2 (Operand.tmp 24) (Operand.tmp 28) 2, type := 2, pos := "options.go:47", after := #[{ on := 4, ground := Ground.data }, { on := 8, ground := Ground.data }], guard := none }) (v := ?_) rfl (by kernel_rfl) (by kernel_rfl) (by kernel_rfl) (fun _ _ _ h => h) (Or.inl ⟨by rfl, ?_⟩) (by assumption) ?_
        rotate_left
        · intro w hSw; (try dsimp only at hSw); obtain ⟨hW, hP⟩ := hSw; obtain ⟨r0, r1, r2, r3, r4, r5⟩ := cells6 hP; obtain ⟨g0, g1, g2, g3, g4, g5, g6⟩ := seven hW; go_simp; try with_reducible rfl
        (try simp only [Act.put, List.setIfInBounds_toArray, List.set_cons_zero, List.set_cons_succ])
        refine wpAnyH_take (i := 10) (oi := { dst := some 30, op := Op.build 81 #[(0, Operand.tmp 22), (1, Operand.tmp 29)], type := 81, pos := "options.go:47", after := #[{ on := 2, ground := Ground.data }, { on := 9, ground := Ground.data }], guard := none }) (v := ?_) rfl (by kernel_rfl) (by kernel_rfl) (by kernel_rfl) (fun _ _ _ h => h) (Or.inl ⟨by rfl, ?_⟩) (by assumption) ?_
        rotate_left
        · intro w hSw; (try dsimp only at hSw); obtain ⟨hW, hP⟩ := hSw; obtain ⟨r0, r1, r2, r3, r4, r5⟩ := cells6 hP; obtain ⟨g0, g1, g2, g3, g4, g5, g6⟩ := seven hW; go_simp; try with_reducible rfl
        (try simp only [Act.put, List.setIfInBounds_toArray, List.set_cons_zero, List.set_cons_succ])
        refine wpAnyH_ready (rs := [11]) (by kernel_rfl) (by simp) ?_
        refine AllReadyH.cons (o := { dst := some 31, op := Op.buildSlice 76 1 #[(0, Operand.tmp 30)], type := 76, pos := "options.go:47", after := #[{ on := 10, ground := Ground.data }], guard := none }) rfl (fun K hK => ?_) AllReadyH.nil
        try rw [HWR.out]
        try rw [HWS.out]
        go_simp
        have nb := below_new v1 (.cells #[.int .i64 x0, .int .i64 x1, .int .i64 x2, .int .i64 x3, .int .i64 x4, .int .i64 x5, .int .i64 (xv - C)] 81)
        have N6 := Lib.hid (heap_new v1 (.cells #[.int .i64 x0, .int .i64 x1, .int .i64 x2, .int .i64 x3, .int .i64 x4, .int .i64 x5, .int .i64 (xv - C)] 81))
        have S3 := Lib.hid (S2.out.keep nb)
        have W3 := Lib.hid (W2.out.keep nb)
        clear nb S2 W2
        refine hK.out _ _ ?_ (fun hHeld => ?_)
        · exact ⟨W3.out, S3.out.pb⟩
        obtain ⟨w6, hw6⟩ : ∃ w6, w6 = v1.alloc (.cells #[.int .i64 x0, .int .i64 x1, .int .i64 x2, .int .i64 x3, .int .i64 x4, .int .i64 x5, .int .i64 (xv - C)] 81) := ⟨_, rfl⟩
        rw [← hw6] at N6 S3 W3 ⊢
        clear hw6
        clear hK K
        (try simp only [Act.put, List.setIfInBounds_toArray, List.set_cons_zero, List.set_cons_succ])
        refine wpAnyH_ready (rs := [12]) (by kernel_rfl) (by simp) ?_
        refine AllReadyH.cons (o := { dst := some 32, op := Op.call { callee := Callee.builtin Builtin.append, args := #[Operand.tmp 20, Operand.tmp 31], argTypes := #[76, 76] }, type := 76, pos := "options.go:47", after := #[{ on := 0, ground := Ground.data }, { on := 11, ground := Ground.data }, { on := 8, ground := Ground.chain }], guard := none }) rfl (fun K hK => ?_) AllReadyH.nil
        refine step_append_lies _ (by rfl) _ _ _ (by rfl) (w.heap.size + 1) 81 i1 (.agg #[.int .i64 0, .int .i64 0, .int .i64 0, .int .i64 0, .int .i64 0, .int .i64 0, .int .i64 0]) 7 56 Try.underlying76 hi1 hy0 hy1 hy2 rfl (by decide) _ _ _ (by rfl) S3.out.own.1 ⟨v1.heap.size, 0, none⟩ 1 1 [.int .i64 x0, .int .i64 x1, .int .i64 x2, .int .i64 x3, .int .i64 x4, .int .i64 x5, .int .i64 (xv - C)] (by rfl) rfl ?c1 ?c2 (by decide) ?c4 ?c5 ?c6 _ rfl ?_
        case c1 => exact World.news_of_block N6.out
        case c2 => exact w7E.one ⟨x0, x1, x2, x3, x4, x5, xv - C⟩
        case c4 => unfold maxLen; omega
        case c5 => omega
        case c6 => exact S3.out.hs
        intro gg cp w7 hown hgrow hat hlt7
        have W4 := Lib.hid (W3.out.same (hgrow.block _ W3.out.lt (fun q => HVB.out _ q.symm rfl)))
        have S4 := Lib.hid (S3.out.app (o := ⟨x0, x1, x2, x3, x4, x5, xv - C⟩) HOF.out hown hgrow)
        clear hown hgrow hat hlt7 S3 W3 N6
        refine hK.out _ _ ?_ (fun hHeld => ?_)
        · exact ⟨W4.out, S4.out.pb⟩
        clear hK K
        (try simp only [Act.put, List.setIfInBounds_toArray, List.set_cons_zero, List.set_cons_succ])
        refine wpAnyH_take (i := 13) (oi := { dst := some 5, op := Op.assign (Operand.tmp 32), type := 76, pos := "options.go:47", after := #[{ on := 12, ground := Ground.data }, { on := 12, ground := Ground.chain }, { on := 0, ground := Ground.phase }, { on := 1, ground := Ground.phase }, { on := 2, ground := Ground.phase }, { on := 3, ground := Ground.phase }, { on := 4, ground := Ground.phase }, { on := 5, ground := Ground.phase }, { on := 6, ground := Ground.phase }, { on := 7, ground := Ground.phase }, { on := 8, ground := Ground.phase }, { on := 9, ground := Ground.phase }, { on := 10, ground := Ground.phase }, { on := 11, ground := Ground.phase }, { on := 12, ground := Ground.phase }], guard := none }) (v := ?_) rfl (by kernel_rfl) (by kernel_rfl) (by kernel_rfl) (fun _ _ _ h => h) (Or.inl ⟨by rfl, ?_⟩) (by assumption) ?_
        rotate_left
        · intro w hSw; (try dsimp only at hSw); obtain ⟨hW, hP⟩ := hSw; obtain ⟨r0, r1, r2, r3, r4, r5⟩ := cells6 hP; obtain ⟨g0, g1, g2, g3, g4, g5, g6⟩ := seven hW; go_simp; try with_reducible rfl
        (try simp only [Act.put, List.setIfInBounds_toArray, List.set_cons_zero, List.set_cons_succ])
        refine wpAnyH_done (by kernel_rfl) ?_ _
        clear hHeld
        rw [HNX.out] at S4
        go_wp2
        go_roundw
        case rel => exact ⟨k + 1, by omega, by go_num, by rw [HRS.out]; exact S4.out⟩
        case measure => simp [intOf]; omega
      · have hkn : k = l.length := by rw [HLN.out]; omega
        rw [hkn, List.take_length] at S0
        rw [hkn, List.take_length] at hlen
        rw [← HE.out] at S0 hlen
        obtain ⟨A8, c8, hv8, hl8, _⟩ := S0.out.own.form2 (by rw [HLN.out] at hlen; omega)
        have L8 := Lib.hid hl8
        clear hl8 hkn
        subst hv8
        go_wp2
        go_ret
        exact ⟨A8, _, c8, rfl, L8.out, S0.out.below⟩
end Go.Proofs.Ytjjpfpgjpmedmaa
namespace Go.Proofs.Ytjjpfpgjpmedmaa
open Go.RowKit
attribute [local go_sem] Oper.semAt_some
theorem infoWor : (Try.prog.info? 109).map (fun i => (i.zero, i.size, i.bytes)) = some (some (.agg #[.int .i64 0, .int .i64 0, .int .i64 0, .int .i64 0, .int .i64 0, .int .i64 0, .int .i64 0]), 7, 56) := by kernel_rfl
theorem far_box {w : World} {A : Option Addr} {n c b : Nat} {T : TypeId} {v : Value} {l : List MF.Of} (h : Lst ofE w A n c l) (hb : Boxed w b T v) (u : Value) (hv : ∀ z, v ≠ .int .i64 z) : Lst ofE (w.setCell ⟨b, 0, none⟩ u) A n c l := by
  refine ⟨⟨h.reads.1, fun hn => ?_⟩, h.len, h.cap, h.few, h.fine⟩
  obtain ⟨ad, e, h1, h2⟩ := h.reads.2 hn
  have hne : ad.block ≠ b := by
    intro q
    obtain ⟨ad', p, e', _, _, _, e0, _⟩ := of_at h hn
    rw [e] at e'
    injection e' with e'
    subst e'
    have hbx : w.heap[ad.block]? = some (.cells #[v] T (0, 0)) := q ▸ hb
    rw [show ad.add (0 * 8) = ad from by unfold Addr.add; simp] at e0
    simp [World.cell?, hbx] at e0
    exact hv _ (List.mem_singleton.1 (List.mem_of_getElem? e0.2)).symm
  refine ⟨ad, e, by rw [World.size_setCell]; exact h1, fun j u' hu => ?_⟩
  rw [← h2 j u' hu]
  exact cell_same (by rw [block_of_add]; exact Below.heap_setCell w ⟨b, 0, none⟩ u _ hne)
theorem list_le (s : List Int) : (listB s).length ≤ 1024 := by
  unfold listB
  split
  · split
    · rw [MB.row_length]; assumption
    · exact Nat.zero_le _
  · exact Nat.zero_le _
theorem dKpt_grow {Bn b e : Nat} {X Y : World} {row : Option Nat} (h : X.grownBy Y row) (hr : ∀ r, row = some r → e ≤ r) (h1 : Bn < e) (h2 : e ≤ X.heap.size) : Kpt Bn b e X Y :=
  ⟨h.size, h.block Bn (by omega) (fun q => by have := hr _ q.symm; omega), fun k _ hk => h.block k (by omega) (fun q => by have := hr _ q.symm; omega)⟩
theorem dset_grown (X : World) (g k : Nat) (v : Value) : X.grownBy (X.setCell ⟨g, k, none⟩ v) (some g) :=
  ⟨rfl, rfl, rfl, by rw [World.size_setCell]; exact Nat.le_refl _, fun j _ hj => Below.heap_setCell X ⟨g, k, none⟩ v j (fun e => hj (by rw [e]))⟩
/-- The worths so far: their variable in block M (v in it, u its value), their row from e on; what lay below M stays. -/
structure Wn (w2 : World) (M e : Nat) (v u : Value) (Os : List MD.W7) (X : World) : Prop where
  below : Below M w2 X
  wb : Boxed X M 78 v
  own : OwnL w7E 109 X e u Os
  ge : e ≤ X.heap.size
  le : M + 1 ≤ e
  few : Os.length ≤ 1024
section
variable {w2 X Y : World} {M e b : Nat} {v u u' : Value} {Os : List MD.W7} {o : MD.W7}
theorem Wn.row (h : Wn w2 M e v u Os X) (r : Nat) (hr : u.ownBlock = some r) : e ≤ r := (World.ownsRow.lt h.own.1 r hr).1
theorem Wn.keep (h : Wn w2 M e v u Os X) (hb : Below X.heap.size X Y) : Wn w2 M e v u Os Y :=
  ⟨h.below.trans (hb.mono (by have := h.ge; have := h.le; omega)), (hb.block _ h.wb.lt).trans h.wb, h.own.keep hb, Nat.le_trans h.ge hb.size, h.le, h.few⟩
theorem Wn.step (h : Wn w2 M e v u Os X) (hs : Stp b e X Y) (hb : M + 1 ≤ b) : Wn w2 M e v u Os Y := by
  obtain ⟨row, hg, hr⟩ := hs
  have hge := h.ge
  have hle := h.le
  refine ⟨h.below.grown hg (by omega) (fun k q => by have := hr k q; omega), (hg.block _ (by omega) (fun q => by have := hr _ q.symm; omega)).trans h.wb, ⟨World.ownsRow.kept (row := row) h.own.1 hg ?_, h.own.2⟩, Nat.le_trans hge hg.size, hle, h.few⟩
  cases hu : u.ownBlock with
  | none => exact .inl rfl
  | some j => exact .inr fun q => by have h1 := hr j q.symm; have := h.row j hu; omega
theorem Wn.app {gg cp : Nat} (h : Wn w2 M e v u Os X) (hf : w7E.fine o ∧ Os.length + 1 ≤ 1024) (hown : Y.ownsRow e 109 7 (.slice (some ⟨gg, 0, none⟩) (Os.length + 1) cp) (Os.length + 1) (w7E.all Os ++ w7E.cells o)) (hg : X.grownBy Y u.ownBlock) : Wn w2 M e v (.slice (some ⟨gg, 0, none⟩) (Os.length + 1) cp) (Os ++ [o]) Y := by
  have hge := h.ge
  have hle := h.le
  exact ⟨h.below.grown hg (by omega) (fun k q => by have := h.row k q; omega), (hg.block _ (by omega) (fun q => by have := h.row _ q.symm; omega)).trans h.wb, ⟨by rw [El.all_append, El.all_one, List.length_append]; exact hown, h.own.2.snoc hf.1⟩, Nat.le_trans hge hg.size, hle, by rw [List.length_append]; exact hf.2⟩
theorem Wn.box (h : Wn w2 M e v u Os X) : Wn w2 M e u u Os (X.setCell ⟨M, 0, none⟩ u) := by
  have hge := h.ge
  have hle := h.le
  refine ⟨h.below.setCell (p := ⟨M, 0, none⟩) (Nat.le_refl _) _, h.wb.set _, ⟨World.ownsRow.kept (row := some M) h.own.1 (dset_grown X M 0 u) ?_, h.own.2⟩, by rw [World.size_setCell]; exact hge, hle, h.few⟩
  cases hu : u.ownBlock with
  | none => exact .inl rfl
  | some j => exact .inr fun q => by injection q with q; have := h.row j hu; omega
end
theorem Wn.rebase {w2 X : World} {M e e' : Nat} (h : Wn w2 M e (.slice none 0 0) (.slice none 0 0) [] X) (h1 : M + 1 ≤ e') (h2 : e' ≤ X.heap.size) : Wn w2 M e' (.slice none 0 0) (.slice none 0 0) [] X :=
  ⟨h.below, h.wb, OwnL.nil _ _ _, h2, h1, h.few⟩
def wrs (L : List MF.Of) (bs : List (List Int)) : List MD.W7 := bs.map fun b => MD.w7 b (MD.val L b)
theorem wor_res {w : World} (tmps : Array Value) (v : Value) (h4 : tmps.getD 4 undef = v) : (results Try.f54 tmps).run Try.prog w = .ok v w := by
  have h4' : tmps[4]?.getD undef = v := by simpa using h4
  simp [results, Try.results54, h4', go_sem]
theorem wor_yes {tmps : Array Value} {w0 w : World} {D1 n c : Nat} {A : Option Addr} {l : List MD.W7} (h4 : tmps.getD 4 undef = .slice A n c) (h10 : w0.heap.size ≤ D1)
    (d1 : w.heap[D1]? = some (.deferred (some []))) (hl : Lst w7E w A n c l) (hA : ∀ ad, A = some ad → ad.block ≠ D1) (hb : Below w0.heap.size w0 w) :
    bodyPostM Fence.wide 5 Try.prog Try.f54 (GivesL w7E l w0) .ret { tmps, defers := [{ target := .collected D1, args := #[] }] } w := by
  refine ⟨by simp, .inl ⟨_, _, rfl, run_takeDeferred d1, ?_⟩⟩
  refine ⟨_, wor_res tmps _ h4, A, n, c, rfl, ⟨⟨hl.reads.1, fun hn => ?_⟩, hl.len, hl.cap, hl.few, hl.fine⟩, ?_⟩
  · obtain ⟨ad, e, h1, h2⟩ := hl.reads.2 hn
    refine ⟨ad, e, by simpa using h1, fun j u hu => ?_⟩
    rw [← h2 j u hu]
    exact cell_same (by rw [block_of_add]; exact World.putObj_heap_other (hA ad e))
  · refine hb.trans ⟨rfl, rfl, rfl, by simp, fun k hk => ?_⟩
    rw [World.putObj_heap_other (by omega)]
set_option maxRecDepth 100000 in
set_option maxHeartbeats 8000000 in
theorem worths_any (A : Option Addr) (n c : Nat) (L : List MF.Of) (q0 q1 q2 q3 q4 q5 : Int) (hn : n ≤ 100000) (w : World) (hL : Lst ofE w A n c L) :
    Calls Try.prog 54 #[.slice A n c, .agg #[.int .i64 q0, .int .i64 q1, .int .i64 q2, .int .i64 q3, .int .i64 q4, .int .i64 q5]] w (GivesL w7E (MD.worths L [q0, q1, q2, q3, q4, q5]) w) := by
  have HIt := Lib.hid (fun Bn w h => all_iter q0 q1 q2 q3 q4 q5 Bn w h)
  have HLE := Lib.hid (list_le [q0, q1, q2, q3, q4, q5])
  have HIN := Lib.hid (MD.list_in (s := [q0, q1, q2, q3, q4, q5]) rfl)
  have HW : Hid (MD.worths L [q0, q1, q2, q3, q4, q5] = wrs L (listB [q0, q1, q2, q3, q4, q5])) := Lib.hid rfl
  obtain ⟨i1, hi1, hy0, hy1, hy2⟩ := info_parts infoWor
  have B0 := Lib.hid (below_two w (.cells #[.slice A n c] 22) (.cells #[.int .i64 q0, .int .i64 q1, .int .i64 q2, .int .i64 q3, .int .i64 q4, .int .i64 q5] 24))
  have T0 := Lib.hid (show Boxed ((w.alloc (.cells #[.slice A n c] 22)).alloc (.cells #[.int .i64 q0, .int .i64 q1, .int .i64 q2, .int .i64 q3, .int .i64 q4, .int .i64 q5] 24)) w.heap.size 22 (.slice A n c) from ((below_new (w.alloc (.cells #[.slice A n c] 22)) (.cells #[.int .i64 q0, .int .i64 q1, .int .i64 q2, .int .i64 q3, .int .i64 q4, .int .i64 q5] 24)).block w.heap.size (by simp)).trans (heap_new w _))
  have S0 := Lib.hid (show BB ((w.alloc (.cells #[.slice A n c] 22)).alloc (.cells #[.int .i64 q0, .int .i64 q1, .int .i64 q2, .int .i64 q3, .int .i64 q4, .int .i64 q5] 24)) (w.heap.size + 1) 24 [q0, q1, q2, q3, q4, q5] from by
    have := BB.new (w.alloc (.cells #[.slice A n c] 22)) 24 q0 q1 q2 q3 q4 q5
    rwa [World.size_alloc] at this)
  have HC := Lib.hid (fun w' (h : Lst ofE w' A n c L) => counting_any A n c L hn w' h)
  have L0 := Lib.hid (hL.keep B0.out)
  have hs0 : ((w.alloc (.cells #[.slice A n c] 22)).alloc (.cells #[.int .i64 q0, .int .i64 q1, .int .i64 q2, .int .i64 q3, .int .i64 q4, .int .i64 q5] 24)).heap.size = w.heap.size + 2 := by simp
  clear hL
  refine (callsIn_wide (n := 5)).1 ?_
  refine callsIn_of_wp_marks Try.func54 rfl trivial ?_ rfl
  simp only [Try.ntmps54, List.size_toArray, List.length_cons, List.length_nil, Nat.reduceAdd, Nat.reduceSub, Array.replicate_succ, Array.replicate_zero, List.push_toArray, List.append_toArray, List.nil_append, List.cons_append]
  refine wpIn_wide.2 ?_
  go_upto_region 1 with (fail)
  generalize (w.alloc (.cells #[.slice A n c] 22)).alloc (.cells #[.int .i64 q0, .int .i64 q1, .int .i64 q2, .int .i64 q3, .int .i64 q4, .int .i64 q5] 24) = w1 at *
  have d0 := T0.out.cell
  go_wp2_with fail
  refine (HC.out _ L0.out).mono ?_
  rintro ev w2 ⟨A1, n1, c1, rfl, hl1, nb⟩
  have T1 := Lib.hid (show Boxed w2 w.heap.size 22 (.slice A n c) from (nb.block _ T0.out.lt).trans T0.out)
  have S1 := Lib.hid (S0.out.keep nb S0.out.lt)
  have B1 := Lib.hid (B0.out.trans (nb.mono B0.out.size))
  have hs1 : w.heap.size + 2 ≤ w2.heap.size := by have := nb.size; omega
  have L1 := Lib.hid hl1
  clear nb hl1 T0 S0 B0 HC L0 hs0
  have L2 := Lib.hid (far_box L1.out T1.out (.slice A1 n1 c1) (fun z q => by cases q))
  have T2 := Lib.hid (T1.out.set (.slice A1 n1 c1))
  have S2 := Lib.hid (S1.out.other (B' := w.heap.size) (k := 0) (.slice A1 n1 c1) (by omega))
  have B2 := Lib.hid (B1.out.setCell (p := ⟨w.heap.size, 0, none⟩) (Nat.le_refl _) (.slice A1 n1 c1))
  have hs2 : w.heap.size + 2 ≤ (w2.setCell ⟨w.heap.size, 0, none⟩ (.slice A1 n1 c1)).heap.size := by rw [World.size_setCell]; exact hs1
  have d0 := T1.out.cell
  have f0 := T1.out.frozen
  go_upto_region 2 with (fail)
  generalize w2.setCell ⟨w.heap.size, 0, none⟩ (.slice A1 n1 c1) = w3 at *
  clear d0 f0 T1 S1 B1 L1 hs1
  go_upto_region 3 with (fail)
  have nb3 := below_new w3 (.cells #[.slice none 0 0] 78)
  have M4 := Lib.hid (show Wn w3 w3.heap.size (w3.heap.size + 1) (.slice none 0 0) (.slice none 0 0) [] (w3.alloc (.cells #[.slice none 0 0] 78)) from ⟨nb3, Boxed.new w3 _ _, OwnL.nil _ _ _, by simp, Nat.le_refl _, Nat.zero_le _⟩)
  have S4 := Lib.hid (S2.out.keep nb3 S2.out.lt)
  have hs4 : (w3.alloc (.cells #[.slice none 0 0] 78)).heap.size = w3.heap.size + 1 := by simp
  clear nb3
  generalize w3.alloc (.cells #[.slice none 0 0] 78) = w9 at *
  obtain ⟨r0, r1, r2, r3, r4, r5⟩ := cells6 S4.out
  go_wp2_with fail
  refine (all_any q0 q1 q2 q3 q4 q5 w9).mono ?_
  rintro ev w10 ⟨rfl, hw10⟩
  have nb := below_new w9 (.cells #[.int .i64 q0, .int .i64 q1, .int .i64 q2, .int .i64 q3, .int .i64 q4, .int .i64 q5] 24)
  have B10 := Lib.hid (BB.new w9 24 q0 q1 q2 q3 q4 q5)
  have hs10 : w10.heap.size = w9.heap.size + 1 := by rw [hw10]; simp
  rw [← hw10] at nb B10
  rw [hs4] at B10
  have M10 := Lib.hid (M4.out.keep nb)
  obtain ⟨M, hM⟩ : ∃ M, M = w3.heap.size := ⟨_, rfl⟩
  rw [← hM] at M10 B10
  have hle10 : w10.heap.size = M + 2 := by omega
  have hwM : w.heap.size + 2 ≤ M := by omega
  have HT := Lib.hid (fun X (h : Below M w3 X) => (h.block _ (by omega)).trans T2.out)
  have HLX := Lib.hid (fun X (h : Below M w3 X) => L2.out.keep (hM ▸ h))
  have HBX := Lib.hid (fun X (h : Below M w3 X) => B2.out.trans (h.mono (by omega)))
  rw [hs4, ← hM]
  clear r0 r1 r2 r3 r4 r5 nb hw10 M4 S4 hs10 hs4 hM
  go_wp2_with fail
  generalize hrs : listB [q0, q1, q2, q3, q4, q5] = rs at *
  refine (wpIn_wide (n := 5)).1 (range_one 11 6 (gf := 95) (lb := #[.pointer (some ⟨M + 1, 0, none⟩)]) (encs := fun x => #[aggB x]) (xs := rs) (Bn := M + 1) rfl (enters_of Try.func95 (by kernel_rfl) rfl)
    (HIt.out (M + 1) w10 B10.out) (by omega) (fun _ => rfl)
    (fun e pre X => ∃ v, Wn w3 M e v v (wrs L pre) X)
    (fun _ _ _ _ => False)
    ?hI ?hIx ?h0 ?assign ?body ?done ?stop)
  case hI =>
    rintro e pre X Y he heX ⟨v, hm⟩ hs
    exact ⟨v, hm.step hs (by omega)⟩
  case hIx => exact fun _ _ _ _ _ _ _ h _ => h
  case h0 =>
    intro e X he heX hb
    exact ⟨_, (M10.out.keep hb).rebase (by omega) heX⟩
  case assign =>
    rintro l e pre x X he heX ⟨v, hm⟩ hpre
    have hx6 : x.length = 6 := (HIN.out x (hpre.subset (by simp))).1.1.len
    obtain ⟨x0, x1, x2, x3, x4, x5, rfl⟩ := six hx6
    clear hpre hx6
    simp only [aggB_lit, List.setIfInBounds_toArray, List.set_cons_zero, List.set_cons_succ]
    have hT := Lib.hid hm
    clear hm
    gi_wp2
    exact ⟨Kpt.alloc X _ (by omega) heX, ⟨v, hT.out.keep (below_new X _)⟩, X.heap.size, heX, BB.new X _ _ _ _ _ _ _, rfl⟩
  case body =>
    rintro l e pre x Bx X he heX ⟨vl, hm⟩ hpre hBx hbx
    have hxin := HIN.out x (hpre.subset (by simp))
    have hpl := hpre.length_le
    rw [List.length_append, List.length_singleton] at hpl
    obtain ⟨x0, x1, x2, x3, x4, x5, rfl⟩ := six hxin.1.1.len
    have hvi := MD.val_in L [x0, x1, x2, x3, x4, x5]
    have HV := Lib.hid (fun X' (h : Below M w3 X') => show Calls Try.prog _ _ X' (Gives (.int .i64 (MD.val L [x0, x1, x2, x3, x4, x5])) X') from fval_any (MD.cntL L) A1 n1 c1 x0 x1 x2 x3 x4 x5 X' (HLX.out X' h))
    have HNX := Lib.hid (show wrs L pre ++ [(⟨x0, x1, x2, x3, x4, x5, MD.val L [x0, x1, x2, x3, x4, x5]⟩ : MD.W7)] = wrs L (pre ++ [[x0, x1, x2, x3, x4, x5]]) from by unfold wrs; rw [List.map_append]; rfl)
    have hwl : (wrs L pre).length = pre.length := by unfold wrs; rw [List.length_map]
    have HOF0 : w7E.fine ⟨x0, x1, x2, x3, x4, x5, MD.val L [x0, x1, x2, x3, x4, x5]⟩ := by
      have g0 : 0 ≤ x0 ∧ x0 ≤ 4 := okB_at hxin.2 (k := 0) (by show _ < 6; decide)
      have g1 : 0 ≤ x1 ∧ x1 ≤ 4 := okB_at hxin.2 (k := 1) (by show _ < 6; decide)
      have g2 : 0 ≤ x2 ∧ x2 ≤ 4 := okB_at hxin.2 (k := 2) (by show _ < 6; decide)
      have g3 : 0 ≤ x3 ∧ x3 ≤ 4 := okB_at hxin.2 (k := 3) (by show _ < 6; decide)
      have g4 : 0 ≤ x4 ∧ x4 ≤ 4 := okB_at hxin.2 (k := 4) (by show _ < 6; decide)
      have g5 : 0 ≤ x5 ∧ x5 ≤ 4 := okB_at hxin.2 (k := 5) (by show _ < 6; decide)
      dsimp only [w7E]
      omega
    have HOF := Lib.hid (show w7E.fine ⟨x0, x1, x2, x3, x4, x5, MD.val L [x0, x1, x2, x3, x4, x5]⟩ ∧ (wrs L pre).length + 1 ≤ 1024 from ⟨HOF0, by have := HLE.out; omega⟩)
    have hwf : (wrs L pre).length + 1 ≤ 1024 := HOF.out.2
    clear hvi hwl HOF0 hpl hxin hpre
    generalize MD.val L [x0, x1, x2, x3, x4, x5] = V at *
    generalize wrs L pre = Os at *
    have hmo : Try.prog.follows .mixedOrders = true := by kernel_rfl
    have MY := Lib.hid (hm.keep (below_drawn X))
    have XY := Lib.hid (hbx.keep (below_drawn X) hbx.lt)
    have KY := Lib.hid (Kpt.below (Bn := M + 1) (b := w10.heap.size) (e := e) (below_drawn X) (by omega) heX)
    clear hm hbx
    gi_wp2_with fail
    refine region_held_L_in (S := fun w' => Boxed w' M 78 vl ∧ BB w' Bx 24 [x0, x1, x2, x3, x4, x5] ∧ Boxed w' w.heap.size 22 (.slice A1 n1 c1)) 8 hmo (by kernel_rfl) ?_ ⟨MY.out.wb, XY.out, HT.out _ MY.out.below⟩ (fun hHeld => ?_)
    · rintro ⟨_, _, h⟩; exact h
    generalize X.drew = Y at *
    refine wpAnyL_take (i := 0) (oi := { dst := some 12, op := Op.load 78 (Operand.tmp 5), type := 78, pos := "options.go:24", after := #[], guard := none }) (v := ?_) rfl (by kernel_rfl) (by kernel_rfl) (by kernel_rfl) (fun _ _ _ h => h) (Or.inl ⟨by rfl, ?_⟩) (by assumption) ?_
    rotate_left
    · intro w hSw; (try dsimp only at hSw); obtain ⟨hl, hB, ht⟩ := hSw; have d0 := hl.cell; have d1 := ht.cell; obtain ⟨r0, r1, r2, r3, r4, r5⟩ := cells6 hB; go_simp; try with_reducible rfl
    (try simp only [Act.put, List.setIfInBounds_toArray, List.set_cons_zero, List.set_cons_succ])
    refine wpAnyL_take (i := 1) (oi := { dst := some 13, op := Op.load 24 (Operand.tmp 6), type := 24, pos := "options.go:24", after := #[], guard := none }) (v := ?_) rfl (by kernel_rfl) (by kernel_rfl) (by kernel_rfl) (fun _ _ _ h => h) (Or.inl ⟨by rfl, ?_⟩) (by assumption) ?_
    rotate_left
    · intro w hSw; (try dsimp only at hSw); obtain ⟨hl, hB, ht⟩ := hSw; have d0 := hl.cell; have d1 := ht.cell; obtain ⟨r0, r1, r2, r3, r4, r5⟩ := cells6 hB; go_simp; try with_reducible rfl
    (try simp only [Act.put, List.setIfInBounds_toArray, List.set_cons_zero, List.set_cons_succ])
    refine wpAnyL_take (i := 2) (oi := { dst := some 14, op := Op.load 22 (Operand.tmp 2), type := 22, pos := "options.go:24", after := #[], guard := none }) (v := ?_) rfl (by kernel_rfl) (by kernel_rfl) (by kernel_rfl) (fun _ _ _ h => h) (Or.inl ⟨by rfl, ?_⟩) (by assumption) ?_
    rotate_left
    · intro w hSw; (try dsimp only at hSw); obtain ⟨hl, hB, ht⟩ := hSw; have d0 := hl.cell; have d1 := ht.cell; obtain ⟨r0, r1, r2, r3, r4, r5⟩ := cells6 hB; go_simp; try with_reducible rfl
    (try simp only [Act.put, List.setIfInBounds_toArray, List.set_cons_zero, List.set_cons_succ])
    refine wpAnyL_take (i := 3) (oi := { dst := some 15, op := Op.load 24 (Operand.tmp 6), type := 24, pos := "options.go:24", after := #[], guard := none }) (v := ?_) rfl (by kernel_rfl) (by kernel_rfl) (by kernel_rfl) (fun _ _ _ h => h) (Or.inl ⟨by rfl, ?_⟩) (by assumption) ?_
    rotate_left
    · intro w hSw; (try dsimp only at hSw); obtain ⟨hl, hB, ht⟩ := hSw; have d0 := hl.cell; have d1 := ht.cell; obtain ⟨r0, r1, r2, r3, r4, r5⟩ := cells6 hB; go_simp; try with_reducible rfl
    (try simp only [Act.put, List.setIfInBounds_toArray, List.set_cons_zero, List.set_cons_succ])
    refine wpAnyL_ready (rs := [4]) (by kernel_rfl) (by simp) ?_
    refine AllReadyL.cons (o := { dst := some 16, op := Op.call { callee := Callee.value (Operand.func 15), args := #[Operand.tmp 14, Operand.tmp 15], argTypes := #[22, 24] }, type := 2, pos := "options.go:24", after := #[{ on := 2, ground := Ground.data }, { on := 3, ground := Ground.data }], guard := none }) rfl (fun K hK => ?_) AllReadyL.nil
    go_simp
    refine (HV.out Y MY.out.below).mono ?_
    rintro ev v1 ⟨rfl, nb⟩
    have M2 := Lib.hid (MY.out.keep nb)
    have X2 := Lib.hid (XY.out.keep nb XY.out.lt)
    have K2 := Lib.hid (KY.out.trans (Kpt.below nb (by have := MY.out.ge; omega) (by have := MY.out.ge; omega)))
    clear nb MY XY KY
    refine hK.out _ _ ?_ (fun hHeld => ?_)
    · exact ⟨M2.out.wb, X2.out, HT.out _ M2.out.below⟩
    clear hK K
    (try simp only [Act.put, List.setIfInBounds_toArray, List.set_cons_zero, List.set_cons_succ])
    refine wpAnyL_take (i := 5) (oi := { dst := some 17, op := Op.build 109 #[(0, Operand.tmp 13), (1, Operand.tmp 16)], type := 109, pos := "options.go:24", after := #[{ on := 1, ground := Ground.data }, { on := 4, ground := Ground.data }], guard := none }) (v := ?_) rfl (by kernel_rfl) (by kernel_rfl) (by kernel_rfl) (fun _ _ _ h => h) (Or.inl ⟨by rfl, ?_⟩) (by assumption) ?_
    rotate_left
    · intro w hSw; (try dsimp only at hSw); obtain ⟨hl, hB, ht⟩ := hSw; have d0 := hl.cell; have d1 := ht.cell; obtain ⟨r0, r1, r2, r3, r4, r5⟩ := cells6 hB; go_simp; try with_reducible rfl
    (try simp only [Act.put, List.setIfInBounds_toArray, List.set_cons_zero, List.set_cons_succ])
    refine wpAnyL_ready (rs := [6]) (by kernel_rfl) (by simp) ?_
    refine AllReadyL.cons (o := { dst := some 18, op := Op.buildSlice 78 1 #[(0, Operand.tmp 17)], type := 78, pos := "options.go:24", after := #[{ on := 5, ground := Ground.data }], guard := none }) rfl (fun K hK => ?_) AllReadyL.nil
    go_simp
    have nb := below_new v1 (.cells #[.int .i64 x0, .int .i64 x1, .int .i64 x2, .int .i64 x3, .int .i64 x4, .int .i64 x5, .int .i64 V] 109)
    have N6 := Lib.hid (heap_new v1 (.cells #[.int .i64 x0, .int .i64 x1, .int .i64 x2, .int .i64 x3, .int .i64 x4, .int .i64 x5, .int .i64 V] 109))
    have M3 := Lib.hid (M2.out.keep nb)
    have X3 := Lib.hid (X2.out.keep nb X2.out.lt)
    have K3 := Lib.hid (K2.out.trans (Kpt.below nb (by have := M2.out.ge; omega) (by have := M2.out.ge; omega)))
    clear nb M2 X2 K2
    refine hK.out _ _ ?_ (fun hHeld => ?_)
    · exact ⟨M3.out.wb, X3.out, HT.out _ M3.out.below⟩
    obtain ⟨w6, hw6⟩ : ∃ w6, w6 = v1.alloc (.cells #[.int .i64 x0, .int .i64 x1, .int .i64 x2, .int .i64 x3, .int .i64 x4, .int .i64 x5, .int .i64 V] 109) := ⟨_, rfl⟩
    rw [← hw6] at N6 M3 X3 K3 ⊢
    clear hw6
    clear hK K
    (try simp only [Act.put, List.setIfInBounds_toArray, List.set_cons_zero, List.set_cons_succ])
    refine wpAnyL_ready (rs := [7]) (by kernel_rfl) (by simp) ?_
    refine AllReadyL.cons (o := { dst := some 19, op := Op.call { callee := Callee.builtin Builtin.append, args := #[Operand.tmp 12, Operand.tmp 18], argTypes := #[78, 78] }, type := 78, pos := "options.go:24", after := #[{ on := 0, ground := Ground.data }, { on := 6, ground := Ground.data }, { on := 4, ground := Ground.chain }], guard := none }) rfl (fun K hK => ?_) AllReadyL.nil
    refine step_append_lies _ (by rfl) _ _ _ (by rfl) e 109 i1 (.agg #[.int .i64 0, .int .i64 0, .int .i64 0, .int .i64 0, .int .i64 0, .int .i64 0, .int .i64 0]) 7 56 Try.underlying78 hi1 hy0 hy1 hy2 rfl (by decide) _ _ _ (by rfl) M3.out.own.1 ⟨v1.heap.size, 0, none⟩ 1 1 [.int .i64 x0, .int .i64 x1, .int .i64 x2, .int .i64 x3, .int .i64 x4, .int .i64 x5, .int .i64 V] (by rfl) rfl ?c1 ?c2 (by decide) ?c4 ?c5 ?c6 _ rfl ?_
    case c1 => exact World.news_of_block N6.out
    case c2 => exact w7E.one ⟨x0, x1, x2, x3, x4, x5, V⟩
    case c4 => unfold maxLen; omega
    case c5 => omega
    case c6 => have := M3.out.ge; omega
    intro gg cp w7 hown hgrow hat hlt7
    have M4 := Lib.hid (M3.out.app (o := ⟨x0, x1, x2, x3, x4, x5, V⟩) HOF.out hown hgrow)
    have K4 := Lib.hid (K3.out.trans (dKpt_grow hgrow (fun r hr => M3.out.row r hr) (by omega) (by have := M3.out.ge; omega)))
    have X4 := Lib.hid (bb_far X3.out hgrow (fun r hr q => by subst q; rcases M3.out.own.ne X3.out.1 (by decide) with g | g; (rw [hr] at g; cases g); exact g hr))
    clear hown hgrow hat hlt7 M3 X3 K3 N6
    refine hK.out _ _ ?_ (fun hHeld => ?_)
    · exact ⟨M4.out.wb, X4.out, HT.out _ M4.out.below⟩
    clear hK K
    (try simp only [Act.put, List.setIfInBounds_toArray, List.set_cons_zero, List.set_cons_succ])
    refine wpAnyL_ready (rs := [8]) (by kernel_rfl) (by simp) ?_
    refine AllReadyL.last (o := { dst := none, op := Op.store 78 (Operand.tmp 5) (Operand.tmp 19), type := 0, pos := "options.go:24", after := #[{ on := 7, ground := Ground.data }, { on := 7, ground := Ground.chain }, { on := 0, ground := Ground.phase }, { on := 1, ground := Ground.phase }, { on := 2, ground := Ground.phase }, { on := 3, ground := Ground.phase }, { on := 4, ground := Ground.phase }, { on := 5, ground := Ground.phase }, { on := 6, ground := Ground.phase }, { on := 7, ground := Ground.phase }], guard := none }) rfl (fun K hK => ?_)
    have cb := M4.out.wb.cell
    have fb := M4.out.wb.frozen
    go_simp
    have M5 := Lib.hid M4.out.box
    have K5 := Lib.hid (K4.out.trans (Kpt.setCell _ 0 (.slice (some ⟨gg, 0, none⟩) (Os.length + 1) cp) (by omega) (.inl (by omega) : M < w10.heap.size ∨ e ≤ M)))
    clear M4 K4 X4 cb fb
    refine hK.out _ _ trivial (fun _ => ?_)
    clear hK K
    (try simp only [Act.put, List.setIfInBounds_toArray, List.set_cons_zero, List.set_cons_succ])
    refine wpAnyL_done (by kernel_rfl) ?_ _
    gi_wp2
    exact ⟨K5.out, _, by rw [← HNX.out]; exact M5.out⟩
  case done =>
    rintro e2 Z he2 heZ ⟨v, hm⟩ hD
    dsimp only
    have hwl : (wrs L rs).length = rs.length := by unfold wrs; rw [List.length_map]
    obtain ⟨A', c', rfl, hl, hA⟩ := hm.own.form2 (by have := HLE.out; omega)
    have cb := hm.wb.cell
    have hT := Lib.hid hm
    have HD := Lib.hid hD
    have HLL := Lib.hid hl
    have HA := Lib.hid hA
    clear hm hD hl hA hwl
    go_wp2
    rw [HW.out]
    exact wor_yes (D1 := w10.heap.size) rfl (by omega) HD.out HLL.out (fun ad had => by have := HA.out ad had; omega) (HBX.out _ hT.out.below)
  case stop => exact fun _ _ _ _ _ _ _ h _ => h.elim
end Go.Proofs.Ytjjpfpgjpmedmaa
namespace Go.Proofs.Ytjjpfpgjpmedmaa
open Go.RowKit
attribute [local go_sem] Oper.semAt_some
theorem wor_few {w : World} {A : Option Addr} {n c : Nat} {L : List MF.Of} {s : List Int} (h : Lst w7E w A n c (MD.worths L s)) : n ≤ 100000 := by
  rw [← h.len]
  unfold MD.worths
  rw [List.length_map]
  have := list_le s
  omega
theorem wor_ok {L : List MF.Of} {s : List Int} (hs : s.length = 6) : ∀ x ∈ MD.worths L s, MD.WOk x := by
  intro x hx
  obtain ⟨b, hb, rfl⟩ := List.mem_map.1 hx
  have h1 := MD.list_in hs b hb
  refine ⟨by rw [MD.w7_want h1.1.1.len]; exact h1.2, ?_⟩
  exact MD.val_in L b
theorem opt_le (L : List MF.Of) (s p : List Int) : (MD.options (MD.worths L s) p).length ≤ 1024 := by
  unfold MD.options
  split
  · rw [List.length_map]
    unfold MD.worths
    rw [List.length_map]
    exact list_le s
  · exact Nat.zero_le _
/-- Those of some options that have a utility. -/
def dmm (m : Int) (l : List MD.W7) : List (List Int) := (l.filter fun x => decide (x.v = m)).map MD.W7.want
theorem dmm_yes {m : Int} {l : List MD.W7} {k : Nat} {x : MD.W7} (h : l[k]? = some x) (hx : x.v = m) : dmm m (l.take k) ++ [x.want] = dmm m (l.take (k + 1)) := by
  unfold dmm; rw [take_snoc' h, List.filter_append, List.map_append]; simp [hx]
theorem dmm_no {m : Int} {l : List MD.W7} {k : Nat} {x : MD.W7} (h : l[k]? = some x) (hx : ¬ x.v = m) : dmm m (l.take k) = dmm m (l.take (k + 1)) := by
  unfold dmm; rw [take_snoc' h, List.filter_append, List.map_append]; simp [hx]
theorem dmm_len (m : Int) (l : List MD.W7) (k : Nat) : (dmm m (l.take k)).length ≤ k := by
  unfold dmm
  rw [List.length_map]
  exact Nat.le_trans (List.length_filter_le _ _) (by rw [List.length_take]; omega)
set_option maxRecDepth 100000 in
set_option maxHeartbeats 8000000 in
theorem best_any (A : Option Addr) (n c : Nat) (L : List MF.Of) (hn : n ≤ 100000) (q0 q1 q2 q3 q4 q5 p0 p1 p2 p3 p4 p5 : Int) (w : World) (hL : Lst ofE w A n c L) : Calls Try.prog 21 #[.slice A n c, .agg #[.int .i64 q0, .int .i64 q1, .int .i64 q2, .int .i64 q3, .int .i64 q4, .int .i64 q5], .agg #[.int .i64 p0, .int .i64 p1, .int .i64 p2, .int .i64 p3, .int .i64 p4, .int .i64 p5]] w (Gives (.tuple #[aggB (MD.bestE L [q0, q1, q2, q3, q4, q5] [p0, p1, p2, p3, p4, p5]).1, .int .i64 (MD.bestE L [q0, q1, q2, q3, q4, q5] [p0, p1, p2, p3, p4, p5]).2]) w) := by
  have hmo : Try.prog.follows .mixedOrders = true := by kernel_rfl
  have HWo := Lib.hid (fun w' (h : Lst ofE w' A n c L) => worths_any A n c L q0 q1 q2 q3 q4 q5 hn w' h)
  have HOp := Lib.hid (fun A1 n1 c1 w' (h : Lst w7E w' A1 n1 c1 (MD.worths L [q0, q1, q2, q3, q4, q5])) => options_any A1 n1 c1 (MD.worths L [q0, q1, q2, q3, q4, q5]) p0 p1 p2 p3 p4 p5 (wor_few h) (wor_ok rfl) w' h)
  have HBe := Lib.hid (fun A1 n1 c1 w' (h : Lst w7E w' A1 n1 c1 (MD.options (MD.worths L [q0, q1, q2, q3, q4, q5]) [p0, p1, p2, p3, p4, p5])) => best1_any A1 n1 c1 _ w' h)
  have HLE := Lib.hid (opt_le L [q0, q1, q2, q3, q4, q5] [p0, p1, p2, p3, p4, p5])
  obtain ⟨E, hE⟩ : ∃ E, E = MD.bestE L [q0, q1, q2, q3, q4, q5] [p0, p1, p2, p3, p4, p5] := ⟨_, rfl⟩
  have h6 : E.1.length = 6 := by rw [hE]; exact (MD.best_in rfl).1
  have hE2 : MD.bst (MD.options (MD.worths L [q0, q1, q2, q3, q4, q5]) [p0, p1, p2, p3, p4, p5]) = E := hE.symm
  rw [hE2] at HBe
  obtain ⟨eb, mv⟩ := E
  obtain ⟨m0, m1, m2, m3, m4, m5, rfl⟩ := six h6
  dsimp only at HBe
  rw [aggB_lit] at HBe
  clear h6 hE2
  have HE := Lib.hid hE.symm
  clear hE
  have S0 := Lib.hid (Two2.start w 24 39 q0 q1 q2 q3 q4 q5 p0 p1 p2 p3 p4 p5)
  have nb0 := below_new ((w.alloc (.cells #[.int .i64 q0, .int .i64 q1, .int .i64 q2, .int .i64 q3, .int .i64 q4, .int .i64 q5] 24)).alloc (.cells #[.int .i64 p0, .int .i64 p1, .int .i64 p2, .int .i64 p3, .int .i64 p4, .int .i64 p5] 39)) (.cells #[.int .i64 0, .int .i64 0, .int .i64 0, .int .i64 0, .int .i64 0, .int .i64 0] 24)
  have S1 := Lib.hid (S0.out.keep nb0)
  have R1 := Lib.hid (BB.new ((w.alloc (.cells #[.int .i64 q0, .int .i64 q1, .int .i64 q2, .int .i64 q3, .int .i64 q4, .int .i64 q5] 24)).alloc (.cells #[.int .i64 p0, .int .i64 p1, .int .i64 p2, .int .i64 p3, .int .i64 p4, .int .i64 p5] 39)) 24 0 0 0 0 0 0)
  rw [show ((w.alloc (.cells #[.int .i64 q0, .int .i64 q1, .int .i64 q2, .int .i64 q3, .int .i64 q4, .int .i64 q5] 24)).alloc (.cells #[.int .i64 p0, .int .i64 p1, .int .i64 p2, .int .i64 p3, .int .i64 p4, .int .i64 p5] 39)).heap.size = w.heap.size + 2 from by simp] at R1
  have L1 := Lib.hid (hL.keep S1.out.below)
  clear hL nb0 S0
  go_enter Try.func21, Try.ntmps21
  go_upto_region 1 with (fail)
  generalize ((w.alloc (.cells #[.int .i64 q0, .int .i64 q1, .int .i64 q2, .int .i64 q3, .int .i64 q4, .int .i64 q5] 24)).alloc (.cells #[.int .i64 p0, .int .i64 p1, .int .i64 p2, .int .i64 p3, .int .i64 p4, .int .i64 p5] 39)).alloc (.cells #[.int .i64 0, .int .i64 0, .int .i64 0, .int .i64 0, .int .i64 0, .int .i64 0] 24) = w1 at *
  have H2 := Lib.hid (S1.out.keep (below_drawn w1))
  have HL := Lib.hid (L1.out.keep (below_drawn w1))
  have HR := Lib.hid (R1.out.keep (below_drawn w1) R1.out.lt)
  clear S1 L1 R1
  refine wp_region_held_drew (S := fun w' => BB w' w.heap.size 24 [q0, q1, q2, q3, q4, q5] ∧ BB w' (w.heap.size + 1) 39 [p0, p1, p2, p3, p4, p5]) hmo ⟨H2.out.x, H2.out.y⟩ (fun hHeld => ?_)
  generalize w1.drew = Y at *
  refine wpAnyH_take (i := 0) (oi := { dst := some 8, op := Op.move (Operand.tmp 0), type := 22, pos := "demandset.go:22", after := #[], guard := none }) (v := ?_) rfl (by kernel_rfl) (by kernel_rfl) (by kernel_rfl) (fun _ _ _ h => h) (Or.inl ⟨by rfl, ?_⟩) (by assumption) ?_
  rotate_left
  · intro w hSw; (try dsimp only at hSw); obtain ⟨hP, hB⟩ := hSw; obtain ⟨r0, r1, r2, r3, r4, r5⟩ := cells6 hP; obtain ⟨s0, s1, s2, s3, s4, s5⟩ := cells6 hB; go_simp; try with_reducible rfl
  (try simp only [Act.put, List.setIfInBounds_toArray, List.set_cons_zero, List.set_cons_succ])
  refine wpAnyH_take (i := 1) (oi := { dst := some 9, op := Op.load 24 (Operand.tmp 4), type := 24, pos := "demandset.go:22", after := #[], guard := none }) (v := ?_) rfl (by kernel_rfl) (by kernel_rfl) (by kernel_rfl) (fun _ _ _ h => h) (Or.inl ⟨by rfl, ?_⟩) (by assumption) ?_
  rotate_left
  · intro w hSw; (try dsimp only at hSw); obtain ⟨hP, hB⟩ := hSw; obtain ⟨r0, r1, r2, r3, r4, r5⟩ := cells6 hP; obtain ⟨s0, s1, s2, s3, s4, s5⟩ := cells6 hB; go_simp; try with_reducible rfl
  (try simp only [Act.put, List.setIfInBounds_toArray, List.set_cons_zero, List.set_cons_succ])
  refine wpAnyH_take (i := 3) (oi := { dst := some 11, op := Op.load 39 (Operand.tmp 5), type := 39, pos := "demandset.go:22", after := #[], guard := none }) (v := ?_) rfl (by kernel_rfl) (by kernel_rfl) (by kernel_rfl) (fun _ _ _ h => h) (Or.inl ⟨by rfl, ?_⟩) (by assumption) ?_
  rotate_left
  · intro w hSw; (try dsimp only at hSw); obtain ⟨hP, hB⟩ := hSw; obtain ⟨r0, r1, r2, r3, r4, r5⟩ := cells6 hP; obtain ⟨s0, s1, s2, s3, s4, s5⟩ := cells6 hB; go_simp; try with_reducible rfl
  (try simp only [Act.put, List.setIfInBounds_toArray, List.set_cons_zero, List.set_cons_succ])
  refine wpAnyH_ready (rs := [2]) (by kernel_rfl) (by simp) ?_
  refine AllReadyH.cons (o := { dst := some 10, op := Op.call { callee := Callee.value (Operand.func 54), args := #[Operand.tmp 8, Operand.tmp 9], argTypes := #[22, 24] }, type := 78, pos := "demandset.go:22", after := #[{ on := 0, ground := Ground.data }, { on := 1, ground := Ground.data }], guard := none }) rfl (fun K hK => ?_) AllReadyH.nil
  go_simp
  refine (HWo.out _ HL.out).mono ?_
  rintro ev v1 ⟨A1, n1, c1, rfl, hw1, nb⟩
  replace H2 := Lib.hid (H2.out.keep nb)
  replace HL := Lib.hid (HL.out.keep nb)
  replace HR := Lib.hid (HR.out.keep nb HR.out.lt)
  have W1 := Lib.hid hw1
  clear hw1 nb
  refine hK.out _ _ ?_ (fun hHeld => ?_)
  · exact ⟨H2.out.x, H2.out.y⟩
  clear hK K
  (try simp only [Act.put, List.setIfInBounds_toArray, List.set_cons_zero, List.set_cons_succ])
  refine wpAnyH_ready (rs := [4]) (by kernel_rfl) (by simp) ?_
  refine AllReadyH.cons (o := { dst := some 12, op := Op.call { callee := Callee.value (Operand.func 53), args := #[Operand.tmp 10, Operand.tmp 11], argTypes := #[78, 39] }, type := 76, pos := "demandset.go:22", after := #[{ on := 2, ground := Ground.data }, { on := 3, ground := Ground.data }, { on := 2, ground := Ground.chain }], guard := none }) rfl (fun K hK => ?_) AllReadyH.nil
  go_simp
  refine (HOp.out A1 n1 c1 _ W1.out).mono ?_
  rintro ev v2 ⟨A2, n2, c2, rfl, ho1, nb⟩
  replace H2 := Lib.hid (H2.out.keep nb)
  replace HL := Lib.hid (HL.out.keep nb)
  replace HR := Lib.hid (HR.out.keep nb HR.out.lt)
  have O2 := Lib.hid ho1
  clear ho1 nb W1
  refine hK.out _ _ ?_ (fun hHeld => ?_)
  · exact ⟨H2.out.x, H2.out.y⟩
  clear hK K
  (try simp only [Act.put, List.setIfInBounds_toArray, List.set_cons_zero, List.set_cons_succ])
  refine wpAnyH_ready (rs := [5]) (by kernel_rfl) (by simp) ?_
  refine AllReadyH.cons (o := { dst := some 13, op := Op.call { callee := Callee.value (Operand.func 52), args := #[Operand.tmp 12], argTypes := #[76] }, type := 43, pos := "demandset.go:22", after := #[{ on := 4, ground := Ground.data }, { on := 4, ground := Ground.chain }], guard := none }) rfl (fun K hK => ?_) AllReadyH.nil
  go_simp
  refine (HBe.out A2 n2 c2 _ O2.out).mono ?_
  rintro ev v3 ⟨rfl, nb⟩
  replace H2 := Lib.hid (H2.out.keep nb)
  replace HL := Lib.hid (HL.out.keep nb)
  replace HR := Lib.hid (HR.out.keep nb HR.out.lt)
  clear nb O2
  refine hK.out _ _ ?_ (fun hHeld => ?_)
  · exact ⟨H2.out.x, H2.out.y⟩
  clear hK K
  (try simp only [Act.put, List.setIfInBounds_toArray, List.set_cons_zero, List.set_cons_succ])
  refine wpAnyH_take (i := 6) (oi := { dst := some 14, op := Op.extract (Operand.tmp 13) 0, type := 24, pos := "demandset.go:22", after := #[{ on := 5, ground := Ground.data }], guard := none }) (v := ?_) rfl (by kernel_rfl) (by kernel_rfl) (by kernel_rfl) (fun _ _ _ h => h) (Or.inl ⟨by rfl, ?_⟩) (by assumption) ?_
  rotate_left
  · intro w hSw; (try dsimp only at hSw); obtain ⟨hP, hB⟩ := hSw; obtain ⟨r0, r1, r2, r3, r4, r5⟩ := cells6 hP; obtain ⟨s0, s1, s2, s3, s4, s5⟩ := cells6 hB; go_simp; try with_reducible rfl
  (try simp only [Act.put, List.setIfInBounds_toArray, List.set_cons_zero, List.set_cons_succ])
  refine wpAnyH_take (i := 7) (oi := { dst := some 15, op := Op.extract (Operand.tmp 13) 1, type := 2, pos := "demandset.go:22", after := #[{ on := 5, ground := Ground.data }], guard := none }) (v := ?_) rfl (by kernel_rfl) (by kernel_rfl) (by kernel_rfl) (fun _ _ _ h => h) (Or.inl ⟨by rfl, ?_⟩) (by assumption) ?_
  rotate_left
  · intro w hSw; (try dsimp only at hSw); obtain ⟨hP, hB⟩ := hSw; obtain ⟨r0, r1, r2, r3, r4, r5⟩ := cells6 hP; obtain ⟨s0, s1, s2, s3, s4, s5⟩ := cells6 hB; go_simp; try with_reducible rfl
  (try simp only [Act.put, List.setIfInBounds_toArray, List.set_cons_zero, List.set_cons_succ])
  refine wpAnyH_ready (rs := [8]) (by kernel_rfl) (by simp) ?_
  refine AllReadyH.cons (o := { dst := none, op := Op.store 24 (Operand.tmp 6) (Operand.tmp 14), type := 0, pos := "demandset.go:22", after := #[{ on := 6, ground := Ground.data }, { on := 5, ground := Ground.chain }, { on := 0, ground := Ground.phase }, { on := 1, ground := Ground.phase }, { on := 2, ground := Ground.phase }, { on := 3, ground := Ground.phase }, { on := 4, ground := Ground.phase }, { on := 5, ground := Ground.phase }, { on := 6, ground := Ground.phase }, { on := 7, ground := Ground.phase }], guard := none }) rfl (fun K hK => ?_) AllReadyH.nil
  obtain ⟨f0, f1, f2, f3, f4, f5⟩ := free6 HR.out
  obtain ⟨z0, z1, z2, z3, z4, z5⟩ := cells6 HR.out
  go_simp
  have R5 := Lib.hid (HR.out.six m0 m1 m2 m3 m4 m5)
  have X5 := Lib.hid (H2.out.x.six_other (B := w.heap.size + 2) (by omega) m0 m1 m2 m3 m4 m5)
  have Y5 := Lib.hid (H2.out.y.six_other (B := w.heap.size + 2) (by omega) m0 m1 m2 m3 m4 m5)
  have B5 := Lib.hid (below_six H2.out.below (w.heap.size + 2) (by omega) (.int .i64 m0) (.int .i64 m1) (.int .i64 m2) (.int .i64 m3) (.int .i64 m4) (.int .i64 m5))
  generalize ((((((v3.setCell ⟨w.heap.size + 2, 0, none⟩ (.int .i64 m0)).setCell ⟨w.heap.size + 2, 1, none⟩ (.int .i64 m1)).setCell ⟨w.heap.size + 2, 2, none⟩ (.int .i64 m2)).setCell ⟨w.heap.size + 2, 3, none⟩ (.int .i64 m3)).setCell ⟨w.heap.size + 2, 4, none⟩ (.int .i64 m4)).setCell ⟨w.heap.size + 2, 5, none⟩ (.int .i64 m5)) = w5 at *
  clear f0 f1 f2 f3 f4 f5 z0 z1 z2 z3 z4 z5 HR H2 HL
  refine hK.out _ _ ?_ (fun hHeld => ?_)
  · exact ⟨X5.out, Y5.out⟩
  clear hK K
  (try simp only [Act.put, List.setIfInBounds_toArray, List.set_cons_zero, List.set_cons_succ])
  refine wpAnyH_take (i := 9) (oi := { dst := some 7, op := Op.assign (Operand.tmp 15), type := 2, pos := "demandset.go:22", after := #[{ on := 7, ground := Ground.data }, { on := 8, ground := Ground.chain }, { on := 0, ground := Ground.phase }, { on := 1, ground := Ground.phase }, { on := 2, ground := Ground.phase }, { on := 3, ground := Ground.phase }, { on := 4, ground := Ground.phase }, { on := 5, ground := Ground.phase }, { on := 6, ground := Ground.phase }, { on := 7, ground := Ground.phase }, { on := 8, ground := Ground.phase }], guard := none }) (v := ?_) rfl (by kernel_rfl) (by kernel_rfl) (by kernel_rfl) (fun _ _ _ h => h) (Or.inl ⟨by rfl, ?_⟩) (by assumption) ?_
  rotate_left
  · intro w hSw; (try dsimp only at hSw); obtain ⟨hP, hB⟩ := hSw; obtain ⟨r0, r1, r2, r3, r4, r5⟩ := cells6 hP; obtain ⟨s0, s1, s2, s3, s4, s5⟩ := cells6 hB; go_simp; try with_reducible rfl
  (try simp only [Act.put, List.setIfInBounds_toArray, List.set_cons_zero, List.set_cons_succ])
  refine wpAnyH_done (by kernel_rfl) ?_ _
  clear hHeld
  obtain ⟨z0, z1, z2, z3, z4, z5⟩ := cells6 R5.out
  have hz := R5.out.lt
  go_wp2
  refine bodyPost_ret (v := .tuple #[.agg #[.int .i64 m0, .int .i64 m1, .int .i64 m2, .int .i64 m3, .int .i64 m4, .int .i64 m5], .int .i64 mv]) (by simp [results, Try.results21, go_sem, z0, z1, z2, z3, z4, z5]) rfl ⟨by rw [HE.out]; rfl, B5.out⟩
set_option maxRecDepth 100000 in
set_option maxHeartbeats 8000000 in
theorem demand_any (A : Option Addr) (n c : Nat) (L : List MF.Of) (hn : n ≤ 100000) (q0 q1 q2 q3 q4 q5 p0 p1 p2 p3 p4 p5 : Int) (w : World) (hL : Lst ofE w A n c L) : Calls Try.prog 23 #[.slice A n c, .agg #[.int .i64 q0, .int .i64 q1, .int .i64 q2, .int .i64 q3, .int .i64 q4, .int .i64 q5], .agg #[.int .i64 p0, .int .i64 p1, .int .i64 p2, .int .i64 p3, .int .i64 p4, .int .i64 p5]] w (GivesRws (MD.demE L [q0, q1, q2, q3, q4, q5] [p0, p1, p2, p3, p4, p5]) w) := by
  have hmo : Try.prog.follows .mixedOrders = true := by kernel_rfl
  have HWo := Lib.hid (fun w' (h : Lst ofE w' A n c L) => worths_any A n c L q0 q1 q2 q3 q4 q5 hn w' h)
  have HOp := Lib.hid (fun A1 n1 c1 w' (h : Lst w7E w' A1 n1 c1 (MD.worths L [q0, q1, q2, q3, q4, q5])) => options_any A1 n1 c1 (MD.worths L [q0, q1, q2, q3, q4, q5]) p0 p1 p2 p3 p4 p5 (wor_few h) (wor_ok rfl) w' h)
  have HBe := Lib.hid (fun A1 n1 c1 w' (h : Lst w7E w' A1 n1 c1 (MD.options (MD.worths L [q0, q1, q2, q3, q4, q5]) [p0, p1, p2, p3, p4, p5])) => best1_any A1 n1 c1 _ w' h)
  have HLE := Lib.hid (opt_le L [q0, q1, q2, q3, q4, q5] [p0, p1, p2, p3, p4, p5])
  obtain ⟨E, hE⟩ : ∃ E, E = MD.bestE L [q0, q1, q2, q3, q4, q5] [p0, p1, p2, p3, p4, p5] := ⟨_, rfl⟩
  have h6 : E.1.length = 6 := by rw [hE]; exact (MD.best_in rfl).1
  have hE2 : MD.bst (MD.options (MD.worths L [q0, q1, q2, q3, q4, q5]) [p0, p1, p2, p3, p4, p5]) = E := hE.symm
  rw [hE2] at HBe
  obtain ⟨eb, mv⟩ := E
  obtain ⟨m0, m1, m2, m3, m4, m5, rfl⟩ := six h6
  dsimp only at HBe
  rw [aggB_lit] at HBe
  clear h6 hE2
  have HD0 : MD.demE L [q0, q1, q2, q3, q4, q5] [p0, p1, p2, p3, p4, p5] = dmm mv (MD.options (MD.worths L [q0, q1, q2, q3, q4, q5]) [p0, p1, p2, p3, p4, p5]) := by
    show MD.dem _ = _
    unfold MD.dem dmm
    rw [show (MD.bst (MD.options (MD.worths L [q0, q1, q2, q3, q4, q5]) [p0, p1, p2, p3, p4, p5])).2 = mv from congrArg Prod.snd hE.symm]
  clear hE
  have HD := Lib.hid HD0
  clear HD0
  obtain ⟨i1, hi1, hy0, hy1, hy2⟩ := info_parts infoBun
  have S0 := Lib.hid (Two2.start w 24 39 q0 q1 q2 q3 q4 q5 p0 p1 p2 p3 p4 p5)
  have L1 := Lib.hid (hL.keep S0.out.below)
  clear hL
  generalize MD.options (MD.worths L [q0, q1, q2, q3, q4, q5]) [p0, p1, p2, p3, p4, p5] = Os at *
  go_enter Try.func23, Try.ntmps23
  go_upto_region 1 with (fail)
  generalize (w.alloc (.cells #[.int .i64 q0, .int .i64 q1, .int .i64 q2, .int .i64 q3, .int .i64 q4, .int .i64 q5] 24)).alloc (.cells #[.int .i64 p0, .int .i64 p1, .int .i64 p2, .int .i64 p3, .int .i64 p4, .int .i64 p5] 39) = w1 at *
  have H2 := Lib.hid (S0.out.keep (below_drawn w1))
  have HL := Lib.hid (L1.out.keep (below_drawn w1))
  clear S0 L1
  refine wp_region_held_drew (S := fun w' => BB w' w.heap.size 24 [q0, q1, q2, q3, q4, q5] ∧ BB w' (w.heap.size + 1) 39 [p0, p1, p2, p3, p4, p5]) hmo ⟨H2.out.x, H2.out.y⟩ (fun hHeld => ?_)
  generalize w1.drew = Y at *
  refine wpAnyH_take (i := 0) (oi := { dst := some 13, op := Op.move (Operand.tmp 0), type := 22, pos := "demandset.go:27", after := #[], guard := none }) (v := ?_) rfl (by kernel_rfl) (by kernel_rfl) (by kernel_rfl) (fun _ _ _ h => h) (Or.inl ⟨by rfl, ?_⟩) (by assumption) ?_
  rotate_left
  · intro w hSw; (try dsimp only at hSw); obtain ⟨hP, hB⟩ := hSw; obtain ⟨r0, r1, r2, r3, r4, r5⟩ := cells6 hP; obtain ⟨s0, s1, s2, s3, s4, s5⟩ := cells6 hB; go_simp; try with_reducible rfl
  (try simp only [Act.put, List.setIfInBounds_toArray, List.set_cons_zero, List.set_cons_succ])
  refine wpAnyH_take (i := 1) (oi := { dst := some 14, op := Op.load 24 (Operand.tmp 4), type := 24, pos := "demandset.go:27", after := #[], guard := none }) (v := ?_) rfl (by kernel_rfl) (by kernel_rfl) (by kernel_rfl) (fun _ _ _ h => h) (Or.inl ⟨by rfl, ?_⟩) (by assumption) ?_
  rotate_left
  · intro w hSw; (try dsimp only at hSw); obtain ⟨hP, hB⟩ := hSw; obtain ⟨r0, r1, r2, r3, r4, r5⟩ := cells6 hP; obtain ⟨s0, s1, s2, s3, s4, s5⟩ := cells6 hB; go_simp; try with_reducible rfl
  (try simp only [Act.put, List.setIfInBounds_toArray, List.set_cons_zero, List.set_cons_succ])
  refine wpAnyH_take (i := 3) (oi := { dst := some 16, op := Op.load 39 (Operand.tmp 5), type := 39, pos := "demandset.go:27", after := #[], guard := none }) (v := ?_) rfl (by kernel_rfl) (by kernel_rfl) (by kernel_rfl) (fun _ _ _ h => h) (Or.inl ⟨by rfl, ?_⟩) (by assumption) ?_
  rotate_left
  · intro w hSw; (try dsimp only at hSw); obtain ⟨hP, hB⟩ := hSw; obtain ⟨r0, r1, r2, r3, r4, r5⟩ := cells6 hP; obtain ⟨s0, s1, s2, s3, s4, s5⟩ := cells6 hB; go_simp; try with_reducible rfl
  (try simp only [Act.put, List.setIfInBounds_toArray, List.set_cons_zero, List.set_cons_succ])
  refine wpAnyH_ready (rs := [2]) (by kernel_rfl) (by simp) ?_
  refine AllReadyH.cons (o := { dst := some 15, op := Op.call { callee := Callee.value (Operand.func 54), args := #[Operand.tmp 13, Operand.tmp 14], argTypes := #[22, 24] }, type := 78, pos := "demandset.go:27", after := #[{ on := 0, ground := Ground.data }, { on := 1, ground := Ground.data }], guard := none }) rfl (fun K hK => ?_) AllReadyH.nil
  go_simp
  refine (HWo.out _ HL.out).mono ?_
  rintro ev v1 ⟨A1, n1, c1, rfl, hw1, nb⟩
  replace H2 := Lib.hid (H2.out.keep nb)
  replace HL := Lib.hid (HL.out.keep nb)
  have W1 := Lib.hid hw1
  clear hw1 nb
  refine hK.out _ _ ?_ (fun hHeld => ?_)
  · exact ⟨H2.out.x, H2.out.y⟩
  clear hK K
  (try simp only [Act.put, List.setIfInBounds_toArray, List.set_cons_zero, List.set_cons_succ])
  refine wpAnyH_ready (rs := [4]) (by kernel_rfl) (by simp) ?_
  refine AllReadyH.cons (o := { dst := some 17, op := Op.call { callee := Callee.value (Operand.func 53), args := #[Operand.tmp 15, Operand.tmp 16], argTypes := #[78, 39] }, type := 76, pos := "demandset.go:27", after := #[{ on := 2, ground := Ground.data }, { on := 3, ground := Ground.data }, { on := 2, ground := Ground.chain }], guard := none }) rfl (fun K hK => ?_) AllReadyH.nil
  go_simp
  refine (HOp.out A1 n1 c1 _ W1.out).mono ?_
  rintro ev v2 ⟨A2, n2, c2, rfl, ho1, nb⟩
  replace H2 := Lib.hid (H2.out.keep nb)
  replace HL := Lib.hid (HL.out.keep nb)
  have O2 := Lib.hid ho1
  clear ho1 nb W1
  refine hK.out _ _ ?_ (fun hHeld => ?_)
  · exact ⟨H2.out.x, H2.out.y⟩
  clear hK K
  (try simp only [Act.put, List.setIfInBounds_toArray, List.set_cons_zero, List.set_cons_succ])
  refine wpAnyH_take (i := 5) (oi := { dst := some 7, op := Op.assign (Operand.tmp 17), type := 76, pos := "demandset.go:27", after := #[{ on := 4, ground := Ground.data }, { on := 4, ground := Ground.chain }, { on := 0, ground := Ground.phase }, { on := 1, ground := Ground.phase }, { on := 2, ground := Ground.phase }, { on := 3, ground := Ground.phase }, { on := 4, ground := Ground.phase }], guard := none }) (v := ?_) rfl (by kernel_rfl) (by kernel_rfl) (by kernel_rfl) (fun _ _ _ h => h) (Or.inl ⟨by rfl, ?_⟩) (by assumption) ?_
  rotate_left
  · intro w hSw; (try dsimp only at hSw); obtain ⟨hP, hB⟩ := hSw; obtain ⟨r0, r1, r2, r3, r4, r5⟩ := cells6 hP; obtain ⟨s0, s1, s2, s3, s4, s5⟩ := cells6 hB; go_simp; try with_reducible rfl
  (try simp only [Act.put, List.setIfInBounds_toArray, List.set_cons_zero, List.set_cons_succ])
  refine wpAnyH_done (by kernel_rfl) ?_ _
  clear hHeld
  have B3 := Lib.hid H2.out.below
  clear H2 HL
  go_wp2_with fail
  refine (HBe.out A2 n2 c2 _ O2.out).mono ?_
  rintro ev v3 ⟨rfl, nb⟩
  have B4 := Lib.hid (B3.out.trans (nb.mono B3.out.size))
  have O4 := Lib.hid (O2.out.keep nb)
  clear nb B3 O2
  have HLN := Lib.hid O4.out.len
  have hn2 : n2 ≤ 1024 := by rw [← HLN.out]; exact HLE.out
  go_upto_region 3 with (fail)
  have nb := below_new v3 (.cells #[.int .i64 m0, .int .i64 m1, .int .i64 m2, .int .i64 m3, .int .i64 m4, .int .i64 m5] 24)
  have B5 := Lib.hid (B4.out.trans (nb.mono B4.out.size))
  have O5 := Lib.hid (O4.out.keep nb)
  clear nb B4 O4
  generalize v3.alloc (.cells #[.int .i64 m0, .int .i64 m1, .int .i64 m2, .int .i64 m3, .int .i64 m4, .int .i64 m5] 24) = w5 at *
  go_wp2_with fail
  go_loopw [10, 25] (fun v i wr => ∃ k : Nat, k ≤ n2 ∧ i = .int .i64 k ∧ OwnR wr w5.heap.size v (dmm mv (Os.take k)) ∧ Below w5.heap.size w5 wr) (fun _ i _ => n2 - (intOf i).toNat)
  case atStart => exact ⟨0, Nat.zero_le _, rfl, OwnR.nil _ _, Below.refl _ _⟩
  case round =>
    obtain ⟨k, hk, rfl, hown, hbw⟩ := hrel
    have R0 := Lib.hid hown
    have B6 := Lib.hid hbw
    clear hown hbw
    have hlen := dmm_len mv Os k
    by_cases hlt : k < n2
    · obtain ⟨ad, x, rfl, hrow, hfx, hadl, e0, e1, e2, e3, e4, e5, e6⟩ := w7_at (O5.out.keep B6.out) hlt
      have HY := Lib.hid (fun h => (dmm_yes (m := mv) hrow h).symm)
      have HN := Lib.hid (fun h => (dmm_no (m := mv) hrow h).symm)
      obtain ⟨x0, x1, x2, x3, x4, x5, xv⟩ := x
      dsimp only at e0 e1 e2 e3 e4 e5 e6
      clear hrow hfx
      obtain ⟨Rs', hRS⟩ : ∃ R, R = dmm mv (Os.take (k + 1)) := ⟨_, rfl⟩
      rw [← hRS] at HY HN
      have HRS := Lib.hid hRS.symm
      clear hRS
      generalize dmm mv (Os.take k) = Rs at *
      go_upto_region 7 with (fail)
      have nb := below_new wr (.cells #[.int .i64 x0, .int .i64 x1, .int .i64 x2, .int .i64 x3, .int .i64 x4, .int .i64 x5, .int .i64 xv] 81)
      have X1 := Lib.hid (Blk.new wr #[.int .i64 x0, .int .i64 x1, .int .i64 x2, .int .i64 x3, .int .i64 x4, .int .i64 x5, .int .i64 xv] 81)
      have R1 := Lib.hid (R0.out.keep nb)
      have B7 := Lib.hid (B6.out.trans (nb.mono B6.out.size))
      generalize wr.alloc (.cells #[.int .i64 x0, .int .i64 x1, .int .i64 x2, .int .i64 x3, .int .i64 x4, .int .i64 x5, .int .i64 xv] 81) = w1 at *
      generalize wr.heap.size = Bx at *
      clear nb e0 e1 e2 e3 e4 e5 e6 R0 B6 hadl
      obtain ⟨g0, g1, g2, g3, g4, g5, g6⟩ := seven X1.out
      by_cases hv : xv = mv
      · have HE2 := Lib.hid (show Rs' = Rs ++ [[x0, x1, x2, x3, x4, x5]] from HY.out hv)
        have hd : (xv == mv) = true := beq_iff_eq.2 hv
        clear HY HN hv
        have hX := heap_new w1 (.cells #[.int .i64 x0, .int .i64 x1, .int .i64 x2, .int .i64 x3, .int .i64 x4, .int .i64 x5] 24)
        have K3 := Lib.hid (R1.out.keep (below_new w1 (.cells #[.int .i64 x0, .int .i64 x1, .int .i64 x2, .int .i64 x3, .int .i64 x4, .int .i64 x5] 24)))
        have HB3 := Lib.hid (B7.out.trans ((below_new w1 (.cells #[.int .i64 x0, .int .i64 x1, .int .i64 x2, .int .i64 x3, .int .i64 x4, .int .i64 x5] 24)).mono B7.out.size))
        have hs3 : w5.heap.size ≤ (w1.alloc (.cells #[.int .i64 x0, .int .i64 x1, .int .i64 x2, .int .i64 x3, .int .i64 x4, .int .i64 x5] 24)).heap.size := HB3.out.size
        go_wp2_with (at_builtin; refine wpList_append_own _ rfl _ _ 45 rfl w5.heap.size 24 i1 (.agg #[.int .i64 0, .int .i64 0, .int .i64 0, .int .i64 0, .int .i64 0, .int .i64 0]) 6 48 Try.underlying45 hi1 hy0 hy1 hy2 rfl (by decide) _ _ _ rfl K3.out.1 ⟨w1.heap.size, 0, none⟩ 1 1 [.int .i64 x0, .int .i64 x1, .int .i64 x2, .int .i64 x3, .int .i64 x4, .int .i64 x5] rfl rfl ?c1 ?c2 ?c3 ?c4 ?c5 ?_)
        case c2 => exact ⟨rfl, rfl, rfl, rfl, rfl, rfl⟩
        case c3 => unfold maxLen; omega
        case c4 => omega
        case c5 => have := HB3.out.size; simpa using this
        intro v' w4 hown' hgrow _
        have RR := K3.out.app (r := [x0, x1, x2, x3, x4, x5]) rfl HB3.out HB3.out.size (by exact hown') hgrow
        have K4 := Lib.hid RR.1
        have HB4 := Lib.hid RR.2
        clear RR hown' hgrow K3 HB3 hX g0 g1 g2 g3 g4 g5 g6 R1 B7
        rw [← HE2.out] at K4
        go_wp2
        go_roundw
        case rel => exact ⟨k + 1, by omega, by go_num, by rw [HRS.out]; exact K4.out, HB4.out⟩
        case measure => simp [intOf]; omega
      · have HE2 := Lib.hid (HN.out hv)
        have hd : (xv == mv) = false := beq_eq_false_iff_ne.2 hv
        clear HY HN hv
        go_wp2
        go_roundw
        case rel => exact ⟨k + 1, by omega, by go_num, by rw [HRS.out, HE2.out]; exact R1.out, B7.out⟩
        case measure => simp [intOf]; omega
    · have hkn : k = Os.length := by rw [HLN.out]; omega
      rw [hkn, List.take_length] at R0 hlen
      rw [← HD.out] at R0 hlen
      obtain ⟨A8, c8, hv8, hl8⟩ := R0.out.form (by omega)
      have L8 := Lib.hid hl8
      clear hl8 hkn
      subst hv8
      go_wp2
      go_ret
      exact ⟨A8, _, c8, rfl, L8.out, B5.out.trans (B6.out.mono B5.out.size)⟩
end Go.Proofs.Ytjjpfpgjpmedmaa
