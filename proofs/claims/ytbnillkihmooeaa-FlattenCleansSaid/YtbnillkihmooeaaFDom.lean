/- The reference's dominated. No claim of its own. -/
import Derived.Test.YtbnillkihmooeaaJFD
import Derived.Deep.RegionHeld3
import Derived.Deep.DeepCutAuto
namespace Go.Proofs.Ytbnillkihmooeaa
open Go.RowKit
attribute [local go_sem] Oper.semAt_some
theorem nest_80 (w : World) (g : Nat) (u0 u1 u2 u3 u4 u5 u6 u7 : Value) : ((((((((w.setCell ⟨g, 0, none⟩ u0).setCell ⟨g, 1, none⟩ u1).setCell ⟨g, 2, none⟩ u2).setCell ⟨g, 3, none⟩ u3).setCell ⟨g, 4, none⟩ u4).setCell ⟨g, 5, none⟩ u5).setCell ⟨g, 6, none⟩ u6).setCell ⟨g, 7, none⟩ u7) = sets w g 0 [u0, u1, u2, u3, u4, u5, u6, u7] := rfl
def domB (a b : MF.Of) (i k : Nat) : Bool := decide (i ≠ k) && MF.good b a && (decide (a.want ≠ b.want) || decide (a.value ≠ b.value) || decide (k < i))
theorem of_cells {w : World} {ad : Addr} {n c k : Nat} {l : List MF.Of} (h : Lst ofE w (some ad) n c l) (hk : k < n) {p : MF.Of} (hp : l[k]? = some p) :
    w.cell? (ad.add (k * 8)) = some (.int .i64 p.bidder) ∧ w.cell? (⟨(ad.add (k * 8)).block, (ad.add (k * 8)).off + 1, none⟩) = some (.int .i64 p.b0) ∧ w.cell? (⟨(ad.add (k * 8)).block, (ad.add (k * 8)).off + 2, none⟩) = some (.int .i64 p.b1) ∧ w.cell? (⟨(ad.add (k * 8)).block, (ad.add (k * 8)).off + 3, none⟩) = some (.int .i64 p.b2) ∧ w.cell? (⟨(ad.add (k * 8)).block, (ad.add (k * 8)).off + 4, none⟩) = some (.int .i64 p.b3) ∧ w.cell? (⟨(ad.add (k * 8)).block, (ad.add (k * 8)).off + 5, none⟩) = some (.int .i64 p.b4) ∧ w.cell? (⟨(ad.add (k * 8)).block, (ad.add (k * 8)).off + 6, none⟩) = some (.int .i64 p.b5) ∧ w.cell? (⟨(ad.add (k * 8)).block, (ad.add (k * 8)).off + 7, none⟩) = some (.int .i64 p.value) := by
  obtain ⟨ad', p', e, hp', _, _, h0⟩ := of_at h hk
  injection e with e
  rw [hp] at hp'
  injection hp' with hp'
  subst e hp'
  exact h0
set_option maxRecDepth 100000 in
set_option maxHeartbeats 8000000 in
theorem rdom_any (ad : Addr) (n c i k : Nat) (l : List MF.Of) (a b : MF.Of) (w : World) (hl : Lst ofE w (some ad) n c l) (hi : i < n) (hk : k < n) (ha : l[i]? = some a) (hb : l[k]? = some b) : Calls Try.prog 68 #[.slice (some ad) n c, .int .i64 i, .int .i64 k] w (Gives (.bool (domB a b i k)) w) := by
  have CI := Lib.hid (fun X (h : Below w.heap.size w X) => of_cells (hl.keep h) hi ha)
  have CK := Lib.hid (fun X (h : Below w.heap.size w X) => of_cells (hl.keep h) hk hb)
  have hn63 := hl.few
  clear hl ha hb
  obtain ⟨ai, a0, a1, a2, a3, a4, a5, av⟩ := a
  obtain ⟨bi, b0, b1, b2, b3, b4, b5, bv⟩ := b
  dsimp only at CI CK
  have HR := Lib.hid (show domB ⟨ai, a0, a1, a2, a3, a4, a5, av⟩ ⟨bi, b0, b1, b2, b3, b4, b5, bv⟩ i k = (decide (i ≠ k) && (decide (bi = ai) && decide (av ≤ bv) && MB.withinB [b0, b1, b2, b3, b4, b5] [a0, a1, a2, a3, a4, a5] 6) && (decide ([a0, a1, a2, a3, a4, a5] ≠ [b0, b1, b2, b3, b4, b5]) || decide (av ≠ bv) || decide (k < i))) from rfl)
  generalize domB ⟨ai, a0, a1, a2, a3, a4, a5, av⟩ ⟨bi, b0, b1, b2, b3, b4, b5, bv⟩ i k = R at *
  have hmo : Try.prog.follows .mixedOrders = true := by kernel_rfl
  go_enter Try.func68, Try.ntmps68
  go_upto_region 1 with (fail)
  go_cut [7, 8] (fun s7 s8 wx => ∃ Ba Bb : Nat, s7 = .pointer (some ⟨Ba, 0, none⟩) ∧ s8 = .pointer (some ⟨Bb, 0, none⟩) ∧ Hid (wx.heap[Ba]? = some (.cells #[.int .i64 ai, .int .i64 a0, .int .i64 a1, .int .i64 a2, .int .i64 a3, .int .i64 a4, .int .i64 a5, .int .i64 av] 52 (0, 0)) ∧ wx.heap[Bb]? = some (.cells #[.int .i64 bi, .int .i64 b0, .int .i64 b1, .int .i64 b2, .int .i64 b3, .int .i64 b4, .int .i64 b5, .int .i64 bv] 52 (0, 0)) ∧ Below w.heap.size w wx))
  case first =>
    have HB := Lib.hid (below_drawn w)
    refine wp_region_held_drew (S := fun w' => Below w.heap.size w w') hmo HB.out (fun hHeld => ?_)
    have HSY := Lib.hid (show w.heap.size ≤ w.drew.heap.size from HB.out.size)
    generalize w.drew = Y at *
    refine wpAnyH_take (i := 0) (oi := { dst := some 9, op := Op.move (Operand.tmp 0), type := 29, pos := "ref.go:100", after := #[], guard := none }) (v := ?_) rfl (by kernel_rfl) (by kernel_rfl) (by kernel_rfl) (fun _ _ _ h => h) (Or.inl ⟨by rfl, ?_⟩) (by assumption) ?_
    rotate_left
    · intro w hSw; (try dsimp only at hSw); go_simp; try with_reducible rfl
    (try simp only [Act.put, List.setIfInBounds_toArray, List.set_cons_zero, List.set_cons_succ])
    refine wpAnyH_take (i := 1) (oi := { dst := some 10, op := Op.move (Operand.tmp 1), type := 3, pos := "ref.go:100", after := #[], guard := none }) (v := ?_) rfl (by kernel_rfl) (by kernel_rfl) (by kernel_rfl) (fun _ _ _ h => h) (Or.inl ⟨by rfl, ?_⟩) (by assumption) ?_
    rotate_left
    · intro w hSw; (try dsimp only at hSw); go_simp; try with_reducible rfl
    (try simp only [Act.put, List.setIfInBounds_toArray, List.set_cons_zero, List.set_cons_succ])
    refine wpAnyH_take (i := 2) (oi := { dst := some 11, op := Op.indexAddr 29 (Operand.tmp 9) (Operand.tmp 10), type := 0, pos := "ref.go:100", after := #[{ on := 0, ground := Ground.data }, { on := 1, ground := Ground.data }], guard := none }) (v := ?_) rfl (by kernel_rfl) (by kernel_rfl) (by kernel_rfl) (fun _ _ _ h => h) (Or.inl ⟨by rfl, ?_⟩) (by assumption) ?_
    rotate_left
    · intro w hSw; (try dsimp only at hSw); obtain ⟨c0, c1, c2, c3, c4, c5, c6, c7⟩ := CI.out w hSw; go_simp; try with_reducible rfl
    (try simp only [Act.put, List.setIfInBounds_toArray, List.set_cons_zero, List.set_cons_succ])
    refine wpAnyH_take (i := 3) (oi := { dst := some 12, op := Op.load 52 (Operand.tmp 11), type := 52, pos := "ref.go:100", after := #[{ on := 2, ground := Ground.data }], guard := none }) (v := ?_) rfl (by kernel_rfl) (by kernel_rfl) (by kernel_rfl) (fun _ _ _ h => h) (Or.inl ⟨by rfl, ?_⟩) (by assumption) ?_
    rotate_left
    · intro w hSw; (try dsimp only at hSw); obtain ⟨c0, c1, c2, c3, c4, c5, c6, c7⟩ := CI.out w hSw; go_simp; try with_reducible rfl
    (try simp only [Act.put, List.setIfInBounds_toArray, List.set_cons_zero, List.set_cons_succ])
    refine wpAnyH_take (i := 4) (oi := { dst := some 13, op := Op.move (Operand.tmp 0), type := 29, pos := "ref.go:100", after := #[{ on := 10, ground := Ground.gcOnly Departure.lateStores }], guard := none }) (v := ?_) rfl (by kernel_rfl) (by kernel_rfl) (by kernel_rfl) (fun _ _ _ h => h) (Or.inl ⟨by rfl, ?_⟩) (by assumption) ?_
    rotate_left
    · intro w hSw; (try dsimp only at hSw); go_simp; try with_reducible rfl
    (try simp only [Act.put, List.setIfInBounds_toArray, List.set_cons_zero, List.set_cons_succ])
    refine wpAnyH_take (i := 5) (oi := { dst := some 14, op := Op.move (Operand.tmp 2), type := 3, pos := "ref.go:100", after := #[{ on := 10, ground := Ground.gcOnly Departure.lateStores }], guard := none }) (v := ?_) rfl (by kernel_rfl) (by kernel_rfl) (by kernel_rfl) (fun _ _ _ h => h) (Or.inl ⟨by rfl, ?_⟩) (by assumption) ?_
    rotate_left
    · intro w hSw; (try dsimp only at hSw); go_simp; try with_reducible rfl
    (try simp only [Act.put, List.setIfInBounds_toArray, List.set_cons_zero, List.set_cons_succ])
    refine wpAnyH_take (i := 6) (oi := { dst := some 15, op := Op.indexAddr 29 (Operand.tmp 13) (Operand.tmp 14), type := 0, pos := "ref.go:100", after := #[{ on := 4, ground := Ground.data }, { on := 5, ground := Ground.data }, { on := 10, ground := Ground.gcOnly Departure.lateStores }], guard := none }) (v := ?_) rfl (by kernel_rfl) (by kernel_rfl) (by kernel_rfl) (fun _ _ _ h => h) (Or.inl ⟨by rfl, ?_⟩) (by assumption) ?_
    rotate_left
    · intro w hSw; (try dsimp only at hSw); obtain ⟨c0, c1, c2, c3, c4, c5, c6, c7⟩ := CK.out w hSw; go_simp; try with_reducible rfl
    (try simp only [Act.put, List.setIfInBounds_toArray, List.set_cons_zero, List.set_cons_succ])
    refine wpAnyH_take (i := 7) (oi := { dst := some 16, op := Op.load 52 (Operand.tmp 15), type := 52, pos := "ref.go:100", after := #[{ on := 6, ground := Ground.data }, { on := 10, ground := Ground.gcOnly Departure.lateStores }], guard := none }) (v := ?_) rfl (by kernel_rfl) (by kernel_rfl) (by kernel_rfl) (fun _ _ _ h => h) (Or.inl ⟨by rfl, ?_⟩) (by assumption) ?_
    rotate_left
    · intro w hSw; (try dsimp only at hSw); obtain ⟨c0, c1, c2, c3, c4, c5, c6, c7⟩ := CK.out w hSw; go_simp; try with_reducible rfl
    (try simp only [Act.put, List.setIfInBounds_toArray, List.set_cons_zero, List.set_cons_succ])
    refine wpAnyH_ready (rs := [8, 9]) (by kernel_rfl) (by simp) ?_
    refine AllReadyH.cons (o := { dst := some 7, op := Op.alloc 52, type := 0, pos := "ref.go:100", after := #[], guard := none }) rfl (fun K hK => ?_) (AllReadyH.cons (o := { dst := some 8, op := Op.alloc 52, type := 0, pos := "ref.go:100", after := #[], guard := none }) rfl (fun K hK => ?_) AllReadyH.nil)
    {
 go_simp
 have nb := below_new Y (.cells #[.int .i64 0, .int .i64 0, .int .i64 0, .int .i64 0, .int .i64 0, .int .i64 0, .int .i64 0, .int .i64 0] 52)
 have HZa := Lib.hid (heap_new Y (.cells #[.int .i64 0, .int .i64 0, .int .i64 0, .int .i64 0, .int .i64 0, .int .i64 0, .int .i64 0, .int .i64 0] 52))
 replace HB := Lib.hid (HB.out.trans (nb.mono HB.out.size))
 clear nb
 obtain ⟨v1, hv1⟩ : ∃ v1, v1 = Y.alloc (.cells #[.int .i64 0, .int .i64 0, .int .i64 0, .int .i64 0, .int .i64 0, .int .i64 0, .int .i64 0, .int .i64 0] 52) := ⟨_, rfl⟩
 rw [← hv1] at HB HZa ⊢
 clear hv1
 obtain ⟨Ba, hBa⟩ : ∃ g, g = Y.heap.size := ⟨_, rfl⟩
 have HGa := Lib.hid (show w.heap.size ≤ Ba from by rw [hBa]; exact HSY.out)
 rw [← hBa] at HZa ⊢
 clear hBa
 have HSv1 := Lib.hid HB.out.size
 refine hK.out _ _ ?_ (fun hHeld => ?_)
 · exact HB.out
 clear hK K
 (try simp only [Act.put, List.setIfInBounds_toArray, List.set_cons_zero, List.set_cons_succ])
 refine wpAnyH_ready (rs := [9]) (by kernel_rfl) (by simp) ?_
 refine AllReadyH.cons (o := { dst := some 8, op := Op.alloc 52, type := 0, pos := "ref.go:100", after := #[], guard := none }) rfl (fun K hK => ?_) AllReadyH.nil
 go_simp
 have hlt2 := (Array.getElem?_eq_some_iff.1 HZa.out).1
 have nb := below_new v1 (.cells #[.int .i64 0, .int .i64 0, .int .i64 0, .int .i64 0, .int .i64 0, .int .i64 0, .int .i64 0, .int .i64 0] 52)
 have HZb := Lib.hid (heap_new v1 (.cells #[.int .i64 0, .int .i64 0, .int .i64 0, .int .i64 0, .int .i64 0, .int .i64 0, .int .i64 0, .int .i64 0] 52))
 replace HZa := Lib.hid ((nb.block _ (Array.getElem?_eq_some_iff.1 HZa.out).1).trans HZa.out)
 replace HB := Lib.hid (HB.out.trans (nb.mono HB.out.size))
 clear nb
 obtain ⟨v2, hv2⟩ : ∃ v2, v2 = v1.alloc (.cells #[.int .i64 0, .int .i64 0, .int .i64 0, .int .i64 0, .int .i64 0, .int .i64 0, .int .i64 0, .int .i64 0] 52) := ⟨_, rfl⟩
 rw [← hv2] at HB HZa HZb ⊢
 clear hv2
 obtain ⟨Bb, hBb⟩ : ∃ g, g = v1.heap.size := ⟨_, rfl⟩
 have HGb := Lib.hid (show w.heap.size ≤ Bb from by rw [hBb]; exact HSv1.out)
 rw [← hBb] at HZb ⊢
 have HNE := Lib.hid (show Ba ≠ Bb from by omega)
 clear hBb
 clear hlt2
 have HSv2 := Lib.hid HB.out.size
 refine hK.out _ _ ?_ (fun hHeld => ?_)
 · exact HB.out
 clear hK K
 (try simp only [Act.put, List.setIfInBounds_toArray, List.set_cons_zero, List.set_cons_succ])
 refine wpAnyH_ready (rs := [10]) (by kernel_rfl) (by simp) ?_
 refine AllReadyH.cons (o := { dst := none, op := Op.store 52 (Operand.tmp 7) (Operand.tmp 12), type := 0, pos := "ref.go:100", after := #[{ on := 8, ground := Ground.data }, { on := 3, ground := Ground.data }, { on := 0, ground := Ground.phase }, { on := 1, ground := Ground.phase }, { on := 2, ground := Ground.phase }, { on := 3, ground := Ground.phase }, { on := 4, ground := Ground.textOnly Departure.lateStores }, { on := 5, ground := Ground.textOnly Departure.lateStores }, { on := 6, ground := Ground.textOnly Departure.lateStores }, { on := 7, ground := Ground.textOnly Departure.lateStores }, { on := 8, ground := Ground.phase }, { on := 9, ground := Ground.phase }], guard := none }) rfl (fun K hK => ?_) AllReadyH.nil
 have z0 := (cell_of_row _ _ 0 _ _ _ HZa.out).trans rfl
 have z1 := (cell_of_row _ _ 1 _ _ _ HZa.out).trans rfl
 have z2 := (cell_of_row _ _ 2 _ _ _ HZa.out).trans rfl
 have z3 := (cell_of_row _ _ 3 _ _ _ HZa.out).trans rfl
 have z4 := (cell_of_row _ _ 4 _ _ _ HZa.out).trans rfl
 have z5 := (cell_of_row _ _ 5 _ _ _ HZa.out).trans rfl
 have z6 := (cell_of_row _ _ 6 _ _ _ HZa.out).trans rfl
 have z7 := (cell_of_row _ _ 7 _ _ _ HZa.out).trans rfl
 have f0 := frozen_of_row v2 Ba 0 _ _ HZa.out
 have f1 := frozen_of_row v2 Ba 1 _ _ HZa.out
 have f2 := frozen_of_row v2 Ba 2 _ _ HZa.out
 have f3 := frozen_of_row v2 Ba 3 _ _ HZa.out
 have f4 := frozen_of_row v2 Ba 4 _ _ HZa.out
 have f5 := frozen_of_row v2 Ba 5 _ _ HZa.out
 have f6 := frozen_of_row v2 Ba 6 _ _ HZa.out
 have f7 := frozen_of_row v2 Ba 7 _ _ HZa.out
 go_simp
 rw [nest_80]
 have HOa := Lib.hid (show (sets v2 Ba 0 [.int .i64 ai, .int .i64 a0, .int .i64 a1, .int .i64 a2, .int .i64 a3, .int .i64 a4, .int .i64 a5, .int .i64 av]).heap[Ba]? = some (.cells #[.int .i64 ai, .int .i64 a0, .int .i64 a1, .int .i64 a2, .int .i64 a3, .int .i64 a4, .int .i64 a5, .int .i64 av] 52 (0, 0)) from (sets_row [.int .i64 ai, .int .i64 a0, .int .i64 a1, .int .i64 a2, .int .i64 a3, .int .i64 a4, .int .i64 a5, .int .i64 av] v2 0 _ HZa.out).trans rfl)
 replace HZb := Lib.hid ((sets_far (k := Bb) (g := Ba) (by have := HNE.out; omega) [.int .i64 ai, .int .i64 a0, .int .i64 a1, .int .i64 a2, .int .i64 a3, .int .i64 a4, .int .i64 a5, .int .i64 av] v2 0).trans HZb.out)
 replace HB := Lib.hid (HB.out.grown (sets_grown (w := v2) (g := Ba) [.int .i64 ai, .int .i64 a0, .int .i64 a1, .int .i64 a2, .int .i64 a3, .int .i64 a4, .int .i64 a5, .int .i64 av] 0) HB.out.size (fun r hr => by injection hr with hr; have := HGa.out; omega))
 clear HZa z0 f0 z1 f1 z2 f2 z3 f3 z4 f4 z5 f5 z6 f6 z7 f7
 obtain ⟨v3, hv3⟩ : ∃ v3, v3 = sets v2 Ba 0 [.int .i64 ai, .int .i64 a0, .int .i64 a1, .int .i64 a2, .int .i64 a3, .int .i64 a4, .int .i64 a5, .int .i64 av] := ⟨_, rfl⟩
 rw [← hv3] at HB HZb HOa ⊢
 clear hv3
 have HSv3 := Lib.hid HB.out.size
 refine hK.out _ _ ?_ (fun hHeld => ?_)
 · exact HB.out
 clear hK K
 (try simp only [Act.put, List.setIfInBounds_toArray, List.set_cons_zero, List.set_cons_succ])
 refine wpAnyH_ready (rs := [11]) (by kernel_rfl) (by simp) ?_
 refine AllReadyH.cons (o := { dst := none, op := Op.store 52 (Operand.tmp 8) (Operand.tmp 16), type := 0, pos := "ref.go:100", after := #[{ on := 9, ground := Ground.data }, { on := 7, ground := Ground.data }, { on := 10, ground := Ground.chain }, { on := 0, ground := Ground.phase }, { on := 1, ground := Ground.phase }, { on := 2, ground := Ground.phase }, { on := 3, ground := Ground.phase }, { on := 4, ground := Ground.phase }, { on := 5, ground := Ground.phase }, { on := 6, ground := Ground.phase }, { on := 7, ground := Ground.phase }, { on := 8, ground := Ground.phase }, { on := 9, ground := Ground.phase }, { on := 10, ground := Ground.phase }], guard := none }) rfl (fun K hK => ?_) AllReadyH.nil
 have z0 := (cell_of_row _ _ 0 _ _ _ HZb.out).trans rfl
 have z1 := (cell_of_row _ _ 1 _ _ _ HZb.out).trans rfl
 have z2 := (cell_of_row _ _ 2 _ _ _ HZb.out).trans rfl
 have z3 := (cell_of_row _ _ 3 _ _ _ HZb.out).trans rfl
 have z4 := (cell_of_row _ _ 4 _ _ _ HZb.out).trans rfl
 have z5 := (cell_of_row _ _ 5 _ _ _ HZb.out).trans rfl
 have z6 := (cell_of_row _ _ 6 _ _ _ HZb.out).trans rfl
 have z7 := (cell_of_row _ _ 7 _ _ _ HZb.out).trans rfl
 have f0 := frozen_of_row v3 Bb 0 _ _ HZb.out
 have f1 := frozen_of_row v3 Bb 1 _ _ HZb.out
 have f2 := frozen_of_row v3 Bb 2 _ _ HZb.out
 have f3 := frozen_of_row v3 Bb 3 _ _ HZb.out
 have f4 := frozen_of_row v3 Bb 4 _ _ HZb.out
 have f5 := frozen_of_row v3 Bb 5 _ _ HZb.out
 have f6 := frozen_of_row v3 Bb 6 _ _ HZb.out
 have f7 := frozen_of_row v3 Bb 7 _ _ HZb.out
 go_simp
 rw [nest_80]
 have HOb := Lib.hid (show (sets v3 Bb 0 [.int .i64 bi, .int .i64 b0, .int .i64 b1, .int .i64 b2, .int .i64 b3, .int .i64 b4, .int .i64 b5, .int .i64 bv]).heap[Bb]? = some (.cells #[.int .i64 bi, .int .i64 b0, .int .i64 b1, .int .i64 b2, .int .i64 b3, .int .i64 b4, .int .i64 b5, .int .i64 bv] 52 (0, 0)) from (sets_row [.int .i64 bi, .int .i64 b0, .int .i64 b1, .int .i64 b2, .int .i64 b3, .int .i64 b4, .int .i64 b5, .int .i64 bv] v3 0 _ HZb.out).trans rfl)
 replace HOa := Lib.hid ((sets_far (k := Ba) (g := Bb) (by have := HNE.out; omega) [.int .i64 bi, .int .i64 b0, .int .i64 b1, .int .i64 b2, .int .i64 b3, .int .i64 b4, .int .i64 b5, .int .i64 bv] v3 0).trans HOa.out)
 replace HB := Lib.hid (HB.out.grown (sets_grown (w := v3) (g := Bb) [.int .i64 bi, .int .i64 b0, .int .i64 b1, .int .i64 b2, .int .i64 b3, .int .i64 b4, .int .i64 b5, .int .i64 bv] 0) HB.out.size (fun r hr => by injection hr with hr; have := HGb.out; omega))
 clear HZb z0 f0 z1 f1 z2 f2 z3 f3 z4 f4 z5 f5 z6 f6 z7 f7
 obtain ⟨v4, hv4⟩ : ∃ v4, v4 = sets v3 Bb 0 [.int .i64 bi, .int .i64 b0, .int .i64 b1, .int .i64 b2, .int .i64 b3, .int .i64 b4, .int .i64 b5, .int .i64 bv] := ⟨_, rfl⟩
 rw [← hv4] at HB HOa HOb ⊢
 clear hv4
 have HSv4 := Lib.hid HB.out.size
 refine hK.out _ _ ?_ (fun hHeld => ?_)
 · exact HB.out
 clear hK K
 (try simp only [Act.put, List.setIfInBounds_toArray, List.set_cons_zero, List.set_cons_succ])
 refine wpAnyH_done (by kernel_rfl) ?_ _
 go_wp2_with fail
 go_meet
 exact ⟨Ba, Bb, rfl, rfl, Lib.hid ⟨HOa.out, HOb.out, HB.out⟩⟩
 }
    {
 go_simp
 have nb := below_new Y (.cells #[.int .i64 0, .int .i64 0, .int .i64 0, .int .i64 0, .int .i64 0, .int .i64 0, .int .i64 0, .int .i64 0] 52)
 have HZb := Lib.hid (heap_new Y (.cells #[.int .i64 0, .int .i64 0, .int .i64 0, .int .i64 0, .int .i64 0, .int .i64 0, .int .i64 0, .int .i64 0] 52))
 replace HB := Lib.hid (HB.out.trans (nb.mono HB.out.size))
 clear nb
 obtain ⟨v5, hv5⟩ : ∃ v5, v5 = Y.alloc (.cells #[.int .i64 0, .int .i64 0, .int .i64 0, .int .i64 0, .int .i64 0, .int .i64 0, .int .i64 0, .int .i64 0] 52) := ⟨_, rfl⟩
 rw [← hv5] at HB HZb ⊢
 clear hv5
 obtain ⟨Bb, hBb⟩ : ∃ g, g = Y.heap.size := ⟨_, rfl⟩
 have HGb := Lib.hid (show w.heap.size ≤ Bb from by rw [hBb]; exact HSY.out)
 rw [← hBb] at HZb ⊢
 clear hBb
 have HSv5 := Lib.hid HB.out.size
 refine hK.out _ _ ?_ (fun hHeld => ?_)
 · exact HB.out
 clear hK K
 (try simp only [Act.put, List.setIfInBounds_toArray, List.set_cons_zero, List.set_cons_succ])
 refine wpAnyH_ready (rs := [8]) (by kernel_rfl) (by simp) ?_
 refine AllReadyH.cons (o := { dst := some 7, op := Op.alloc 52, type := 0, pos := "ref.go:100", after := #[], guard := none }) rfl (fun K hK => ?_) AllReadyH.nil
 go_simp
 have hlt2 := (Array.getElem?_eq_some_iff.1 HZb.out).1
 have nb := below_new v5 (.cells #[.int .i64 0, .int .i64 0, .int .i64 0, .int .i64 0, .int .i64 0, .int .i64 0, .int .i64 0, .int .i64 0] 52)
 have HZa := Lib.hid (heap_new v5 (.cells #[.int .i64 0, .int .i64 0, .int .i64 0, .int .i64 0, .int .i64 0, .int .i64 0, .int .i64 0, .int .i64 0] 52))
 replace HZb := Lib.hid ((nb.block _ (Array.getElem?_eq_some_iff.1 HZb.out).1).trans HZb.out)
 replace HB := Lib.hid (HB.out.trans (nb.mono HB.out.size))
 clear nb
 obtain ⟨v6, hv6⟩ : ∃ v6, v6 = v5.alloc (.cells #[.int .i64 0, .int .i64 0, .int .i64 0, .int .i64 0, .int .i64 0, .int .i64 0, .int .i64 0, .int .i64 0] 52) := ⟨_, rfl⟩
 rw [← hv6] at HB HZa HZb ⊢
 clear hv6
 obtain ⟨Ba, hBa⟩ : ∃ g, g = v5.heap.size := ⟨_, rfl⟩
 have HGa := Lib.hid (show w.heap.size ≤ Ba from by rw [hBa]; exact HSv5.out)
 rw [← hBa] at HZa ⊢
 have HNE := Lib.hid (show Ba ≠ Bb from by omega)
 clear hBa
 clear hlt2
 have HSv6 := Lib.hid HB.out.size
 refine hK.out _ _ ?_ (fun hHeld => ?_)
 · exact HB.out
 clear hK K
 (try simp only [Act.put, List.setIfInBounds_toArray, List.set_cons_zero, List.set_cons_succ])
 refine wpAnyH_ready (rs := [10]) (by kernel_rfl) (by simp) ?_
 refine AllReadyH.cons (o := { dst := none, op := Op.store 52 (Operand.tmp 7) (Operand.tmp 12), type := 0, pos := "ref.go:100", after := #[{ on := 8, ground := Ground.data }, { on := 3, ground := Ground.data }, { on := 0, ground := Ground.phase }, { on := 1, ground := Ground.phase }, { on := 2, ground := Ground.phase }, { on := 3, ground := Ground.phase }, { on := 4, ground := Ground.textOnly Departure.lateStores }, { on := 5, ground := Ground.textOnly Departure.lateStores }, { on := 6, ground := Ground.textOnly Departure.lateStores }, { on := 7, ground := Ground.textOnly Departure.lateStores }, { on := 8, ground := Ground.phase }, { on := 9, ground := Ground.phase }], guard := none }) rfl (fun K hK => ?_) AllReadyH.nil
 have z0 := (cell_of_row _ _ 0 _ _ _ HZa.out).trans rfl
 have z1 := (cell_of_row _ _ 1 _ _ _ HZa.out).trans rfl
 have z2 := (cell_of_row _ _ 2 _ _ _ HZa.out).trans rfl
 have z3 := (cell_of_row _ _ 3 _ _ _ HZa.out).trans rfl
 have z4 := (cell_of_row _ _ 4 _ _ _ HZa.out).trans rfl
 have z5 := (cell_of_row _ _ 5 _ _ _ HZa.out).trans rfl
 have z6 := (cell_of_row _ _ 6 _ _ _ HZa.out).trans rfl
 have z7 := (cell_of_row _ _ 7 _ _ _ HZa.out).trans rfl
 have f0 := frozen_of_row v6 Ba 0 _ _ HZa.out
 have f1 := frozen_of_row v6 Ba 1 _ _ HZa.out
 have f2 := frozen_of_row v6 Ba 2 _ _ HZa.out
 have f3 := frozen_of_row v6 Ba 3 _ _ HZa.out
 have f4 := frozen_of_row v6 Ba 4 _ _ HZa.out
 have f5 := frozen_of_row v6 Ba 5 _ _ HZa.out
 have f6 := frozen_of_row v6 Ba 6 _ _ HZa.out
 have f7 := frozen_of_row v6 Ba 7 _ _ HZa.out
 go_simp
 rw [nest_80]
 have HOa := Lib.hid (show (sets v6 Ba 0 [.int .i64 ai, .int .i64 a0, .int .i64 a1, .int .i64 a2, .int .i64 a3, .int .i64 a4, .int .i64 a5, .int .i64 av]).heap[Ba]? = some (.cells #[.int .i64 ai, .int .i64 a0, .int .i64 a1, .int .i64 a2, .int .i64 a3, .int .i64 a4, .int .i64 a5, .int .i64 av] 52 (0, 0)) from (sets_row [.int .i64 ai, .int .i64 a0, .int .i64 a1, .int .i64 a2, .int .i64 a3, .int .i64 a4, .int .i64 a5, .int .i64 av] v6 0 _ HZa.out).trans rfl)
 replace HZb := Lib.hid ((sets_far (k := Bb) (g := Ba) (by have := HNE.out; omega) [.int .i64 ai, .int .i64 a0, .int .i64 a1, .int .i64 a2, .int .i64 a3, .int .i64 a4, .int .i64 a5, .int .i64 av] v6 0).trans HZb.out)
 replace HB := Lib.hid (HB.out.grown (sets_grown (w := v6) (g := Ba) [.int .i64 ai, .int .i64 a0, .int .i64 a1, .int .i64 a2, .int .i64 a3, .int .i64 a4, .int .i64 a5, .int .i64 av] 0) HB.out.size (fun r hr => by injection hr with hr; have := HGa.out; omega))
 clear HZa z0 f0 z1 f1 z2 f2 z3 f3 z4 f4 z5 f5 z6 f6 z7 f7
 obtain ⟨v7, hv7⟩ : ∃ v7, v7 = sets v6 Ba 0 [.int .i64 ai, .int .i64 a0, .int .i64 a1, .int .i64 a2, .int .i64 a3, .int .i64 a4, .int .i64 a5, .int .i64 av] := ⟨_, rfl⟩
 rw [← hv7] at HB HZb HOa ⊢
 clear hv7
 have HSv7 := Lib.hid HB.out.size
 refine hK.out _ _ ?_ (fun hHeld => ?_)
 · exact HB.out
 clear hK K
 (try simp only [Act.put, List.setIfInBounds_toArray, List.set_cons_zero, List.set_cons_succ])
 refine wpAnyH_ready (rs := [11]) (by kernel_rfl) (by simp) ?_
 refine AllReadyH.cons (o := { dst := none, op := Op.store 52 (Operand.tmp 8) (Operand.tmp 16), type := 0, pos := "ref.go:100", after := #[{ on := 9, ground := Ground.data }, { on := 7, ground := Ground.data }, { on := 10, ground := Ground.chain }, { on := 0, ground := Ground.phase }, { on := 1, ground := Ground.phase }, { on := 2, ground := Ground.phase }, { on := 3, ground := Ground.phase }, { on := 4, ground := Ground.phase }, { on := 5, ground := Ground.phase }, { on := 6, ground := Ground.phase }, { on := 7, ground := Ground.phase }, { on := 8, ground := Ground.phase }, { on := 9, ground := Ground.phase }, { on := 10, ground := Ground.phase }], guard := none }) rfl (fun K hK => ?_) AllReadyH.nil
 have z0 := (cell_of_row _ _ 0 _ _ _ HZb.out).trans rfl
 have z1 := (cell_of_row _ _ 1 _ _ _ HZb.out).trans rfl
 have z2 := (cell_of_row _ _ 2 _ _ _ HZb.out).trans rfl
 have z3 := (cell_of_row _ _ 3 _ _ _ HZb.out).trans rfl
 have z4 := (cell_of_row _ _ 4 _ _ _ HZb.out).trans rfl
 have z5 := (cell_of_row _ _ 5 _ _ _ HZb.out).trans rfl
 have z6 := (cell_of_row _ _ 6 _ _ _ HZb.out).trans rfl
 have z7 := (cell_of_row _ _ 7 _ _ _ HZb.out).trans rfl
 have f0 := frozen_of_row v7 Bb 0 _ _ HZb.out
 have f1 := frozen_of_row v7 Bb 1 _ _ HZb.out
 have f2 := frozen_of_row v7 Bb 2 _ _ HZb.out
 have f3 := frozen_of_row v7 Bb 3 _ _ HZb.out
 have f4 := frozen_of_row v7 Bb 4 _ _ HZb.out
 have f5 := frozen_of_row v7 Bb 5 _ _ HZb.out
 have f6 := frozen_of_row v7 Bb 6 _ _ HZb.out
 have f7 := frozen_of_row v7 Bb 7 _ _ HZb.out
 go_simp
 rw [nest_80]
 have HOb := Lib.hid (show (sets v7 Bb 0 [.int .i64 bi, .int .i64 b0, .int .i64 b1, .int .i64 b2, .int .i64 b3, .int .i64 b4, .int .i64 b5, .int .i64 bv]).heap[Bb]? = some (.cells #[.int .i64 bi, .int .i64 b0, .int .i64 b1, .int .i64 b2, .int .i64 b3, .int .i64 b4, .int .i64 b5, .int .i64 bv] 52 (0, 0)) from (sets_row [.int .i64 bi, .int .i64 b0, .int .i64 b1, .int .i64 b2, .int .i64 b3, .int .i64 b4, .int .i64 b5, .int .i64 bv] v7 0 _ HZb.out).trans rfl)
 replace HOa := Lib.hid ((sets_far (k := Ba) (g := Bb) (by have := HNE.out; omega) [.int .i64 bi, .int .i64 b0, .int .i64 b1, .int .i64 b2, .int .i64 b3, .int .i64 b4, .int .i64 b5, .int .i64 bv] v7 0).trans HOa.out)
 replace HB := Lib.hid (HB.out.grown (sets_grown (w := v7) (g := Bb) [.int .i64 bi, .int .i64 b0, .int .i64 b1, .int .i64 b2, .int .i64 b3, .int .i64 b4, .int .i64 b5, .int .i64 bv] 0) HB.out.size (fun r hr => by injection hr with hr; have := HGb.out; omega))
 clear HZb z0 f0 z1 f1 z2 f2 z3 f3 z4 f4 z5 f5 z6 f6 z7 f7
 obtain ⟨v8, hv8⟩ : ∃ v8, v8 = sets v7 Bb 0 [.int .i64 bi, .int .i64 b0, .int .i64 b1, .int .i64 b2, .int .i64 b3, .int .i64 b4, .int .i64 b5, .int .i64 bv] := ⟨_, rfl⟩
 rw [← hv8] at HB HOa HOb ⊢
 clear hv8
 have HSv8 := Lib.hid HB.out.size
 refine hK.out _ _ ?_ (fun hHeld => ?_)
 · exact HB.out
 clear hK K
 (try simp only [Act.put, List.setIfInBounds_toArray, List.set_cons_zero, List.set_cons_succ])
 refine wpAnyH_done (by kernel_rfl) ?_ _
 go_wp2_with fail
 go_meet
 exact ⟨Ba, Bb, rfl, rfl, Lib.hid ⟨HOa.out, HOb.out, HB.out⟩⟩
 }
  case rest =>
    obtain ⟨Ba, Bb, rfl, rfl, hQ⟩ := hcut
    have hA := hQ.out.1
    have hB := hQ.out.2.1
    have HB := Lib.hid hQ.out.2.2
    clear hQ
    have a0c := (cell_of_row _ _ 0 _ _ _ hA).trans rfl
    have a1c := (cell_of_row _ _ 1 _ _ _ hA).trans rfl
    have a2c := (cell_of_row _ _ 2 _ _ _ hA).trans rfl
    have a3c := (cell_of_row _ _ 3 _ _ _ hA).trans rfl
    have a4c := (cell_of_row _ _ 4 _ _ _ hA).trans rfl
    have a5c := (cell_of_row _ _ 5 _ _ _ hA).trans rfl
    have a6c := (cell_of_row _ _ 6 _ _ _ hA).trans rfl
    have a7c := (cell_of_row _ _ 7 _ _ _ hA).trans rfl
    have b0c := (cell_of_row _ _ 0 _ _ _ hB).trans rfl
    have b1c := (cell_of_row _ _ 1 _ _ _ hB).trans rfl
    have b2c := (cell_of_row _ _ 2 _ _ _ hB).trans rfl
    have b3c := (cell_of_row _ _ 3 _ _ _ hB).trans rfl
    have b4c := (cell_of_row _ _ 4 _ _ _ hB).trans rfl
    have b5c := (cell_of_row _ _ 5 _ _ _ hB).trans rfl
    have b6c := (cell_of_row _ _ 6 _ _ _ hB).trans rfl
    have b7c := (cell_of_row _ _ 7 _ _ _ hB).trans rfl
    have HWi := Lib.hid (fun w' => rwithin_any b0 b1 b2 b3 b4 b5 a0 a1 a2 a3 a4 a5 w')
    have HEQ := Lib.hid (fun w' => run_neq_lit a0 a1 a2 a3 a4 a5 b0 b1 b2 b3 b4 b5 w')
    have HA := Lib.hid hA
    have HBb := Lib.hid hB
    clear hA hB
    by_cases hik : i = k
    · have d1 : ((i : Int) == (k : Int)) = true := beq_iff_eq.2 (by omega)
      have HE := Lib.hid (show R = false from by rw [HR.out, decide_eq_false (fun h => h hik)]; rfl)
      clear hik HEQ HWi
      go_wp2
      go_ret
      exact ⟨by rw [HE.out]; try rfl, HB.out⟩
    · have d1 : ((i : Int) == (k : Int)) = false := beq_eq_false_iff_ne.2 (by omega)
      have z1 : decide (i ≠ k) = true := decide_eq_true hik
      by_cases hbd : bi = ai
      · have d2 : (ai != bi) = false := by rw [bne, beq_iff_eq.2 hbd.symm]; rfl
        have z2 : decide (bi = ai) = true := decide_eq_true hbd
        have HR2 := Lib.hid (show R = (decide (av ≤ bv) && MB.withinB [b0, b1, b2, b3, b4, b5] [a0, a1, a2, a3, a4, a5] 6 && (decide ([a0, a1, a2, a3, a4, a5] ≠ [b0, b1, b2, b3, b4, b5]) || decide (av ≠ bv) || decide (k < i))) from by rw [HR.out, z1, z2]; simp)
        clear HR z1 z2 hbd
        generalize hwi : MB.withinB [b0, b1, b2, b3, b4, b5] [a0, a1, a2, a3, a4, a5] 6 = u at *
        clear hwi
        go_wp2_with fail
        refine (HWi.out _).mono ?_
        rintro ev w2 ⟨rfl, nb⟩
        have B2 := Lib.hid (HB.out.trans (nb.mono HB.out.size))
        have hA2 := (nb.block Ba (Array.getElem?_eq_some_iff.1 HA.out).1).trans HA.out
        have hB2 := (nb.block Bb (Array.getElem?_eq_some_iff.1 HBb.out).1).trans HBb.out
        clear nb a0c a1c a2c a3c a4c a5c a6c a7c b0c b1c b2c b3c b4c b5c b6c b7c HA HBb HB
        have a0c := (cell_of_row _ _ 0 _ _ _ hA2).trans rfl
        have a1c := (cell_of_row _ _ 1 _ _ _ hA2).trans rfl
        have a2c := (cell_of_row _ _ 2 _ _ _ hA2).trans rfl
        have a3c := (cell_of_row _ _ 3 _ _ _ hA2).trans rfl
        have a4c := (cell_of_row _ _ 4 _ _ _ hA2).trans rfl
        have a5c := (cell_of_row _ _ 5 _ _ _ hA2).trans rfl
        have a6c := (cell_of_row _ _ 6 _ _ _ hA2).trans rfl
        have a7c := (cell_of_row _ _ 7 _ _ _ hA2).trans rfl
        have b0c := (cell_of_row _ _ 0 _ _ _ hB2).trans rfl
        have b1c := (cell_of_row _ _ 1 _ _ _ hB2).trans rfl
        have b2c := (cell_of_row _ _ 2 _ _ _ hB2).trans rfl
        have b3c := (cell_of_row _ _ 3 _ _ _ hB2).trans rfl
        have b4c := (cell_of_row _ _ 4 _ _ _ hB2).trans rfl
        have b5c := (cell_of_row _ _ 5 _ _ _ hB2).trans rfl
        have b6c := (cell_of_row _ _ 6 _ _ _ hB2).trans rfl
        have b7c := (cell_of_row _ _ 7 _ _ _ hB2).trans rfl
        clear hA2 hB2
        cases u with
        | false =>
          have HE := Lib.hid (show R = false from by rw [HR2.out]; simp)
          clear HEQ HWi
          go_wp2
          go_ret
          exact ⟨by rw [HE.out]; try rfl, B2.out⟩
        | true =>
          by_cases hv : bv < av
          · have d3 : decide (bv < av) = true := decide_eq_true hv
            have HE := Lib.hid (show R = false from by rw [HR2.out, decide_eq_false (show ¬ av ≤ bv by omega)]; rfl)
            clear HEQ HWi hv
            go_wp2
            go_ret
            exact ⟨by rw [HE.out]; try rfl, B2.out⟩
          · have d3 : decide (bv < av) = false := decide_eq_false hv
            have HR3 := Lib.hid (show R = (decide ([a0, a1, a2, a3, a4, a5] ≠ [b0, b1, b2, b3, b4, b5]) || decide (av ≠ bv) || decide (k < i)) from by rw [HR2.out, decide_eq_true (show av ≤ bv by omega)]; rfl)
            clear HR2 hv
            by_cases hw : [a0, a1, a2, a3, a4, a5] = [b0, b1, b2, b3, b4, b5]
            · have e9 := HEQ.out
              rw [decide_eq_true hw] at e9
              by_cases hv2 : av = bv
              · have d4 : (av != bv) = false := by rw [bne, beq_iff_eq.2 hv2]; rfl
                have HE := Lib.hid (show R = decide (k < i) from by rw [HR3.out, decide_eq_false (fun h => h hw), decide_eq_false (fun h => h hv2)]; simp)
                clear HEQ HWi hw hv2
                go_wp2
                go_ret
                exact ⟨by rw [HE.out]; try rfl, B2.out⟩
              · have d4 : (av != bv) = true := by rw [bne, beq_eq_false_iff_ne.2 hv2]; rfl
                have HE := Lib.hid (show R = true from by rw [HR3.out, decide_eq_true hv2]; simp)
                clear HEQ HWi hw hv2
                go_wp2
                go_ret
                exact ⟨by rw [HE.out]; try rfl, B2.out⟩
            · have e9 := HEQ.out
              rw [decide_eq_false hw] at e9
              have HE := Lib.hid (show R = true from by rw [HR3.out, decide_eq_true hw]; simp)
              clear HEQ HWi hw
              go_wp2
              go_ret
              exact ⟨by rw [HE.out]; try rfl, B2.out⟩
      · have d2 : (ai != bi) = true := by rw [bne, beq_eq_false_iff_ne.2 (fun h => hbd h.symm)]; rfl
        have HE := Lib.hid (show R = false from by rw [HR.out, decide_eq_false hbd]; simp)
        clear HEQ HWi hbd
        go_wp2
        go_ret
        exact ⟨by rw [HE.out]; try rfl, HB.out⟩
end Go.Proofs.Ytbnillkihmooeaa
