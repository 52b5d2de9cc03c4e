/- FMin, FOfIn, joined: no claim of its own. -/
import Derived.Test.YtjjpfpgjpmedmaaJFB
import Derived.Laws.CopyOwn
import Derived.Test.YtjjpfpgjpmedmaaJFA
import Derived.Test.YtjjpfpgjpmedmaaJJ
namespace Go.Proofs.Ytjjpfpgjpmedmaa
open Go.RowKit
attribute [local go_sem] Oper.semAt_some
theorem infoOff : (Try.prog.info? 60).map (fun i => (i.zero, i.size, i.bytes)) = some (some (.agg #[.int .i64 0, .int .i64 0, .int .i64 0, .int .i64 0, .int .i64 0, .int .i64 0, .int .i64 0, .int .i64 0]), 8, 64) := by kernel_rfl
theorem BB.far {X Y : World} {b : Nat} {t : TypeId} {xs : List Int} {row : Option Nat} (h : BB X b t xs) (hg : X.grownBy Y row) (hr : ∀ r, row = some r → r ≠ b) : BB Y b t xs := ⟨(hg.block b h.lt (fun e => hr b e.symm rfl)).trans h.1, h.2⟩
theorem fset_grown (X : World) (g k : Nat) (v : Value) : X.grownBy (X.setCell ⟨g, k, none⟩ v) (some g) :=
  ⟨rfl, rfl, rfl, by rw [World.size_setCell]; exact Nat.le_refl _, fun j _ hj => Below.heap_setCell X ⟨g, k, none⟩ v j (fun e => hj (by rw [e]))⟩
/-- What minimal has laid: the table's, the supply's, the other table's, the list's and the rank's variables; the other table behind m bundles; the list (v in its variable, u its value). -/
structure Mn (w : World) (s L : List Int) (A : Option Addr) (n c M e k m : Nat) (v u : Value) (Os : List MF.Of) (X : World) : Prop where
  below : Below w.heap.size w X
  tb : Boxed X w.heap.size 64 (.slice A n c)
  sb : BB X (w.heap.size + 1) 24 s
  mb : Boxed X (M) 64 (.slice (some ⟨w.heap.size + 2, 0, none⟩) n n)
  blk : Blk X (w.heap.size + 2) (F (gM L s m) n) 2
  lb : Boxed X (M + 1) 22 v
  own : OwnL ofE 60 X e u Os
  rk : Boxed X (M + 2) 3 (.int .i64 k)
  ge : e ≤ X.heap.size
  le : M + 3 ≤ e
  hM : w.heap.size + 3 ≤ M
  few : Os.length ≤ 1024
section
variable {w X Y Z : World} {s L : List Int} {A : Option Addr} {n c M e k m b : Nat} {v u u' : Value} {Os : List MF.Of} {o : MF.Of}
theorem Mn.row (h : Mn w s L A n c M e k m v u Os X) (r : Nat) (hr : u.ownBlock = some r) : e ≤ r := (World.ownsRow.lt h.own.1 r hr).1
theorem Mn.keep (h : Mn w s L A n c M e k m v u Os X) (hb : Below X.heap.size X Y) : Mn w s L A n c M e k m v u Os Y :=
  ⟨h.below.trans (hb.mono (by have := h.ge; have := h.le; have := h.hM; omega)), (hb.block _ h.tb.lt).trans h.tb, h.sb.keep hb h.sb.lt, (hb.block _ h.mb.lt).trans h.mb, h.blk.keep hb, (hb.block _ h.lb.lt).trans h.lb, h.own.keep hb, (hb.block _ h.rk.lt).trans h.rk, Nat.le_trans h.ge hb.size, h.le, h.hM, h.few⟩
/-- Some block from e on, or of the iterator's, is turned or grown. -/
theorem Mn.far {row : Option Nat} (h : Mn w s L A n c M e k m v u Os X) (hg : X.grownBy Y row) (hr : ∀ r, row = some r → (M + 3) ≤ r) (ho : u.ownBlock = none ∨ u.ownBlock ≠ row) : Mn w s L A n c M e k m v u Os Y := by
  have hl := h.le
  have hMM := h.hM
  have hge := h.ge
  have far : ∀ k, k < (M + 3) → Y.heap[k]? = X.heap[k]? := fun k hk => hg.block k (by omega) (fun q => by have := hr _ q.symm; omega)
  exact ⟨h.below.grown hg (by omega) (fun k q => by have := hr k q; omega), (far _ (by omega)).trans h.tb, ⟨(far _ (by omega)).trans h.sb.1, h.sb.2⟩, (far _ (by omega)).trans h.mb, h.blk.same (far _ (by omega)), (far _ (by omega)).trans h.lb, ⟨World.ownsRow.kept (row := row) h.own.1 hg ho, h.own.2⟩, (far _ (by omega)).trans h.rk, Nat.le_trans hge hg.size, hl, h.hM, h.few⟩
theorem Mn.step (h : Mn w s L A n c M e k m v u Os X) (hs : Stp b e X Y) (hb : (M + 3) ≤ b) : Mn w s L A n c M e k m v u Os Y := by
  obtain ⟨row, hg, hr⟩ := hs
  refine h.far hg (fun r hr' => by have := hr r hr'; omega) ?_
  cases hu : u.ownBlock with
  | none => exact .inl rfl
  | some j => exact .inr fun q => by have h1 := hr j q.symm; have := h.row j hu; omega
theorem Mn.app {gg cp : Nat} (h : Mn w s L A n c M e k m v u Os X) (hf : ofE.fine o ∧ Os.length + 1 ≤ 1024) (hown : Y.ownsRow e 60 8 (.slice (some ⟨gg, 0, none⟩) (Os.length + 1) cp) (Os.length + 1) (ofE.all Os ++ ofE.cells o)) (hg : X.grownBy Y u.ownBlock) : Mn w s L A n c M e k m v (.slice (some ⟨gg, 0, none⟩) (Os.length + 1) cp) (Os ++ [o]) Y := by
  have hl := h.le
  have hMM := h.hM
  have hge := h.ge
  have far : ∀ k, k < (M + 3) → Y.heap[k]? = X.heap[k]? := fun k hk => hg.block k (by omega) (fun q => by have := h.row _ q.symm; omega)
  exact ⟨h.below.grown hg (by omega) (fun k q => by have := h.row k q; omega), (far _ (by omega)).trans h.tb, ⟨(far _ (by omega)).trans h.sb.1, h.sb.2⟩, (far _ (by omega)).trans h.mb, h.blk.same (far _ (by omega)), (far _ (by omega)).trans h.lb, ⟨by rw [El.all_append, El.all_one, List.length_append]; exact hown, h.own.2.snoc hf.1⟩, (far _ (by omega)).trans h.rk, Nat.le_trans hge hg.size, hl, h.hM, by rw [List.length_append]; exact hf.2⟩
theorem Mn.sets {g i : Nat} {x : Value} (h : Mn w s L A n c M e k m v u Os X) (hg : w.heap.size ≤ g ∧ g < M + 3) : Below w.heap.size w (X.setCell ⟨g, i, none⟩ x) ∧ OwnL ofE 60 (X.setCell ⟨g, i, none⟩ x) e u Os ∧ e ≤ (X.setCell ⟨g, i, none⟩ x).heap.size := by
  refine ⟨h.below.setCell (p := ⟨g, i, none⟩) hg.1 _, ⟨World.ownsRow.kept (row := some g) h.own.1 (fset_grown X g i x) ?_, h.own.2⟩, by rw [World.size_setCell]; exact h.ge⟩
  cases hu : u.ownBlock with
  | none => exact .inl rfl
  | some j => exact .inr fun q => by injection q with q; have := h.row j hu; have := h.le; omega
theorem boxed_other {X : World} {b g i : Nat} {t : TypeId} {y x : Value} (h : Boxed X b t y) (hne : b ≠ g) : Boxed (X.setCell ⟨g, i, none⟩ x) b t y := (Below.heap_setCell X ⟨g, i, none⟩ x b hne).trans h
theorem Mn.box (h : Mn w s L A n c M e k m v u Os X) : Mn w s L A n c M e k m u u Os (X.setCell ⟨M + 1, 0, none⟩ u) := by
  obtain ⟨h1, h2, h3⟩ := h.sets (g := (M + 1)) (i := 0) (x := u) ⟨by have := h.hM; omega, by have := h.hM; omega⟩
  have hMM := h.hM
  exact ⟨h1, boxed_other h.tb (by omega), h.sb.other _ (by omega), boxed_other h.mb (by omega), h.blk.other (by omega) _ _, h.lb.set _, h2, boxed_other h.rk (by omega), h3, h.le, h.hM, h.few⟩
theorem Mn.put {p : Nat} {y : Int} (h : Mn w s L A n c M e k m v u Os X) (_hp : p < n) (hst : ∀ i, i < n → gM L s (m + 1) i = if i = p then y else gM L s m i) : Mn w s L A n c M e k (m + 1) v u Os (X.setCell ⟨w.heap.size + 2, p, none⟩ (.int .i64 y)) := by
  obtain ⟨h1, h2, h3⟩ := h.sets (g := w.heap.size + 2) (i := p) (x := .int .i64 y) ⟨by have := h.hM; omega, by have := h.hM; omega⟩
  have hMM := h.hM
  have hb := h.blk.set p (.int .i64 y)
  rw [F_set (gM L s m) (gM L s (m + 1)) y hst] at hb
  exact ⟨h1, boxed_other h.tb (by omega), h.sb.other _ (by omega), boxed_other h.mb (by omega), hb, boxed_other h.lb (by omega), h2, boxed_other h.rk (by omega), h3, h.le, h.hM, h.few⟩
theorem Mn.rank {k' m' : Nat} {y : Int} {Os' : List MF.Of} (h : Mn w s L A n c M e k m v u Os X) (hk : y = k' ∧ m = m') (hO : Os = Os') : Mn w s L A n c M e k' m' v u Os' (X.setCell ⟨M + 2, 0, none⟩ (.int .i64 y)) := by
  obtain ⟨rfl, rfl⟩ := hk
  subst hO
  obtain ⟨h1, h2, h3⟩ := h.sets (g := (M + 2)) (i := 0) (x := .int .i64 k') ⟨by have := h.hM; omega, by have := h.hM; omega⟩
  have hMM := h.hM
  exact ⟨h1, boxed_other h.tb (by omega), h.sb.other _ (by omega), boxed_other h.mb (by omega), h.blk.other (by omega) _ _, boxed_other h.lb (by omega), h2, h.rk.set _, h3, h.le, h.hM, h.few⟩
end
theorem Mn.rebase {w X : World} {s L : List Int} {A : Option Addr} {n c M e e' k m : Nat} (h : Mn w s L A n c M e k m (.slice none 0 0) (.slice none 0 0) [] X) (h1 : M + 3 ≤ e') (h2 : e' ≤ X.heap.size) : Mn w s L A n c M e' k m (.slice none 0 0) (.slice none 0 0) [] X :=
  ⟨h.below, h.tb, h.sb, h.mb, h.blk, h.lb, OwnL.nil _ _ _, h.rk, h2, h1, h.hM, h.few⟩
end Go.Proofs.Ytjjpfpgjpmedmaa
namespace Go.Proofs.Ytjjpfpgjpmedmaa
open Go.RowKit
theorem cells_off : Try.prog.cellsOf 60 = 8 := by kernel_rfl
set_option maxRecDepth 100000 in
theorem opens_of : Opens ofE Try.prog 60 := fun H enc W held n cs y h => by
  obtain ⟨xs, m, hm, _, hl, hlen, hf⟩ := DataW.trod_struct Try.underlying60 h
  rw [cells_off] at hl
  have hx : xs.length = 3 := hlen
  obtain ⟨y0, y1, y2, rfl⟩ : ∃ y0 y1 y2, xs = [y0, y1, y2] := by
    match xs, hx with
    | [y0, y1, y2], _ => exact ⟨y0, y1, y2, rfl⟩
  obtain ⟨c0, c1, c2, c3, c4, c5, c6, c7, rfl⟩ : ∃ c0 c1 c2 c3 c4 c5 c6 c7, cs = [c0, c1, c2, c3, c4, c5, c6, c7] := by
    match cs, hl with
    | [c0, c1, c2, c3, c4, c5, c6, c7], _ => exact ⟨c0, c1, c2, c3, c4, c5, c6, c7, rfl⟩
  have u0 : DataW.trod enc Try.prog W 0 (fun _ => true) held m 3 [c0] = some y0 := hf 0 _ rfl
  have u1 : DataW.trod enc Try.prog W 0 (fun _ => true) held m 24 [c1, c2, c3, c4, c5, c6] = some y1 := hf 1 _ rfl
  have u2 : DataW.trod enc Try.prog W 0 (fun _ => true) held m 2 [c7] = some y2 := hf 2 _ rfl
  obtain ⟨o, ho, _, bo⟩ := DataW.trod_int Try.underlying3 u0
  obtain ⟨b, hb, bb, hcs⟩ := bun_of u1
  obtain ⟨v, hv, _, bv⟩ := DataW.trod_int Try.underlying2 u2
  injection ho with ho _
  injection hv with hv _
  obtain ⟨x0, x1, x2, x3, x4, x5, rfl⟩ := six hb
  injection hcs with e0 hcs
  injection hcs with e1 hcs
  injection hcs with e2 hcs
  injection hcs with e3 hcs
  injection hcs with e4 hcs
  injection hcs with e5 _
  subst ho hv e0 e1 e2 e3 e4 e5
  exact ⟨⟨o, x0, x1, x2, x3, x4, x5, v⟩, rfl, bounds_i64 bo, bb x0 (by simp), bb x1 (by simp), bb x2 (by simp), bb x3 (by simp), bb x4 (by simp), bb x5 (by simp), bounds_i64 bv⟩
theorem open_of {H : Type} {enc : TypeId × Value → H} {W : World} {held : Bool} {f : Nat} {v : Value} {y : DataW H × List MemPlace} (h : DataW.trod enc Try.prog W 0 (fun _ => true) held f 22 [v] = some y) :
    ∃ (A : Option Addr) (len cap : Nat) (l : List MF.Of), v = .slice A len cap ∧ LstIn ofE W A len cap l :=
  open_lst Try.underlying22 (by kernel_rfl) opens_of h
end Go.Proofs.Ytjjpfpgjpmedmaa
