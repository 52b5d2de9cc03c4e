/- A scanner in memory; the small functions of the package's: no claim of its own. -/
import Derived.Test.YtdlpolnnhhnecaaDoorLBase
namespace Go.Proofs.YtdlpolnnhhnecaaDoor
open Go.RowKit
theorem grown_set (w : World) (g o : Nat) (u : Value) : w.grownBy (w.setCell ⟨g, o, none⟩ u) (some g) :=
  ⟨rfl, rfl, rfl, by simp [World.setCell], fun k _ hne => by simp [World.setCell, Array.getElem?_modify]; intro h; exact absurd (by rw [h]) hne⟩
theorem grown_below {a b : World} {g B : Nat} (h : a.grownBy b (some g)) (hg : B ≤ g) (hB : B ≤ a.heap.size) : Below B a b :=
  (Below.refl B a).grown h hB (fun k hk => by injection hk with hk; omega)
theorem grown_of_below {a b : World} (h : Below a.heap.size a b) (r : Option Nat) : a.grownBy b r := ⟨h.os, h.tape, h.output, h.size, fun k hk _ => h.block k hk⟩
/-- Block g is a scanner of the tokens L with the error e; its tokens lie in no block of 'bad'. -/
structure SB (T : TypeId) (bad : Nat → Prop) (w : World) (g : Nat) (A : Option Addr) (n c : Nat) (L : List Tk) (e : Int) : Prop where
  blk : w.heap[g]? = some (.cells #[.slice A n c, .int .i64 e] T (0, 0))
  tks : Tks w A n c L
  far : ∀ ad, A = some ad → ¬ bad ad.block
  own : bad g
section
variable {T : TypeId} {bad : Nat → Prop} {w w' : World} {g : Nat} {A : Option Addr} {n c : Nat} {L : List Tk} {e : Int}
theorem SB.lt (h : SB T bad w g A n c L e) : g < w.heap.size := (Array.getElem?_eq_some_iff.1 h.blk).1
theorem SB.keep (h : SB T bad w g A n c L e) (hb : Below w.heap.size w w') : SB T bad w' g A n c L e := ⟨(hb.block g h.lt).trans h.blk, h.tks.keep hb, h.far, h.own⟩
theorem SB.c0 (h : SB T bad w g A n c L e) : w.cell? ⟨g, 0, none⟩ = some (.slice A n c) := by rw [cell_of_row w g 0 _ _ _ h.blk]; rfl
theorem SB.c1 (h : SB T bad w g A n c L e) : w.cell? ⟨g, 1, none⟩ = some (.int .i64 e) := by rw [cell_of_row w g 1 _ _ _ h.blk]; rfl
theorem SB.f (h : SB T bad w g A n c L e) (i : Nat) : w.frozen? ⟨g, i, none⟩ = false := by
  have h' := h.blk
  simp [World.frozen?, h']
/-- What a call does elsewhere does not touch the tokens. -/
theorem Tks.far (h : Tks w A n c L) (hf : ∀ ad, A = some ad → ¬ bad ad.block) (hg : w.grownBy w' (some g)) (hb : bad g) : Tks w' A n c L :=
  ⟨⟨h.reads.1, fun hn => by
    obtain ⟨ad, ea, hlt, hc⟩ := h.reads.2 hn
    refine ⟨ad, ea, Nat.lt_of_lt_of_le hlt hg.size, fun j u hu => ?_⟩
    refine hg.cell (hc j u hu) ?_
    rw [block_of_add]
    intro x
    injection x with x
    exact hf ad ea (x ▸ hb)⟩, h.len, h.cap, h.few⟩
theorem SB.other {g' : Nat} (h : SB T bad w g A n c L e) (hg : w.grownBy w' (some g')) (hb : bad g') (hne : g ≠ g') : SB T bad w' g A n c L e :=
  ⟨(hg.block g h.lt (fun x => by injection x with x; exact hne x)).trans h.blk, h.tks.far h.far hg hb, h.far, h.own⟩
theorem SB.put0 (h : SB T bad w g A n c L e) {A' : Option Addr} {n' c' : Nat} {L' : List Tk} (ht : Tks w A' n' c' L') (hf : ∀ ad, A' = some ad → ¬ bad ad.block) :
    SB T bad (w.setCell ⟨g, 0, none⟩ (.slice A' n' c')) g A' n' c' L' e :=
  ⟨by rw [heap_setCell_same w g 0 _ _ _ h.blk]; rfl, ht.far hf (grown_set w g 0 _) h.own, hf, h.own⟩
theorem SB.put1 (h : SB T bad w g A n c L e) (e' : Int) : SB T bad (w.setCell ⟨g, 1, none⟩ (.int .i64 e')) g A n c L e' :=
  ⟨by rw [heap_setCell_same w g 1 _ _ _ h.blk]; rfl, h.tks.far h.far (grown_set w g 1 _) h.own, h.far, h.own⟩
theorem Tks.empty {A : Option Addr} {n c : Nat} (h : Tks w A n c []) : n = 0 := h.len.symm
theorem Tks.head {t : Tk} {r : List Tk} (h : Tks w A n c (t :: r)) : ∃ ad, A = some ad ∧ ad.block < w.heap.size ∧ w.cell? ad = some (.int .i64 t.kind) ∧ w.cell? ⟨ad.block, ad.off + 1, none⟩ = some (.string (str t.text)) ∧
    w.cell? ⟨ad.block, ad.off + 2, none⟩ = some (.int .i64 t.value) ∧ w.cell? ⟨ad.block, ad.off + 3, none⟩ = some (.int .i64 t.at_) := by
  have hl := h.len
  obtain ⟨ad, u, ea, e1, hb, x0, x1, x2, x3⟩ := h.at_ (k := 0) (by rw [← hl]; simp)
  simp at e1
  subst e1
  have e0 : ad.add (0 * 4) = ad := by unfold Addr.add; simp
  rw [e0] at x0 x1 x2 x3
  exact ⟨ad, ea, hb, x0, x1, x2, x3⟩
theorem Tks.tail {t : Tk} {r : List Tk} (h : Tks w A n c (t :: r)) : Tks w (if c = 1 then A else A.map (·.add (1 * 4))) (n - 1) (c - 1) r := by
  have hl := h.len
  have hn : 1 ≤ n := by rw [← hl]; simp
  have hc := h.cap
  have := h.reads.cut (k := 1) hn hc
  rw [cellsTs_drop] at this
  exact ⟨this, by simp at hl; omega, by omega, by have := h.few; omega⟩
end
/-- The package's scanner: after an error it has no tokens. -/
def SP (bad : Nat → Prop) (w : World) (g : Nat) (ts : List Tk) (e : Int) : Prop := ∃ A n c, SB 78 bad w g A n c ts e ∧ (e ≠ 0 → ts = [])
theorem SP.keep {bad : Nat → Prop} {w w' : World} {g : Nat} {ts : List Tk} {e : Int} (h : SP bad w g ts e) (hb : Below w.heap.size w w') : SP bad w' g ts e := by
  obtain ⟨A, n, c, h1, h2⟩ := h; exact ⟨A, n, c, h1.keep hb, h2⟩
theorem SP.lt {bad : Nat → Prop} {w : World} {g : Nat} {ts : List Tk} {e : Int} (h : SP bad w g ts e) : g < w.heap.size := by obtain ⟨A, n, c, h1, _⟩ := h; exact h1.lt
/-- What a call of a scanner does: its answer, and the scanner behind it. -/
def Did (S : World → Prop) (g : Nat) (v : Value) (w : World) (e : Ending) (w' : World) : Prop := e = .returned v ∧ S w' ∧ w.grownBy w' (some g)
def headT : List Tk → Tk
  | [] => .zero
  | t :: _ => t
set_option maxRecDepth 100000 in
theorem left_any {bad : Nat → Prop} {w : World} {g : Nat} {A : Option Addr} {n c : Nat} {L : List Tk} {e : Int} (h : SB 78 bad w g A n c L e) :
    Calls Tryd.prog 55 #[.pointer (some ⟨g, 0, none⟩)] w fun e w' => e = .returned (.int .i64 n) ∧ w = w' := by
  have c0 := h.c0
  have hf := h.tks.few
  clear h
  go_enter Tryd.func55, Tryd.ntmps55
  go_wp2
  go_ret
  exact ⟨rfl, rfl⟩
set_option maxRecDepth 100000 in
theorem left_nil (w : World) : Calls Tryd.prog 55 #[.pointer none] w fun e w' => e = .returned (.int .i64 0) ∧ w = w' := by
  go_enter Tryd.func55, Tryd.ntmps55
  go_wp2
  go_ret
  exact ⟨rfl, rfl⟩
set_option maxRecDepth 100000 in
theorem err_any {bad : Nat → Prop} {w : World} {g : Nat} {A : Option Addr} {n c : Nat} {L : List Tk} {er : Int} (h : SB 78 bad w g A n c L er) :
    Calls Tryd.prog 31 #[.pointer (some ⟨g, 0, none⟩)] w fun e w' => e = .returned (.int .i64 er) ∧ w = w' := by
  have c1 := h.c1
  clear h
  go_enter Tryd.func31, Tryd.ntmps31
  go_wp2
  go_ret
  exact ⟨rfl, rfl⟩
set_option maxRecDepth 100000 in
theorem err_nil (w : World) : Calls Tryd.prog 31 #[.pointer none] w fun e w' => e = .returned (.int .i64 6) ∧ w = w' := by
  go_enter Tryd.func31, Tryd.ntmps31
  go_wp2
  go_ret
  exact ⟨rfl, rfl⟩
set_option maxRecDepth 100000 in
set_option maxHeartbeats 1000000 in
theorem peek_none {bad : Nat → Prop} {w : World} {g : Nat} {A : Option Addr} {n c : Nat} {er : Int} (h : SB 78 bad w g A n c [] er) :
    Calls Tryd.prog 33 #[.pointer (some ⟨g, 0, none⟩)] w (Gives (aggT .zero) w) := by
  have L := Lib.hid (left_any (h.keep (below_new w (.cells #[.int .i64 0, .string ⟨#[]⟩, .int .i64 0, .int .i64 0] 57))))
  have hn := h.tks.empty
  rw [hn] at L
  clear h hn
  go_enter Tryd.func33, Tryd.ntmps33
  go_wp2_with fail
  refine L.out.mono ?_
  rintro e w' ⟨rfl, rfl⟩
  go_wp2
  exact bodyPost_ret (v := .agg #[.int .i64 0, .string ⟨#[]⟩, .int .i64 0, .int .i64 0]) (by simp [results, Tryd.results33, go_sem]) rfl ⟨rfl, below_new _ _⟩
set_option maxRecDepth 100000 in
set_option maxHeartbeats 1000000 in
theorem peek_some {bad : Nat → Prop} {w : World} {g : Nat} {A : Option Addr} {n c : Nat} {t : Tk} {r : List Tk} {er : Int} (h : SB 78 bad w g A n c (t :: r) er) :
    Calls Tryd.prog 33 #[.pointer (some ⟨g, 0, none⟩)] w (Gives (aggT t) w) := by
  have h' := h.keep (below_new w (.cells #[.int .i64 0, .string ⟨#[]⟩, .int .i64 0, .int .i64 0] 57))
  have L := Lib.hid (left_any h')
  have c0 := h'.c0
  have hn : 0 < n := by rw [← h.tks.len]; simp
  have hf := h.tks.few
  obtain ⟨ad, hA, hb, x0, x1, x2, x3⟩ := h'.tks.head
  obtain ⟨ad', hA', hb', y0, y1, y2, y3⟩ := h.tks.head
  obtain rfl : ad = ad' := by rw [hA] at hA'; injection hA'
  subst hA
  clear h h' hb hA'
  obtain ⟨kd, tx, vv, a⟩ := t
  unfold aggT
  simp only at x0 x1 x2 x3 y0 y1 y2 y3 ⊢
  go_enter Tryd.func33, Tryd.ntmps33
  go_wp2_with fail
  refine L.out.mono ?_
  rintro e w' ⟨rfl, rfl⟩
  go_wp2
  exact bodyPost_ret (v := .agg #[.int .i64 kd, .string (str tx), .int .i64 vv, .int .i64 a]) (by simp [results, Tryd.results33, go_sem]) rfl ⟨rfl, below_new _ _⟩
set_option maxRecDepth 100000 in
set_option maxHeartbeats 1000000 in
theorem peek_nil (w : World) : Calls Tryd.prog 33 #[.pointer none] w (Gives (aggT .zero) w) := by
  go_enter Tryd.func33, Tryd.ntmps33
  go_wp2_with fail
  refine (left_nil _).mono ?_
  rintro e w' ⟨rfl, rfl⟩
  go_wp2
  exact bodyPost_ret (v := .agg #[.int .i64 0, .string ⟨#[]⟩, .int .i64 0, .int .i64 0]) (by simp [results, Tryd.results33, go_sem]) rfl ⟨rfl, below_new _ _⟩
theorem peek_any {bad : Nat → Prop} {w : World} {g : Nat} {A : Option Addr} {n c : Nat} {L : List Tk} {er : Int} (h : SB 78 bad w g A n c L er) :
    Calls Tryd.prog 33 #[.pointer (some ⟨g, 0, none⟩)] w (Gives (aggT (headT L)) w) := by
  cases L with
  | nil => exact peek_none h
  | cons t r => exact peek_some h
end Go.Proofs.YtdlpolnnhhnecaaDoor
