/- The contract of the reference's Share: no claim of its own. -/
import Derived.Test.YtbllnkhbahenkaaGreatDoorAF
import Derived.Maps.AppendAt
import Derived.BigQuiet
namespace Go.Proofs.YtbllnkhbahenkaaGreatDoor
open Go.RowKit MA
theorem infoI64 : (Tryz.prog.info? 2).map (fun i => (i.zero, i.size, i.bytes)) = some (some (.int .i64 0), 1, 8) := by kernel_rfl
/-- Two rows of the call's own, apart. -/
structure Two (w wr : World) (v u : Value) (k l : Nat) (f g : Nat → Int) : Prop where
  o1 : wr.ownsRow w.heap.size 2 1 v k (F f k)
  o2 : wr.ownsRow w.heap.size 2 1 u l (F g l)
  ne : ∀ x, v.ownBlock = some x → u.ownBlock ≠ some x
  bel : Below w.heap.size w wr
theorem Two.start (w : World) (f g : Nat → Int) : Two w w (.slice none 0 0) (.slice none 0 0) 0 0 f g :=
  ⟨World.ownsRow_nil _ _ _ _, World.ownsRow_nil _ _ _ _, fun x h => by simp [Value.ownBlock] at h, Below.refl _ _⟩
theorem F_snoc (f : Nat → Int) (k : Nat) : F f k ++ [.int .i64 (f k)] = F f (k + 1) := by simp [F, List.range_succ]
section
variable {w wr w1 : World} {v u v' : Value} {k l : Nat} {f g : Nat → Int} {o : Obj}
theorem Two.app1 (h : Two w wr v u k l f g) (hown : w1.ownsRow w.heap.size 2 1 v' (k + 1) (F f k ++ [.int .i64 (f k)])) (hg : (wr.alloc o).grownBy w1 v.ownBlock) (hv : v'.ownBlock = v.ownBlock ∨ v'.ownBlock = some (wr.heap.size + 1)) : Two w w1 v' u (k + 1) l f g := by
  refine ⟨by rw [F_snoc] at hown; exact hown, ?_, ?_, (h.bel.alloc h.bel.size o).grown hg (by have := h.bel.size; simp; omega) (fun x hx => (h.o1.lt x hx).1)⟩
  · refine (h.o2.alloc o).kept hg ?_
    cases e : u.ownBlock with
    | none => exact .inl rfl
    | some y =>
      right
      intro e2
      exact h.ne y e2.symm e
  · intro x hx hy
    rcases hv with e | e
    · exact h.ne x (e ▸ hx) hy
    · rw [hx] at e
      injection e with e
      have := (h.o2.lt x hy).2
      omega
theorem Two.app2 (h : Two w wr v u k l f g) (hown : w1.ownsRow w.heap.size 2 1 v' (l + 1) (F g l ++ [.int .i64 (g l)])) (hg : (wr.alloc o).grownBy w1 u.ownBlock) (hv : v'.ownBlock = u.ownBlock ∨ v'.ownBlock = some (wr.heap.size + 1)) : Two w w1 v v' k (l + 1) f g := by
  refine ⟨?_, by rw [F_snoc] at hown; exact hown, ?_, (h.bel.alloc h.bel.size o).grown hg (by have := h.bel.size; simp; omega) (fun x hx => (h.o2.lt x hx).1)⟩
  · refine (h.o1.alloc o).kept hg ?_
    cases e : v.ownBlock with
    | none => exact .inl rfl
    | some y => exact .inr fun e2 => h.ne y e e2.symm
  · intro x hx hy
    rcases hv with e | e
    · exact h.ne x hx (e ▸ hy)
    · rw [hy] at e
      injection e with e
      have := (h.o1.lt x hx).2
      omega
end
/-- The two rows once they are full. -/
structure Rs (w wr : World) (a c b d n : Nat) (f g : Nat → Int) : Prop where
  o1 : wr.ownsRow w.heap.size 2 1 (.slice (some ⟨a, 0, none⟩) n c) n (F f n)
  o2 : wr.ownsRow w.heap.size 2 1 (.slice (some ⟨b, 0, none⟩) n d) n (F g n)
  ne : a ≠ b
  bel : Below w.heap.size w wr
  ca : n ≤ c
  cb : n ≤ d
theorem own_cap {w : World} {B : Nat} {e : TypeId} {a n c : Nat} {xs : List Value} (h : w.ownsRow B e 1 (.slice (some ⟨a, 0, none⟩) n c) n xs) : B ≤ a ∧ n ≤ c := by
  rcases h.2 with ⟨e, _⟩ | ⟨g, cap, cur, e, hB, _, hc, _⟩
  · cases e
  · cases e; exact ⟨hB, hc⟩
theorem Two.full {w wr : World} {v u : Value} {n : Nat} {f g : Nat → Int} (h : Two w wr v u n n f g) (hn : 0 < n) : ∃ a c b d, v = .slice (some ⟨a, 0, none⟩) n c ∧ u = .slice (some ⟨b, 0, none⟩) n d ∧ Rs w wr a c b d n f g := by
  obtain ⟨a, c, rfl, _, _⟩ := h.o1.form hn
  obtain ⟨b, d, rfl, _, _⟩ := h.o2.form hn
  exact ⟨a, c, b, d, rfl, rfl, h.o1, h.o2, fun e => h.ne a rfl (by rw [e]; rfl), h.bel, (own_cap h.o1).2, (own_cap h.o2).2⟩
section
variable {w wr : World} {a b c d n : Nat} {f g : Nat → Int}
theorem Rs.drewN (h : Rs w wr a c b d n f g) (q : Nat) : Rs w (wr.drewN q) a c b d n f g := ⟨h.o1, h.o2, h.ne, ⟨h.bel.os, h.bel.tape, h.bel.output, h.bel.size, h.bel.block⟩, h.ca, h.cb⟩
theorem Rs.c1 (h : Rs w wr a c b d n f g) {i : Nat} (hi : i < n) : wr.cell? ⟨a, i, none⟩ = some (.int .i64 (f i)) := (h.o1.cellAt i (by omega)).trans (F_at f hi)
theorem Rs.c2 (h : Rs w wr a c b d n f g) {i : Nat} (hi : i < n) : wr.cell? ⟨b, i, none⟩ = some (.int .i64 (g i)) := (h.o2.cellAt i (by omega)).trans (F_at g hi)
theorem Rs.store (h : Rs w wr a c b d n f g) (i : Nat) (x y : Int) {f' g' : Nat → Int} (hf : ∀ k, k < n → f' k = if k = i then x else f k) (hg : ∀ k, k < n → g' k = if k = i then y else g k) :
    Rs w ((wr.setCell ⟨a, i, none⟩ (.int .i64 x)).setCell ⟨b, i, none⟩ (.int .i64 y)) a c b d n f' g' := by
  have hb1 := own_cap h.o1
  have hb2 := own_cap h.o2
  refine ⟨?_, ?_, h.ne, (h.bel.setCell (p := ⟨a, i, none⟩) hb1.1 _).setCell (p := ⟨b, i, none⟩) hb2.1 _, h.ca, h.cb⟩
  · have := (h.o1.stored i (.int .i64 x)).1.kept (grown_set _ b i (.int .i64 y)) (.inr (by simp only [Value.ownBlock]; intro e; injection e with e; exact h.ne e))
    rwa [F_set f f' x hf] at this
  · have := (h.o2.kept (grown_set _ a i (.int .i64 x)) (.inr (by simp only [Value.ownBlock]; intro e; injection e with e; exact h.ne e.symm))).stored i (.int .i64 y) |>.1
    rwa [F_set g g' y hg] at this
theorem Rs.frozen1 (h : Rs w wr a c b d n f g) (i : Nat) : wr.frozen? ⟨a, i, none⟩ = false := h.o1.frozenAt i
theorem Rs.frozen2 (h : Rs w wr a c b d n f g) (i : Nat) : wr.frozen? ⟨b, i, none⟩ = false := h.o2.frozenAt i
end
end Go.Proofs.YtbllnkhbahenkaaGreatDoor
