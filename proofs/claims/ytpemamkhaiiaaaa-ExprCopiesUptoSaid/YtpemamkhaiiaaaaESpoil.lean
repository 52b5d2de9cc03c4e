/- What spoiling leaves of trees in memory: no claim of its own. -/
import Derived.Test.YtpemamkhaiiaaaaECopy
namespace Go.Proofs.Ytpemamkhaiiaaaa
open Go.RowKit
open ME (F Nd)
/-- Only numbers at the seventh place of nine have changed, in blocks of a kind. -/
structure Sp (D : Nat → Prop) (w w' : World) : Prop where
  kx : Kx D w w'
  row : ∀ j, RowAt w j → RowAt w' j
  cell : ∀ a : Addr, a.off % 9 ≠ 7 → w'.cell? a = w.cell? a
  num : ∀ (a : Addr) (z : Int), a.off % 9 = 7 → w.cell? a = some (.int .i64 z) → In64 z → ∃ z', w'.cell? a = some (.int .i64 z') ∧ In64 z'
theorem Sp.refl (D : Nat → Prop) (w : World) : Sp D w w := ⟨Kx.refl _ _, fun _ h => h, fun _ _ => rfl, fun _ z _ h h2 => ⟨z, h, h2⟩⟩
theorem Sp.trans {D : Nat → Prop} {w w1 w2 : World} (h : Sp D w w1) (k : Sp D w1 w2) : Sp D w w2 :=
  ⟨⟨k.kx.os.trans h.kx.os, k.kx.tape.trans h.kx.tape, k.kx.output.trans h.kx.output, Nat.le_trans h.kx.size k.kx.size, fun j hj hd => (k.kx.block j (Nat.lt_of_lt_of_le hj h.kx.size) hd).trans (h.kx.block j hj hd)⟩,
   fun j q => k.row j (h.row j q), fun a q => (k.cell a q).trans (h.cell a q), fun a z q c i => by
    obtain ⟨z1, c1, i1⟩ := h.num a z q c i
    exact k.num a z1 q c1 i1⟩
theorem off_add (a : Addr) (i : Nat) : (a.add i).off = a.off + i := by
  unfold Addr.add
  split
  · rename_i h; rw [h]; rfl
  · rfl
/-- A tree whose nodes begin at multiples of nine is a tree of the same shape afterwards. -/
theorem Lay.spoilt {D ok : Nat → Prop} {w w' : World} (h : Sp D w w') : ∀ (t : FT) {a : Addr}, Lay w ok a t → FT.al a t → ∃ t', Lay w' ok a t' ∧ FT.al a t' ∧ t'.len = t.len ∧ t'.size = t.size
  | .nil, _, _, _ => ⟨.nil, trivial, trivial, rfl, rfl⟩
  | .cons o b v A c k r, a, ⟨⟨h1, h2, h3, h4⟩, h5, h6, h7, h8⟩, ⟨l1, l2, l3⟩ => by
    obtain ⟨r', r1, r2, r3, r4⟩ := Lay.spoilt h r h8 l3
    have hk : ∃ k', (k' = .nil ∨ ∃ ad, A = some ad ∧ Lay w' ok ad k') ∧ (k' = .nil ∨ ∃ ad, A = some ad ∧ FT.al ad k') ∧ k'.len = k.len ∧ k'.size = k.size := by
      rcases h7 with e | ⟨ad, e, hl⟩
      · exact ⟨.nil, .inl rfl, .inl rfl, by rw [e], by rw [e]⟩
      · rcases l2 with e2 | ⟨ad2, e2, hal⟩
        · exact ⟨.nil, .inl rfl, .inl rfl, by rw [e2], by rw [e2]⟩
        · rw [e] at e2
          injection e2 with e2
          subst e2
          obtain ⟨k', k1, k2, k3, k4⟩ := Lay.spoilt h k hl hal
          exact ⟨k', .inr ⟨ad, e, k1⟩, .inr ⟨ad, e, k2⟩, k3, k4⟩
    obtain ⟨k', k1, k2, k3, k4⟩ := hk
    obtain ⟨b0, b1, b2, b3, b4, b5, rfl⟩ := six h3
    have h7c : w.cell? (a.add 7) = some (.int .i64 v) := h4 7 _ rfl
    obtain ⟨v', c1, i1⟩ := h.num (a.add 7) v (by rw [off_add]; omega) h7c h5.2.1
    refine ⟨.cons o [b0, b1, b2, b3, b4, b5] v' A c k' r', ⟨⟨h1, Nat.lt_of_lt_of_le h2 h.kx.size, rfl, fun i u hu => ?_⟩, ⟨h5.1, i1, h5.2.2⟩, ⟨by rw [k3]; exact h6.1, by rw [k3]; exact h6.2⟩, k1, r1⟩, ⟨l1, k2, r2⟩, by simp only [FT.len, r3], by simp only [FT.size, r4, k4]⟩
    have same : ∀ j, j ≠ 7 → j < 9 → w'.cell? (a.add j) = w.cell? (a.add j) := fun j hj h9 => h.cell (a.add j) (by rw [off_add]; omega)
    match i, hu with
    | 0, hu => exact (same 0 (by omega) (by omega)).trans (h4 0 u hu)
    | 1, hu => exact (same 1 (by omega) (by omega)).trans (h4 1 u hu)
    | 2, hu => exact (same 2 (by omega) (by omega)).trans (h4 2 u hu)
    | 3, hu => exact (same 3 (by omega) (by omega)).trans (h4 3 u hu)
    | 4, hu => exact (same 4 (by omega) (by omega)).trans (h4 4 u hu)
    | 5, hu => exact (same 5 (by omega) (by omega)).trans (h4 5 u hu)
    | 6, hu => exact (same 6 (by omega) (by omega)).trans (h4 6 u hu)
    | 7, hu =>
      have : u = .int .i64 v' := (Option.some.inj hu).symm
      rw [this]; exact c1
    | 8, hu =>
      have : u = .slice A k.len c := by rw [← k3]; exact (Option.some.inj hu).symm
      rw [this]; exact (same 8 (by omega) (by omega)).trans (h4 8 _ rfl)
    | n + 9, hu => simp [cellsE] at hu
end Go.Proofs.Ytpemamkhaiiaaaa
