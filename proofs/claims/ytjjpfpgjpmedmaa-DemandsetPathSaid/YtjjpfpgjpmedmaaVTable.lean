/- Table of the program. No claim of its own. -/
import Derived.Test.YtjjpfpgjpmedmaaJVA
import Derived.Test.YtjjpfpgjpmedmaaVTab
import Derived.Test.YtjjpfpgjpmedmaaJGH
namespace Go.Proofs.Ytjjpfpgjpmedmaa
open Go.RowKit
attribute [local go_sem] Oper.semAt_some
/-- The table so far: its variable, its row; all below N as it was. -/
structure Tb (N : Nat) (Wo : World) (Bt g cap : Nat) (f : List Int → Int) (pre : List (List Int)) (X : World) : Prop where
  below : Below N Wo X
  box : Boxed X Bt 64 (.slice (some ⟨g, 0, none⟩) pre.length cap)
  own : OwnL intE 2 X N (.slice (some ⟨g, 0, none⟩) pre.length cap) (pre.map f)
  ne : Bt ≠ g
  ge : N ≤ Bt
theorem Tb.step {N : Nat} {Wo : World} {Bt g cap b e : Nat} {f : List Int → Int} {pre : List (List Int)} {X Y : World} (h : Tb N Wo Bt g cap f pre X) (hs : Stp b e X Y) (h1 : N ≤ b) (h2 : N ≤ X.heap.size) (h3 : Bt < b) (h4 : g < b) : Tb N Wo Bt g cap f pre Y := by
  refine ⟨h.below.trans (hs.isBelow h1 h2), (hs.heap h.box.lt (.inl h3)).trans h.box, ⟨?_, h.own.2⟩, h.ne, h.ge⟩
  obtain ⟨row, hg, hr⟩ := hs
  refine World.ownsRow.kept (row := row) h.own.1 hg (.inr fun he => ?_)
  have := hr g (by simpa [Value.ownBlock] using he.symm)
  omega
theorem Kpt.grown {Bn b e g : Nat} {X Y : World} (h : X.grownBy Y (some g)) (h1 : Bn < X.heap.size) (h2 : e ≤ X.heap.size) (h3 : g < b) (h4 : Bn ≠ g) : Kpt Bn b e X Y :=
  ⟨h.size, h.block Bn h1 (by simpa using h4), fun k hk1 hk2 => h.block k (by omega) (by simp; omega)⟩
theorem Tb.app {N : Nat} {Wo : World} {Bt g cap : Nat} {f : List Int → Int} {pre : List (List Int)} {V V2 Y : World} {x : List Int} (h : Tb N Wo Bt g cap f pre V) (hN : N ≤ V.heap.size) (hf : -9223372036854775808 ≤ f x ∧ f x ≤ 9223372036854775807) (hb : Below V.heap.size V V2)
    (hown : Y.ownsRow N 2 1 (.slice (some ⟨g, 0, none⟩) (pre.length + 1) cap) (pre.length + 1) (intE.all (pre.map f) ++ [.int .i64 (f x)])) (hg : V2.grownBy Y (some g)) :
    Boxed Y Bt 64 (.slice (some ⟨g, 0, none⟩) pre.length cap) ∧ Tb N Wo Bt g cap f (pre ++ [x]) (Y.setCell ⟨Bt, 0, none⟩ (.slice (some ⟨g, 0, none⟩) (pre.length + 1) cap)) := by
  have hgN := World.ownsRow.lt hown g rfl
  have h2 := hb.size
  have hBt : Boxed Y Bt 64 (.slice (some ⟨g, 0, none⟩) pre.length cap) := (hg.block Bt (Nat.lt_of_lt_of_le h.box.lt h2) (by simpa using h.ne)).trans ((hb.block _ h.box.lt).trans h.box)
  have hB1 : Below N Wo Y := (h.below.trans (hb.mono hN)).grown hg (by have := h.below.size; omega) (fun k hk => by injection hk with hk; omega)
  refine ⟨hBt, ⟨hB1.setCell (p := ⟨Bt, 0, none⟩) (by exact h.ge) _, ?_, ⟨?_, ?_⟩, h.ne, h.ge⟩⟩
  · rw [List.length_append]; exact hBt.set _
  · rw [List.length_append, List.map_append, El.all_append, List.length_append, List.length_map]
    refine World.ownsRow.kept (row := some Bt) hown ?_ (.inr fun e => h.ne (by simpa [Value.ownBlock] using e.symm))
    exact ⟨rfl, rfl, rfl, (KeepsWalks.setCell Y _ _).size, fun k _ hne => Below.heap_setCell _ _ _ k (fun e => hne (by rw [e]))⟩
  · rw [List.map_append]
    exact h.own.2.snoc hf
theorem Tb.keep {N : Nat} {Wo : World} {Bt g cap : Nat} {f : List Int → Int} {pre : List (List Int)} {X Y : World} (h : Tb N Wo Bt g cap f pre X) (hb : Below X.heap.size X Y) (h2 : N ≤ X.heap.size) : Tb N Wo Bt g cap f pre Y :=
  ⟨h.below.trans (hb.mono h2), (hb.block _ h.box.lt).trans h.box, h.own.keep hb, h.ne, h.ge⟩
end Go.Proofs.Ytjjpfpgjpmedmaa
