/- LShelf, LBuild, joined: no claim of its own. -/
import Derived.Shelf.Strings.BuilderK
import Derived.Test.YtcokplikmjegcaaGreatDoorJA
import Derived.WalkKit
import Derived.BigCall
namespace Go.Proofs.YtcokplikmjegcaaGreatDoor
open Go.Shelf Go.RowKit
def lays169_ren : Go.Shelf.Ren := ⟨fun | 169 => 21 | n => n, fun | 70 => 44 | 9 => 9 | 0 => 0 | 72 => 47 | 37 => 45 | 127 => 91 | 3 => 3 | 5 => 5 | n => n, fun | n => n⟩
theorem builderExtra : Builder.Extra Tryz.prog lays169_ren := {
  sizeBuilder := by kernel_rfl
  liesBuilder := by kernel_rfl
  t5 := Tryz.underlying5
  a5 := Tryz.isAgg5
  z5 := Tryz.sizeOf5
  v5 := Tryz.zeroValue5
  infoByte := by kernel_rfl
  cellsByte := by kernel_rfl
  sizeByte := by kernel_rfl
  neB5 := by decide }
end Go.Proofs.YtcokplikmjegcaaGreatDoor
namespace Go.Proofs.YtcokplikmjegcaaGreatDoor
open Go.RowKit
/-- Block b is a builder that holds l. -/
def Bld (b : Nat) (l : List UInt8) (w : World) : Prop := Lib.IsBuilderF 47 5 b b (Lib.byteCells l) w
/-- What a writer's call turns: the builder alone. -/
structure Only (b : Nat) (w w' : World) : Prop where
  below : Below b w w'
  others : Lib.OthersKept 5 (some b) w w'
theorem Only.trans {b : Nat} {w w1 w2 : World} (h : Only b w w1) (k : Only b w1 w2) : Only b w w2 := ⟨h.below.trans k.below, h.others.trans k.others⟩
theorem Only.refl (b : Nat) (w : World) : Only b w w := ⟨Below.refl _ _, Lib.OthersKept.refl _ _ _⟩
theorem builderX : Builder.X72 Tryz.prog lays169_ren := builderExtra.toX72
theorem Bld.keep {b : Nat} {l : List UInt8} {w w' : World} (h : Bld b l w) (hb : Below w.heap.size w w') : Bld b l w' := by
  have go : ∀ p, Lib.BuilderAtF 47 5 b b p (Lib.byteCells l) w → Lib.BuilderAtF 47 5 b b p (Lib.byteCells l) w' := fun p h => by
    have hlt := h.lt
    obtain ⟨hB, v, hk, hown, hne⟩ := h
    exact ⟨hB, v, (hb.block b hlt).trans hk, hown.kept (row := none) ⟨hb.os, hb.tape, hb.output, hb.size, fun k hk _ => hb.block k hk⟩ (by cases hv : v.ownBlock <;> simp), hne⟩
  exact h.elim (fun h => .inl (go _ h)) (fun h => .inr (go _ h))
theorem Bld.new (w : World) : Bld w.heap.size [] (w.alloc (.cells #[.pointer none, .slice none 0 0] 47)) := Lib.IsBuilderF.of (Lib.fresh_isBuilder 47 5 w)
theorem Bld.lt {b : Nat} {l : List UInt8} {w : World} (h : Bld b l w) : b < w.heap.size := h.elim (fun h => h.lt) (fun h => h.lt)
end Go.Proofs.YtcokplikmjegcaaGreatDoor
