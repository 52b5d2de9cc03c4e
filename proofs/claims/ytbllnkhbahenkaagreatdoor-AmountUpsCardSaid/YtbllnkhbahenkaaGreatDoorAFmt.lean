/- The contracts of Format, of the package and of the reference: no claim of its own. -/
import Derived.Test.YtbllnkhbahenkaaGreatDoorATxt
import Derived.Test.YtbllnkhbahenkaaGreatDoorItoaL
import Derived.Lib.AppendIntMem
namespace Go.Proofs.YtbllnkhbahenkaaGreatDoor
open Go.RowKit Go.Shelf Go.Sort
/-- The table of powers of ten lies as the library's text lays it. -/
def Tab (w : World) : Prop := Lib.TabIs Tryz.prog w "internal/strconv.uint64pow10" .u64 Lib.pow10Tab
theorem Tab.keep {w w' : World} (h : Tab w) (hb : Below w.heap.size w w') : Tab w' := by
  unfold Tab Lib.TabIs World.var? at *
  cases e : Tryz.prog.globalNamed "internal/strconv.uint64pow10" with
  | none => rw [e] at h; exact h
  | some g =>
    rw [e] at h
    simp only [Option.bind_some] at h ⊢
    by_cases hg : g < w.heap.size
    · rw [hb.block g hg]; exact h
    · rw [Array.getElem?_eq_none (by omega)] at h; cases h
set_option maxRecDepth 100000 in
theorem format5_any (v : Int) (h0 : -9223372036854775808 ≤ v) (h1 : v ≤ 9223372036854775807) (w : World) (ht : Tab w) :
    Calls Tryz.prog 35 #[.int .i64 v] w (Gives (.string (str (Lib.itoa v))) w) := by
  have C := Lib.hid (Any.strconv_FormatInt_10 laysM173 v h0 h1 w ht)
  clear ht
  go_enter Tryz.func35, Tryz.ntmps35
  go_wp2_with fail
  refine Calls.mono C.out ?_
  rintro e w1 ⟨rfl, k, os, rfl⟩
  have B := Lib.hid (Lib.below_grow w.heap.size w (Nat.le_refl _) k os)
  go_wp2
  go_ret
  exact ⟨rfl, B.out⟩
theorem decDigits_big {y : Nat} (h : ¬ y < 10) : Lib.decDigits y = Lib.decDigits (y / 10) ++ [UInt8.ofNat (48 + y % 10)] := by rw [Lib.decDigits, dif_neg h]
/-- What holds in a round of digits. -/
structure DIn (w : World) (x y : Nat) (t : List UInt8) (wr : World) : Prop where
  eq : Lib.decDigits y ++ t = Lib.decDigits x
  bel : Below w.heap.size w wr
end Go.Proofs.YtbllnkhbahenkaaGreatDoor
