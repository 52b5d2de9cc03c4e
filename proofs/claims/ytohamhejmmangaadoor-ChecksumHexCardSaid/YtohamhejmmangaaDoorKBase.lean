/- Words for the walks of chapter 3. Plain theorems, no claim of their own. -/
import Derived.Test.YtohamhejmmangaaDoorChecked
import Derived.Test.YtohamhejmmangaaDoorMathK
import Derived.WalkKit
import Derived.Below
import Derived.Laws.OwnMore
import Derived.Deep.Draws
import Derived.RegionTactic
import Derived.OwnWalk
import Derived.Lib.Hide
import Derived.Deep.QuietTactic
import Derived.BigQuiet
import Derived.BigRegion
import Derived.WalkSpells
import Derived.Outline
import Derived.Laws.CopyOwn
import Derived.StillTailTactics
import Derived.Laws.BytesArg
namespace Go.Proofs.YtohamhejmmangaaDoor
open Go.RowKit
/-- A call hands back v; nothing that was there has turned. -/
def Gives (v : Value) (w : World) (e : Ending) (w' : World) : Prop := e = .returned v ∧ Below w.heap.size w w'
theorem below_alloc (w : World) (o : Obj) : Below w.heap.size w (w.alloc o) := (Below.refl _ _).alloc (Nat.le_refl _) _
/-- The text of a list of bytes. -/
def str (l : List UInt8) : ByteArray := ⟨l.toArray⟩
theorem str_data (l : List UInt8) : (str l).data.toList = l := by simp [str]
theorem str_size (l : List UInt8) : (str l).size = l.length := by simp [str, ByteArray.size]
theorem size_list (s : ByteArray) : s.data.toList.length = s.size := by simp
theorem bytes_eq (s t : ByteArray) (h : s.data.toList = t.data.toList) : s = t := by
  cases s with
  | mk d =>
    cases t with
    | mk e =>
      have : d = e := Array.toList_inj.1 h
      rw [this]
theorem str_self (s : ByteArray) : str s.data.toList = s := bytes_eq _ _ (str_data _)
theorem append_data (s t : ByteArray) : (s ++ t).data.toList = s.data.toList ++ t.data.toList := by simp
theorem str_append (l m : List UInt8) : str l ++ str m = str (l ++ m) := bytes_eq _ _ (by rw [append_data, str_data, str_data, str_data])
theorem take_snoc' (s : ByteArray) (k : Nat) (h : k < s.size) : s.data.toList.take (k + 1) = s.data.toList.take k ++ [s[k]] := by
  rw [List.take_succ_eq_append_getElem (by simpa using h)]; rfl
theorem mem_index (s : ByteArray) (j : Nat) (hj : j < s.size) : s[j] ∈ s.data.toList := by
  have : s[j] = s.data.toList[j]'(by simpa using hj) := rfl
  rw [this]; exact List.getElem_mem _
/-- The table of the package lies as the program's text lays it. -/
def Tab (w : World) : Prop := ∀ i, i < 16 → w.cell? ⟨0, i, none⟩ = some (.int .u32 ((nibs.getD i 0 : Nat) : Int))
theorem Tab.keep {w w' : World} {B : Nat} (h : Tab w) (hb : Below B w w') (hB : w.heap.size ≤ B) : Tab w' := fun i hi => by
  have hlt := World.block_lt_of_cell? w _ (h i hi)
  rw [hb.cell (p := ⟨0, i, none⟩) (by simpa using Nat.lt_of_lt_of_le hlt hB)]
  exact h i hi
end Go.Proofs.YtohamhejmmangaaDoor
