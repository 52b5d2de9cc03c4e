/- The table of the package, out of the row's condition: no claim of its own. -/
import Derived.Test.YtohamhejmmangaaDoorRows
import Derived.Test.YtohamhejmmangaaDoorKAwake
import Derived.Lib.LaidTab
namespace Go.Proofs.YtohamhejmmangaaDoor
open Go.RowKit
theorem nibG : Tryd.prog.globalNamed "saleroom/checksum.nibbleSteps" = some 0 := by kernel_rfl
theorem nibT : (Tryd.prog.globals[0]?).map (·.type) = some 51 := by kernel_rfl
theorem nib_cells : Tryd.prog.cellsOf 51 = 16 := by kernel_rfl
theorem nib_cell : Tryd.prog.cellsOf 22 = 1 := by kernel_rfl
theorem tab_of_laid {W : World} (hL : laidMet Tryd.prog [("saleroom/checksum.nibbleSteps", Rows.laid_saleroom_checksum_nibbleSteps)] W) : Tab W := by
  have hL' : laidMet Tryd.prog [("saleroom/checksum.nibbleSteps", Lib.tabData .u32 (nibs.map fun x : Nat => (x : Int)))] W := hL
  have hT := Lib.tabIs_of_head nibG nibT Tryd.underlying51 Tryd.underlying22 nib_cell nib_cells hL'
  intro i hi
  have := hT.cell nibG i (by simpa [nibs] using hi)
  rw [natmap_getD] at this
  exact this
end Go.Proofs.YtohamhejmmangaaDoor
