/- The tables of the library, out of the row's condition: no claim of its own. -/
import Derived.Test.YtbllnkhbahenkaaGreatDoorRows
import Derived.Test.YtbllnkhbahenkaaGreatDoorAFmt
import Derived.Lib.LaidTab
namespace Go.Proofs.YtbllnkhbahenkaaGreatDoor
open Go.RowKit
theorem laidMet_tail {P : Program} {x : String} {d : DataW Unit} {L : List (String × DataW Unit)} {w : World} (h : laidMet P ((x, d) :: L) w) : laidMet P L w := by
  obtain ⟨ps, ⟨g, t, cs, fuel, p, q, _, _, _, _, hr, rfl⟩, hn, hc⟩ := h
  exact ⟨q, hr, (List.nodup_append.1 hn).2.1, fun b off hm => hc b off (List.mem_append_right _ hm)⟩
def tab32 : List Int := [0, 1, 28, 2, 29, 14, 24, 3, 30, 22, 20, 15, 25, 17, 4, 8, 31, 27, 13, 23, 21, 19, 16, 7, 26, 12, 18, 6, 11, 5, 10, 9]
def tab64 : List Int := [0, 1, 56, 2, 57, 49, 28, 3, 61, 58, 42, 50, 38, 29, 17, 4, 62, 47, 59, 36, 45, 43, 51, 22, 53, 39, 33, 30, 24, 18, 12, 5, 63, 55, 48, 27, 60, 41, 37, 16, 46, 35, 44, 21, 52, 32, 23, 11, 54, 26, 40, 15, 34, 20, 31, 10, 25, 14, 19, 9, 13, 8, 7, 6]
theorem pow10G : Tryz.prog.globalNamed "internal/strconv.uint64pow10" = some 2 := by kernel_rfl
theorem pow10T : (Tryz.prog.globals[2]?).map (·.type) = some 153 := by kernel_rfl
theorem pow10_cells : Tryz.prog.cellsOf 153 = 20 := by kernel_rfl
theorem pow10_cell : Tryz.prog.cellsOf 74 = 1 := by kernel_rfl
theorem pow10E : (Rows.laid_internal_strconv_uint64pow10 : DataW Unit) = Lib.tabData .u64 Lib.pow10Tab := by kernel_rfl
theorem tab_of_laid {W : World} (hL : laidMet Tryz.prog [("math/bits.deBruijn32tab", Rows.laid_math_bits_deBruijn32tab), ("math/bits.deBruijn64tab", Rows.laid_math_bits_deBruijn64tab), ("internal/strconv.uint64pow10", Rows.laid_internal_strconv_uint64pow10)] W) : Tab W := by
  have hL' := laidMet_tail (laidMet_tail hL)
  rw [pow10E] at hL'
  exact Lib.tabIs_of_head pow10G pow10T Tryz.underlying153 Tryz.underlying74 pow10_cell pow10_cells hL'
end Go.Proofs.YtbllnkhbahenkaaGreatDoor
