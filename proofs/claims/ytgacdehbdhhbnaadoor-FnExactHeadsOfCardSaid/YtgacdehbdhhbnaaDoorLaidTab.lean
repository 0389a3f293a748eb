/-
  What the row's condition on the listed tables gives the walks: the table behind TrailingZeros64.
-/
import Derived.Test.YtgacdehbdhhbnaaDoorRows
import Derived.Test.YtgacdehbdhhbnaaDoorOpens
import Derived.Test.YtgacdehbdhhbnaaDoorBitNums
import Derived.Stop.LaidErr
import Derived.Lib.LaidTab
import Derived.MakeChecks
namespace Go.Proofs.YtgacdehbdhhbnaaDoor
open Go.RowKit

def laidTabs : List (String × DataW Unit) := [("math/bits.deBruijn32tab", Rows.laid_math_bits_deBruijn32tab), ("math/bits.deBruijn64tab", Rows.laid_math_bits_deBruijn64tab)]
theorem Tryd.tabGlobal : Tryd.prog.globalNamed "math/bits.deBruijn64tab" = some 1 := by kernel_rfl
theorem Tryd.tabType : (Tryd.prog.globals[1]?).map (·.type) = some 90 := by kernel_rfl
theorem Tryd.tabUnder : Tryd.prog.underlying 90 = some (.array 64 5) := by kernel_rfl
theorem Tryd.tabCells : Tryd.prog.cellsOf 90 = 64 := by kernel_rfl
theorem Tryd.byteUnder : Tryd.prog.underlying 5 = some (.int .u8) := by kernel_rfl
theorem Tryd.byteCells : Tryd.prog.cellsOf 5 = 1 := by kernel_rfl

theorem tab_of_laid {W : World} (hL : laidMetH Tryd.prog laidTabs W) : Tab W := by
  have h : laidMet Tryd.prog laidTabs W := by rw [MakeChecks.laidMetH_plain _ _ _ (by kernel_rfl)] at hL; exact hL
  have h2 : laidMet Tryd.prog [("math/bits.deBruijn64tab", Lib.tabData .u8 (Lib.deBruijn64tab.map fun n : Nat => (n : Int)))] W := h.tail
  have h3 := Lib.tabIs_of_head Tryd.tabGlobal Tryd.tabType Tryd.tabUnder Tryd.byteUnder Tryd.byteCells Tryd.tabCells h2
  have hat : TabAt 1 Lib.deBruijn64tab W := fun j hj => by
    have := h3.cell Tryd.tabGlobal j (by simpa using hj)
    simpa [hj] using this
  exact ⟨hat, World.block_lt_of_cell? _ _ (hat 0 (by decide))⟩

end Go.Proofs.YtgacdehbdhhbnaaDoor
