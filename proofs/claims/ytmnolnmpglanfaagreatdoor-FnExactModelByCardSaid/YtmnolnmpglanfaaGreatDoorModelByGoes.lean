import Derived.Test.YtmnolnmpglanfaaGreatDoorRows
import Derived.SevenTiedAt
import Derived.KernelRfl
namespace Go.Proofs.YtmnolnmpglanfaaGreatDoor
open Go
set_option maxRecDepth 100000
theorem fnExactModelBy_goes : false = Rows.fnExactModelByRow.goesBy Tryz.pinned.checked.prog := by kernel_rfl

end Go.Proofs.YtmnolnmpglanfaaGreatDoor
