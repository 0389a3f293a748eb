import Derived.Test.YtigkgheddngkeaaGreatDoorRows
import Derived.SevenTiedAt
import Derived.KernelRfl
namespace Go.Proofs.YtigkgheddngkeaaGreatDoor
open Go
set_option maxRecDepth 100000
theorem fnExactLeast_goes : false = Rows.fnExactLeastRow.goesBy Tryz.pinned.checked.prog := by kernel_rfl

end Go.Proofs.YtigkgheddngkeaaGreatDoor
