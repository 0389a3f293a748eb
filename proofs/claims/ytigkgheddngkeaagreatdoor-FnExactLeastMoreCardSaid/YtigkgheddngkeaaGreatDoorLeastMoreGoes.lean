import Derived.Test.YtigkgheddngkeaaGreatDoorRows
import Derived.SevenTiedAt
import Derived.KernelRfl
namespace Go.Proofs.YtigkgheddngkeaaGreatDoor
open Go
set_option maxRecDepth 100000
theorem fnExactLeastMore_goes : false = Rows.fnExactLeastMoreRow.goesBy Tryz.pinned.checked.prog := by kernel_rfl

end Go.Proofs.YtigkgheddngkeaaGreatDoor
