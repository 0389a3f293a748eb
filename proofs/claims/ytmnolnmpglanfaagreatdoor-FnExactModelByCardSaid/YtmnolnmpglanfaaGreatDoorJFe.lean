import Derived.Test.YtmnolnmpglanfaaGreatDoorRows
import Derived.JoinedOf
import Derived.KernelRfl
namespace Go.Proofs.YtmnolnmpglanfaaGreatDoor
open Go
set_option maxRecDepth 100000
theorem jf_make : (Tryz.pinned.checked.prog.make == some Rows.fnExactModelByRow.make) = true := by kernel_rfl

end Go.Proofs.YtmnolnmpglanfaaGreatDoor
