import Derived.Test.YtmnolnmpglanfaaGreatDoorRows
import Derived.JoinedOf
import Derived.KernelRfl
namespace Go.Proofs.YtmnolnmpglanfaaGreatDoor
open Go
set_option maxRecDepth 100000
theorem jf_lifts : (Rows.fnExactModelByRow.lifted == Tryz.pinned.checked.prog.liftsFinal) = true := by kernel_rfl

end Go.Proofs.YtmnolnmpglanfaaGreatDoor
