import Derived.Test.YtofkcmihcgmmpaaGreatDoorRows
import Derived.JoinedOf
import Derived.KernelRfl
namespace Go.Proofs.YtofkcmihcgmmpaaGreatDoor
open Go
set_option maxRecDepth 100000
theorem jf_lifts : (Rows.fnLeastRow.lifted == Tryz.pinned.checked.prog.liftsFinal) = true := by kernel_rfl

end Go.Proofs.YtofkcmihcgmmpaaGreatDoor
