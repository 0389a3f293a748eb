import Derived.Test.YtofkcmihcgmmpaaGreatDoorRows
import Derived.JoinedOf
import Derived.KernelRfl
namespace Go.Proofs.YtofkcmihcgmmpaaGreatDoor
open Go
set_option maxRecDepth 100000
theorem jf_enter : Tryz.pinned.checked.prog.mayEnter = true := by kernel_rfl

end Go.Proofs.YtofkcmihcgmmpaaGreatDoor
