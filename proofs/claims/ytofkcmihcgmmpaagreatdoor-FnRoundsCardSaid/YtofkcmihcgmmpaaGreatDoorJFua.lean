import Derived.Test.YtofkcmihcgmmpaaGreatDoorRows
import Derived.JoinedOf
import Derived.KernelRfl
namespace Go.Proofs.YtofkcmihcgmmpaaGreatDoor
open Go
set_option maxRecDepth 100000
theorem jf_laidOut : laidOutB Tryz.pinned.checked.prog = true := by kernel_rfl
theorem jf_rowed : mapsRowed Tryz.pinned.checked.prog = true := by kernel_rfl
theorem jf_heard : Tryz.pinned.checked.prog.stopsHeard = true := by kernel_rfl

end Go.Proofs.YtofkcmihcgmmpaaGreatDoor
