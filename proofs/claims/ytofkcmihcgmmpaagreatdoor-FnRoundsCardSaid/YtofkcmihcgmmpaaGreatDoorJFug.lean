import Derived.Test.YtofkcmihcgmmpaaGreatDoorRows
import Derived.SevenTiedAt
import Derived.KernelRfl
namespace Go.Proofs.YtofkcmihcgmmpaaGreatDoor
open Go
set_option maxRecDepth 100000
theorem jf_looks : false = Tryz.pinned.checked.prog.looks [] := by kernel_rfl

end Go.Proofs.YtofkcmihcgmmpaaGreatDoor
