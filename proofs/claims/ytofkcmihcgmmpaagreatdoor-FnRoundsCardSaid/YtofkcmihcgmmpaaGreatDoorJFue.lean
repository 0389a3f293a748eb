import Derived.Test.YtofkcmihcgmmpaaGreatDoorRows
import Derived.JoinedOf
import Derived.KernelRfl
namespace Go.Proofs.YtofkcmihcgmmpaaGreatDoor
open Go
set_option maxRecDepth 100000
theorem jf_make : (Tryz.pinned.checked.prog.make == some Rows.fnLeastRow.make) = true := by kernel_rfl

end Go.Proofs.YtofkcmihcgmmpaaGreatDoor
