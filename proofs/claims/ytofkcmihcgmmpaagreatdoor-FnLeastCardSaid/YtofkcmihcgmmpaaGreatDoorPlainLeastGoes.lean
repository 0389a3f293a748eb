import Derived.Test.YtofkcmihcgmmpaaGreatDoorRows
import Derived.SevenTiedAt
import Derived.KernelRfl
namespace Go.Proofs.YtofkcmihcgmmpaaGreatDoor
open Go
set_option maxRecDepth 100000
theorem fnLeast_goes : false = Rows.fnLeastRow.goesBy Tryz.pinned.checked.prog := by kernel_rfl

end Go.Proofs.YtofkcmihcgmmpaaGreatDoor
