import Derived.Test.YtofkcmihcgmmpaaGreatDoorRows
import Derived.SevenTiedAt
import Derived.KernelRfl
namespace Go.Proofs.YtofkcmihcgmmpaaGreatDoor
open Go
set_option maxRecDepth 100000
theorem fnLeastMore_goes : false = Rows.fnLeastMoreRow.goesBy Tryz.pinned.checked.prog := by kernel_rfl

end Go.Proofs.YtofkcmihcgmmpaaGreatDoor
