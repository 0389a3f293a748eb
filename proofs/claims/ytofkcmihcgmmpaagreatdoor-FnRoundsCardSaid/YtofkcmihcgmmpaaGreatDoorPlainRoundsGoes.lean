import Derived.Test.YtofkcmihcgmmpaaGreatDoorRows
import Derived.SevenTiedAt
import Derived.KernelRfl
namespace Go.Proofs.YtofkcmihcgmmpaaGreatDoor
open Go
set_option maxRecDepth 100000
theorem fnRounds_goes : false = Rows.fnRoundsRow.goesBy Tryz.pinned.checked.prog := by kernel_rfl

end Go.Proofs.YtofkcmihcgmmpaaGreatDoor
