import Derived.Test.YtofkcmihcgmmpaaGreatDoorRows
import Derived.SevenTiedAt
import Derived.KernelRfl
namespace Go.Proofs.YtofkcmihcgmmpaaGreatDoor
open Go
set_option maxRecDepth 100000
theorem jf_main : Tryz.pinned.checked.prog.mainIs = some (true, "a898150b3e57ef69710a9ceff96c21c6d3d59c749694ace518ff4bc4186d9c87".toList) := by kernel_rfl

end Go.Proofs.YtofkcmihcgmmpaaGreatDoor
