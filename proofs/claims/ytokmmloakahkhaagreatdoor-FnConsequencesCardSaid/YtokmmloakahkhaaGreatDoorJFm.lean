import Derived.Test.YtokmmloakahkhaaGreatDoorRows
import Derived.SevenTiedAt
import Derived.KernelRfl
namespace Go.Proofs.YtokmmloakahkhaaGreatDoor
open Go
set_option maxRecDepth 100000
theorem jf_main : Tryz.pinned.checked.prog.mainIs = some (true, "af1846b8f8cba844fca0874906ab69ccebca6f99a8098cd3f4789bc959c9edbc".toList) := by kernel_rfl

end Go.Proofs.YtokmmloakahkhaaGreatDoor
