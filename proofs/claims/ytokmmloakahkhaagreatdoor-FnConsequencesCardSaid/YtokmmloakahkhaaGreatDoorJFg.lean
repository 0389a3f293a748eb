import Derived.Test.YtokmmloakahkhaaGreatDoorRows
import Derived.SevenTiedAt
import Derived.KernelRfl
namespace Go.Proofs.YtokmmloakahkhaaGreatDoor
open Go
set_option maxRecDepth 100000
theorem jf_looks : false = Tryz.pinned.checked.prog.looks [] := by kernel_rfl

end Go.Proofs.YtokmmloakahkhaaGreatDoor
