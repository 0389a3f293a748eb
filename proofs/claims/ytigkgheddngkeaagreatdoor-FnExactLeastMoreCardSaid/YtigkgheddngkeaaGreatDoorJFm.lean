import Derived.Test.YtigkgheddngkeaaGreatDoorRows
import Derived.SevenTiedAt
import Derived.KernelRfl
namespace Go.Proofs.YtigkgheddngkeaaGreatDoor
open Go
set_option maxRecDepth 100000
theorem jf_main : Tryz.pinned.checked.prog.mainIs = some (true, "26d588f6e5e7a8d4dd45fe0a2b21d48168ac96876178b7f3b2e10b1419b1564b".toList) := by kernel_rfl

end Go.Proofs.YtigkgheddngkeaaGreatDoor
