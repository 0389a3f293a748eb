import Derived.Test.YtmnolnmpglanfaaGreatDoorRows
import Derived.SevenTiedAt
import Derived.KernelRfl
namespace Go.Proofs.YtmnolnmpglanfaaGreatDoor
open Go
set_option maxRecDepth 100000
theorem jf_main : Tryz.pinned.checked.prog.mainIs = some (true, "606ee496eb09e4ae50895afea34e83d844a48e9d13f6b1062c01565ce91676c1".toList) := by kernel_rfl

end Go.Proofs.YtmnolnmpglanfaaGreatDoor
