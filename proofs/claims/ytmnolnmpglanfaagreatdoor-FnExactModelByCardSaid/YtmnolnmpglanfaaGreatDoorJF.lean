import Derived.Test.YtmnolnmpglanfaaGreatDoorRows
import Derived.JoinedOf
import Derived.KernelRfl
import Derived.Test.YtmnolnmpglanfaaGreatDoorJFa
import Derived.Test.YtmnolnmpglanfaaGreatDoorJFb
import Derived.Test.YtmnolnmpglanfaaGreatDoorJFc
import Derived.Test.YtmnolnmpglanfaaGreatDoorJFd
import Derived.Test.YtmnolnmpglanfaaGreatDoorJFe
namespace Go.Proofs.YtmnolnmpglanfaaGreatDoor
open Go
set_option maxRecDepth 100000
theorem and_t {a b : Bool} (ha : a = true) (hb : b = true) : (a && b) = true := by rw [ha, hb]; rfl

end Go.Proofs.YtmnolnmpglanfaaGreatDoor
