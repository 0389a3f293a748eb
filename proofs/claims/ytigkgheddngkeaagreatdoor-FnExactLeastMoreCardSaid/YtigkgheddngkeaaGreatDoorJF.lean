import Derived.Test.YtigkgheddngkeaaGreatDoorRows
import Derived.JoinedOf
import Derived.KernelRfl
import Derived.Test.YtigkgheddngkeaaGreatDoorJFa
import Derived.Test.YtigkgheddngkeaaGreatDoorJFb
import Derived.Test.YtigkgheddngkeaaGreatDoorJFc
import Derived.Test.YtigkgheddngkeaaGreatDoorJFd
import Derived.Test.YtigkgheddngkeaaGreatDoorJFe
namespace Go.Proofs.YtigkgheddngkeaaGreatDoor
open Go
set_option maxRecDepth 100000
theorem and_t {a b : Bool} (ha : a = true) (hb : b = true) : (a && b) = true := by rw [ha, hb]; rfl

end Go.Proofs.YtigkgheddngkeaaGreatDoor
