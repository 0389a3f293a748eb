import Derived.Test.YtniedmhkajnfjaaGreatDoorRows
import Derived.JoinedOf
import Derived.KernelRfl
import Derived.Test.YtniedmhkajnfjaaGreatDoorJFa
import Derived.Test.YtniedmhkajnfjaaGreatDoorJFb
import Derived.Test.YtniedmhkajnfjaaGreatDoorJFc
import Derived.Test.YtniedmhkajnfjaaGreatDoorJFd
import Derived.Test.YtniedmhkajnfjaaGreatDoorJFe
namespace Go.Proofs.YtniedmhkajnfjaaGreatDoor
open Go
set_option maxRecDepth 100000
theorem and_t {a b : Bool} (ha : a = true) (hb : b = true) : (a && b) = true := by rw [ha, hb]; rfl

end Go.Proofs.YtniedmhkajnfjaaGreatDoor
