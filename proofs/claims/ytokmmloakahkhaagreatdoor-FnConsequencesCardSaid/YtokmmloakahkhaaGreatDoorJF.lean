import Derived.Test.YtokmmloakahkhaaGreatDoorRows
import Derived.JoinedOf
import Derived.KernelRfl
import Derived.Test.YtokmmloakahkhaaGreatDoorJFa
import Derived.Test.YtokmmloakahkhaaGreatDoorJFb
import Derived.Test.YtokmmloakahkhaaGreatDoorJFc
import Derived.Test.YtokmmloakahkhaaGreatDoorJFd
import Derived.Test.YtokmmloakahkhaaGreatDoorJFe
namespace Go.Proofs.YtokmmloakahkhaaGreatDoor
open Go
set_option maxRecDepth 100000
theorem and_t {a b : Bool} (ha : a = true) (hb : b = true) : (a && b) = true := by rw [ha, hb]; rfl

end Go.Proofs.YtokmmloakahkhaaGreatDoor
