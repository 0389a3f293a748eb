import Derived.Test.YtokmmloakahkhaaGreatRows
import Derived.JoinedOf
import Derived.KernelRfl
import Derived.Test.YtokmmloakahkhaaGreatJFsa
import Derived.Test.YtokmmloakahkhaaGreatJFsb
import Derived.Test.YtokmmloakahkhaaGreatJFsc
import Derived.Test.YtokmmloakahkhaaGreatJFsd
import Derived.Test.YtokmmloakahkhaaGreatJFse
namespace Go.Proofs.YtokmmloakahkhaaGreat
open Go
set_option maxRecDepth 100000
theorem and_t {a b : Bool} (ha : a = true) (hb : b = true) : (a && b) = true := by rw [ha, hb]; rfl

end Go.Proofs.YtokmmloakahkhaaGreat
