import Derived.Test.YtniedmhkajnfjaaGreatRows
import Derived.JoinedOf
import Derived.KernelRfl
import Derived.Test.YtniedmhkajnfjaaGreatJFza
import Derived.Test.YtniedmhkajnfjaaGreatJFzb
import Derived.Test.YtniedmhkajnfjaaGreatJFzc
import Derived.Test.YtniedmhkajnfjaaGreatJFzd
import Derived.Test.YtniedmhkajnfjaaGreatJFze
namespace Go.Proofs.YtniedmhkajnfjaaGreat
open Go
set_option maxRecDepth 100000
theorem and_t {a b : Bool} (ha : a = true) (hb : b = true) : (a && b) = true := by rw [ha, hb]; rfl

end Go.Proofs.YtniedmhkajnfjaaGreat
