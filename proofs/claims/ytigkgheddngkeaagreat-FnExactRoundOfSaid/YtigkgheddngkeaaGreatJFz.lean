import Derived.Test.YtigkgheddngkeaaGreatRows
import Derived.JoinedOf
import Derived.KernelRfl
import Derived.Test.YtigkgheddngkeaaGreatJFza
import Derived.Test.YtigkgheddngkeaaGreatJFzb
import Derived.Test.YtigkgheddngkeaaGreatJFzc
import Derived.Test.YtigkgheddngkeaaGreatJFzd
import Derived.Test.YtigkgheddngkeaaGreatJFze
namespace Go.Proofs.YtigkgheddngkeaaGreat
open Go
set_option maxRecDepth 100000
theorem and_t {a b : Bool} (ha : a = true) (hb : b = true) : (a && b) = true := by rw [ha, hb]; rfl

end Go.Proofs.YtigkgheddngkeaaGreat
