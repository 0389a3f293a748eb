import Derived.Test.YtigkgheddngkeaaGreatRows
import Derived.JoinedOf
import Derived.KernelRfl
namespace Go.Proofs.YtigkgheddngkeaaGreat
open Go
set_option maxRecDepth 100000
theorem jf_lifts : (Rows.fnExactRoundOfRow.lifted == Tryz.pinned.checked.prog.liftsFinal) = true := by kernel_rfl

end Go.Proofs.YtigkgheddngkeaaGreat
