import Derived.Test.YtokmmloakahkhaaGreatRows
import Derived.JoinedOf
import Derived.KernelRfl
namespace Go.Proofs.YtokmmloakahkhaaGreat
open Go
set_option maxRecDepth 100000
theorem jf_lifts : (Rows.fnSolutionsRow.lifted == Tryz.pinned.checked.prog.liftsFinal) = true := by kernel_rfl

end Go.Proofs.YtokmmloakahkhaaGreat
