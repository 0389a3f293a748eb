import Derived.Test.YtokmmloakahkhaaGreatRows
import Derived.JoinedOf
import Derived.KernelRfl
namespace Go.Proofs.YtokmmloakahkhaaGreat
open Go
set_option maxRecDepth 100000
theorem jf_make : (Tryz.pinned.checked.prog.make == some Rows.fnSolutionsRow.make) = true := by kernel_rfl

end Go.Proofs.YtokmmloakahkhaaGreat
