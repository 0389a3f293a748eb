import Derived.Test.YtofkcmihcgmmpaaGreatRows
import Derived.JoinedOf
import Derived.KernelRfl
namespace Go.Proofs.YtofkcmihcgmmpaaGreat
open Go
set_option maxRecDepth 100000
theorem jf_lifts : (Rows.fnFreshSolutionsRow.lifted == Tryz.pinned.checked.prog.liftsFinal) = true := by kernel_rfl

end Go.Proofs.YtofkcmihcgmmpaaGreat
