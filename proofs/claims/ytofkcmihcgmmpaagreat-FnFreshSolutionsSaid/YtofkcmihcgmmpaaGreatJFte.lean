import Derived.Test.YtofkcmihcgmmpaaGreatRows
import Derived.JoinedOf
import Derived.KernelRfl
namespace Go.Proofs.YtofkcmihcgmmpaaGreat
open Go
set_option maxRecDepth 100000
theorem jf_make : (Tryz.pinned.checked.prog.make == some Rows.fnFreshSolutionsRow.make) = true := by kernel_rfl

end Go.Proofs.YtofkcmihcgmmpaaGreat
