import Derived.Test.YtofkcmihcgmmpaaGreatRows
import Derived.JoinedOf
import Derived.KernelRfl
namespace Go.Proofs.YtofkcmihcgmmpaaGreat
open Go
set_option maxRecDepth 100000
theorem jf_keys : (Rows.fnFreshSolutionsRow.plainKeys == Tryz.pinned.checked.prog.plainKeys) = true := by kernel_rfl

end Go.Proofs.YtofkcmihcgmmpaaGreat
