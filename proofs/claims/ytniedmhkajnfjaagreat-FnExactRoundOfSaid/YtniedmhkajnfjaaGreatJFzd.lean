import Derived.Test.YtniedmhkajnfjaaGreatRows
import Derived.JoinedOf
import Derived.KernelRfl
namespace Go.Proofs.YtniedmhkajnfjaaGreat
open Go
set_option maxRecDepth 100000
theorem jf_keys : (Rows.fnExactRoundOfRow.plainKeys == Tryz.pinned.checked.prog.plainKeys) = true := by kernel_rfl

end Go.Proofs.YtniedmhkajnfjaaGreat
