import Derived.Test.YtniedmhkajnfjaaGreatDoorRows
import Derived.JoinedOf
import Derived.KernelRfl
namespace Go.Proofs.YtniedmhkajnfjaaGreatDoor
open Go
set_option maxRecDepth 100000
theorem jf_keys : (Rows.fnExactLeastRow.plainKeys == Tryz.pinned.checked.prog.plainKeys) = true := by kernel_rfl

end Go.Proofs.YtniedmhkajnfjaaGreatDoor
