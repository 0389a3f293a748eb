import Derived.Test.YtigkgheddngkeaaGreatDoorRows
import Derived.JoinedOf
import Derived.KernelRfl
namespace Go.Proofs.YtigkgheddngkeaaGreatDoor
open Go
set_option maxRecDepth 100000
theorem jf_keys : (Rows.fnExactLeastRow.plainKeys == Tryz.pinned.checked.prog.plainKeys) = true := by kernel_rfl

end Go.Proofs.YtigkgheddngkeaaGreatDoor
