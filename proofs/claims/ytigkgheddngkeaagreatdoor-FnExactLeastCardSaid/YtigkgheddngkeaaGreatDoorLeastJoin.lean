import Derived.Test.YtigkgheddngkeaaGreatDoorRows
import Derived.JoinedOf
import Derived.KernelRfl
import Derived.Test.YtigkgheddngkeaaGreatDoorJF
namespace Go.Proofs.YtigkgheddngkeaaGreatDoor
open Go
set_option maxRecDepth 100000
theorem fnExactLeast_jf10 : (Rows.fnExactLeastRow.inPlace == Tryz.pinned.checked.prog.inPlace 4) = true := by kernel_rfl
theorem fnExactLeast_jf11 : (Rows.fnExactLeastRow.unfollowed == Tryz.pinned.checked.prog.unfollowed 4) = true := by kernel_rfl
theorem fnExactLeast_jf12 : (Rows.fnExactLeastRow.recurses == Tryz.pinned.checked.prog.recurses 4) = true := by kernel_rfl
theorem fnExactLeast_jf13 : (Rows.fnExactLeastRow.named == Tryz.pinned.checked.prog.varsNamed 4) = true := by kernel_rfl
theorem fnExactLeast_joined : joinedFacts Tryz.pinned.checked.prog 4 Tryz.f4 Rows.fnExactLeastSpec Rows.fnExactLeastRow = true := by
  unfold joinedFacts
  refine (and_t (and_t (and_t (and_t (and_t (and_t (and_t (and_t (and_t (and_t (and_t (and_t (and_t (and_t (and_t (and_t (and_t (and_t (and_t (and_t (and_t (and_t (and_t (and_t (and_t (and_t (and_t (and_t (and_t (and_t (and_t ?_ jf_laidOut) jf_rowed) ?_) ?_) ?_) ?_) ?_) ?_) fnExactLeast_jf10) fnExactLeast_jf11) fnExactLeast_jf12) fnExactLeast_jf13) ?_) ?_) ?_) ?_) ?_) ?_) ?_) ?_) ?_) jf_keys) ?_) jf_heard) jf_enter) jf_lifts) jf_make) ?_) ?_) ?_) ?_) <;> kernel_rfl

end Go.Proofs.YtigkgheddngkeaaGreatDoor
