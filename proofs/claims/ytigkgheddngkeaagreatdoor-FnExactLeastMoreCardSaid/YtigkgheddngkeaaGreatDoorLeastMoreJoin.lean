import Derived.Test.YtigkgheddngkeaaGreatDoorRows
import Derived.JoinedOf
import Derived.KernelRfl
import Derived.Test.YtigkgheddngkeaaGreatDoorJF
namespace Go.Proofs.YtigkgheddngkeaaGreatDoor
open Go
set_option maxRecDepth 100000
theorem fnExactLeastMore_jf10 : (Rows.fnExactLeastMoreRow.inPlace == Tryz.pinned.checked.prog.inPlace 12) = true := by kernel_rfl
theorem fnExactLeastMore_jf11 : (Rows.fnExactLeastMoreRow.unfollowed == Tryz.pinned.checked.prog.unfollowed 12) = true := by kernel_rfl
theorem fnExactLeastMore_jf12 : (Rows.fnExactLeastMoreRow.recurses == Tryz.pinned.checked.prog.recurses 12) = true := by kernel_rfl
theorem fnExactLeastMore_jf13 : (Rows.fnExactLeastMoreRow.named == Tryz.pinned.checked.prog.varsNamed 12) = true := by kernel_rfl
theorem fnExactLeastMore_joined : joinedFacts Tryz.pinned.checked.prog 12 Tryz.f12 Rows.fnExactLeastMoreSpec Rows.fnExactLeastMoreRow = true := by
  unfold joinedFacts
  refine (and_t (and_t (and_t (and_t (and_t (and_t (and_t (and_t (and_t (and_t (and_t (and_t (and_t (and_t (and_t (and_t (and_t (and_t (and_t (and_t (and_t (and_t (and_t (and_t (and_t (and_t (and_t (and_t (and_t (and_t (and_t ?_ jf_laidOut) jf_rowed) ?_) ?_) ?_) ?_) ?_) ?_) fnExactLeastMore_jf10) fnExactLeastMore_jf11) fnExactLeastMore_jf12) fnExactLeastMore_jf13) ?_) ?_) ?_) ?_) ?_) ?_) ?_) ?_) ?_) jf_keys) ?_) jf_heard) jf_enter) jf_lifts) jf_make) ?_) ?_) ?_) ?_) <;> kernel_rfl

end Go.Proofs.YtigkgheddngkeaaGreatDoor
