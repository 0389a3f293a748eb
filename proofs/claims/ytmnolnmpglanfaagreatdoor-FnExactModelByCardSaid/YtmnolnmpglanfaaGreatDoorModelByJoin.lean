import Derived.Test.YtmnolnmpglanfaaGreatDoorRows
import Derived.JoinedOf
import Derived.KernelRfl
import Derived.Test.YtmnolnmpglanfaaGreatDoorJF
namespace Go.Proofs.YtmnolnmpglanfaaGreatDoor
open Go
set_option maxRecDepth 100000
theorem fnExactModelBy_jf10 : (Rows.fnExactModelByRow.inPlace == Tryz.pinned.checked.prog.inPlace 5) = true := by kernel_rfl
theorem fnExactModelBy_jf11 : (Rows.fnExactModelByRow.unfollowed == Tryz.pinned.checked.prog.unfollowed 5) = true := by kernel_rfl
theorem fnExactModelBy_jf12 : (Rows.fnExactModelByRow.recurses == Tryz.pinned.checked.prog.recurses 5) = true := by kernel_rfl
theorem fnExactModelBy_jf13 : (Rows.fnExactModelByRow.named == Tryz.pinned.checked.prog.varsNamed 5) = true := by kernel_rfl
theorem fnExactModelBy_joined : joinedFacts Tryz.pinned.checked.prog 5 Tryz.f5 Rows.fnExactModelBySpec Rows.fnExactModelByRow = true := by
  unfold joinedFacts
  refine (and_t (and_t (and_t (and_t (and_t (and_t (and_t (and_t (and_t (and_t (and_t (and_t (and_t (and_t (and_t (and_t (and_t (and_t (and_t (and_t (and_t (and_t (and_t (and_t (and_t (and_t (and_t (and_t (and_t (and_t (and_t ?_ jf_laidOut) jf_rowed) ?_) ?_) ?_) ?_) ?_) ?_) fnExactModelBy_jf10) fnExactModelBy_jf11) fnExactModelBy_jf12) fnExactModelBy_jf13) ?_) ?_) ?_) ?_) ?_) ?_) ?_) ?_) ?_) jf_keys) ?_) jf_heard) jf_enter) jf_lifts) jf_make) ?_) ?_) ?_) ?_) <;> kernel_rfl

end Go.Proofs.YtmnolnmpglanfaaGreatDoor
