import Derived.Test.YtofkcmihcgmmpaaGreatDoorRows
import Derived.JoinedOf
import Derived.KernelRfl
import Derived.Test.YtofkcmihcgmmpaaGreatDoorJFu
namespace Go.Proofs.YtofkcmihcgmmpaaGreatDoor
open Go
set_option maxRecDepth 100000
theorem fnLeastMore_jf10 : (Rows.fnLeastMoreRow.inPlace == Tryz.pinned.checked.prog.inPlace 5) = true := by kernel_rfl
theorem fnLeastMore_jf11 : (Rows.fnLeastMoreRow.unfollowed == Tryz.pinned.checked.prog.unfollowed 5) = true := by kernel_rfl
theorem fnLeastMore_jf12 : (Rows.fnLeastMoreRow.recurses == Tryz.pinned.checked.prog.recurses 5) = true := by kernel_rfl
theorem fnLeastMore_jf13 : (Rows.fnLeastMoreRow.named == Tryz.pinned.checked.prog.varsNamed 5) = true := by kernel_rfl
theorem fnLeastMore_joined : joinedFacts Tryz.pinned.checked.prog 5 Tryz.f5 Rows.fnLeastMoreSpec Rows.fnLeastMoreRow = true := by
  unfold joinedFacts
  refine (and_t (and_t (and_t (and_t (and_t (and_t (and_t (and_t (and_t (and_t (and_t (and_t (and_t (and_t (and_t (and_t (and_t (and_t (and_t (and_t (and_t (and_t (and_t (and_t (and_t (and_t (and_t (and_t (and_t (and_t (and_t ?_ jf_laidOut) jf_rowed) ?_) ?_) ?_) ?_) ?_) ?_) fnLeastMore_jf10) fnLeastMore_jf11) fnLeastMore_jf12) fnLeastMore_jf13) ?_) ?_) ?_) ?_) ?_) ?_) ?_) ?_) ?_) jf_keys) ?_) jf_heard) jf_enter) jf_lifts) jf_make) ?_) ?_) ?_) ?_) <;> kernel_rfl

end Go.Proofs.YtofkcmihcgmmpaaGreatDoor
