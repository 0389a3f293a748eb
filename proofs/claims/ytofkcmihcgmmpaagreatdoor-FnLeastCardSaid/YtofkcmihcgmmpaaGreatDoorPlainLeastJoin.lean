import Derived.Test.YtofkcmihcgmmpaaGreatDoorRows
import Derived.JoinedOf
import Derived.KernelRfl
import Derived.Test.YtofkcmihcgmmpaaGreatDoorJFu
namespace Go.Proofs.YtofkcmihcgmmpaaGreatDoor
open Go
set_option maxRecDepth 100000
theorem fnLeast_jf10 : (Rows.fnLeastRow.inPlace == Tryz.pinned.checked.prog.inPlace 3) = true := by kernel_rfl
theorem fnLeast_jf11 : (Rows.fnLeastRow.unfollowed == Tryz.pinned.checked.prog.unfollowed 3) = true := by kernel_rfl
theorem fnLeast_jf12 : (Rows.fnLeastRow.recurses == Tryz.pinned.checked.prog.recurses 3) = true := by kernel_rfl
theorem fnLeast_jf13 : (Rows.fnLeastRow.named == Tryz.pinned.checked.prog.varsNamed 3) = true := by kernel_rfl
theorem fnLeast_joined : joinedFacts Tryz.pinned.checked.prog 3 Tryz.f3 Rows.fnLeastSpec Rows.fnLeastRow = true := by
  unfold joinedFacts
  refine (and_t (and_t (and_t (and_t (and_t (and_t (and_t (and_t (and_t (and_t (and_t (and_t (and_t (and_t (and_t (and_t (and_t (and_t (and_t (and_t (and_t (and_t (and_t (and_t (and_t (and_t (and_t (and_t (and_t (and_t (and_t ?_ jf_laidOut) jf_rowed) ?_) ?_) ?_) ?_) ?_) ?_) fnLeast_jf10) fnLeast_jf11) fnLeast_jf12) fnLeast_jf13) ?_) ?_) ?_) ?_) ?_) ?_) ?_) ?_) ?_) jf_keys) ?_) jf_heard) jf_enter) jf_lifts) jf_make) ?_) ?_) ?_) ?_) <;> kernel_rfl

end Go.Proofs.YtofkcmihcgmmpaaGreatDoor
