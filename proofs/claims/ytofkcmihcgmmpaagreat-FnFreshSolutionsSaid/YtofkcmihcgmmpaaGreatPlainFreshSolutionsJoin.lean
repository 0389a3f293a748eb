import Derived.Test.YtofkcmihcgmmpaaGreatRows
import Derived.JoinedOf
import Derived.KernelRfl
import Derived.Test.YtofkcmihcgmmpaaGreatJFt
namespace Go.Proofs.YtofkcmihcgmmpaaGreat
open Go
set_option maxRecDepth 100000
theorem fnFreshSolutions_jf10 : (Rows.fnFreshSolutionsRow.inPlace == Tryz.pinned.checked.prog.inPlace 3) = true := by kernel_rfl
theorem fnFreshSolutions_jf11 : (Rows.fnFreshSolutionsRow.unfollowed == Tryz.pinned.checked.prog.unfollowed 3) = true := by kernel_rfl
theorem fnFreshSolutions_jf12 : (Rows.fnFreshSolutionsRow.recurses == Tryz.pinned.checked.prog.recurses 3) = true := by kernel_rfl
theorem fnFreshSolutions_jf13 : (Rows.fnFreshSolutionsRow.named == Tryz.pinned.checked.prog.varsNamed 3) = true := by kernel_rfl
theorem fnFreshSolutions_joined : joinedFacts Tryz.pinned.checked.prog 3 Tryz.f3 Rows.fnFreshSolutionsSpec Rows.fnFreshSolutionsRow = true := by
  unfold joinedFacts
  refine (and_t (and_t (and_t (and_t (and_t (and_t (and_t (and_t (and_t (and_t (and_t (and_t (and_t (and_t (and_t (and_t (and_t (and_t (and_t (and_t (and_t (and_t (and_t (and_t (and_t (and_t (and_t (and_t (and_t (and_t (and_t ?_ jf_laidOut) jf_rowed) ?_) ?_) ?_) ?_) ?_) ?_) fnFreshSolutions_jf10) fnFreshSolutions_jf11) fnFreshSolutions_jf12) fnFreshSolutions_jf13) ?_) ?_) ?_) ?_) ?_) ?_) ?_) ?_) ?_) jf_keys) ?_) jf_heard) jf_enter) jf_lifts) jf_make) ?_) ?_) ?_) ?_) <;> kernel_rfl

end Go.Proofs.YtofkcmihcgmmpaaGreat
