import Derived.Test.YtokmmloakahkhaaGreatRows
import Derived.JoinedOf
import Derived.KernelRfl
import Derived.Test.YtokmmloakahkhaaGreatJFs
namespace Go.Proofs.YtokmmloakahkhaaGreat
open Go
set_option maxRecDepth 100000
theorem fnSolutions_jf10 : (Rows.fnSolutionsRow.inPlace == Tryz.pinned.checked.prog.inPlace 3) = true := by kernel_rfl
theorem fnSolutions_jf11 : (Rows.fnSolutionsRow.unfollowed == Tryz.pinned.checked.prog.unfollowed 3) = true := by kernel_rfl
theorem fnSolutions_jf12 : (Rows.fnSolutionsRow.recurses == Tryz.pinned.checked.prog.recurses 3) = true := by kernel_rfl
theorem fnSolutions_jf13 : (Rows.fnSolutionsRow.named == Tryz.pinned.checked.prog.varsNamed 3) = true := by kernel_rfl
theorem fnSolutions_joined : joinedFacts Tryz.pinned.checked.prog 3 Tryz.f3 Rows.fnSolutionsSpec Rows.fnSolutionsRow = true := by
  unfold joinedFacts
  refine (and_t (and_t (and_t (and_t (and_t (and_t (and_t (and_t (and_t (and_t (and_t (and_t (and_t (and_t (and_t (and_t (and_t (and_t (and_t (and_t (and_t (and_t (and_t (and_t (and_t (and_t (and_t (and_t (and_t (and_t (and_t ?_ jf_laidOut) jf_rowed) ?_) ?_) ?_) ?_) ?_) ?_) fnSolutions_jf10) fnSolutions_jf11) fnSolutions_jf12) fnSolutions_jf13) ?_) ?_) ?_) ?_) ?_) ?_) ?_) ?_) ?_) jf_keys) ?_) jf_heard) jf_enter) jf_lifts) jf_make) ?_) ?_) ?_) ?_) <;> kernel_rfl

end Go.Proofs.YtokmmloakahkhaaGreat
