import Derived.Test.YtokmmloakahkhaaGreatDoorRows
import Derived.JoinedOf
import Derived.KernelRfl
import Derived.Test.YtokmmloakahkhaaGreatDoorJF
namespace Go.Proofs.YtokmmloakahkhaaGreatDoor
open Go
set_option maxRecDepth 100000
theorem fnConsequences_jf10 : (Rows.fnConsequencesRow.inPlace == Tryz.pinned.checked.prog.inPlace 3) = true := by kernel_rfl
theorem fnConsequences_jf11 : (Rows.fnConsequencesRow.unfollowed == Tryz.pinned.checked.prog.unfollowed 3) = true := by kernel_rfl
theorem fnConsequences_jf12 : (Rows.fnConsequencesRow.recurses == Tryz.pinned.checked.prog.recurses 3) = true := by kernel_rfl
theorem fnConsequences_jf13 : (Rows.fnConsequencesRow.named == Tryz.pinned.checked.prog.varsNamed 3) = true := by kernel_rfl
theorem fnConsequences_joined : joinedFacts Tryz.pinned.checked.prog 3 Tryz.f3 Rows.fnConsequencesSpec Rows.fnConsequencesRow = true := by
  unfold joinedFacts
  refine (and_t (and_t (and_t (and_t (and_t (and_t (and_t (and_t (and_t (and_t (and_t (and_t (and_t (and_t (and_t (and_t (and_t (and_t (and_t (and_t (and_t (and_t (and_t (and_t (and_t (and_t (and_t (and_t (and_t (and_t (and_t ?_ jf_laidOut) jf_rowed) ?_) ?_) ?_) ?_) ?_) ?_) fnConsequences_jf10) fnConsequences_jf11) fnConsequences_jf12) fnConsequences_jf13) ?_) ?_) ?_) ?_) ?_) ?_) ?_) ?_) ?_) jf_keys) ?_) jf_heard) jf_enter) jf_lifts) jf_make) ?_) ?_) ?_) ?_) <;> kernel_rfl

end Go.Proofs.YtokmmloakahkhaaGreatDoor
