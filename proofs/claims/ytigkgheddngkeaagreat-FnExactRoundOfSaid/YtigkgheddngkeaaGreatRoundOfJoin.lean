import Derived.Test.YtigkgheddngkeaaGreatRows
import Derived.JoinedOf
import Derived.KernelRfl
import Derived.Test.YtigkgheddngkeaaGreatJFz
namespace Go.Proofs.YtigkgheddngkeaaGreat
open Go
set_option maxRecDepth 100000
theorem fnExactRoundOf_jf10 : (Rows.fnExactRoundOfRow.inPlace == Tryz.pinned.checked.prog.inPlace 3) = true := by kernel_rfl
theorem fnExactRoundOf_jf11 : (Rows.fnExactRoundOfRow.unfollowed == Tryz.pinned.checked.prog.unfollowed 3) = true := by kernel_rfl
theorem fnExactRoundOf_jf12 : (Rows.fnExactRoundOfRow.recurses == Tryz.pinned.checked.prog.recurses 3) = true := by kernel_rfl
theorem fnExactRoundOf_jf13 : (Rows.fnExactRoundOfRow.named == Tryz.pinned.checked.prog.varsNamed 3) = true := by kernel_rfl
theorem fnExactRoundOf_joined : joinedFacts Tryz.pinned.checked.prog 3 Tryz.f3 Rows.fnExactRoundOfSpec Rows.fnExactRoundOfRow = true := by
  unfold joinedFacts
  refine (and_t (and_t (and_t (and_t (and_t (and_t (and_t (and_t (and_t (and_t (and_t (and_t (and_t (and_t (and_t (and_t (and_t (and_t (and_t (and_t (and_t (and_t (and_t (and_t (and_t (and_t (and_t (and_t (and_t (and_t (and_t ?_ jf_laidOut) jf_rowed) ?_) ?_) ?_) ?_) ?_) ?_) fnExactRoundOf_jf10) fnExactRoundOf_jf11) fnExactRoundOf_jf12) fnExactRoundOf_jf13) ?_) ?_) ?_) ?_) ?_) ?_) ?_) ?_) ?_) jf_keys) ?_) jf_heard) jf_enter) jf_lifts) jf_make) ?_) ?_) ?_) ?_) <;> kernel_rfl

end Go.Proofs.YtigkgheddngkeaaGreat
