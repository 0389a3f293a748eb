/-
  Marks: what markIntS, markFactS leave and heldIntS, heldFactS find. The words, and the walks over integers.
-/
import Derived.Test.YtcoelmhlkfignaaMarkInts
import Derived.Test.YtcoelmhlkfignaaToFacts
namespace Go.Proofs.Ytcoelmhlkfignaa
open Go.RowKit

section
variable {lo hi lo' hi' : Nat} {w w1 w' : World}
theorem OwnFacts.only {v : Value} {fs : List LFact} (h : OwnFacts w lo hi v fs) (ho : Only lo' hi' w w') (hd : hi ≤ lo' ∨ hi' ≤ lo) : OwnFacts w' lo hi v fs := by
  obtain ⟨av, ha, hr, hlt⟩ := h
  exact ⟨av, ⟨ha.len, fun i h1 h2 => (ha.own i h1 h2).only ho hd, ha.apart⟩, ownsRow_only hr (fun g hg => ho.block g (hr.lt g hg).2 (by have := hr.lt g hg; have := hlt g hg; omega)), hlt⟩

end

end Go.Proofs.Ytcoelmhlkfignaa
