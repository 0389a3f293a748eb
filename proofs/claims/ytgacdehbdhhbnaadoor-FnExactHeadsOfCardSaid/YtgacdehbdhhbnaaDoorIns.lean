/-
  What comes in, its lengths.
-/
import Derived.Test.YtgacdehbdhhbnaaDoorOpens
import Derived.Test.YtgacdehbdhhbnaaDoorPgms
namespace Go.Proofs.YtgacdehbdhhbnaaDoor
open Go.RowKit

theorem ruleLens_in {r : LRule} (h : ruleFitsIn r) : ruleLens r := by
  obtain ⟨h1, h2, h3⟩ := h
  unfold maxLen at *
  exact ⟨by omega, by omega, fun k hk => by have := h3 k hk; omega⟩
theorem progLens_in {p : LProg} (h : p.1.length ≤ maxLen ∧ p.2.length ≤ maxLen ∧ ∀ k (h : k < p.2.length), ruleFitsIn p.2[k]) : progLens p := by
  obtain ⟨h1, h2, h3⟩ := h
  refine ⟨?_, ?_, fun k hk => ruleLens_in (h3 k hk)⟩ <;> (unfold maxLen at *; omega)

end Go.Proofs.YtgacdehbdhhbnaaDoor
