/-
  What a law says of the size of steps that come in.
-/
import Derived.Test.YtcoelmhlkfignaaEqSteps
namespace Go.Proofs.Ytcoelmhlkfignaa
open Go.RowKit

def stepFits (s : LStep) : Prop := s.1.2.length ≤ maxLen ∧ s.2.2.1.length ≤ maxLen ∧ s.2.2.2.length ≤ maxLen
theorem us_steps {v : Value} {ss : List LStep} {left : Int} {w : World} (h : RdSteps w w.heap.size v ss) (h0 : 0 ≤ left) (hl : left ≤ 1048576) (hn : ss.length ≤ maxLen) (hm : ∀ k (h : k < ss.length), stepFits ss[k]) :
    Calls Try.prog 6 #[v, .int .i64 left] w fun e w' => ∃ z, e = .returned (.int .i64 z) ∧ (z = -1 ∨ (0 ≤ z ∧ z + (ss.length + totS ss : Nat) = left)) ∧ Below w.heap.size w w' :=
  (szStepS_any v ss left w h h0 hl (by unfold maxLen at hn; omega) (fun k hk => by obtain ⟨a, b, c⟩ := hm k hk; unfold maxLen at a b c; exact ⟨by omega, by omega, by omega⟩)).mono fun _ _ ⟨r, he, hr, hb⟩ => ⟨r, he, hr.imp id fun ⟨a, b⟩ => ⟨a, by omega⟩, hb⟩

end Go.Proofs.Ytcoelmhlkfignaa
