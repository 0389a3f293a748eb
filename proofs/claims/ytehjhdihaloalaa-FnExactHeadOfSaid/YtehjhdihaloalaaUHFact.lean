/-
  heldFact.
-/
import Derived.Test.YtehjhdihaloalaaUFact
namespace Go.Proofs.Ytehjhdihaloalaa
open Go.RowKit

set_option maxHeartbeats 400000 in
theorem uh_fact {a : Value} {p : Int} {xs : List Int} {lo hi : Nat} {w : World} {k z : Int} (h : HdInts w lo hi a xs k z) (hh : hi ≤ w.heap.size) :
    Calls Try.prog 57 #[.agg #[.int .i64 p, a], .int .i64 k] w fun e w' => e = .returned (.int .i64 z) ∧ Below w.heap.size w w' := by
  have H := Lib.hid (fun o => h.below (below1 w o) hh)
  obtain ⟨h1, h2, h3, h4, h5⟩ := h
  obtain ⟨A, c, hv⟩ := h1.form
  rw [hv] at H ⊢
  have hz : ¬ z < 0 := by omega
  have hz2 : decide (z < 0) = false := by simp; omega
  clear h1 h2 hv
  go_enter Try.func57, Try.ntmps57
  go_wp2_with (fail)
  refine (uh_ints (H.out _) (Nat.le_trans hh (below1 _ _).size)).mono ?_
  rintro e w2 ⟨rfl, hb⟩
  have hB := bthen (below1 _ _) hb
  go_wp2_with (fail)
  go_ret
  exact ⟨rfl, hB⟩

end Go.Proofs.Ytehjhdihaloalaa
