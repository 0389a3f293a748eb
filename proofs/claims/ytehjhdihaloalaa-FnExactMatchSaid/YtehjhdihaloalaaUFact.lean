/-
  Marks and sizes of a fact, in the one form that the laws' walks ask.
-/
import Derived.Test.YtehjhdihaloalaaFacts
import Derived.Test.YtehjhdihaloalaaUInts
namespace Go.Proofs.Ytehjhdihaloalaa
open Go.RowKit

theorem us_fact {v : Value} {f : LFact} {left : Int} {w : World} (h : RdFact w w.heap.size v f) (h0 : 0 ≤ left) (hl : left ≤ 1048576) (hn : f.2.length ≤ maxLen) :
    Calls Try.prog 14 #[v, .int .i64 left] w fun e w' => ∃ z, e = .returned (.int .i64 z) ∧ (z = -1 ∨ (0 ≤ z ∧ z + f.2.length = left)) ∧ Below w.heap.size w w' :=
  (szFact_any v f left w h h0 hl (by unfold maxLen at hn; omega)).mono fun _ _ ⟨he, hb⟩ => ⟨_, he, (szV_cases left f.2.length).imp And.left id, hb⟩

set_option maxHeartbeats 400000 in
theorem um_fact {a : Value} {p : Int} {xs : List Int} {lo hi : Nat} {w : World} (k : Int) (h : OwnInts w lo hi a xs) (hlo : hi ≤ w.heap.size) (hk0 : 0 ≤ k) (hk : k ≤ 4294967296) (hs : xs.length ≤ 1073741824) :
    Calls Try.prog 44 #[.agg #[.int .i64 p, a], .int .i64 k] w fun e w' => ∃ z, e = .returned (.int .i64 z) ∧ k ≤ z ∧ z ≤ k + xs.length ∧ HdInts w' lo hi a xs k z ∧ Only lo hi w w' := by
  have H := Lib.hid (fun o => h.below (below1 w o) hlo)
  obtain ⟨A, c, rfl⟩ := h.form
  clear h
  go_enter Try.func44, Try.ntmps44
  go_wp2_with (fail)
  refine (um_ints k (H.out _) hk0 hk hs).mono ?_
  rintro e w2 ⟨z, rfl, h1, h2, h3, h4⟩
  have HH := Lib.hid (And.intro h3 ((Only.of_below (below1 _ _)).trans h4))
  clear h3 h4
  go_wp2_with (fail)
  go_ret
  exact ⟨_, rfl, h1, h2, HH.out.1, HH.out.2⟩

end Go.Proofs.Ytehjhdihaloalaa
