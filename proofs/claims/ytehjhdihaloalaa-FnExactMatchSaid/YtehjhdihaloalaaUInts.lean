/-
  Marks on integers, in the one form that the laws' walks ask.
-/
import Derived.Test.YtehjhdihaloalaaMarkInts
namespace Go.Proofs.Ytehjhdihaloalaa
open Go.RowKit

/-- The marks from k on stand in a row of integers, and end at z. -/
def HdInts (w : World) (lo hi : Nat) (v : Value) (xs : List Int) (k z : Int) : Prop := OwnInts w lo hi v (seqI k xs.length) ∧ z = k + xs.length ∧ 0 ≤ k ∧ k ≤ 4294967296 ∧ xs.length ≤ 1073741824
theorem HdInts.below {w w' : World} {lo hi B : Nat} {v : Value} {xs : List Int} {k z : Int} (h : HdInts w lo hi v xs k z) (hb : Below B w w') (hB : hi ≤ B) : HdInts w' lo hi v xs k z := ⟨h.1.below hb hB, h.2⟩
theorem HdInts.only {w w' : World} {lo hi lo' hi' : Nat} {v : Value} {xs : List Int} {k z : Int} (h : HdInts w lo hi v xs k z) (ho : Only lo' hi' w w') (hd : hi ≤ lo' ∨ hi' ≤ lo) : HdInts w' lo hi v xs k z := ⟨h.1.only ho hd, h.2⟩

theorem um_ints {v : Value} {xs : List Int} {lo hi : Nat} {w : World} (k : Int) (h : OwnInts w lo hi v xs) (hk0 : 0 ≤ k) (hk : k ≤ 4294967296) (hs : xs.length ≤ 1073741824) :
    Calls Try.prog 36 #[v, .int .i64 k] w fun e w' => ∃ z, e = .returned (.int .i64 z) ∧ k ≤ z ∧ z ≤ k + xs.length ∧ HdInts w' lo hi v xs k z ∧ Only lo hi w w' :=
  (markIntS_any v xs k lo hi w h hk0 (by omega)).mono fun _ _ ⟨he, ho, hg⟩ =>
    ⟨_, he, by omega, Int.le_refl _, ⟨ho, rfl, hk0, hk, hs⟩, Only.of_grown hg (fun g hg' => by have := h.lt hg'; omega)⟩

theorem uh_ints {v : Value} {xs : List Int} {lo hi : Nat} {w : World} {k z : Int} (h : HdInts w lo hi v xs k z) (hh : hi ≤ w.heap.size) :
    Calls Try.prog 37 #[v, .int .i64 k] w fun e w' => e = .returned (.int .i64 z) ∧ Below w.heap.size w w' :=
  (heldIntS_any v xs.length k w (h.1.rd.more hh) h.2.2.1 (by have := h.2.2.2.1; have := h.2.2.2.2; omega)).mono fun _ _ ⟨he, hw⟩ => ⟨by rw [he, h.2.1], hw ▸ Below.refl _ _⟩

end Go.Proofs.Ytehjhdihaloalaa
