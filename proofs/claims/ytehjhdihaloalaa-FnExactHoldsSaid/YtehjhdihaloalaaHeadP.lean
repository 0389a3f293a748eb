/-
  HeadOf, plain mathematics; blocks that growth leaves alone.
-/
import Derived.Test.YtehjhdihaloalaaBinds
import Derived.Test.YtehjhdihaloalaaFactOk
import Derived.Test.YtehjhdihaloalaaColW
namespace Go.Proofs.Ytehjhdihaloalaa
open Go.RowKit

def headOk (a : LFact) (bs : List Int) : Bool := (bindOk bs && a.2.all termOk) && (a.2.map (termVal bs)).all constOk
def headOf (a : LFact) (bs : List Int) : LFact := if headOk a bs then (a.1, a.2.map (termVal bs)) else (0, [])
theorem headOk_bind {a : LFact} {bs : List Int} (h : bindOk bs = false) : headOk a bs = false := by unfold headOk; rw [h]; rfl
theorem headOk_terms {a : LFact} {bs : List Int} (h : a.2.all termOk = false) : headOk a bs = false := by unfold headOk; rw [h, Bool.and_false]; rfl
theorem headOk_vals {a : LFact} {bs : List Int} (h : (a.2.map (termVal bs)).all constOk = false) : headOk a bs = false := by unfold headOk; rw [h, Bool.and_false]
theorem headOk_yes {a : LFact} {bs : List Int} (h1 : bindOk bs = true) (h2 : a.2.all termOk = true) (h3 : (a.2.map (termVal bs)).all constOk = true) : headOk a bs = true := by unfold headOk; rw [h1, h2, h3]; rfl
theorem headOf_no {a : LFact} {bs : List Int} (h : headOk a bs = false) : headOf a bs = (0, []) := by unfold headOf; rw [h]; rfl
theorem headOf_yes {a : LFact} {bs : List Int} (h : headOk a bs = true) : headOf a bs = (a.1, a.2.map (termVal bs)) := by unfold headOf; rw [h]; rfl
theorem headOf_length (a : LFact) (bs : List Int) : (headOf a bs).2.length ≤ a.2.length := by
  unfold headOf
  split <;> simp

theorem Blk.grown {w w' : World} {g : Nat} {t : TypeId} {cs : Array Value} {row : Option Nat} (h : Blk w g t cs) (hg : w.grownBy w' row) (hne : row ≠ some g) : Blk w' g t cs := (hg.block g h.lt (fun e => hne e.symm)).trans h
/-- A row that is appended to lies in none of the blocks ahead. -/
theorem OwnInts.apart {w : World} {lo hi : Nat} {v : Value} {xs : List Int} (h : OwnInts w lo hi v xs) {g : Nat} (hg : g < lo) : v.ownBlock ≠ some g := fun e => by have := h.lt e; omega

end Go.Proofs.Ytehjhdihaloalaa
