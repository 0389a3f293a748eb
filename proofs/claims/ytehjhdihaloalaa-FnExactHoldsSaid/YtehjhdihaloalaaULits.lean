/-
  Sizes of literals, in the one form that the laws' walks ask.
-/
import Derived.Test.YtehjhdihaloalaaLits
namespace Go.Proofs.Ytehjhdihaloalaa
open Go.RowKit

def szL (ls : List LLit) : Nat := ls.length + totL ls
theorem us_lit {v : Value} {l : LLit} {left : Int} {w : World} (h : RdLit w w.heap.size v l) (h0 : 0 ≤ left) (hl : left ≤ 1048576) (hn : l.2.2.length ≤ maxLen) :
    Calls Try.prog 45 #[v, .int .i64 left] w fun e w' => ∃ z, e = .returned (.int .i64 z) ∧ (z = -1 ∨ (0 ≤ z ∧ z + l.2.2.length = left)) ∧ Below w.heap.size w w' :=
  (szLit_any v l left w h h0 hl (by unfold maxLen at hn; omega)).mono fun _ _ ⟨he, hb⟩ => ⟨_, he, (szV_cases left l.2.2.length).imp And.left id, hb⟩
theorem us_lits {v : Value} {ls : List LLit} {left : Int} {w : World} (h : RdLits w w.heap.size v ls) (h0 : 0 ≤ left) (hl : left ≤ 1048576) (hn : ls.length ≤ maxLen) (hm : ∀ k (h : k < ls.length), ls[k].2.2.length ≤ maxLen) :
    Calls Try.prog 50 #[v, .int .i64 left] w fun e w' => ∃ z, e = .returned (.int .i64 z) ∧ (z = -1 ∨ (0 ≤ z ∧ z + szL ls = left)) ∧ Below w.heap.size w w' :=
  (szLitS_any v ls left w h h0 hl (by unfold maxLen at hn; omega) (fun k hk => by have := hm k hk; unfold maxLen at this; omega)).mono fun _ _ ⟨r, he, hr, hb⟩ => ⟨r, he, hr.imp id fun ⟨a, b⟩ => ⟨a, by unfold szL; omega⟩, hb⟩

end Go.Proofs.Ytehjhdihaloalaa
