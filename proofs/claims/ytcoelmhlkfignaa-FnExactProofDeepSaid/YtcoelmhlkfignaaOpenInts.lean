/-
  What comes in, opened: integers.
-/
import Derived.Test.YtcoelmhlkfignaaChecked
import Derived.Test.YtcoelmhlkfignaaWords
import Derived.ProofKit
import Derived.OpenShut
import Derived.ChangeOld
import Derived.WalkKit
import Derived.Deep.Slices
import Derived.Deep.Fields
import Derived.ChangeSame
import Derived.Lib.SmallJoins
import Derived.KernelRfl
namespace Go.Proofs.Ytcoelmhlkfignaa
open Go.ChangeShapes Go.WideShapes Go.ChangeAt Go.RowKit Go.Joins Go.Deep

theorem Try.own : ownKnob Try.prog.godebug = none := by kernel_rfl
theorem Try.laidOut : laidOutB Try.prog = true := by kernel_rfl
theorem Try.cells3 : Try.prog.cellsOf 3 = 1 := by kernel_rfl
theorem Try.cells38 : Try.prog.cellsOf 38 = 1 := by kernel_rfl

section
variable {H : Type} {enc : TypeId × Value → H} {W : World}

/-- What is known of a slice of integers that came in. -/
def InInts (W : World) (v : Value) (xs : List Int) : Prop := RdInts W W.heap.size v xs ∧ xs.length ≤ maxLen

/-- The cells of a slice of integers. -/
theorem open_inInts_cells {fuel : Nat} {v : Value} {x : DataW H × List MemPlace} (h : DataW.trod enc Try.prog W 0 (fun _ => true) true fuel 38 [v] = some x) : ∃ xs, InInts W v xs := by
  rcases open_ints Try.underlying38 Try.underlying3 Try.cells3 h with ⟨hcs, _⟩ | ⟨a, len, cap, zs, hcs, _, hl, hm, hz, _, hcell, _⟩
  · simp at hcs
    subst hcs
    exact ⟨[], ⟨none, 0, rfl, by simp, fun h => absurd h (by simp)⟩, by simp⟩
  · simp at hcs
    subst hcs
    simp at hz
    refine ⟨zs.take len, ⟨some a, cap, ?_, by simp; omega, fun hn => ?_⟩, by simp; omega⟩
    · congr 1
      simp
      omega
    · have hlen : (zs.take len).length = len := by simp; omega
      obtain ⟨b, o, rfl, hc⟩ := ints_at hcell (by omega)
      refine ⟨b, o, rfl, World.block_lt_of_cell? _ _ (hc 0 (by omega)), fun k hk => ?_⟩
      rw [hc k (by omega)]
      simp [show k < zs.length by omega]

set_option maxRecDepth 100000 in
theorem open_inInts {v : Value} {d : DataW H} {p : List MemPlace} {b0 : Nat} (hv : Value.okWide Try.prog W .any b0 38 v) (h : DataW.Trod enc Try.prog W 0 (fun _ => true) true 38 v d p) :
    ∃ xs, InInts W v xs := by
  obtain ⟨a, len, cap, rfl⟩ := okWide_slice Try.underlying38 hv
  obtain ⟨fuel, hf⟩ := h
  exact open_inInts_cells (by simpa [Value.cells] using hf)

/-- What is known of an int that came in. -/
def InInt (v : Value) (n : Int) : Prop := v = .int .i64 n ∧ -9223372036854775808 ≤ n ∧ n ≤ 9223372036854775807

set_option maxRecDepth 100000 in
theorem open_inInt {v : Value} {d : DataW H} {p : List MemPlace} {b0 : Nat} (hv : Value.okWide Try.prog W .any b0 3 v) (h : DataW.Trod enc Try.prog W 0 (fun _ => true) true 3 v d p) : ∃ n, InInt v n := by
  obtain ⟨n, rfl, _, _, hw⟩ := open_int Try.underlying3 hv h
  exact ⟨n, rfl, bounds_i64 hw⟩
end

end Go.Proofs.Ytcoelmhlkfignaa
