/-
  A slice of bytes that came in.
-/
import Derived.Test.YtehjhdihaloalaaOpen
import Derived.Test.YtehjhdihaloalaaDraw
namespace Go.Proofs.Ytehjhdihaloalaa
open Go.ChangeShapes Go.WideShapes Go.ChangeAt Go.RowKit Go.Joins Go.Deep

theorem Try.cells5 : Try.prog.cellsOf 5 = 1 := by kernel_rfl

/-- What is known of a slice of bytes that came in. -/
def InBytes (W : World) (v : Value) (bs : List Nat) : Prop := RdBytes W W.heap.size v bs ∧ bs.length ≤ maxLen ∧ ∀ b ∈ bs, b < 256

theorem byte_of_wf {n : Int} (h : (Lit.int .u8 n).wf = true) : 0 ≤ n ∧ n < 256 := by
  simp only [Lit.wf, Bool.and_eq_true, decide_eq_true_eq] at h
  have h1 : IntKind.u8.min = 0 := by decide
  have h2 : IntKind.u8.max = 255 := by decide
  omega

set_option maxRecDepth 100000 in
theorem open_inBytes {H : Type} {enc : TypeId × Value → H} {W : World} {v : Value} {d : DataW H} {p : List MemPlace} {b0 : Nat} (hv : Value.okWide Try.prog W .any b0 74 v) (h : DataW.Trod enc Try.prog W 0 (fun _ => true) true 74 v d p) :
    ∃ bs, InBytes W v bs := by
  obtain ⟨a, len, cap, rfl⟩ := okWide_slice Try.underlying74 hv
  obtain ⟨fuel, hf⟩ := h
  have hf : DataW.trod enc Try.prog W 0 (fun _ => true) true fuel 74 [.slice a len cap] = some (d, p) := by simpa [Value.cells] using hf
  rcases open_ints Try.underlying74 Try.underlying5 Try.cells5 hf with ⟨hcs, _⟩ | ⟨a, len, cap, zs, hcs, _, hl, hm, hz, _, hcell, hwz⟩
  · simp at hcs
    obtain ⟨rfl, rfl, rfl⟩ := hcs
    exact ⟨[], ⟨none, 0, rfl, by simp, fun h => absurd h (by simp)⟩, by simp, by simp⟩
  · simp at hcs
    obtain ⟨rfl, rfl, rfl⟩ := hcs
    simp at hz
    refine ⟨(zs.take len).map Int.toNat, ⟨some a, cap, ?_, by simp; omega, fun hn => ?_⟩, by simp; omega, ?_⟩
    · congr 1
      simp
      omega
    · have hlen : (zs.take len).length = len := by simp; omega
      simp only [List.length_map, hlen] at hn
      obtain ⟨b, o, rfl, hc⟩ := ints_at hcell (by omega)
      refine ⟨b, o, rfl, World.block_lt_of_cell? _ _ (hc 0 (by omega)), fun k hk => ?_⟩
      simp only [List.length_map, hlen] at hk
      have hw := byte_of_wf (hwz zs[k] (List.getElem_mem (by omega)))
      rw [hc k (by omega)]
      simp [show k < zs.length by omega]
      omega
    · intro b hb
      rw [List.mem_map] at hb
      obtain ⟨z, hz1, rfl⟩ := hb
      have := byte_of_wf (hwz z (List.mem_of_mem_take hz1))
      omega

end Go.Proofs.Ytehjhdihaloalaa
