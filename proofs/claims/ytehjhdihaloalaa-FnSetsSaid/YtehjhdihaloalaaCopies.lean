/-
  copyFacts.
-/
import Derived.Test.YtehjhdihaloalaaToFacts
import Derived.Test.YtehjhdihaloalaaCopy
import Derived.Test.YtehjhdihaloalaaHas
namespace Go.Proofs.Ytehjhdihaloalaa
open Go.RowKit

set_option maxHeartbeats 400000 in
set_option maxRecDepth 100000 in
theorem copyFacts_any (v : Value) (fs : List LFact) (w : World) (h : RdFacts w w.heap.size v fs) (hl : fs.length ≤ 4194304) (hn : tot fs ≤ 1048576) :
    Calls Try.prog 69 #[v] w fun e w' => ∃ A' c', e = .returned (.slice A' fs.length c') ∧ OwnFacts w' w.heap.size w'.heap.size (.slice A' fs.length c') fs ∧ Below w.heap.size w w' := by
  obtain ⟨i0, hi0, hz0, hz1, hz2⟩ := info_parts Try.infoFact
  have hmk := fun W => run_make_rowN (P := Try.prog) 36 28 i0 (.agg #[.int .i64 0, .slice none 0 0]) Try.underlying36 hi0 hz0 .i64 .i64 fs.length fs.length (Nat.le_refl _) (by rw [hz2]; omega) (by omega) W
  rw [hz1] at hmk
  simp only [Value.cells] at hmk
  have H := Lib.hid h
  obtain ⟨A, c, rfl, hc, _⟩ := h
  go_enter Try.func69, Try.ntmps69
  go_wp2_with (fail)
  go_loopw [4, 5, 11] (fun _ _ i wr => ∃ (k : Nat) (av : List Value), k ≤ fs.length ∧ i = .int .i64 k ∧ ToRel w wr fs k av) (fun _ _ i _ => fs.length - (intOf i).toNat)
  case atStart => exact ⟨0, [], Nat.zero_le _, rfl, ToRel.start w fs⟩
  case round =>
    obtain ⟨k, av, hk, rfl, hr⟩ := hrel
    by_cases hlt : k < fs.length
    · obtain ⟨b, o, A3, c3, rfl, hbB, k1, k2, k3⟩ := (H.out.on hr.below).get hlt
      have K3 := Lib.hid (show RdFact wr wr.heap.size (.agg #[.int .i64 fs[k].1, .slice A3 fs[k].2.length c3]) fs[k] from ⟨_, rfl, k3⟩)
      have hln := len_le_tot fs k hlt
      clear k3
      go_wp2_with (fail)
      refine (copyFact_any _ fs[k] _ (K3.out.on (below1 _ _)) (by omega)).mono ?_
      rintro e w4 ⟨A4, c4, rfl, ho4, hb4⟩
      have hb5 := bthen (below1 _ _) hb4
      have ho5 : OwnInts w4 wr.heap.size w4.heap.size _ _ := ho4.mono (by simp) (Nat.le_refl _)
      obtain ⟨r1, r2, r3, r4⟩ := hr.room hlt hb5
      have hstep := hr.step hlt hb5 ho5
      clear ho4 ho5 hb4
      go_wp2_with (fail)
      go_roundw
      case rel => exact ⟨k + 1, _, by omega, by go_num, hstep⟩
      case measure => simp [intOf]; omega
    · have hkn : k = fs.length := by omega
      have HO := Lib.hid (show OwnFacts wr w.heap.size wr.heap.size (.slice (some ⟨w.heap.size, 0, none⟩) fs.length fs.length) fs from ToRel.done (by rw [← hkn]; exact hr) (by unfold maxLen; omega))
      have hbe := hr.below
      clear hkn hr
      go_wp2_with (fail)
      go_ret
      exact ⟨_, _, rfl, HO.out, hbe⟩

end Go.Proofs.Ytehjhdihaloalaa
