/-
  The program's Bound.
-/
import Derived.Test.YtehjhdihaloalaaBindV
namespace Go.Proofs.Ytehjhdihaloalaa
open Go.RowKit

theorem areTerms_is {xs : List Int} {b : Bool} (e : xs.all termOk = b) (v : Value) (B : Nat) (w : World) (h : RdInts w B v xs) (hr : xs.length ≤ 1048576) :
    Calls Try.prog 78 #[v] w fun e w' => e = .returned (.bool b) ∧ w = w' := e ▸ areTerms_any v xs B w h hr

set_option maxHeartbeats 400000 in
set_option maxRecDepth 100000 in
theorem implBound_any (v v2 : Value) (xs bs : List Int) (w : World) (h : RdInts w w.heap.size v xs) (h2 : RdInts w w.heap.size v2 bs) (hr : xs.length ≤ 1048576) (hr2 : bs.length ≤ 1048576) :
    Calls Try.prog 35 #[v, v2] w fun e w' => ∃ A' c', e = .returned (.slice A' (boundL xs bs).length c') ∧ OwnInts w' w.heap.size w'.heap.size (.slice A' (boundL xs bs).length c') (boundL xs bs) ∧ Below w.heap.size w w' := by
  have H := Lib.hid h
  have H2 := Lib.hid h2
  obtain ⟨A, c, rfl, hc, _⟩ := h
  obtain ⟨A2, c2, rfl, hc2, _⟩ := h2
  have HBad := Lib.hid (show (bindOk bs && xs.all termOk) = false → boundL xs bs = [] from fun e => by unfold boundL; rw [e]; rfl)
  have N0 := Lib.hid (show OwnInts w w.heap.size w.heap.size (.slice none 0 0) [] from ⟨World.ownsRow_nil _ _ _ _, fun g hg => by cases hg⟩)
  by_cases hb : bindOk bs = true
  · have L1 := Lib.hid (fun W (hW : RdInts W w.heap.size (.slice A2 bs.length c2) bs) => bindingOf_yes hb (.slice A2 bs.length c2) w.heap.size W hW)
    by_cases ht : xs.all termOk = true
    · have HY := Lib.hid (show boundL xs bs = xs.map (termVal bs) by unfold boundL; rw [hb, ht]; rfl)
      have HL := Lib.hid (show (boundL xs bs).length = xs.length by rw [HY.out]; simp)
      have L2 := Lib.hid (areTerms_is ht (.slice A xs.length c) w.heap.size w H.out hr)
      have L3 := Lib.hid (values_any (.slice A xs.length c) bs xs hb ht w H.out hr)
      clear hb ht
      generalize encB bs = m at L1 L3
      go_enter Try.func35, Try.ntmps35
      go_wp2_with (first | (go_at_call 77; refine (L1.out _ H2.out).mono ?_; rintro e w' ⟨rfl, rfl⟩) | (go_at_call 78; refine L2.out.mono ?_; rintro e w' ⟨rfl, rfl⟩) | (go_at_call 79; refine L3.out.mono ?_; rintro e w1 ⟨A', c', rfl, ho, hbe⟩; have HO := Lib.hid (And.intro ho hbe); clear ho hbe))
      go_ret
      refine ⟨A', c', by rw [HL.out]; rfl, ?_, HO.out.2⟩
      rw [HL.out, HY.out]
      exact HO.out.1
    · have ht' : xs.all termOk = false := by simpa using ht
      have HE := Lib.hid (HBad.out (by rw [ht', Bool.and_false]))
      have L2 := Lib.hid (areTerms_is ht' (.slice A xs.length c) w.heap.size w H.out hr)
      clear hb ht ht'
      generalize encB bs = m at L1
      go_enter Try.func35, Try.ntmps35
      go_wp2_with (first | (go_at_call 77; refine (L1.out _ H2.out).mono ?_; rintro e w' ⟨rfl, rfl⟩) | (go_at_call 78; refine L2.out.mono ?_; rintro e w' ⟨rfl, rfl⟩))
      go_ret
      rw [HE.out]
      exact ⟨_, _, rfl, N0.out, Below.refl _ _⟩
  · have hb' : bindOk bs = false := by simpa using hb
    have HE := Lib.hid (HBad.out (by rw [hb', Bool.false_and]))
    have L1 := Lib.hid (fun W (hW : RdInts W w.heap.size (.slice A2 bs.length c2) bs) => bindingOf_no hb' (.slice A2 bs.length c2) w.heap.size W hW hr2)
    clear hb hb'
    go_enter Try.func35, Try.ntmps35
    go_wp2_with (first | (go_at_call 77; refine (L1.out _ H2.out).mono ?_; rintro e w' ⟨rfl, rfl⟩))
    go_ret
    rw [HE.out]
    exact ⟨_, _, rfl, N0.out, Below.refl _ _⟩

end Go.Proofs.Ytehjhdihaloalaa
