/-
  The walk of the law on FactsOk.
-/
import Derived.Test.YtehjhdihaloalaaImplFactsOk
import Derived.Test.YtehjhdihaloalaaOpen
namespace Go.Proofs.Ytehjhdihaloalaa
open Go.RowKit

set_option maxHeartbeats 1000000 in
set_option maxRecDepth 100000 in
theorem lawFactsOk_any (v v2 : Value) (ar : List Int) (fs : List LFact) (w : World) (h : RdInts w w.heap.size v ar) (h2 : RdFacts w w.heap.size v2 fs) (hn : fs.length ≤ 9223372036854775807) (hn' : ∀ k (h : k < fs.length), fs[k].2.length ≤ 9223372036854775807) :
    Calls Try.prog 4 #[v, v2] w fun e w' => e = .returned (.bool true) ∧ Below w.heap.size w w' := by
  have H := Lib.hid h
  have H2 := Lib.hid h2
  obtain ⟨A, c, rfl, hc, _⟩ := h
  obtain ⟨A2, c2, rfl, hc2, _⟩ := h2
  by_cases hl : 1048576 < ar.length
  · go_enter Try.func4, Try.ntmps4
    go_wp2_with (fail)
    go_ret
    exact ⟨rfl, Below.refl _ _⟩
  · have hr : ar.length ≤ 1048576 := by omega
    go_enter Try.func4, Try.ntmps4
    go_wp2_with (fail)
    refine (szFactS_any _ fs _ _ H2.out (by omega) (by omega) hn hn').mono ?_
    rintro e w1 ⟨r, rfl, hsz, B1⟩
    rcases hsz with rfl | ⟨hr0, hr1⟩
    · go_wp2_with (fail)
      go_ret
      exact ⟨rfl, B1⟩
    · have h1 : ¬ r < 0 := by omega
      have hnf : fs.length ≤ 1048576 := by omega
      have htf : tot fs ≤ 1048576 := by omega
      clear hr1
      go_wp2_with (fail)
      refine (toIntS_any _ ar _ (H.out.on B1) (by omega)).mono ?_
      rintro e w2 ⟨A3, c3, rfl, ho3, hb2⟩
      have B2 := bthen B1 hb2
      go_wp2_with (fail)
      refine (toFactS_any _ fs _ (H2.out.on B2) hnf htf).mono ?_
      rintro e w3 ⟨A4, c4, rfl, ho4, hb3⟩
      have B3 := bthen B2 hb3
      go_wp2_with (fail)
      refine (specFactsOk_any _ _ ar fs _ (ho3.rd.on hb3) ho4.rd hr hnf htf).mono ?_
      rintro e w4 ⟨rfl, hb4⟩
      have B4 := bthen B3 hb4
      go_wp2_with (fail)
      refine (toIntS_any _ ar _ (H.out.on B4) (by omega)).mono ?_
      rintro e w5 ⟨A5, c5, rfl, ho5, hb5⟩
      have B5 := bthen B4 hb5
      go_wp2_with (fail)
      refine (toFactS_any _ fs _ (H2.out.on B5) hnf htf).mono ?_
      rintro e w6 ⟨A6, c6, rfl, ho6, hb6⟩
      have B6 := bthen B5 hb6
      go_wp2_with (fail)
      refine (implFactsOk_any _ _ ar fs _ (ho5.rd.on hb6) ho6.rd hr hnf htf).mono ?_
      rintro e w7 ⟨rfl, hb7⟩
      have B7 := bthen B6 hb7
      have hne : (factsOk ar fs != factsOk ar fs) = false := by simp
      go_wp2_with (fail)
      refine (toIntS_any _ ar _ (H.out.on B7) (by omega)).mono ?_
      rintro e w8 ⟨A8, c8, rfl, ho8, hb8⟩
      have B8 := bthen B7 hb8
      go_wp2_with (fail)
      refine (eqIntS_any _ _ ar ar _ (((ho5.rd.on hb6).on hb7).on hb8) ho8.rd (by omega) (by omega)).mono ?_
      rintro e w9 ⟨rfl, hb9⟩
      have B9 := bthen B8 hb9
      rw [show decide (ar = ar) = true by simp]
      go_wp2_with (fail)
      refine (toFactS_any _ fs _ (H2.out.on B9) hnf htf).mono ?_
      rintro e w10 ⟨A10, c10, rfl, ho10, hb10⟩
      have B10 := bthen B9 hb10
      go_wp2_with (fail)
      refine (eqFactS_any _ _ fs fs _ ((((ho6.rd.on hb7).on hb8).on hb9).on hb10) ho10.rd hnf hnf htf htf).mono ?_
      rintro e w11 ⟨rfl, hb11⟩
      have B11 := bthen B10 hb11
      rw [show decide (fs = fs) = true by simp]
      go_wp2_with (fail)
      go_ret
      exact ⟨rfl, B11⟩

theorem lawFactsOk_in (v v2 : Value) (ar : List Int) (fs : List LFact) (w : World) (h : InInts w v ar) (h2 : InFacts w v2 fs) : Calls Try.prog 4 #[v, v2] w fun e w' => e = .returned (.bool true) ∧ Below w.heap.size w w' :=
  lawFactsOk_any v v2 ar fs w h.1 h2.1 (by have := h2.2.1; unfold maxLen at this; omega) (fun k hk => by have := h2.2.2 k hk; unfold maxLen at this; omega)

end Go.Proofs.Ytehjhdihaloalaa
