/-
  The walk of the law on ProofDeep (written by wip/genlaw.py).
-/
import Derived.Test.YtcoelmhlkfignaaSpecDeep
import Derived.Test.YtcoelmhlkfignaaUStepsZ
import Derived.Test.YtcoelmhlkfignaaToSteps
import Derived.Test.YtcoelmhlkfignaaOpenSteps
import Derived.Deep.RegionHeld3
import Derived.Deep.DeepCutAuto
import Derived.Deep.RegionWith
namespace Go.Proofs.Ytcoelmhlkfignaa
open Go.RowKit

set_option maxHeartbeats 4000000 in
set_option maxRecDepth 100000 in
theorem lawProofDeep_any (v0 : Value) (ss : List LStep) (w : World) (h0 : RdSteps w w.heap.size v0 ss) (n0 : ss.length ≤ maxLen) (m0 : ∀ k (h : k < ss.length), stepFits ss[k]) :
    Calls Try.prog 3 #[v0] w fun e w' => e = .returned (.bool true) ∧ Below w.heap.size w w' := by
  have H0 := Lib.hid h0
  obtain ⟨A0, c0, rfl, hc0, _⟩ := h0
  go_enter Try.func3, Try.ntmps3
  go_wp2_with (fail)
  refine (us_steps H0.out (by omega) (by omega) n0 m0).mono ?_
  rintro e w1 ⟨z0, rfl, hz0, hbz0⟩
  have s_w1 := hbz0.size
  have B_w1 := hbz0
  rcases hz0 with rfl | ⟨zp0, zs0⟩
  · go_wp2_with (fail)
    go_ret
    exact ⟨rfl, B_w1⟩
  have zn0 : ¬ z0 < 0 := by omega
  have r0 : (ss.length + totS ss) ≤ 1048576 := by omega
  have zl0 : z0 ≤ 1048576 := by omega
  have ZS0 := Lib.hid zs0
  clear zs0 zn0
  have zn0 : ¬ z0 < 0 := by omega
  obtain ⟨R0, hR0⟩ : ∃ R, R = deepL ss := ⟨_, rfl⟩
  have HR0 := Lib.hid hR0
  clear hR0
  have gb0 : (R0 != R0) = false := by simp
  go_wp2_with (fail)
  refine (toStepS_any _ ss _ (H0.out.on B_w1) (by omega) (by omega)).mono ?_
  rintro e w2 ⟨P1, d1, rfl, o1, hb1⟩
  have s_w2 := hb1.size
  have B_w2 := bthen B_w1 hb1
  go_wp2_with (fail)
  refine (specProofDeep_any _ ss _ (o1.rd.more (by omega)) (by omega) (by omega)).mono ?_
  try rw [← HR0.out]
  rintro e w3 ⟨rfl, hb2⟩
  have s_w3 := hb2.size
  have tw0_3 := o1.below hb2 (by omega)
  clear o1
  have B_w3 := bthen B_w2 hb2
  go_wp2_with (fail)
  refine (toStepS_any _ ss _ (H0.out.on B_w3) (by omega) (by omega)).mono ?_
  rintro e w4 ⟨P3, d3, rfl, o3, hb3⟩
  have s_w4 := hb3.size
  have B_w4 := bthen B_w3 hb3
  go_wp2_with (fail)
  refine (implProofDeep_any _ ss _ (o3.rd.more (by omega)) (by omega) (by omega)).mono ?_
  try rw [← HR0.out]
  rintro e w5 ⟨rfl, hb4⟩
  have s_w5 := hb4.size
  have x0_5 := o3.below hb4 (by omega)
  clear o3
  have B_w5 := bthen B_w4 hb4
  go_wp2_with (fail)
  refine (toStepS_any _ ss _ (H0.out.on B_w5) (by omega) (by omega)).mono ?_
  rintro e w6 ⟨P5, d5, rfl, o5, hb5⟩
  have s_w6 := hb5.size
  have x0_6 := x0_5.below hb5 (by omega)
  clear x0_5
  have B_w6 := bthen B_w5 hb5
  go_wp2_with (fail)
  refine (eqStepS_any _ _ ss ss _ (x0_6.rd.more (by omega)) (o5.rd.more (by omega)) (by omega) (by omega) (by omega) (by omega)).mono ?_
  rintro e w7 ⟨rfl, hb6⟩
  rw [show decide (ss = ss) = true by simp]
  have s_w7 := hb6.size
  have x0_7 := x0_6.below hb6 (by omega)
  clear x0_6
  have B_w7 := bthen B_w6 hb6
  go_wp2_with (fail)
  go_ret
  exact ⟨rfl, B_w7⟩

theorem lawProofDeep_in (v0 : Value) (ss : List LStep) (w : World) (h0 : InSteps w v0 ss) : Calls Try.prog 3 #[v0] w fun e w' => e = .returned (.bool true) ∧ Below w.heap.size w w' :=
  lawProofDeep_any v0 ss w h0.1 h0.2.1 h0.2.2

end Go.Proofs.Ytcoelmhlkfignaa
