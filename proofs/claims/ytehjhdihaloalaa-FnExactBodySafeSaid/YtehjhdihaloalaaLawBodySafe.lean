/-
  The walk of the law on BodySafe (written by wip/genlaw.py).
-/
import Derived.Test.YtehjhdihaloalaaBodySafe
import Derived.Test.YtehjhdihaloalaaULits
import Derived.Test.YtehjhdihaloalaaOpenLit
import Derived.Deep.RegionHeld3
import Derived.Deep.DeepCutAuto
import Derived.Deep.RegionWith
namespace Go.Proofs.Ytehjhdihaloalaa
open Go.RowKit

set_option maxHeartbeats 4000000 in
set_option maxRecDepth 100000 in
theorem lawBodySafe_any (v0 : Value) (ls : List LLit) (w : World) (h0 : RdLits w w.heap.size v0 ls) (n0 : ls.length ≤ maxLen) (m0 : ∀ k (h : k < ls.length), ls[k].2.2.length ≤ maxLen) :
    Calls Try.prog 11 #[v0] w fun e w' => e = .returned (.bool true) ∧ Below w.heap.size w w' := by
  have H0 := Lib.hid h0
  obtain ⟨A0, c0, rfl, hc0, _⟩ := h0
  go_enter Try.func11, Try.ntmps11
  go_wp2_with (fail)
  refine (us_lits H0.out (by omega) (by omega) n0 m0).mono ?_
  rintro e w1 ⟨z0, rfl, hz0, hbz0⟩
  have s_w1 := hbz0.size
  have B_w1 := hbz0
  rcases hz0 with rfl | ⟨zp0, zs0⟩
  · go_wp2_with (fail)
    go_ret
    exact ⟨rfl, B_w1⟩
  have zn0 : ¬ z0 < 0 := by omega
  have r0 : szL ls ≤ 1048576 := by omega
  have zl0 : z0 ≤ 1048576 := by omega
  clear zs0 zn0
  have zn0 : ¬ z0 < 0 := by omega
  obtain ⟨R0, hR0⟩ : ∃ R, R = bodySafe ls := ⟨_, rfl⟩
  have HR0 := Lib.hid hR0
  clear hR0
  have gb0 : (R0 != R0) = false := by simp
  go_wp2_with (fail)
  refine (toLitS_any _ ls _ (H0.out.on B_w1) (by unfold szL at *; omega) (by unfold szL at *; omega)).mono ?_
  rintro e w2 ⟨P1, d1, rfl, o1, hb1⟩
  have s_w2 := hb1.size
  have B_w2 := bthen B_w1 hb1
  go_wp2_with (fail)
  refine (specBodySafe_any _ ls _ (o1.rd.more (by omega)) (by unfold szL at r0; omega)).mono ?_
  try rw [← HR0.out]
  rintro e w3 ⟨rfl, hb2⟩
  have s_w3 := hb2.size
  have tw0_3 := o1.below hb2 (by omega)
  clear o1
  have B_w3 := bthen B_w2 hb2
  go_wp2_with (fail)
  refine (toLitS_any _ ls _ (H0.out.on B_w3) (by unfold szL at *; omega) (by unfold szL at *; omega)).mono ?_
  rintro e w4 ⟨P3, d3, rfl, o3, hb3⟩
  have s_w4 := hb3.size
  have B_w4 := bthen B_w3 hb3
  go_wp2_with (fail)
  refine (implBodySafe_any _ ls _ (o3.rd.more (by omega)) (by unfold szL at r0; omega)).mono ?_
  try rw [← HR0.out]
  rintro e w5 ⟨rfl, hb4⟩
  have s_w5 := hb4.size
  have x0_5 := o3.below hb4 (by omega)
  clear o3
  have B_w5 := bthen B_w4 hb4
  go_wp2_with (fail)
  refine (toLitS_any _ ls _ (H0.out.on B_w5) (by unfold szL at *; omega) (by unfold szL at *; omega)).mono ?_
  rintro e w6 ⟨P5, d5, rfl, o5, hb5⟩
  have s_w6 := hb5.size
  have x0_6 := x0_5.below hb5 (by omega)
  clear x0_5
  have B_w6 := bthen B_w5 hb5
  go_wp2_with (fail)
  refine (eqLitS_any _ _ ls ls _ (x0_6.rd.more (by omega)) (o5.rd.more (by omega)) (by unfold szL at *; omega) (by unfold szL at *; omega) (by unfold szL at *; omega) (by unfold szL at *; omega)).mono ?_
  rintro e w7 ⟨rfl, hb6⟩
  rw [show decide (ls = ls) = true by simp]
  have s_w7 := hb6.size
  have x0_7 := x0_6.below hb6 (by omega)
  clear x0_6
  have B_w7 := bthen B_w6 hb6
  go_wp2_with (fail)
  go_ret
  exact ⟨rfl, B_w7⟩

theorem lawBodySafe_in (v0 : Value) (ls : List LLit) (w : World) (h0 : InLits w v0 ls) : Calls Try.prog 11 #[v0] w fun e w' => e = .returned (.bool true) ∧ Below w.heap.size w w' :=
  lawBodySafe_any v0 ls w h0.1 h0.2.1 h0.2.2

end Go.Proofs.Ytehjhdihaloalaa
