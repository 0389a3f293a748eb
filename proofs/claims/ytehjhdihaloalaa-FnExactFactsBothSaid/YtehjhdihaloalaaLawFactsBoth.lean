/-
  The walk of the law on FactsBoth (written by wip/genlaw.py).
-/
import Derived.Test.YtehjhdihaloalaaByOther
import Derived.Test.YtehjhdihaloalaaUFacts
import Derived.Test.YtehjhdihaloalaaOpen
import Derived.Deep.RegionHeld3
import Derived.Deep.DeepCutAuto
import Derived.Deep.RegionWith
namespace Go.Proofs.Ytehjhdihaloalaa
open Go.RowKit

set_option maxHeartbeats 2000000 in
set_option maxRecDepth 100000 in
theorem lawFactsBoth_any (v0 : Value) (v1 : Value) (xs : List LFact) (ys : List LFact) (w : World) (h0 : RdFacts w w.heap.size v0 xs) (h1 : RdFacts w w.heap.size v1 ys) (n0 : xs.length ≤ maxLen) (m0 : ∀ k (h : k < xs.length), xs[k].2.length ≤ maxLen) (n1 : ys.length ≤ maxLen) (m1 : ∀ k (h : k < ys.length), ys[k].2.length ≤ maxLen) :
    Calls Try.prog 6 #[v0, v1] w fun e w' => e = .returned (.bool true) ∧ Below w.heap.size w w' := by
  have H0 := Lib.hid h0
  obtain ⟨A0, c0, rfl, hc0, _⟩ := h0
  have H1 := Lib.hid h1
  obtain ⟨A1, c1, rfl, hc1, _⟩ := h1
  go_enter Try.func6, Try.ntmps6
  go_wp2_with (fail)
  refine (us_facts H0.out (by omega) (by omega) n0 m0).mono ?_
  rintro e w1 ⟨z0, rfl, hz0, hbz0⟩
  have s_w1 := hbz0.size
  have B_w1 := hbz0
  rcases hz0 with rfl | ⟨zp0, zs0⟩
  · go_wp2_with (fail)
    go_ret
    exact ⟨rfl, B_w1⟩
  have zn0 : ¬ z0 < 0 := by omega
  have r0 : szF xs ≤ 1048576 := by omega
  have zl0 : z0 ≤ 1048576 := by omega
  have ZS0 := Lib.hid zs0
  clear zs0
  go_wp2_with (fail)
  refine (us_facts (H1.out.on B_w1) (by omega) (by omega) n1 m1).mono ?_
  rintro e w2 ⟨z1, rfl, hz1, hbz1⟩
  have s_w2 := hbz1.size
  have B_w2 := bthen B_w1 hbz1
  rcases hz1 with rfl | ⟨zp1, zs1⟩
  · go_wp2_with (fail)
    go_ret
    exact ⟨rfl, B_w2⟩
  have zn1 : ¬ z1 < 0 := by omega
  have r1 : szF ys ≤ 1048576 := by omega
  have zl1 : z1 ≤ 1048576 := by omega
  have ZS1 := Lib.hid zs1
  clear zs1 zn1
  have zn1 : ¬ z1 < 0 := by omega
  obtain ⟨R0, hR0⟩ : ∃ R, R = pickL xs ys true := ⟨_, rfl⟩
  have HR0 := Lib.hid hR0
  have hxy : szF xs + szF ys ≤ 1048576 := by have := ZS0.out; have := ZS1.out; omega
  have HRs0 := Lib.hid (show szF R0 ≤ 1048576 by have := pickL_bound xs ys true; rw [hR0]; unfold szF at *; omega)
  clear hR0
  go_wp2_with (fail)
  refine (toFactS_any _ xs _ (H0.out.on B_w2) (by unfold szF at *; omega) (by unfold szF at *; omega)).mono ?_
  rintro e w3 ⟨P1, d1, rfl, o1, hb1⟩
  have s_w3 := hb1.size
  have B_w3 := bthen B_w2 hb1
  go_wp2_with (fail)
  refine (toFactS_any _ ys _ (H1.out.on B_w3) (by unfold szF at *; omega) (by unfold szF at *; omega)).mono ?_
  rintro e w4 ⟨P2, d2, rfl, o2, hb2⟩
  have s_w4 := hb2.size
  have tw0_4 := o1.below hb2 (by omega)
  clear o1
  have B_w4 := bthen B_w3 hb2
  go_wp2_with (fail)
  refine (specFactsBoth_any _ _ xs ys _ (tw0_4.rd.more (by omega)) (o2.rd.more (by omega)) (by unfold szF at hxy; omega) (by unfold szF at hxy; omega)).mono ?_
  rw [← HR0.out]
  rintro e w5 ⟨Q3_0, f3_0, rfl, o3_0, hb3⟩
  have s_w5 := hb3.size
  have tw0_5 := tw0_4.below hb3 (by omega)
  clear tw0_4
  have tw1_5 := o2.below hb3 (by omega)
  clear o2
  have B_w5 := bthen B_w4 hb3
  go_wp2_with (fail)
  refine (toFactS_any _ xs _ (H0.out.on B_w5) (by unfold szF at *; omega) (by unfold szF at *; omega)).mono ?_
  rintro e w6 ⟨P4, d4, rfl, o4, hb4⟩
  have s_w6 := hb4.size
  have w0_6 := o3_0.below hb4 (by omega)
  clear o3_0
  have B_w6 := bthen B_w5 hb4
  go_wp2_with (fail)
  refine (toFactS_any _ ys _ (H1.out.on B_w6) (by unfold szF at *; omega) (by unfold szF at *; omega)).mono ?_
  rintro e w7 ⟨P5, d5, rfl, o5, hb5⟩
  have s_w7 := hb5.size
  have w0_7 := w0_6.below hb5 (by omega)
  clear w0_6
  have x0_7 := o4.below hb5 (by omega)
  clear o4
  have B_w7 := bthen B_w6 hb5
  go_wp2_with (fail)
  refine (implFactsBoth_any _ _ xs ys _ (x0_7.rd.more (by omega)) (o5.rd.more (by omega)) (by unfold szF at hxy; omega) (by unfold szF at hxy; omega)).mono ?_
  rw [← HR0.out]
  rintro e w8 ⟨Q6_0, f6_0, rfl, o6_0, hb6⟩
  have s_w8 := hb6.size
  have w0_8 := w0_7.below hb6 (by omega)
  clear w0_7
  have x0_8 := x0_7.below hb6 (by omega)
  clear x0_7
  have x1_8 := o5.below hb6 (by omega)
  clear o5
  have B_w8 := bthen B_w7 hb6
  go_wp2_with (fail)
  refine (eqFactS_any _ _ R0 R0 _ (o6_0.rd.more (by omega)) (w0_8.rd.more (by omega)) (by have := HRs0.out; unfold szF at this; omega) (by have := HRs0.out; unfold szF at this; omega) (by have := HRs0.out; unfold szF at this; omega) (by have := HRs0.out; unfold szF at this; omega)).mono ?_
  rintro e w9 ⟨rfl, hb7⟩
  rw [show decide (R0 = R0) = true by simp]
  have s_w9 := hb7.size
  have w0_9 := w0_8.below hb7 (by omega)
  clear w0_8
  have x0_9 := x0_8.below hb7 (by omega)
  clear x0_8
  have x1_9 := x1_8.below hb7 (by omega)
  clear x1_8
  have g0_9 := o6_0.below hb7 (by omega)
  clear o6_0
  have B_w9 := bthen B_w8 hb7
  go_wp2_with (fail)
  refine (toFactS_any _ xs _ (H0.out.on B_w9) (by unfold szF at *; omega) (by unfold szF at *; omega)).mono ?_
  rintro e w10 ⟨P8, d8, rfl, o8, hb8⟩
  have s_w10 := hb8.size
  have w0_10 := w0_9.below hb8 (by omega)
  clear w0_9
  have x0_10 := x0_9.below hb8 (by omega)
  clear x0_9
  have x1_10 := x1_9.below hb8 (by omega)
  clear x1_9
  have g0_10 := g0_9.below hb8 (by omega)
  clear g0_9
  have B_w10 := bthen B_w9 hb8
  go_wp2_with (fail)
  refine (eqFactS_any _ _ xs xs _ (x0_10.rd.more (by omega)) (o8.rd.more (by omega)) (by unfold szF at *; omega) (by unfold szF at *; omega) (by unfold szF at *; omega) (by unfold szF at *; omega)).mono ?_
  rintro e w11 ⟨rfl, hb9⟩
  rw [show decide (xs = xs) = true by simp]
  have s_w11 := hb9.size
  have w0_11 := w0_10.below hb9 (by omega)
  clear w0_10
  have x0_11 := x0_10.below hb9 (by omega)
  clear x0_10
  have x1_11 := x1_10.below hb9 (by omega)
  clear x1_10
  have g0_11 := g0_10.below hb9 (by omega)
  clear g0_10
  have B_w11 := bthen B_w10 hb9
  go_wp2_with (fail)
  refine (toFactS_any _ ys _ (H1.out.on B_w11) (by unfold szF at *; omega) (by unfold szF at *; omega)).mono ?_
  rintro e w12 ⟨P10, d10, rfl, o10, hb10⟩
  have s_w12 := hb10.size
  have w0_12 := w0_11.below hb10 (by omega)
  clear w0_11
  have x0_12 := x0_11.below hb10 (by omega)
  clear x0_11
  have x1_12 := x1_11.below hb10 (by omega)
  clear x1_11
  have g0_12 := g0_11.below hb10 (by omega)
  clear g0_11
  have B_w12 := bthen B_w11 hb10
  go_wp2_with (fail)
  refine (eqFactS_any _ _ ys ys _ (x1_12.rd.more (by omega)) (o10.rd.more (by omega)) (by unfold szF at *; omega) (by unfold szF at *; omega) (by unfold szF at *; omega) (by unfold szF at *; omega)).mono ?_
  rintro e w13 ⟨rfl, hb11⟩
  rw [show decide (ys = ys) = true by simp]
  have s_w13 := hb11.size
  have w0_13 := w0_12.below hb11 (by omega)
  clear w0_12
  have x0_13 := x0_12.below hb11 (by omega)
  clear x0_12
  have x1_13 := x1_12.below hb11 (by omega)
  clear x1_12
  have g0_13 := g0_12.below hb11 (by omega)
  clear g0_12
  have B_w13 := bthen B_w12 hb11
  go_wp2_with (fail)
  refine (um_facts 1 x0_13 (by omega) (by omega) (by omega)).mono ?_
  rintro e w14 ⟨k12, rfl, ka12, kb12, _, on12⟩
  have s_w14 := on12.size
  have w0_14 := w0_13.only on12 (by first | exact .inl (by omega) | exact .inr (by omega))
  clear w0_13
  have x1_14 := x1_13.only on12 (by first | exact .inl (by omega) | exact .inr (by omega))
  clear x1_13
  have g0_14 := g0_13.only on12 (by first | exact .inl (by omega) | exact .inr (by omega))
  clear g0_13
  have B_w14 := Only.then_ B_w13 on12 (by omega)
  go_wp2_with (fail)
  refine (um_facts k12 x1_14 (by omega) (by omega) (by omega)).mono ?_
  rintro e w15 ⟨k13, rfl, ka13, kb13, _, on13⟩
  have s_w15 := on13.size
  have w0_15 := w0_14.only on13 (by first | exact .inl (by omega) | exact .inr (by omega))
  clear w0_14
  have g0_15 := g0_14.only on13 (by first | exact .inl (by omega) | exact .inr (by omega))
  clear g0_14
  have B_w15 := Only.then_ B_w14 on13 (by omega)
  have kn : ¬ k13 < 0 := by omega
  have kd : decide (k13 < 0) = false := by simp; omega
  go_wp2_with (fail)
  refine (eqFactS_any _ _ R0 R0 _ (g0_15.rd.more (by omega)) (w0_15.rd.more (by omega)) (by have := HRs0.out; unfold szF at this; omega) (by have := HRs0.out; unfold szF at this; omega) (by have := HRs0.out; unfold szF at this; omega) (by have := HRs0.out; unfold szF at this; omega)).mono ?_
  rintro e w16 ⟨rfl, hb14⟩
  rw [show decide (R0 = R0) = true by simp]
  have s_w16 := hb14.size
  have w0_16 := w0_15.below hb14 (by omega)
  clear w0_15
  have g0_16 := g0_15.below hb14 (by omega)
  clear g0_15
  have B_w16 := bthen B_w15 hb14
  go_wp2_with (fail)
  refine (um_facts 1 g0_16 (by omega) (by omega) (by have := HRs0.out; omega)).mono ?_
  rintro e w17 ⟨m15, rfl, ma15, mb15, hd15, on15⟩
  have mb15' := HRs0.out
  have s_w17 := on15.size
  have w0_17 := w0_16.only on15 (by first | exact .inl (by omega) | exact .inr (by omega))
  clear w0_16
  have B_w17 := Only.then_ B_w16 on15 (by omega)
  have mn : ¬ m15 < 0 := by omega
  have me : (m15 != m15) = false := by simp
  go_wp2_with (fail)
  refine (uh_facts hd15 (by omega)).mono ?_
  rintro e w18 ⟨rfl, hb16⟩
  have s_w18 := hb16.size
  have w0_18 := w0_17.below hb16 (by omega)
  clear w0_17
  have d0_18 := hd15.below hb16 (by omega)
  clear hd15
  have B_w18 := bthen B_w17 hb16
  go_wp2_with (fail)
  refine (toFactS_any _ xs _ (H0.out.on B_w18) (by unfold szF at *; omega) (by unfold szF at *; omega)).mono ?_
  rintro e w19 ⟨P17, d17, rfl, o17, hb17⟩
  have s_w19 := hb17.size
  have w0_19 := w0_18.below hb17 (by omega)
  clear w0_18
  have d0_19 := d0_18.below hb17 (by omega)
  clear d0_18
  have B_w19 := bthen B_w18 hb17
  go_wp2_with (fail)
  refine (toFactS_any _ ys _ (H1.out.on B_w19) (by unfold szF at *; omega) (by unfold szF at *; omega)).mono ?_
  rintro e w20 ⟨P18, d18, rfl, o18, hb18⟩
  have s_w20 := hb18.size
  have w0_20 := w0_19.below hb18 (by omega)
  clear w0_19
  have d0_20 := d0_19.below hb18 (by omega)
  clear d0_19
  have th0_20 := o17.below hb18 (by omega)
  clear o17
  have B_w20 := bthen B_w19 hb18
  go_wp2_with (fail)
  refine (implFactsBoth_any _ _ xs ys _ (th0_20.rd.more (by omega)) (o18.rd.more (by omega)) (by unfold szF at hxy; omega) (by unfold szF at hxy; omega)).mono ?_
  rw [← HR0.out]
  rintro e w21 ⟨Q19_0, f19_0, rfl, o19_0, hb19⟩
  have s_w21 := hb19.size
  have w0_21 := w0_20.below hb19 (by omega)
  clear w0_20
  have d0_21 := d0_20.below hb19 (by omega)
  clear d0_20
  have th0_21 := th0_20.below hb19 (by omega)
  clear th0_20
  have th1_21 := o18.below hb19 (by omega)
  clear o18
  have B_w21 := bthen B_w20 hb19
  go_wp2_with (fail)
  refine (eqFactS_any _ _ R0 R0 _ (o19_0.rd.more (by omega)) (w0_21.rd.more (by omega)) (by have := HRs0.out; unfold szF at this; omega) (by have := HRs0.out; unfold szF at this; omega) (by have := HRs0.out; unfold szF at this; omega) (by have := HRs0.out; unfold szF at this; omega)).mono ?_
  rintro e w22 ⟨rfl, hb20⟩
  rw [show decide (R0 = R0) = true by simp]
  have s_w22 := hb20.size
  have w0_22 := w0_21.below hb20 (by omega)
  clear w0_21
  have d0_22 := d0_21.below hb20 (by omega)
  clear d0_21
  have h0_22 := o19_0.below hb20 (by omega)
  clear o19_0
  have B_w22 := bthen B_w21 hb20
  go_wp2_with (fail)
  refine (uh_facts d0_22 (by omega)).mono ?_
  rintro e w23 ⟨rfl, hb21⟩
  have s_w23 := hb21.size
  have w0_23 := w0_22.below hb21 (by omega)
  clear w0_22
  have d0_23 := d0_22.below hb21 (by omega)
  clear d0_22
  have h0_23 := h0_22.below hb21 (by omega)
  clear h0_22
  have B_w23 := bthen B_w22 hb21
  go_wp2_with (fail)
  go_ret
  exact ⟨rfl, B_w23⟩

theorem lawFactsBoth_in (v0 : Value) (v1 : Value) (xs : List LFact) (ys : List LFact) (w : World) (h0 : InFacts w v0 xs) (h1 : InFacts w v1 ys) : Calls Try.prog 6 #[v0, v1] w fun e w' => e = .returned (.bool true) ∧ Below w.heap.size w w' :=
  lawFactsBoth_any v0 v1 xs ys w h0.1 h1.1 h0.2.1 h0.2.2 h1.2.1 h1.2.2

end Go.Proofs.Ytehjhdihaloalaa
