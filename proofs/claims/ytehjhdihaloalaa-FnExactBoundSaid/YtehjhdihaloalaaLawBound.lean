/-
  The walk of the law on Bound (written by wip/genlaw.py).
-/
import Derived.Test.YtehjhdihaloalaaSpecB
import Derived.Test.YtehjhdihaloalaaImplBound
import Derived.Test.YtehjhdihaloalaaUInts
import Derived.Test.YtehjhdihaloalaaOpenInts
import Derived.Deep.RegionHeld3
import Derived.Deep.DeepCutAuto
import Derived.Deep.RegionWith
namespace Go.Proofs.Ytehjhdihaloalaa
open Go.RowKit

set_option maxHeartbeats 4000000 in
set_option maxRecDepth 100000 in
theorem lawBound_any (v0 : Value) (v1 : Value) (xs : List Int) (bs : List Int) (w : World) (h0 : RdInts w w.heap.size v0 xs) (h1 : RdInts w w.heap.size v1 bs)  :
    Calls Try.prog 8 #[v0, v1] w fun e w' => e = .returned (.bool true) ∧ Below w.heap.size w w' := by
  have H0 := Lib.hid h0
  obtain ⟨A0, c0, rfl, hc0, _⟩ := h0
  have H1 := Lib.hid h1
  obtain ⟨A1, c1, rfl, hc1, _⟩ := h1
  by_cases g0 : 1048576 < xs.length
  · go_enter Try.func8, Try.ntmps8
    go_wp2_with (fail)
    go_ret
    exact ⟨rfl, Below.refl _ _⟩
  have r0 : xs.length ≤ 1048576 := by omega
  by_cases g1 : 1048576 < bs.length
  · go_enter Try.func8, Try.ntmps8
    go_wp2_with (fail)
    go_ret
    exact ⟨rfl, Below.refl _ _⟩
  have r1 : bs.length ≤ 1048576 := by omega
  go_enter Try.func8, Try.ntmps8
  go_wp2_with (fail)
  obtain ⟨R0, hR0⟩ : ∃ R, R = boundL xs bs := ⟨_, rfl⟩
  have HR0 := Lib.hid hR0
  have HRs0 := Lib.hid (show R0.length ≤ 1048576 by have := boundL_length xs bs; rw [hR0]; omega)
  have R0s := HRs0.out
  clear hR0
  refine (toIntS_any _ xs _ H0.out (by omega)).mono ?_
  rintro e w1 ⟨P1, d1, rfl, o1, hb1⟩
  have s_w1 := hb1.size
  have B_w1 := hb1
  go_wp2_with (fail)
  refine (toIntS_any _ bs _ (H1.out.on B_w1) (by omega)).mono ?_
  rintro e w2 ⟨P2, d2, rfl, o2, hb2⟩
  have s_w2 := hb2.size
  have tw0_2 := o1.below hb2 (by omega)
  clear o1
  have B_w2 := bthen B_w1 hb2
  go_wp2_with (fail)
  refine (specBound_any _ _ xs bs _ (tw0_2.rd.more (by omega)) (o2.rd.more (by omega)) r0 r1).mono ?_
  rw [← HR0.out]
  rintro e w3 ⟨Q3_0, f3_0, rfl, o3_0, hb3⟩
  have s_w3 := hb3.size
  have tw0_3 := tw0_2.below hb3 (by omega)
  clear tw0_2
  have tw1_3 := o2.below hb3 (by omega)
  clear o2
  have B_w3 := bthen B_w2 hb3
  go_wp2_with (fail)
  refine (toIntS_any _ xs _ (H0.out.on B_w3) (by omega)).mono ?_
  rintro e w4 ⟨P4, d4, rfl, o4, hb4⟩
  have s_w4 := hb4.size
  have w0_4 := o3_0.below hb4 (by omega)
  clear o3_0
  have B_w4 := bthen B_w3 hb4
  go_wp2_with (fail)
  refine (toIntS_any _ bs _ (H1.out.on B_w4) (by omega)).mono ?_
  rintro e w5 ⟨P5, d5, rfl, o5, hb5⟩
  have s_w5 := hb5.size
  have w0_5 := w0_4.below hb5 (by omega)
  clear w0_4
  have x0_5 := o4.below hb5 (by omega)
  clear o4
  have B_w5 := bthen B_w4 hb5
  go_wp2_with (fail)
  refine (implBound_any _ _ xs bs _ (x0_5.rd.more (by omega)) (o5.rd.more (by omega)) r0 r1).mono ?_
  rw [← HR0.out]
  rintro e w6 ⟨Q6_0, f6_0, rfl, o6_0, hb6⟩
  have s_w6 := hb6.size
  have w0_6 := w0_5.below hb6 (by omega)
  clear w0_5
  have x0_6 := x0_5.below hb6 (by omega)
  clear x0_5
  have x1_6 := o5.below hb6 (by omega)
  clear o5
  have B_w6 := bthen B_w5 hb6
  go_wp2_with (fail)
  refine (eqIntS_any _ _ R0 R0 _ (o6_0.rd.more (by omega)) (w0_6.rd.more (by omega)) (by omega) (by omega)).mono ?_
  rintro e w7 ⟨rfl, hb7⟩
  rw [show decide (R0 = R0) = true by simp]
  have s_w7 := hb7.size
  have w0_7 := w0_6.below hb7 (by omega)
  clear w0_6
  have x0_7 := x0_6.below hb7 (by omega)
  clear x0_6
  have x1_7 := x1_6.below hb7 (by omega)
  clear x1_6
  have g0_7 := o6_0.below hb7 (by omega)
  clear o6_0
  have B_w7 := bthen B_w6 hb7
  go_wp2_with (fail)
  refine (toIntS_any _ xs _ (H0.out.on B_w7) (by omega)).mono ?_
  rintro e w8 ⟨P8, d8, rfl, o8, hb8⟩
  have s_w8 := hb8.size
  have w0_8 := w0_7.below hb8 (by omega)
  clear w0_7
  have x0_8 := x0_7.below hb8 (by omega)
  clear x0_7
  have x1_8 := x1_7.below hb8 (by omega)
  clear x1_7
  have g0_8 := g0_7.below hb8 (by omega)
  clear g0_7
  have B_w8 := bthen B_w7 hb8
  go_wp2_with (fail)
  refine (eqIntS_any _ _ xs xs _ (x0_8.rd.more (by omega)) (o8.rd.more (by omega)) (by omega) (by omega)).mono ?_
  rintro e w9 ⟨rfl, hb9⟩
  rw [show decide (xs = xs) = true by simp]
  have s_w9 := hb9.size
  have w0_9 := w0_8.below hb9 (by omega)
  clear w0_8
  have x0_9 := x0_8.below hb9 (by omega)
  clear x0_8
  have x1_9 := x1_8.below hb9 (by omega)
  clear x1_8
  have g0_9 := g0_8.below hb9 (by omega)
  clear g0_8
  have B_w9 := bthen B_w8 hb9
  go_wp2_with (fail)
  refine (toIntS_any _ bs _ (H1.out.on B_w9) (by omega)).mono ?_
  rintro e w10 ⟨P10, d10, rfl, o10, hb10⟩
  have s_w10 := hb10.size
  have w0_10 := w0_9.below hb10 (by omega)
  clear w0_9
  have x0_10 := x0_9.below hb10 (by omega)
  clear x0_9
  have x1_10 := x1_9.below hb10 (by omega)
  clear x1_9
  have g0_10 := g0_9.below hb10 (by omega)
  clear g0_9
  have B_w10 := bthen B_w9 hb10
  go_wp2_with (fail)
  refine (eqIntS_any _ _ bs bs _ (x1_10.rd.more (by omega)) (o10.rd.more (by omega)) (by omega) (by omega)).mono ?_
  rintro e w11 ⟨rfl, hb11⟩
  rw [show decide (bs = bs) = true by simp]
  have s_w11 := hb11.size
  have w0_11 := w0_10.below hb11 (by omega)
  clear w0_10
  have x0_11 := x0_10.below hb11 (by omega)
  clear x0_10
  have x1_11 := x1_10.below hb11 (by omega)
  clear x1_10
  have g0_11 := g0_10.below hb11 (by omega)
  clear g0_10
  have B_w11 := bthen B_w10 hb11
  go_wp2_with (fail)
  refine (um_ints 1 x0_11 (by omega) (by omega) (by omega)).mono ?_
  rintro e w12 ⟨k12, rfl, ka12, kb12, _, on12⟩
  have s_w12 := on12.size
  have w0_12 := w0_11.only on12 (by first | exact .inl (by omega) | exact .inr (by omega))
  clear w0_11
  have x1_12 := x1_11.only on12 (by first | exact .inl (by omega) | exact .inr (by omega))
  clear x1_11
  have g0_12 := g0_11.only on12 (by first | exact .inl (by omega) | exact .inr (by omega))
  clear g0_11
  have B_w12 := Only.then_ B_w11 on12 (by omega)
  go_wp2_with (fail)
  refine (um_ints k12 x1_12 (by omega) (by omega) (by omega)).mono ?_
  rintro e w13 ⟨k13, rfl, ka13, kb13, _, on13⟩
  have s_w13 := on13.size
  have w0_13 := w0_12.only on13 (by first | exact .inl (by omega) | exact .inr (by omega))
  clear w0_12
  have g0_13 := g0_12.only on13 (by first | exact .inl (by omega) | exact .inr (by omega))
  clear g0_12
  have B_w13 := Only.then_ B_w12 on13 (by omega)
  have kn : ¬ k13 < 0 := by omega
  have kd : decide (k13 < 0) = false := by simp; omega
  go_wp2_with (fail)
  refine (eqIntS_any _ _ R0 R0 _ (g0_13.rd.more (by omega)) (w0_13.rd.more (by omega)) (by omega) (by omega)).mono ?_
  rintro e w14 ⟨rfl, hb14⟩
  rw [show decide (R0 = R0) = true by simp]
  have s_w14 := hb14.size
  have w0_14 := w0_13.below hb14 (by omega)
  clear w0_13
  have g0_14 := g0_13.below hb14 (by omega)
  clear g0_13
  have B_w14 := bthen B_w13 hb14
  go_wp2_with (fail)
  refine (um_ints 1 g0_14 (by omega) (by omega) (by have := HRs0.out; omega)).mono ?_
  rintro e w15 ⟨m15, rfl, ma15, mb15, hd15, on15⟩
  have mb15' := HRs0.out
  have s_w15 := on15.size
  have w0_15 := w0_14.only on15 (by first | exact .inl (by omega) | exact .inr (by omega))
  clear w0_14
  have B_w15 := Only.then_ B_w14 on15 (by omega)
  have mn : ¬ m15 < 0 := by omega
  have me : (m15 != m15) = false := by simp
  go_wp2_with (fail)
  refine (uh_ints hd15 (by omega)).mono ?_
  rintro e w16 ⟨rfl, hb16⟩
  have s_w16 := hb16.size
  have w0_16 := w0_15.below hb16 (by omega)
  clear w0_15
  have d0_16 := hd15.below hb16 (by omega)
  clear hd15
  have B_w16 := bthen B_w15 hb16
  go_wp2_with (fail)
  refine (toIntS_any _ xs _ (H0.out.on B_w16) (by omega)).mono ?_
  rintro e w17 ⟨P17, d17, rfl, o17, hb17⟩
  have s_w17 := hb17.size
  have w0_17 := w0_16.below hb17 (by omega)
  clear w0_16
  have d0_17 := d0_16.below hb17 (by omega)
  clear d0_16
  have B_w17 := bthen B_w16 hb17
  go_wp2_with (fail)
  refine (toIntS_any _ bs _ (H1.out.on B_w17) (by omega)).mono ?_
  rintro e w18 ⟨P18, d18, rfl, o18, hb18⟩
  have s_w18 := hb18.size
  have w0_18 := w0_17.below hb18 (by omega)
  clear w0_17
  have d0_18 := d0_17.below hb18 (by omega)
  clear d0_17
  have th0_18 := o17.below hb18 (by omega)
  clear o17
  have B_w18 := bthen B_w17 hb18
  go_wp2_with (fail)
  refine (implBound_any _ _ xs bs _ (th0_18.rd.more (by omega)) (o18.rd.more (by omega)) r0 r1).mono ?_
  rw [← HR0.out]
  rintro e w19 ⟨Q19_0, f19_0, rfl, o19_0, hb19⟩
  have s_w19 := hb19.size
  have w0_19 := w0_18.below hb19 (by omega)
  clear w0_18
  have d0_19 := d0_18.below hb19 (by omega)
  clear d0_18
  have th0_19 := th0_18.below hb19 (by omega)
  clear th0_18
  have th1_19 := o18.below hb19 (by omega)
  clear o18
  have B_w19 := bthen B_w18 hb19
  go_wp2_with (fail)
  refine (eqIntS_any _ _ R0 R0 _ (o19_0.rd.more (by omega)) (w0_19.rd.more (by omega)) (by omega) (by omega)).mono ?_
  rintro e w20 ⟨rfl, hb20⟩
  rw [show decide (R0 = R0) = true by simp]
  have s_w20 := hb20.size
  have w0_20 := w0_19.below hb20 (by omega)
  clear w0_19
  have d0_20 := d0_19.below hb20 (by omega)
  clear d0_19
  have h0_20 := o19_0.below hb20 (by omega)
  clear o19_0
  have B_w20 := bthen B_w19 hb20
  go_wp2_with (fail)
  refine (uh_ints d0_20 (by omega)).mono ?_
  rintro e w21 ⟨rfl, hb21⟩
  have s_w21 := hb21.size
  have w0_21 := w0_20.below hb21 (by omega)
  clear w0_20
  have d0_21 := d0_20.below hb21 (by omega)
  clear d0_20
  have h0_21 := h0_20.below hb21 (by omega)
  clear h0_20
  have B_w21 := bthen B_w20 hb21
  go_wp2_with (fail)
  go_ret
  exact ⟨rfl, B_w21⟩

theorem lawBound_in (v0 : Value) (v1 : Value) (xs : List Int) (bs : List Int) (w : World) (h0 : InInts w v0 xs) (h1 : InInts w v1 bs) : Calls Try.prog 8 #[v0, v1] w fun e w' => e = .returned (.bool true) ∧ Below w.heap.size w w' :=
  lawBound_any v0 v1 xs bs w h0.1 h1.1 

end Go.Proofs.Ytehjhdihaloalaa
