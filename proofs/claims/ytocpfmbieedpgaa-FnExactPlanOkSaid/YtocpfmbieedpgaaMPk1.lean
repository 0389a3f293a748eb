/-
  The law FnExactPlanOk: for every input the call returns true, and each argument reads behind it as it read before. Conditions: none but the row's own.
-/
import Derived.Test.YtocpfmbieedpgaaMPb2
import Derived.Test.YtocpfmbieedpgaaMPb4
import Derived.Test.YtocpfmbieedpgaaMPb5
import Derived.Test.YtocpfmbieedpgaaMPb1
import Derived.Deep.RegionHeld3
import Derived.Deep.DeepCutAuto
import Derived.Deep.RegionWith
import Derived.Test.YtocpfmbieedpgaaRows
/-
  What comes in, opened: operations of plans.
-/
namespace Go.Proofs.Ytocpfmbieedpgaa
open Go.ChangeShapes Go.WideShapes Go.ChangeAt Go.RowKit Go.Joins Go.Deep

theorem Try.cells99 : Try.prog.cellsOf 99 = 3 := by kernel_rfl
theorem Try.cells44 : Try.prog.cellsOf 44 = 1 := by kernel_rfl

section
variable {H : Type} {enc : TypeId × Value → H} {W : World}
set_option maxRecDepth 100000 in
theorem open_op_cells {fuel : Nat} {v0 v1 v2 : Value} {x : DataW H × List MemPlace} (h : DataW.trod enc Try.prog W 0 (fun _ => true) true fuel 99 [v0, v1, v2] = some x) :
    ∃ l : LLit, QLit W W.heap.size v0 v1 v2 l ∧ l.2.2.length ≤ maxLen := by
  obtain ⟨y0, y1, n, _, _, h0, h1⟩ := trod_struct2 Try.underlying99 h
  rw [Try.cells3] at h0
  rw [Try.cells49] at h1
  obtain ⟨m, e0, _, _⟩ := DataW.trod_int Try.underlying3 h0
  obtain ⟨f, e1, hx⟩ := open_atom_cells (v0 := v1) (v1 := v2) h1
  simp at e0
  exact ⟨(m, f), ⟨e0, e1, hx.1⟩, hx.2⟩

set_option maxRecDepth 100000 in
theorem open_ops_cells {fuel : Nat} {v : Value} {x : DataW H × List MemPlace} (h : DataW.trod enc Try.prog W 0 (fun _ => true) true fuel 44 [v] = some x) : ∃ ls : List LLit, RdLits W W.heap.size v ls ∧ bodyFits ls :=
  open_row_cells (N := fun l : LLit => l.2.2.length ≤ maxLen) Try.underlying44 Try.cells99 (fun h => open_op_cells h) h

def InOps (W : World) (v : Value) (ls : List LLit) : Prop := RdLits W W.heap.size v ls ∧ bodyFits ls
set_option maxRecDepth 100000 in
theorem open_inOps {v : Value} {d : DataW H} {p : List MemPlace} {b0 : Nat} (hv : Value.okWide Try.prog W .any b0 44 v) (h : DataW.Trod enc Try.prog W 0 (fun _ => true) true 44 v d p) :
    ∃ ls, InOps W v ls := by
  obtain ⟨a, len, cap, rfl⟩ := okWide_slice Try.underlying44 hv
  obtain ⟨fuel, hf⟩ := h
  exact open_ops_cells (by simpa [Value.cells] using hf)

end

end Go.Proofs.Ytocpfmbieedpgaa
/-
  The walk of the law on PlanOk (written by wip/genlaw.py).
-/
namespace Go.Proofs.Ytocpfmbieedpgaa
open Go.RowKit

set_option maxHeartbeats 4000000 in
set_option maxRecDepth 100000 in
theorem lawPlanOk_any (v0 : Value) (v1 : Value) (ar : List Int) (os : List LLit) (w : World) (h0 : RdInts w w.heap.size v0 ar) (h1 : RdLits w w.heap.size v1 os) (n1 : os.length ≤ maxLen) (m1 : ∀ k (h : k < os.length), os[k].2.2.length ≤ maxLen) :
    Calls Try.prog 5 #[v0, v1] w fun e w' => e = .returned (.bool true) ∧ Below w.heap.size w w' := by
  have H0 := Lib.hid h0
  obtain ⟨A0, c0, rfl, hc0, _⟩ := h0
  have H1 := Lib.hid h1
  obtain ⟨A1, c1, rfl, hc1, _⟩ := h1
  by_cases g0 : 1048576 < ar.length
  · go_enter Try.func5, Try.ntmps5
    go_wp2_with (fail)
    go_ret
    exact ⟨rfl, Below.refl _ _⟩
  have r0 : ar.length ≤ 1048576 := by omega
  go_enter Try.func5, Try.ntmps5
  go_wp2_with (fail)
  refine (us_ops H1.out (by omega) (by omega) n1 m1).mono ?_
  rintro e w1 ⟨z1, rfl, hz1, hbz1⟩
  have s_w1 := hbz1.size
  have B_w1 := hbz1
  rcases hz1 with rfl | ⟨zp1, zs1⟩
  · go_wp2_with (fail)
    go_ret
    exact ⟨rfl, B_w1⟩
  have zn1 : ¬ z1 < 0 := by omega
  have r1 : szL os ≤ 1048576 := by omega
  have zl1 : z1 ≤ 1048576 := by omega
  have ZS1 := Lib.hid zs1
  clear zs1 zn1
  have zn1 : ¬ z1 < 0 := by omega
  obtain ⟨R0, hR0⟩ : ∃ R, R = planOk ar os := ⟨_, rfl⟩
  have HR0 := Lib.hid hR0
  clear hR0
  have gb0 : (R0 != R0) = false := by simp
  go_wp2_with (fail)
  refine (toIntS_any _ ar _ (H0.out.on B_w1) (by omega)).mono ?_
  rintro e w2 ⟨P1, d1, rfl, o1, hb1⟩
  have s_w2 := hb1.size
  have B_w2 := bthen B_w1 hb1
  go_wp2_with (fail)
  refine (toOpS_any _ os _ (H1.out.on B_w2) (by unfold szL at *; omega) (by unfold szL at *; omega)).mono ?_
  rintro e w3 ⟨P2, d2, rfl, o2, hb2⟩
  have s_w3 := hb2.size
  have tw0_3 := o1.below hb2 (by omega)
  clear o1
  have B_w3 := bthen B_w2 hb2
  go_wp2_with (fail)
  refine (specPlanOk_any _ _ ar os _ (tw0_3.rd.more (by omega)) (o2.rd.more (by omega)) (by omega) (by unfold szL at r1; omega) (by unfold szL at r1; omega)).mono ?_
  try rw [← HR0.out]
  rintro e w4 ⟨rfl, hb3⟩
  have s_w4 := hb3.size
  have tw0_4 := tw0_3.below hb3 (by omega)
  clear tw0_3
  have tw1_4 := o2.below hb3 (by omega)
  clear o2
  have B_w4 := bthen B_w3 hb3
  go_wp2_with (fail)
  refine (toIntS_any _ ar _ (H0.out.on B_w4) (by omega)).mono ?_
  rintro e w5 ⟨P4, d4, rfl, o4, hb4⟩
  have s_w5 := hb4.size
  have B_w5 := bthen B_w4 hb4
  go_wp2_with (fail)
  refine (toOpS_any _ os _ (H1.out.on B_w5) (by unfold szL at *; omega) (by unfold szL at *; omega)).mono ?_
  rintro e w6 ⟨P5, d5, rfl, o5, hb5⟩
  have s_w6 := hb5.size
  have x0_6 := o4.below hb5 (by omega)
  clear o4
  have B_w6 := bthen B_w5 hb5
  go_wp2_with (fail)
  refine (implPlanOk_any _ _ ar os _ (x0_6.rd.more (by omega)) (o5.rd.more (by omega)) (by omega) (by unfold szL at r1; omega) (by unfold szL at r1; omega)).mono ?_
  try rw [← HR0.out]
  rintro e w7 ⟨rfl, hb6⟩
  have s_w7 := hb6.size
  have x0_7 := x0_6.below hb6 (by omega)
  clear x0_6
  have x1_7 := o5.below hb6 (by omega)
  clear o5
  have B_w7 := bthen B_w6 hb6
  go_wp2_with (fail)
  refine (toIntS_any _ ar _ (H0.out.on B_w7) (by omega)).mono ?_
  rintro e w8 ⟨P7, d7, rfl, o7, hb7⟩
  have s_w8 := hb7.size
  have x0_8 := x0_7.below hb7 (by omega)
  clear x0_7
  have x1_8 := x1_7.below hb7 (by omega)
  clear x1_7
  have B_w8 := bthen B_w7 hb7
  go_wp2_with (fail)
  refine (eqIntS_any _ _ ar ar _ (x0_8.rd.more (by omega)) (o7.rd.more (by omega)) (by omega) (by omega)).mono ?_
  rintro e w9 ⟨rfl, hb8⟩
  rw [show decide (ar = ar) = true by simp]
  have s_w9 := hb8.size
  have x0_9 := x0_8.below hb8 (by omega)
  clear x0_8
  have x1_9 := x1_8.below hb8 (by omega)
  clear x1_8
  have B_w9 := bthen B_w8 hb8
  go_wp2_with (fail)
  refine (toOpS_any _ os _ (H1.out.on B_w9) (by unfold szL at *; omega) (by unfold szL at *; omega)).mono ?_
  rintro e w10 ⟨P9, d9, rfl, o9, hb9⟩
  have s_w10 := hb9.size
  have x0_10 := x0_9.below hb9 (by omega)
  clear x0_9
  have x1_10 := x1_9.below hb9 (by omega)
  clear x1_9
  have B_w10 := bthen B_w9 hb9
  go_wp2_with (fail)
  refine (eqOpS_any _ _ os os _ (x1_10.rd.more (by omega)) (o9.rd.more (by omega)) (by unfold szL at *; omega) (by unfold szL at *; omega) (by unfold szL at *; omega) (by unfold szL at *; omega)).mono ?_
  rintro e w11 ⟨rfl, hb10⟩
  rw [show decide (os = os) = true by simp]
  have s_w11 := hb10.size
  have x0_11 := x0_10.below hb10 (by omega)
  clear x0_10
  have x1_11 := x1_10.below hb10 (by omega)
  clear x1_10
  have B_w11 := bthen B_w10 hb10
  go_wp2_with (fail)
  go_ret
  exact ⟨rfl, B_w11⟩

theorem lawPlanOk_in (v0 : Value) (v1 : Value) (ar : List Int) (os : List LLit) (w : World) (h0 : InInts w v0 ar) (h1 : InOps w v1 os) : Calls Try.prog 5 #[v0, v1] w fun e w' => e = .returned (.bool true) ∧ Below w.heap.size w w' :=
  lawPlanOk_any v0 v1 ar os w h0.1 h1.1 h1.2.1 h1.2.2

end Go.Proofs.Ytocpfmbieedpgaa
namespace Go.Proofs.Ytocpfmbieedpgaa
open Go.ChangeShapes Go.WideShapes Go.ChangeAt Go.RowKit

set_option maxRecDepth 100000 in
theorem fnExactPlanOk_lifted (os : Os) (started : os.Started) (H : Type) (enc : TypeId × Value → H) :
    ReturnsInHanded {} Try.checked os 5 .any (Rows.fnExactPlanOkSpec.pre6 enc Try.prog Try.f5 Rows.fnExactPlanOkRow.domain false) (Rows.fnExactPlanOkSpec.post enc Try.prog Try.f5 false true false false) := by
  refine returnsInHanded_of_change (C := Try.checked) Try.own started (by kernel_rfl) Try.func5
    (ChangeSpec.witness6 (enc := enc) (C := Try.checked) false ⟨#[], #[.slice none 0 0, .slice none 0 0], []⟩ 8 (by kernel_rfl) (by kernel_rfl) (by kernel_rfl) (by kernel_rfl)) ?_
  intro W base args ds gs before hval0 hW hcnd _
  have hval : ∀ (j : Nat) t v, Try.f5.params[j]? = some t → args[j]? = some v → Value.okWide Try.prog W .any base t v := hval0
  have hW' := hW
  obtain ⟨p, q, hA0, hV, rfl, hfz, hnd⟩ := hW
  have hA : DataW.TrodAll enc Try.prog W 0 (fun _ => true) true Try.f5.params.toList args.toList ds p := hA0
  rw [Try.params5] at hA hval
  obtain ⟨v0, vs0, d0, ds0, p0, q0, hargs, rfl, rfl, h0, r0⟩ := trodAll_cons hA
  obtain ⟨v1, vs1, d1, ds1, p1, q1, rfl, rfl, rfl, h1, r1⟩ := trodAll_cons r0
  obtain ⟨rfl, rfl, rfl⟩ := trodAll_nil r1
  obtain rfl : args = #[v0, v1] := by cases args; simp_all
  obtain ⟨rfl, rfl⟩ := trodVars_none hV
  have lt0 : ∀ x ∈ p0, x.block < W.heap.size := by obtain ⟨m, hm⟩ := h0; exact DataW.trod_lt m _ _ _ hm
  obtain ⟨x0, w0⟩ := open_inInts (hval 0 23 v0 rfl rfl) h0
  have lt1 : ∀ x ∈ p1, x.block < W.heap.size := by obtain ⟨m, hm⟩ := h1; exact DataW.trod_lt m _ _ _ hm
  obtain ⟨x1, w1⟩ := open_inOps (hval 1 44 v1 rfl rfl) h1
  clear hA0 hval0
  refine (lawPlanOk_in v0 v1 x0 x1 W w0 w1).mono fun e W' ⟨he, bel⟩ => ?_
  subst he
  exact ⟨_, rfl, _, _, _, [], _, [], hW', trodAll_mk1 (shut_bool Try.underlying4 _), (trodAll_cons_mk (Below.trod Try.laidOut (by kernel_rfl) (of_decide_eq_true (by kernel_rfl)) h0 bel lt0) (trodAll_cons_mk (Below.trod Try.laidOut (by kernel_rfl) (of_decide_eq_true (by kernel_rfl)) h1 bel lt1) trodAll_mk0)), rfl, bel.frame _, fun h => by cases h⟩

theorem fnExactPlanOk_holds : Rows.FnExactPlanOkSaid :=
  OpenClaim.holds_of_wide 5 Try.f5 rfl rfl rfl rfl rfl rfl rfl ⟨rfl, rfl, rfl, rfl, rfl⟩ rfl rfl rfl rfl rfl (by kernel_rfl) Try.func5 (by kernel_rfl)
    (of_decide_eq_true (by kernel_rfl)) (by unfold Func.isWrapper; rw [if_neg (of_decide_eq_false (by kernel_rfl))]; exact ⟨rfl, rfl⟩)
    (fun os started H enc _ => fnExactPlanOk_lifted os started H enc)

end Go.Proofs.Ytocpfmbieedpgaa
