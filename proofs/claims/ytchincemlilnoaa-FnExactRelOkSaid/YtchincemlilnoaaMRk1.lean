/-
  The law FnExactRelOk: for every input the call returns true, and each argument reads behind it as it read before. Conditions: none but the row's own.
-/
import Derived.Test.YtchincemlilnoaaMRt2
import Derived.Test.YtchincemlilnoaaMRt5
import Derived.Deep.RegionHeld3
import Derived.Deep.DeepCutAuto
import Derived.Deep.RegionWith
import Derived.Test.YtchincemlilnoaaRows
/-
  The walk of the law on RelOk (written by wip/genlaw.py).
-/
namespace Go.Proofs.Ytchincemlilnoaa
open Go.RowKit

set_option maxHeartbeats 4000000 in
set_option maxRecDepth 100000 in
theorem lawRelOk_any (v0 : Value) (r : LRel) (w : World) (h0 : RdRel w w.heap.size v0 r) (n0 : r.2.length ≤ maxLen) (m0 : ∀ k (h : k < r.2.length), r.2[k].length ≤ maxLen) :
    Calls Try.prog 3 #[v0] w fun e w' => e = .returned (.bool true) ∧ Below w.heap.size w w' := by
  have H0 := Lib.hid h0
  obtain ⟨a0, rfl, A0, c0, rfl, hc0, _⟩ := h0
  go_enter Try.func3, Try.ntmps3
  go_wp2_with (fail)
  obtain ⟨w1, hw_w1⟩ : ∃ W', W' = w.alloc (Obj.cells #[Value.int IntKind.i64 r.1, Value.slice A0 r.2.length c0] 24) := ⟨_, rfl⟩
  rw [← hw_w1]
  have B_w1 : Below w.heap.size w w1 := by rw [hw_w1]; exact below1 _ _
  have bx0 : Blk w1 (w.heap.size + 0) 24 #[.int .i64 r.1, .slice A0 r.2.length c0] := by
    rw [hw_w1]
    have := (Blk.new w 24 #[.int .i64 r.1, .slice A0 r.2.length c0])
    simpa using this
  have bx0_l := bx0.lt
  rw [Nat.add_zero] at bx0 bx0_l
  have s_w1 := B_w1.size
  clear hw_w1
  refine (us_rel (H0.out.on B_w1) (by omega) (by omega) n0 m0).mono ?_
  rintro e w2 ⟨z0, rfl, hz0, hbz0⟩
  have s_w2 := hbz0.size
  have bx0_1 := bx0.below hbz0 (by first | exact bx0.lt | omega)
  clear bx0
  have bx0_1_l := bx0_1.lt
  have B_w2 := bthen B_w1 hbz0
  rcases hz0 with rfl | ⟨zp0, zs0⟩
  · go_wp2_with (fail)
    go_ret
    exact ⟨rfl, B_w2⟩
  have zn0 : ¬ z0 < 0 := by omega
  have r0 : szRows r.2 ≤ 1048576 := by omega
  have zl0 : z0 ≤ 1048576 := by omega
  have ZS0 := Lib.hid zs0
  clear zs0 zn0
  have zn0 : ¬ z0 < 0 := by omega
  obtain ⟨R0, hR0⟩ : ∃ R, R = relB r := ⟨_, rfl⟩
  have HR0 := Lib.hid hR0
  clear hR0
  have gb0 : (R0 != R0) = false := by simp
  have q1 : w2.cell? ⟨w.heap.size, 0, none⟩ = some (.int .i64 r.1) := bx0_1.cell 0
  have q2 : w2.cell? ⟨w.heap.size, 1, none⟩ = some (.slice A0 r.2.length c0) := bx0_1.cell 1
  go_wp2_with (fail)
  clear q1 q2
  refine (toRel_any _ r _ (H0.out.on B_w2) (by omega)).mono ?_
  rintro e w3 ⟨P1, d1, rfl, o1, hb1⟩
  have s_w3 := hb1.size
  have bx0_2 := bx0_1.below hb1 (by first | exact bx0_1.lt | omega)
  clear bx0_1
  have bx0_2_l := bx0_2.lt
  have B_w3 := bthen B_w2 hb1
  have q3 : w3.cell? ⟨w.heap.size, 0, none⟩ = some (.int .i64 r.1) := bx0_2.cell 0
  have q4 : w3.cell? ⟨w.heap.size, 1, none⟩ = some (.slice A0 r.2.length c0) := bx0_2.cell 1
  go_wp2_with (fail)
  clear q3 q4
  refine (specRelOk_any _ r _ ⟨_, rfl, o1.rd.more (by omega)⟩ (by omega)).mono ?_
  try rw [← HR0.out]
  rintro e w4 ⟨rfl, hb2⟩
  have s_w4 := hb2.size
  have bx0_3 := bx0_2.below hb2 (by first | exact bx0_2.lt | omega)
  clear bx0_2
  have bx0_3_l := bx0_3.lt
  have tw0_3 := o1.below hb2 (by omega)
  clear o1
  have B_w4 := bthen B_w3 hb2
  have q5 : w4.cell? ⟨w.heap.size, 0, none⟩ = some (.int .i64 r.1) := bx0_3.cell 0
  have q6 : w4.cell? ⟨w.heap.size, 1, none⟩ = some (.slice A0 r.2.length c0) := bx0_3.cell 1
  go_wp2_with (fail)
  clear q5 q6
  refine (toRel_any _ r _ (H0.out.on B_w4) (by omega)).mono ?_
  rintro e w5 ⟨P3, d3, rfl, o3, hb3⟩
  have s_w5 := hb3.size
  have bx0_4 := bx0_3.below hb3 (by first | exact bx0_3.lt | omega)
  clear bx0_3
  have bx0_4_l := bx0_4.lt
  have B_w5 := bthen B_w4 hb3
  have q7 : w5.cell? ⟨w.heap.size, 0, none⟩ = some (.int .i64 r.1) := bx0_4.cell 0
  have q8 : w5.cell? ⟨w.heap.size, 1, none⟩ = some (.slice A0 r.2.length c0) := bx0_4.cell 1
  go_wp2_with (fail)
  clear q7 q8
  obtain ⟨w6, hw_w6⟩ : ∃ W', W' = w5.alloc (Obj.cells #[Value.int IntKind.i64 r.1, Value.slice P3 r.2.length d3] 27) := ⟨_, rfl⟩
  rw [← hw_w6]
  have hb_w6 : Below w5.heap.size w5 w6 := by rw [hw_w6]; exact below1 _ _
  have bxx0_n : Blk w6 w5.heap.size 27 #[.int .i64 r.1, .slice P3 r.2.length d3] := by rw [hw_w6]; exact Blk.new _ _ _
  have bxx0_nl := bxx0_n.lt
  clear hw_w6
  have s_w6 := hb_w6.size
  have bx0_5 := bx0_4.below hb_w6 (by first | exact bx0_4.lt | omega)
  clear bx0_4
  have bx0_5_l := bx0_5.lt
  have x0_5 := o3.below hb_w6 (by omega)
  clear o3
  have B_w6 := bthen B_w5 hb_w6
  refine (implRelOk_any _ r _ ⟨_, rfl, x0_5.rd.more (by omega)⟩ (by omega)).mono ?_
  try rw [← HR0.out]
  rintro e w7 ⟨rfl, hb4⟩
  have s_w7 := hb4.size
  have bx0_6 := bx0_5.below hb4 (by first | exact bx0_5.lt | omega)
  clear bx0_5
  have bx0_6_l := bx0_6.lt
  have x0_6 := x0_5.below hb4 (by omega)
  clear x0_5
  have bxx0_6 := bxx0_n.below hb4 (by first | exact bxx0_n.lt | omega)
  clear bxx0_n
  have bxx0_6_l := bxx0_6.lt
  have B_w7 := bthen B_w6 hb4
  have q9 : w7.cell? ⟨w.heap.size, 0, none⟩ = some (.int .i64 r.1) := bx0_6.cell 0
  have q10 : w7.cell? ⟨w.heap.size, 1, none⟩ = some (.slice A0 r.2.length c0) := bx0_6.cell 1
  have q11 : w7.cell? ⟨w5.heap.size, 0, none⟩ = some (.int .i64 r.1) := bxx0_6.cell 0
  have q12 : w7.cell? ⟨w5.heap.size, 1, none⟩ = some (.slice P3 r.2.length d3) := bxx0_6.cell 1
  go_upto_region 10 with fail
  clear q9 q10 q11 q12
  have HS_w7 := Lib.hid (show ∀ W, Below w7.heap.size w7 W → (Below w7.heap.size w7 W ∧ W.cell? ⟨w.heap.size, 0, none⟩ = some (.int .i64 r.1) ∧ W.cell? ⟨w.heap.size, 1, none⟩ = some (.slice A0 r.2.length c0) ∧ W.cell? ⟨w5.heap.size, 0, none⟩ = some (.int .i64 r.1) ∧ W.cell? ⟨w5.heap.size, 1, none⟩ = some (.slice P3 r.2.length d3)) from fun W hW => ⟨hW, (bx0_6.below hW bx0_6_l).cell 0, (bx0_6.below hW bx0_6_l).cell 1, (bxx0_6.below hW bxx0_6_l).cell 0, (bxx0_6.below hW bxx0_6_l).cell 1⟩)
  have RX_w7 := Lib.hid (show RdRel w7 w7.heap.size (.agg #[.int .i64 r.1, .slice P3 r.2.length d3]) r from ⟨_, rfl, x0_6.rd.more (by omega)⟩)
  go_region_held3 (fun W => Below w7.heap.size w7 W ∧ W.cell? ⟨w.heap.size, 0, none⟩ = some (.int .i64 r.1) ∧ W.cell? ⟨w.heap.size, 1, none⟩ = some (.slice A0 r.2.length c0) ∧ W.cell? ⟨w5.heap.size, 0, none⟩ = some (.int .i64 r.1) ∧ W.cell? ⟨w5.heap.size, 1, none⟩ = some (.slice P3 r.2.length d3))
    (first | exact HS_w7.out _ (Below.refl _ _) | exact HS_w7.out _ (Below.refl _ _).drew | exact HS_w7.out _ (bthen (And.left (by assumption)) (by assumption)))
    (first
      | (go_at_call 15; refine (toRel_any _ r _ ?_ (by omega)).mono ?_; exact H0.out.on (bthen B_w7 (And.left (by assumption))); rintro e wf ⟨Af, cf, rfl, hof, hbf⟩)
      | (go_at_call 17; refine (eqRel_any _ _ r r _ ?_ ?_ rfl (by omega)).mono ?_; exact (RX_w7.out.on (And.left (by assumption))); exact ⟨_, rfl, hof.rd⟩; rw [show decide (r = r) = true by simp]; rintro e wg ⟨rfl, hbg⟩))
  all_goals
    go_wp2_with (fail)
    go_ret
    exact ⟨rfl, bthen B_w7 (And.left (by assumption))⟩

theorem lawRelOk_in (v0 : Value) (r : LRel) (w : World) (h0 : InRel w v0 r) : Calls Try.prog 3 #[v0] w fun e w' => e = .returned (.bool true) ∧ Below w.heap.size w w' :=
  lawRelOk_any v0 r w h0.1 h0.2.1 h0.2.2

end Go.Proofs.Ytchincemlilnoaa
namespace Go.Proofs.Ytchincemlilnoaa
open Go.ChangeShapes Go.WideShapes Go.ChangeAt Go.RowKit

set_option maxRecDepth 100000 in
theorem fnExactRelOk_lifted (os : Os) (started : os.Started) (H : Type) (enc : TypeId × Value → H) :
    ReturnsInHanded {} Try.checked os 3 .any (Rows.fnExactRelOkSpec.pre6 enc Try.prog Try.f3 Rows.fnExactRelOkRow.domain false) (Rows.fnExactRelOkSpec.post enc Try.prog Try.f3 false true false false) := by
  refine returnsInHanded_of_change (C := Try.checked) Try.own started (by kernel_rfl) Try.func3
    (ChangeSpec.witness6 (enc := enc) (C := Try.checked) false ⟨#[], #[.agg #[.int .i64 0, .slice none 0 0]], []⟩ 8 (by kernel_rfl) (by kernel_rfl) (by kernel_rfl) (by kernel_rfl)) ?_
  intro W base args ds gs before hval0 hW hcnd _
  have hval : ∀ (j : Nat) t v, Try.f3.params[j]? = some t → args[j]? = some v → Value.okWide Try.prog W .any base t v := hval0
  have hW' := hW
  obtain ⟨p, q, hA0, hV, rfl, hfz, hnd⟩ := hW
  have hA : DataW.TrodAll enc Try.prog W 0 (fun _ => true) true Try.f3.params.toList args.toList ds p := hA0
  rw [Try.params3] at hA hval
  obtain ⟨v0, vs0, d0, ds0, p0, q0, hargs, rfl, rfl, h0, r0⟩ := trodAll_cons hA
  obtain ⟨rfl, rfl, rfl⟩ := trodAll_nil r0
  obtain rfl : args = #[v0] := by cases args; simp_all
  obtain ⟨rfl, rfl⟩ := trodVars_none hV
  have lt0 : ∀ x ∈ p0, x.block < W.heap.size := by obtain ⟨m, hm⟩ := h0; exact DataW.trod_lt m _ _ _ hm
  obtain ⟨x0, w0⟩ := open_inRel (hval 0 24 v0 rfl rfl) h0
  clear hA0 hval0
  refine (lawRelOk_in v0 x0 W w0).mono fun e W' ⟨he, bel⟩ => ?_
  subst he
  exact ⟨_, rfl, _, _, _, [], _, [], hW', trodAll_mk1 (shut_bool Try.underlying4 _), (trodAll_cons_mk (Below.trod Try.laidOut (by kernel_rfl) (of_decide_eq_true (by kernel_rfl)) h0 bel lt0) trodAll_mk0), rfl, bel.frame _, fun h => by cases h⟩

theorem fnExactRelOk_holds : Rows.FnExactRelOkSaid :=
  OpenClaim.holds_of_wide 3 Try.f3 rfl rfl rfl rfl rfl rfl rfl ⟨rfl, rfl, rfl, rfl, rfl⟩ rfl rfl rfl rfl rfl (by kernel_rfl) Try.func3 (by kernel_rfl)
    (of_decide_eq_true (by kernel_rfl)) (by unfold Func.isWrapper; rw [if_neg (of_decide_eq_false (by kernel_rfl))]; exact ⟨rfl, rfl⟩)
    (fun os started H enc _ => fnExactRelOk_lifted os started H enc)

end Go.Proofs.Ytchincemlilnoaa
