/-
  The law FnExactRelTake: for every input the call returns true, and each argument reads behind it as it read before. Conditions: none but the row's own.
-/
import Derived.Deep.RegionHeld3
import Derived.Deep.DeepCutAuto
import Derived.Deep.RegionWith
import Derived.Test.YtchincemlilnoaaRows
import Derived.Test.YtchincemlilnoaaMRt5
/-
  The walk of the law on RelTake (written by wip/genlaw.py).
-/
namespace Go.Proofs.Ytchincemlilnoaa
open Go.RowKit

set_option maxHeartbeats 4000000 in
set_option maxRecDepth 100000 in
theorem lawRelTake_any (v0 : Value) (v1 : Value) (r : LRel) (cs : List Int) (w : World) (h0 : RdRel w w.heap.size v0 r) (h1 : RdInts w w.heap.size v1 cs) (n0 : r.2.length ≤ maxLen) (m0 : ∀ k (h : k < r.2.length), r.2[k].length ≤ maxLen) :
    Calls Try.prog 7 #[v0, v1] w fun e w' => e = .returned (.bool true) ∧ Below w.heap.size w w' := by
  have H0 := Lib.hid h0
  obtain ⟨a0, rfl, A0, c0, rfl, hc0, _⟩ := h0
  have H1 := Lib.hid h1
  obtain ⟨A1, c1, rfl, hc1, _⟩ := h1
  by_cases g1 : 1048576 < cs.length
  · go_enter Try.func7, Try.ntmps7
    go_wp2_with (fail)
    go_ret
    exact ⟨rfl, below1 _ _⟩
  have r1 : cs.length ≤ 1048576 := by omega
  go_enter Try.func7, Try.ntmps7
  go_wp2_with (fail)
  obtain ⟨w1, hw_w1⟩ : ∃ W', W' = w.alloc (Obj.cells #[Value.int IntKind.i64 r.1, Value.slice A0 r.2.length c0] 24) := ⟨_, rfl⟩
  rw [← hw_w1]
  have B_w1 : Below w.heap.size w w1 := by rw [hw_w1]; exact below1 _ _
  have bx0 : Blk w1 (w.heap.size + 0) 24 #[.int .i64 r.1, .slice A0 r.2.length c0] := by
    rw [hw_w1]
    have := (Blk.new w 24 #[.int .i64 r.1, .slice A0 r.2.length c0])
    simpa using this
  have bx0_l := bx0.lt
  rw [Nat.add_zero] at bx0 bx0_l
  have s_w1 := B_w1.size
  clear hw_w1
  refine (us_rel (H0.out.on B_w1) (by omega) (by omega) n0 m0).mono ?_
  rintro e w2 ⟨z0, rfl, hz0, hbz0⟩
  have s_w2 := hbz0.size
  have bx0_1 := bx0.below hbz0 (by first | exact bx0.lt | omega)
  clear bx0
  have bx0_1_l := bx0_1.lt
  have B_w2 := bthen B_w1 hbz0
  rcases hz0 with rfl | ⟨zp0, zs0⟩
  · go_wp2_with (fail)
    go_ret
    exact ⟨rfl, B_w2⟩
  have zn0 : ¬ z0 < 0 := by omega
  have r0 : szRows r.2 ≤ 1048576 := by omega
  have zl0 : z0 ≤ 1048576 := by omega
  have ZS0 := Lib.hid zs0
  clear zs0 zn0
  have zn0 : ¬ z0 < 0 := by omega
  obtain ⟨R0, hR0⟩ : ∃ R, R = takeR r cs := ⟨_, rfl⟩
  have HR0 := Lib.hid hR0
  have HRs0 := Lib.hid (show szRows R0.2 ≤ 1048576 by rw [hR0]; exact takeR_sz r cs)
  have R0s := HRs0.out
  clear hR0
  have q1 : w2.cell? ⟨w.heap.size, 0, none⟩ = some (.int .i64 r.1) := bx0_1.cell 0
  have q2 : w2.cell? ⟨w.heap.size, 1, none⟩ = some (.slice A0 r.2.length c0) := bx0_1.cell 1
  go_wp2_with (fail)
  clear q1 q2
  refine (toRel_any _ r _ (H0.out.on B_w2) (by omega)).mono ?_
  rintro e w3 ⟨P1, d1, rfl, o1, hb1⟩
  have s_w3 := hb1.size
  have bx0_2 := bx0_1.below hb1 (by first | exact bx0_1.lt | omega)
  clear bx0_1
  have bx0_2_l := bx0_2.lt
  have B_w3 := bthen B_w2 hb1
  have q3 : w3.cell? ⟨w.heap.size, 0, none⟩ = some (.int .i64 r.1) := bx0_2.cell 0
  have q4 : w3.cell? ⟨w.heap.size, 1, none⟩ = some (.slice A0 r.2.length c0) := bx0_2.cell 1
  go_wp2_with (fail)
  clear q3 q4
  refine (toIntS_any _ cs _ (H1.out.on B_w3) (by omega)).mono ?_
  rintro e w4 ⟨P2, d2, rfl, o2, hb2⟩
  have s_w4 := hb2.size
  have bx0_3 := bx0_2.below hb2 (by first | exact bx0_2.lt | omega)
  clear bx0_2
  have bx0_3_l := bx0_3.lt
  have tw0_3 := o1.below hb2 (by omega)
  clear o1
  have B_w4 := bthen B_w3 hb2
  have q5 : w4.cell? ⟨w.heap.size, 0, none⟩ = some (.int .i64 r.1) := bx0_3.cell 0
  have q6 : w4.cell? ⟨w.heap.size, 1, none⟩ = some (.slice A0 r.2.length c0) := bx0_3.cell 1
  go_wp2_with (fail)
  clear q5 q6
  refine (specRelTake_any _ _ r cs _ rfl _ ⟨_, rfl, tw0_3.rd.more (by omega)⟩ (o2.rd.more (by omega)) (by omega) (by omega)).mono ?_
  rw [← HR0.out]
  rintro e w5 ⟨Q3_0, f3_0, rfl, o3_0, hb3⟩
  have s_w5 := hb3.size
  have bx0_4 := bx0_3.below hb3 (by first | exact bx0_3.lt | omega)
  clear bx0_3
  have bx0_4_l := bx0_4.lt
  have tw0_4 := tw0_3.below hb3 (by omega)
  clear tw0_3
  have tw1_4 := o2.below hb3 (by omega)
  clear o2
  have B_w5 := bthen B_w4 hb3
  have q7 : w5.cell? ⟨w.heap.size, 0, none⟩ = some (.int .i64 r.1) := bx0_4.cell 0
  have q8 : w5.cell? ⟨w.heap.size, 1, none⟩ = some (.slice A0 r.2.length c0) := bx0_4.cell 1
  go_wp2_with (fail)
  clear q7 q8
  obtain ⟨w6, hw_w6⟩ : ∃ W', W' = w5.alloc (Obj.cells #[Value.int IntKind.i64 R0.1, Value.slice Q3_0 R0.2.length f3_0] 27) := ⟨_, rfl⟩
  rw [← hw_w6]
  have hb_w6 : Below w5.heap.size w5 w6 := by rw [hw_w6]; exact below1 _ _
  have bw0_n : Blk w6 w5.heap.size 27 #[.int .i64 R0.1, .slice Q3_0 R0.2.length f3_0] := by rw [hw_w6]; exact Blk.new _ _ _
  have bw0_nl := bw0_n.lt
  clear hw_w6
  have s_w6 := hb_w6.size
  have bx0_5 := bx0_4.below hb_w6 (by first | exact bx0_4.lt | omega)
  clear bx0_4
  have bx0_5_l := bx0_5.lt
  have w0_5 := o3_0.below hb_w6 (by omega)
  clear o3_0
  have B_w6 := bthen B_w5 hb_w6
  refine (toRel_any _ r _ (H0.out.on B_w6) (by omega)).mono ?_
  rintro e w7 ⟨P4, d4, rfl, o4, hb4⟩
  have s_w7 := hb4.size
  have bx0_6 := bx0_5.below hb4 (by first | exact bx0_5.lt | omega)
  clear bx0_5
  have bx0_6_l := bx0_6.lt
  have w0_6 := w0_5.below hb4 (by omega)
  clear w0_5
  have bw0_6 := bw0_n.below hb4 (by first | exact bw0_n.lt | omega)
  clear bw0_n
  have bw0_6_l := bw0_6.lt
  have B_w7 := bthen B_w6 hb4
  have q9 : w7.cell? ⟨w.heap.size, 0, none⟩ = some (.int .i64 r.1) := bx0_6.cell 0
  have q10 : w7.cell? ⟨w.heap.size, 1, none⟩ = some (.slice A0 r.2.length c0) := bx0_6.cell 1
  have q11 : w7.cell? ⟨w5.heap.size, 0, none⟩ = some (.int .i64 R0.1) := bw0_6.cell 0
  have q12 : w7.cell? ⟨w5.heap.size, 1, none⟩ = some (.slice Q3_0 R0.2.length f3_0) := bw0_6.cell 1
  go_wp2_with (fail)
  clear q9 q10 q11 q12
  obtain ⟨w8, hw_w8⟩ : ∃ W', W' = w7.alloc (Obj.cells #[Value.int IntKind.i64 r.1, Value.slice P4 r.2.length d4] 27) := ⟨_, rfl⟩
  rw [← hw_w8]
  have hb_w8 : Below w7.heap.size w7 w8 := by rw [hw_w8]; exact below1 _ _
  have bxx0_n : Blk w8 w7.heap.size 27 #[.int .i64 r.1, .slice P4 r.2.length d4] := by rw [hw_w8]; exact Blk.new _ _ _
  have bxx0_nl := bxx0_n.lt
  clear hw_w8
  have s_w8 := hb_w8.size
  have bx0_7 := bx0_6.below hb_w8 (by first | exact bx0_6.lt | omega)
  clear bx0_6
  have bx0_7_l := bx0_7.lt
  have w0_7 := w0_6.below hb_w8 (by omega)
  clear w0_6
  have bw0_7 := bw0_6.below hb_w8 (by first | exact bw0_6.lt | omega)
  clear bw0_6
  have bw0_7_l := bw0_7.lt
  have x0_7 := o4.below hb_w8 (by omega)
  clear o4
  have B_w8 := bthen B_w7 hb_w8
  refine (toIntS_any _ cs _ (H1.out.on B_w8) (by omega)).mono ?_
  rintro e w9 ⟨P5, d5, rfl, o5, hb5⟩
  have s_w9 := hb5.size
  have bx0_8 := bx0_7.below hb5 (by first | exact bx0_7.lt | omega)
  clear bx0_7
  have bx0_8_l := bx0_8.lt
  have w0_8 := w0_7.below hb5 (by omega)
  clear w0_7
  have bw0_8 := bw0_7.below hb5 (by first | exact bw0_7.lt | omega)
  clear bw0_7
  have bw0_8_l := bw0_8.lt
  have x0_8 := x0_7.below hb5 (by omega)
  clear x0_7
  have bxx0_8 := bxx0_n.below hb5 (by first | exact bxx0_n.lt | omega)
  clear bxx0_n
  have bxx0_8_l := bxx0_8.lt
  have B_w9 := bthen B_w8 hb5
  have q13 : w9.cell? ⟨w.heap.size, 0, none⟩ = some (.int .i64 r.1) := bx0_8.cell 0
  have q14 : w9.cell? ⟨w.heap.size, 1, none⟩ = some (.slice A0 r.2.length c0) := bx0_8.cell 1
  have q15 : w9.cell? ⟨w5.heap.size, 0, none⟩ = some (.int .i64 R0.1) := bw0_8.cell 0
  have q16 : w9.cell? ⟨w5.heap.size, 1, none⟩ = some (.slice Q3_0 R0.2.length f3_0) := bw0_8.cell 1
  have q17 : w9.cell? ⟨w7.heap.size, 0, none⟩ = some (.int .i64 r.1) := bxx0_8.cell 0
  have q18 : w9.cell? ⟨w7.heap.size, 1, none⟩ = some (.slice P4 r.2.length d4) := bxx0_8.cell 1
  go_wp2_with (fail)
  clear q13 q14 q15 q16 q17 q18
  refine (implRelTake_any _ _ r cs _ rfl _ ⟨_, rfl, x0_8.rd.more (by omega)⟩ (o5.rd.more (by omega)) (by omega) (by omega)).mono ?_
  rw [← HR0.out]
  rintro e w10 ⟨Q6_0, f6_0, rfl, o6_0, hb6⟩
  have s_w10 := hb6.size
  have bx0_9 := bx0_8.below hb6 (by first | exact bx0_8.lt | omega)
  clear bx0_8
  have bx0_9_l := bx0_9.lt
  have w0_9 := w0_8.below hb6 (by omega)
  clear w0_8
  have bw0_9 := bw0_8.below hb6 (by first | exact bw0_8.lt | omega)
  clear bw0_8
  have bw0_9_l := bw0_9.lt
  have x0_9 := x0_8.below hb6 (by omega)
  clear x0_8
  have bxx0_9 := bxx0_8.below hb6 (by first | exact bxx0_8.lt | omega)
  clear bxx0_8
  have bxx0_9_l := bxx0_9.lt
  have x1_9 := o5.below hb6 (by omega)
  clear o5
  have B_w10 := bthen B_w9 hb6
  have q19 : w10.cell? ⟨w.heap.size, 0, none⟩ = some (.int .i64 r.1) := bx0_9.cell 0
  have q20 : w10.cell? ⟨w.heap.size, 1, none⟩ = some (.slice A0 r.2.length c0) := bx0_9.cell 1
  have q21 : w10.cell? ⟨w5.heap.size, 0, none⟩ = some (.int .i64 R0.1) := bw0_9.cell 0
  have q22 : w10.cell? ⟨w5.heap.size, 1, none⟩ = some (.slice Q3_0 R0.2.length f3_0) := bw0_9.cell 1
  have q23 : w10.cell? ⟨w7.heap.size, 0, none⟩ = some (.int .i64 r.1) := bxx0_9.cell 0
  have q24 : w10.cell? ⟨w7.heap.size, 1, none⟩ = some (.slice P4 r.2.length d4) := bxx0_9.cell 1
  go_wp2_with (fail)
  clear q19 q20 q21 q22 q23 q24
  obtain ⟨w11, hw_w11⟩ : ∃ W', W' = w10.alloc (Obj.cells #[Value.int IntKind.i64 R0.1, Value.slice Q6_0 R0.2.length f6_0] 27) := ⟨_, rfl⟩
  rw [← hw_w11]
  have hb_w11 : Below w10.heap.size w10 w11 := by rw [hw_w11]; exact below1 _ _
  have bg0_n : Blk w11 w10.heap.size 27 #[.int .i64 R0.1, .slice Q6_0 R0.2.length f6_0] := by rw [hw_w11]; exact Blk.new _ _ _
  have bg0_nl := bg0_n.lt
  clear hw_w11
  have s_w11 := hb_w11.size
  have bx0_10 := bx0_9.below hb_w11 (by first | exact bx0_9.lt | omega)
  clear bx0_9
  have bx0_10_l := bx0_10.lt
  have w0_10 := w0_9.below hb_w11 (by omega)
  clear w0_9
  have bw0_10 := bw0_9.below hb_w11 (by first | exact bw0_9.lt | omega)
  clear bw0_9
  have bw0_10_l := bw0_10.lt
  have x0_10 := x0_9.below hb_w11 (by omega)
  clear x0_9
  have bxx0_10 := bxx0_9.below hb_w11 (by first | exact bxx0_9.lt | omega)
  clear bxx0_9
  have bxx0_10_l := bxx0_10.lt
  have x1_10 := x1_9.below hb_w11 (by omega)
  clear x1_9
  have g0_10 := o6_0.below hb_w11 (by omega)
  clear o6_0
  have B_w11 := bthen B_w10 hb_w11
  refine (eqRel_any _ _ R0 R0 _ ⟨_, rfl, g0_10.rd.more (by omega)⟩ ⟨_, rfl, w0_10.rd.more (by omega)⟩ rfl (by omega)).mono ?_
  rintro e w12 ⟨rfl, hb7⟩
  rw [show decide (R0 = R0) = true by simp]
  have s_w12 := hb7.size
  have bx0_11 := bx0_10.below hb7 (by first | exact bx0_10.lt | omega)
  clear bx0_10
  have bx0_11_l := bx0_11.lt
  have w0_11 := w0_10.below hb7 (by omega)
  clear w0_10
  have bw0_11 := bw0_10.below hb7 (by first | exact bw0_10.lt | omega)
  clear bw0_10
  have bw0_11_l := bw0_11.lt
  have x0_11 := x0_10.below hb7 (by omega)
  clear x0_10
  have bxx0_11 := bxx0_10.below hb7 (by first | exact bxx0_10.lt | omega)
  clear bxx0_10
  have bxx0_11_l := bxx0_11.lt
  have x1_11 := x1_10.below hb7 (by omega)
  clear x1_10
  have g0_11 := g0_10.below hb7 (by omega)
  clear g0_10
  have bg0_11 := bg0_n.below hb7 (by first | exact bg0_n.lt | omega)
  clear bg0_n
  have bg0_11_l := bg0_11.lt
  have B_w12 := bthen B_w11 hb7
  have q25 : w12.cell? ⟨w.heap.size, 0, none⟩ = some (.int .i64 r.1) := bx0_11.cell 0
  have q26 : w12.cell? ⟨w.heap.size, 1, none⟩ = some (.slice A0 r.2.length c0) := bx0_11.cell 1
  have q27 : w12.cell? ⟨w5.heap.size, 0, none⟩ = some (.int .i64 R0.1) := bw0_11.cell 0
  have q28 : w12.cell? ⟨w5.heap.size, 1, none⟩ = some (.slice Q3_0 R0.2.length f3_0) := bw0_11.cell 1
  have q29 : w12.cell? ⟨w7.heap.size, 0, none⟩ = some (.int .i64 r.1) := bxx0_11.cell 0
  have q30 : w12.cell? ⟨w7.heap.size, 1, none⟩ = some (.slice P4 r.2.length d4) := bxx0_11.cell 1
  have q31 : w12.cell? ⟨w10.heap.size, 0, none⟩ = some (.int .i64 R0.1) := bg0_11.cell 0
  have q32 : w12.cell? ⟨w10.heap.size, 1, none⟩ = some (.slice Q6_0 R0.2.length f6_0) := bg0_11.cell 1
  go_upto_region 13 with fail
  clear q25 q26 q27 q28 q29 q30 q31 q32
  have HS_w12 := Lib.hid (show ∀ W, Below w12.heap.size w12 W → (Below w12.heap.size w12 W ∧ W.cell? ⟨w.heap.size, 0, none⟩ = some (.int .i64 r.1) ∧ W.cell? ⟨w.heap.size, 1, none⟩ = some (.slice A0 r.2.length c0) ∧ W.cell? ⟨w5.heap.size, 0, none⟩ = some (.int .i64 R0.1) ∧ W.cell? ⟨w5.heap.size, 1, none⟩ = some (.slice Q3_0 R0.2.length f3_0) ∧ W.cell? ⟨w7.heap.size, 0, none⟩ = some (.int .i64 r.1) ∧ W.cell? ⟨w7.heap.size, 1, none⟩ = some (.slice P4 r.2.length d4) ∧ W.cell? ⟨w10.heap.size, 0, none⟩ = some (.int .i64 R0.1) ∧ W.cell? ⟨w10.heap.size, 1, none⟩ = some (.slice Q6_0 R0.2.length f6_0)) from fun W hW => ⟨hW, (bx0_11.below hW bx0_11_l).cell 0, (bx0_11.below hW bx0_11_l).cell 1, (bw0_11.below hW bw0_11_l).cell 0, (bw0_11.below hW bw0_11_l).cell 1, (bxx0_11.below hW bxx0_11_l).cell 0, (bxx0_11.below hW bxx0_11_l).cell 1, (bg0_11.below hW bg0_11_l).cell 0, (bg0_11.below hW bg0_11_l).cell 1⟩)
  have RX_w12 := Lib.hid (show RdRel w12 w12.heap.size (.agg #[.int .i64 r.1, .slice P4 r.2.length d4]) r from ⟨_, rfl, x0_11.rd.more (by omega)⟩)
  go_cut [42] (fun s wx => s = .bool false ∧ Below w12.heap.size w12 wx)
  case first =>
    go_region_held3 (fun W => Below w12.heap.size w12 W ∧ W.cell? ⟨w.heap.size, 0, none⟩ = some (.int .i64 r.1) ∧ W.cell? ⟨w.heap.size, 1, none⟩ = some (.slice A0 r.2.length c0) ∧ W.cell? ⟨w5.heap.size, 0, none⟩ = some (.int .i64 R0.1) ∧ W.cell? ⟨w5.heap.size, 1, none⟩ = some (.slice Q3_0 R0.2.length f3_0) ∧ W.cell? ⟨w7.heap.size, 0, none⟩ = some (.int .i64 r.1) ∧ W.cell? ⟨w7.heap.size, 1, none⟩ = some (.slice P4 r.2.length d4) ∧ W.cell? ⟨w10.heap.size, 0, none⟩ = some (.int .i64 R0.1) ∧ W.cell? ⟨w10.heap.size, 1, none⟩ = some (.slice Q6_0 R0.2.length f6_0))
      (first | exact HS_w12.out _ (Below.refl _ _) | exact HS_w12.out _ (Below.refl _ _).drew | exact HS_w12.out _ (bthen (And.left (by assumption)) (by assumption)))
      (first
        | (go_at_call 15; refine (toRel_any _ r _ ?_ (by omega)).mono ?_; exact H0.out.on (bthen B_w12 (And.left (by assumption))); rintro e wf ⟨Af, cf, rfl, hof, hbf⟩)
        | (go_at_call 17; refine (eqRel_any _ _ r r _ ?_ ?_ rfl (by omega)).mono ?_; exact (RX_w12.out.on (And.left (by assumption))); exact ⟨_, rfl, hof.rd⟩; rw [show decide (r = r) = true by simp]; rintro e wg ⟨rfl, hbg⟩))
    all_goals (go_wp2_with fail; go_meet; exact ⟨rfl, And.left (by assumption)⟩)
  case rest =>
    obtain ⟨rfl, hb8⟩ := hcut
    clear HS_w12 RX_w12
    generalize wc = w13 at *
    have s_w13 := hb8.size
    have bx0_12 := bx0_11.below hb8 (by first | exact bx0_11.lt | omega)
    clear bx0_11
    have bx0_12_l := bx0_12.lt
    have w0_12 := w0_11.below hb8 (by omega)
    clear w0_11
    have bw0_12 := bw0_11.below hb8 (by first | exact bw0_11.lt | omega)
    clear bw0_11
    have bw0_12_l := bw0_12.lt
    have x0_12 := x0_11.below hb8 (by omega)
    clear x0_11
    have bxx0_12 := bxx0_11.below hb8 (by first | exact bxx0_11.lt | omega)
    clear bxx0_11
    have bxx0_12_l := bxx0_12.lt
    have x1_12 := x1_11.below hb8 (by omega)
    clear x1_11
    have g0_12 := g0_11.below hb8 (by omega)
    clear g0_11
    have bg0_12 := bg0_11.below hb8 (by first | exact bg0_11.lt | omega)
    clear bg0_11
    have bg0_12_l := bg0_12.lt
    have B_w13 := bthen B_w12 hb8
    have q33 : w13.cell? ⟨w.heap.size, 0, none⟩ = some (.int .i64 r.1) := bx0_12.cell 0
    have q34 : w13.cell? ⟨w.heap.size, 1, none⟩ = some (.slice A0 r.2.length c0) := bx0_12.cell 1
    have q35 : w13.cell? ⟨w5.heap.size, 0, none⟩ = some (.int .i64 R0.1) := bw0_12.cell 0
    have q36 : w13.cell? ⟨w5.heap.size, 1, none⟩ = some (.slice Q3_0 R0.2.length f3_0) := bw0_12.cell 1
    have q37 : w13.cell? ⟨w7.heap.size, 0, none⟩ = some (.int .i64 r.1) := bxx0_12.cell 0
    have q38 : w13.cell? ⟨w7.heap.size, 1, none⟩ = some (.slice P4 r.2.length d4) := bxx0_12.cell 1
    have q39 : w13.cell? ⟨w10.heap.size, 0, none⟩ = some (.int .i64 R0.1) := bg0_12.cell 0
    have q40 : w13.cell? ⟨w10.heap.size, 1, none⟩ = some (.slice Q6_0 R0.2.length f6_0) := bg0_12.cell 1
    go_wp2_with (fail)
    clear q33 q34 q35 q36 q37 q38 q39 q40
    refine (toIntS_any _ cs _ (H1.out.on B_w13) (by omega)).mono ?_
    rintro e w14 ⟨P9, d9, rfl, o9, hb9⟩
    have s_w14 := hb9.size
    have bx0_13 := bx0_12.below hb9 (by first | exact bx0_12.lt | omega)
    clear bx0_12
    have bx0_13_l := bx0_13.lt
    have w0_13 := w0_12.below hb9 (by omega)
    clear w0_12
    have bw0_13 := bw0_12.below hb9 (by first | exact bw0_12.lt | omega)
    clear bw0_12
    have bw0_13_l := bw0_13.lt
    have x0_13 := x0_12.below hb9 (by omega)
    clear x0_12
    have bxx0_13 := bxx0_12.below hb9 (by first | exact bxx0_12.lt | omega)
    clear bxx0_12
    have bxx0_13_l := bxx0_13.lt
    have x1_13 := x1_12.below hb9 (by omega)
    clear x1_12
    have g0_13 := g0_12.below hb9 (by omega)
    clear g0_12
    have bg0_13 := bg0_12.below hb9 (by first | exact bg0_12.lt | omega)
    clear bg0_12
    have bg0_13_l := bg0_13.lt
    have B_w14 := bthen B_w13 hb9
    have q41 : w14.cell? ⟨w.heap.size, 0, none⟩ = some (.int .i64 r.1) := bx0_13.cell 0
    have q42 : w14.cell? ⟨w.heap.size, 1, none⟩ = some (.slice A0 r.2.length c0) := bx0_13.cell 1
    have q43 : w14.cell? ⟨w5.heap.size, 0, none⟩ = some (.int .i64 R0.1) := bw0_13.cell 0
    have q44 : w14.cell? ⟨w5.heap.size, 1, none⟩ = some (.slice Q3_0 R0.2.length f3_0) := bw0_13.cell 1
    have q45 : w14.cell? ⟨w7.heap.size, 0, none⟩ = some (.int .i64 r.1) := bxx0_13.cell 0
    have q46 : w14.cell? ⟨w7.heap.size, 1, none⟩ = some (.slice P4 r.2.length d4) := bxx0_13.cell 1
    have q47 : w14.cell? ⟨w10.heap.size, 0, none⟩ = some (.int .i64 R0.1) := bg0_13.cell 0
    have q48 : w14.cell? ⟨w10.heap.size, 1, none⟩ = some (.slice Q6_0 R0.2.length f6_0) := bg0_13.cell 1
    go_wp2_with (fail)
    clear q41 q42 q43 q44 q45 q46 q47 q48
    refine (eqIntS_any _ _ cs cs _ (x1_13.rd.more (by omega)) (o9.rd.more (by omega)) (by omega) (by omega)).mono ?_
    rintro e w15 ⟨rfl, hb10⟩
    rw [show decide (cs = cs) = true by simp]
    have s_w15 := hb10.size
    have bx0_14 := bx0_13.below hb10 (by first | exact bx0_13.lt | omega)
    clear bx0_13
    have bx0_14_l := bx0_14.lt
    have w0_14 := w0_13.below hb10 (by omega)
    clear w0_13
    have bw0_14 := bw0_13.below hb10 (by first | exact bw0_13.lt | omega)
    clear bw0_13
    have bw0_14_l := bw0_14.lt
    have x0_14 := x0_13.below hb10 (by omega)
    clear x0_13
    have bxx0_14 := bxx0_13.below hb10 (by first | exact bxx0_13.lt | omega)
    clear bxx0_13
    have bxx0_14_l := bxx0_14.lt
    have x1_14 := x1_13.below hb10 (by omega)
    clear x1_13
    have g0_14 := g0_13.below hb10 (by omega)
    clear g0_13
    have bg0_14 := bg0_13.below hb10 (by first | exact bg0_13.lt | omega)
    clear bg0_13
    have bg0_14_l := bg0_14.lt
    have B_w15 := bthen B_w14 hb10
    have q49 : w15.cell? ⟨w.heap.size, 0, none⟩ = some (.int .i64 r.1) := bx0_14.cell 0
    have q50 : w15.cell? ⟨w.heap.size, 1, none⟩ = some (.slice A0 r.2.length c0) := bx0_14.cell 1
    have q51 : w15.cell? ⟨w5.heap.size, 0, none⟩ = some (.int .i64 R0.1) := bw0_14.cell 0
    have q52 : w15.cell? ⟨w5.heap.size, 1, none⟩ = some (.slice Q3_0 R0.2.length f3_0) := bw0_14.cell 1
    have q53 : w15.cell? ⟨w7.heap.size, 0, none⟩ = some (.int .i64 r.1) := bxx0_14.cell 0
    have q54 : w15.cell? ⟨w7.heap.size, 1, none⟩ = some (.slice P4 r.2.length d4) := bxx0_14.cell 1
    have q55 : w15.cell? ⟨w10.heap.size, 0, none⟩ = some (.int .i64 R0.1) := bg0_14.cell 0
    have q56 : w15.cell? ⟨w10.heap.size, 1, none⟩ = some (.slice Q6_0 R0.2.length f6_0) := bg0_14.cell 1
    go_wp2_with (fail)
    clear q49 q50 q51 q52 q53 q54 q55 q56
    refine (um_rel 1 x0_14 (by omega) (by omega) (by omega) (by omega)).mono ?_
    rintro e w16 ⟨k11, rfl, ka11, kb11, _, on11⟩
    have s_w16 := on11.size
    have bx0_15 := bx0_14.only on11 (by first | exact .inl (by omega) | exact .inr (by omega) | omega)
    clear bx0_14
    have bx0_15_l := bx0_15.lt
    have w0_15 := w0_14.only on11 (by first | exact .inl (by omega) | exact .inr (by omega) | omega)
    clear w0_14
    have bw0_15 := bw0_14.only on11 (by first | exact .inl (by omega) | exact .inr (by omega) | omega)
    clear bw0_14
    have bw0_15_l := bw0_15.lt
    have bxx0_15 := bxx0_14.only on11 (by first | exact .inl (by omega) | exact .inr (by omega) | omega)
    clear bxx0_14
    have bxx0_15_l := bxx0_15.lt
    have x1_15 := x1_14.only on11 (by first | exact .inl (by omega) | exact .inr (by omega) | omega)
    clear x1_14
    have g0_15 := g0_14.only on11 (by first | exact .inl (by omega) | exact .inr (by omega) | omega)
    clear g0_14
    have bg0_15 := bg0_14.only on11 (by first | exact .inl (by omega) | exact .inr (by omega) | omega)
    clear bg0_14
    have bg0_15_l := bg0_15.lt
    have B_w16 := Only.then_ B_w15 on11 (by omega)
    have q57 : w16.cell? ⟨w.heap.size, 0, none⟩ = some (.int .i64 r.1) := bx0_15.cell 0
    have q58 : w16.cell? ⟨w.heap.size, 1, none⟩ = some (.slice A0 r.2.length c0) := bx0_15.cell 1
    have q59 : w16.cell? ⟨w5.heap.size, 0, none⟩ = some (.int .i64 R0.1) := bw0_15.cell 0
    have q60 : w16.cell? ⟨w5.heap.size, 1, none⟩ = some (.slice Q3_0 R0.2.length f3_0) := bw0_15.cell 1
    have q61 : w16.cell? ⟨w7.heap.size, 0, none⟩ = some (.int .i64 r.1) := bxx0_15.cell 0
    have q62 : w16.cell? ⟨w7.heap.size, 1, none⟩ = some (.slice P4 r.2.length d4) := bxx0_15.cell 1
    have q63 : w16.cell? ⟨w10.heap.size, 0, none⟩ = some (.int .i64 R0.1) := bg0_15.cell 0
    have q64 : w16.cell? ⟨w10.heap.size, 1, none⟩ = some (.slice Q6_0 R0.2.length f6_0) := bg0_15.cell 1
    go_wp2_with (fail)
    clear q57 q58 q59 q60 q61 q62 q63 q64
    refine (um_ints k11 x1_15 (by omega) (by omega) (by omega)).mono ?_
    rintro e w17 ⟨k12, rfl, ka12, kb12, _, on12⟩
    have s_w17 := on12.size
    have bx0_16 := bx0_15.only on12 (by first | exact .inl (by omega) | exact .inr (by omega) | omega)
    clear bx0_15
    have bx0_16_l := bx0_16.lt
    have w0_16 := w0_15.only on12 (by first | exact .inl (by omega) | exact .inr (by omega) | omega)
    clear w0_15
    have bw0_16 := bw0_15.only on12 (by first | exact .inl (by omega) | exact .inr (by omega) | omega)
    clear bw0_15
    have bw0_16_l := bw0_16.lt
    have bxx0_16 := bxx0_15.only on12 (by first | exact .inl (by omega) | exact .inr (by omega) | omega)
    clear bxx0_15
    have bxx0_16_l := bxx0_16.lt
    have g0_16 := g0_15.only on12 (by first | exact .inl (by omega) | exact .inr (by omega) | omega)
    clear g0_15
    have bg0_16 := bg0_15.only on12 (by first | exact .inl (by omega) | exact .inr (by omega) | omega)
    clear bg0_15
    have bg0_16_l := bg0_16.lt
    have B_w17 := Only.then_ B_w16 on12 (by omega)
    have kn : ¬ k12 < 0 := by omega
    have kd : decide (k12 < 0) = false := by simp; omega
    have q65 : w17.cell? ⟨w.heap.size, 0, none⟩ = some (.int .i64 r.1) := bx0_16.cell 0
    have q66 : w17.cell? ⟨w.heap.size, 1, none⟩ = some (.slice A0 r.2.length c0) := bx0_16.cell 1
    have q67 : w17.cell? ⟨w5.heap.size, 0, none⟩ = some (.int .i64 R0.1) := bw0_16.cell 0
    have q68 : w17.cell? ⟨w5.heap.size, 1, none⟩ = some (.slice Q3_0 R0.2.length f3_0) := bw0_16.cell 1
    have q69 : w17.cell? ⟨w7.heap.size, 0, none⟩ = some (.int .i64 r.1) := bxx0_16.cell 0
    have q70 : w17.cell? ⟨w7.heap.size, 1, none⟩ = some (.slice P4 r.2.length d4) := bxx0_16.cell 1
    have q71 : w17.cell? ⟨w10.heap.size, 0, none⟩ = some (.int .i64 R0.1) := bg0_16.cell 0
    have q72 : w17.cell? ⟨w10.heap.size, 1, none⟩ = some (.slice Q6_0 R0.2.length f6_0) := bg0_16.cell 1
    go_wp2_with (fail)
    clear q65 q66 q67 q68 q69 q70 q71 q72
    refine (eqRel_any _ _ R0 R0 _ ⟨_, rfl, g0_16.rd.more (by omega)⟩ ⟨_, rfl, w0_16.rd.more (by omega)⟩ rfl (by omega)).mono ?_
    rintro e w18 ⟨rfl, hb13⟩
    rw [show decide (R0 = R0) = true by simp]
    have s_w18 := hb13.size
    have bx0_17 := bx0_16.below hb13 (by first | exact bx0_16.lt | omega)
    clear bx0_16
    have bx0_17_l := bx0_17.lt
    have w0_17 := w0_16.below hb13 (by omega)
    clear w0_16
    have bw0_17 := bw0_16.below hb13 (by first | exact bw0_16.lt | omega)
    clear bw0_16
    have bw0_17_l := bw0_17.lt
    have bxx0_17 := bxx0_16.below hb13 (by first | exact bxx0_16.lt | omega)
    clear bxx0_16
    have bxx0_17_l := bxx0_17.lt
    have g0_17 := g0_16.below hb13 (by omega)
    clear g0_16
    have bg0_17 := bg0_16.below hb13 (by first | exact bg0_16.lt | omega)
    clear bg0_16
    have bg0_17_l := bg0_17.lt
    have B_w18 := bthen B_w17 hb13
    have q73 : w18.cell? ⟨w.heap.size, 0, none⟩ = some (.int .i64 r.1) := bx0_17.cell 0
    have q74 : w18.cell? ⟨w.heap.size, 1, none⟩ = some (.slice A0 r.2.length c0) := bx0_17.cell 1
    have q75 : w18.cell? ⟨w5.heap.size, 0, none⟩ = some (.int .i64 R0.1) := bw0_17.cell 0
    have q76 : w18.cell? ⟨w5.heap.size, 1, none⟩ = some (.slice Q3_0 R0.2.length f3_0) := bw0_17.cell 1
    have q77 : w18.cell? ⟨w7.heap.size, 0, none⟩ = some (.int .i64 r.1) := bxx0_17.cell 0
    have q78 : w18.cell? ⟨w7.heap.size, 1, none⟩ = some (.slice P4 r.2.length d4) := bxx0_17.cell 1
    have q79 : w18.cell? ⟨w10.heap.size, 0, none⟩ = some (.int .i64 R0.1) := bg0_17.cell 0
    have q80 : w18.cell? ⟨w10.heap.size, 1, none⟩ = some (.slice Q6_0 R0.2.length f6_0) := bg0_17.cell 1
    go_wp2_with (fail)
    clear q73 q74 q75 q76 q77 q78 q79 q80
    refine (um_rel 1 g0_17 (by omega) (by omega) (by omega) (by have := HRs0.out; omega)).mono ?_
    rintro e w19 ⟨m14, rfl, ma14, mb14, hd14, on14⟩
    have mb14' := HRs0.out
    have s_w19 := on14.size
    have bx0_18 := bx0_17.only on14 (by first | exact .inl (by omega) | exact .inr (by omega) | omega)
    clear bx0_17
    have bx0_18_l := bx0_18.lt
    have w0_18 := w0_17.only on14 (by first | exact .inl (by omega) | exact .inr (by omega) | omega)
    clear w0_17
    have bw0_18 := bw0_17.only on14 (by first | exact .inl (by omega) | exact .inr (by omega) | omega)
    clear bw0_17
    have bw0_18_l := bw0_18.lt
    have bxx0_18 := bxx0_17.only on14 (by first | exact .inl (by omega) | exact .inr (by omega) | omega)
    clear bxx0_17
    have bxx0_18_l := bxx0_18.lt
    have bg0_18 := bg0_17.only on14 (by first | exact .inl (by omega) | exact .inr (by omega) | omega)
    clear bg0_17
    have bg0_18_l := bg0_18.lt
    have B_w19 := Only.then_ B_w18 on14 (by omega)
    have mn : ¬ m14 < 0 := by omega
    have me : (m14 != m14) = false := by simp
    have q81 : w19.cell? ⟨w.heap.size, 0, none⟩ = some (.int .i64 r.1) := bx0_18.cell 0
    have q82 : w19.cell? ⟨w.heap.size, 1, none⟩ = some (.slice A0 r.2.length c0) := bx0_18.cell 1
    have q83 : w19.cell? ⟨w5.heap.size, 0, none⟩ = some (.int .i64 R0.1) := bw0_18.cell 0
    have q84 : w19.cell? ⟨w5.heap.size, 1, none⟩ = some (.slice Q3_0 R0.2.length f3_0) := bw0_18.cell 1
    have q85 : w19.cell? ⟨w7.heap.size, 0, none⟩ = some (.int .i64 r.1) := bxx0_18.cell 0
    have q86 : w19.cell? ⟨w7.heap.size, 1, none⟩ = some (.slice P4 r.2.length d4) := bxx0_18.cell 1
    have q87 : w19.cell? ⟨w10.heap.size, 0, none⟩ = some (.int .i64 R0.1) := bg0_18.cell 0
    have q88 : w19.cell? ⟨w10.heap.size, 1, none⟩ = some (.slice Q6_0 R0.2.length f6_0) := bg0_18.cell 1
    go_wp2_with (fail)
    clear q81 q82 q83 q84 q85 q86 q87 q88
    refine (uh_rel hd14 (by omega)).mono ?_
    rintro e w20 ⟨rfl, hb15⟩
    have s_w20 := hb15.size
    have bx0_19 := bx0_18.below hb15 (by first | exact bx0_18.lt | omega)
    clear bx0_18
    have bx0_19_l := bx0_19.lt
    have w0_19 := w0_18.below hb15 (by omega)
    clear w0_18
    have bw0_19 := bw0_18.below hb15 (by first | exact bw0_18.lt | omega)
    clear bw0_18
    have bw0_19_l := bw0_19.lt
    have bxx0_19 := bxx0_18.below hb15 (by first | exact bxx0_18.lt | omega)
    clear bxx0_18
    have bxx0_19_l := bxx0_19.lt
    have bg0_19 := bg0_18.below hb15 (by first | exact bg0_18.lt | omega)
    clear bg0_18
    have bg0_19_l := bg0_19.lt
    have d0_19 := hd14.below hb15 (by omega)
    clear hd14
    have B_w20 := bthen B_w19 hb15
    have q89 : w20.cell? ⟨w.heap.size, 0, none⟩ = some (.int .i64 r.1) := bx0_19.cell 0
    have q90 : w20.cell? ⟨w.heap.size, 1, none⟩ = some (.slice A0 r.2.length c0) := bx0_19.cell 1
    have q91 : w20.cell? ⟨w5.heap.size, 0, none⟩ = some (.int .i64 R0.1) := bw0_19.cell 0
    have q92 : w20.cell? ⟨w5.heap.size, 1, none⟩ = some (.slice Q3_0 R0.2.length f3_0) := bw0_19.cell 1
    have q93 : w20.cell? ⟨w7.heap.size, 0, none⟩ = some (.int .i64 r.1) := bxx0_19.cell 0
    have q94 : w20.cell? ⟨w7.heap.size, 1, none⟩ = some (.slice P4 r.2.length d4) := bxx0_19.cell 1
    have q95 : w20.cell? ⟨w10.heap.size, 0, none⟩ = some (.int .i64 R0.1) := bg0_19.cell 0
    have q96 : w20.cell? ⟨w10.heap.size, 1, none⟩ = some (.slice Q6_0 R0.2.length f6_0) := bg0_19.cell 1
    go_wp2_with (fail)
    clear q89 q90 q91 q92 q93 q94 q95 q96
    refine (toRel_any _ r _ (H0.out.on B_w20) (by omega)).mono ?_
    rintro e w21 ⟨P16, d16, rfl, o16, hb16⟩
    have s_w21 := hb16.size
    have bx0_20 := bx0_19.below hb16 (by first | exact bx0_19.lt | omega)
    clear bx0_19
    have bx0_20_l := bx0_20.lt
    have w0_20 := w0_19.below hb16 (by omega)
    clear w0_19
    have bw0_20 := bw0_19.below hb16 (by first | exact bw0_19.lt | omega)
    clear bw0_19
    have bw0_20_l := bw0_20.lt
    have bxx0_20 := bxx0_19.below hb16 (by first | exact bxx0_19.lt | omega)
    clear bxx0_19
    have bxx0_20_l := bxx0_20.lt
    have bg0_20 := bg0_19.below hb16 (by first | exact bg0_19.lt | omega)
    clear bg0_19
    have bg0_20_l := bg0_20.lt
    have d0_20 := d0_19.below hb16 (by omega)
    clear d0_19
    have B_w21 := bthen B_w20 hb16
    have q97 : w21.cell? ⟨w.heap.size, 0, none⟩ = some (.int .i64 r.1) := bx0_20.cell 0
    have q98 : w21.cell? ⟨w.heap.size, 1, none⟩ = some (.slice A0 r.2.length c0) := bx0_20.cell 1
    have q99 : w21.cell? ⟨w5.heap.size, 0, none⟩ = some (.int .i64 R0.1) := bw0_20.cell 0
    have q100 : w21.cell? ⟨w5.heap.size, 1, none⟩ = some (.slice Q3_0 R0.2.length f3_0) := bw0_20.cell 1
    have q101 : w21.cell? ⟨w7.heap.size, 0, none⟩ = some (.int .i64 r.1) := bxx0_20.cell 0
    have q102 : w21.cell? ⟨w7.heap.size, 1, none⟩ = some (.slice P4 r.2.length d4) := bxx0_20.cell 1
    have q103 : w21.cell? ⟨w10.heap.size, 0, none⟩ = some (.int .i64 R0.1) := bg0_20.cell 0
    have q104 : w21.cell? ⟨w10.heap.size, 1, none⟩ = some (.slice Q6_0 R0.2.length f6_0) := bg0_20.cell 1
    go_wp2_with (fail)
    clear q97 q98 q99 q100 q101 q102 q103 q104
    refine (toIntS_any _ cs _ (H1.out.on B_w21) (by omega)).mono ?_
    rintro e w22 ⟨P17, d17, rfl, o17, hb17⟩
    have s_w22 := hb17.size
    have bx0_21 := bx0_20.below hb17 (by first | exact bx0_20.lt | omega)
    clear bx0_20
    have bx0_21_l := bx0_21.lt
    have w0_21 := w0_20.below hb17 (by omega)
    clear w0_20
    have bw0_21 := bw0_20.below hb17 (by first | exact bw0_20.lt | omega)
    clear bw0_20
    have bw0_21_l := bw0_21.lt
    have bxx0_21 := bxx0_20.below hb17 (by first | exact bxx0_20.lt | omega)
    clear bxx0_20
    have bxx0_21_l := bxx0_21.lt
    have bg0_21 := bg0_20.below hb17 (by first | exact bg0_20.lt | omega)
    clear bg0_20
    have bg0_21_l := bg0_21.lt
    have d0_21 := d0_20.below hb17 (by omega)
    clear d0_20
    have th0_21 := o16.below hb17 (by omega)
    clear o16
    have B_w22 := bthen B_w21 hb17
    have q105 : w22.cell? ⟨w.heap.size, 0, none⟩ = some (.int .i64 r.1) := bx0_21.cell 0
    have q106 : w22.cell? ⟨w.heap.size, 1, none⟩ = some (.slice A0 r.2.length c0) := bx0_21.cell 1
    have q107 : w22.cell? ⟨w5.heap.size, 0, none⟩ = some (.int .i64 R0.1) := bw0_21.cell 0
    have q108 : w22.cell? ⟨w5.heap.size, 1, none⟩ = some (.slice Q3_0 R0.2.length f3_0) := bw0_21.cell 1
    have q109 : w22.cell? ⟨w7.heap.size, 0, none⟩ = some (.int .i64 r.1) := bxx0_21.cell 0
    have q110 : w22.cell? ⟨w7.heap.size, 1, none⟩ = some (.slice P4 r.2.length d4) := bxx0_21.cell 1
    have q111 : w22.cell? ⟨w10.heap.size, 0, none⟩ = some (.int .i64 R0.1) := bg0_21.cell 0
    have q112 : w22.cell? ⟨w10.heap.size, 1, none⟩ = some (.slice Q6_0 R0.2.length f6_0) := bg0_21.cell 1
    go_wp2_with (fail)
    clear q105 q106 q107 q108 q109 q110 q111 q112
    refine (implRelTake_any _ _ r cs _ rfl _ ⟨_, rfl, th0_21.rd.more (by omega)⟩ (o17.rd.more (by omega)) (by omega) (by omega)).mono ?_
    rw [← HR0.out]
    rintro e w23 ⟨Q18_0, f18_0, rfl, o18_0, hb18⟩
    have s_w23 := hb18.size
    have bx0_22 := bx0_21.below hb18 (by first | exact bx0_21.lt | omega)
    clear bx0_21
    have bx0_22_l := bx0_22.lt
    have w0_22 := w0_21.below hb18 (by omega)
    clear w0_21
    have bw0_22 := bw0_21.below hb18 (by first | exact bw0_21.lt | omega)
    clear bw0_21
    have bw0_22_l := bw0_22.lt
    have bxx0_22 := bxx0_21.below hb18 (by first | exact bxx0_21.lt | omega)
    clear bxx0_21
    have bxx0_22_l := bxx0_22.lt
    have bg0_22 := bg0_21.below hb18 (by first | exact bg0_21.lt | omega)
    clear bg0_21
    have bg0_22_l := bg0_22.lt
    have d0_22 := d0_21.below hb18 (by omega)
    clear d0_21
    have th0_22 := th0_21.below hb18 (by omega)
    clear th0_21
    have th1_22 := o17.below hb18 (by omega)
    clear o17
    have B_w23 := bthen B_w22 hb18
    have q113 : w23.cell? ⟨w.heap.size, 0, none⟩ = some (.int .i64 r.1) := bx0_22.cell 0
    have q114 : w23.cell? ⟨w.heap.size, 1, none⟩ = some (.slice A0 r.2.length c0) := bx0_22.cell 1
    have q115 : w23.cell? ⟨w5.heap.size, 0, none⟩ = some (.int .i64 R0.1) := bw0_22.cell 0
    have q116 : w23.cell? ⟨w5.heap.size, 1, none⟩ = some (.slice Q3_0 R0.2.length f3_0) := bw0_22.cell 1
    have q117 : w23.cell? ⟨w7.heap.size, 0, none⟩ = some (.int .i64 r.1) := bxx0_22.cell 0
    have q118 : w23.cell? ⟨w7.heap.size, 1, none⟩ = some (.slice P4 r.2.length d4) := bxx0_22.cell 1
    have q119 : w23.cell? ⟨w10.heap.size, 0, none⟩ = some (.int .i64 R0.1) := bg0_22.cell 0
    have q120 : w23.cell? ⟨w10.heap.size, 1, none⟩ = some (.slice Q6_0 R0.2.length f6_0) := bg0_22.cell 1
    go_wp2_with (fail)
    clear q113 q114 q115 q116 q117 q118 q119 q120
    obtain ⟨w24, hw_w24⟩ : ∃ W', W' = w23.alloc (Obj.cells #[Value.int IntKind.i64 R0.1, Value.slice Q18_0 R0.2.length f18_0] 27) := ⟨_, rfl⟩
    rw [← hw_w24]
    have hb_w24 : Below w23.heap.size w23 w24 := by rw [hw_w24]; exact below1 _ _
    have bh0_n : Blk w24 w23.heap.size 27 #[.int .i64 R0.1, .slice Q18_0 R0.2.length f18_0] := by rw [hw_w24]; exact Blk.new _ _ _
    have bh0_nl := bh0_n.lt
    clear hw_w24
    have s_w24 := hb_w24.size
    have bx0_23 := bx0_22.below hb_w24 (by first | exact bx0_22.lt | omega)
    clear bx0_22
    have bx0_23_l := bx0_23.lt
    have w0_23 := w0_22.below hb_w24 (by omega)
    clear w0_22
    have bw0_23 := bw0_22.below hb_w24 (by first | exact bw0_22.lt | omega)
    clear bw0_22
    have bw0_23_l := bw0_23.lt
    have bxx0_23 := bxx0_22.below hb_w24 (by first | exact bxx0_22.lt | omega)
    clear bxx0_22
    have bxx0_23_l := bxx0_23.lt
    have bg0_23 := bg0_22.below hb_w24 (by first | exact bg0_22.lt | omega)
    clear bg0_22
    have bg0_23_l := bg0_23.lt
    have d0_23 := d0_22.below hb_w24 (by omega)
    clear d0_22
    have h0_23 := o18_0.below hb_w24 (by omega)
    clear o18_0
    have B_w24 := bthen B_w23 hb_w24
    refine (eqRel_any _ _ R0 R0 _ ⟨_, rfl, h0_23.rd.more (by omega)⟩ ⟨_, rfl, w0_23.rd.more (by omega)⟩ rfl (by omega)).mono ?_
    rintro e w25 ⟨rfl, hb19⟩
    rw [show decide (R0 = R0) = true by simp]
    have s_w25 := hb19.size
    have bx0_24 := bx0_23.below hb19 (by first | exact bx0_23.lt | omega)
    clear bx0_23
    have bx0_24_l := bx0_24.lt
    have w0_24 := w0_23.below hb19 (by omega)
    clear w0_23
    have bw0_24 := bw0_23.below hb19 (by first | exact bw0_23.lt | omega)
    clear bw0_23
    have bw0_24_l := bw0_24.lt
    have bxx0_24 := bxx0_23.below hb19 (by first | exact bxx0_23.lt | omega)
    clear bxx0_23
    have bxx0_24_l := bxx0_24.lt
    have bg0_24 := bg0_23.below hb19 (by first | exact bg0_23.lt | omega)
    clear bg0_23
    have bg0_24_l := bg0_24.lt
    have d0_24 := d0_23.below hb19 (by omega)
    clear d0_23
    have h0_24 := h0_23.below hb19 (by omega)
    clear h0_23
    have bh0_24 := bh0_n.below hb19 (by first | exact bh0_n.lt | omega)
    clear bh0_n
    have bh0_24_l := bh0_24.lt
    have B_w25 := bthen B_w24 hb19
    have q121 : w25.cell? ⟨w.heap.size, 0, none⟩ = some (.int .i64 r.1) := bx0_24.cell 0
    have q122 : w25.cell? ⟨w.heap.size, 1, none⟩ = some (.slice A0 r.2.length c0) := bx0_24.cell 1
    have q123 : w25.cell? ⟨w5.heap.size, 0, none⟩ = some (.int .i64 R0.1) := bw0_24.cell 0
    have q124 : w25.cell? ⟨w5.heap.size, 1, none⟩ = some (.slice Q3_0 R0.2.length f3_0) := bw0_24.cell 1
    have q125 : w25.cell? ⟨w7.heap.size, 0, none⟩ = some (.int .i64 r.1) := bxx0_24.cell 0
    have q126 : w25.cell? ⟨w7.heap.size, 1, none⟩ = some (.slice P4 r.2.length d4) := bxx0_24.cell 1
    have q127 : w25.cell? ⟨w10.heap.size, 0, none⟩ = some (.int .i64 R0.1) := bg0_24.cell 0
    have q128 : w25.cell? ⟨w10.heap.size, 1, none⟩ = some (.slice Q6_0 R0.2.length f6_0) := bg0_24.cell 1
    have q129 : w25.cell? ⟨w23.heap.size, 0, none⟩ = some (.int .i64 R0.1) := bh0_24.cell 0
    have q130 : w25.cell? ⟨w23.heap.size, 1, none⟩ = some (.slice Q18_0 R0.2.length f18_0) := bh0_24.cell 1
    go_wp2_with (fail)
    clear q121 q122 q123 q124 q125 q126 q127 q128 q129 q130
    refine (uh_rel d0_24 (by omega)).mono ?_
    rintro e w26 ⟨rfl, hb20⟩
    have s_w26 := hb20.size
    have bx0_25 := bx0_24.below hb20 (by first | exact bx0_24.lt | omega)
    clear bx0_24
    have bx0_25_l := bx0_25.lt
    have w0_25 := w0_24.below hb20 (by omega)
    clear w0_24
    have bw0_25 := bw0_24.below hb20 (by first | exact bw0_24.lt | omega)
    clear bw0_24
    have bw0_25_l := bw0_25.lt
    have bxx0_25 := bxx0_24.below hb20 (by first | exact bxx0_24.lt | omega)
    clear bxx0_24
    have bxx0_25_l := bxx0_25.lt
    have bg0_25 := bg0_24.below hb20 (by first | exact bg0_24.lt | omega)
    clear bg0_24
    have bg0_25_l := bg0_25.lt
    have d0_25 := d0_24.below hb20 (by omega)
    clear d0_24
    have h0_25 := h0_24.below hb20 (by omega)
    clear h0_24
    have bh0_25 := bh0_24.below hb20 (by first | exact bh0_24.lt | omega)
    clear bh0_24
    have bh0_25_l := bh0_25.lt
    have B_w26 := bthen B_w25 hb20
    have q131 : w26.cell? ⟨w.heap.size, 0, none⟩ = some (.int .i64 r.1) := bx0_25.cell 0
    have q132 : w26.cell? ⟨w.heap.size, 1, none⟩ = some (.slice A0 r.2.length c0) := bx0_25.cell 1
    have q133 : w26.cell? ⟨w5.heap.size, 0, none⟩ = some (.int .i64 R0.1) := bw0_25.cell 0
    have q134 : w26.cell? ⟨w5.heap.size, 1, none⟩ = some (.slice Q3_0 R0.2.length f3_0) := bw0_25.cell 1
    have q135 : w26.cell? ⟨w7.heap.size, 0, none⟩ = some (.int .i64 r.1) := bxx0_25.cell 0
    have q136 : w26.cell? ⟨w7.heap.size, 1, none⟩ = some (.slice P4 r.2.length d4) := bxx0_25.cell 1
    have q137 : w26.cell? ⟨w10.heap.size, 0, none⟩ = some (.int .i64 R0.1) := bg0_25.cell 0
    have q138 : w26.cell? ⟨w10.heap.size, 1, none⟩ = some (.slice Q6_0 R0.2.length f6_0) := bg0_25.cell 1
    have q139 : w26.cell? ⟨w23.heap.size, 0, none⟩ = some (.int .i64 R0.1) := bh0_25.cell 0
    have q140 : w26.cell? ⟨w23.heap.size, 1, none⟩ = some (.slice Q18_0 R0.2.length f18_0) := bh0_25.cell 1
    go_wp2_with (fail)
    clear q131 q132 q133 q134 q135 q136 q137 q138 q139 q140
    go_ret
    exact ⟨rfl, B_w26⟩

theorem lawRelTake_in (v0 : Value) (v1 : Value) (r : LRel) (cs : List Int) (w : World) (h0 : InRel w v0 r) (h1 : InInts w v1 cs) : Calls Try.prog 7 #[v0, v1] w fun e w' => e = .returned (.bool true) ∧ Below w.heap.size w w' :=
  lawRelTake_any v0 v1 r cs w h0.1 h1.1 h0.2.1 h0.2.2

end Go.Proofs.Ytchincemlilnoaa
namespace Go.Proofs.Ytchincemlilnoaa
open Go.ChangeShapes Go.WideShapes Go.ChangeAt Go.RowKit

set_option maxRecDepth 100000 in
theorem fnExactRelTake_lifted (os : Os) (started : os.Started) (H : Type) (enc : TypeId × Value → H) :
    ReturnsInHanded {} Try.checked os 7 .any (Rows.fnExactRelTakeSpec.pre6 enc Try.prog Try.f7 Rows.fnExactRelTakeRow.domain false) (Rows.fnExactRelTakeSpec.post enc Try.prog Try.f7 false true false false) := by
  refine returnsInHanded_of_change (C := Try.checked) Try.own started (by kernel_rfl) Try.func7
    (ChangeSpec.witness6 (enc := enc) (C := Try.checked) false ⟨#[], #[.agg #[.int .i64 0, .slice none 0 0], .slice none 0 0], []⟩ 8 (by kernel_rfl) (by kernel_rfl) (by kernel_rfl) (by kernel_rfl)) ?_
  intro W base args ds gs before hval0 hW hcnd _
  have hval : ∀ (j : Nat) t v, Try.f7.params[j]? = some t → args[j]? = some v → Value.okWide Try.prog W .any base t v := hval0
  have hW' := hW
  obtain ⟨p, q, hA0, hV, rfl, hfz, hnd⟩ := hW
  have hA : DataW.TrodAll enc Try.prog W 0 (fun _ => true) true Try.f7.params.toList args.toList ds p := hA0
  rw [Try.params7] at hA hval
  obtain ⟨v0, vs0, d0, ds0, p0, q0, hargs, rfl, rfl, h0, r0⟩ := trodAll_cons hA
  obtain ⟨v1, vs1, d1, ds1, p1, q1, rfl, rfl, rfl, h1, r1⟩ := trodAll_cons r0
  obtain ⟨rfl, rfl, rfl⟩ := trodAll_nil r1
  obtain rfl : args = #[v0, v1] := by cases args; simp_all
  obtain ⟨rfl, rfl⟩ := trodVars_none hV
  have lt0 : ∀ x ∈ p0, x.block < W.heap.size := by obtain ⟨m, hm⟩ := h0; exact DataW.trod_lt m _ _ _ hm
  obtain ⟨x0, w0⟩ := open_inRel (hval 0 24 v0 rfl rfl) h0
  have lt1 : ∀ x ∈ p1, x.block < W.heap.size := by obtain ⟨m, hm⟩ := h1; exact DataW.trod_lt m _ _ _ hm
  obtain ⟨x1, w1⟩ := open_inInts (hval 1 42 v1 rfl rfl) h1
  clear hA0 hval0
  refine (lawRelTake_in v0 v1 x0 x1 W w0 w1).mono fun e W' ⟨he, bel⟩ => ?_
  subst he
  exact ⟨_, rfl, _, _, _, [], _, [], hW', trodAll_mk1 (shut_bool Try.underlying4 _), (trodAll_cons_mk (Below.trod Try.laidOut (by kernel_rfl) (of_decide_eq_true (by kernel_rfl)) h0 bel lt0) (trodAll_cons_mk (Below.trod Try.laidOut (by kernel_rfl) (of_decide_eq_true (by kernel_rfl)) h1 bel lt1) trodAll_mk0)), rfl, bel.frame _, fun h => by cases h⟩

theorem fnExactRelTake_holds : Rows.FnExactRelTakeSaid :=
  OpenClaim.holds_of_wide 7 Try.f7 rfl rfl rfl rfl rfl rfl rfl ⟨rfl, rfl, rfl, rfl, rfl⟩ rfl rfl rfl rfl rfl (by kernel_rfl) Try.func7 (by kernel_rfl)
    (of_decide_eq_true (by kernel_rfl)) (by unfold Func.isWrapper; rw [if_neg (of_decide_eq_false (by kernel_rfl))]; exact ⟨rfl, rfl⟩)
    (fun os started H enc _ => fnExactRelTake_lifted os started H enc)

end Go.Proofs.Ytchincemlilnoaa
