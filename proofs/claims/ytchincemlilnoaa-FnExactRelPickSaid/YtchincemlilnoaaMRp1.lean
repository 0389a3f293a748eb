/-
  The law FnExactRelPick: for every input the call returns true, and each argument reads behind it as it read before. Conditions: none but the row's own.
-/
import Derived.Test.YtchincemlilnoaaMRt4
import Derived.Test.YtchincemlilnoaaMRt5
import Derived.Deep.RegionHeld3
import Derived.Deep.DeepCutAuto
import Derived.Deep.RegionWith
import Derived.Test.YtchincemlilnoaaRows
/-
  The walk of the law on RelPick (written by wip/genlaw.py).
-/
namespace Go.Proofs.Ytchincemlilnoaa
open Go.RowKit

set_option maxHeartbeats 4000000 in
set_option maxRecDepth 100000 in
theorem lawRelPick_any (v0 : Value) (r : LRel) (col : Int) (cc : Int) (w : World) (h0 : RdRel w w.heap.size v0 r) (n0 : r.2.length ≤ maxLen) (m0 : ∀ k (h : k < r.2.length), r.2[k].length ≤ maxLen) :
    Calls Try.prog 5 #[v0, .int .i64 col, .int .i64 cc] w fun e w' => e = .returned (.bool true) ∧ Below w.heap.size w w' := by
  have H0 := Lib.hid h0
  obtain ⟨a0, rfl, A0, c0, rfl, hc0, _⟩ := h0
  go_enter Try.func5, Try.ntmps5
  go_wp2_with (fail)
  obtain ⟨w1, hw_w1⟩ : ∃ W', W' = w.alloc (Obj.cells #[Value.int IntKind.i64 r.1, Value.slice A0 r.2.length c0] 24) := ⟨_, rfl⟩
  rw [← hw_w1]
  have B_w1 : Below w.heap.size w w1 := by rw [hw_w1]; exact below1 _ _
  have bx0 : Blk w1 (w.heap.size + 0) 24 #[.int .i64 r.1, .slice A0 r.2.length c0] := by
    rw [hw_w1]
    have := (Blk.new w 24 #[.int .i64 r.1, .slice A0 r.2.length c0])
    simpa using this
  have bx0_l := bx0.lt
  rw [Nat.add_zero] at bx0 bx0_l
  have s_w1 := B_w1.size
  clear hw_w1
  refine (us_rel (H0.out.on B_w1) (by omega) (by omega) n0 m0).mono ?_
  rintro e w2 ⟨z0, rfl, hz0, hbz0⟩
  have s_w2 := hbz0.size
  have bx0_1 := bx0.below hbz0 (by first | exact bx0.lt | omega)
  clear bx0
  have bx0_1_l := bx0_1.lt
  have B_w2 := bthen B_w1 hbz0
  rcases hz0 with rfl | ⟨zp0, zs0⟩
  · go_wp2_with (fail)
    go_ret
    exact ⟨rfl, B_w2⟩
  have zn0 : ¬ z0 < 0 := by omega
  have r0 : szRows r.2 ≤ 1048576 := by omega
  have zl0 : z0 ≤ 1048576 := by omega
  have ZS0 := Lib.hid zs0
  clear zs0 zn0
  have zn0 : ¬ z0 < 0 := by omega
  obtain ⟨R0, hR0⟩ : ∃ R, R = pickR r col cc := ⟨_, rfl⟩
  have HR0 := Lib.hid hR0
  have HRs0 := Lib.hid (show szRows R0.2 ≤ 1048576 by rw [hR0]; exact Nat.le_trans (pickR_sz r col cc) (by omega))
  have R0s := HRs0.out
  clear hR0
  have q1 : w2.cell? ⟨w.heap.size, 0, none⟩ = some (.int .i64 r.1) := bx0_1.cell 0
  have q2 : w2.cell? ⟨w.heap.size, 1, none⟩ = some (.slice A0 r.2.length c0) := bx0_1.cell 1
  go_wp2_with (fail)
  clear q1 q2
  refine (toRel_any _ r _ (H0.out.on B_w2) (by omega)).mono ?_
  rintro e w3 ⟨P1, d1, rfl, o1, hb1⟩
  have s_w3 := hb1.size
  have bx0_2 := bx0_1.below hb1 (by first | exact bx0_1.lt | omega)
  clear bx0_1
  have bx0_2_l := bx0_2.lt
  have B_w3 := bthen B_w2 hb1
  have q3 : w3.cell? ⟨w.heap.size, 0, none⟩ = some (.int .i64 r.1) := bx0_2.cell 0
  have q4 : w3.cell? ⟨w.heap.size, 1, none⟩ = some (.slice A0 r.2.length c0) := bx0_2.cell 1
  go_wp2_with (fail)
  clear q3 q4
  refine (specRelPick_any _ r col cc _ rfl _ ⟨_, rfl, o1.rd.more (by omega)⟩ (by omega)).mono ?_
  rw [← HR0.out]
  rintro e w4 ⟨Q2_0, f2_0, rfl, o2_0, hb2⟩
  have s_w4 := hb2.size
  have bx0_3 := bx0_2.below hb2 (by first | exact bx0_2.lt | omega)
  clear bx0_2
  have bx0_3_l := bx0_3.lt
  have tw0_3 := o1.below hb2 (by omega)
  clear o1
  have B_w4 := bthen B_w3 hb2
  have q5 : w4.cell? ⟨w.heap.size, 0, none⟩ = some (.int .i64 r.1) := bx0_3.cell 0
  have q6 : w4.cell? ⟨w.heap.size, 1, none⟩ = some (.slice A0 r.2.length c0) := bx0_3.cell 1
  go_wp2_with (fail)
  clear q5 q6
  obtain ⟨w5, hw_w5⟩ : ∃ W', W' = w4.alloc (Obj.cells #[Value.int IntKind.i64 R0.1, Value.slice Q2_0 R0.2.length f2_0] 27) := ⟨_, rfl⟩
  rw [← hw_w5]
  have hb_w5 : Below w4.heap.size w4 w5 := by rw [hw_w5]; exact below1 _ _
  have bw0_n : Blk w5 w4.heap.size 27 #[.int .i64 R0.1, .slice Q2_0 R0.2.length f2_0] := by rw [hw_w5]; exact Blk.new _ _ _
  have bw0_nl := bw0_n.lt
  clear hw_w5
  have s_w5 := hb_w5.size
  have bx0_4 := bx0_3.below hb_w5 (by first | exact bx0_3.lt | omega)
  clear bx0_3
  have bx0_4_l := bx0_4.lt
  have w0_4 := o2_0.below hb_w5 (by omega)
  clear o2_0
  have B_w5 := bthen B_w4 hb_w5
  refine (toRel_any _ r _ (H0.out.on B_w5) (by omega)).mono ?_
  rintro e w6 ⟨P3, d3, rfl, o3, hb3⟩
  have s_w6 := hb3.size
  have bx0_5 := bx0_4.below hb3 (by first | exact bx0_4.lt | omega)
  clear bx0_4
  have bx0_5_l := bx0_5.lt
  have w0_5 := w0_4.below hb3 (by omega)
  clear w0_4
  have bw0_5 := bw0_n.below hb3 (by first | exact bw0_n.lt | omega)
  clear bw0_n
  have bw0_5_l := bw0_5.lt
  have B_w6 := bthen B_w5 hb3
  have q7 : w6.cell? ⟨w.heap.size, 0, none⟩ = some (.int .i64 r.1) := bx0_5.cell 0
  have q8 : w6.cell? ⟨w.heap.size, 1, none⟩ = some (.slice A0 r.2.length c0) := bx0_5.cell 1
  have q9 : w6.cell? ⟨w4.heap.size, 0, none⟩ = some (.int .i64 R0.1) := bw0_5.cell 0
  have q10 : w6.cell? ⟨w4.heap.size, 1, none⟩ = some (.slice Q2_0 R0.2.length f2_0) := bw0_5.cell 1
  go_wp2_with (fail)
  clear q7 q8 q9 q10
  obtain ⟨w7, hw_w7⟩ : ∃ W', W' = w6.alloc (Obj.cells #[Value.int IntKind.i64 r.1, Value.slice P3 r.2.length d3] 27) := ⟨_, rfl⟩
  rw [← hw_w7]
  have hb_w7 : Below w6.heap.size w6 w7 := by rw [hw_w7]; exact below1 _ _
  have bxx0_n : Blk w7 w6.heap.size 27 #[.int .i64 r.1, .slice P3 r.2.length d3] := by rw [hw_w7]; exact Blk.new _ _ _
  have bxx0_nl := bxx0_n.lt
  clear hw_w7
  have s_w7 := hb_w7.size
  have bx0_6 := bx0_5.below hb_w7 (by first | exact bx0_5.lt | omega)
  clear bx0_5
  have bx0_6_l := bx0_6.lt
  have w0_6 := w0_5.below hb_w7 (by omega)
  clear w0_5
  have bw0_6 := bw0_5.below hb_w7 (by first | exact bw0_5.lt | omega)
  clear bw0_5
  have bw0_6_l := bw0_6.lt
  have x0_6 := o3.below hb_w7 (by omega)
  clear o3
  have B_w7 := bthen B_w6 hb_w7
  refine (implRelPick_any _ r col cc _ rfl _ ⟨_, rfl, x0_6.rd.more (by omega)⟩ (by omega)).mono ?_
  rw [← HR0.out]
  rintro e w8 ⟨Q4_0, f4_0, rfl, o4_0, hb4⟩
  have s_w8 := hb4.size
  have bx0_7 := bx0_6.below hb4 (by first | exact bx0_6.lt | omega)
  clear bx0_6
  have bx0_7_l := bx0_7.lt
  have w0_7 := w0_6.below hb4 (by omega)
  clear w0_6
  have bw0_7 := bw0_6.below hb4 (by first | exact bw0_6.lt | omega)
  clear bw0_6
  have bw0_7_l := bw0_7.lt
  have x0_7 := x0_6.below hb4 (by omega)
  clear x0_6
  have bxx0_7 := bxx0_n.below hb4 (by first | exact bxx0_n.lt | omega)
  clear bxx0_n
  have bxx0_7_l := bxx0_7.lt
  have B_w8 := bthen B_w7 hb4
  have q11 : w8.cell? ⟨w.heap.size, 0, none⟩ = some (.int .i64 r.1) := bx0_7.cell 0
  have q12 : w8.cell? ⟨w.heap.size, 1, none⟩ = some (.slice A0 r.2.length c0) := bx0_7.cell 1
  have q13 : w8.cell? ⟨w4.heap.size, 0, none⟩ = some (.int .i64 R0.1) := bw0_7.cell 0
  have q14 : w8.cell? ⟨w4.heap.size, 1, none⟩ = some (.slice Q2_0 R0.2.length f2_0) := bw0_7.cell 1
  have q15 : w8.cell? ⟨w6.heap.size, 0, none⟩ = some (.int .i64 r.1) := bxx0_7.cell 0
  have q16 : w8.cell? ⟨w6.heap.size, 1, none⟩ = some (.slice P3 r.2.length d3) := bxx0_7.cell 1
  go_wp2_with (fail)
  clear q11 q12 q13 q14 q15 q16
  obtain ⟨w9, hw_w9⟩ : ∃ W', W' = w8.alloc (Obj.cells #[Value.int IntKind.i64 R0.1, Value.slice Q4_0 R0.2.length f4_0] 27) := ⟨_, rfl⟩
  rw [← hw_w9]
  have hb_w9 : Below w8.heap.size w8 w9 := by rw [hw_w9]; exact below1 _ _
  have bg0_n : Blk w9 w8.heap.size 27 #[.int .i64 R0.1, .slice Q4_0 R0.2.length f4_0] := by rw [hw_w9]; exact Blk.new _ _ _
  have bg0_nl := bg0_n.lt
  clear hw_w9
  have s_w9 := hb_w9.size
  have bx0_8 := bx0_7.below hb_w9 (by first | exact bx0_7.lt | omega)
  clear bx0_7
  have bx0_8_l := bx0_8.lt
  have w0_8 := w0_7.below hb_w9 (by omega)
  clear w0_7
  have bw0_8 := bw0_7.below hb_w9 (by first | exact bw0_7.lt | omega)
  clear bw0_7
  have bw0_8_l := bw0_8.lt
  have x0_8 := x0_7.below hb_w9 (by omega)
  clear x0_7
  have bxx0_8 := bxx0_7.below hb_w9 (by first | exact bxx0_7.lt | omega)
  clear bxx0_7
  have bxx0_8_l := bxx0_8.lt
  have g0_8 := o4_0.below hb_w9 (by omega)
  clear o4_0
  have B_w9 := bthen B_w8 hb_w9
  refine (eqRel_any _ _ R0 R0 _ ⟨_, rfl, g0_8.rd.more (by omega)⟩ ⟨_, rfl, w0_8.rd.more (by omega)⟩ rfl (by omega)).mono ?_
  rintro e w10 ⟨rfl, hb5⟩
  rw [show decide (R0 = R0) = true by simp]
  have s_w10 := hb5.size
  have bx0_9 := bx0_8.below hb5 (by first | exact bx0_8.lt | omega)
  clear bx0_8
  have bx0_9_l := bx0_9.lt
  have w0_9 := w0_8.below hb5 (by omega)
  clear w0_8
  have bw0_9 := bw0_8.below hb5 (by first | exact bw0_8.lt | omega)
  clear bw0_8
  have bw0_9_l := bw0_9.lt
  have x0_9 := x0_8.below hb5 (by omega)
  clear x0_8
  have bxx0_9 := bxx0_8.below hb5 (by first | exact bxx0_8.lt | omega)
  clear bxx0_8
  have bxx0_9_l := bxx0_9.lt
  have g0_9 := g0_8.below hb5 (by omega)
  clear g0_8
  have bg0_9 := bg0_n.below hb5 (by first | exact bg0_n.lt | omega)
  clear bg0_n
  have bg0_9_l := bg0_9.lt
  have B_w10 := bthen B_w9 hb5
  have q17 : w10.cell? ⟨w.heap.size, 0, none⟩ = some (.int .i64 r.1) := bx0_9.cell 0
  have q18 : w10.cell? ⟨w.heap.size, 1, none⟩ = some (.slice A0 r.2.length c0) := bx0_9.cell 1
  have q19 : w10.cell? ⟨w4.heap.size, 0, none⟩ = some (.int .i64 R0.1) := bw0_9.cell 0
  have q20 : w10.cell? ⟨w4.heap.size, 1, none⟩ = some (.slice Q2_0 R0.2.length f2_0) := bw0_9.cell 1
  have q21 : w10.cell? ⟨w6.heap.size, 0, none⟩ = some (.int .i64 r.1) := bxx0_9.cell 0
  have q22 : w10.cell? ⟨w6.heap.size, 1, none⟩ = some (.slice P3 r.2.length d3) := bxx0_9.cell 1
  have q23 : w10.cell? ⟨w8.heap.size, 0, none⟩ = some (.int .i64 R0.1) := bg0_9.cell 0
  have q24 : w10.cell? ⟨w8.heap.size, 1, none⟩ = some (.slice Q4_0 R0.2.length f4_0) := bg0_9.cell 1
  go_upto_region 10 with fail
  clear q17 q18 q19 q20 q21 q22 q23 q24
  have HS_w10 := Lib.hid (show ∀ W, Below w10.heap.size w10 W → (Below w10.heap.size w10 W ∧ W.cell? ⟨w.heap.size, 0, none⟩ = some (.int .i64 r.1) ∧ W.cell? ⟨w.heap.size, 1, none⟩ = some (.slice A0 r.2.length c0) ∧ W.cell? ⟨w4.heap.size, 0, none⟩ = some (.int .i64 R0.1) ∧ W.cell? ⟨w4.heap.size, 1, none⟩ = some (.slice Q2_0 R0.2.length f2_0) ∧ W.cell? ⟨w6.heap.size, 0, none⟩ = some (.int .i64 r.1) ∧ W.cell? ⟨w6.heap.size, 1, none⟩ = some (.slice P3 r.2.length d3) ∧ W.cell? ⟨w8.heap.size, 0, none⟩ = some (.int .i64 R0.1) ∧ W.cell? ⟨w8.heap.size, 1, none⟩ = some (.slice Q4_0 R0.2.length f4_0)) from fun W hW => ⟨hW, (bx0_9.below hW bx0_9_l).cell 0, (bx0_9.below hW bx0_9_l).cell 1, (bw0_9.below hW bw0_9_l).cell 0, (bw0_9.below hW bw0_9_l).cell 1, (bxx0_9.below hW bxx0_9_l).cell 0, (bxx0_9.below hW bxx0_9_l).cell 1, (bg0_9.below hW bg0_9_l).cell 0, (bg0_9.below hW bg0_9_l).cell 1⟩)
  have RX_w10 := Lib.hid (show RdRel w10 w10.heap.size (.agg #[.int .i64 r.1, .slice P3 r.2.length d3]) r from ⟨_, rfl, x0_9.rd.more (by omega)⟩)
  go_cut [39] (fun s wx => s = .bool false ∧ Below w10.heap.size w10 wx)
  case first =>
    go_region_held3 (fun W => Below w10.heap.size w10 W ∧ W.cell? ⟨w.heap.size, 0, none⟩ = some (.int .i64 r.1) ∧ W.cell? ⟨w.heap.size, 1, none⟩ = some (.slice A0 r.2.length c0) ∧ W.cell? ⟨w4.heap.size, 0, none⟩ = some (.int .i64 R0.1) ∧ W.cell? ⟨w4.heap.size, 1, none⟩ = some (.slice Q2_0 R0.2.length f2_0) ∧ W.cell? ⟨w6.heap.size, 0, none⟩ = some (.int .i64 r.1) ∧ W.cell? ⟨w6.heap.size, 1, none⟩ = some (.slice P3 r.2.length d3) ∧ W.cell? ⟨w8.heap.size, 0, none⟩ = some (.int .i64 R0.1) ∧ W.cell? ⟨w8.heap.size, 1, none⟩ = some (.slice Q4_0 R0.2.length f4_0))
      (first | exact HS_w10.out _ (Below.refl _ _) | exact HS_w10.out _ (Below.refl _ _).drew | exact HS_w10.out _ (bthen (And.left (by assumption)) (by assumption)))
      (first
        | (go_at_call 15; refine (toRel_any _ r _ ?_ (by omega)).mono ?_; exact H0.out.on (bthen B_w10 (And.left (by assumption))); rintro e wf ⟨Af, cf, rfl, hof, hbf⟩)
        | (go_at_call 17; refine (eqRel_any _ _ r r _ ?_ ?_ rfl (by omega)).mono ?_; exact (RX_w10.out.on (And.left (by assumption))); exact ⟨_, rfl, hof.rd⟩; rw [show decide (r = r) = true by simp]; rintro e wg ⟨rfl, hbg⟩))
    all_goals (go_wp2_with fail; go_meet; exact ⟨rfl, And.left (by assumption)⟩)
  case rest =>
    obtain ⟨rfl, hb6⟩ := hcut
    clear HS_w10 RX_w10
    generalize wc = w11 at *
    have s_w11 := hb6.size
    have bx0_10 := bx0_9.below hb6 (by first | exact bx0_9.lt | omega)
    clear bx0_9
    have bx0_10_l := bx0_10.lt
    have w0_10 := w0_9.below hb6 (by omega)
    clear w0_9
    have bw0_10 := bw0_9.below hb6 (by first | exact bw0_9.lt | omega)
    clear bw0_9
    have bw0_10_l := bw0_10.lt
    have x0_10 := x0_9.below hb6 (by omega)
    clear x0_9
    have bxx0_10 := bxx0_9.below hb6 (by first | exact bxx0_9.lt | omega)
    clear bxx0_9
    have bxx0_10_l := bxx0_10.lt
    have g0_10 := g0_9.below hb6 (by omega)
    clear g0_9
    have bg0_10 := bg0_9.below hb6 (by first | exact bg0_9.lt | omega)
    clear bg0_9
    have bg0_10_l := bg0_10.lt
    have B_w11 := bthen B_w10 hb6
    have q25 : w11.cell? ⟨w.heap.size, 0, none⟩ = some (.int .i64 r.1) := bx0_10.cell 0
    have q26 : w11.cell? ⟨w.heap.size, 1, none⟩ = some (.slice A0 r.2.length c0) := bx0_10.cell 1
    have q27 : w11.cell? ⟨w4.heap.size, 0, none⟩ = some (.int .i64 R0.1) := bw0_10.cell 0
    have q28 : w11.cell? ⟨w4.heap.size, 1, none⟩ = some (.slice Q2_0 R0.2.length f2_0) := bw0_10.cell 1
    have q29 : w11.cell? ⟨w6.heap.size, 0, none⟩ = some (.int .i64 r.1) := bxx0_10.cell 0
    have q30 : w11.cell? ⟨w6.heap.size, 1, none⟩ = some (.slice P3 r.2.length d3) := bxx0_10.cell 1
    have q31 : w11.cell? ⟨w8.heap.size, 0, none⟩ = some (.int .i64 R0.1) := bg0_10.cell 0
    have q32 : w11.cell? ⟨w8.heap.size, 1, none⟩ = some (.slice Q4_0 R0.2.length f4_0) := bg0_10.cell 1
    go_wp2_with (fail)
    clear q25 q26 q27 q28 q29 q30 q31 q32
    refine (um_rel 1 x0_10 (by omega) (by omega) (by omega) (by omega)).mono ?_
    rintro e w12 ⟨k7, rfl, ka7, kb7, _, on7⟩
    have s_w12 := on7.size
    have bx0_11 := bx0_10.only on7 (by first | exact .inl (by omega) | exact .inr (by omega))
    clear bx0_10
    have bx0_11_l := bx0_11.lt
    have w0_11 := w0_10.only on7 (by first | exact .inl (by omega) | exact .inr (by omega))
    clear w0_10
    have bw0_11 := bw0_10.only on7 (by first | exact .inl (by omega) | exact .inr (by omega))
    clear bw0_10
    have bw0_11_l := bw0_11.lt
    have bxx0_11 := bxx0_10.only on7 (by first | exact .inl (by omega) | exact .inr (by omega))
    clear bxx0_10
    have bxx0_11_l := bxx0_11.lt
    have g0_11 := g0_10.only on7 (by first | exact .inl (by omega) | exact .inr (by omega))
    clear g0_10
    have bg0_11 := bg0_10.only on7 (by first | exact .inl (by omega) | exact .inr (by omega))
    clear bg0_10
    have bg0_11_l := bg0_11.lt
    have B_w12 := Only.then_ B_w11 on7 (by omega)
    have kn : ¬ k7 < 0 := by omega
    have kd : decide (k7 < 0) = false := by simp; omega
    have q33 : w12.cell? ⟨w.heap.size, 0, none⟩ = some (.int .i64 r.1) := bx0_11.cell 0
    have q34 : w12.cell? ⟨w.heap.size, 1, none⟩ = some (.slice A0 r.2.length c0) := bx0_11.cell 1
    have q35 : w12.cell? ⟨w4.heap.size, 0, none⟩ = some (.int .i64 R0.1) := bw0_11.cell 0
    have q36 : w12.cell? ⟨w4.heap.size, 1, none⟩ = some (.slice Q2_0 R0.2.length f2_0) := bw0_11.cell 1
    have q37 : w12.cell? ⟨w6.heap.size, 0, none⟩ = some (.int .i64 r.1) := bxx0_11.cell 0
    have q38 : w12.cell? ⟨w6.heap.size, 1, none⟩ = some (.slice P3 r.2.length d3) := bxx0_11.cell 1
    have q39 : w12.cell? ⟨w8.heap.size, 0, none⟩ = some (.int .i64 R0.1) := bg0_11.cell 0
    have q40 : w12.cell? ⟨w8.heap.size, 1, none⟩ = some (.slice Q4_0 R0.2.length f4_0) := bg0_11.cell 1
    go_wp2_with (fail)
    clear q33 q34 q35 q36 q37 q38 q39 q40
    refine (eqRel_any _ _ R0 R0 _ ⟨_, rfl, g0_11.rd.more (by omega)⟩ ⟨_, rfl, w0_11.rd.more (by omega)⟩ rfl (by omega)).mono ?_
    rintro e w13 ⟨rfl, hb8⟩
    rw [show decide (R0 = R0) = true by simp]
    have s_w13 := hb8.size
    have bx0_12 := bx0_11.below hb8 (by first | exact bx0_11.lt | omega)
    clear bx0_11
    have bx0_12_l := bx0_12.lt
    have w0_12 := w0_11.below hb8 (by omega)
    clear w0_11
    have bw0_12 := bw0_11.below hb8 (by first | exact bw0_11.lt | omega)
    clear bw0_11
    have bw0_12_l := bw0_12.lt
    have bxx0_12 := bxx0_11.below hb8 (by first | exact bxx0_11.lt | omega)
    clear bxx0_11
    have bxx0_12_l := bxx0_12.lt
    have g0_12 := g0_11.below hb8 (by omega)
    clear g0_11
    have bg0_12 := bg0_11.below hb8 (by first | exact bg0_11.lt | omega)
    clear bg0_11
    have bg0_12_l := bg0_12.lt
    have B_w13 := bthen B_w12 hb8
    have q41 : w13.cell? ⟨w.heap.size, 0, none⟩ = some (.int .i64 r.1) := bx0_12.cell 0
    have q42 : w13.cell? ⟨w.heap.size, 1, none⟩ = some (.slice A0 r.2.length c0) := bx0_12.cell 1
    have q43 : w13.cell? ⟨w4.heap.size, 0, none⟩ = some (.int .i64 R0.1) := bw0_12.cell 0
    have q44 : w13.cell? ⟨w4.heap.size, 1, none⟩ = some (.slice Q2_0 R0.2.length f2_0) := bw0_12.cell 1
    have q45 : w13.cell? ⟨w6.heap.size, 0, none⟩ = some (.int .i64 r.1) := bxx0_12.cell 0
    have q46 : w13.cell? ⟨w6.heap.size, 1, none⟩ = some (.slice P3 r.2.length d3) := bxx0_12.cell 1
    have q47 : w13.cell? ⟨w8.heap.size, 0, none⟩ = some (.int .i64 R0.1) := bg0_12.cell 0
    have q48 : w13.cell? ⟨w8.heap.size, 1, none⟩ = some (.slice Q4_0 R0.2.length f4_0) := bg0_12.cell 1
    go_wp2_with (fail)
    clear q41 q42 q43 q44 q45 q46 q47 q48
    refine (um_rel 1 g0_12 (by omega) (by omega) (by omega) (by have := HRs0.out; omega)).mono ?_
    rintro e w14 ⟨m9, rfl, ma9, mb9, hd9, on9⟩
    have mb9' := HRs0.out
    have s_w14 := on9.size
    have bx0_13 := bx0_12.only on9 (by first | exact .inl (by omega) | exact .inr (by omega))
    clear bx0_12
    have bx0_13_l := bx0_13.lt
    have w0_13 := w0_12.only on9 (by first | exact .inl (by omega) | exact .inr (by omega))
    clear w0_12
    have bw0_13 := bw0_12.only on9 (by first | exact .inl (by omega) | exact .inr (by omega))
    clear bw0_12
    have bw0_13_l := bw0_13.lt
    have bxx0_13 := bxx0_12.only on9 (by first | exact .inl (by omega) | exact .inr (by omega))
    clear bxx0_12
    have bxx0_13_l := bxx0_13.lt
    have bg0_13 := bg0_12.only on9 (by first | exact .inl (by omega) | exact .inr (by omega))
    clear bg0_12
    have bg0_13_l := bg0_13.lt
    have B_w14 := Only.then_ B_w13 on9 (by omega)
    have mn : ¬ m9 < 0 := by omega
    have me : (m9 != m9) = false := by simp
    have q49 : w14.cell? ⟨w.heap.size, 0, none⟩ = some (.int .i64 r.1) := bx0_13.cell 0
    have q50 : w14.cell? ⟨w.heap.size, 1, none⟩ = some (.slice A0 r.2.length c0) := bx0_13.cell 1
    have q51 : w14.cell? ⟨w4.heap.size, 0, none⟩ = some (.int .i64 R0.1) := bw0_13.cell 0
    have q52 : w14.cell? ⟨w4.heap.size, 1, none⟩ = some (.slice Q2_0 R0.2.length f2_0) := bw0_13.cell 1
    have q53 : w14.cell? ⟨w6.heap.size, 0, none⟩ = some (.int .i64 r.1) := bxx0_13.cell 0
    have q54 : w14.cell? ⟨w6.heap.size, 1, none⟩ = some (.slice P3 r.2.length d3) := bxx0_13.cell 1
    have q55 : w14.cell? ⟨w8.heap.size, 0, none⟩ = some (.int .i64 R0.1) := bg0_13.cell 0
    have q56 : w14.cell? ⟨w8.heap.size, 1, none⟩ = some (.slice Q4_0 R0.2.length f4_0) := bg0_13.cell 1
    go_wp2_with (fail)
    clear q49 q50 q51 q52 q53 q54 q55 q56
    refine (uh_rel hd9 (by omega)).mono ?_
    rintro e w15 ⟨rfl, hb10⟩
    have s_w15 := hb10.size
    have bx0_14 := bx0_13.below hb10 (by first | exact bx0_13.lt | omega)
    clear bx0_13
    have bx0_14_l := bx0_14.lt
    have w0_14 := w0_13.below hb10 (by omega)
    clear w0_13
    have bw0_14 := bw0_13.below hb10 (by first | exact bw0_13.lt | omega)
    clear bw0_13
    have bw0_14_l := bw0_14.lt
    have bxx0_14 := bxx0_13.below hb10 (by first | exact bxx0_13.lt | omega)
    clear bxx0_13
    have bxx0_14_l := bxx0_14.lt
    have bg0_14 := bg0_13.below hb10 (by first | exact bg0_13.lt | omega)
    clear bg0_13
    have bg0_14_l := bg0_14.lt
    have d0_14 := hd9.below hb10 (by omega)
    clear hd9
    have B_w15 := bthen B_w14 hb10
    have q57 : w15.cell? ⟨w.heap.size, 0, none⟩ = some (.int .i64 r.1) := bx0_14.cell 0
    have q58 : w15.cell? ⟨w.heap.size, 1, none⟩ = some (.slice A0 r.2.length c0) := bx0_14.cell 1
    have q59 : w15.cell? ⟨w4.heap.size, 0, none⟩ = some (.int .i64 R0.1) := bw0_14.cell 0
    have q60 : w15.cell? ⟨w4.heap.size, 1, none⟩ = some (.slice Q2_0 R0.2.length f2_0) := bw0_14.cell 1
    have q61 : w15.cell? ⟨w6.heap.size, 0, none⟩ = some (.int .i64 r.1) := bxx0_14.cell 0
    have q62 : w15.cell? ⟨w6.heap.size, 1, none⟩ = some (.slice P3 r.2.length d3) := bxx0_14.cell 1
    have q63 : w15.cell? ⟨w8.heap.size, 0, none⟩ = some (.int .i64 R0.1) := bg0_14.cell 0
    have q64 : w15.cell? ⟨w8.heap.size, 1, none⟩ = some (.slice Q4_0 R0.2.length f4_0) := bg0_14.cell 1
    go_wp2_with (fail)
    clear q57 q58 q59 q60 q61 q62 q63 q64
    refine (toRel_any _ r _ (H0.out.on B_w15) (by omega)).mono ?_
    rintro e w16 ⟨P11, d11, rfl, o11, hb11⟩
    have s_w16 := hb11.size
    have bx0_15 := bx0_14.below hb11 (by first | exact bx0_14.lt | omega)
    clear bx0_14
    have bx0_15_l := bx0_15.lt
    have w0_15 := w0_14.below hb11 (by omega)
    clear w0_14
    have bw0_15 := bw0_14.below hb11 (by first | exact bw0_14.lt | omega)
    clear bw0_14
    have bw0_15_l := bw0_15.lt
    have bxx0_15 := bxx0_14.below hb11 (by first | exact bxx0_14.lt | omega)
    clear bxx0_14
    have bxx0_15_l := bxx0_15.lt
    have bg0_15 := bg0_14.below hb11 (by first | exact bg0_14.lt | omega)
    clear bg0_14
    have bg0_15_l := bg0_15.lt
    have d0_15 := d0_14.below hb11 (by omega)
    clear d0_14
    have B_w16 := bthen B_w15 hb11
    have q65 : w16.cell? ⟨w.heap.size, 0, none⟩ = some (.int .i64 r.1) := bx0_15.cell 0
    have q66 : w16.cell? ⟨w.heap.size, 1, none⟩ = some (.slice A0 r.2.length c0) := bx0_15.cell 1
    have q67 : w16.cell? ⟨w4.heap.size, 0, none⟩ = some (.int .i64 R0.1) := bw0_15.cell 0
    have q68 : w16.cell? ⟨w4.heap.size, 1, none⟩ = some (.slice Q2_0 R0.2.length f2_0) := bw0_15.cell 1
    have q69 : w16.cell? ⟨w6.heap.size, 0, none⟩ = some (.int .i64 r.1) := bxx0_15.cell 0
    have q70 : w16.cell? ⟨w6.heap.size, 1, none⟩ = some (.slice P3 r.2.length d3) := bxx0_15.cell 1
    have q71 : w16.cell? ⟨w8.heap.size, 0, none⟩ = some (.int .i64 R0.1) := bg0_15.cell 0
    have q72 : w16.cell? ⟨w8.heap.size, 1, none⟩ = some (.slice Q4_0 R0.2.length f4_0) := bg0_15.cell 1
    go_wp2_with (fail)
    clear q65 q66 q67 q68 q69 q70 q71 q72
    refine (implRelPick_any _ r col cc _ rfl _ ⟨_, rfl, o11.rd.more (by omega)⟩ (by omega)).mono ?_
    rw [← HR0.out]
    rintro e w17 ⟨Q12_0, f12_0, rfl, o12_0, hb12⟩
    have s_w17 := hb12.size
    have bx0_16 := bx0_15.below hb12 (by first | exact bx0_15.lt | omega)
    clear bx0_15
    have bx0_16_l := bx0_16.lt
    have w0_16 := w0_15.below hb12 (by omega)
    clear w0_15
    have bw0_16 := bw0_15.below hb12 (by first | exact bw0_15.lt | omega)
    clear bw0_15
    have bw0_16_l := bw0_16.lt
    have bxx0_16 := bxx0_15.below hb12 (by first | exact bxx0_15.lt | omega)
    clear bxx0_15
    have bxx0_16_l := bxx0_16.lt
    have bg0_16 := bg0_15.below hb12 (by first | exact bg0_15.lt | omega)
    clear bg0_15
    have bg0_16_l := bg0_16.lt
    have d0_16 := d0_15.below hb12 (by omega)
    clear d0_15
    have th0_16 := o11.below hb12 (by omega)
    clear o11
    have B_w17 := bthen B_w16 hb12
    have q73 : w17.cell? ⟨w.heap.size, 0, none⟩ = some (.int .i64 r.1) := bx0_16.cell 0
    have q74 : w17.cell? ⟨w.heap.size, 1, none⟩ = some (.slice A0 r.2.length c0) := bx0_16.cell 1
    have q75 : w17.cell? ⟨w4.heap.size, 0, none⟩ = some (.int .i64 R0.1) := bw0_16.cell 0
    have q76 : w17.cell? ⟨w4.heap.size, 1, none⟩ = some (.slice Q2_0 R0.2.length f2_0) := bw0_16.cell 1
    have q77 : w17.cell? ⟨w6.heap.size, 0, none⟩ = some (.int .i64 r.1) := bxx0_16.cell 0
    have q78 : w17.cell? ⟨w6.heap.size, 1, none⟩ = some (.slice P3 r.2.length d3) := bxx0_16.cell 1
    have q79 : w17.cell? ⟨w8.heap.size, 0, none⟩ = some (.int .i64 R0.1) := bg0_16.cell 0
    have q80 : w17.cell? ⟨w8.heap.size, 1, none⟩ = some (.slice Q4_0 R0.2.length f4_0) := bg0_16.cell 1
    go_wp2_with (fail)
    clear q73 q74 q75 q76 q77 q78 q79 q80
    obtain ⟨w18, hw_w18⟩ : ∃ W', W' = w17.alloc (Obj.cells #[Value.int IntKind.i64 R0.1, Value.slice Q12_0 R0.2.length f12_0] 27) := ⟨_, rfl⟩
    rw [← hw_w18]
    have hb_w18 : Below w17.heap.size w17 w18 := by rw [hw_w18]; exact below1 _ _
    have bh0_n : Blk w18 w17.heap.size 27 #[.int .i64 R0.1, .slice Q12_0 R0.2.length f12_0] := by rw [hw_w18]; exact Blk.new _ _ _
    have bh0_nl := bh0_n.lt
    clear hw_w18
    have s_w18 := hb_w18.size
    have bx0_17 := bx0_16.below hb_w18 (by first | exact bx0_16.lt | omega)
    clear bx0_16
    have bx0_17_l := bx0_17.lt
    have w0_17 := w0_16.below hb_w18 (by omega)
    clear w0_16
    have bw0_17 := bw0_16.below hb_w18 (by first | exact bw0_16.lt | omega)
    clear bw0_16
    have bw0_17_l := bw0_17.lt
    have bxx0_17 := bxx0_16.below hb_w18 (by first | exact bxx0_16.lt | omega)
    clear bxx0_16
    have bxx0_17_l := bxx0_17.lt
    have bg0_17 := bg0_16.below hb_w18 (by first | exact bg0_16.lt | omega)
    clear bg0_16
    have bg0_17_l := bg0_17.lt
    have d0_17 := d0_16.below hb_w18 (by omega)
    clear d0_16
    have h0_17 := o12_0.below hb_w18 (by omega)
    clear o12_0
    have B_w18 := bthen B_w17 hb_w18
    refine (eqRel_any _ _ R0 R0 _ ⟨_, rfl, h0_17.rd.more (by omega)⟩ ⟨_, rfl, w0_17.rd.more (by omega)⟩ rfl (by omega)).mono ?_
    rintro e w19 ⟨rfl, hb13⟩
    rw [show decide (R0 = R0) = true by simp]
    have s_w19 := hb13.size
    have bx0_18 := bx0_17.below hb13 (by first | exact bx0_17.lt | omega)
    clear bx0_17
    have bx0_18_l := bx0_18.lt
    have w0_18 := w0_17.below hb13 (by omega)
    clear w0_17
    have bw0_18 := bw0_17.below hb13 (by first | exact bw0_17.lt | omega)
    clear bw0_17
    have bw0_18_l := bw0_18.lt
    have bxx0_18 := bxx0_17.below hb13 (by first | exact bxx0_17.lt | omega)
    clear bxx0_17
    have bxx0_18_l := bxx0_18.lt
    have bg0_18 := bg0_17.below hb13 (by first | exact bg0_17.lt | omega)
    clear bg0_17
    have bg0_18_l := bg0_18.lt
    have d0_18 := d0_17.below hb13 (by omega)
    clear d0_17
    have h0_18 := h0_17.below hb13 (by omega)
    clear h0_17
    have bh0_18 := bh0_n.below hb13 (by first | exact bh0_n.lt | omega)
    clear bh0_n
    have bh0_18_l := bh0_18.lt
    have B_w19 := bthen B_w18 hb13
    have q81 : w19.cell? ⟨w.heap.size, 0, none⟩ = some (.int .i64 r.1) := bx0_18.cell 0
    have q82 : w19.cell? ⟨w.heap.size, 1, none⟩ = some (.slice A0 r.2.length c0) := bx0_18.cell 1
    have q83 : w19.cell? ⟨w4.heap.size, 0, none⟩ = some (.int .i64 R0.1) := bw0_18.cell 0
    have q84 : w19.cell? ⟨w4.heap.size, 1, none⟩ = some (.slice Q2_0 R0.2.length f2_0) := bw0_18.cell 1
    have q85 : w19.cell? ⟨w6.heap.size, 0, none⟩ = some (.int .i64 r.1) := bxx0_18.cell 0
    have q86 : w19.cell? ⟨w6.heap.size, 1, none⟩ = some (.slice P3 r.2.length d3) := bxx0_18.cell 1
    have q87 : w19.cell? ⟨w8.heap.size, 0, none⟩ = some (.int .i64 R0.1) := bg0_18.cell 0
    have q88 : w19.cell? ⟨w8.heap.size, 1, none⟩ = some (.slice Q4_0 R0.2.length f4_0) := bg0_18.cell 1
    have q89 : w19.cell? ⟨w17.heap.size, 0, none⟩ = some (.int .i64 R0.1) := bh0_18.cell 0
    have q90 : w19.cell? ⟨w17.heap.size, 1, none⟩ = some (.slice Q12_0 R0.2.length f12_0) := bh0_18.cell 1
    go_wp2_with (fail)
    clear q81 q82 q83 q84 q85 q86 q87 q88 q89 q90
    refine (uh_rel d0_18 (by omega)).mono ?_
    rintro e w20 ⟨rfl, hb14⟩
    have s_w20 := hb14.size
    have bx0_19 := bx0_18.below hb14 (by first | exact bx0_18.lt | omega)
    clear bx0_18
    have bx0_19_l := bx0_19.lt
    have w0_19 := w0_18.below hb14 (by omega)
    clear w0_18
    have bw0_19 := bw0_18.below hb14 (by first | exact bw0_18.lt | omega)
    clear bw0_18
    have bw0_19_l := bw0_19.lt
    have bxx0_19 := bxx0_18.below hb14 (by first | exact bxx0_18.lt | omega)
    clear bxx0_18
    have bxx0_19_l := bxx0_19.lt
    have bg0_19 := bg0_18.below hb14 (by first | exact bg0_18.lt | omega)
    clear bg0_18
    have bg0_19_l := bg0_19.lt
    have d0_19 := d0_18.below hb14 (by omega)
    clear d0_18
    have h0_19 := h0_18.below hb14 (by omega)
    clear h0_18
    have bh0_19 := bh0_18.below hb14 (by first | exact bh0_18.lt | omega)
    clear bh0_18
    have bh0_19_l := bh0_19.lt
    have B_w20 := bthen B_w19 hb14
    have q91 : w20.cell? ⟨w.heap.size, 0, none⟩ = some (.int .i64 r.1) := bx0_19.cell 0
    have q92 : w20.cell? ⟨w.heap.size, 1, none⟩ = some (.slice A0 r.2.length c0) := bx0_19.cell 1
    have q93 : w20.cell? ⟨w4.heap.size, 0, none⟩ = some (.int .i64 R0.1) := bw0_19.cell 0
    have q94 : w20.cell? ⟨w4.heap.size, 1, none⟩ = some (.slice Q2_0 R0.2.length f2_0) := bw0_19.cell 1
    have q95 : w20.cell? ⟨w6.heap.size, 0, none⟩ = some (.int .i64 r.1) := bxx0_19.cell 0
    have q96 : w20.cell? ⟨w6.heap.size, 1, none⟩ = some (.slice P3 r.2.length d3) := bxx0_19.cell 1
    have q97 : w20.cell? ⟨w8.heap.size, 0, none⟩ = some (.int .i64 R0.1) := bg0_19.cell 0
    have q98 : w20.cell? ⟨w8.heap.size, 1, none⟩ = some (.slice Q4_0 R0.2.length f4_0) := bg0_19.cell 1
    have q99 : w20.cell? ⟨w17.heap.size, 0, none⟩ = some (.int .i64 R0.1) := bh0_19.cell 0
    have q100 : w20.cell? ⟨w17.heap.size, 1, none⟩ = some (.slice Q12_0 R0.2.length f12_0) := bh0_19.cell 1
    go_wp2_with (fail)
    clear q91 q92 q93 q94 q95 q96 q97 q98 q99 q100
    go_ret
    exact ⟨rfl, B_w20⟩

theorem lawRelPick_in (v0 : Value) (v1 : Value) (v2 : Value) (r : LRel) (col : Int) (cc : Int) (w : World) (h0 : InRel w v0 r) (h1 : InInt v1 col) (h2 : InInt v2 cc) : Calls Try.prog 5 #[v0, v1, v2] w fun e w' => e = .returned (.bool true) ∧ Below w.heap.size w w' :=
  h1.1 ▸ h2.1 ▸ lawRelPick_any v0 r col cc w h0.1 h0.2.1 h0.2.2

end Go.Proofs.Ytchincemlilnoaa
namespace Go.Proofs.Ytchincemlilnoaa
open Go.ChangeShapes Go.WideShapes Go.ChangeAt Go.RowKit

set_option maxRecDepth 100000 in
theorem fnExactRelPick_lifted (os : Os) (started : os.Started) (H : Type) (enc : TypeId × Value → H) :
    ReturnsInHanded {} Try.checked os 5 .any (Rows.fnExactRelPickSpec.pre6 enc Try.prog Try.f5 Rows.fnExactRelPickRow.domain false) (Rows.fnExactRelPickSpec.post enc Try.prog Try.f5 false true false false) := by
  refine returnsInHanded_of_change (C := Try.checked) Try.own started (by kernel_rfl) Try.func5
    (ChangeSpec.witness6 (enc := enc) (C := Try.checked) false ⟨#[], #[.agg #[.int .i64 0, .slice none 0 0], .int .i64 0, .int .i64 0], []⟩ 8 (by kernel_rfl) (by kernel_rfl) (by kernel_rfl) (by kernel_rfl)) ?_
  intro W base args ds gs before hval0 hW hcnd _
  have hval : ∀ (j : Nat) t v, Try.f5.params[j]? = some t → args[j]? = some v → Value.okWide Try.prog W .any base t v := hval0
  have hW' := hW
  obtain ⟨p, q, hA0, hV, rfl, hfz, hnd⟩ := hW
  have hA : DataW.TrodAll enc Try.prog W 0 (fun _ => true) true Try.f5.params.toList args.toList ds p := hA0
  rw [Try.params5] at hA hval
  obtain ⟨v0, vs0, d0, ds0, p0, q0, hargs, rfl, rfl, h0, r0⟩ := trodAll_cons hA
  obtain ⟨v1, vs1, d1, ds1, p1, q1, rfl, rfl, rfl, h1, r1⟩ := trodAll_cons r0
  obtain ⟨v2, vs2, d2, ds2, p2, q2, rfl, rfl, rfl, h2, r2⟩ := trodAll_cons r1
  obtain ⟨rfl, rfl, rfl⟩ := trodAll_nil r2
  obtain rfl : args = #[v0, v1, v2] := by cases args; simp_all
  obtain ⟨rfl, rfl⟩ := trodVars_none hV
  have lt0 : ∀ x ∈ p0, x.block < W.heap.size := by obtain ⟨m, hm⟩ := h0; exact DataW.trod_lt m _ _ _ hm
  obtain ⟨x0, w0⟩ := open_inRel (hval 0 24 v0 rfl rfl) h0
  have lt1 : ∀ x ∈ p1, x.block < W.heap.size := by obtain ⟨m, hm⟩ := h1; exact DataW.trod_lt m _ _ _ hm
  obtain ⟨x1, w1⟩ := open_inInt (hval 1 3 v1 rfl rfl) h1
  have lt2 : ∀ x ∈ p2, x.block < W.heap.size := by obtain ⟨m, hm⟩ := h2; exact DataW.trod_lt m _ _ _ hm
  obtain ⟨x2, w2⟩ := open_inInt (hval 2 3 v2 rfl rfl) h2
  clear hA0 hval0
  refine (lawRelPick_in v0 v1 v2 x0 x1 x2 W w0 w1 w2).mono fun e W' ⟨he, bel⟩ => ?_
  subst he
  exact ⟨_, rfl, _, _, _, [], _, [], hW', trodAll_mk1 (shut_bool Try.underlying4 _), (trodAll_cons_mk (Below.trod Try.laidOut (by kernel_rfl) (of_decide_eq_true (by kernel_rfl)) h0 bel lt0) (trodAll_cons_mk (Below.trod Try.laidOut (by kernel_rfl) (of_decide_eq_true (by kernel_rfl)) h1 bel lt1) (trodAll_cons_mk (Below.trod Try.laidOut (by kernel_rfl) (of_decide_eq_true (by kernel_rfl)) h2 bel lt2) trodAll_mk0))), rfl, bel.frame _, fun h => by cases h⟩

theorem fnExactRelPick_holds : Rows.FnExactRelPickSaid :=
  OpenClaim.holds_of_wide 5 Try.f5 rfl rfl rfl rfl rfl rfl rfl ⟨rfl, rfl, rfl, rfl, rfl⟩ rfl rfl rfl rfl rfl (by kernel_rfl) Try.func5 (by kernel_rfl)
    (of_decide_eq_true (by kernel_rfl)) (by unfold Func.isWrapper; rw [if_neg (of_decide_eq_false (by kernel_rfl))]; exact ⟨rfl, rfl⟩)
    (fun os started H enc _ => fnExactRelPick_lifted os started H enc)

end Go.Proofs.Ytchincemlilnoaa
