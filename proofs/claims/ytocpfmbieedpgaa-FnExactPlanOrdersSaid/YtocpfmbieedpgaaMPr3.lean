/-
  The law FnExactPlanOrders: for every input the call returns true, and each argument reads behind it as it read before. Conditions: none but the row's own.
-/
import Derived.Test.YtocpfmbieedpgaaMPb5
import Derived.Test.YtocpfmbieedpgaaMPb1
import Derived.Test.YtocpfmbieedpgaaMPb2
import Derived.Deep.RegionHeld3
import Derived.Deep.DeepCutAuto
import Derived.Deep.RegionWith
import Derived.Test.YtocpfmbieedpgaaRows
import Derived.Test.YtocpfmbieedpgaaMPr2
/-
  The walk of the law on PlanOrders (written by wip/genlaw.py).
-/
namespace Go.Proofs.Ytocpfmbieedpgaa
open Go.RowKit

set_option maxHeartbeats 8000000 in
set_option maxRecDepth 100000 in
theorem lawPlanOrders_any (v0 : Value) (v1 : Value) (ar : List Int) (r : LRule) (w : World) (h0 : RdInts w w.heap.size v0 ar) (h1 : RdRule w w.heap.size v1 r) (n1 : ruleLens r) :
    Calls Try.prog 8 #[v0, v1] w fun e w' => e = .returned (.bool true) ∧ Below w.heap.size w w' := by
  have H0 := Lib.hid h0
  obtain ⟨A0, c0, rfl, hc0, _⟩ := h0
  have H1 := Lib.hid h1
  obtain ⟨_, _, rfl, ⟨A1, c1, rfl, hc1, _⟩, ⟨A1b, c1b, rfl, hc1b, _⟩⟩ := h1
  by_cases g0 : 1048576 < ar.length
  · go_enter Try.func8, Try.ntmps8
    go_wp2_with (fail)
    go_ret
    exact ⟨rfl, below1 _ _⟩
  have r0 : ar.length ≤ 1048576 := by omega
  go_enter Try.func8, Try.ntmps8
  go_wp2_with (fail)
  obtain ⟨w1, hw_w1⟩ : ∃ W', W' = w.alloc (Obj.cells #[Value.int IntKind.i64 r.1.1, Value.slice A1 r.1.2.length c1, Value.slice A1b r.2.length c1b] 52) := ⟨_, rfl⟩
  rw [← hw_w1]
  have B_w1 : Below w.heap.size w w1 := by rw [hw_w1]; exact below1 _ _
  have bx1 : Blk w1 (w.heap.size + 0) 52 #[.int .i64 r.1.1, .slice A1 r.1.2.length c1, .slice A1b r.2.length c1b] := by
    rw [hw_w1]
    have := (Blk.new w 52 #[.int .i64 r.1.1, .slice A1 r.1.2.length c1, .slice A1b r.2.length c1b])
    simpa using this
  have bx1_l := bx1.lt
  rw [Nat.add_zero] at bx1 bx1_l
  have s_w1 := B_w1.size
  clear hw_w1
  refine (us_rule (H1.out.on B_w1) (by omega) (by omega) n1).mono ?_
  rintro e w2 ⟨z1, rfl, hz1, hbz1⟩
  have s_w2 := hbz1.size
  have bx1_1 := bx1.below hbz1 (by first | exact bx1.lt | omega)
  clear bx1
  have bx1_1_l := bx1_1.lt
  have B_w2 := bthen B_w1 hbz1
  rcases hz1 with rfl | ⟨zp1, zs1⟩
  · go_wp2_with (fail)
    go_ret
    exact ⟨rfl, B_w2⟩
  have zn1 : ¬ z1 < 0 := by omega
  have r1 : szR r ≤ 1048576 := by omega
  have zl1 : z1 ≤ 1048576 := by omega
  have ZS1 := Lib.hid zs1
  clear zs1 zn1
  have zn1 : ¬ z1 < 0 := by omega
  obtain ⟨R0, hR0⟩ : ∃ R, R = planOrdL ar r := ⟨_, rfl⟩
  have HR0 := Lib.hid hR0
  have HRs0 := Lib.hid (show szRows R0 ≤ 1048576 by rw [hR0]; exact planOrd_sz ar r)
  have R0s := HRs0.out
  clear hR0
  have q1 : w2.cell? ⟨w.heap.size, 0, none⟩ = some (.int .i64 r.1.1) := bx1_1.cell 0
  have q2 : w2.cell? ⟨w.heap.size, 1, none⟩ = some (.slice A1 r.1.2.length c1) := bx1_1.cell 1
  have q3 : w2.cell? ⟨w.heap.size, 2, none⟩ = some (.slice A1b r.2.length c1b) := bx1_1.cell 2
  go_upto_region 7 with fail
  clear q1 q2 q3
  have HS_w2 := Lib.hid (show ∀ W, Below w2.heap.size w2 W → (Below w2.heap.size w2 W ∧ W.cell? ⟨w.heap.size, 0, none⟩ = some (.int .i64 r.1.1) ∧ W.cell? ⟨w.heap.size, 1, none⟩ = some (.slice A1 r.1.2.length c1) ∧ W.cell? ⟨w.heap.size, 2, none⟩ = some (.slice A1b r.2.length c1b)) from fun W hW => ⟨hW, (bx1_1.below hW bx1_1_l).cell 0, (bx1_1.below hW bx1_1_l).cell 1, (bx1_1.below hW bx1_1_l).cell 2⟩)
  go_cut [6] (fun s0 wx => ∃ (Q_0 : Option Addr) (f_0 : Nat), s0 = .slice Q_0 R0.length f_0 ∧ OwnRows wx w2.heap.size wx.heap.size (.slice Q_0 R0.length f_0) R0 ∧ Below w2.heap.size w2 wx)
  case first =>
    go_region_held3 (fun W => Below w2.heap.size w2 W ∧ W.cell? ⟨w.heap.size, 0, none⟩ = some (.int .i64 r.1.1) ∧ W.cell? ⟨w.heap.size, 1, none⟩ = some (.slice A1 r.1.2.length c1) ∧ W.cell? ⟨w.heap.size, 2, none⟩ = some (.slice A1b r.2.length c1b))
      (first | exact HS_w2.out _ (Below.refl _ _) | exact HS_w2.out _ (Below.refl _ _).drew | exact HS_w2.out _ (bthen (And.left (by assumption)) (by assumption)))
      (first
        | (go_at_call 24; refine (toIntS_any _ ar _ ?_ (by omega)).mono ?_; exact H0.out.on (bthen B_w2 (And.left (by assumption))); rintro e w_0 ⟨P0, d0, rfl, o0, g0⟩)
        | (go_at_call 29; refine (toRule_own _ r _ ?_ (by omega)).mono ?_; exact H1.out.on (bthen B_w2 (And.left (by assumption))); rintro e w_1 ⟨P1, d1, P1b, d1b, rfl, o1, g1⟩)
        | (go_at_call 35; refine (specPlanOrders_any _ _ ar r _ ((o0.rd.on g1)) (o1.rd) (by omega) (by omega)).mono ?_; rw [← HR0.out]; rintro e w_r ⟨Q_0, f_0, rfl, oo_0, hb_r⟩))
    all_goals (go_wp2_with fail; go_meet; exact ⟨_, _, rfl, oo_0.mono (Nat.le_trans g0.size (g1.size)) (Nat.le_refl _), And.left (by assumption)⟩)
  case rest =>
    obtain ⟨Q1_0, f1_0, rfl, o1_0, hb1⟩ := hcut
    clear HS_w2
    generalize wc = w3 at *
    have s_w3 := hb1.size
    have bx1_2 := bx1_1.below hb1 (by first | exact bx1_1.lt | omega)
    clear bx1_1
    have bx1_2_l := bx1_2.lt
    have B_w3 := bthen B_w2 hb1
    have q4 : w3.cell? ⟨w.heap.size, 0, none⟩ = some (.int .i64 r.1.1) := bx1_2.cell 0
    have q5 : w3.cell? ⟨w.heap.size, 1, none⟩ = some (.slice A1 r.1.2.length c1) := bx1_2.cell 1
    have q6 : w3.cell? ⟨w.heap.size, 2, none⟩ = some (.slice A1b r.2.length c1b) := bx1_2.cell 2
    go_wp2_with (fail)
    clear q4 q5 q6
    refine (toIntS_any _ ar _ (H0.out.on B_w3) (by omega)).mono ?_
    rintro e w4 ⟨P2, d2, rfl, o2, hb2⟩
    have s_w4 := hb2.size
    have bx1_3 := bx1_2.below hb2 (by first | exact bx1_2.lt | omega)
    clear bx1_2
    have bx1_3_l := bx1_3.lt
    have w0_3 := o1_0.below hb2 (by omega)
    clear o1_0
    have B_w4 := bthen B_w3 hb2
    have q7 : w4.cell? ⟨w.heap.size, 0, none⟩ = some (.int .i64 r.1.1) := bx1_3.cell 0
    have q8 : w4.cell? ⟨w.heap.size, 1, none⟩ = some (.slice A1 r.1.2.length c1) := bx1_3.cell 1
    have q9 : w4.cell? ⟨w.heap.size, 2, none⟩ = some (.slice A1b r.2.length c1b) := bx1_3.cell 2
    go_wp2_with (fail)
    clear q7 q8 q9
    refine (toRule_own _ r _ (H1.out.on B_w4) (by omega)).mono ?_
    rintro e w5 ⟨P3, d3, P3b, d3b, rfl, o3, hb3⟩
    have s_w5 := hb3.size
    have bx1_4 := bx1_3.below hb3 (by first | exact bx1_3.lt | omega)
    clear bx1_3
    have bx1_4_l := bx1_4.lt
    have w0_4 := w0_3.below hb3 (by omega)
    clear w0_3
    have x0_4 := o2.below hb3 (by omega)
    clear o2
    have B_w5 := bthen B_w4 hb3
    have q10 : w5.cell? ⟨w.heap.size, 0, none⟩ = some (.int .i64 r.1.1) := bx1_4.cell 0
    have q11 : w5.cell? ⟨w.heap.size, 1, none⟩ = some (.slice A1 r.1.2.length c1) := bx1_4.cell 1
    have q12 : w5.cell? ⟨w.heap.size, 2, none⟩ = some (.slice A1b r.2.length c1b) := bx1_4.cell 2
    go_wp2_with (fail)
    clear q10 q11 q12
    obtain ⟨w6, hw_w6⟩ : ∃ W', W' = w5.alloc (Obj.cells #[Value.int IntKind.i64 r.1.1, Value.slice P3 r.1.2.length d3, Value.slice P3b r.2.length d3b] 28) := ⟨_, rfl⟩
    rw [← hw_w6]
    have hb_w6 : Below w5.heap.size w5 w6 := by rw [hw_w6]; exact below1 _ _
    have bxx1_n : Blk w6 w5.heap.size 28 #[.int .i64 r.1.1, .slice P3 r.1.2.length d3, .slice P3b r.2.length d3b] := by rw [hw_w6]; exact Blk.new _ _ _
    have bxx1_nl := bxx1_n.lt
    clear hw_w6
    have s_w6 := hb_w6.size
    have bx1_5 := bx1_4.below hb_w6 (by first | exact bx1_4.lt | omega)
    clear bx1_4
    have bx1_5_l := bx1_5.lt
    have w0_5 := w0_4.below hb_w6 (by omega)
    clear w0_4
    have x0_5 := x0_4.below hb_w6 (by omega)
    clear x0_4
    have x1_5 := o3.below hb_w6 (by omega)
    clear o3
    have B_w6 := bthen B_w5 hb_w6
    refine (implPlanOrders_any _ _ ar r _ (x0_5.rd.more (by omega)) (x1_5.rd.more (by omega)) (by omega) (by omega)).mono ?_
    rw [← HR0.out]
    rintro e w7 ⟨Q4_0, f4_0, rfl, o4_0, hb4⟩
    have s_w7 := hb4.size
    have bx1_6 := bx1_5.below hb4 (by first | exact bx1_5.lt | omega)
    clear bx1_5
    have bx1_6_l := bx1_6.lt
    have w0_6 := w0_5.below hb4 (by omega)
    clear w0_5
    have x0_6 := x0_5.below hb4 (by omega)
    clear x0_5
    have x1_6 := x1_5.below hb4 (by omega)
    clear x1_5
    have bxx1_6 := bxx1_n.below hb4 (by first | exact bxx1_n.lt | omega)
    clear bxx1_n
    have bxx1_6_l := bxx1_6.lt
    have B_w7 := bthen B_w6 hb4
    have q13 : w7.cell? ⟨w.heap.size, 0, none⟩ = some (.int .i64 r.1.1) := bx1_6.cell 0
    have q14 : w7.cell? ⟨w.heap.size, 1, none⟩ = some (.slice A1 r.1.2.length c1) := bx1_6.cell 1
    have q15 : w7.cell? ⟨w.heap.size, 2, none⟩ = some (.slice A1b r.2.length c1b) := bx1_6.cell 2
    have q16 : w7.cell? ⟨w5.heap.size, 0, none⟩ = some (.int .i64 r.1.1) := bxx1_6.cell 0
    have q17 : w7.cell? ⟨w5.heap.size, 1, none⟩ = some (.slice P3 r.1.2.length d3) := bxx1_6.cell 1
    have q18 : w7.cell? ⟨w5.heap.size, 2, none⟩ = some (.slice P3b r.2.length d3b) := bxx1_6.cell 2
    go_wp2_with (fail)
    clear q13 q14 q15 q16 q17 q18
    refine (eqIntSS_any _ _ R0 R0 _ (o4_0.rd.more (by omega)) (w0_6.rd.more (by omega)) rfl (by omega)).mono ?_
    rintro e w8 ⟨rfl, hb5⟩
    rw [show decide (R0 = R0) = true by simp]
    have s_w8 := hb5.size
    have bx1_7 := bx1_6.below hb5 (by first | exact bx1_6.lt | omega)
    clear bx1_6
    have bx1_7_l := bx1_7.lt
    have w0_7 := w0_6.below hb5 (by omega)
    clear w0_6
    have x0_7 := x0_6.below hb5 (by omega)
    clear x0_6
    have x1_7 := x1_6.below hb5 (by omega)
    clear x1_6
    have bxx1_7 := bxx1_6.below hb5 (by first | exact bxx1_6.lt | omega)
    clear bxx1_6
    have bxx1_7_l := bxx1_7.lt
    have g0_7 := o4_0.below hb5 (by omega)
    clear o4_0
    have B_w8 := bthen B_w7 hb5
    have q19 : w8.cell? ⟨w.heap.size, 0, none⟩ = some (.int .i64 r.1.1) := bx1_7.cell 0
    have q20 : w8.cell? ⟨w.heap.size, 1, none⟩ = some (.slice A1 r.1.2.length c1) := bx1_7.cell 1
    have q21 : w8.cell? ⟨w.heap.size, 2, none⟩ = some (.slice A1b r.2.length c1b) := bx1_7.cell 2
    have q22 : w8.cell? ⟨w5.heap.size, 0, none⟩ = some (.int .i64 r.1.1) := bxx1_7.cell 0
    have q23 : w8.cell? ⟨w5.heap.size, 1, none⟩ = some (.slice P3 r.1.2.length d3) := bxx1_7.cell 1
    have q24 : w8.cell? ⟨w5.heap.size, 2, none⟩ = some (.slice P3b r.2.length d3b) := bxx1_7.cell 2
    go_wp2_with (fail)
    clear q19 q20 q21 q22 q23 q24
    refine (toIntS_any _ ar _ (H0.out.on B_w8) (by omega)).mono ?_
    rintro e w9 ⟨P6, d6, rfl, o6, hb6⟩
    have s_w9 := hb6.size
    have bx1_8 := bx1_7.below hb6 (by first | exact bx1_7.lt | omega)
    clear bx1_7
    have bx1_8_l := bx1_8.lt
    have w0_8 := w0_7.below hb6 (by omega)
    clear w0_7
    have x0_8 := x0_7.below hb6 (by omega)
    clear x0_7
    have x1_8 := x1_7.below hb6 (by omega)
    clear x1_7
    have bxx1_8 := bxx1_7.below hb6 (by first | exact bxx1_7.lt | omega)
    clear bxx1_7
    have bxx1_8_l := bxx1_8.lt
    have g0_8 := g0_7.below hb6 (by omega)
    clear g0_7
    have B_w9 := bthen B_w8 hb6
    have q25 : w9.cell? ⟨w.heap.size, 0, none⟩ = some (.int .i64 r.1.1) := bx1_8.cell 0
    have q26 : w9.cell? ⟨w.heap.size, 1, none⟩ = some (.slice A1 r.1.2.length c1) := bx1_8.cell 1
    have q27 : w9.cell? ⟨w.heap.size, 2, none⟩ = some (.slice A1b r.2.length c1b) := bx1_8.cell 2
    have q28 : w9.cell? ⟨w5.heap.size, 0, none⟩ = some (.int .i64 r.1.1) := bxx1_8.cell 0
    have q29 : w9.cell? ⟨w5.heap.size, 1, none⟩ = some (.slice P3 r.1.2.length d3) := bxx1_8.cell 1
    have q30 : w9.cell? ⟨w5.heap.size, 2, none⟩ = some (.slice P3b r.2.length d3b) := bxx1_8.cell 2
    go_wp2_with (fail)
    clear q25 q26 q27 q28 q29 q30
    refine (eqIntS_any _ _ ar ar _ (x0_8.rd.more (by omega)) (o6.rd.more (by omega)) (by omega) (by omega)).mono ?_
    rintro e w10 ⟨rfl, hb7⟩
    rw [show decide (ar = ar) = true by simp]
    have s_w10 := hb7.size
    have bx1_9 := bx1_8.below hb7 (by first | exact bx1_8.lt | omega)
    clear bx1_8
    have bx1_9_l := bx1_9.lt
    have w0_9 := w0_8.below hb7 (by omega)
    clear w0_8
    have x0_9 := x0_8.below hb7 (by omega)
    clear x0_8
    have x1_9 := x1_8.below hb7 (by omega)
    clear x1_8
    have bxx1_9 := bxx1_8.below hb7 (by first | exact bxx1_8.lt | omega)
    clear bxx1_8
    have bxx1_9_l := bxx1_9.lt
    have g0_9 := g0_8.below hb7 (by omega)
    clear g0_8
    have B_w10 := bthen B_w9 hb7
    have q31 : w10.cell? ⟨w.heap.size, 0, none⟩ = some (.int .i64 r.1.1) := bx1_9.cell 0
    have q32 : w10.cell? ⟨w.heap.size, 1, none⟩ = some (.slice A1 r.1.2.length c1) := bx1_9.cell 1
    have q33 : w10.cell? ⟨w.heap.size, 2, none⟩ = some (.slice A1b r.2.length c1b) := bx1_9.cell 2
    have q34 : w10.cell? ⟨w5.heap.size, 0, none⟩ = some (.int .i64 r.1.1) := bxx1_9.cell 0
    have q35 : w10.cell? ⟨w5.heap.size, 1, none⟩ = some (.slice P3 r.1.2.length d3) := bxx1_9.cell 1
    have q36 : w10.cell? ⟨w5.heap.size, 2, none⟩ = some (.slice P3b r.2.length d3b) := bxx1_9.cell 2
    go_upto_region 15 with fail
    clear q31 q32 q33 q34 q35 q36
    have HS_w10 := Lib.hid (show ∀ W, Below w10.heap.size w10 W → (Below w10.heap.size w10 W ∧ W.cell? ⟨w.heap.size, 0, none⟩ = some (.int .i64 r.1.1) ∧ W.cell? ⟨w.heap.size, 1, none⟩ = some (.slice A1 r.1.2.length c1) ∧ W.cell? ⟨w.heap.size, 2, none⟩ = some (.slice A1b r.2.length c1b) ∧ W.cell? ⟨w5.heap.size, 0, none⟩ = some (.int .i64 r.1.1) ∧ W.cell? ⟨w5.heap.size, 1, none⟩ = some (.slice P3 r.1.2.length d3) ∧ W.cell? ⟨w5.heap.size, 2, none⟩ = some (.slice P3b r.2.length d3b)) from fun W hW => ⟨hW, (bx1_9.below hW bx1_9_l).cell 0, (bx1_9.below hW bx1_9_l).cell 1, (bx1_9.below hW bx1_9_l).cell 2, (bxx1_9.below hW bxx1_9_l).cell 0, (bxx1_9.below hW bxx1_9_l).cell 1, (bxx1_9.below hW bxx1_9_l).cell 2⟩)
    have RX_w10 := Lib.hid (show RdRule w10 w10.heap.size (.agg #[.int .i64 r.1.1, .slice P3 r.1.2.length d3, .slice P3b r.2.length d3b]) r from x1_9.rd.more (by omega))
    go_cut [47] (fun s wx => s = .bool false ∧ Below w10.heap.size w10 wx)
    case first =>
      go_region_held3 (fun W => Below w10.heap.size w10 W ∧ W.cell? ⟨w.heap.size, 0, none⟩ = some (.int .i64 r.1.1) ∧ W.cell? ⟨w.heap.size, 1, none⟩ = some (.slice A1 r.1.2.length c1) ∧ W.cell? ⟨w.heap.size, 2, none⟩ = some (.slice A1b r.2.length c1b) ∧ W.cell? ⟨w5.heap.size, 0, none⟩ = some (.int .i64 r.1.1) ∧ W.cell? ⟨w5.heap.size, 1, none⟩ = some (.slice P3 r.1.2.length d3) ∧ W.cell? ⟨w5.heap.size, 2, none⟩ = some (.slice P3b r.2.length d3b))
        (first | exact HS_w10.out _ (Below.refl _ _) | exact HS_w10.out _ (Below.refl _ _).drew | exact HS_w10.out _ (bthen (And.left (by assumption)) (by assumption)))
        (first
          | (go_at_call 29; refine (toRule_own _ r _ ?_ (by omega)).mono ?_; exact H1.out.on (bthen B_w10 (And.left (by assumption))); rintro e wf ⟨Af, cf, Ag, cg, rfl, hof, hbf⟩)
          | (go_at_call 30; refine (eqRule_any _ _ r r _ ?_ ?_ (by omega) (by omega)).mono ?_; exact (RX_w10.out.on (And.left (by assumption))); exact hof.rd; rw [show decide (r = r) = true by simp]; rintro e wg ⟨rfl, hbg⟩))
      all_goals (go_wp2_with fail; go_meet; exact ⟨rfl, And.left (by assumption)⟩)
    case rest =>
      obtain ⟨rfl, hb8⟩ := hcut
      clear HS_w10 RX_w10
      generalize wc = w11 at *
      have s_w11 := hb8.size
      have bx1_10 := bx1_9.below hb8 (by first | exact bx1_9.lt | omega)
      clear bx1_9
      have bx1_10_l := bx1_10.lt
      have w0_10 := w0_9.below hb8 (by omega)
      clear w0_9
      have x0_10 := x0_9.below hb8 (by omega)
      clear x0_9
      have x1_10 := x1_9.below hb8 (by omega)
      clear x1_9
      have bxx1_10 := bxx1_9.below hb8 (by first | exact bxx1_9.lt | omega)
      clear bxx1_9
      have bxx1_10_l := bxx1_10.lt
      have g0_10 := g0_9.below hb8 (by omega)
      clear g0_9
      have B_w11 := bthen B_w10 hb8
      have q37 : w11.cell? ⟨w.heap.size, 0, none⟩ = some (.int .i64 r.1.1) := bx1_10.cell 0
      have q38 : w11.cell? ⟨w.heap.size, 1, none⟩ = some (.slice A1 r.1.2.length c1) := bx1_10.cell 1
      have q39 : w11.cell? ⟨w.heap.size, 2, none⟩ = some (.slice A1b r.2.length c1b) := bx1_10.cell 2
      have q40 : w11.cell? ⟨w5.heap.size, 0, none⟩ = some (.int .i64 r.1.1) := bxx1_10.cell 0
      have q41 : w11.cell? ⟨w5.heap.size, 1, none⟩ = some (.slice P3 r.1.2.length d3) := bxx1_10.cell 1
      have q42 : w11.cell? ⟨w5.heap.size, 2, none⟩ = some (.slice P3b r.2.length d3b) := bxx1_10.cell 2
      go_wp2_with (fail)
      clear q37 q38 q39 q40 q41 q42
      refine (um_ints 1 x0_10 (by omega) (by omega) (by omega)).mono ?_
      rintro e w12 ⟨k9, rfl, ka9, kb9, _, on9⟩
      have s_w12 := on9.size
      have bx1_11 := bx1_10.only on9 (by first | exact .inl (by omega) | exact .inr (by omega) | omega)
      clear bx1_10
      have bx1_11_l := bx1_11.lt
      have w0_11 := w0_10.only on9 (by first | exact .inl (by omega) | exact .inr (by omega) | omega)
      clear w0_10
      have x1_11 := x1_10.only on9 (by first | exact .inl (by omega) | exact .inr (by omega) | omega) (by omega)
      clear x1_10
      have bxx1_11 := bxx1_10.only on9 (by first | exact .inl (by omega) | exact .inr (by omega) | omega)
      clear bxx1_10
      have bxx1_11_l := bxx1_11.lt
      have g0_11 := g0_10.only on9 (by first | exact .inl (by omega) | exact .inr (by omega) | omega)
      clear g0_10
      have B_w12 := Only.then_ B_w11 on9 (by omega)
      have q43 : w12.cell? ⟨w.heap.size, 0, none⟩ = some (.int .i64 r.1.1) := bx1_11.cell 0
      have q44 : w12.cell? ⟨w.heap.size, 1, none⟩ = some (.slice A1 r.1.2.length c1) := bx1_11.cell 1
      have q45 : w12.cell? ⟨w.heap.size, 2, none⟩ = some (.slice A1b r.2.length c1b) := bx1_11.cell 2
      have q46 : w12.cell? ⟨w5.heap.size, 0, none⟩ = some (.int .i64 r.1.1) := bxx1_11.cell 0
      have q47 : w12.cell? ⟨w5.heap.size, 1, none⟩ = some (.slice P3 r.1.2.length d3) := bxx1_11.cell 1
      have q48 : w12.cell? ⟨w5.heap.size, 2, none⟩ = some (.slice P3b r.2.length d3b) := bxx1_11.cell 2
      go_wp2_with (fail)
      clear q43 q44 q45 q46 q47 q48
      refine (um_rule k9 x1_11 (by omega) (by omega) (by omega)).mono ?_
      rintro e w13 ⟨k10, rfl, ka10, kb10, _, on10⟩
      have s_w13 := on10.size
      have bx1_12 := bx1_11.only on10 (by first | exact .inl (by omega) | exact .inr (by omega) | omega)
      clear bx1_11
      have bx1_12_l := bx1_12.lt
      have w0_12 := w0_11.only on10 (by first | exact .inl (by omega) | exact .inr (by omega) | omega)
      clear w0_11
      have bxx1_12 := bxx1_11.only on10 (by first | exact .inl (by omega) | exact .inr (by omega) | omega)
      clear bxx1_11
      have bxx1_12_l := bxx1_12.lt
      have g0_12 := g0_11.only on10 (by first | exact .inl (by omega) | exact .inr (by omega) | omega)
      clear g0_11
      have B_w13 := Only.then_ B_w12 on10 (by omega)
      have kn : ¬ k10 < 0 := by omega
      have kd : decide (k10 < 0) = false := by simp; omega
      have q49 : w13.cell? ⟨w.heap.size, 0, none⟩ = some (.int .i64 r.1.1) := bx1_12.cell 0
      have q50 : w13.cell? ⟨w.heap.size, 1, none⟩ = some (.slice A1 r.1.2.length c1) := bx1_12.cell 1
      have q51 : w13.cell? ⟨w.heap.size, 2, none⟩ = some (.slice A1b r.2.length c1b) := bx1_12.cell 2
      have q52 : w13.cell? ⟨w5.heap.size, 0, none⟩ = some (.int .i64 r.1.1) := bxx1_12.cell 0
      have q53 : w13.cell? ⟨w5.heap.size, 1, none⟩ = some (.slice P3 r.1.2.length d3) := bxx1_12.cell 1
      have q54 : w13.cell? ⟨w5.heap.size, 2, none⟩ = some (.slice P3b r.2.length d3b) := bxx1_12.cell 2
      go_wp2_with (fail)
      clear q49 q50 q51 q52 q53 q54
      refine (eqIntSS_any _ _ R0 R0 _ (g0_12.rd.more (by omega)) (w0_12.rd.more (by omega)) rfl (by omega)).mono ?_
      rintro e w14 ⟨rfl, hb11⟩
      rw [show decide (R0 = R0) = true by simp]
      have s_w14 := hb11.size
      have bx1_13 := bx1_12.below hb11 (by first | exact bx1_12.lt | omega)
      clear bx1_12
      have bx1_13_l := bx1_13.lt
      have w0_13 := w0_12.below hb11 (by omega)
      clear w0_12
      have bxx1_13 := bxx1_12.below hb11 (by first | exact bxx1_12.lt | omega)
      clear bxx1_12
      have bxx1_13_l := bxx1_13.lt
      have g0_13 := g0_12.below hb11 (by omega)
      clear g0_12
      have B_w14 := bthen B_w13 hb11
      have q55 : w14.cell? ⟨w.heap.size, 0, none⟩ = some (.int .i64 r.1.1) := bx1_13.cell 0
      have q56 : w14.cell? ⟨w.heap.size, 1, none⟩ = some (.slice A1 r.1.2.length c1) := bx1_13.cell 1
      have q57 : w14.cell? ⟨w.heap.size, 2, none⟩ = some (.slice A1b r.2.length c1b) := bx1_13.cell 2
      have q58 : w14.cell? ⟨w5.heap.size, 0, none⟩ = some (.int .i64 r.1.1) := bxx1_13.cell 0
      have q59 : w14.cell? ⟨w5.heap.size, 1, none⟩ = some (.slice P3 r.1.2.length d3) := bxx1_13.cell 1
      have q60 : w14.cell? ⟨w5.heap.size, 2, none⟩ = some (.slice P3b r.2.length d3b) := bxx1_13.cell 2
      go_wp2_with (fail)
      clear q55 q56 q57 q58 q59 q60
      refine (um_rows 1 g0_13 (by omega) (by omega) (by have := HRs0.out; omega)).mono ?_
      rintro e w15 ⟨m12, rfl, ma12, mb12, hd12, on12⟩
      have mb12' := HRs0.out
      have s_w15 := on12.size
      have bx1_14 := bx1_13.only on12 (by first | exact .inl (by omega) | exact .inr (by omega) | omega)
      clear bx1_13
      have bx1_14_l := bx1_14.lt
      have w0_14 := w0_13.only on12 (by first | exact .inl (by omega) | exact .inr (by omega) | omega)
      clear w0_13
      have bxx1_14 := bxx1_13.only on12 (by first | exact .inl (by omega) | exact .inr (by omega) | omega)
      clear bxx1_13
      have bxx1_14_l := bxx1_14.lt
      have B_w15 := Only.then_ B_w14 on12 (by omega)
      have mn : ¬ m12 < 0 := by omega
      have me : (m12 != m12) = false := by simp
      have q61 : w15.cell? ⟨w.heap.size, 0, none⟩ = some (.int .i64 r.1.1) := bx1_14.cell 0
      have q62 : w15.cell? ⟨w.heap.size, 1, none⟩ = some (.slice A1 r.1.2.length c1) := bx1_14.cell 1
      have q63 : w15.cell? ⟨w.heap.size, 2, none⟩ = some (.slice A1b r.2.length c1b) := bx1_14.cell 2
      have q64 : w15.cell? ⟨w5.heap.size, 0, none⟩ = some (.int .i64 r.1.1) := bxx1_14.cell 0
      have q65 : w15.cell? ⟨w5.heap.size, 1, none⟩ = some (.slice P3 r.1.2.length d3) := bxx1_14.cell 1
      have q66 : w15.cell? ⟨w5.heap.size, 2, none⟩ = some (.slice P3b r.2.length d3b) := bxx1_14.cell 2
      go_wp2_with (fail)
      clear q61 q62 q63 q64 q65 q66
      refine (uh_rows hd12 (by omega)).mono ?_
      rintro e w16 ⟨rfl, hb13⟩
      have s_w16 := hb13.size
      have bx1_15 := bx1_14.below hb13 (by first | exact bx1_14.lt | omega)
      clear bx1_14
      have bx1_15_l := bx1_15.lt
      have w0_15 := w0_14.below hb13 (by omega)
      clear w0_14
      have bxx1_15 := bxx1_14.below hb13 (by first | exact bxx1_14.lt | omega)
      clear bxx1_14
      have bxx1_15_l := bxx1_15.lt
      have d0_15 := hd12.below hb13 (by omega)
      clear hd12
      have B_w16 := bthen B_w15 hb13
      have q67 : w16.cell? ⟨w.heap.size, 0, none⟩ = some (.int .i64 r.1.1) := bx1_15.cell 0
      have q68 : w16.cell? ⟨w.heap.size, 1, none⟩ = some (.slice A1 r.1.2.length c1) := bx1_15.cell 1
      have q69 : w16.cell? ⟨w.heap.size, 2, none⟩ = some (.slice A1b r.2.length c1b) := bx1_15.cell 2
      have q70 : w16.cell? ⟨w5.heap.size, 0, none⟩ = some (.int .i64 r.1.1) := bxx1_15.cell 0
      have q71 : w16.cell? ⟨w5.heap.size, 1, none⟩ = some (.slice P3 r.1.2.length d3) := bxx1_15.cell 1
      have q72 : w16.cell? ⟨w5.heap.size, 2, none⟩ = some (.slice P3b r.2.length d3b) := bxx1_15.cell 2
      go_upto_region 30 with fail
      clear q67 q68 q69 q70 q71 q72
      have HS_w16 := Lib.hid (show ∀ W, Below w16.heap.size w16 W → (Below w16.heap.size w16 W ∧ W.cell? ⟨w.heap.size, 0, none⟩ = some (.int .i64 r.1.1) ∧ W.cell? ⟨w.heap.size, 1, none⟩ = some (.slice A1 r.1.2.length c1) ∧ W.cell? ⟨w.heap.size, 2, none⟩ = some (.slice A1b r.2.length c1b) ∧ W.cell? ⟨w5.heap.size, 0, none⟩ = some (.int .i64 r.1.1) ∧ W.cell? ⟨w5.heap.size, 1, none⟩ = some (.slice P3 r.1.2.length d3) ∧ W.cell? ⟨w5.heap.size, 2, none⟩ = some (.slice P3b r.2.length d3b)) from fun W hW => ⟨hW, (bx1_15.below hW bx1_15_l).cell 0, (bx1_15.below hW bx1_15_l).cell 1, (bx1_15.below hW bx1_15_l).cell 2, (bxx1_15.below hW bxx1_15_l).cell 0, (bxx1_15.below hW bxx1_15_l).cell 1, (bxx1_15.below hW bxx1_15_l).cell 2⟩)
      go_cut [13] (fun s0 wx => ∃ (Q_0 : Option Addr) (f_0 : Nat), s0 = .slice Q_0 R0.length f_0 ∧ OwnRows wx w16.heap.size wx.heap.size (.slice Q_0 R0.length f_0) R0 ∧ Below w16.heap.size w16 wx)
      case first =>
        go_region_held3 (fun W => Below w16.heap.size w16 W ∧ W.cell? ⟨w.heap.size, 0, none⟩ = some (.int .i64 r.1.1) ∧ W.cell? ⟨w.heap.size, 1, none⟩ = some (.slice A1 r.1.2.length c1) ∧ W.cell? ⟨w.heap.size, 2, none⟩ = some (.slice A1b r.2.length c1b) ∧ W.cell? ⟨w5.heap.size, 0, none⟩ = some (.int .i64 r.1.1) ∧ W.cell? ⟨w5.heap.size, 1, none⟩ = some (.slice P3 r.1.2.length d3) ∧ W.cell? ⟨w5.heap.size, 2, none⟩ = some (.slice P3b r.2.length d3b))
          (first | exact HS_w16.out _ (Below.refl _ _) | exact HS_w16.out _ (Below.refl _ _).drew | exact HS_w16.out _ (bthen (And.left (by assumption)) (by assumption)))
          (first
            | (go_at_call 24; refine (toIntS_any _ ar _ ?_ (by omega)).mono ?_; exact H0.out.on (bthen B_w16 (And.left (by assumption))); rintro e w_0 ⟨P0, d0, rfl, o0, g0⟩)
            | (go_at_call 29; refine (toRule_own _ r _ ?_ (by omega)).mono ?_; exact H1.out.on (bthen B_w16 (And.left (by assumption))); rintro e w_1 ⟨P1, d1, P1b, d1b, rfl, o1, g1⟩)
            | (go_at_call 16; refine (implPlanOrders_any _ _ ar r _ ((o0.rd.on g1)) (o1.rd) (by omega) (by omega)).mono ?_; rw [← HR0.out]; rintro e w_r ⟨Q_0, f_0, rfl, oo_0, hb_r⟩))
        all_goals (go_wp2_with fail; go_meet; exact ⟨_, _, rfl, oo_0.mono (Nat.le_trans g0.size (g1.size)) (Nat.le_refl _), And.left (by assumption)⟩)
      case rest =>
        obtain ⟨Q14_0, f14_0, rfl, o14_0, hb14⟩ := hcut
        clear HS_w16
        generalize wc = w17 at *
        have s_w17 := hb14.size
        have bx1_16 := bx1_15.below hb14 (by first | exact bx1_15.lt | omega)
        clear bx1_15
        have bx1_16_l := bx1_16.lt
        have w0_16 := w0_15.below hb14 (by omega)
        clear w0_15
        have bxx1_16 := bxx1_15.below hb14 (by first | exact bxx1_15.lt | omega)
        clear bxx1_15
        have bxx1_16_l := bxx1_16.lt
        have d0_16 := d0_15.below hb14 (by omega)
        clear d0_15
        have B_w17 := bthen B_w16 hb14
        have q73 : w17.cell? ⟨w.heap.size, 0, none⟩ = some (.int .i64 r.1.1) := bx1_16.cell 0
        have q74 : w17.cell? ⟨w.heap.size, 1, none⟩ = some (.slice A1 r.1.2.length c1) := bx1_16.cell 1
        have q75 : w17.cell? ⟨w.heap.size, 2, none⟩ = some (.slice A1b r.2.length c1b) := bx1_16.cell 2
        have q76 : w17.cell? ⟨w5.heap.size, 0, none⟩ = some (.int .i64 r.1.1) := bxx1_16.cell 0
        have q77 : w17.cell? ⟨w5.heap.size, 1, none⟩ = some (.slice P3 r.1.2.length d3) := bxx1_16.cell 1
        have q78 : w17.cell? ⟨w5.heap.size, 2, none⟩ = some (.slice P3b r.2.length d3b) := bxx1_16.cell 2
        go_wp2_with (fail)
        clear q73 q74 q75 q76 q77 q78
        refine (eqIntSS_any _ _ R0 R0 _ (o14_0.rd.more (by omega)) (w0_16.rd.more (by omega)) rfl (by omega)).mono ?_
        rintro e w18 ⟨rfl, hb15⟩
        rw [show decide (R0 = R0) = true by simp]
        have s_w18 := hb15.size
        have bx1_17 := bx1_16.below hb15 (by first | exact bx1_16.lt | omega)
        clear bx1_16
        have bx1_17_l := bx1_17.lt
        have w0_17 := w0_16.below hb15 (by omega)
        clear w0_16
        have bxx1_17 := bxx1_16.below hb15 (by first | exact bxx1_16.lt | omega)
        clear bxx1_16
        have bxx1_17_l := bxx1_17.lt
        have d0_17 := d0_16.below hb15 (by omega)
        clear d0_16
        have h0_17 := o14_0.below hb15 (by omega)
        clear o14_0
        have B_w18 := bthen B_w17 hb15
        have q79 : w18.cell? ⟨w.heap.size, 0, none⟩ = some (.int .i64 r.1.1) := bx1_17.cell 0
        have q80 : w18.cell? ⟨w.heap.size, 1, none⟩ = some (.slice A1 r.1.2.length c1) := bx1_17.cell 1
        have q81 : w18.cell? ⟨w.heap.size, 2, none⟩ = some (.slice A1b r.2.length c1b) := bx1_17.cell 2
        have q82 : w18.cell? ⟨w5.heap.size, 0, none⟩ = some (.int .i64 r.1.1) := bxx1_17.cell 0
        have q83 : w18.cell? ⟨w5.heap.size, 1, none⟩ = some (.slice P3 r.1.2.length d3) := bxx1_17.cell 1
        have q84 : w18.cell? ⟨w5.heap.size, 2, none⟩ = some (.slice P3b r.2.length d3b) := bxx1_17.cell 2
        go_wp2_with (fail)
        clear q79 q80 q81 q82 q83 q84
        refine (uh_rows d0_17 (by omega)).mono ?_
        rintro e w19 ⟨rfl, hb16⟩
        have s_w19 := hb16.size
        have bx1_18 := bx1_17.below hb16 (by first | exact bx1_17.lt | omega)
        clear bx1_17
        have bx1_18_l := bx1_18.lt
        have w0_18 := w0_17.below hb16 (by omega)
        clear w0_17
        have bxx1_18 := bxx1_17.below hb16 (by first | exact bxx1_17.lt | omega)
        clear bxx1_17
        have bxx1_18_l := bxx1_18.lt
        have d0_18 := d0_17.below hb16 (by omega)
        clear d0_17
        have h0_18 := h0_17.below hb16 (by omega)
        clear h0_17
        have B_w19 := bthen B_w18 hb16
        have q85 : w19.cell? ⟨w.heap.size, 0, none⟩ = some (.int .i64 r.1.1) := bx1_18.cell 0
        have q86 : w19.cell? ⟨w.heap.size, 1, none⟩ = some (.slice A1 r.1.2.length c1) := bx1_18.cell 1
        have q87 : w19.cell? ⟨w.heap.size, 2, none⟩ = some (.slice A1b r.2.length c1b) := bx1_18.cell 2
        have q88 : w19.cell? ⟨w5.heap.size, 0, none⟩ = some (.int .i64 r.1.1) := bxx1_18.cell 0
        have q89 : w19.cell? ⟨w5.heap.size, 1, none⟩ = some (.slice P3 r.1.2.length d3) := bxx1_18.cell 1
        have q90 : w19.cell? ⟨w5.heap.size, 2, none⟩ = some (.slice P3b r.2.length d3b) := bxx1_18.cell 2
        go_wp2_with (fail)
        clear q85 q86 q87 q88 q89 q90
        go_ret
        exact ⟨rfl, B_w19⟩

theorem lawPlanOrders_in (v0 : Value) (v1 : Value) (ar : List Int) (r : LRule) (w : World) (h0 : InInts w v0 ar) (h1 : InRule w v1 r) : Calls Try.prog 8 #[v0, v1] w fun e w' => e = .returned (.bool true) ∧ Below w.heap.size w w' :=
  lawPlanOrders_any v0 v1 ar r w h0.1 h1.1 (ruleLens_in h1.2)

end Go.Proofs.Ytocpfmbieedpgaa
namespace Go.Proofs.Ytocpfmbieedpgaa
open Go.ChangeShapes Go.WideShapes Go.ChangeAt Go.RowKit

set_option maxRecDepth 100000 in
theorem fnExactPlanOrders_lifted (os : Os) (started : os.Started) (H : Type) (enc : TypeId × Value → H) :
    ReturnsInHanded {} Try.checked os 8 .any (Rows.fnExactPlanOrdersSpec.pre6 enc Try.prog Try.f8 Rows.fnExactPlanOrdersRow.domain false) (Rows.fnExactPlanOrdersSpec.post enc Try.prog Try.f8 false true false false) := by
  refine returnsInHanded_of_change (C := Try.checked) Try.own started (by kernel_rfl) Try.func8
    (ChangeSpec.witness6 (enc := enc) (C := Try.checked) false ⟨#[], #[.slice none 0 0, .agg #[.int .i64 0, .slice none 0 0, .slice none 0 0]], []⟩ 8 (by kernel_rfl) (by kernel_rfl) (by kernel_rfl) (by kernel_rfl)) ?_
  intro W base args ds gs before hval0 hW hcnd _
  have hval : ∀ (j : Nat) t v, Try.f8.params[j]? = some t → args[j]? = some v → Value.okWide Try.prog W .any base t v := hval0
  have hW' := hW
  obtain ⟨p, q, hA0, hV, rfl, hfz, hnd⟩ := hW
  have hA : DataW.TrodAll enc Try.prog W 0 (fun _ => true) true Try.f8.params.toList args.toList ds p := hA0
  rw [Try.params8] at hA hval
  obtain ⟨v0, vs0, d0, ds0, p0, q0, hargs, rfl, rfl, h0, r0⟩ := trodAll_cons hA
  obtain ⟨v1, vs1, d1, ds1, p1, q1, rfl, rfl, rfl, h1, r1⟩ := trodAll_cons r0
  obtain ⟨rfl, rfl, rfl⟩ := trodAll_nil r1
  obtain rfl : args = #[v0, v1] := by cases args; simp_all
  obtain ⟨rfl, rfl⟩ := trodVars_none hV
  have lt0 : ∀ x ∈ p0, x.block < W.heap.size := by obtain ⟨m, hm⟩ := h0; exact DataW.trod_lt m _ _ _ hm
  obtain ⟨x0, w0⟩ := open_inInts (hval 0 23 v0 rfl rfl) h0
  have lt1 : ∀ x ∈ p1, x.block < W.heap.size := by obtain ⟨m, hm⟩ := h1; exact DataW.trod_lt m _ _ _ hm
  obtain ⟨x1, w1⟩ := open_inRule (hval 1 52 v1 rfl rfl) h1
  clear hA0 hval0
  refine (lawPlanOrders_in v0 v1 x0 x1 W w0 w1).mono fun e W' ⟨he, bel⟩ => ?_
  subst he
  exact ⟨_, rfl, _, _, _, [], _, [], hW', trodAll_mk1 (shut_bool Try.underlying4 _), (trodAll_cons_mk (Below.trod Try.laidOut (by kernel_rfl) (of_decide_eq_true (by kernel_rfl)) h0 bel lt0) (trodAll_cons_mk (Below.trod Try.laidOut (by kernel_rfl) (of_decide_eq_true (by kernel_rfl)) h1 bel lt1) trodAll_mk0)), rfl, bel.frame _, fun h => by cases h⟩

theorem fnExactPlanOrders_holds : Rows.FnExactPlanOrdersSaid :=
  OpenClaim.holds_of_wide 8 Try.f8 rfl rfl rfl rfl rfl rfl rfl ⟨rfl, rfl, rfl, rfl, rfl⟩ rfl rfl rfl rfl rfl (by kernel_rfl) Try.func8 (by kernel_rfl)
    (of_decide_eq_true (by kernel_rfl)) (by unfold Func.isWrapper; rw [if_neg (of_decide_eq_false (by kernel_rfl))]; exact ⟨rfl, rfl⟩)
    (fun os started H enc _ => fnExactPlanOrders_lifted os started H enc)

end Go.Proofs.Ytocpfmbieedpgaa
