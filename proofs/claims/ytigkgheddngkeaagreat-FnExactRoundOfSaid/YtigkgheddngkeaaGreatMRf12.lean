/-
  The law FnExactRoundOf: for every input the call returns true, and each argument reads behind it as it read before. Conditions: none but the row's own.
-/
import Derived.Deep.RegionHeld3
import Derived.Deep.DeepCutAuto
import Derived.Deep.RegionWith
import Derived.Test.YtigkgheddngkeaaGreatRows
import Derived.Test.YtigkgheddngkeaaGreatRoundOfJoin
import Derived.Test.YtigkgheddngkeaaGreatMRf8
import Derived.Test.YtigkgheddngkeaaGreatMRf11
/-
  The walk of the law on RoundOf (written by wip/genlaw.py).
-/
namespace Go.Proofs.YtigkgheddngkeaaGreat
open Go.RowKit

set_option maxHeartbeats 4000000 in
set_option maxRecDepth 100000 in
theorem lawRoundOf_any (v0 : Value) (v1 : Value) (v2 : Value) (p : LProg) (fs : List LFact) (f : LFact) (w : World) (h0 : RdProg w w.heap.size v0 p) (h1 : RdFacts w w.heap.size v1 fs) (h2 : RdFact w w.heap.size v2 f) (n0 : progLens p) (n1 : fs.length ≤ maxLen) (m1 : ∀ k (h : k < fs.length), fs[k].2.length ≤ maxLen) (n2 : f.2.length ≤ maxLen) :
    Calls Tryz.prog 3 #[v0, v1, v2] w fun e w' => e = .returned (.bool true) ∧ Below w.heap.size w w' := by
  have H0 := Lib.hid h0
  obtain ⟨_, _, rfl, ⟨A0, c0, rfl, hc0, _⟩, ⟨A0b, c0b, rfl, hc0b, _⟩⟩ := h0
  have H1 := Lib.hid h1
  obtain ⟨A1, c1, rfl, hc1, _⟩ := h1
  have H2 := Lib.hid h2
  obtain ⟨a2, rfl, A2, c2, rfl, hc2, _⟩ := h2
  go_enter Tryz.func3, Tryz.ntmps3
  go_wp2_with (fail)
  obtain ⟨w1, hw_w1⟩ : ∃ W', W' = (w.alloc (Obj.cells #[Value.slice A0 p.1.length c0, Value.slice A0b p.2.length c0b] 25)).alloc (Obj.cells #[Value.int IntKind.i64 f.1, Value.slice A2 f.2.length c2] 28) := ⟨_, rfl⟩
  rw [← hw_w1]
  have B_w1 : Below w.heap.size w w1 := by rw [hw_w1]; exact below2 _ _ _
  have bx0 : Blk w1 (w.heap.size + 0) 25 #[.slice A0 p.1.length c0, .slice A0b p.2.length c0b] := by
    rw [hw_w1]
    have := (Blk.new w 25 #[.slice A0 p.1.length c0, .slice A0b p.2.length c0b]).alloc (Obj.cells #[.int .i64 f.1, .slice A2 f.2.length c2] 28)
    simpa using this
  have bx0_l := bx0.lt
  rw [Nat.add_zero] at bx0 bx0_l
  have bx2 : Blk w1 (w.heap.size + 1) 28 #[.int .i64 f.1, .slice A2 f.2.length c2] := by
    rw [hw_w1]
    have := (Blk.new (w.alloc (Obj.cells #[.slice A0 p.1.length c0, .slice A0b p.2.length c0b] 25)) 28 #[.int .i64 f.1, .slice A2 f.2.length c2])
    simpa using this
  have bx2_l := bx2.lt
  have s_w1 := B_w1.size
  clear hw_w1
  refine (us_prog (H0.out.on B_w1) (by omega) (by omega) n0).mono ?_
  rintro e w2 ⟨z0, rfl, hz0, hbz0⟩
  have s_w2 := hbz0.size
  have bx0_1 := bx0.below hbz0 (by first | exact bx0.lt | omega)
  clear bx0
  have bx0_1_l := bx0_1.lt
  have bx2_1 := bx2.below hbz0 (by first | exact bx2.lt | omega)
  clear bx2
  have bx2_1_l := bx2_1.lt
  have B_w2 := bthen B_w1 hbz0
  rcases hz0 with rfl | ⟨zp0, zs0⟩
  · go_wp2_with (fail)
    go_ret
    exact ⟨rfl, B_w2⟩
  have zn0 : ¬ z0 < 0 := by omega
  have r0 : szP p ≤ 1048576 := by omega
  have zl0 : z0 ≤ 1048576 := by omega
  have ZS0 := Lib.hid zs0
  clear zs0
  have q1 : w2.cell? ⟨w.heap.size, 0, none⟩ = some (.slice A0 p.1.length c0) := bx0_1.cell 0
  have q2 : w2.cell? ⟨w.heap.size, 1, none⟩ = some (.slice A0b p.2.length c0b) := bx0_1.cell 1
  have q3 : w2.cell? ⟨w.heap.size + 1, 0, none⟩ = some (.int .i64 f.1) := bx2_1.cell 0
  have q4 : w2.cell? ⟨w.heap.size + 1, 1, none⟩ = some (.slice A2 f.2.length c2) := bx2_1.cell 1
  go_wp2_with (fail)
  clear q1 q2 q3 q4
  refine (us_facts (H1.out.on B_w2) (by omega) (by omega) n1 m1).mono ?_
  rintro e w3 ⟨z1, rfl, hz1, hbz1⟩
  have s_w3 := hbz1.size
  have bx0_2 := bx0_1.below hbz1 (by first | exact bx0_1.lt | omega)
  clear bx0_1
  have bx0_2_l := bx0_2.lt
  have bx2_2 := bx2_1.below hbz1 (by first | exact bx2_1.lt | omega)
  clear bx2_1
  have bx2_2_l := bx2_2.lt
  have B_w3 := bthen B_w2 hbz1
  rcases hz1 with rfl | ⟨zp1, zs1⟩
  · go_wp2_with (fail)
    go_ret
    exact ⟨rfl, B_w3⟩
  have zn1 : ¬ z1 < 0 := by omega
  have r1 : szF fs ≤ 1048576 := by omega
  have zl1 : z1 ≤ 1048576 := by omega
  have ZS1 := Lib.hid zs1
  clear zs1
  have q5 : w3.cell? ⟨w.heap.size, 0, none⟩ = some (.slice A0 p.1.length c0) := bx0_2.cell 0
  have q6 : w3.cell? ⟨w.heap.size, 1, none⟩ = some (.slice A0b p.2.length c0b) := bx0_2.cell 1
  have q7 : w3.cell? ⟨w.heap.size + 1, 0, none⟩ = some (.int .i64 f.1) := bx2_2.cell 0
  have q8 : w3.cell? ⟨w.heap.size + 1, 1, none⟩ = some (.slice A2 f.2.length c2) := bx2_2.cell 1
  go_wp2_with (fail)
  clear q5 q6 q7 q8
  refine (us_fact (H2.out.on B_w3) (by omega) (by omega) n2).mono ?_
  rintro e w4 ⟨z2, rfl, hz2, hbz2⟩
  have s_w4 := hbz2.size
  have bx0_3 := bx0_2.below hbz2 (by first | exact bx0_2.lt | omega)
  clear bx0_2
  have bx0_3_l := bx0_3.lt
  have bx2_3 := bx2_2.below hbz2 (by first | exact bx2_2.lt | omega)
  clear bx2_2
  have bx2_3_l := bx2_3.lt
  have B_w4 := bthen B_w3 hbz2
  rcases hz2 with rfl | ⟨zp2, zs2⟩
  · go_wp2_with (fail)
    go_ret
    exact ⟨rfl, B_w4⟩
  have zn2 : ¬ z2 < 0 := by omega
  have r2 : f.2.length ≤ 1048576 := by omega
  have zl2 : z2 ≤ 1048576 := by omega
  have ZS2 := Lib.hid zs2
  clear zs2 zn2
  have zn2 : ¬ z2 < 0 := by omega
  obtain ⟨R0, hR0⟩ : ∃ R, R = roundOfL p fs f := ⟨_, rfl⟩
  have HR0 := Lib.hid hR0
  clear hR0
  have gb0 : (R0 != R0) = false := by simp
  have q9 : w4.cell? ⟨w.heap.size, 0, none⟩ = some (.slice A0 p.1.length c0) := bx0_3.cell 0
  have q10 : w4.cell? ⟨w.heap.size, 1, none⟩ = some (.slice A0b p.2.length c0b) := bx0_3.cell 1
  have q11 : w4.cell? ⟨w.heap.size + 1, 0, none⟩ = some (.int .i64 f.1) := bx2_3.cell 0
  have q12 : w4.cell? ⟨w.heap.size + 1, 1, none⟩ = some (.slice A2 f.2.length c2) := bx2_3.cell 1
  go_upto_region 11 with fail
  clear q9 q10 q11 q12
  have HS_w4 := Lib.hid (show ∀ W, Below w4.heap.size w4 W → (Below w4.heap.size w4 W ∧ W.cell? ⟨w.heap.size, 0, none⟩ = some (.slice A0 p.1.length c0) ∧ W.cell? ⟨w.heap.size, 1, none⟩ = some (.slice A0b p.2.length c0b) ∧ W.cell? ⟨w.heap.size + 1, 0, none⟩ = some (.int .i64 f.1) ∧ W.cell? ⟨w.heap.size + 1, 1, none⟩ = some (.slice A2 f.2.length c2)) from fun W hW => ⟨hW, (bx0_3.below hW bx0_3_l).cell 0, (bx0_3.below hW bx0_3_l).cell 1, (bx2_3.below hW bx2_3_l).cell 0, (bx2_3.below hW bx2_3_l).cell 1⟩)
  go_cut [8] (fun s0 wx => s0 = .int .i64 R0 ∧ Below w4.heap.size w4 wx)
  case first =>
    go_region_held3 (fun W => Below w4.heap.size w4 W ∧ W.cell? ⟨w.heap.size, 0, none⟩ = some (.slice A0 p.1.length c0) ∧ W.cell? ⟨w.heap.size, 1, none⟩ = some (.slice A0b p.2.length c0b) ∧ W.cell? ⟨w.heap.size + 1, 0, none⟩ = some (.int .i64 f.1) ∧ W.cell? ⟨w.heap.size + 1, 1, none⟩ = some (.slice A2 f.2.length c2))
      (first | exact HS_w4.out _ (Below.refl _ _) | exact HS_w4.out _ (Below.refl _ _).drew | exact HS_w4.out _ (bthen (And.left (by assumption)) (by assumption)))
      (first
        | (go_at_call 8; refine (toProgram_own _ p _ ?_ (by omega)).mono ?_; exact H0.out.on (bthen B_w4 (And.left (by assumption))); rintro e w_0 ⟨P0, d0, P0b, d0b, rfl, o0, g0⟩)
        | (go_at_call 9; refine (toFactS_any _ fs _ ?_ (by unfold szF at *; omega) (by unfold szF at *; omega)).mono ?_; exact H1.out.on (bthen B_w4 (And.left (by assumption))); rintro e w_1 ⟨P1, d1, rfl, o1, g1⟩)
        | (go_at_call 10; refine (toFact_any _ f _ ?_ (by omega)).mono ?_; exact H2.out.on (bthen B_w4 (And.left (by assumption))); rintro e w_2 ⟨P2, d2, rfl, o2, g2⟩)
        | (go_at_call 7; refine (specRoundOf_any _ _ _ p fs f _ (((o0.rd.on g1).on g2)) ((o1.rd.on g2)) ⟨_, rfl, o2.rd⟩ (by omega) (by unfold szF at r1; omega) (by unfold szF at r1; omega) (by omega)).mono ?_; try rw [← HR0.out]; rintro e w_r ⟨rfl, hb_r⟩))
    all_goals (go_wp2_with fail; go_meet; exact ⟨rfl, And.left (by assumption)⟩)
  case rest =>
    obtain ⟨rfl, hb1⟩ := hcut
    clear HS_w4
    generalize wc = w5 at *
    have s_w5 := hb1.size
    have bx0_4 := bx0_3.below hb1 (by first | exact bx0_3.lt | omega)
    clear bx0_3
    have bx0_4_l := bx0_4.lt
    have bx2_4 := bx2_3.below hb1 (by first | exact bx2_3.lt | omega)
    clear bx2_3
    have bx2_4_l := bx2_4.lt
    have B_w5 := bthen B_w4 hb1
    have q13 : w5.cell? ⟨w.heap.size, 0, none⟩ = some (.slice A0 p.1.length c0) := bx0_4.cell 0
    have q14 : w5.cell? ⟨w.heap.size, 1, none⟩ = some (.slice A0b p.2.length c0b) := bx0_4.cell 1
    have q15 : w5.cell? ⟨w.heap.size + 1, 0, none⟩ = some (.int .i64 f.1) := bx2_4.cell 0
    have q16 : w5.cell? ⟨w.heap.size + 1, 1, none⟩ = some (.slice A2 f.2.length c2) := bx2_4.cell 1
    go_wp2_with (fail)
    clear q13 q14 q15 q16
    refine (toProgram_own _ p _ (H0.out.on B_w5) (by omega)).mono ?_
    rintro e w6 ⟨P2, d2, P2b, d2b, rfl, o2, hb2⟩
    have s_w6 := hb2.size
    have bx0_5 := bx0_4.below hb2 (by first | exact bx0_4.lt | omega)
    clear bx0_4
    have bx0_5_l := bx0_5.lt
    have bx2_5 := bx2_4.below hb2 (by first | exact bx2_4.lt | omega)
    clear bx2_4
    have bx2_5_l := bx2_5.lt
    have B_w6 := bthen B_w5 hb2
    have q17 : w6.cell? ⟨w.heap.size, 0, none⟩ = some (.slice A0 p.1.length c0) := bx0_5.cell 0
    have q18 : w6.cell? ⟨w.heap.size, 1, none⟩ = some (.slice A0b p.2.length c0b) := bx0_5.cell 1
    have q19 : w6.cell? ⟨w.heap.size + 1, 0, none⟩ = some (.int .i64 f.1) := bx2_5.cell 0
    have q20 : w6.cell? ⟨w.heap.size + 1, 1, none⟩ = some (.slice A2 f.2.length c2) := bx2_5.cell 1
    go_wp2_with (fail)
    clear q17 q18 q19 q20
    obtain ⟨w7, hw_w7⟩ : ∃ W', W' = w6.alloc (Obj.cells #[Value.slice P2 p.1.length d2, Value.slice P2b p.2.length d2b] 35) := ⟨_, rfl⟩
    rw [← hw_w7]
    have hb_w7 : Below w6.heap.size w6 w7 := by rw [hw_w7]; exact below1 _ _
    have bxx0_n : Blk w7 w6.heap.size 35 #[.slice P2 p.1.length d2, .slice P2b p.2.length d2b] := by rw [hw_w7]; exact Blk.new _ _ _
    have bxx0_nl := bxx0_n.lt
    clear hw_w7
    have s_w7 := hb_w7.size
    have bx0_6 := bx0_5.below hb_w7 (by first | exact bx0_5.lt | omega)
    clear bx0_5
    have bx0_6_l := bx0_6.lt
    have bx2_6 := bx2_5.below hb_w7 (by first | exact bx2_5.lt | omega)
    clear bx2_5
    have bx2_6_l := bx2_6.lt
    have x0_6 := o2.below hb_w7 (by omega)
    clear o2
    have B_w7 := bthen B_w6 hb_w7
    refine (toFactS_any _ fs _ (H1.out.on B_w7) (by unfold szF at *; omega) (by unfold szF at *; omega)).mono ?_
    rintro e w8 ⟨P3, d3, rfl, o3, hb3⟩
    have s_w8 := hb3.size
    have bx0_7 := bx0_6.below hb3 (by first | exact bx0_6.lt | omega)
    clear bx0_6
    have bx0_7_l := bx0_7.lt
    have bx2_7 := bx2_6.below hb3 (by first | exact bx2_6.lt | omega)
    clear bx2_6
    have bx2_7_l := bx2_7.lt
    have x0_7 := x0_6.below hb3 (by omega)
    clear x0_6
    have bxx0_7 := bxx0_n.below hb3 (by first | exact bxx0_n.lt | omega)
    clear bxx0_n
    have bxx0_7_l := bxx0_7.lt
    have B_w8 := bthen B_w7 hb3
    have q21 : w8.cell? ⟨w.heap.size, 0, none⟩ = some (.slice A0 p.1.length c0) := bx0_7.cell 0
    have q22 : w8.cell? ⟨w.heap.size, 1, none⟩ = some (.slice A0b p.2.length c0b) := bx0_7.cell 1
    have q23 : w8.cell? ⟨w.heap.size + 1, 0, none⟩ = some (.int .i64 f.1) := bx2_7.cell 0
    have q24 : w8.cell? ⟨w.heap.size + 1, 1, none⟩ = some (.slice A2 f.2.length c2) := bx2_7.cell 1
    have q25 : w8.cell? ⟨w6.heap.size, 0, none⟩ = some (.slice P2 p.1.length d2) := bxx0_7.cell 0
    have q26 : w8.cell? ⟨w6.heap.size, 1, none⟩ = some (.slice P2b p.2.length d2b) := bxx0_7.cell 1
    go_wp2_with (fail)
    clear q21 q22 q23 q24 q25 q26
    refine (toFact_any _ f _ (H2.out.on B_w8) (by omega)).mono ?_
    rintro e w9 ⟨P4, d4, rfl, o4, hb4⟩
    have s_w9 := hb4.size
    have bx0_8 := bx0_7.below hb4 (by first | exact bx0_7.lt | omega)
    clear bx0_7
    have bx0_8_l := bx0_8.lt
    have bx2_8 := bx2_7.below hb4 (by first | exact bx2_7.lt | omega)
    clear bx2_7
    have bx2_8_l := bx2_8.lt
    have x0_8 := x0_7.below hb4 (by omega)
    clear x0_7
    have bxx0_8 := bxx0_7.below hb4 (by first | exact bxx0_7.lt | omega)
    clear bxx0_7
    have bxx0_8_l := bxx0_8.lt
    have x1_8 := o3.below hb4 (by omega)
    clear o3
    have B_w9 := bthen B_w8 hb4
    have q27 : w9.cell? ⟨w.heap.size, 0, none⟩ = some (.slice A0 p.1.length c0) := bx0_8.cell 0
    have q28 : w9.cell? ⟨w.heap.size, 1, none⟩ = some (.slice A0b p.2.length c0b) := bx0_8.cell 1
    have q29 : w9.cell? ⟨w.heap.size + 1, 0, none⟩ = some (.int .i64 f.1) := bx2_8.cell 0
    have q30 : w9.cell? ⟨w.heap.size + 1, 1, none⟩ = some (.slice A2 f.2.length c2) := bx2_8.cell 1
    have q31 : w9.cell? ⟨w6.heap.size, 0, none⟩ = some (.slice P2 p.1.length d2) := bxx0_8.cell 0
    have q32 : w9.cell? ⟨w6.heap.size, 1, none⟩ = some (.slice P2b p.2.length d2b) := bxx0_8.cell 1
    go_wp2_with (fail)
    clear q27 q28 q29 q30 q31 q32
    obtain ⟨w10, hw_w10⟩ : ∃ W', W' = w9.alloc (Obj.cells #[Value.int IntKind.i64 f.1, Value.slice P4 f.2.length d4] 39) := ⟨_, rfl⟩
    rw [← hw_w10]
    have hb_w10 : Below w9.heap.size w9 w10 := by rw [hw_w10]; exact below1 _ _
    have bxx2_n : Blk w10 w9.heap.size 39 #[.int .i64 f.1, .slice P4 f.2.length d4] := by rw [hw_w10]; exact Blk.new _ _ _
    have bxx2_nl := bxx2_n.lt
    clear hw_w10
    have s_w10 := hb_w10.size
    have bx0_9 := bx0_8.below hb_w10 (by first | exact bx0_8.lt | omega)
    clear bx0_8
    have bx0_9_l := bx0_9.lt
    have bx2_9 := bx2_8.below hb_w10 (by first | exact bx2_8.lt | omega)
    clear bx2_8
    have bx2_9_l := bx2_9.lt
    have x0_9 := x0_8.below hb_w10 (by omega)
    clear x0_8
    have bxx0_9 := bxx0_8.below hb_w10 (by first | exact bxx0_8.lt | omega)
    clear bxx0_8
    have bxx0_9_l := bxx0_9.lt
    have x1_9 := x1_8.below hb_w10 (by omega)
    clear x1_8
    have x2_9 := o4.below hb_w10 (by omega)
    clear o4
    have B_w10 := bthen B_w9 hb_w10
    refine (implRoundOf_any _ _ _ p fs f _ (x0_9.rd.more (by omega)) (x1_9.rd.more (by omega)) ⟨_, rfl, x2_9.rd.more (by omega)⟩ (by omega) (by unfold szF at r1; omega) (by unfold szF at r1; omega) (by omega)).mono ?_
    try rw [← HR0.out]
    rintro e w11 ⟨rfl, hb5⟩
    have s_w11 := hb5.size
    have bx0_10 := bx0_9.below hb5 (by first | exact bx0_9.lt | omega)
    clear bx0_9
    have bx0_10_l := bx0_10.lt
    have bx2_10 := bx2_9.below hb5 (by first | exact bx2_9.lt | omega)
    clear bx2_9
    have bx2_10_l := bx2_10.lt
    have x0_10 := x0_9.below hb5 (by omega)
    clear x0_9
    have bxx0_10 := bxx0_9.below hb5 (by first | exact bxx0_9.lt | omega)
    clear bxx0_9
    have bxx0_10_l := bxx0_10.lt
    have x1_10 := x1_9.below hb5 (by omega)
    clear x1_9
    have x2_10 := x2_9.below hb5 (by omega)
    clear x2_9
    have bxx2_10 := bxx2_n.below hb5 (by first | exact bxx2_n.lt | omega)
    clear bxx2_n
    have bxx2_10_l := bxx2_10.lt
    have B_w11 := bthen B_w10 hb5
    have q33 : w11.cell? ⟨w.heap.size, 0, none⟩ = some (.slice A0 p.1.length c0) := bx0_10.cell 0
    have q34 : w11.cell? ⟨w.heap.size, 1, none⟩ = some (.slice A0b p.2.length c0b) := bx0_10.cell 1
    have q35 : w11.cell? ⟨w.heap.size + 1, 0, none⟩ = some (.int .i64 f.1) := bx2_10.cell 0
    have q36 : w11.cell? ⟨w.heap.size + 1, 1, none⟩ = some (.slice A2 f.2.length c2) := bx2_10.cell 1
    have q37 : w11.cell? ⟨w6.heap.size, 0, none⟩ = some (.slice P2 p.1.length d2) := bxx0_10.cell 0
    have q38 : w11.cell? ⟨w6.heap.size, 1, none⟩ = some (.slice P2b p.2.length d2b) := bxx0_10.cell 1
    have q39 : w11.cell? ⟨w9.heap.size, 0, none⟩ = some (.int .i64 f.1) := bxx2_10.cell 0
    have q40 : w11.cell? ⟨w9.heap.size, 1, none⟩ = some (.slice P4 f.2.length d4) := bxx2_10.cell 1
    go_upto_region 18 with fail
    clear q33 q34 q35 q36 q37 q38 q39 q40
    have HS_w11 := Lib.hid (show ∀ W, Below w11.heap.size w11 W → (Below w11.heap.size w11 W ∧ W.cell? ⟨w.heap.size, 0, none⟩ = some (.slice A0 p.1.length c0) ∧ W.cell? ⟨w.heap.size, 1, none⟩ = some (.slice A0b p.2.length c0b) ∧ W.cell? ⟨w.heap.size + 1, 0, none⟩ = some (.int .i64 f.1) ∧ W.cell? ⟨w.heap.size + 1, 1, none⟩ = some (.slice A2 f.2.length c2) ∧ W.cell? ⟨w6.heap.size, 0, none⟩ = some (.slice P2 p.1.length d2) ∧ W.cell? ⟨w6.heap.size, 1, none⟩ = some (.slice P2b p.2.length d2b) ∧ W.cell? ⟨w9.heap.size, 0, none⟩ = some (.int .i64 f.1) ∧ W.cell? ⟨w9.heap.size, 1, none⟩ = some (.slice P4 f.2.length d4)) from fun W hW => ⟨hW, (bx0_10.below hW bx0_10_l).cell 0, (bx0_10.below hW bx0_10_l).cell 1, (bx2_10.below hW bx2_10_l).cell 0, (bx2_10.below hW bx2_10_l).cell 1, (bxx0_10.below hW bxx0_10_l).cell 0, (bxx0_10.below hW bxx0_10_l).cell 1, (bxx2_10.below hW bxx2_10_l).cell 0, (bxx2_10.below hW bxx2_10_l).cell 1⟩)
    have RX_w11 := Lib.hid (show RdProg w11 w11.heap.size (.agg #[.slice P2 p.1.length d2, .slice P2b p.2.length d2b]) p from x0_10.rd.more (by omega))
    go_cut [52] (fun s wx => s = .bool false ∧ Below w11.heap.size w11 wx)
    case first =>
      go_region_held3 (fun W => Below w11.heap.size w11 W ∧ W.cell? ⟨w.heap.size, 0, none⟩ = some (.slice A0 p.1.length c0) ∧ W.cell? ⟨w.heap.size, 1, none⟩ = some (.slice A0b p.2.length c0b) ∧ W.cell? ⟨w.heap.size + 1, 0, none⟩ = some (.int .i64 f.1) ∧ W.cell? ⟨w.heap.size + 1, 1, none⟩ = some (.slice A2 f.2.length c2) ∧ W.cell? ⟨w6.heap.size, 0, none⟩ = some (.slice P2 p.1.length d2) ∧ W.cell? ⟨w6.heap.size, 1, none⟩ = some (.slice P2b p.2.length d2b) ∧ W.cell? ⟨w9.heap.size, 0, none⟩ = some (.int .i64 f.1) ∧ W.cell? ⟨w9.heap.size, 1, none⟩ = some (.slice P4 f.2.length d4))
        (first | exact HS_w11.out _ (Below.refl _ _) | exact HS_w11.out _ (Below.refl _ _).drew | exact HS_w11.out _ (bthen (And.left (by assumption)) (by assumption)))
        (first
          | (go_at_call 8; refine (toProgram_own _ p _ ?_ (by omega)).mono ?_; exact H0.out.on (bthen B_w11 (And.left (by assumption))); rintro e wf ⟨Af, cf, Ag, cg, rfl, hof, hbf⟩)
          | (go_at_call 12; refine (eqProgram_any _ _ p p _ ?_ ?_ (by omega) (by omega)).mono ?_; exact (RX_w11.out.on (And.left (by assumption))); exact hof.rd; rw [show decide (p = p) = true by simp]; rintro e wg ⟨rfl, hbg⟩))
      all_goals (go_wp2_with fail; go_meet; exact ⟨rfl, And.left (by assumption)⟩)
    case rest =>
      obtain ⟨rfl, hb6⟩ := hcut
      clear HS_w11 RX_w11
      generalize wc = w12 at *
      have s_w12 := hb6.size
      have bx0_11 := bx0_10.below hb6 (by first | exact bx0_10.lt | omega)
      clear bx0_10
      have bx0_11_l := bx0_11.lt
      have bx2_11 := bx2_10.below hb6 (by first | exact bx2_10.lt | omega)
      clear bx2_10
      have bx2_11_l := bx2_11.lt
      have x0_11 := x0_10.below hb6 (by omega)
      clear x0_10
      have bxx0_11 := bxx0_10.below hb6 (by first | exact bxx0_10.lt | omega)
      clear bxx0_10
      have bxx0_11_l := bxx0_11.lt
      have x1_11 := x1_10.below hb6 (by omega)
      clear x1_10
      have x2_11 := x2_10.below hb6 (by omega)
      clear x2_10
      have bxx2_11 := bxx2_10.below hb6 (by first | exact bxx2_10.lt | omega)
      clear bxx2_10
      have bxx2_11_l := bxx2_11.lt
      have B_w12 := bthen B_w11 hb6
      have q41 : w12.cell? ⟨w.heap.size, 0, none⟩ = some (.slice A0 p.1.length c0) := bx0_11.cell 0
      have q42 : w12.cell? ⟨w.heap.size, 1, none⟩ = some (.slice A0b p.2.length c0b) := bx0_11.cell 1
      have q43 : w12.cell? ⟨w.heap.size + 1, 0, none⟩ = some (.int .i64 f.1) := bx2_11.cell 0
      have q44 : w12.cell? ⟨w.heap.size + 1, 1, none⟩ = some (.slice A2 f.2.length c2) := bx2_11.cell 1
      have q45 : w12.cell? ⟨w6.heap.size, 0, none⟩ = some (.slice P2 p.1.length d2) := bxx0_11.cell 0
      have q46 : w12.cell? ⟨w6.heap.size, 1, none⟩ = some (.slice P2b p.2.length d2b) := bxx0_11.cell 1
      have q47 : w12.cell? ⟨w9.heap.size, 0, none⟩ = some (.int .i64 f.1) := bxx2_11.cell 0
      have q48 : w12.cell? ⟨w9.heap.size, 1, none⟩ = some (.slice P4 f.2.length d4) := bxx2_11.cell 1
      go_wp2_with (fail)
      clear q41 q42 q43 q44 q45 q46 q47 q48
      refine (toFactS_any _ fs _ (H1.out.on B_w12) (by unfold szF at *; omega) (by unfold szF at *; omega)).mono ?_
      rintro e w13 ⟨P7, d7, rfl, o7, hb7⟩
      have s_w13 := hb7.size
      have bx0_12 := bx0_11.below hb7 (by first | exact bx0_11.lt | omega)
      clear bx0_11
      have bx0_12_l := bx0_12.lt
      have bx2_12 := bx2_11.below hb7 (by first | exact bx2_11.lt | omega)
      clear bx2_11
      have bx2_12_l := bx2_12.lt
      have x0_12 := x0_11.below hb7 (by omega)
      clear x0_11
      have bxx0_12 := bxx0_11.below hb7 (by first | exact bxx0_11.lt | omega)
      clear bxx0_11
      have bxx0_12_l := bxx0_12.lt
      have x1_12 := x1_11.below hb7 (by omega)
      clear x1_11
      have x2_12 := x2_11.below hb7 (by omega)
      clear x2_11
      have bxx2_12 := bxx2_11.below hb7 (by first | exact bxx2_11.lt | omega)
      clear bxx2_11
      have bxx2_12_l := bxx2_12.lt
      have B_w13 := bthen B_w12 hb7
      have q49 : w13.cell? ⟨w.heap.size, 0, none⟩ = some (.slice A0 p.1.length c0) := bx0_12.cell 0
      have q50 : w13.cell? ⟨w.heap.size, 1, none⟩ = some (.slice A0b p.2.length c0b) := bx0_12.cell 1
      have q51 : w13.cell? ⟨w.heap.size + 1, 0, none⟩ = some (.int .i64 f.1) := bx2_12.cell 0
      have q52 : w13.cell? ⟨w.heap.size + 1, 1, none⟩ = some (.slice A2 f.2.length c2) := bx2_12.cell 1
      have q53 : w13.cell? ⟨w6.heap.size, 0, none⟩ = some (.slice P2 p.1.length d2) := bxx0_12.cell 0
      have q54 : w13.cell? ⟨w6.heap.size, 1, none⟩ = some (.slice P2b p.2.length d2b) := bxx0_12.cell 1
      have q55 : w13.cell? ⟨w9.heap.size, 0, none⟩ = some (.int .i64 f.1) := bxx2_12.cell 0
      have q56 : w13.cell? ⟨w9.heap.size, 1, none⟩ = some (.slice P4 f.2.length d4) := bxx2_12.cell 1
      go_wp2_with (fail)
      clear q49 q50 q51 q52 q53 q54 q55 q56
      refine (eqFactS_any _ _ fs fs _ (x1_12.rd.more (by omega)) (o7.rd.more (by omega)) (by unfold szF at *; omega) (by unfold szF at *; omega) (by unfold szF at *; omega) (by unfold szF at *; omega)).mono ?_
      rintro e w14 ⟨rfl, hb8⟩
      rw [show decide (fs = fs) = true by simp]
      have s_w14 := hb8.size
      have bx0_13 := bx0_12.below hb8 (by first | exact bx0_12.lt | omega)
      clear bx0_12
      have bx0_13_l := bx0_13.lt
      have bx2_13 := bx2_12.below hb8 (by first | exact bx2_12.lt | omega)
      clear bx2_12
      have bx2_13_l := bx2_13.lt
      have x0_13 := x0_12.below hb8 (by omega)
      clear x0_12
      have bxx0_13 := bxx0_12.below hb8 (by first | exact bxx0_12.lt | omega)
      clear bxx0_12
      have bxx0_13_l := bxx0_13.lt
      have x1_13 := x1_12.below hb8 (by omega)
      clear x1_12
      have x2_13 := x2_12.below hb8 (by omega)
      clear x2_12
      have bxx2_13 := bxx2_12.below hb8 (by first | exact bxx2_12.lt | omega)
      clear bxx2_12
      have bxx2_13_l := bxx2_13.lt
      have B_w14 := bthen B_w13 hb8
      have q57 : w14.cell? ⟨w.heap.size, 0, none⟩ = some (.slice A0 p.1.length c0) := bx0_13.cell 0
      have q58 : w14.cell? ⟨w.heap.size, 1, none⟩ = some (.slice A0b p.2.length c0b) := bx0_13.cell 1
      have q59 : w14.cell? ⟨w.heap.size + 1, 0, none⟩ = some (.int .i64 f.1) := bx2_13.cell 0
      have q60 : w14.cell? ⟨w.heap.size + 1, 1, none⟩ = some (.slice A2 f.2.length c2) := bx2_13.cell 1
      have q61 : w14.cell? ⟨w6.heap.size, 0, none⟩ = some (.slice P2 p.1.length d2) := bxx0_13.cell 0
      have q62 : w14.cell? ⟨w6.heap.size, 1, none⟩ = some (.slice P2b p.2.length d2b) := bxx0_13.cell 1
      have q63 : w14.cell? ⟨w9.heap.size, 0, none⟩ = some (.int .i64 f.1) := bxx2_13.cell 0
      have q64 : w14.cell? ⟨w9.heap.size, 1, none⟩ = some (.slice P4 f.2.length d4) := bxx2_13.cell 1
      go_upto_region 22 with fail
      clear q57 q58 q59 q60 q61 q62 q63 q64
      have HS_w14 := Lib.hid (show ∀ W, Below w14.heap.size w14 W → (Below w14.heap.size w14 W ∧ W.cell? ⟨w.heap.size, 0, none⟩ = some (.slice A0 p.1.length c0) ∧ W.cell? ⟨w.heap.size, 1, none⟩ = some (.slice A0b p.2.length c0b) ∧ W.cell? ⟨w.heap.size + 1, 0, none⟩ = some (.int .i64 f.1) ∧ W.cell? ⟨w.heap.size + 1, 1, none⟩ = some (.slice A2 f.2.length c2) ∧ W.cell? ⟨w6.heap.size, 0, none⟩ = some (.slice P2 p.1.length d2) ∧ W.cell? ⟨w6.heap.size, 1, none⟩ = some (.slice P2b p.2.length d2b) ∧ W.cell? ⟨w9.heap.size, 0, none⟩ = some (.int .i64 f.1) ∧ W.cell? ⟨w9.heap.size, 1, none⟩ = some (.slice P4 f.2.length d4)) from fun W hW => ⟨hW, (bx0_13.below hW bx0_13_l).cell 0, (bx0_13.below hW bx0_13_l).cell 1, (bx2_13.below hW bx2_13_l).cell 0, (bx2_13.below hW bx2_13_l).cell 1, (bxx0_13.below hW bxx0_13_l).cell 0, (bxx0_13.below hW bxx0_13_l).cell 1, (bxx2_13.below hW bxx2_13_l).cell 0, (bxx2_13.below hW bxx2_13_l).cell 1⟩)
      have RX_w14 := Lib.hid (show RdFact w14 w14.heap.size (.agg #[.int .i64 f.1, .slice P4 f.2.length d4]) f from ⟨_, rfl, x2_13.rd.more (by omega)⟩)
      go_region_held3 (fun W => Below w14.heap.size w14 W ∧ W.cell? ⟨w.heap.size, 0, none⟩ = some (.slice A0 p.1.length c0) ∧ W.cell? ⟨w.heap.size, 1, none⟩ = some (.slice A0b p.2.length c0b) ∧ W.cell? ⟨w.heap.size + 1, 0, none⟩ = some (.int .i64 f.1) ∧ W.cell? ⟨w.heap.size + 1, 1, none⟩ = some (.slice A2 f.2.length c2) ∧ W.cell? ⟨w6.heap.size, 0, none⟩ = some (.slice P2 p.1.length d2) ∧ W.cell? ⟨w6.heap.size, 1, none⟩ = some (.slice P2b p.2.length d2b) ∧ W.cell? ⟨w9.heap.size, 0, none⟩ = some (.int .i64 f.1) ∧ W.cell? ⟨w9.heap.size, 1, none⟩ = some (.slice P4 f.2.length d4))
        (first | exact HS_w14.out _ (Below.refl _ _) | exact HS_w14.out _ (Below.refl _ _).drew | exact HS_w14.out _ (bthen (And.left (by assumption)) (by assumption)))
        (first
          | (go_at_call 10; refine (toFact_any _ f _ ?_ (by omega)).mono ?_; exact H2.out.on (bthen B_w14 (And.left (by assumption))); rintro e wf ⟨Af, cf, rfl, hof, hbf⟩)
          | (go_at_call 14; refine (eqFact_any _ _ f f _ ?_ ?_ (by omega) (by omega)).mono ?_; exact (RX_w14.out.on (And.left (by assumption))); exact ⟨_, rfl, hof.rd⟩; rw [show decide (f = f) = true by simp]; rintro e wg ⟨rfl, hbg⟩))
      all_goals
        go_wp2_with (fail)
        go_ret
        exact ⟨rfl, bthen B_w14 (And.left (by assumption))⟩

theorem lawRoundOf_in (v0 : Value) (v1 : Value) (v2 : Value) (p : LProg) (fs : List LFact) (f : LFact) (w : World) (h0 : InProg w v0 p) (h1 : InFacts w v1 fs) (h2 : InFact w v2 f) : Calls Tryz.prog 3 #[v0, v1, v2] w fun e w' => e = .returned (.bool true) ∧ Below w.heap.size w w' :=
  lawRoundOf_any v0 v1 v2 p fs f w h0.1 h1.1 h2.1 (progLens_in h0.2) h1.2.1 h1.2.2 h2.2

end Go.Proofs.YtigkgheddngkeaaGreat
/-
  The law FnExactRoundOf: for every input the call returns true, and each argument reads behind it as it read before. Conditions: none but the row's own.
-/
namespace Go.Proofs.YtigkgheddngkeaaGreat
open Go.ChangeShapes Go.WideShapes Go.ChangeAt Go.RowKit

set_option maxRecDepth 100000 in
theorem fnExactRoundOf_lifted (os : Os) (started : os.Started) (H : Type) (enc : TypeId × Value → H) :
    ReturnsInHanded {} Tryz.checked os 3 .any (Rows.fnExactRoundOfSpec.pre6 enc Tryz.prog Tryz.f3 Rows.fnExactRoundOfRow.domain false) (Rows.fnExactRoundOfSpec.post enc Tryz.prog Tryz.f3 false true false false) := by
  refine returnsInHanded_of_change (C := Tryz.checked) Tryz.own started (by kernel_rfl) Tryz.func3
    (ChangeSpec.witness6 (enc := enc) (C := Tryz.checked) false ⟨#[], #[.agg #[.slice none 0 0, .slice none 0 0], .slice none 0 0, .agg #[.int .i64 0, .slice none 0 0]], []⟩ 8 (by kernel_rfl) (by kernel_rfl) (by kernel_rfl) (by kernel_rfl)) ?_
  intro W base args ds gs before hval0 hW hcnd _
  have hval : ∀ (j : Nat) t v, Tryz.f3.params[j]? = some t → args[j]? = some v → Value.okWide Tryz.prog W .any base t v := hval0
  have hW' := hW
  obtain ⟨p, q, hA0, hV, rfl, hfz, hnd⟩ := hW
  have hA : DataW.TrodAll enc Tryz.prog W 0 (fun _ => true) true Tryz.f3.params.toList args.toList ds p := hA0
  rw [Tryz.params3] at hA hval
  obtain ⟨v0, vs0, d0, ds0, p0, q0, hargs, rfl, rfl, h0, r0⟩ := trodAll_cons hA
  obtain ⟨v1, vs1, d1, ds1, p1, q1, rfl, rfl, rfl, h1, r1⟩ := trodAll_cons r0
  obtain ⟨v2, vs2, d2, ds2, p2, q2, rfl, rfl, rfl, h2, r2⟩ := trodAll_cons r1
  obtain ⟨rfl, rfl, rfl⟩ := trodAll_nil r2
  obtain rfl : args = #[v0, v1, v2] := by cases args; simp_all
  obtain ⟨rfl, rfl⟩ := trodVars_none hV
  have lt0 : ∀ x ∈ p0, x.block < W.heap.size := by obtain ⟨m, hm⟩ := h0; exact DataW.trod_lt m _ _ _ hm
  obtain ⟨x0, w0⟩ := open_inProg (hval 0 25 v0 rfl rfl) h0
  have lt1 : ∀ x ∈ p1, x.block < W.heap.size := by obtain ⟨m, hm⟩ := h1; exact DataW.trod_lt m _ _ _ hm
  obtain ⟨x1, w1⟩ := open_inFacts (hval 1 26 v1 rfl rfl) h1
  have lt2 : ∀ x ∈ p2, x.block < W.heap.size := by obtain ⟨m, hm⟩ := h2; exact DataW.trod_lt m _ _ _ hm
  obtain ⟨x2, w2⟩ := open_inFact (hval 2 28 v2 rfl rfl) h2
  clear hA0 hval0
  refine (lawRoundOf_in v0 v1 v2 x0 x1 x2 W w0 w1 w2).mono fun e W' ⟨he, bel⟩ => ?_
  subst he
  exact ⟨_, rfl, _, _, _, [], _, [], hW', trodAll_mk1 (shut_bool Tryz.underlying4 _), (trodAll_cons_mk (Below.trod Tryz.laidOut (by kernel_rfl) (of_decide_eq_true (by kernel_rfl)) h0 bel lt0) (trodAll_cons_mk (Below.trod Tryz.laidOut (by kernel_rfl) (of_decide_eq_true (by kernel_rfl)) h1 bel lt1) (trodAll_cons_mk (Below.trod Tryz.laidOut (by kernel_rfl) (of_decide_eq_true (by kernel_rfl)) h2 bel lt2) trodAll_mk0))), rfl, bel.frame _, fun h => by cases h⟩

end Go.Proofs.YtigkgheddngkeaaGreat
/-
  The law FnExactRoundOf: for every input the call returns true, and each argument reads behind it as it read before. Conditions: none but the row's own.
-/
namespace Go.Proofs.YtigkgheddngkeaaGreat
open Go.ChangeShapes Go.WideShapes Go.ChangeAt Go.RowKit

theorem fnExactRoundOf_holds : Rows.FnExactRoundOfSaid :=
  OpenClaim.holds_of_wide 3 Tryz.f3 rfl rfl rfl rfl rfl rfl rfl ⟨rfl, rfl, rfl, rfl, rfl⟩ rfl rfl rfl rfl rfl (by kernel_rfl) Tryz.func3 fnExactRoundOf_joined
    (of_decide_eq_true (by kernel_rfl)) (by unfold Func.isWrapper; rw [if_neg (of_decide_eq_false (by kernel_rfl))]; exact ⟨rfl, rfl⟩)
    (fun os started H enc _ => fnExactRoundOf_lifted os started H enc)

end Go.Proofs.YtigkgheddngkeaaGreat
namespace Go.Proofs.YtigkgheddngkeaaGreat
open Go.ChangeShapes Go.WideShapes Go.ChangeAt Go.RowKit


end Go.Proofs.YtigkgheddngkeaaGreat
