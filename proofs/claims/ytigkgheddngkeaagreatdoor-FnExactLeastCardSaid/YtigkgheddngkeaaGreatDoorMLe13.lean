/-
  The law FnExactLeast: for every input the call returns true, and each argument reads behind it as it read before. Conditions: none but the row's own.
-/
import Derived.Deep.RegionHeld3
import Derived.Deep.DeepCutAuto
import Derived.Deep.RegionWith
import Derived.Test.YtigkgheddngkeaaGreatDoorRows
import Derived.Test.YtigkgheddngkeaaGreatDoorCards
import Derived.Test.YtigkgheddngkeaaGreatDoorTie
import Derived.Lay
import Derived.SevenTiedAt
import Derived.Test.YtigkgheddngkeaaGreatDoorLeastJoin
import Derived.Test.YtigkgheddngkeaaGreatDoorJFm
import Derived.Test.YtigkgheddngkeaaGreatDoorJFg
import Derived.Test.YtigkgheddngkeaaGreatDoorLeastGoes
import Derived.Test.YtigkgheddngkeaaGreatDoorMLe2
import Derived.Test.YtigkgheddngkeaaGreatDoorMLe9
import Derived.Test.YtigkgheddngkeaaGreatDoorMLe12
/-
  The walk of the law on Least (written by wip/genlaw.py).
-/
namespace Go.Proofs.YtigkgheddngkeaaGreatDoor
open Go.RowKit

set_option maxHeartbeats 4000000 in
set_option maxRecDepth 100000 in
theorem lawLeast_any (v0 : Value) (v1 : Value) (p : LProg) (fs : List LFact) (w : World) (h0 : RdProg w w.heap.size v0 p) (h1 : RdFacts w w.heap.size v1 fs) (n0 : progLens p) (n1 : fs.length ≤ maxLen) (m1 : ∀ k (h : k < fs.length), fs[k].2.length ≤ maxLen) (hT : Tab w) :
    Calls Tryz.prog 4 #[v0, v1] w fun e w' => e = .returned (.bool true) ∧ Below w.heap.size w w' := by
  have HT := Lib.hid hT
  clear hT
  have H0 := Lib.hid h0
  obtain ⟨_, _, rfl, ⟨A0, c0, rfl, hc0, _⟩, ⟨A0b, c0b, rfl, hc0b, _⟩⟩ := h0
  have H1 := Lib.hid h1
  obtain ⟨A1, c1, rfl, hc1, _⟩ := h1
  go_enter Tryz.func4, Tryz.ntmps4
  go_wp2_with (fail)
  obtain ⟨w1, hw_w1⟩ : ∃ W', W' = w.alloc (Obj.cells #[Value.slice A0 p.1.length c0, Value.slice A0b p.2.length c0b] 25) := ⟨_, rfl⟩
  rw [← hw_w1]
  have B_w1 : Below w.heap.size w w1 := by rw [hw_w1]; exact below1 _ _
  have bx0 : Blk w1 (w.heap.size + 0) 25 #[.slice A0 p.1.length c0, .slice A0b p.2.length c0b] := by
    rw [hw_w1]
    have := (Blk.new w 25 #[.slice A0 p.1.length c0, .slice A0b p.2.length c0b])
    simpa using this
  have bx0_l := bx0.lt
  rw [Nat.add_zero] at bx0 bx0_l
  have s_w1 := B_w1.size
  clear hw_w1
  refine (us_prog (H0.out.on B_w1) (by omega) (by omega) n0).mono ?_
  rintro e w2 ⟨z0, rfl, hz0, hbz0⟩
  have s_w2 := hbz0.size
  have bx0_1 := bx0.below hbz0 (by first | exact bx0.lt | omega)
  clear bx0
  have bx0_1_l := bx0_1.lt
  have B_w2 := bthen B_w1 hbz0
  rcases hz0 with rfl | ⟨zp0, zs0⟩
  · go_wp2_with (fail)
    go_ret
    exact ⟨rfl, B_w2⟩
  have zn0 : ¬ z0 < 0 := by omega
  have r0 : szP p ≤ 1048576 := by omega
  have zl0 : z0 ≤ 1048576 := by omega
  have ZS0 := Lib.hid zs0
  clear zs0
  have q1 : w2.cell? ⟨w.heap.size, 0, none⟩ = some (.slice A0 p.1.length c0) := bx0_1.cell 0
  have q2 : w2.cell? ⟨w.heap.size, 1, none⟩ = some (.slice A0b p.2.length c0b) := bx0_1.cell 1
  go_wp2_with (fail)
  clear q1 q2
  refine (us_facts (H1.out.on B_w2) (by omega) (by omega) n1 m1).mono ?_
  rintro e w3 ⟨z1, rfl, hz1, hbz1⟩
  have s_w3 := hbz1.size
  have bx0_2 := bx0_1.below hbz1 (by first | exact bx0_1.lt | omega)
  clear bx0_1
  have bx0_2_l := bx0_2.lt
  have B_w3 := bthen B_w2 hbz1
  rcases hz1 with rfl | ⟨zp1, zs1⟩
  · go_wp2_with (fail)
    go_ret
    exact ⟨rfl, B_w3⟩
  have zn1 : ¬ z1 < 0 := by omega
  have r1 : szF fs ≤ 1048576 := by omega
  have zl1 : z1 ≤ 1048576 := by omega
  have ZS1 := Lib.hid zs1
  clear zs1 zn1
  have zn1 : ¬ z1 < 0 := by omega
  obtain ⟨R0, hR0⟩ : ∃ R, R = leastL p fs := ⟨_, rfl⟩
  have HR0 := Lib.hid hR0
  have HRs0 := Lib.hid (show szF R0 ≤ 1048576 by rw [hR0]; have := leastL_few p fs; unfold szF; omega)
  clear hR0
  have q3 : w3.cell? ⟨w.heap.size, 0, none⟩ = some (.slice A0 p.1.length c0) := bx0_2.cell 0
  have q4 : w3.cell? ⟨w.heap.size, 1, none⟩ = some (.slice A0b p.2.length c0b) := bx0_2.cell 1
  go_wp2_with (fail)
  clear q3 q4
  refine (toProgram_own _ p _ (H0.out.on B_w3) (by omega)).mono ?_
  rintro e w4 ⟨P1, d1, P1b, d1b, rfl, o1, hb1⟩
  have s_w4 := hb1.size
  have bx0_3 := bx0_2.below hb1 (by first | exact bx0_2.lt | omega)
  clear bx0_2
  have bx0_3_l := bx0_3.lt
  have B_w4 := bthen B_w3 hb1
  have q5 : w4.cell? ⟨w.heap.size, 0, none⟩ = some (.slice A0 p.1.length c0) := bx0_3.cell 0
  have q6 : w4.cell? ⟨w.heap.size, 1, none⟩ = some (.slice A0b p.2.length c0b) := bx0_3.cell 1
  go_wp2_with (fail)
  clear q5 q6
  refine (toFactS_any _ fs _ (H1.out.on B_w4) (by unfold szF at *; omega) (by unfold szF at *; omega)).mono ?_
  rintro e w5 ⟨P2, d2, rfl, o2, hb2⟩
  have s_w5 := hb2.size
  have bx0_4 := bx0_3.below hb2 (by first | exact bx0_3.lt | omega)
  clear bx0_3
  have bx0_4_l := bx0_4.lt
  have tw0_4 := o1.below hb2 (by omega)
  clear o1
  have B_w5 := bthen B_w4 hb2
  have q7 : w5.cell? ⟨w.heap.size, 0, none⟩ = some (.slice A0 p.1.length c0) := bx0_4.cell 0
  have q8 : w5.cell? ⟨w.heap.size, 1, none⟩ = some (.slice A0b p.2.length c0b) := bx0_4.cell 1
  go_wp2_with (fail)
  clear q7 q8
  refine (specLeast_any _ _ p fs _ (tw0_4.rd.more (by omega)) (o2.rd.more (by omega)) (by omega) (by unfold szF at r1; omega) (by unfold szF at r1; omega)).mono ?_
  rw [← HR0.out]
  rintro e w6 ⟨Q3_0, f3_0, rfl, o3_0, hb3⟩
  have s_w6 := hb3.size
  have bx0_5 := bx0_4.below hb3 (by first | exact bx0_4.lt | omega)
  clear bx0_4
  have bx0_5_l := bx0_5.lt
  have tw0_5 := tw0_4.below hb3 (by omega)
  clear tw0_4
  have tw1_5 := o2.below hb3 (by omega)
  clear o2
  have B_w6 := bthen B_w5 hb3
  have q9 : w6.cell? ⟨w.heap.size, 0, none⟩ = some (.slice A0 p.1.length c0) := bx0_5.cell 0
  have q10 : w6.cell? ⟨w.heap.size, 1, none⟩ = some (.slice A0b p.2.length c0b) := bx0_5.cell 1
  go_wp2_with (fail)
  clear q9 q10
  refine (toProgram_own _ p _ (H0.out.on B_w6) (by omega)).mono ?_
  rintro e w7 ⟨P4, d4, P4b, d4b, rfl, o4, hb4⟩
  have s_w7 := hb4.size
  have bx0_6 := bx0_5.below hb4 (by first | exact bx0_5.lt | omega)
  clear bx0_5
  have bx0_6_l := bx0_6.lt
  have w0_6 := o3_0.below hb4 (by omega)
  clear o3_0
  have B_w7 := bthen B_w6 hb4
  have q11 : w7.cell? ⟨w.heap.size, 0, none⟩ = some (.slice A0 p.1.length c0) := bx0_6.cell 0
  have q12 : w7.cell? ⟨w.heap.size, 1, none⟩ = some (.slice A0b p.2.length c0b) := bx0_6.cell 1
  go_wp2_with (fail)
  clear q11 q12
  obtain ⟨w8, hw_w8⟩ : ∃ W', W' = w7.alloc (Obj.cells #[Value.slice P4 p.1.length d4, Value.slice P4b p.2.length d4b] 33) := ⟨_, rfl⟩
  rw [← hw_w8]
  have hb_w8 : Below w7.heap.size w7 w8 := by rw [hw_w8]; exact below1 _ _
  have bxx0_n : Blk w8 w7.heap.size 33 #[.slice P4 p.1.length d4, .slice P4b p.2.length d4b] := by rw [hw_w8]; exact Blk.new _ _ _
  have bxx0_nl := bxx0_n.lt
  clear hw_w8
  have s_w8 := hb_w8.size
  have bx0_7 := bx0_6.below hb_w8 (by first | exact bx0_6.lt | omega)
  clear bx0_6
  have bx0_7_l := bx0_7.lt
  have w0_7 := w0_6.below hb_w8 (by omega)
  clear w0_6
  have x0_7 := o4.below hb_w8 (by omega)
  clear o4
  have B_w8 := bthen B_w7 hb_w8
  refine (toFactS_any _ fs _ (H1.out.on B_w8) (by unfold szF at *; omega) (by unfold szF at *; omega)).mono ?_
  rintro e w9 ⟨P5, d5, rfl, o5, hb5⟩
  have s_w9 := hb5.size
  have bx0_8 := bx0_7.below hb5 (by first | exact bx0_7.lt | omega)
  clear bx0_7
  have bx0_8_l := bx0_8.lt
  have w0_8 := w0_7.below hb5 (by omega)
  clear w0_7
  have x0_8 := x0_7.below hb5 (by omega)
  clear x0_7
  have bxx0_8 := bxx0_n.below hb5 (by first | exact bxx0_n.lt | omega)
  clear bxx0_n
  have bxx0_8_l := bxx0_8.lt
  have B_w9 := bthen B_w8 hb5
  have q13 : w9.cell? ⟨w.heap.size, 0, none⟩ = some (.slice A0 p.1.length c0) := bx0_8.cell 0
  have q14 : w9.cell? ⟨w.heap.size, 1, none⟩ = some (.slice A0b p.2.length c0b) := bx0_8.cell 1
  have q15 : w9.cell? ⟨w7.heap.size, 0, none⟩ = some (.slice P4 p.1.length d4) := bxx0_8.cell 0
  have q16 : w9.cell? ⟨w7.heap.size, 1, none⟩ = some (.slice P4b p.2.length d4b) := bxx0_8.cell 1
  go_wp2_with (fail)
  clear q13 q14 q15 q16
  refine (implLeast_any _ _ p fs _ (x0_8.rd.more (by omega)) (o5.rd.more (by omega)) (by omega) (by unfold szF at r1; omega) (by unfold szF at r1; omega) (HT.out.below B_w9)).mono ?_
  rw [← HR0.out]
  rintro e w10 ⟨Q6_0, f6_0, rfl, o6_0, hb6⟩
  have s_w10 := hb6.size
  have bx0_9 := bx0_8.below hb6 (by first | exact bx0_8.lt | omega)
  clear bx0_8
  have bx0_9_l := bx0_9.lt
  have w0_9 := w0_8.below hb6 (by omega)
  clear w0_8
  have x0_9 := x0_8.below hb6 (by omega)
  clear x0_8
  have bxx0_9 := bxx0_8.below hb6 (by first | exact bxx0_8.lt | omega)
  clear bxx0_8
  have bxx0_9_l := bxx0_9.lt
  have x1_9 := o5.below hb6 (by omega)
  clear o5
  have B_w10 := bthen B_w9 hb6
  have q17 : w10.cell? ⟨w.heap.size, 0, none⟩ = some (.slice A0 p.1.length c0) := bx0_9.cell 0
  have q18 : w10.cell? ⟨w.heap.size, 1, none⟩ = some (.slice A0b p.2.length c0b) := bx0_9.cell 1
  have q19 : w10.cell? ⟨w7.heap.size, 0, none⟩ = some (.slice P4 p.1.length d4) := bxx0_9.cell 0
  have q20 : w10.cell? ⟨w7.heap.size, 1, none⟩ = some (.slice P4b p.2.length d4b) := bxx0_9.cell 1
  go_wp2_with (fail)
  clear q17 q18 q19 q20
  refine (eqFactS_any _ _ R0 R0 _ (o6_0.rd.more (by omega)) (w0_9.rd.more (by omega)) (by have := HRs0.out; unfold szF at this; omega) (by have := HRs0.out; unfold szF at this; omega) (by have := HRs0.out; unfold szF at this; omega) (by have := HRs0.out; unfold szF at this; omega)).mono ?_
  rintro e w11 ⟨rfl, hb7⟩
  rw [show decide (R0 = R0) = true by simp]
  have s_w11 := hb7.size
  have bx0_10 := bx0_9.below hb7 (by first | exact bx0_9.lt | omega)
  clear bx0_9
  have bx0_10_l := bx0_10.lt
  have w0_10 := w0_9.below hb7 (by omega)
  clear w0_9
  have x0_10 := x0_9.below hb7 (by omega)
  clear x0_9
  have bxx0_10 := bxx0_9.below hb7 (by first | exact bxx0_9.lt | omega)
  clear bxx0_9
  have bxx0_10_l := bxx0_10.lt
  have x1_10 := x1_9.below hb7 (by omega)
  clear x1_9
  have g0_10 := o6_0.below hb7 (by omega)
  clear o6_0
  have B_w11 := bthen B_w10 hb7
  have q21 : w11.cell? ⟨w.heap.size, 0, none⟩ = some (.slice A0 p.1.length c0) := bx0_10.cell 0
  have q22 : w11.cell? ⟨w.heap.size, 1, none⟩ = some (.slice A0b p.2.length c0b) := bx0_10.cell 1
  have q23 : w11.cell? ⟨w7.heap.size, 0, none⟩ = some (.slice P4 p.1.length d4) := bxx0_10.cell 0
  have q24 : w11.cell? ⟨w7.heap.size, 1, none⟩ = some (.slice P4b p.2.length d4b) := bxx0_10.cell 1
  go_upto_region 14 with fail
  clear q21 q22 q23 q24
  have HS_w11 := Lib.hid (show ∀ W, Below w11.heap.size w11 W → (Below w11.heap.size w11 W ∧ W.cell? ⟨w.heap.size, 0, none⟩ = some (.slice A0 p.1.length c0) ∧ W.cell? ⟨w.heap.size, 1, none⟩ = some (.slice A0b p.2.length c0b) ∧ W.cell? ⟨w7.heap.size, 0, none⟩ = some (.slice P4 p.1.length d4) ∧ W.cell? ⟨w7.heap.size, 1, none⟩ = some (.slice P4b p.2.length d4b)) from fun W hW => ⟨hW, (bx0_10.below hW bx0_10_l).cell 0, (bx0_10.below hW bx0_10_l).cell 1, (bxx0_10.below hW bxx0_10_l).cell 0, (bxx0_10.below hW bxx0_10_l).cell 1⟩)
  have RX_w11 := Lib.hid (show RdProg w11 w11.heap.size (.agg #[.slice P4 p.1.length d4, .slice P4b p.2.length d4b]) p from x0_10.rd.more (by omega))
  go_cut [44] (fun s wx => s = .bool false ∧ Below w11.heap.size w11 wx)
  case first =>
    go_region_held3 (fun W => Below w11.heap.size w11 W ∧ W.cell? ⟨w.heap.size, 0, none⟩ = some (.slice A0 p.1.length c0) ∧ W.cell? ⟨w.heap.size, 1, none⟩ = some (.slice A0b p.2.length c0b) ∧ W.cell? ⟨w7.heap.size, 0, none⟩ = some (.slice P4 p.1.length d4) ∧ W.cell? ⟨w7.heap.size, 1, none⟩ = some (.slice P4b p.2.length d4b))
      (first | exact HS_w11.out _ (Below.refl _ _) | exact HS_w11.out _ (Below.refl _ _).drew | exact HS_w11.out _ (bthen (And.left (by assumption)) (by assumption)))
      (first
        | (go_at_call 16; refine (toProgram_own _ p _ ?_ (by omega)).mono ?_; exact H0.out.on (bthen B_w11 (And.left (by assumption))); rintro e wf ⟨Af, cf, Ag, cg, rfl, hof, hbf⟩)
        | (go_at_call 20; refine (eqProgram_any _ _ p p _ ?_ ?_ (by omega) (by omega)).mono ?_; exact (RX_w11.out.on (And.left (by assumption))); exact hof.rd; rw [show decide (p = p) = true by simp]; rintro e wg ⟨rfl, hbg⟩))
    all_goals (go_wp2_with fail; go_meet; exact ⟨rfl, And.left (by assumption)⟩)
  case rest =>
    obtain ⟨rfl, hb8⟩ := hcut
    clear HS_w11 RX_w11
    generalize wc = w12 at *
    have s_w12 := hb8.size
    have bx0_11 := bx0_10.below hb8 (by first | exact bx0_10.lt | omega)
    clear bx0_10
    have bx0_11_l := bx0_11.lt
    have w0_11 := w0_10.below hb8 (by omega)
    clear w0_10
    have x0_11 := x0_10.below hb8 (by omega)
    clear x0_10
    have bxx0_11 := bxx0_10.below hb8 (by first | exact bxx0_10.lt | omega)
    clear bxx0_10
    have bxx0_11_l := bxx0_11.lt
    have x1_11 := x1_10.below hb8 (by omega)
    clear x1_10
    have g0_11 := g0_10.below hb8 (by omega)
    clear g0_10
    have B_w12 := bthen B_w11 hb8
    have q25 : w12.cell? ⟨w.heap.size, 0, none⟩ = some (.slice A0 p.1.length c0) := bx0_11.cell 0
    have q26 : w12.cell? ⟨w.heap.size, 1, none⟩ = some (.slice A0b p.2.length c0b) := bx0_11.cell 1
    have q27 : w12.cell? ⟨w7.heap.size, 0, none⟩ = some (.slice P4 p.1.length d4) := bxx0_11.cell 0
    have q28 : w12.cell? ⟨w7.heap.size, 1, none⟩ = some (.slice P4b p.2.length d4b) := bxx0_11.cell 1
    go_wp2_with (fail)
    clear q25 q26 q27 q28
    refine (toFactS_any _ fs _ (H1.out.on B_w12) (by unfold szF at *; omega) (by unfold szF at *; omega)).mono ?_
    rintro e w13 ⟨P9, d9, rfl, o9, hb9⟩
    have s_w13 := hb9.size
    have bx0_12 := bx0_11.below hb9 (by first | exact bx0_11.lt | omega)
    clear bx0_11
    have bx0_12_l := bx0_12.lt
    have w0_12 := w0_11.below hb9 (by omega)
    clear w0_11
    have x0_12 := x0_11.below hb9 (by omega)
    clear x0_11
    have bxx0_12 := bxx0_11.below hb9 (by first | exact bxx0_11.lt | omega)
    clear bxx0_11
    have bxx0_12_l := bxx0_12.lt
    have x1_12 := x1_11.below hb9 (by omega)
    clear x1_11
    have g0_12 := g0_11.below hb9 (by omega)
    clear g0_11
    have B_w13 := bthen B_w12 hb9
    have q29 : w13.cell? ⟨w.heap.size, 0, none⟩ = some (.slice A0 p.1.length c0) := bx0_12.cell 0
    have q30 : w13.cell? ⟨w.heap.size, 1, none⟩ = some (.slice A0b p.2.length c0b) := bx0_12.cell 1
    have q31 : w13.cell? ⟨w7.heap.size, 0, none⟩ = some (.slice P4 p.1.length d4) := bxx0_12.cell 0
    have q32 : w13.cell? ⟨w7.heap.size, 1, none⟩ = some (.slice P4b p.2.length d4b) := bxx0_12.cell 1
    go_wp2_with (fail)
    clear q29 q30 q31 q32
    refine (eqFactS_any _ _ fs fs _ (x1_12.rd.more (by omega)) (o9.rd.more (by omega)) (by unfold szF at *; omega) (by unfold szF at *; omega) (by unfold szF at *; omega) (by unfold szF at *; omega)).mono ?_
    rintro e w14 ⟨rfl, hb10⟩
    rw [show decide (fs = fs) = true by simp]
    have s_w14 := hb10.size
    have bx0_13 := bx0_12.below hb10 (by first | exact bx0_12.lt | omega)
    clear bx0_12
    have bx0_13_l := bx0_13.lt
    have w0_13 := w0_12.below hb10 (by omega)
    clear w0_12
    have x0_13 := x0_12.below hb10 (by omega)
    clear x0_12
    have bxx0_13 := bxx0_12.below hb10 (by first | exact bxx0_12.lt | omega)
    clear bxx0_12
    have bxx0_13_l := bxx0_13.lt
    have x1_13 := x1_12.below hb10 (by omega)
    clear x1_12
    have g0_13 := g0_12.below hb10 (by omega)
    clear g0_12
    have B_w14 := bthen B_w13 hb10
    have q33 : w14.cell? ⟨w.heap.size, 0, none⟩ = some (.slice A0 p.1.length c0) := bx0_13.cell 0
    have q34 : w14.cell? ⟨w.heap.size, 1, none⟩ = some (.slice A0b p.2.length c0b) := bx0_13.cell 1
    have q35 : w14.cell? ⟨w7.heap.size, 0, none⟩ = some (.slice P4 p.1.length d4) := bxx0_13.cell 0
    have q36 : w14.cell? ⟨w7.heap.size, 1, none⟩ = some (.slice P4b p.2.length d4b) := bxx0_13.cell 1
    go_wp2_with (fail)
    clear q33 q34 q35 q36
    refine (um_prog 1 x0_13 (by omega) (by omega) (by omega)).mono ?_
    rintro e w15 ⟨k11, rfl, ka11, kb11, _, on11⟩
    have s_w15 := on11.size
    have bx0_14 := bx0_13.only on11 (by first | exact .inl (by omega) | exact .inr (by omega))
    clear bx0_13
    have bx0_14_l := bx0_14.lt
    have w0_14 := w0_13.only on11 (by first | exact .inl (by omega) | exact .inr (by omega))
    clear w0_13
    have bxx0_14 := bxx0_13.only on11 (by first | exact .inl (by omega) | exact .inr (by omega))
    clear bxx0_13
    have bxx0_14_l := bxx0_14.lt
    have x1_14 := x1_13.only on11 (by first | exact .inl (by omega) | exact .inr (by omega))
    clear x1_13
    have g0_14 := g0_13.only on11 (by first | exact .inl (by omega) | exact .inr (by omega))
    clear g0_13
    have B_w15 := Only.then_ B_w14 on11 (by omega)
    have q37 : w15.cell? ⟨w.heap.size, 0, none⟩ = some (.slice A0 p.1.length c0) := bx0_14.cell 0
    have q38 : w15.cell? ⟨w.heap.size, 1, none⟩ = some (.slice A0b p.2.length c0b) := bx0_14.cell 1
    have q39 : w15.cell? ⟨w7.heap.size, 0, none⟩ = some (.slice P4 p.1.length d4) := bxx0_14.cell 0
    have q40 : w15.cell? ⟨w7.heap.size, 1, none⟩ = some (.slice P4b p.2.length d4b) := bxx0_14.cell 1
    go_wp2_with (fail)
    clear q37 q38 q39 q40
    refine (um_facts k11 x1_14 (by omega) (by omega) (by omega)).mono ?_
    rintro e w16 ⟨k12, rfl, ka12, kb12, _, on12⟩
    have s_w16 := on12.size
    have bx0_15 := bx0_14.only on12 (by first | exact .inl (by omega) | exact .inr (by omega))
    clear bx0_14
    have bx0_15_l := bx0_15.lt
    have w0_15 := w0_14.only on12 (by first | exact .inl (by omega) | exact .inr (by omega))
    clear w0_14
    have bxx0_15 := bxx0_14.only on12 (by first | exact .inl (by omega) | exact .inr (by omega))
    clear bxx0_14
    have bxx0_15_l := bxx0_15.lt
    have g0_15 := g0_14.only on12 (by first | exact .inl (by omega) | exact .inr (by omega))
    clear g0_14
    have B_w16 := Only.then_ B_w15 on12 (by omega)
    have kn : ¬ k12 < 0 := by omega
    have kd : decide (k12 < 0) = false := by simp; omega
    have q41 : w16.cell? ⟨w.heap.size, 0, none⟩ = some (.slice A0 p.1.length c0) := bx0_15.cell 0
    have q42 : w16.cell? ⟨w.heap.size, 1, none⟩ = some (.slice A0b p.2.length c0b) := bx0_15.cell 1
    have q43 : w16.cell? ⟨w7.heap.size, 0, none⟩ = some (.slice P4 p.1.length d4) := bxx0_15.cell 0
    have q44 : w16.cell? ⟨w7.heap.size, 1, none⟩ = some (.slice P4b p.2.length d4b) := bxx0_15.cell 1
    go_wp2_with (fail)
    clear q41 q42 q43 q44
    refine (eqFactS_any _ _ R0 R0 _ (g0_15.rd.more (by omega)) (w0_15.rd.more (by omega)) (by have := HRs0.out; unfold szF at this; omega) (by have := HRs0.out; unfold szF at this; omega) (by have := HRs0.out; unfold szF at this; omega) (by have := HRs0.out; unfold szF at this; omega)).mono ?_
    rintro e w17 ⟨rfl, hb13⟩
    rw [show decide (R0 = R0) = true by simp]
    have s_w17 := hb13.size
    have bx0_16 := bx0_15.below hb13 (by first | exact bx0_15.lt | omega)
    clear bx0_15
    have bx0_16_l := bx0_16.lt
    have w0_16 := w0_15.below hb13 (by omega)
    clear w0_15
    have bxx0_16 := bxx0_15.below hb13 (by first | exact bxx0_15.lt | omega)
    clear bxx0_15
    have bxx0_16_l := bxx0_16.lt
    have g0_16 := g0_15.below hb13 (by omega)
    clear g0_15
    have B_w17 := bthen B_w16 hb13
    have q45 : w17.cell? ⟨w.heap.size, 0, none⟩ = some (.slice A0 p.1.length c0) := bx0_16.cell 0
    have q46 : w17.cell? ⟨w.heap.size, 1, none⟩ = some (.slice A0b p.2.length c0b) := bx0_16.cell 1
    have q47 : w17.cell? ⟨w7.heap.size, 0, none⟩ = some (.slice P4 p.1.length d4) := bxx0_16.cell 0
    have q48 : w17.cell? ⟨w7.heap.size, 1, none⟩ = some (.slice P4b p.2.length d4b) := bxx0_16.cell 1
    go_wp2_with (fail)
    clear q45 q46 q47 q48
    refine (um_facts 1 g0_16 (by omega) (by omega) (by have := HRs0.out; omega)).mono ?_
    rintro e w18 ⟨m14, rfl, ma14, mb14, hd14, on14⟩
    have mb14' := HRs0.out
    have s_w18 := on14.size
    have bx0_17 := bx0_16.only on14 (by first | exact .inl (by omega) | exact .inr (by omega))
    clear bx0_16
    have bx0_17_l := bx0_17.lt
    have w0_17 := w0_16.only on14 (by first | exact .inl (by omega) | exact .inr (by omega))
    clear w0_16
    have bxx0_17 := bxx0_16.only on14 (by first | exact .inl (by omega) | exact .inr (by omega))
    clear bxx0_16
    have bxx0_17_l := bxx0_17.lt
    have B_w18 := Only.then_ B_w17 on14 (by omega)
    have mn : ¬ m14 < 0 := by omega
    have me : (m14 != m14) = false := by simp
    have q49 : w18.cell? ⟨w.heap.size, 0, none⟩ = some (.slice A0 p.1.length c0) := bx0_17.cell 0
    have q50 : w18.cell? ⟨w.heap.size, 1, none⟩ = some (.slice A0b p.2.length c0b) := bx0_17.cell 1
    have q51 : w18.cell? ⟨w7.heap.size, 0, none⟩ = some (.slice P4 p.1.length d4) := bxx0_17.cell 0
    have q52 : w18.cell? ⟨w7.heap.size, 1, none⟩ = some (.slice P4b p.2.length d4b) := bxx0_17.cell 1
    go_wp2_with (fail)
    clear q49 q50 q51 q52
    refine (uh_facts hd14 (by omega)).mono ?_
    rintro e w19 ⟨rfl, hb15⟩
    have s_w19 := hb15.size
    have bx0_18 := bx0_17.below hb15 (by first | exact bx0_17.lt | omega)
    clear bx0_17
    have bx0_18_l := bx0_18.lt
    have w0_18 := w0_17.below hb15 (by omega)
    clear w0_17
    have bxx0_18 := bxx0_17.below hb15 (by first | exact bxx0_17.lt | omega)
    clear bxx0_17
    have bxx0_18_l := bxx0_18.lt
    have d0_18 := hd14.below hb15 (by omega)
    clear hd14
    have B_w19 := bthen B_w18 hb15
    have q53 : w19.cell? ⟨w.heap.size, 0, none⟩ = some (.slice A0 p.1.length c0) := bx0_18.cell 0
    have q54 : w19.cell? ⟨w.heap.size, 1, none⟩ = some (.slice A0b p.2.length c0b) := bx0_18.cell 1
    have q55 : w19.cell? ⟨w7.heap.size, 0, none⟩ = some (.slice P4 p.1.length d4) := bxx0_18.cell 0
    have q56 : w19.cell? ⟨w7.heap.size, 1, none⟩ = some (.slice P4b p.2.length d4b) := bxx0_18.cell 1
    go_wp2_with (fail)
    clear q53 q54 q55 q56
    refine (toProgram_own _ p _ (H0.out.on B_w19) (by omega)).mono ?_
    rintro e w20 ⟨P16, d16, P16b, d16b, rfl, o16, hb16⟩
    have s_w20 := hb16.size
    have bx0_19 := bx0_18.below hb16 (by first | exact bx0_18.lt | omega)
    clear bx0_18
    have bx0_19_l := bx0_19.lt
    have w0_19 := w0_18.below hb16 (by omega)
    clear w0_18
    have bxx0_19 := bxx0_18.below hb16 (by first | exact bxx0_18.lt | omega)
    clear bxx0_18
    have bxx0_19_l := bxx0_19.lt
    have d0_19 := d0_18.below hb16 (by omega)
    clear d0_18
    have B_w20 := bthen B_w19 hb16
    have q57 : w20.cell? ⟨w.heap.size, 0, none⟩ = some (.slice A0 p.1.length c0) := bx0_19.cell 0
    have q58 : w20.cell? ⟨w.heap.size, 1, none⟩ = some (.slice A0b p.2.length c0b) := bx0_19.cell 1
    have q59 : w20.cell? ⟨w7.heap.size, 0, none⟩ = some (.slice P4 p.1.length d4) := bxx0_19.cell 0
    have q60 : w20.cell? ⟨w7.heap.size, 1, none⟩ = some (.slice P4b p.2.length d4b) := bxx0_19.cell 1
    go_wp2_with (fail)
    clear q57 q58 q59 q60
    refine (toFactS_any _ fs _ (H1.out.on B_w20) (by unfold szF at *; omega) (by unfold szF at *; omega)).mono ?_
    rintro e w21 ⟨P17, d17, rfl, o17, hb17⟩
    have s_w21 := hb17.size
    have bx0_20 := bx0_19.below hb17 (by first | exact bx0_19.lt | omega)
    clear bx0_19
    have bx0_20_l := bx0_20.lt
    have w0_20 := w0_19.below hb17 (by omega)
    clear w0_19
    have bxx0_20 := bxx0_19.below hb17 (by first | exact bxx0_19.lt | omega)
    clear bxx0_19
    have bxx0_20_l := bxx0_20.lt
    have d0_20 := d0_19.below hb17 (by omega)
    clear d0_19
    have th0_20 := o16.below hb17 (by omega)
    clear o16
    have B_w21 := bthen B_w20 hb17
    have q61 : w21.cell? ⟨w.heap.size, 0, none⟩ = some (.slice A0 p.1.length c0) := bx0_20.cell 0
    have q62 : w21.cell? ⟨w.heap.size, 1, none⟩ = some (.slice A0b p.2.length c0b) := bx0_20.cell 1
    have q63 : w21.cell? ⟨w7.heap.size, 0, none⟩ = some (.slice P4 p.1.length d4) := bxx0_20.cell 0
    have q64 : w21.cell? ⟨w7.heap.size, 1, none⟩ = some (.slice P4b p.2.length d4b) := bxx0_20.cell 1
    go_wp2_with (fail)
    clear q61 q62 q63 q64
    refine (implLeast_any _ _ p fs _ (th0_20.rd.more (by omega)) (o17.rd.more (by omega)) (by omega) (by unfold szF at r1; omega) (by unfold szF at r1; omega) (HT.out.below B_w21)).mono ?_
    rw [← HR0.out]
    rintro e w22 ⟨Q18_0, f18_0, rfl, o18_0, hb18⟩
    have s_w22 := hb18.size
    have bx0_21 := bx0_20.below hb18 (by first | exact bx0_20.lt | omega)
    clear bx0_20
    have bx0_21_l := bx0_21.lt
    have w0_21 := w0_20.below hb18 (by omega)
    clear w0_20
    have bxx0_21 := bxx0_20.below hb18 (by first | exact bxx0_20.lt | omega)
    clear bxx0_20
    have bxx0_21_l := bxx0_21.lt
    have d0_21 := d0_20.below hb18 (by omega)
    clear d0_20
    have th0_21 := th0_20.below hb18 (by omega)
    clear th0_20
    have th1_21 := o17.below hb18 (by omega)
    clear o17
    have B_w22 := bthen B_w21 hb18
    have q65 : w22.cell? ⟨w.heap.size, 0, none⟩ = some (.slice A0 p.1.length c0) := bx0_21.cell 0
    have q66 : w22.cell? ⟨w.heap.size, 1, none⟩ = some (.slice A0b p.2.length c0b) := bx0_21.cell 1
    have q67 : w22.cell? ⟨w7.heap.size, 0, none⟩ = some (.slice P4 p.1.length d4) := bxx0_21.cell 0
    have q68 : w22.cell? ⟨w7.heap.size, 1, none⟩ = some (.slice P4b p.2.length d4b) := bxx0_21.cell 1
    go_wp2_with (fail)
    clear q65 q66 q67 q68
    refine (eqFactS_any _ _ R0 R0 _ (o18_0.rd.more (by omega)) (w0_21.rd.more (by omega)) (by have := HRs0.out; unfold szF at this; omega) (by have := HRs0.out; unfold szF at this; omega) (by have := HRs0.out; unfold szF at this; omega) (by have := HRs0.out; unfold szF at this; omega)).mono ?_
    rintro e w23 ⟨rfl, hb19⟩
    rw [show decide (R0 = R0) = true by simp]
    have s_w23 := hb19.size
    have bx0_22 := bx0_21.below hb19 (by first | exact bx0_21.lt | omega)
    clear bx0_21
    have bx0_22_l := bx0_22.lt
    have w0_22 := w0_21.below hb19 (by omega)
    clear w0_21
    have bxx0_22 := bxx0_21.below hb19 (by first | exact bxx0_21.lt | omega)
    clear bxx0_21
    have bxx0_22_l := bxx0_22.lt
    have d0_22 := d0_21.below hb19 (by omega)
    clear d0_21
    have h0_22 := o18_0.below hb19 (by omega)
    clear o18_0
    have B_w23 := bthen B_w22 hb19
    have q69 : w23.cell? ⟨w.heap.size, 0, none⟩ = some (.slice A0 p.1.length c0) := bx0_22.cell 0
    have q70 : w23.cell? ⟨w.heap.size, 1, none⟩ = some (.slice A0b p.2.length c0b) := bx0_22.cell 1
    have q71 : w23.cell? ⟨w7.heap.size, 0, none⟩ = some (.slice P4 p.1.length d4) := bxx0_22.cell 0
    have q72 : w23.cell? ⟨w7.heap.size, 1, none⟩ = some (.slice P4b p.2.length d4b) := bxx0_22.cell 1
    go_wp2_with (fail)
    clear q69 q70 q71 q72
    refine (uh_facts d0_22 (by omega)).mono ?_
    rintro e w24 ⟨rfl, hb20⟩
    have s_w24 := hb20.size
    have bx0_23 := bx0_22.below hb20 (by first | exact bx0_22.lt | omega)
    clear bx0_22
    have bx0_23_l := bx0_23.lt
    have w0_23 := w0_22.below hb20 (by omega)
    clear w0_22
    have bxx0_23 := bxx0_22.below hb20 (by first | exact bxx0_22.lt | omega)
    clear bxx0_22
    have bxx0_23_l := bxx0_23.lt
    have d0_23 := d0_22.below hb20 (by omega)
    clear d0_22
    have h0_23 := h0_22.below hb20 (by omega)
    clear h0_22
    have B_w24 := bthen B_w23 hb20
    have q73 : w24.cell? ⟨w.heap.size, 0, none⟩ = some (.slice A0 p.1.length c0) := bx0_23.cell 0
    have q74 : w24.cell? ⟨w.heap.size, 1, none⟩ = some (.slice A0b p.2.length c0b) := bx0_23.cell 1
    have q75 : w24.cell? ⟨w7.heap.size, 0, none⟩ = some (.slice P4 p.1.length d4) := bxx0_23.cell 0
    have q76 : w24.cell? ⟨w7.heap.size, 1, none⟩ = some (.slice P4b p.2.length d4b) := bxx0_23.cell 1
    go_wp2_with (fail)
    clear q73 q74 q75 q76
    go_ret
    exact ⟨rfl, B_w24⟩

theorem lawLeast_in (v0 : Value) (v1 : Value) (p : LProg) (fs : List LFact) (w : World) (h0 : InProg w v0 p) (h1 : InFacts w v1 fs) (hT : Tab w) : Calls Tryz.prog 4 #[v0, v1] w fun e w' => e = .returned (.bool true) ∧ Below w.heap.size w w' :=
  lawLeast_any v0 v1 p fs w h0.1 h1.1 (progLens_in h0.2) h1.2.1 h1.2.2 hT

end Go.Proofs.YtigkgheddngkeaaGreatDoor
/-
  The law FnExactLeast: for every input the call returns true, and each argument reads behind it as it read before. Conditions: none but the row's own.
-/
namespace Go.Proofs.YtigkgheddngkeaaGreatDoor
open Go.ChangeShapes Go.WideShapes Go.ChangeAt Go.RowKit

set_option maxRecDepth 100000 in
theorem fnExactLeast_lifted (os : Os) (started : os.Started) (H : Type) (enc : TypeId × Value → H) :
    ReturnsInHanded {} Tryz.checked os 4 .any (fun w args => (Rows.fnExactLeastSpec.pre enc Tryz.prog Tryz.f4 [] false w args ∧ laidMetH Tryz.prog laidTabs1 w) ∧ sizedMet enc Tryz.prog Tryz.f4 (OpenSpec.ofChange Rows.fnExactLeastSpec) false w args) (Rows.fnExactLeastSpec.post enc Tryz.prog Tryz.f4 false true false false) := by
  refine returnsInHanded_of_change_and (C := Tryz.checked) (X := fun w _ => laidMetH Tryz.prog laidTabs1 w) (fun _ _ _ hh h => h.of_heap hh) Tryz.own started (by kernel_rfl) Tryz.func4
    (ChangeSpec.witness_shaped (enc := enc) (C := Tryz.checked) (os := os) (X := fun w _ => laidMetH Tryz.prog laidTabs1 w) false (World.laidAll Tryz.prog os laidTabs1) #[.agg #[.slice none 0 0, .slice none 0 0], .slice none 0 0] 8 (World.laidAll_os _ _ _)
      (World.shaped_of_ZipB (by kernel_rfl) (by kernel_rfl)) (by kernel_rfl) (by kernel_rfl) (by kernel_rfl)
      (by rw [MakeChecks.laidMetH_plain _ _ _ (by kernel_rfl)]; exact laidMet_laidAll _ (by kernel_rfl) (by kernel_rfl))) ?_
  intro W base args ds gs before hval0 hW _ _ hL _
  have hval : ∀ (j : Nat) t v, Tryz.f4.params[j]? = some t → args[j]? = some v → Value.okWide Tryz.prog W .any base t v := hval0
  have hW' := hW
  obtain ⟨p, q, hA0, hV, rfl, hfz, hnd⟩ := hW
  have hA : DataW.TrodAll enc Tryz.prog W 0 (fun _ => true) true Tryz.f4.params.toList args.toList ds p := hA0
  rw [Tryz.params4] at hA hval
  obtain ⟨v0, vs0, d0, ds0, p0, q0, hargs, rfl, rfl, h0, r0⟩ := trodAll_cons hA
  obtain ⟨v1, vs1, d1, ds1, p1, q1, rfl, rfl, rfl, h1, r1⟩ := trodAll_cons r0
  obtain ⟨rfl, rfl, rfl⟩ := trodAll_nil r1
  obtain rfl : args = #[v0, v1] := by cases args; simp_all
  obtain ⟨rfl, rfl⟩ := trodVars_none hV
  have lt0 : ∀ x ∈ p0, x.block < W.heap.size := by obtain ⟨m, hm⟩ := h0; exact DataW.trod_lt m _ _ _ hm
  obtain ⟨x0, w0⟩ := open_inProg (hval 0 25 v0 rfl rfl) h0
  have lt1 : ∀ x ∈ p1, x.block < W.heap.size := by obtain ⟨m, hm⟩ := h1; exact DataW.trod_lt m _ _ _ hm
  obtain ⟨x1, w1⟩ := open_inFacts (hval 1 26 v1 rfl rfl) h1
  clear hA0 hval0
  refine (lawLeast_in v0 v1 x0 x1 W w0 w1 (tab_of_laid1 hL)).mono fun e W' ⟨he, bel⟩ => ?_
  subst he
  exact ⟨_, rfl, _, _, _, [], _, [], hW', trodAll_mk1 (shut_bool Tryz.underlying4 _), (trodAll_cons_mk (Below.trod Tryz.laidOut (by kernel_rfl) (of_decide_eq_true (by kernel_rfl)) h0 bel lt0) (trodAll_cons_mk (Below.trod Tryz.laidOut (by kernel_rfl) (of_decide_eq_true (by kernel_rfl)) h1 bel lt1) trodAll_mk0)), rfl, bel.frame _, fun h => by cases h⟩

end Go.Proofs.YtigkgheddngkeaaGreatDoor
/-
  The law FnExactLeast: for every input the call returns true, and each argument reads behind it as it read before. Conditions: none but the row's own.
-/
namespace Go.Proofs.YtigkgheddngkeaaGreatDoor
open Go.ChangeShapes Go.WideShapes Go.ChangeAt Go.RowKit

theorem fnExactLeast_holds : Rows.FnExactLeastSaid :=
  OpenClaim.holds_of_wide 4 Tryz.f4 rfl rfl rfl rfl rfl rfl rfl ⟨rfl, rfl, rfl, rfl, rfl⟩ rfl rfl rfl rfl rfl (by kernel_rfl) Tryz.func4 fnExactLeast_joined
    (of_decide_eq_true (by kernel_rfl)) (by unfold Func.isWrapper; rw [if_neg (of_decide_eq_false (by kernel_rfl))]; exact ⟨rfl, rfl⟩)
    (fun os started H enc _ => fnExactLeast_lifted os started H enc)

end Go.Proofs.YtigkgheddngkeaaGreatDoor
namespace Go.Proofs.YtigkgheddngkeaaGreatDoor
open Go.ChangeShapes Go.WideShapes Go.ChangeAt Go.RowKit

theorem fnExactLeastCard_holds : Rows.FnExactLeastCardSaid :=
  Claim7.holds_tied_plain_at .later [] [.data] true (true, "26d588f6e5e7a8d4dd45fe0a2b21d48168ac96876178b7f3b2e10b1419b1564b") false fnExactLeast_holds (fun _ h => by cases h) (by kernel_rfl) (fun _ h => by cases h) fnExactLeast_row_tie rfl ⟨rfl, rfl⟩ jf_main rfl
    (fun f fn hf hfn => by
      obtain rfl : f = 4 := Option.some.inj ((show Tryz.prog.funcNamed "loop.example/wholerules/laws.FnExactLeast" = some 4 by kernel_rfl).symm.trans hf) |>.symm
      obtain rfl : fn = Tryz.f4 := (Option.some.inj (Tryz.func4.symm.trans hfn)).symm
      exact ⟨jf_looks, fun j t ht => by
        rw [Tryz.params4] at ht
        have hm : t ∈ [25, 26] := by simpa using Array.mem_of_getElem? ht
        have hall : ([25, 26].all fun u => !Tryz.prog.wantsStandIn u) = true := by kernel_rfl
        exact (show Tryz.prog.wantsStandIn t = false by simpa using List.all_eq_true.1 hall t hm)⟩)
    fnExactLeast_goes

end Go.Proofs.YtigkgheddngkeaaGreatDoor
