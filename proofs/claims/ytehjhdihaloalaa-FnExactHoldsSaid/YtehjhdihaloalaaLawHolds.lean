/-
  The walk of the law on Holds (written by wip/genlaw.py).
-/
import Derived.Test.YtehjhdihaloalaaHolds2
import Derived.Test.YtehjhdihaloalaaULits
import Derived.Test.YtehjhdihaloalaaUFacts
import Derived.Test.YtehjhdihaloalaaOpenLit
import Derived.Test.YtehjhdihaloalaaOpen
import Derived.Deep.RegionHeld3
import Derived.Deep.DeepCutAuto
import Derived.Deep.RegionWith
namespace Go.Proofs.Ytehjhdihaloalaa
open Go.RowKit

set_option maxHeartbeats 4000000 in
set_option maxRecDepth 100000 in
theorem lawHolds_any (v0 : Value) (v1 : Value) (v2 : Value) (fs : List LFact) (l : LLit) (bs : List Int) (w : World) (h0 : RdFacts w w.heap.size v0 fs) (h1 : RdLit w w.heap.size v1 l) (h2 : RdInts w w.heap.size v2 bs) (n0 : fs.length ≤ maxLen) (m0 : ∀ k (h : k < fs.length), fs[k].2.length ≤ maxLen) (n1 : l.2.2.length ≤ maxLen) :
    Calls Try.prog 10 #[v0, v1, v2] w fun e w' => e = .returned (.bool true) ∧ Below w.heap.size w w' := by
  have H0 := Lib.hid h0
  obtain ⟨A0, c0, rfl, hc0, _⟩ := h0
  have H1 := Lib.hid h1
  obtain ⟨a1, rfl, A1, c1, rfl, hc1, _⟩ := h1
  have H2 := Lib.hid h2
  obtain ⟨A2, c2, rfl, hc2, _⟩ := h2
  by_cases g2 : 1048576 < bs.length
  · go_enter Try.func10, Try.ntmps10
    go_wp2_with (fail)
    go_ret
    exact ⟨rfl, below1 _ _⟩
  have r2 : bs.length ≤ 1048576 := by omega
  go_enter Try.func10, Try.ntmps10
  go_wp2_with (fail)
  obtain ⟨w1, hw_w1⟩ : ∃ W', W' = w.alloc (Obj.cells #[Value.int IntKind.i64 l.1, Value.int IntKind.i64 l.2.1, Value.slice A1 l.2.2.length c1] 56) := ⟨_, rfl⟩
  rw [← hw_w1]
  have B_w1 : Below w.heap.size w w1 := by rw [hw_w1]; exact below1 _ _
  have bx1 : Blk w1 (w.heap.size + 0) 56 #[.int .i64 l.1, .int .i64 l.2.1, .slice A1 l.2.2.length c1] := by
    rw [hw_w1]
    have := (Blk.new w 56 #[.int .i64 l.1, .int .i64 l.2.1, .slice A1 l.2.2.length c1])
    simpa using this
  have bx1_l := bx1.lt
  rw [Nat.add_zero] at bx1 bx1_l
  have s_w1 := B_w1.size
  clear hw_w1
  refine (us_facts (H0.out.on B_w1) (by omega) (by omega) n0 m0).mono ?_
  rintro e w2 ⟨z0, rfl, hz0, hbz0⟩
  have s_w2 := hbz0.size
  have bx1_1 := bx1.below hbz0 (by first | exact bx1.lt | omega)
  clear bx1
  have bx1_1_l := bx1_1.lt
  have B_w2 := bthen B_w1 hbz0
  rcases hz0 with rfl | ⟨zp0, zs0⟩
  · go_wp2_with (fail)
    go_ret
    exact ⟨rfl, B_w2⟩
  have zn0 : ¬ z0 < 0 := by omega
  have r0 : szF fs ≤ 1048576 := by omega
  have zl0 : z0 ≤ 1048576 := by omega
  clear zs0
  have q1 : w2.cell? ⟨w.heap.size, 0, none⟩ = some (.int .i64 l.1) := bx1_1.cell 0
  have q2 : w2.cell? ⟨w.heap.size, 1, none⟩ = some (.int .i64 l.2.1) := bx1_1.cell 1
  have q3 : w2.cell? ⟨w.heap.size, 2, none⟩ = some (.slice A1 l.2.2.length c1) := bx1_1.cell 2
  go_wp2_with (fail)
  clear q1 q2 q3
  refine (us_lit (H1.out.on B_w2) (by omega) (by omega) n1).mono ?_
  rintro e w3 ⟨z1, rfl, hz1, hbz1⟩
  have s_w3 := hbz1.size
  have bx1_2 := bx1_1.below hbz1 (by first | exact bx1_1.lt | omega)
  clear bx1_1
  have bx1_2_l := bx1_2.lt
  have B_w3 := bthen B_w2 hbz1
  rcases hz1 with rfl | ⟨zp1, zs1⟩
  · go_wp2_with (fail)
    go_ret
    exact ⟨rfl, B_w3⟩
  have zn1 : ¬ z1 < 0 := by omega
  have r1 : l.2.2.length ≤ 1048576 := by omega
  have zl1 : z1 ≤ 1048576 := by omega
  clear zs1 zn1
  have zn1 : ¬ z1 < 0 := by omega
  obtain ⟨R0, hR0⟩ : ∃ R, R = holdsB fs l bs := ⟨_, rfl⟩
  have HR0 := Lib.hid hR0
  clear hR0
  have gb0 : (R0 != R0) = false := by simp
  have q4 : w3.cell? ⟨w.heap.size, 0, none⟩ = some (.int .i64 l.1) := bx1_2.cell 0
  have q5 : w3.cell? ⟨w.heap.size, 1, none⟩ = some (.int .i64 l.2.1) := bx1_2.cell 1
  have q6 : w3.cell? ⟨w.heap.size, 2, none⟩ = some (.slice A1 l.2.2.length c1) := bx1_2.cell 2
  go_upto_region 10 with fail
  clear q4 q5 q6
  have HS_w3 := Lib.hid (show ∀ W, Below w3.heap.size w3 W → (Below w3.heap.size w3 W ∧ W.cell? ⟨w.heap.size, 0, none⟩ = some (.int .i64 l.1) ∧ W.cell? ⟨w.heap.size, 1, none⟩ = some (.int .i64 l.2.1) ∧ W.cell? ⟨w.heap.size, 2, none⟩ = some (.slice A1 l.2.2.length c1)) from fun W hW => ⟨hW, (bx1_2.below hW bx1_2_l).cell 0, (bx1_2.below hW bx1_2_l).cell 1, (bx1_2.below hW bx1_2_l).cell 2⟩)
  go_cut [8] (fun s0 wx => s0 = .bool R0 ∧ Below w3.heap.size w3 wx)
  case first =>
    go_region_held3 (fun W => Below w3.heap.size w3 W ∧ W.cell? ⟨w.heap.size, 0, none⟩ = some (.int .i64 l.1) ∧ W.cell? ⟨w.heap.size, 1, none⟩ = some (.int .i64 l.2.1) ∧ W.cell? ⟨w.heap.size, 2, none⟩ = some (.slice A1 l.2.2.length c1))
      (first | exact HS_w3.out _ (Below.refl _ _) | exact HS_w3.out _ (Below.refl _ _).drew | exact HS_w3.out _ (bthen (And.left (by assumption)) (by assumption)))
      (first
        | (go_at_call 23; refine (toFactS_any _ fs _ ?_ (by unfold szF at *; omega) (by unfold szF at *; omega)).mono ?_; exact H0.out.on (bthen B_w3 (And.left (by assumption))); rintro e w_0 ⟨P0, d0, rfl, o0, g0⟩)
        | (go_at_call 47; refine (toLit_any _ l _ ?_ (by omega)).mono ?_; exact H1.out.on (bthen B_w3 (And.left (by assumption))); rintro e w_1 ⟨P1, d1, rfl, o1, g1⟩)
        | (go_at_call 16; refine (toIntS_any _ bs _ ?_ (by omega)).mono ?_; exact H2.out.on (bthen B_w3 (And.left (by assumption))); rintro e w_2 ⟨P2, d2, rfl, o2, g2⟩)
        | (go_at_call 46; refine (specHolds_any _ _ _ fs l bs _ (((o0.rd.on g1).on g2)) ⟨_, rfl, (o1.rd.on g2)⟩ (o2.rd) (by unfold szF at r0; omega) (by unfold szF at r0; omega) r1 r2).mono ?_; try rw [← HR0.out]; rintro e w_r ⟨rfl, hb_r⟩))
    all_goals (go_wp2_with fail; go_meet; exact ⟨rfl, And.left (by assumption)⟩)
  case rest =>
    obtain ⟨rfl, hb1⟩ := hcut
    clear HS_w3
    generalize wc = w4 at *
    have s_w4 := hb1.size
    have bx1_3 := bx1_2.below hb1 (by first | exact bx1_2.lt | omega)
    clear bx1_2
    have bx1_3_l := bx1_3.lt
    have B_w4 := bthen B_w3 hb1
    have q7 : w4.cell? ⟨w.heap.size, 0, none⟩ = some (.int .i64 l.1) := bx1_3.cell 0
    have q8 : w4.cell? ⟨w.heap.size, 1, none⟩ = some (.int .i64 l.2.1) := bx1_3.cell 1
    have q9 : w4.cell? ⟨w.heap.size, 2, none⟩ = some (.slice A1 l.2.2.length c1) := bx1_3.cell 2
    go_wp2_with (fail)
    clear q7 q8 q9
    refine (toFactS_any _ fs _ (H0.out.on B_w4) (by unfold szF at *; omega) (by unfold szF at *; omega)).mono ?_
    rintro e w5 ⟨P2, d2, rfl, o2, hb2⟩
    have s_w5 := hb2.size
    have bx1_4 := bx1_3.below hb2 (by first | exact bx1_3.lt | omega)
    clear bx1_3
    have bx1_4_l := bx1_4.lt
    have B_w5 := bthen B_w4 hb2
    have q10 : w5.cell? ⟨w.heap.size, 0, none⟩ = some (.int .i64 l.1) := bx1_4.cell 0
    have q11 : w5.cell? ⟨w.heap.size, 1, none⟩ = some (.int .i64 l.2.1) := bx1_4.cell 1
    have q12 : w5.cell? ⟨w.heap.size, 2, none⟩ = some (.slice A1 l.2.2.length c1) := bx1_4.cell 2
    go_wp2_with (fail)
    clear q10 q11 q12
    refine (toLit_any _ l _ (H1.out.on B_w5) (by omega)).mono ?_
    rintro e w6 ⟨P3, d3, rfl, o3, hb3⟩
    have s_w6 := hb3.size
    have bx1_5 := bx1_4.below hb3 (by first | exact bx1_4.lt | omega)
    clear bx1_4
    have bx1_5_l := bx1_5.lt
    have x0_5 := o2.below hb3 (by omega)
    clear o2
    have B_w6 := bthen B_w5 hb3
    have q13 : w6.cell? ⟨w.heap.size, 0, none⟩ = some (.int .i64 l.1) := bx1_5.cell 0
    have q14 : w6.cell? ⟨w.heap.size, 1, none⟩ = some (.int .i64 l.2.1) := bx1_5.cell 1
    have q15 : w6.cell? ⟨w.heap.size, 2, none⟩ = some (.slice A1 l.2.2.length c1) := bx1_5.cell 2
    go_wp2_with (fail)
    clear q13 q14 q15
    obtain ⟨w7, hw_w7⟩ : ∃ W', W' = w6.alloc (Obj.cells #[Value.int IntKind.i64 l.1, Value.int IntKind.i64 l.2.1, Value.slice P3 l.2.2.length d3] 60) := ⟨_, rfl⟩
    rw [← hw_w7]
    have hb_w7 : Below w6.heap.size w6 w7 := by rw [hw_w7]; exact below1 _ _
    have bxx1_n : Blk w7 w6.heap.size 60 #[.int .i64 l.1, .int .i64 l.2.1, .slice P3 l.2.2.length d3] := by rw [hw_w7]; exact Blk.new _ _ _
    have bxx1_nl := bxx1_n.lt
    clear hw_w7
    have s_w7 := hb_w7.size
    have bx1_6 := bx1_5.below hb_w7 (by first | exact bx1_5.lt | omega)
    clear bx1_5
    have bx1_6_l := bx1_6.lt
    have x0_6 := x0_5.below hb_w7 (by omega)
    clear x0_5
    have x1_6 := o3.below hb_w7 (by omega)
    clear o3
    have B_w7 := bthen B_w6 hb_w7
    refine (toIntS_any _ bs _ (H2.out.on B_w7) (by omega)).mono ?_
    rintro e w8 ⟨P4, d4, rfl, o4, hb4⟩
    have s_w8 := hb4.size
    have bx1_7 := bx1_6.below hb4 (by first | exact bx1_6.lt | omega)
    clear bx1_6
    have bx1_7_l := bx1_7.lt
    have x0_7 := x0_6.below hb4 (by omega)
    clear x0_6
    have x1_7 := x1_6.below hb4 (by omega)
    clear x1_6
    have bxx1_7 := bxx1_n.below hb4 (by first | exact bxx1_n.lt | omega)
    clear bxx1_n
    have bxx1_7_l := bxx1_7.lt
    have B_w8 := bthen B_w7 hb4
    have q16 : w8.cell? ⟨w.heap.size, 0, none⟩ = some (.int .i64 l.1) := bx1_7.cell 0
    have q17 : w8.cell? ⟨w.heap.size, 1, none⟩ = some (.int .i64 l.2.1) := bx1_7.cell 1
    have q18 : w8.cell? ⟨w.heap.size, 2, none⟩ = some (.slice A1 l.2.2.length c1) := bx1_7.cell 2
    have q19 : w8.cell? ⟨w6.heap.size, 0, none⟩ = some (.int .i64 l.1) := bxx1_7.cell 0
    have q20 : w8.cell? ⟨w6.heap.size, 1, none⟩ = some (.int .i64 l.2.1) := bxx1_7.cell 1
    have q21 : w8.cell? ⟨w6.heap.size, 2, none⟩ = some (.slice P3 l.2.2.length d3) := bxx1_7.cell 2
    go_wp2_with (fail)
    clear q16 q17 q18 q19 q20 q21
    refine (implHolds_any _ _ _ fs l bs _ (x0_7.rd.more (by omega)) ⟨_, rfl, x1_7.rd.more (by omega)⟩ (o4.rd.more (by omega)) (by unfold szF at r0; omega) (by unfold szF at r0; omega) r1 r2).mono ?_
    try rw [← HR0.out]
    rintro e w9 ⟨rfl, hb5⟩
    have s_w9 := hb5.size
    have bx1_8 := bx1_7.below hb5 (by first | exact bx1_7.lt | omega)
    clear bx1_7
    have bx1_8_l := bx1_8.lt
    have x0_8 := x0_7.below hb5 (by omega)
    clear x0_7
    have x1_8 := x1_7.below hb5 (by omega)
    clear x1_7
    have bxx1_8 := bxx1_7.below hb5 (by first | exact bxx1_7.lt | omega)
    clear bxx1_7
    have bxx1_8_l := bxx1_8.lt
    have x2_8 := o4.below hb5 (by omega)
    clear o4
    have B_w9 := bthen B_w8 hb5
    have q22 : w9.cell? ⟨w.heap.size, 0, none⟩ = some (.int .i64 l.1) := bx1_8.cell 0
    have q23 : w9.cell? ⟨w.heap.size, 1, none⟩ = some (.int .i64 l.2.1) := bx1_8.cell 1
    have q24 : w9.cell? ⟨w.heap.size, 2, none⟩ = some (.slice A1 l.2.2.length c1) := bx1_8.cell 2
    have q25 : w9.cell? ⟨w6.heap.size, 0, none⟩ = some (.int .i64 l.1) := bxx1_8.cell 0
    have q26 : w9.cell? ⟨w6.heap.size, 1, none⟩ = some (.int .i64 l.2.1) := bxx1_8.cell 1
    have q27 : w9.cell? ⟨w6.heap.size, 2, none⟩ = some (.slice P3 l.2.2.length d3) := bxx1_8.cell 2
    go_wp2_with (fail)
    clear q22 q23 q24 q25 q26 q27
    refine (toFactS_any _ fs _ (H0.out.on B_w9) (by unfold szF at *; omega) (by unfold szF at *; omega)).mono ?_
    rintro e w10 ⟨P6, d6, rfl, o6, hb6⟩
    have s_w10 := hb6.size
    have bx1_9 := bx1_8.below hb6 (by first | exact bx1_8.lt | omega)
    clear bx1_8
    have bx1_9_l := bx1_9.lt
    have x0_9 := x0_8.below hb6 (by omega)
    clear x0_8
    have x1_9 := x1_8.below hb6 (by omega)
    clear x1_8
    have bxx1_9 := bxx1_8.below hb6 (by first | exact bxx1_8.lt | omega)
    clear bxx1_8
    have bxx1_9_l := bxx1_9.lt
    have x2_9 := x2_8.below hb6 (by omega)
    clear x2_8
    have B_w10 := bthen B_w9 hb6
    have q28 : w10.cell? ⟨w.heap.size, 0, none⟩ = some (.int .i64 l.1) := bx1_9.cell 0
    have q29 : w10.cell? ⟨w.heap.size, 1, none⟩ = some (.int .i64 l.2.1) := bx1_9.cell 1
    have q30 : w10.cell? ⟨w.heap.size, 2, none⟩ = some (.slice A1 l.2.2.length c1) := bx1_9.cell 2
    have q31 : w10.cell? ⟨w6.heap.size, 0, none⟩ = some (.int .i64 l.1) := bxx1_9.cell 0
    have q32 : w10.cell? ⟨w6.heap.size, 1, none⟩ = some (.int .i64 l.2.1) := bxx1_9.cell 1
    have q33 : w10.cell? ⟨w6.heap.size, 2, none⟩ = some (.slice P3 l.2.2.length d3) := bxx1_9.cell 2
    go_wp2_with (fail)
    clear q28 q29 q30 q31 q32 q33
    refine (eqFactS_any _ _ fs fs _ (x0_9.rd.more (by omega)) (o6.rd.more (by omega)) (by unfold szF at *; omega) (by unfold szF at *; omega) (by unfold szF at *; omega) (by unfold szF at *; omega)).mono ?_
    rintro e w11 ⟨rfl, hb7⟩
    rw [show decide (fs = fs) = true by simp]
    have s_w11 := hb7.size
    have bx1_10 := bx1_9.below hb7 (by first | exact bx1_9.lt | omega)
    clear bx1_9
    have bx1_10_l := bx1_10.lt
    have x0_10 := x0_9.below hb7 (by omega)
    clear x0_9
    have x1_10 := x1_9.below hb7 (by omega)
    clear x1_9
    have bxx1_10 := bxx1_9.below hb7 (by first | exact bxx1_9.lt | omega)
    clear bxx1_9
    have bxx1_10_l := bxx1_10.lt
    have x2_10 := x2_9.below hb7 (by omega)
    clear x2_9
    have B_w11 := bthen B_w10 hb7
    have q34 : w11.cell? ⟨w.heap.size, 0, none⟩ = some (.int .i64 l.1) := bx1_10.cell 0
    have q35 : w11.cell? ⟨w.heap.size, 1, none⟩ = some (.int .i64 l.2.1) := bx1_10.cell 1
    have q36 : w11.cell? ⟨w.heap.size, 2, none⟩ = some (.slice A1 l.2.2.length c1) := bx1_10.cell 2
    have q37 : w11.cell? ⟨w6.heap.size, 0, none⟩ = some (.int .i64 l.1) := bxx1_10.cell 0
    have q38 : w11.cell? ⟨w6.heap.size, 1, none⟩ = some (.int .i64 l.2.1) := bxx1_10.cell 1
    have q39 : w11.cell? ⟨w6.heap.size, 2, none⟩ = some (.slice P3 l.2.2.length d3) := bxx1_10.cell 2
    go_upto_region 19 with fail
    clear q34 q35 q36 q37 q38 q39
    have HS_w11 := Lib.hid (show ∀ W, Below w11.heap.size w11 W → (Below w11.heap.size w11 W ∧ W.cell? ⟨w.heap.size, 0, none⟩ = some (.int .i64 l.1) ∧ W.cell? ⟨w.heap.size, 1, none⟩ = some (.int .i64 l.2.1) ∧ W.cell? ⟨w.heap.size, 2, none⟩ = some (.slice A1 l.2.2.length c1) ∧ W.cell? ⟨w6.heap.size, 0, none⟩ = some (.int .i64 l.1) ∧ W.cell? ⟨w6.heap.size, 1, none⟩ = some (.int .i64 l.2.1) ∧ W.cell? ⟨w6.heap.size, 2, none⟩ = some (.slice P3 l.2.2.length d3)) from fun W hW => ⟨hW, (bx1_10.below hW bx1_10_l).cell 0, (bx1_10.below hW bx1_10_l).cell 1, (bx1_10.below hW bx1_10_l).cell 2, (bxx1_10.below hW bxx1_10_l).cell 0, (bxx1_10.below hW bxx1_10_l).cell 1, (bxx1_10.below hW bxx1_10_l).cell 2⟩)
    have RX_w11 := Lib.hid (show RdLit w11 w11.heap.size (.agg #[.int .i64 l.1, .int .i64 l.2.1, .slice P3 l.2.2.length d3]) l from ⟨_, rfl, x1_10.rd.more (by omega)⟩)
    go_cut [55] (fun s wx => s = .bool false ∧ Below w11.heap.size w11 wx)
    case first =>
      go_region_held3 (fun W => Below w11.heap.size w11 W ∧ W.cell? ⟨w.heap.size, 0, none⟩ = some (.int .i64 l.1) ∧ W.cell? ⟨w.heap.size, 1, none⟩ = some (.int .i64 l.2.1) ∧ W.cell? ⟨w.heap.size, 2, none⟩ = some (.slice A1 l.2.2.length c1) ∧ W.cell? ⟨w6.heap.size, 0, none⟩ = some (.int .i64 l.1) ∧ W.cell? ⟨w6.heap.size, 1, none⟩ = some (.int .i64 l.2.1) ∧ W.cell? ⟨w6.heap.size, 2, none⟩ = some (.slice P3 l.2.2.length d3))
        (first | exact HS_w11.out _ (Below.refl _ _) | exact HS_w11.out _ (Below.refl _ _).drew | exact HS_w11.out _ (bthen (And.left (by assumption)) (by assumption)))
        (first
          | (go_at_call 47; refine (toLit_any _ l _ ?_ (by omega)).mono ?_; exact H1.out.on (bthen B_w11 (And.left (by assumption))); rintro e wf ⟨Af, cf, rfl, hof, hbf⟩)
          | (go_at_call 49; refine (eqLit_any _ _ l l _ ?_ ?_ (by omega) (by omega)).mono ?_; exact (RX_w11.out.on (And.left (by assumption))); exact ⟨_, rfl, hof.rd⟩; rw [show decide (l = l) = true by simp]; rintro e wg ⟨rfl, hbg⟩))
      all_goals (go_wp2_with fail; go_meet; exact ⟨rfl, And.left (by assumption)⟩)
    case rest =>
      obtain ⟨rfl, hb8⟩ := hcut
      clear HS_w11 RX_w11
      generalize wc = w12 at *
      have s_w12 := hb8.size
      have bx1_11 := bx1_10.below hb8 (by first | exact bx1_10.lt | omega)
      clear bx1_10
      have bx1_11_l := bx1_11.lt
      have x0_11 := x0_10.below hb8 (by omega)
      clear x0_10
      have x1_11 := x1_10.below hb8 (by omega)
      clear x1_10
      have bxx1_11 := bxx1_10.below hb8 (by first | exact bxx1_10.lt | omega)
      clear bxx1_10
      have bxx1_11_l := bxx1_11.lt
      have x2_11 := x2_10.below hb8 (by omega)
      clear x2_10
      have B_w12 := bthen B_w11 hb8
      have q40 : w12.cell? ⟨w.heap.size, 0, none⟩ = some (.int .i64 l.1) := bx1_11.cell 0
      have q41 : w12.cell? ⟨w.heap.size, 1, none⟩ = some (.int .i64 l.2.1) := bx1_11.cell 1
      have q42 : w12.cell? ⟨w.heap.size, 2, none⟩ = some (.slice A1 l.2.2.length c1) := bx1_11.cell 2
      have q43 : w12.cell? ⟨w6.heap.size, 0, none⟩ = some (.int .i64 l.1) := bxx1_11.cell 0
      have q44 : w12.cell? ⟨w6.heap.size, 1, none⟩ = some (.int .i64 l.2.1) := bxx1_11.cell 1
      have q45 : w12.cell? ⟨w6.heap.size, 2, none⟩ = some (.slice P3 l.2.2.length d3) := bxx1_11.cell 2
      go_wp2_with (fail)
      clear q40 q41 q42 q43 q44 q45
      refine (toIntS_any _ bs _ (H2.out.on B_w12) (by omega)).mono ?_
      rintro e w13 ⟨P9, d9, rfl, o9, hb9⟩
      have s_w13 := hb9.size
      have bx1_12 := bx1_11.below hb9 (by first | exact bx1_11.lt | omega)
      clear bx1_11
      have bx1_12_l := bx1_12.lt
      have x0_12 := x0_11.below hb9 (by omega)
      clear x0_11
      have x1_12 := x1_11.below hb9 (by omega)
      clear x1_11
      have bxx1_12 := bxx1_11.below hb9 (by first | exact bxx1_11.lt | omega)
      clear bxx1_11
      have bxx1_12_l := bxx1_12.lt
      have x2_12 := x2_11.below hb9 (by omega)
      clear x2_11
      have B_w13 := bthen B_w12 hb9
      have q46 : w13.cell? ⟨w.heap.size, 0, none⟩ = some (.int .i64 l.1) := bx1_12.cell 0
      have q47 : w13.cell? ⟨w.heap.size, 1, none⟩ = some (.int .i64 l.2.1) := bx1_12.cell 1
      have q48 : w13.cell? ⟨w.heap.size, 2, none⟩ = some (.slice A1 l.2.2.length c1) := bx1_12.cell 2
      have q49 : w13.cell? ⟨w6.heap.size, 0, none⟩ = some (.int .i64 l.1) := bxx1_12.cell 0
      have q50 : w13.cell? ⟨w6.heap.size, 1, none⟩ = some (.int .i64 l.2.1) := bxx1_12.cell 1
      have q51 : w13.cell? ⟨w6.heap.size, 2, none⟩ = some (.slice P3 l.2.2.length d3) := bxx1_12.cell 2
      go_wp2_with (fail)
      clear q46 q47 q48 q49 q50 q51
      refine (eqIntS_any _ _ bs bs _ (x2_12.rd.more (by omega)) (o9.rd.more (by omega)) (by omega) (by omega)).mono ?_
      rintro e w14 ⟨rfl, hb10⟩
      rw [show decide (bs = bs) = true by simp]
      have s_w14 := hb10.size
      have bx1_13 := bx1_12.below hb10 (by first | exact bx1_12.lt | omega)
      clear bx1_12
      have bx1_13_l := bx1_13.lt
      have x0_13 := x0_12.below hb10 (by omega)
      clear x0_12
      have x1_13 := x1_12.below hb10 (by omega)
      clear x1_12
      have bxx1_13 := bxx1_12.below hb10 (by first | exact bxx1_12.lt | omega)
      clear bxx1_12
      have bxx1_13_l := bxx1_13.lt
      have x2_13 := x2_12.below hb10 (by omega)
      clear x2_12
      have B_w14 := bthen B_w13 hb10
      have q52 : w14.cell? ⟨w.heap.size, 0, none⟩ = some (.int .i64 l.1) := bx1_13.cell 0
      have q53 : w14.cell? ⟨w.heap.size, 1, none⟩ = some (.int .i64 l.2.1) := bx1_13.cell 1
      have q54 : w14.cell? ⟨w.heap.size, 2, none⟩ = some (.slice A1 l.2.2.length c1) := bx1_13.cell 2
      have q55 : w14.cell? ⟨w6.heap.size, 0, none⟩ = some (.int .i64 l.1) := bxx1_13.cell 0
      have q56 : w14.cell? ⟨w6.heap.size, 1, none⟩ = some (.int .i64 l.2.1) := bxx1_13.cell 1
      have q57 : w14.cell? ⟨w6.heap.size, 2, none⟩ = some (.slice P3 l.2.2.length d3) := bxx1_13.cell 2
      go_wp2_with (fail)
      clear q52 q53 q54 q55 q56 q57
      go_ret
      exact ⟨rfl, B_w14⟩

theorem lawHolds_in (v0 : Value) (v1 : Value) (v2 : Value) (fs : List LFact) (l : LLit) (bs : List Int) (w : World) (h0 : InFacts w v0 fs) (h1 : InLit w v1 l) (h2 : InInts w v2 bs) : Calls Try.prog 10 #[v0, v1, v2] w fun e w' => e = .returned (.bool true) ∧ Below w.heap.size w w' :=
  lawHolds_any v0 v1 v2 fs l bs w h0.1 h1.1 h2.1 h0.2.1 h0.2.2 h1.2

end Go.Proofs.Ytehjhdihaloalaa
