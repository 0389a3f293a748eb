/-
  The law FnExactReaches: for every input the call returns true, and each argument reads behind it as it read before. Conditions: none but the row's own.
-/
import Derived.Deep.RegionHeld3
import Derived.Deep.DeepCutAuto
import Derived.Deep.RegionWith
import Derived.Test.YtcoelmhlkfignaaDoorRows
import Derived.Test.YtcoelmhlkfignaaDoorCards
import Derived.Test.YtcoelmhlkfignaaDoorTie
import Derived.Lay
import Derived.SevenTiedAt
import Derived.Test.YtcoelmhlkfignaaDoorMRe2
import Derived.Test.YtcoelmhlkfignaaDoorMRe4
import Derived.Test.YtcoelmhlkfignaaDoorMRe5
/-
  The walk of the law on Reaches (written by wip/genlaw.py).
-/
namespace Go.Proofs.YtcoelmhlkfignaaDoor
open Go.RowKit

set_option maxHeartbeats 4000000 in
set_option maxRecDepth 100000 in
theorem lawReaches_any (v0 : Value) (p : LProg) (w : World) (h0 : RdProg w w.heap.size v0 p) (n0 : progLens p) (hT : Tab w) :
    Calls Tryd.prog 3 #[v0] w fun e w' => e = .returned (.bool true) ∧ Below w.heap.size w w' := by
  have HT := Lib.hid hT
  clear hT
  have H0 := Lib.hid h0
  obtain ⟨_, _, rfl, ⟨A0, c0, rfl, hc0, _⟩, ⟨A0b, c0b, rfl, hc0b, _⟩⟩ := h0
  go_enter Tryd.func3, Tryd.ntmps3
  go_wp2_with (fail)
  obtain ⟨w1, hw_w1⟩ : ∃ W', W' = w.alloc (Obj.cells #[Value.slice A0 p.1.length c0, Value.slice A0b p.2.length c0b] 25) := ⟨_, rfl⟩
  rw [← hw_w1]
  have B_w1 : Below w.heap.size w w1 := by rw [hw_w1]; exact below1 _ _
  have bx0 : Blk w1 (w.heap.size + 0) 25 #[.slice A0 p.1.length c0, .slice A0b p.2.length c0b] := by
    rw [hw_w1]
    have := (Blk.new w 25 #[.slice A0 p.1.length c0, .slice A0b p.2.length c0b])
    simpa using this
  have bx0_l := bx0.lt
  rw [Nat.add_zero] at bx0 bx0_l
  have s_w1 := B_w1.size
  clear hw_w1
  refine (us_prog (H0.out.on B_w1) (by omega) (by omega) n0).mono ?_
  rintro e w2 ⟨z0, rfl, hz0, hbz0⟩
  have s_w2 := hbz0.size
  have bx0_1 := bx0.below hbz0 (by first | exact bx0.lt | omega)
  clear bx0
  have bx0_1_l := bx0_1.lt
  have B_w2 := bthen B_w1 hbz0
  rcases hz0 with rfl | ⟨zp0, zs0⟩
  · go_wp2_with (fail)
    go_ret
    exact ⟨rfl, B_w2⟩
  have zn0 : ¬ z0 < 0 := by omega
  have r0 : szP p ≤ 1048576 := by omega
  have zl0 : z0 ≤ 1048576 := by omega
  have ZS0 := Lib.hid zs0
  clear zs0 zn0
  have zn0 : ¬ z0 < 0 := by omega
  obtain ⟨R0, hR0⟩ : ∃ R, R = reachG p := ⟨_, rfl⟩
  have HR0 := Lib.hid hR0
  have HRs0 := Lib.hid (show R0.length ≤ 24 ∧ R0.n ≤ 24 by rw [hR0]; exact reachG_few p)
  clear hR0
  have q1 : w2.cell? ⟨w.heap.size, 0, none⟩ = some (.slice A0 p.1.length c0) := bx0_1.cell 0
  have q2 : w2.cell? ⟨w.heap.size, 1, none⟩ = some (.slice A0b p.2.length c0b) := bx0_1.cell 1
  go_wp2_with (fail)
  clear q1 q2
  refine (toProgram_own _ p _ (H0.out.on B_w2) (by omega)).mono ?_
  rintro e w3 ⟨P1, d1, P1b, d1b, rfl, o1, hb1⟩
  have s_w3 := hb1.size
  have bx0_2 := bx0_1.below hb1 (by first | exact bx0_1.lt | omega)
  clear bx0_1
  have bx0_2_l := bx0_2.lt
  have B_w3 := bthen B_w2 hb1
  have q3 : w3.cell? ⟨w.heap.size, 0, none⟩ = some (.slice A0 p.1.length c0) := bx0_2.cell 0
  have q4 : w3.cell? ⟨w.heap.size, 1, none⟩ = some (.slice A0b p.2.length c0b) := bx0_2.cell 1
  go_wp2_with (fail)
  clear q3 q4
  refine (specReachesG_any _ p _ (o1.rd.more (by omega)) (by omega)).mono ?_
  rw [← HR0.out]
  rintro e w4 ⟨Q2_0, f2_0, rfl, o2_0, hb2⟩
  have s_w4 := hb2.size
  have bx0_3 := bx0_2.below hb2 (by first | exact bx0_2.lt | omega)
  clear bx0_2
  have bx0_3_l := bx0_3.lt
  have tw0_3 := o1.below hb2 (by omega)
  clear o1
  have B_w4 := bthen B_w3 hb2
  have q5 : w4.cell? ⟨w.heap.size, 0, none⟩ = some (.slice A0 p.1.length c0) := bx0_3.cell 0
  have q6 : w4.cell? ⟨w.heap.size, 1, none⟩ = some (.slice A0b p.2.length c0b) := bx0_3.cell 1
  go_wp2_with (fail)
  clear q5 q6
  refine (toProgram_own _ p _ (H0.out.on B_w4) (by omega)).mono ?_
  rintro e w5 ⟨P3, d3, P3b, d3b, rfl, o3, hb3⟩
  have s_w5 := hb3.size
  have bx0_4 := bx0_3.below hb3 (by first | exact bx0_3.lt | omega)
  clear bx0_3
  have bx0_4_l := bx0_4.lt
  have w0_4 := o2_0.below hb3 (by omega)
  clear o2_0
  have B_w5 := bthen B_w4 hb3
  have q7 : w5.cell? ⟨w.heap.size, 0, none⟩ = some (.slice A0 p.1.length c0) := bx0_4.cell 0
  have q8 : w5.cell? ⟨w.heap.size, 1, none⟩ = some (.slice A0b p.2.length c0b) := bx0_4.cell 1
  go_wp2_with (fail)
  clear q7 q8
  obtain ⟨w6, hw_w6⟩ : ∃ W', W' = w5.alloc (Obj.cells #[Value.slice P3 p.1.length d3, Value.slice P3b p.2.length d3b] 31) := ⟨_, rfl⟩
  rw [← hw_w6]
  have hb_w6 : Below w5.heap.size w5 w6 := by rw [hw_w6]; exact below1 _ _
  have bxx0_n : Blk w6 w5.heap.size 31 #[.slice P3 p.1.length d3, .slice P3b p.2.length d3b] := by rw [hw_w6]; exact Blk.new _ _ _
  have bxx0_nl := bxx0_n.lt
  clear hw_w6
  have s_w6 := hb_w6.size
  have bx0_5 := bx0_4.below hb_w6 (by first | exact bx0_4.lt | omega)
  clear bx0_4
  have bx0_5_l := bx0_5.lt
  have w0_5 := w0_4.below hb_w6 (by omega)
  clear w0_4
  have x0_5 := o3.below hb_w6 (by omega)
  clear o3
  have B_w6 := bthen B_w5 hb_w6
  refine (implReachesG_any _ p _ (x0_5.rd.more (by omega)) (by omega) (HT.out.below B_w6)).mono ?_
  rw [← HR0.out]
  rintro e w7 ⟨Q4_0, f4_0, rfl, o4_0, hb4⟩
  have s_w7 := hb4.size
  have bx0_6 := bx0_5.below hb4 (by first | exact bx0_5.lt | omega)
  clear bx0_5
  have bx0_6_l := bx0_6.lt
  have w0_6 := w0_5.below hb4 (by omega)
  clear w0_5
  have x0_6 := x0_5.below hb4 (by omega)
  clear x0_5
  have bxx0_6 := bxx0_n.below hb4 (by first | exact bxx0_n.lt | omega)
  clear bxx0_n
  have bxx0_6_l := bxx0_6.lt
  have B_w7 := bthen B_w6 hb4
  have q9 : w7.cell? ⟨w.heap.size, 0, none⟩ = some (.slice A0 p.1.length c0) := bx0_6.cell 0
  have q10 : w7.cell? ⟨w.heap.size, 1, none⟩ = some (.slice A0b p.2.length c0b) := bx0_6.cell 1
  have q11 : w7.cell? ⟨w5.heap.size, 0, none⟩ = some (.slice P3 p.1.length d3) := bxx0_6.cell 0
  have q12 : w7.cell? ⟨w5.heap.size, 1, none⟩ = some (.slice P3b p.2.length d3b) := bxx0_6.cell 1
  go_wp2_with (fail)
  clear q9 q10 q11 q12
  refine (eqGrid_any _ _ _ _ _ _ R0 _ o4_0 w0_6 HRs0.out).mono ?_
  rintro e w8 ⟨rfl, hb5⟩
  have s_w8 := hb5.size
  have bx0_7 := bx0_6.below hb5 (by first | exact bx0_6.lt | omega)
  clear bx0_6
  have bx0_7_l := bx0_7.lt
  have w0_7 := w0_6.below hb5 (by omega)
  clear w0_6
  have x0_7 := x0_6.below hb5 (by omega)
  clear x0_6
  have bxx0_7 := bxx0_6.below hb5 (by first | exact bxx0_6.lt | omega)
  clear bxx0_6
  have bxx0_7_l := bxx0_7.lt
  have g0_7 := o4_0.below hb5 (by omega)
  clear o4_0
  have B_w8 := bthen B_w7 hb5
  have q13 : w8.cell? ⟨w.heap.size, 0, none⟩ = some (.slice A0 p.1.length c0) := bx0_7.cell 0
  have q14 : w8.cell? ⟨w.heap.size, 1, none⟩ = some (.slice A0b p.2.length c0b) := bx0_7.cell 1
  have q15 : w8.cell? ⟨w5.heap.size, 0, none⟩ = some (.slice P3 p.1.length d3) := bxx0_7.cell 0
  have q16 : w8.cell? ⟨w5.heap.size, 1, none⟩ = some (.slice P3b p.2.length d3b) := bxx0_7.cell 1
  go_upto_region 10 with fail
  clear q13 q14 q15 q16
  have HS_w8 := Lib.hid (show ∀ W, Below w8.heap.size w8 W → (Below w8.heap.size w8 W ∧ W.cell? ⟨w.heap.size, 0, none⟩ = some (.slice A0 p.1.length c0) ∧ W.cell? ⟨w.heap.size, 1, none⟩ = some (.slice A0b p.2.length c0b) ∧ W.cell? ⟨w5.heap.size, 0, none⟩ = some (.slice P3 p.1.length d3) ∧ W.cell? ⟨w5.heap.size, 1, none⟩ = some (.slice P3b p.2.length d3b)) from fun W hW => ⟨hW, (bx0_7.below hW bx0_7_l).cell 0, (bx0_7.below hW bx0_7_l).cell 1, (bxx0_7.below hW bxx0_7_l).cell 0, (bxx0_7.below hW bxx0_7_l).cell 1⟩)
  have RX_w8 := Lib.hid (show RdProg w8 w8.heap.size (.agg #[.slice P3 p.1.length d3, .slice P3b p.2.length d3b]) p from x0_7.rd.more (by omega))
  go_cut [31] (fun s wx => s = .bool false ∧ Below w8.heap.size w8 wx)
  case first =>
    go_region_held3 (fun W => Below w8.heap.size w8 W ∧ W.cell? ⟨w.heap.size, 0, none⟩ = some (.slice A0 p.1.length c0) ∧ W.cell? ⟨w.heap.size, 1, none⟩ = some (.slice A0b p.2.length c0b) ∧ W.cell? ⟨w5.heap.size, 0, none⟩ = some (.slice P3 p.1.length d3) ∧ W.cell? ⟨w5.heap.size, 1, none⟩ = some (.slice P3b p.2.length d3b))
      (first | exact HS_w8.out _ (Below.refl _ _) | exact HS_w8.out _ (Below.refl _ _).drew | exact HS_w8.out _ (bthen (And.left (by assumption)) (by assumption)))
      (first
        | (go_at_call 8; refine (toProgram_own _ p _ ?_ (by omega)).mono ?_; exact H0.out.on (bthen B_w8 (And.left (by assumption))); rintro e wf ⟨Af, cf, Ag, cg, rfl, hof, hbf⟩)
        | (go_at_call 11; refine (eqProgram_any _ _ p p _ ?_ ?_ (by omega) (by omega)).mono ?_; exact (RX_w8.out.on (And.left (by assumption))); exact hof.rd; rw [show decide (p = p) = true by simp]; rintro e wg ⟨rfl, hbg⟩))
    all_goals (go_wp2_with fail; go_meet; exact ⟨rfl, And.left (by assumption)⟩)
  case rest =>
    obtain ⟨rfl, hb6⟩ := hcut
    clear HS_w8 RX_w8
    generalize wc = w9 at *
    have s_w9 := hb6.size
    have bx0_8 := bx0_7.below hb6 (by first | exact bx0_7.lt | omega)
    clear bx0_7
    have bx0_8_l := bx0_8.lt
    have w0_8 := w0_7.below hb6 (by omega)
    clear w0_7
    have x0_8 := x0_7.below hb6 (by omega)
    clear x0_7
    have bxx0_8 := bxx0_7.below hb6 (by first | exact bxx0_7.lt | omega)
    clear bxx0_7
    have bxx0_8_l := bxx0_8.lt
    have g0_8 := g0_7.below hb6 (by omega)
    clear g0_7
    have B_w9 := bthen B_w8 hb6
    have q17 : w9.cell? ⟨w.heap.size, 0, none⟩ = some (.slice A0 p.1.length c0) := bx0_8.cell 0
    have q18 : w9.cell? ⟨w.heap.size, 1, none⟩ = some (.slice A0b p.2.length c0b) := bx0_8.cell 1
    have q19 : w9.cell? ⟨w5.heap.size, 0, none⟩ = some (.slice P3 p.1.length d3) := bxx0_8.cell 0
    have q20 : w9.cell? ⟨w5.heap.size, 1, none⟩ = some (.slice P3b p.2.length d3b) := bxx0_8.cell 1
    go_wp2_with (fail)
    clear q17 q18 q19 q20
    refine (um_prog 1 x0_8 (by omega) (by omega) (by omega)).mono ?_
    rintro e w10 ⟨k7, rfl, ka7, kb7, _, on7⟩
    have s_w10 := on7.size
    have bx0_9 := bx0_8.only on7 (by first | exact .inl (by omega) | exact .inr (by omega))
    clear bx0_8
    have bx0_9_l := bx0_9.lt
    have w0_9 := w0_8.only on7 (by first | exact .inl (by omega) | exact .inr (by omega))
    clear w0_8
    have bxx0_9 := bxx0_8.only on7 (by first | exact .inl (by omega) | exact .inr (by omega))
    clear bxx0_8
    have bxx0_9_l := bxx0_9.lt
    have g0_9 := g0_8.only on7 (by first | exact .inl (by omega) | exact .inr (by omega))
    clear g0_8
    have B_w10 := Only.then_ B_w9 on7 (by omega)
    have kn : ¬ k7 < 0 := by omega
    have kd : decide (k7 < 0) = false := by simp; omega
    have q21 : w10.cell? ⟨w.heap.size, 0, none⟩ = some (.slice A0 p.1.length c0) := bx0_9.cell 0
    have q22 : w10.cell? ⟨w.heap.size, 1, none⟩ = some (.slice A0b p.2.length c0b) := bx0_9.cell 1
    have q23 : w10.cell? ⟨w5.heap.size, 0, none⟩ = some (.slice P3 p.1.length d3) := bxx0_9.cell 0
    have q24 : w10.cell? ⟨w5.heap.size, 1, none⟩ = some (.slice P3b p.2.length d3b) := bxx0_9.cell 1
    go_wp2_with (fail)
    clear q21 q22 q23 q24
    refine (eqGrid_any _ _ _ _ _ _ R0 _ g0_9 w0_9 HRs0.out).mono ?_
    rintro e w11 ⟨rfl, hb8⟩
    have s_w11 := hb8.size
    have bx0_10 := bx0_9.below hb8 (by first | exact bx0_9.lt | omega)
    clear bx0_9
    have bx0_10_l := bx0_10.lt
    have w0_10 := w0_9.below hb8 (by omega)
    clear w0_9
    have bxx0_10 := bxx0_9.below hb8 (by first | exact bxx0_9.lt | omega)
    clear bxx0_9
    have bxx0_10_l := bxx0_10.lt
    have g0_10 := g0_9.below hb8 (by omega)
    clear g0_9
    have B_w11 := bthen B_w10 hb8
    have q25 : w11.cell? ⟨w.heap.size, 0, none⟩ = some (.slice A0 p.1.length c0) := bx0_10.cell 0
    have q26 : w11.cell? ⟨w.heap.size, 1, none⟩ = some (.slice A0b p.2.length c0b) := bx0_10.cell 1
    have q27 : w11.cell? ⟨w5.heap.size, 0, none⟩ = some (.slice P3 p.1.length d3) := bxx0_10.cell 0
    have q28 : w11.cell? ⟨w5.heap.size, 1, none⟩ = some (.slice P3b p.2.length d3b) := bxx0_10.cell 1
    go_wp2_with (fail)
    clear q25 q26 q27 q28
    refine (um_grid g0_10 HRs0.out).mono ?_
    rintro e w12 ⟨m9, rfl, ma9, mb9, hd9, on9⟩
    have s_w12 := on9.size
    have bx0_11 := bx0_10.only on9 (by first | exact .inl (by omega) | exact .inr (by omega))
    clear bx0_10
    have bx0_11_l := bx0_11.lt
    have w0_11 := w0_10.only on9 (by first | exact .inl (by omega) | exact .inr (by omega))
    clear w0_10
    have bxx0_11 := bxx0_10.only on9 (by first | exact .inl (by omega) | exact .inr (by omega))
    clear bxx0_10
    have bxx0_11_l := bxx0_11.lt
    have B_w12 := Only.then_ B_w11 on9 (by omega)
    have mn : ¬ m9 < 0 := by omega
    have me : (m9 != m9) = false := by simp
    have q29 : w12.cell? ⟨w.heap.size, 0, none⟩ = some (.slice A0 p.1.length c0) := bx0_11.cell 0
    have q30 : w12.cell? ⟨w.heap.size, 1, none⟩ = some (.slice A0b p.2.length c0b) := bx0_11.cell 1
    have q31 : w12.cell? ⟨w5.heap.size, 0, none⟩ = some (.slice P3 p.1.length d3) := bxx0_11.cell 0
    have q32 : w12.cell? ⟨w5.heap.size, 1, none⟩ = some (.slice P3b p.2.length d3b) := bxx0_11.cell 1
    go_wp2_with (fail)
    clear q29 q30 q31 q32
    refine (uh_grid hd9).mono ?_
    rintro e w13 ⟨rfl, hb10⟩
    have s_w13 := hb10.size
    have bx0_12 := bx0_11.below hb10 (by first | exact bx0_11.lt | omega)
    clear bx0_11
    have bx0_12_l := bx0_12.lt
    have w0_12 := w0_11.below hb10 (by omega)
    clear w0_11
    have bxx0_12 := bxx0_11.below hb10 (by first | exact bxx0_11.lt | omega)
    clear bxx0_11
    have bxx0_12_l := bxx0_12.lt
    have d0_12 := hd9.below hb10 (by omega)
    clear hd9
    have B_w13 := bthen B_w12 hb10
    have q33 : w13.cell? ⟨w.heap.size, 0, none⟩ = some (.slice A0 p.1.length c0) := bx0_12.cell 0
    have q34 : w13.cell? ⟨w.heap.size, 1, none⟩ = some (.slice A0b p.2.length c0b) := bx0_12.cell 1
    have q35 : w13.cell? ⟨w5.heap.size, 0, none⟩ = some (.slice P3 p.1.length d3) := bxx0_12.cell 0
    have q36 : w13.cell? ⟨w5.heap.size, 1, none⟩ = some (.slice P3b p.2.length d3b) := bxx0_12.cell 1
    go_wp2_with (fail)
    clear q33 q34 q35 q36
    refine (toProgram_own _ p _ (H0.out.on B_w13) (by omega)).mono ?_
    rintro e w14 ⟨P11, d11, P11b, d11b, rfl, o11, hb11⟩
    have s_w14 := hb11.size
    have bx0_13 := bx0_12.below hb11 (by first | exact bx0_12.lt | omega)
    clear bx0_12
    have bx0_13_l := bx0_13.lt
    have w0_13 := w0_12.below hb11 (by omega)
    clear w0_12
    have bxx0_13 := bxx0_12.below hb11 (by first | exact bxx0_12.lt | omega)
    clear bxx0_12
    have bxx0_13_l := bxx0_13.lt
    have d0_13 := d0_12.below hb11 (by omega)
    clear d0_12
    have B_w14 := bthen B_w13 hb11
    have q37 : w14.cell? ⟨w.heap.size, 0, none⟩ = some (.slice A0 p.1.length c0) := bx0_13.cell 0
    have q38 : w14.cell? ⟨w.heap.size, 1, none⟩ = some (.slice A0b p.2.length c0b) := bx0_13.cell 1
    have q39 : w14.cell? ⟨w5.heap.size, 0, none⟩ = some (.slice P3 p.1.length d3) := bxx0_13.cell 0
    have q40 : w14.cell? ⟨w5.heap.size, 1, none⟩ = some (.slice P3b p.2.length d3b) := bxx0_13.cell 1
    go_wp2_with (fail)
    clear q37 q38 q39 q40
    refine (implReachesG_any _ p _ (o11.rd.more (by omega)) (by omega) (HT.out.below B_w14)).mono ?_
    rw [← HR0.out]
    rintro e w15 ⟨Q12_0, f12_0, rfl, o12_0, hb12⟩
    have s_w15 := hb12.size
    have bx0_14 := bx0_13.below hb12 (by first | exact bx0_13.lt | omega)
    clear bx0_13
    have bx0_14_l := bx0_14.lt
    have w0_14 := w0_13.below hb12 (by omega)
    clear w0_13
    have bxx0_14 := bxx0_13.below hb12 (by first | exact bxx0_13.lt | omega)
    clear bxx0_13
    have bxx0_14_l := bxx0_14.lt
    have d0_14 := d0_13.below hb12 (by omega)
    clear d0_13
    have th0_14 := o11.below hb12 (by omega)
    clear o11
    have B_w15 := bthen B_w14 hb12
    have q41 : w15.cell? ⟨w.heap.size, 0, none⟩ = some (.slice A0 p.1.length c0) := bx0_14.cell 0
    have q42 : w15.cell? ⟨w.heap.size, 1, none⟩ = some (.slice A0b p.2.length c0b) := bx0_14.cell 1
    have q43 : w15.cell? ⟨w5.heap.size, 0, none⟩ = some (.slice P3 p.1.length d3) := bxx0_14.cell 0
    have q44 : w15.cell? ⟨w5.heap.size, 1, none⟩ = some (.slice P3b p.2.length d3b) := bxx0_14.cell 1
    go_wp2_with (fail)
    clear q41 q42 q43 q44
    refine (eqGrid_any _ _ _ _ _ _ R0 _ o12_0 w0_14 HRs0.out).mono ?_
    rintro e w16 ⟨rfl, hb13⟩
    have s_w16 := hb13.size
    have bx0_15 := bx0_14.below hb13 (by first | exact bx0_14.lt | omega)
    clear bx0_14
    have bx0_15_l := bx0_15.lt
    have w0_15 := w0_14.below hb13 (by omega)
    clear w0_14
    have bxx0_15 := bxx0_14.below hb13 (by first | exact bxx0_14.lt | omega)
    clear bxx0_14
    have bxx0_15_l := bxx0_15.lt
    have d0_15 := d0_14.below hb13 (by omega)
    clear d0_14
    have h0_15 := o12_0.below hb13 (by omega)
    clear o12_0
    have B_w16 := bthen B_w15 hb13
    have q45 : w16.cell? ⟨w.heap.size, 0, none⟩ = some (.slice A0 p.1.length c0) := bx0_15.cell 0
    have q46 : w16.cell? ⟨w.heap.size, 1, none⟩ = some (.slice A0b p.2.length c0b) := bx0_15.cell 1
    have q47 : w16.cell? ⟨w5.heap.size, 0, none⟩ = some (.slice P3 p.1.length d3) := bxx0_15.cell 0
    have q48 : w16.cell? ⟨w5.heap.size, 1, none⟩ = some (.slice P3b p.2.length d3b) := bxx0_15.cell 1
    go_wp2_with (fail)
    clear q45 q46 q47 q48
    refine (uh_grid d0_15).mono ?_
    rintro e w17 ⟨rfl, hb14⟩
    have s_w17 := hb14.size
    have bx0_16 := bx0_15.below hb14 (by first | exact bx0_15.lt | omega)
    clear bx0_15
    have bx0_16_l := bx0_16.lt
    have w0_16 := w0_15.below hb14 (by omega)
    clear w0_15
    have bxx0_16 := bxx0_15.below hb14 (by first | exact bxx0_15.lt | omega)
    clear bxx0_15
    have bxx0_16_l := bxx0_16.lt
    have d0_16 := d0_15.below hb14 (by omega)
    clear d0_15
    have h0_16 := h0_15.below hb14 (by omega)
    clear h0_15
    have B_w17 := bthen B_w16 hb14
    have q49 : w17.cell? ⟨w.heap.size, 0, none⟩ = some (.slice A0 p.1.length c0) := bx0_16.cell 0
    have q50 : w17.cell? ⟨w.heap.size, 1, none⟩ = some (.slice A0b p.2.length c0b) := bx0_16.cell 1
    have q51 : w17.cell? ⟨w5.heap.size, 0, none⟩ = some (.slice P3 p.1.length d3) := bxx0_16.cell 0
    have q52 : w17.cell? ⟨w5.heap.size, 1, none⟩ = some (.slice P3b p.2.length d3b) := bxx0_16.cell 1
    go_wp2_with (fail)
    clear q49 q50 q51 q52
    go_ret
    exact ⟨rfl, B_w17⟩

theorem lawReaches_in (v0 : Value) (p : LProg) (w : World) (h0 : InProg w v0 p) (hT : Tab w) : Calls Tryd.prog 3 #[v0] w fun e w' => e = .returned (.bool true) ∧ Below w.heap.size w w' :=
  lawReaches_any v0 p w h0.1 (progLens_in h0.2) hT

end Go.Proofs.YtcoelmhlkfignaaDoor
namespace Go.Proofs.YtcoelmhlkfignaaDoor
open Go.ChangeShapes Go.WideShapes Go.ChangeAt Go.RowKit

set_option maxRecDepth 100000 in
theorem fnExactReaches_lifted (os : Os) (started : os.Started) (H : Type) (enc : TypeId × Value → H) :
    ReturnsInHanded {} Tryd.checked os 3 .any (fun w args => (Rows.fnExactReachesSpec.pre enc Tryd.prog Tryd.f3 [] false w args ∧ laidMetH Tryd.prog laidTabs w) ∧ sizedMet enc Tryd.prog Tryd.f3 (OpenSpec.ofChange Rows.fnExactReachesSpec) false w args) (Rows.fnExactReachesSpec.post enc Tryd.prog Tryd.f3 false true false false) := by
  refine returnsInHanded_of_change_and (C := Tryd.checked) (X := fun w _ => laidMetH Tryd.prog laidTabs w) (fun _ _ _ hh h => h.of_heap hh) Tryd.own started (by kernel_rfl) Tryd.func3
    (ChangeSpec.witness_shaped (enc := enc) (C := Tryd.checked) (os := os) (X := fun w _ => laidMetH Tryd.prog laidTabs w) false (World.laidAll Tryd.prog os laidTabs) #[.agg #[.slice none 0 0, .slice none 0 0]] 8 (World.laidAll_os _ _ _)
      (World.shaped_of_ZipB (by kernel_rfl) (by kernel_rfl)) (by kernel_rfl) (by kernel_rfl) (by kernel_rfl)
      (by rw [MakeChecks.laidMetH_plain _ _ _ (by kernel_rfl)]; exact laidMet_laidAll _ (by kernel_rfl) (by kernel_rfl))) ?_
  intro W base args ds gs before hval0 hW _ _ hL _
  have hval : ∀ (j : Nat) t v, Tryd.f3.params[j]? = some t → args[j]? = some v → Value.okWide Tryd.prog W .any base t v := hval0
  have hW' := hW
  obtain ⟨p, q, hA0, hV, rfl, hfz, hnd⟩ := hW
  have hA : DataW.TrodAll enc Tryd.prog W 0 (fun _ => true) true Tryd.f3.params.toList args.toList ds p := hA0
  rw [Tryd.params3] at hA hval
  obtain ⟨v0, vs0, d0, ds0, p0, q0, hargs, rfl, rfl, h0, r0⟩ := trodAll_cons hA
  obtain ⟨rfl, rfl, rfl⟩ := trodAll_nil r0
  obtain rfl : args = #[v0] := by cases args; simp_all
  obtain ⟨rfl, rfl⟩ := trodVars_none hV
  have lt0 : ∀ x ∈ p0, x.block < W.heap.size := by obtain ⟨m, hm⟩ := h0; exact DataW.trod_lt m _ _ _ hm
  obtain ⟨x0, w0⟩ := open_inProg (hval 0 25 v0 rfl rfl) h0
  clear hA0 hval0
  refine (lawReaches_in v0 x0 W w0 (tab_of_laid hL)).mono fun e W' ⟨he, bel⟩ => ?_
  subst he
  exact ⟨_, rfl, _, _, _, [], _, [], hW', trodAll_mk1 (shut_bool Tryd.underlying4 _), (trodAll_cons_mk (Below.trod Tryd.laidOut (by kernel_rfl) (of_decide_eq_true (by kernel_rfl)) h0 bel lt0) trodAll_mk0), rfl, bel.frame _, fun h => by cases h⟩

theorem fnExactReaches_holds : Rows.FnExactReachesSaid :=
  OpenClaim.holds_of_wide 3 Tryd.f3 rfl rfl rfl rfl rfl rfl rfl ⟨rfl, rfl, rfl, rfl, rfl⟩ rfl rfl rfl rfl rfl (by kernel_rfl) Tryd.func3 (by kernel_rfl)
    (of_decide_eq_true (by kernel_rfl)) (by unfold Func.isWrapper; rw [if_neg (of_decide_eq_false (by kernel_rfl))]; exact ⟨rfl, rfl⟩)
    (fun os started H enc _ => fnExactReaches_lifted os started H enc)

theorem fnExactReachesCard_holds : Rows.FnExactReachesCardSaid :=
  Claim7.holds_tied_plain_at .later [] [.data, .data] true (true, "89069972cc508f8cf5f997ce4745a7925f42ae071dd32f0e4fe41eb750c03e8f") false fnExactReaches_holds (fun _ h => by cases h) (by kernel_rfl) (fun _ h => by cases h) fnExactReaches_row_tie rfl ⟨rfl, rfl⟩ (by kernel_rfl) rfl
    (fun f fn hf hfn => by
      obtain rfl : f = 3 := Option.some.inj ((show Tryd.prog.funcNamed "loop.example/wholerules/laws.FnExactReaches" = some 3 by kernel_rfl).symm.trans hf) |>.symm
      obtain rfl : fn = Tryd.f3 := (Option.some.inj (Tryd.func3.symm.trans hfn)).symm
      exact ⟨by kernel_rfl, fun j t ht => by
        rw [Tryd.params3] at ht
        have hm : t ∈ [25] := by simpa using Array.mem_of_getElem? ht
        have hall : ([25].all fun u => !Tryd.prog.wantsStandIn u) = true := by kernel_rfl
        exact (show Tryd.prog.wantsStandIn t = false by simpa using List.all_eq_true.1 hall t hm)⟩)
    (by kernel_rfl)

end Go.Proofs.YtcoelmhlkfignaaDoor
