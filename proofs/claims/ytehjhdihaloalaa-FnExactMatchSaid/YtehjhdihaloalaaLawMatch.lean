/-
  The walk of the law on Match (written by wip/genlaw.py).
-/
import Derived.Test.YtehjhdihaloalaaMatchB
import Derived.Test.YtehjhdihaloalaaUAtom
import Derived.Test.YtehjhdihaloalaaUFact
import Derived.Test.YtehjhdihaloalaaOpenAtom
import Derived.Test.YtehjhdihaloalaaOpen
import Derived.Deep.RegionHeld3
import Derived.Deep.DeepCutAuto
import Derived.Deep.RegionWith
namespace Go.Proofs.Ytehjhdihaloalaa
open Go.RowKit

set_option maxHeartbeats 4000000 in
set_option maxRecDepth 100000 in
theorem lawMatch_any (v0 : Value) (v1 : Value) (v2 : Value) (a : LFact) (f : LFact) (bs : List Int) (w : World) (h0 : RdFact w w.heap.size v0 a) (h1 : RdFact w w.heap.size v1 f) (h2 : RdInts w w.heap.size v2 bs) (n0 : a.2.length ≤ maxLen) (n1 : f.2.length ≤ maxLen) :
    Calls Try.prog 9 #[v0, v1, v2] w fun e w' => e = .returned (.bool true) ∧ Below w.heap.size w w' := by
  have H0 := Lib.hid h0
  obtain ⟨a0, rfl, A0, c0, rfl, hc0, _⟩ := h0
  have H1 := Lib.hid h1
  obtain ⟨a1, rfl, A1, c1, rfl, hc1, _⟩ := h1
  have H2 := Lib.hid h2
  obtain ⟨A2, c2, rfl, hc2, _⟩ := h2
  by_cases g2 : 1048576 < bs.length
  · go_enter Try.func9, Try.ntmps9
    go_wp2_with (fail)
    go_ret
    exact ⟨rfl, below2 _ _ _⟩
  have r2 : bs.length ≤ 1048576 := by omega
  go_enter Try.func9, Try.ntmps9
  go_wp2_with (fail)
  obtain ⟨w1, hw_w1⟩ : ∃ W', W' = (w.alloc (Obj.cells #[Value.int IntKind.i64 a.1, Value.slice A0 a.2.length c0] 45)).alloc (Obj.cells #[Value.int IntKind.i64 f.1, Value.slice A1 f.2.length c1] 24) := ⟨_, rfl⟩
  rw [← hw_w1]
  have B_w1 : Below w.heap.size w w1 := by rw [hw_w1]; exact below2 _ _ _
  have bx0 : Blk w1 (w.heap.size + 0) 45 #[.int .i64 a.1, .slice A0 a.2.length c0] := by
    rw [hw_w1]
    have := (Blk.new w 45 #[.int .i64 a.1, .slice A0 a.2.length c0]).alloc (Obj.cells #[.int .i64 f.1, .slice A1 f.2.length c1] 24)
    simpa using this
  have bx0_l := bx0.lt
  rw [Nat.add_zero] at bx0 bx0_l
  have bx1 : Blk w1 (w.heap.size + 1) 24 #[.int .i64 f.1, .slice A1 f.2.length c1] := by
    rw [hw_w1]
    have := (Blk.new (w.alloc (Obj.cells #[.int .i64 a.1, .slice A0 a.2.length c0] 45)) 24 #[.int .i64 f.1, .slice A1 f.2.length c1])
    simpa using this
  have bx1_l := bx1.lt
  have s_w1 := B_w1.size
  clear hw_w1
  refine (us_atom (H0.out.on B_w1) (by omega) (by omega) n0).mono ?_
  rintro e w2 ⟨z0, rfl, hz0, hbz0⟩
  have s_w2 := hbz0.size
  have bx0_1 := bx0.below hbz0 (by first | exact bx0.lt | omega)
  clear bx0
  have bx0_1_l := bx0_1.lt
  have bx1_1 := bx1.below hbz0 (by first | exact bx1.lt | omega)
  clear bx1
  have bx1_1_l := bx1_1.lt
  have B_w2 := bthen B_w1 hbz0
  rcases hz0 with rfl | ⟨zp0, zs0⟩
  · go_wp2_with (fail)
    go_ret
    exact ⟨rfl, B_w2⟩
  have zn0 : ¬ z0 < 0 := by omega
  have r0 : a.2.length ≤ 1048576 := by omega
  have zl0 : z0 ≤ 1048576 := by omega
  clear zs0
  have q1 : w2.cell? ⟨w.heap.size, 0, none⟩ = some (.int .i64 a.1) := bx0_1.cell 0
  have q2 : w2.cell? ⟨w.heap.size, 1, none⟩ = some (.slice A0 a.2.length c0) := bx0_1.cell 1
  have q3 : w2.cell? ⟨w.heap.size + 1, 0, none⟩ = some (.int .i64 f.1) := bx1_1.cell 0
  have q4 : w2.cell? ⟨w.heap.size + 1, 1, none⟩ = some (.slice A1 f.2.length c1) := bx1_1.cell 1
  go_wp2_with (fail)
  clear q1 q2 q3 q4
  refine (us_fact (H1.out.on B_w2) (by omega) (by omega) n1).mono ?_
  rintro e w3 ⟨z1, rfl, hz1, hbz1⟩
  have s_w3 := hbz1.size
  have bx0_2 := bx0_1.below hbz1 (by first | exact bx0_1.lt | omega)
  clear bx0_1
  have bx0_2_l := bx0_2.lt
  have bx1_2 := bx1_1.below hbz1 (by first | exact bx1_1.lt | omega)
  clear bx1_1
  have bx1_2_l := bx1_2.lt
  have B_w3 := bthen B_w2 hbz1
  rcases hz1 with rfl | ⟨zp1, zs1⟩
  · go_wp2_with (fail)
    go_ret
    exact ⟨rfl, B_w3⟩
  have zn1 : ¬ z1 < 0 := by omega
  have r1 : f.2.length ≤ 1048576 := by omega
  have zl1 : z1 ≤ 1048576 := by omega
  clear zs1 zn1
  have zn1 : ¬ z1 < 0 := by omega
  obtain ⟨R0, hR0⟩ : ∃ R, R = matchR a f bs := ⟨_, rfl⟩
  have HR0 := Lib.hid hR0
  obtain ⟨R1, hR1⟩ : ∃ R, R = matchB a f bs := ⟨_, rfl⟩
  have HR1 := Lib.hid hR1
  have HRs0 := Lib.hid (show R0.length ≤ 1048576 by have := matchR_length a f bs; rw [hR0]; omega)
  have R0s := HRs0.out
  clear hR0 hR1
  have gb1 : (R1 != R1) = false := by simp
  have q5 : w3.cell? ⟨w.heap.size, 0, none⟩ = some (.int .i64 a.1) := bx0_2.cell 0
  have q6 : w3.cell? ⟨w.heap.size, 1, none⟩ = some (.slice A0 a.2.length c0) := bx0_2.cell 1
  have q7 : w3.cell? ⟨w.heap.size + 1, 0, none⟩ = some (.int .i64 f.1) := bx1_2.cell 0
  have q8 : w3.cell? ⟨w.heap.size + 1, 1, none⟩ = some (.slice A1 f.2.length c1) := bx1_2.cell 1
  go_upto_region 10 with fail
  clear q5 q6 q7 q8
  have HS_w3 := Lib.hid (show ∀ W, Below w3.heap.size w3 W → (Below w3.heap.size w3 W ∧ W.cell? ⟨w.heap.size, 0, none⟩ = some (.int .i64 a.1) ∧ W.cell? ⟨w.heap.size, 1, none⟩ = some (.slice A0 a.2.length c0) ∧ W.cell? ⟨w.heap.size + 1, 0, none⟩ = some (.int .i64 f.1) ∧ W.cell? ⟨w.heap.size + 1, 1, none⟩ = some (.slice A1 f.2.length c1)) from fun W hW => ⟨hW, (bx0_2.below hW bx0_2_l).cell 0, (bx0_2.below hW bx0_2_l).cell 1, (bx1_2.below hW bx1_2_l).cell 0, (bx1_2.below hW bx1_2_l).cell 1⟩)
  go_cut [8, 9] (fun s0 s1 wx => ∃ (Q_0 : Option Addr) (f_0 : Nat), s0 = .slice Q_0 R0.length f_0 ∧ s1 = .bool R1 ∧ OwnInts wx w3.heap.size wx.heap.size (.slice Q_0 R0.length f_0) R0 ∧ Below w3.heap.size w3 wx)
  case first =>
    go_region_held3 (fun W => Below w3.heap.size w3 W ∧ W.cell? ⟨w.heap.size, 0, none⟩ = some (.int .i64 a.1) ∧ W.cell? ⟨w.heap.size, 1, none⟩ = some (.slice A0 a.2.length c0) ∧ W.cell? ⟨w.heap.size + 1, 0, none⟩ = some (.int .i64 f.1) ∧ W.cell? ⟨w.heap.size + 1, 1, none⟩ = some (.slice A1 f.2.length c1))
      (first | exact HS_w3.out _ (Below.refl _ _) | exact HS_w3.out _ (Below.refl _ _).drew | exact HS_w3.out _ (bthen (And.left (by assumption)) (by assumption)))
      (first
        | (go_at_call 40; refine (toAtom_any _ a _ ?_ (by omega)).mono ?_; exact H0.out.on (bthen B_w3 (And.left (by assumption))); rintro e w_0 ⟨P0, d0, rfl, o0, g0⟩)
        | (go_at_call 17; refine (toFact_any _ f _ ?_ (by omega)).mono ?_; exact H1.out.on (bthen B_w3 (And.left (by assumption))); rintro e w_1 ⟨P1, d1, rfl, o1, g1⟩)
        | (go_at_call 16; refine (toIntS_any _ bs _ ?_ (by omega)).mono ?_; exact H2.out.on (bthen B_w3 (And.left (by assumption))); rintro e w_2 ⟨P2, d2, rfl, o2, g2⟩)
        | (go_at_call 39; refine (specMatch_any _ _ _ a f bs _ ⟨_, rfl, ((o0.rd.on g1).on g2)⟩ ⟨_, rfl, (o1.rd.on g2)⟩ (o2.rd) r0 r1 r2).mono ?_; rw [← HR0.out]; try rw [← HR1.out]; rintro e w_r ⟨Q_0, f_0, rfl, oo_0, hb_r⟩))
    all_goals (go_wp2_with fail; go_meet; exact ⟨_, _, rfl, rfl, oo_0.mono (Nat.le_trans g0.size (Nat.le_trans g1.size (g2.size))) (Nat.le_refl _), And.left (by assumption)⟩)
  case rest =>
    obtain ⟨Q1_0, f1_0, rfl, rfl, o1_0, hb1⟩ := hcut
    clear HS_w3
    generalize wc = w4 at *
    have s_w4 := hb1.size
    have bx0_3 := bx0_2.below hb1 (by first | exact bx0_2.lt | omega)
    clear bx0_2
    have bx0_3_l := bx0_3.lt
    have bx1_3 := bx1_2.below hb1 (by first | exact bx1_2.lt | omega)
    clear bx1_2
    have bx1_3_l := bx1_3.lt
    have B_w4 := bthen B_w3 hb1
    have q9 : w4.cell? ⟨w.heap.size, 0, none⟩ = some (.int .i64 a.1) := bx0_3.cell 0
    have q10 : w4.cell? ⟨w.heap.size, 1, none⟩ = some (.slice A0 a.2.length c0) := bx0_3.cell 1
    have q11 : w4.cell? ⟨w.heap.size + 1, 0, none⟩ = some (.int .i64 f.1) := bx1_3.cell 0
    have q12 : w4.cell? ⟨w.heap.size + 1, 1, none⟩ = some (.slice A1 f.2.length c1) := bx1_3.cell 1
    go_wp2_with (fail)
    clear q9 q10 q11 q12
    refine (toAtom_any _ a _ (H0.out.on B_w4) (by omega)).mono ?_
    rintro e w5 ⟨P2, d2, rfl, o2, hb2⟩
    have s_w5 := hb2.size
    have bx0_4 := bx0_3.below hb2 (by first | exact bx0_3.lt | omega)
    clear bx0_3
    have bx0_4_l := bx0_4.lt
    have bx1_4 := bx1_3.below hb2 (by first | exact bx1_3.lt | omega)
    clear bx1_3
    have bx1_4_l := bx1_4.lt
    have w0_4 := o1_0.below hb2 (by omega)
    clear o1_0
    have B_w5 := bthen B_w4 hb2
    have q13 : w5.cell? ⟨w.heap.size, 0, none⟩ = some (.int .i64 a.1) := bx0_4.cell 0
    have q14 : w5.cell? ⟨w.heap.size, 1, none⟩ = some (.slice A0 a.2.length c0) := bx0_4.cell 1
    have q15 : w5.cell? ⟨w.heap.size + 1, 0, none⟩ = some (.int .i64 f.1) := bx1_4.cell 0
    have q16 : w5.cell? ⟨w.heap.size + 1, 1, none⟩ = some (.slice A1 f.2.length c1) := bx1_4.cell 1
    go_wp2_with (fail)
    clear q13 q14 q15 q16
    obtain ⟨w6, hw_w6⟩ : ∃ W', W' = w5.alloc (Obj.cells #[Value.int IntKind.i64 a.1, Value.slice P2 a.2.length d2] 49) := ⟨_, rfl⟩
    rw [← hw_w6]
    have hb_w6 : Below w5.heap.size w5 w6 := by rw [hw_w6]; exact below1 _ _
    have bxx0_n : Blk w6 w5.heap.size 49 #[.int .i64 a.1, .slice P2 a.2.length d2] := by rw [hw_w6]; exact Blk.new _ _ _
    have bxx0_nl := bxx0_n.lt
    clear hw_w6
    have s_w6 := hb_w6.size
    have bx0_5 := bx0_4.below hb_w6 (by first | exact bx0_4.lt | omega)
    clear bx0_4
    have bx0_5_l := bx0_5.lt
    have bx1_5 := bx1_4.below hb_w6 (by first | exact bx1_4.lt | omega)
    clear bx1_4
    have bx1_5_l := bx1_5.lt
    have w0_5 := w0_4.below hb_w6 (by omega)
    clear w0_4
    have x0_5 := o2.below hb_w6 (by omega)
    clear o2
    have B_w6 := bthen B_w5 hb_w6
    refine (toFact_any _ f _ (H1.out.on B_w6) (by omega)).mono ?_
    rintro e w7 ⟨P3, d3, rfl, o3, hb3⟩
    have s_w7 := hb3.size
    have bx0_6 := bx0_5.below hb3 (by first | exact bx0_5.lt | omega)
    clear bx0_5
    have bx0_6_l := bx0_6.lt
    have bx1_6 := bx1_5.below hb3 (by first | exact bx1_5.lt | omega)
    clear bx1_5
    have bx1_6_l := bx1_6.lt
    have w0_6 := w0_5.below hb3 (by omega)
    clear w0_5
    have x0_6 := x0_5.below hb3 (by omega)
    clear x0_5
    have bxx0_6 := bxx0_n.below hb3 (by first | exact bxx0_n.lt | omega)
    clear bxx0_n
    have bxx0_6_l := bxx0_6.lt
    have B_w7 := bthen B_w6 hb3
    have q17 : w7.cell? ⟨w.heap.size, 0, none⟩ = some (.int .i64 a.1) := bx0_6.cell 0
    have q18 : w7.cell? ⟨w.heap.size, 1, none⟩ = some (.slice A0 a.2.length c0) := bx0_6.cell 1
    have q19 : w7.cell? ⟨w.heap.size + 1, 0, none⟩ = some (.int .i64 f.1) := bx1_6.cell 0
    have q20 : w7.cell? ⟨w.heap.size + 1, 1, none⟩ = some (.slice A1 f.2.length c1) := bx1_6.cell 1
    have q21 : w7.cell? ⟨w5.heap.size, 0, none⟩ = some (.int .i64 a.1) := bxx0_6.cell 0
    have q22 : w7.cell? ⟨w5.heap.size, 1, none⟩ = some (.slice P2 a.2.length d2) := bxx0_6.cell 1
    go_wp2_with (fail)
    clear q17 q18 q19 q20 q21 q22
    obtain ⟨w8, hw_w8⟩ : ∃ W', W' = w7.alloc (Obj.cells #[Value.int IntKind.i64 f.1, Value.slice P3 f.2.length d3] 28) := ⟨_, rfl⟩
    rw [← hw_w8]
    have hb_w8 : Below w7.heap.size w7 w8 := by rw [hw_w8]; exact below1 _ _
    have bxx1_n : Blk w8 w7.heap.size 28 #[.int .i64 f.1, .slice P3 f.2.length d3] := by rw [hw_w8]; exact Blk.new _ _ _
    have bxx1_nl := bxx1_n.lt
    clear hw_w8
    have s_w8 := hb_w8.size
    have bx0_7 := bx0_6.below hb_w8 (by first | exact bx0_6.lt | omega)
    clear bx0_6
    have bx0_7_l := bx0_7.lt
    have bx1_7 := bx1_6.below hb_w8 (by first | exact bx1_6.lt | omega)
    clear bx1_6
    have bx1_7_l := bx1_7.lt
    have w0_7 := w0_6.below hb_w8 (by omega)
    clear w0_6
    have x0_7 := x0_6.below hb_w8 (by omega)
    clear x0_6
    have bxx0_7 := bxx0_6.below hb_w8 (by first | exact bxx0_6.lt | omega)
    clear bxx0_6
    have bxx0_7_l := bxx0_7.lt
    have x1_7 := o3.below hb_w8 (by omega)
    clear o3
    have B_w8 := bthen B_w7 hb_w8
    refine (toIntS_any _ bs _ (H2.out.on B_w8) (by omega)).mono ?_
    rintro e w9 ⟨P4, d4, rfl, o4, hb4⟩
    have s_w9 := hb4.size
    have bx0_8 := bx0_7.below hb4 (by first | exact bx0_7.lt | omega)
    clear bx0_7
    have bx0_8_l := bx0_8.lt
    have bx1_8 := bx1_7.below hb4 (by first | exact bx1_7.lt | omega)
    clear bx1_7
    have bx1_8_l := bx1_8.lt
    have w0_8 := w0_7.below hb4 (by omega)
    clear w0_7
    have x0_8 := x0_7.below hb4 (by omega)
    clear x0_7
    have bxx0_8 := bxx0_7.below hb4 (by first | exact bxx0_7.lt | omega)
    clear bxx0_7
    have bxx0_8_l := bxx0_8.lt
    have x1_8 := x1_7.below hb4 (by omega)
    clear x1_7
    have bxx1_8 := bxx1_n.below hb4 (by first | exact bxx1_n.lt | omega)
    clear bxx1_n
    have bxx1_8_l := bxx1_8.lt
    have B_w9 := bthen B_w8 hb4
    have q23 : w9.cell? ⟨w.heap.size, 0, none⟩ = some (.int .i64 a.1) := bx0_8.cell 0
    have q24 : w9.cell? ⟨w.heap.size, 1, none⟩ = some (.slice A0 a.2.length c0) := bx0_8.cell 1
    have q25 : w9.cell? ⟨w.heap.size + 1, 0, none⟩ = some (.int .i64 f.1) := bx1_8.cell 0
    have q26 : w9.cell? ⟨w.heap.size + 1, 1, none⟩ = some (.slice A1 f.2.length c1) := bx1_8.cell 1
    have q27 : w9.cell? ⟨w5.heap.size, 0, none⟩ = some (.int .i64 a.1) := bxx0_8.cell 0
    have q28 : w9.cell? ⟨w5.heap.size, 1, none⟩ = some (.slice P2 a.2.length d2) := bxx0_8.cell 1
    have q29 : w9.cell? ⟨w7.heap.size, 0, none⟩ = some (.int .i64 f.1) := bxx1_8.cell 0
    have q30 : w9.cell? ⟨w7.heap.size, 1, none⟩ = some (.slice P3 f.2.length d3) := bxx1_8.cell 1
    go_wp2_with (fail)
    clear q23 q24 q25 q26 q27 q28 q29 q30
    refine (implMatch_any _ _ _ a f bs _ ⟨_, rfl, x0_8.rd.more (by omega)⟩ ⟨_, rfl, x1_8.rd.more (by omega)⟩ (o4.rd.more (by omega)) r0 r1 r2).mono ?_
    rw [← HR0.out]
    try rw [← HR1.out]
    rintro e w10 ⟨Q5_0, f5_0, rfl, o5_0, hb5⟩
    have s_w10 := hb5.size
    have bx0_9 := bx0_8.below hb5 (by first | exact bx0_8.lt | omega)
    clear bx0_8
    have bx0_9_l := bx0_9.lt
    have bx1_9 := bx1_8.below hb5 (by first | exact bx1_8.lt | omega)
    clear bx1_8
    have bx1_9_l := bx1_9.lt
    have w0_9 := w0_8.below hb5 (by omega)
    clear w0_8
    have x0_9 := x0_8.below hb5 (by omega)
    clear x0_8
    have bxx0_9 := bxx0_8.below hb5 (by first | exact bxx0_8.lt | omega)
    clear bxx0_8
    have bxx0_9_l := bxx0_9.lt
    have x1_9 := x1_8.below hb5 (by omega)
    clear x1_8
    have bxx1_9 := bxx1_8.below hb5 (by first | exact bxx1_8.lt | omega)
    clear bxx1_8
    have bxx1_9_l := bxx1_9.lt
    have x2_9 := o4.below hb5 (by omega)
    clear o4
    have B_w10 := bthen B_w9 hb5
    have q31 : w10.cell? ⟨w.heap.size, 0, none⟩ = some (.int .i64 a.1) := bx0_9.cell 0
    have q32 : w10.cell? ⟨w.heap.size, 1, none⟩ = some (.slice A0 a.2.length c0) := bx0_9.cell 1
    have q33 : w10.cell? ⟨w.heap.size + 1, 0, none⟩ = some (.int .i64 f.1) := bx1_9.cell 0
    have q34 : w10.cell? ⟨w.heap.size + 1, 1, none⟩ = some (.slice A1 f.2.length c1) := bx1_9.cell 1
    have q35 : w10.cell? ⟨w5.heap.size, 0, none⟩ = some (.int .i64 a.1) := bxx0_9.cell 0
    have q36 : w10.cell? ⟨w5.heap.size, 1, none⟩ = some (.slice P2 a.2.length d2) := bxx0_9.cell 1
    have q37 : w10.cell? ⟨w7.heap.size, 0, none⟩ = some (.int .i64 f.1) := bxx1_9.cell 0
    have q38 : w10.cell? ⟨w7.heap.size, 1, none⟩ = some (.slice P3 f.2.length d3) := bxx1_9.cell 1
    go_wp2_with (fail)
    clear q31 q32 q33 q34 q35 q36 q37 q38
    refine (eqIntS_any _ _ R0 R0 _ (o5_0.rd.more (by omega)) (w0_9.rd.more (by omega)) (by omega) (by omega)).mono ?_
    rintro e w11 ⟨rfl, hb6⟩
    rw [show decide (R0 = R0) = true by simp]
    have s_w11 := hb6.size
    have bx0_10 := bx0_9.below hb6 (by first | exact bx0_9.lt | omega)
    clear bx0_9
    have bx0_10_l := bx0_10.lt
    have bx1_10 := bx1_9.below hb6 (by first | exact bx1_9.lt | omega)
    clear bx1_9
    have bx1_10_l := bx1_10.lt
    have w0_10 := w0_9.below hb6 (by omega)
    clear w0_9
    have x0_10 := x0_9.below hb6 (by omega)
    clear x0_9
    have bxx0_10 := bxx0_9.below hb6 (by first | exact bxx0_9.lt | omega)
    clear bxx0_9
    have bxx0_10_l := bxx0_10.lt
    have x1_10 := x1_9.below hb6 (by omega)
    clear x1_9
    have bxx1_10 := bxx1_9.below hb6 (by first | exact bxx1_9.lt | omega)
    clear bxx1_9
    have bxx1_10_l := bxx1_10.lt
    have x2_10 := x2_9.below hb6 (by omega)
    clear x2_9
    have g0_10 := o5_0.below hb6 (by omega)
    clear o5_0
    have B_w11 := bthen B_w10 hb6
    have q39 : w11.cell? ⟨w.heap.size, 0, none⟩ = some (.int .i64 a.1) := bx0_10.cell 0
    have q40 : w11.cell? ⟨w.heap.size, 1, none⟩ = some (.slice A0 a.2.length c0) := bx0_10.cell 1
    have q41 : w11.cell? ⟨w.heap.size + 1, 0, none⟩ = some (.int .i64 f.1) := bx1_10.cell 0
    have q42 : w11.cell? ⟨w.heap.size + 1, 1, none⟩ = some (.slice A1 f.2.length c1) := bx1_10.cell 1
    have q43 : w11.cell? ⟨w5.heap.size, 0, none⟩ = some (.int .i64 a.1) := bxx0_10.cell 0
    have q44 : w11.cell? ⟨w5.heap.size, 1, none⟩ = some (.slice P2 a.2.length d2) := bxx0_10.cell 1
    have q45 : w11.cell? ⟨w7.heap.size, 0, none⟩ = some (.int .i64 f.1) := bxx1_10.cell 0
    have q46 : w11.cell? ⟨w7.heap.size, 1, none⟩ = some (.slice P3 f.2.length d3) := bxx1_10.cell 1
    go_upto_region 17 with fail
    clear q39 q40 q41 q42 q43 q44 q45 q46
    have HS_w11 := Lib.hid (show ∀ W, Below w11.heap.size w11 W → (Below w11.heap.size w11 W ∧ W.cell? ⟨w.heap.size, 0, none⟩ = some (.int .i64 a.1) ∧ W.cell? ⟨w.heap.size, 1, none⟩ = some (.slice A0 a.2.length c0) ∧ W.cell? ⟨w.heap.size + 1, 0, none⟩ = some (.int .i64 f.1) ∧ W.cell? ⟨w.heap.size + 1, 1, none⟩ = some (.slice A1 f.2.length c1) ∧ W.cell? ⟨w5.heap.size, 0, none⟩ = some (.int .i64 a.1) ∧ W.cell? ⟨w5.heap.size, 1, none⟩ = some (.slice P2 a.2.length d2) ∧ W.cell? ⟨w7.heap.size, 0, none⟩ = some (.int .i64 f.1) ∧ W.cell? ⟨w7.heap.size, 1, none⟩ = some (.slice P3 f.2.length d3)) from fun W hW => ⟨hW, (bx0_10.below hW bx0_10_l).cell 0, (bx0_10.below hW bx0_10_l).cell 1, (bx1_10.below hW bx1_10_l).cell 0, (bx1_10.below hW bx1_10_l).cell 1, (bxx0_10.below hW bxx0_10_l).cell 0, (bxx0_10.below hW bxx0_10_l).cell 1, (bxx1_10.below hW bxx1_10_l).cell 0, (bxx1_10.below hW bxx1_10_l).cell 1⟩)
    have RX_w11 := Lib.hid (show RdFact w11 w11.heap.size (.agg #[.int .i64 a.1, .slice P2 a.2.length d2]) a from ⟨_, rfl, x0_10.rd.more (by omega)⟩)
    go_cut [69] (fun s wx => s = .bool false ∧ Below w11.heap.size w11 wx)
    case first =>
      go_region_held3 (fun W => Below w11.heap.size w11 W ∧ W.cell? ⟨w.heap.size, 0, none⟩ = some (.int .i64 a.1) ∧ W.cell? ⟨w.heap.size, 1, none⟩ = some (.slice A0 a.2.length c0) ∧ W.cell? ⟨w.heap.size + 1, 0, none⟩ = some (.int .i64 f.1) ∧ W.cell? ⟨w.heap.size + 1, 1, none⟩ = some (.slice A1 f.2.length c1) ∧ W.cell? ⟨w5.heap.size, 0, none⟩ = some (.int .i64 a.1) ∧ W.cell? ⟨w5.heap.size, 1, none⟩ = some (.slice P2 a.2.length d2) ∧ W.cell? ⟨w7.heap.size, 0, none⟩ = some (.int .i64 f.1) ∧ W.cell? ⟨w7.heap.size, 1, none⟩ = some (.slice P3 f.2.length d3))
        (first | exact HS_w11.out _ (Below.refl _ _) | exact HS_w11.out _ (Below.refl _ _).drew | exact HS_w11.out _ (bthen (And.left (by assumption)) (by assumption)))
        (first
          | (go_at_call 40; refine (toAtom_any _ a _ ?_ (by omega)).mono ?_; exact H0.out.on (bthen B_w11 (And.left (by assumption))); rintro e wf ⟨Af, cf, rfl, hof, hbf⟩)
          | (go_at_call 42; refine (eqAtom_any _ _ a a _ ?_ ?_ (by omega) (by omega)).mono ?_; exact (RX_w11.out.on (And.left (by assumption))); exact ⟨_, rfl, hof.rd⟩; rw [show decide (a = a) = true by simp]; rintro e wg ⟨rfl, hbg⟩))
      all_goals (go_wp2_with fail; go_meet; exact ⟨rfl, And.left (by assumption)⟩)
    case rest =>
      obtain ⟨rfl, hb7⟩ := hcut
      clear HS_w11 RX_w11
      generalize wc = w12 at *
      have s_w12 := hb7.size
      have bx0_11 := bx0_10.below hb7 (by first | exact bx0_10.lt | omega)
      clear bx0_10
      have bx0_11_l := bx0_11.lt
      have bx1_11 := bx1_10.below hb7 (by first | exact bx1_10.lt | omega)
      clear bx1_10
      have bx1_11_l := bx1_11.lt
      have w0_11 := w0_10.below hb7 (by omega)
      clear w0_10
      have x0_11 := x0_10.below hb7 (by omega)
      clear x0_10
      have bxx0_11 := bxx0_10.below hb7 (by first | exact bxx0_10.lt | omega)
      clear bxx0_10
      have bxx0_11_l := bxx0_11.lt
      have x1_11 := x1_10.below hb7 (by omega)
      clear x1_10
      have bxx1_11 := bxx1_10.below hb7 (by first | exact bxx1_10.lt | omega)
      clear bxx1_10
      have bxx1_11_l := bxx1_11.lt
      have x2_11 := x2_10.below hb7 (by omega)
      clear x2_10
      have g0_11 := g0_10.below hb7 (by omega)
      clear g0_10
      have B_w12 := bthen B_w11 hb7
      have q47 : w12.cell? ⟨w.heap.size, 0, none⟩ = some (.int .i64 a.1) := bx0_11.cell 0
      have q48 : w12.cell? ⟨w.heap.size, 1, none⟩ = some (.slice A0 a.2.length c0) := bx0_11.cell 1
      have q49 : w12.cell? ⟨w.heap.size + 1, 0, none⟩ = some (.int .i64 f.1) := bx1_11.cell 0
      have q50 : w12.cell? ⟨w.heap.size + 1, 1, none⟩ = some (.slice A1 f.2.length c1) := bx1_11.cell 1
      have q51 : w12.cell? ⟨w5.heap.size, 0, none⟩ = some (.int .i64 a.1) := bxx0_11.cell 0
      have q52 : w12.cell? ⟨w5.heap.size, 1, none⟩ = some (.slice P2 a.2.length d2) := bxx0_11.cell 1
      have q53 : w12.cell? ⟨w7.heap.size, 0, none⟩ = some (.int .i64 f.1) := bxx1_11.cell 0
      have q54 : w12.cell? ⟨w7.heap.size, 1, none⟩ = some (.slice P3 f.2.length d3) := bxx1_11.cell 1
      go_upto_region 19 with fail
      clear q47 q48 q49 q50 q51 q52 q53 q54
      have HS_w12 := Lib.hid (show ∀ W, Below w12.heap.size w12 W → (Below w12.heap.size w12 W ∧ W.cell? ⟨w.heap.size, 0, none⟩ = some (.int .i64 a.1) ∧ W.cell? ⟨w.heap.size, 1, none⟩ = some (.slice A0 a.2.length c0) ∧ W.cell? ⟨w.heap.size + 1, 0, none⟩ = some (.int .i64 f.1) ∧ W.cell? ⟨w.heap.size + 1, 1, none⟩ = some (.slice A1 f.2.length c1) ∧ W.cell? ⟨w5.heap.size, 0, none⟩ = some (.int .i64 a.1) ∧ W.cell? ⟨w5.heap.size, 1, none⟩ = some (.slice P2 a.2.length d2) ∧ W.cell? ⟨w7.heap.size, 0, none⟩ = some (.int .i64 f.1) ∧ W.cell? ⟨w7.heap.size, 1, none⟩ = some (.slice P3 f.2.length d3)) from fun W hW => ⟨hW, (bx0_11.below hW bx0_11_l).cell 0, (bx0_11.below hW bx0_11_l).cell 1, (bx1_11.below hW bx1_11_l).cell 0, (bx1_11.below hW bx1_11_l).cell 1, (bxx0_11.below hW bxx0_11_l).cell 0, (bxx0_11.below hW bxx0_11_l).cell 1, (bxx1_11.below hW bxx1_11_l).cell 0, (bxx1_11.below hW bxx1_11_l).cell 1⟩)
      have RX_w12 := Lib.hid (show RdFact w12 w12.heap.size (.agg #[.int .i64 f.1, .slice P3 f.2.length d3]) f from ⟨_, rfl, x1_11.rd.more (by omega)⟩)
      go_cut [74] (fun s wx => s = .bool false ∧ Below w12.heap.size w12 wx)
      case first =>
        go_region_held3 (fun W => Below w12.heap.size w12 W ∧ W.cell? ⟨w.heap.size, 0, none⟩ = some (.int .i64 a.1) ∧ W.cell? ⟨w.heap.size, 1, none⟩ = some (.slice A0 a.2.length c0) ∧ W.cell? ⟨w.heap.size + 1, 0, none⟩ = some (.int .i64 f.1) ∧ W.cell? ⟨w.heap.size + 1, 1, none⟩ = some (.slice A1 f.2.length c1) ∧ W.cell? ⟨w5.heap.size, 0, none⟩ = some (.int .i64 a.1) ∧ W.cell? ⟨w5.heap.size, 1, none⟩ = some (.slice P2 a.2.length d2) ∧ W.cell? ⟨w7.heap.size, 0, none⟩ = some (.int .i64 f.1) ∧ W.cell? ⟨w7.heap.size, 1, none⟩ = some (.slice P3 f.2.length d3))
          (first | exact HS_w12.out _ (Below.refl _ _) | exact HS_w12.out _ (Below.refl _ _).drew | exact HS_w12.out _ (bthen (And.left (by assumption)) (by assumption)))
          (first
            | (go_at_call 17; refine (toFact_any _ f _ ?_ (by omega)).mono ?_; exact H1.out.on (bthen B_w12 (And.left (by assumption))); rintro e wf ⟨Af, cf, rfl, hof, hbf⟩)
            | (go_at_call 20; refine (eqFact_any _ _ f f _ ?_ ?_ (by omega) (by omega)).mono ?_; exact (RX_w12.out.on (And.left (by assumption))); exact ⟨_, rfl, hof.rd⟩; rw [show decide (f = f) = true by simp]; rintro e wg ⟨rfl, hbg⟩))
        all_goals (go_wp2_with fail; go_meet; exact ⟨rfl, And.left (by assumption)⟩)
      case rest =>
        obtain ⟨rfl, hb8⟩ := hcut
        clear HS_w12 RX_w12
        generalize wc = w13 at *
        have s_w13 := hb8.size
        have bx0_12 := bx0_11.below hb8 (by first | exact bx0_11.lt | omega)
        clear bx0_11
        have bx0_12_l := bx0_12.lt
        have bx1_12 := bx1_11.below hb8 (by first | exact bx1_11.lt | omega)
        clear bx1_11
        have bx1_12_l := bx1_12.lt
        have w0_12 := w0_11.below hb8 (by omega)
        clear w0_11
        have x0_12 := x0_11.below hb8 (by omega)
        clear x0_11
        have bxx0_12 := bxx0_11.below hb8 (by first | exact bxx0_11.lt | omega)
        clear bxx0_11
        have bxx0_12_l := bxx0_12.lt
        have x1_12 := x1_11.below hb8 (by omega)
        clear x1_11
        have bxx1_12 := bxx1_11.below hb8 (by first | exact bxx1_11.lt | omega)
        clear bxx1_11
        have bxx1_12_l := bxx1_12.lt
        have x2_12 := x2_11.below hb8 (by omega)
        clear x2_11
        have g0_12 := g0_11.below hb8 (by omega)
        clear g0_11
        have B_w13 := bthen B_w12 hb8
        have q55 : w13.cell? ⟨w.heap.size, 0, none⟩ = some (.int .i64 a.1) := bx0_12.cell 0
        have q56 : w13.cell? ⟨w.heap.size, 1, none⟩ = some (.slice A0 a.2.length c0) := bx0_12.cell 1
        have q57 : w13.cell? ⟨w.heap.size + 1, 0, none⟩ = some (.int .i64 f.1) := bx1_12.cell 0
        have q58 : w13.cell? ⟨w.heap.size + 1, 1, none⟩ = some (.slice A1 f.2.length c1) := bx1_12.cell 1
        have q59 : w13.cell? ⟨w5.heap.size, 0, none⟩ = some (.int .i64 a.1) := bxx0_12.cell 0
        have q60 : w13.cell? ⟨w5.heap.size, 1, none⟩ = some (.slice P2 a.2.length d2) := bxx0_12.cell 1
        have q61 : w13.cell? ⟨w7.heap.size, 0, none⟩ = some (.int .i64 f.1) := bxx1_12.cell 0
        have q62 : w13.cell? ⟨w7.heap.size, 1, none⟩ = some (.slice P3 f.2.length d3) := bxx1_12.cell 1
        go_wp2_with (fail)
        clear q55 q56 q57 q58 q59 q60 q61 q62
        refine (toIntS_any _ bs _ (H2.out.on B_w13) (by omega)).mono ?_
        rintro e w14 ⟨P9, d9, rfl, o9, hb9⟩
        have s_w14 := hb9.size
        have bx0_13 := bx0_12.below hb9 (by first | exact bx0_12.lt | omega)
        clear bx0_12
        have bx0_13_l := bx0_13.lt
        have bx1_13 := bx1_12.below hb9 (by first | exact bx1_12.lt | omega)
        clear bx1_12
        have bx1_13_l := bx1_13.lt
        have w0_13 := w0_12.below hb9 (by omega)
        clear w0_12
        have x0_13 := x0_12.below hb9 (by omega)
        clear x0_12
        have bxx0_13 := bxx0_12.below hb9 (by first | exact bxx0_12.lt | omega)
        clear bxx0_12
        have bxx0_13_l := bxx0_13.lt
        have x1_13 := x1_12.below hb9 (by omega)
        clear x1_12
        have bxx1_13 := bxx1_12.below hb9 (by first | exact bxx1_12.lt | omega)
        clear bxx1_12
        have bxx1_13_l := bxx1_13.lt
        have x2_13 := x2_12.below hb9 (by omega)
        clear x2_12
        have g0_13 := g0_12.below hb9 (by omega)
        clear g0_12
        have B_w14 := bthen B_w13 hb9
        have q63 : w14.cell? ⟨w.heap.size, 0, none⟩ = some (.int .i64 a.1) := bx0_13.cell 0
        have q64 : w14.cell? ⟨w.heap.size, 1, none⟩ = some (.slice A0 a.2.length c0) := bx0_13.cell 1
        have q65 : w14.cell? ⟨w.heap.size + 1, 0, none⟩ = some (.int .i64 f.1) := bx1_13.cell 0
        have q66 : w14.cell? ⟨w.heap.size + 1, 1, none⟩ = some (.slice A1 f.2.length c1) := bx1_13.cell 1
        have q67 : w14.cell? ⟨w5.heap.size, 0, none⟩ = some (.int .i64 a.1) := bxx0_13.cell 0
        have q68 : w14.cell? ⟨w5.heap.size, 1, none⟩ = some (.slice P2 a.2.length d2) := bxx0_13.cell 1
        have q69 : w14.cell? ⟨w7.heap.size, 0, none⟩ = some (.int .i64 f.1) := bxx1_13.cell 0
        have q70 : w14.cell? ⟨w7.heap.size, 1, none⟩ = some (.slice P3 f.2.length d3) := bxx1_13.cell 1
        go_wp2_with (fail)
        clear q63 q64 q65 q66 q67 q68 q69 q70
        refine (eqIntS_any _ _ bs bs _ (x2_13.rd.more (by omega)) (o9.rd.more (by omega)) (by omega) (by omega)).mono ?_
        rintro e w15 ⟨rfl, hb10⟩
        rw [show decide (bs = bs) = true by simp]
        have s_w15 := hb10.size
        have bx0_14 := bx0_13.below hb10 (by first | exact bx0_13.lt | omega)
        clear bx0_13
        have bx0_14_l := bx0_14.lt
        have bx1_14 := bx1_13.below hb10 (by first | exact bx1_13.lt | omega)
        clear bx1_13
        have bx1_14_l := bx1_14.lt
        have w0_14 := w0_13.below hb10 (by omega)
        clear w0_13
        have x0_14 := x0_13.below hb10 (by omega)
        clear x0_13
        have bxx0_14 := bxx0_13.below hb10 (by first | exact bxx0_13.lt | omega)
        clear bxx0_13
        have bxx0_14_l := bxx0_14.lt
        have x1_14 := x1_13.below hb10 (by omega)
        clear x1_13
        have bxx1_14 := bxx1_13.below hb10 (by first | exact bxx1_13.lt | omega)
        clear bxx1_13
        have bxx1_14_l := bxx1_14.lt
        have x2_14 := x2_13.below hb10 (by omega)
        clear x2_13
        have g0_14 := g0_13.below hb10 (by omega)
        clear g0_13
        have B_w15 := bthen B_w14 hb10
        have q71 : w15.cell? ⟨w.heap.size, 0, none⟩ = some (.int .i64 a.1) := bx0_14.cell 0
        have q72 : w15.cell? ⟨w.heap.size, 1, none⟩ = some (.slice A0 a.2.length c0) := bx0_14.cell 1
        have q73 : w15.cell? ⟨w.heap.size + 1, 0, none⟩ = some (.int .i64 f.1) := bx1_14.cell 0
        have q74 : w15.cell? ⟨w.heap.size + 1, 1, none⟩ = some (.slice A1 f.2.length c1) := bx1_14.cell 1
        have q75 : w15.cell? ⟨w5.heap.size, 0, none⟩ = some (.int .i64 a.1) := bxx0_14.cell 0
        have q76 : w15.cell? ⟨w5.heap.size, 1, none⟩ = some (.slice P2 a.2.length d2) := bxx0_14.cell 1
        have q77 : w15.cell? ⟨w7.heap.size, 0, none⟩ = some (.int .i64 f.1) := bxx1_14.cell 0
        have q78 : w15.cell? ⟨w7.heap.size, 1, none⟩ = some (.slice P3 f.2.length d3) := bxx1_14.cell 1
        go_wp2_with (fail)
        clear q71 q72 q73 q74 q75 q76 q77 q78
        refine (um_atom 1 x0_14 (by omega) (by omega) (by omega) (by omega)).mono ?_
        rintro e w16 ⟨k11, rfl, ka11, kb11, _, on11⟩
        have s_w16 := on11.size
        have bx0_15 := bx0_14.only on11 (by first | exact .inl (by omega) | exact .inr (by omega))
        clear bx0_14
        have bx0_15_l := bx0_15.lt
        have bx1_15 := bx1_14.only on11 (by first | exact .inl (by omega) | exact .inr (by omega))
        clear bx1_14
        have bx1_15_l := bx1_15.lt
        have w0_15 := w0_14.only on11 (by first | exact .inl (by omega) | exact .inr (by omega))
        clear w0_14
        have bxx0_15 := bxx0_14.only on11 (by first | exact .inl (by omega) | exact .inr (by omega))
        clear bxx0_14
        have bxx0_15_l := bxx0_15.lt
        have x1_15 := x1_14.only on11 (by first | exact .inl (by omega) | exact .inr (by omega))
        clear x1_14
        have bxx1_15 := bxx1_14.only on11 (by first | exact .inl (by omega) | exact .inr (by omega))
        clear bxx1_14
        have bxx1_15_l := bxx1_15.lt
        have x2_15 := x2_14.only on11 (by first | exact .inl (by omega) | exact .inr (by omega))
        clear x2_14
        have g0_15 := g0_14.only on11 (by first | exact .inl (by omega) | exact .inr (by omega))
        clear g0_14
        have B_w16 := Only.then_ B_w15 on11 (by omega)
        have q79 : w16.cell? ⟨w.heap.size, 0, none⟩ = some (.int .i64 a.1) := bx0_15.cell 0
        have q80 : w16.cell? ⟨w.heap.size, 1, none⟩ = some (.slice A0 a.2.length c0) := bx0_15.cell 1
        have q81 : w16.cell? ⟨w.heap.size + 1, 0, none⟩ = some (.int .i64 f.1) := bx1_15.cell 0
        have q82 : w16.cell? ⟨w.heap.size + 1, 1, none⟩ = some (.slice A1 f.2.length c1) := bx1_15.cell 1
        have q83 : w16.cell? ⟨w5.heap.size, 0, none⟩ = some (.int .i64 a.1) := bxx0_15.cell 0
        have q84 : w16.cell? ⟨w5.heap.size, 1, none⟩ = some (.slice P2 a.2.length d2) := bxx0_15.cell 1
        have q85 : w16.cell? ⟨w7.heap.size, 0, none⟩ = some (.int .i64 f.1) := bxx1_15.cell 0
        have q86 : w16.cell? ⟨w7.heap.size, 1, none⟩ = some (.slice P3 f.2.length d3) := bxx1_15.cell 1
        go_wp2_with (fail)
        clear q79 q80 q81 q82 q83 q84 q85 q86
        refine (um_fact k11 x1_15 (by omega) (by omega) (by omega) (by omega)).mono ?_
        rintro e w17 ⟨k12, rfl, ka12, kb12, _, on12⟩
        have s_w17 := on12.size
        have bx0_16 := bx0_15.only on12 (by first | exact .inl (by omega) | exact .inr (by omega))
        clear bx0_15
        have bx0_16_l := bx0_16.lt
        have bx1_16 := bx1_15.only on12 (by first | exact .inl (by omega) | exact .inr (by omega))
        clear bx1_15
        have bx1_16_l := bx1_16.lt
        have w0_16 := w0_15.only on12 (by first | exact .inl (by omega) | exact .inr (by omega))
        clear w0_15
        have bxx0_16 := bxx0_15.only on12 (by first | exact .inl (by omega) | exact .inr (by omega))
        clear bxx0_15
        have bxx0_16_l := bxx0_16.lt
        have bxx1_16 := bxx1_15.only on12 (by first | exact .inl (by omega) | exact .inr (by omega))
        clear bxx1_15
        have bxx1_16_l := bxx1_16.lt
        have x2_16 := x2_15.only on12 (by first | exact .inl (by omega) | exact .inr (by omega))
        clear x2_15
        have g0_16 := g0_15.only on12 (by first | exact .inl (by omega) | exact .inr (by omega))
        clear g0_15
        have B_w17 := Only.then_ B_w16 on12 (by omega)
        have q87 : w17.cell? ⟨w.heap.size, 0, none⟩ = some (.int .i64 a.1) := bx0_16.cell 0
        have q88 : w17.cell? ⟨w.heap.size, 1, none⟩ = some (.slice A0 a.2.length c0) := bx0_16.cell 1
        have q89 : w17.cell? ⟨w.heap.size + 1, 0, none⟩ = some (.int .i64 f.1) := bx1_16.cell 0
        have q90 : w17.cell? ⟨w.heap.size + 1, 1, none⟩ = some (.slice A1 f.2.length c1) := bx1_16.cell 1
        have q91 : w17.cell? ⟨w5.heap.size, 0, none⟩ = some (.int .i64 a.1) := bxx0_16.cell 0
        have q92 : w17.cell? ⟨w5.heap.size, 1, none⟩ = some (.slice P2 a.2.length d2) := bxx0_16.cell 1
        have q93 : w17.cell? ⟨w7.heap.size, 0, none⟩ = some (.int .i64 f.1) := bxx1_16.cell 0
        have q94 : w17.cell? ⟨w7.heap.size, 1, none⟩ = some (.slice P3 f.2.length d3) := bxx1_16.cell 1
        go_wp2_with (fail)
        clear q87 q88 q89 q90 q91 q92 q93 q94
        refine (um_ints k12 x2_16 (by omega) (by omega) (by omega)).mono ?_
        rintro e w18 ⟨k13, rfl, ka13, kb13, _, on13⟩
        have s_w18 := on13.size
        have bx0_17 := bx0_16.only on13 (by first | exact .inl (by omega) | exact .inr (by omega))
        clear bx0_16
        have bx0_17_l := bx0_17.lt
        have bx1_17 := bx1_16.only on13 (by first | exact .inl (by omega) | exact .inr (by omega))
        clear bx1_16
        have bx1_17_l := bx1_17.lt
        have w0_17 := w0_16.only on13 (by first | exact .inl (by omega) | exact .inr (by omega))
        clear w0_16
        have bxx0_17 := bxx0_16.only on13 (by first | exact .inl (by omega) | exact .inr (by omega))
        clear bxx0_16
        have bxx0_17_l := bxx0_17.lt
        have bxx1_17 := bxx1_16.only on13 (by first | exact .inl (by omega) | exact .inr (by omega))
        clear bxx1_16
        have bxx1_17_l := bxx1_17.lt
        have g0_17 := g0_16.only on13 (by first | exact .inl (by omega) | exact .inr (by omega))
        clear g0_16
        have B_w18 := Only.then_ B_w17 on13 (by omega)
        have kn : ¬ k13 < 0 := by omega
        have kd : decide (k13 < 0) = false := by simp; omega
        have q95 : w18.cell? ⟨w.heap.size, 0, none⟩ = some (.int .i64 a.1) := bx0_17.cell 0
        have q96 : w18.cell? ⟨w.heap.size, 1, none⟩ = some (.slice A0 a.2.length c0) := bx0_17.cell 1
        have q97 : w18.cell? ⟨w.heap.size + 1, 0, none⟩ = some (.int .i64 f.1) := bx1_17.cell 0
        have q98 : w18.cell? ⟨w.heap.size + 1, 1, none⟩ = some (.slice A1 f.2.length c1) := bx1_17.cell 1
        have q99 : w18.cell? ⟨w5.heap.size, 0, none⟩ = some (.int .i64 a.1) := bxx0_17.cell 0
        have q100 : w18.cell? ⟨w5.heap.size, 1, none⟩ = some (.slice P2 a.2.length d2) := bxx0_17.cell 1
        have q101 : w18.cell? ⟨w7.heap.size, 0, none⟩ = some (.int .i64 f.1) := bxx1_17.cell 0
        have q102 : w18.cell? ⟨w7.heap.size, 1, none⟩ = some (.slice P3 f.2.length d3) := bxx1_17.cell 1
        go_wp2_with (fail)
        clear q95 q96 q97 q98 q99 q100 q101 q102
        refine (eqIntS_any _ _ R0 R0 _ (g0_17.rd.more (by omega)) (w0_17.rd.more (by omega)) (by omega) (by omega)).mono ?_
        rintro e w19 ⟨rfl, hb14⟩
        rw [show decide (R0 = R0) = true by simp]
        have s_w19 := hb14.size
        have bx0_18 := bx0_17.below hb14 (by first | exact bx0_17.lt | omega)
        clear bx0_17
        have bx0_18_l := bx0_18.lt
        have bx1_18 := bx1_17.below hb14 (by first | exact bx1_17.lt | omega)
        clear bx1_17
        have bx1_18_l := bx1_18.lt
        have w0_18 := w0_17.below hb14 (by omega)
        clear w0_17
        have bxx0_18 := bxx0_17.below hb14 (by first | exact bxx0_17.lt | omega)
        clear bxx0_17
        have bxx0_18_l := bxx0_18.lt
        have bxx1_18 := bxx1_17.below hb14 (by first | exact bxx1_17.lt | omega)
        clear bxx1_17
        have bxx1_18_l := bxx1_18.lt
        have g0_18 := g0_17.below hb14 (by omega)
        clear g0_17
        have B_w19 := bthen B_w18 hb14
        have q103 : w19.cell? ⟨w.heap.size, 0, none⟩ = some (.int .i64 a.1) := bx0_18.cell 0
        have q104 : w19.cell? ⟨w.heap.size, 1, none⟩ = some (.slice A0 a.2.length c0) := bx0_18.cell 1
        have q105 : w19.cell? ⟨w.heap.size + 1, 0, none⟩ = some (.int .i64 f.1) := bx1_18.cell 0
        have q106 : w19.cell? ⟨w.heap.size + 1, 1, none⟩ = some (.slice A1 f.2.length c1) := bx1_18.cell 1
        have q107 : w19.cell? ⟨w5.heap.size, 0, none⟩ = some (.int .i64 a.1) := bxx0_18.cell 0
        have q108 : w19.cell? ⟨w5.heap.size, 1, none⟩ = some (.slice P2 a.2.length d2) := bxx0_18.cell 1
        have q109 : w19.cell? ⟨w7.heap.size, 0, none⟩ = some (.int .i64 f.1) := bxx1_18.cell 0
        have q110 : w19.cell? ⟨w7.heap.size, 1, none⟩ = some (.slice P3 f.2.length d3) := bxx1_18.cell 1
        go_wp2_with (fail)
        clear q103 q104 q105 q106 q107 q108 q109 q110
        refine (um_ints 1 g0_18 (by omega) (by omega) (by have := HRs0.out; omega)).mono ?_
        rintro e w20 ⟨m15, rfl, ma15, mb15, hd15, on15⟩
        have mb15' := HRs0.out
        have s_w20 := on15.size
        have bx0_19 := bx0_18.only on15 (by first | exact .inl (by omega) | exact .inr (by omega))
        clear bx0_18
        have bx0_19_l := bx0_19.lt
        have bx1_19 := bx1_18.only on15 (by first | exact .inl (by omega) | exact .inr (by omega))
        clear bx1_18
        have bx1_19_l := bx1_19.lt
        have w0_19 := w0_18.only on15 (by first | exact .inl (by omega) | exact .inr (by omega))
        clear w0_18
        have bxx0_19 := bxx0_18.only on15 (by first | exact .inl (by omega) | exact .inr (by omega))
        clear bxx0_18
        have bxx0_19_l := bxx0_19.lt
        have bxx1_19 := bxx1_18.only on15 (by first | exact .inl (by omega) | exact .inr (by omega))
        clear bxx1_18
        have bxx1_19_l := bxx1_19.lt
        have B_w20 := Only.then_ B_w19 on15 (by omega)
        have mn : ¬ m15 < 0 := by omega
        have me : (m15 != m15) = false := by simp
        have q111 : w20.cell? ⟨w.heap.size, 0, none⟩ = some (.int .i64 a.1) := bx0_19.cell 0
        have q112 : w20.cell? ⟨w.heap.size, 1, none⟩ = some (.slice A0 a.2.length c0) := bx0_19.cell 1
        have q113 : w20.cell? ⟨w.heap.size + 1, 0, none⟩ = some (.int .i64 f.1) := bx1_19.cell 0
        have q114 : w20.cell? ⟨w.heap.size + 1, 1, none⟩ = some (.slice A1 f.2.length c1) := bx1_19.cell 1
        have q115 : w20.cell? ⟨w5.heap.size, 0, none⟩ = some (.int .i64 a.1) := bxx0_19.cell 0
        have q116 : w20.cell? ⟨w5.heap.size, 1, none⟩ = some (.slice P2 a.2.length d2) := bxx0_19.cell 1
        have q117 : w20.cell? ⟨w7.heap.size, 0, none⟩ = some (.int .i64 f.1) := bxx1_19.cell 0
        have q118 : w20.cell? ⟨w7.heap.size, 1, none⟩ = some (.slice P3 f.2.length d3) := bxx1_19.cell 1
        go_wp2_with (fail)
        clear q111 q112 q113 q114 q115 q116 q117 q118
        refine (uh_ints hd15 (by omega)).mono ?_
        rintro e w21 ⟨rfl, hb16⟩
        have s_w21 := hb16.size
        have bx0_20 := bx0_19.below hb16 (by first | exact bx0_19.lt | omega)
        clear bx0_19
        have bx0_20_l := bx0_20.lt
        have bx1_20 := bx1_19.below hb16 (by first | exact bx1_19.lt | omega)
        clear bx1_19
        have bx1_20_l := bx1_20.lt
        have w0_20 := w0_19.below hb16 (by omega)
        clear w0_19
        have bxx0_20 := bxx0_19.below hb16 (by first | exact bxx0_19.lt | omega)
        clear bxx0_19
        have bxx0_20_l := bxx0_20.lt
        have bxx1_20 := bxx1_19.below hb16 (by first | exact bxx1_19.lt | omega)
        clear bxx1_19
        have bxx1_20_l := bxx1_20.lt
        have d0_20 := hd15.below hb16 (by omega)
        clear hd15
        have B_w21 := bthen B_w20 hb16
        have q119 : w21.cell? ⟨w.heap.size, 0, none⟩ = some (.int .i64 a.1) := bx0_20.cell 0
        have q120 : w21.cell? ⟨w.heap.size, 1, none⟩ = some (.slice A0 a.2.length c0) := bx0_20.cell 1
        have q121 : w21.cell? ⟨w.heap.size + 1, 0, none⟩ = some (.int .i64 f.1) := bx1_20.cell 0
        have q122 : w21.cell? ⟨w.heap.size + 1, 1, none⟩ = some (.slice A1 f.2.length c1) := bx1_20.cell 1
        have q123 : w21.cell? ⟨w5.heap.size, 0, none⟩ = some (.int .i64 a.1) := bxx0_20.cell 0
        have q124 : w21.cell? ⟨w5.heap.size, 1, none⟩ = some (.slice P2 a.2.length d2) := bxx0_20.cell 1
        have q125 : w21.cell? ⟨w7.heap.size, 0, none⟩ = some (.int .i64 f.1) := bxx1_20.cell 0
        have q126 : w21.cell? ⟨w7.heap.size, 1, none⟩ = some (.slice P3 f.2.length d3) := bxx1_20.cell 1
        go_upto_region 37 with fail
        clear q119 q120 q121 q122 q123 q124 q125 q126
        have HS_w21 := Lib.hid (show ∀ W, Below w21.heap.size w21 W → (Below w21.heap.size w21 W ∧ W.cell? ⟨w.heap.size, 0, none⟩ = some (.int .i64 a.1) ∧ W.cell? ⟨w.heap.size, 1, none⟩ = some (.slice A0 a.2.length c0) ∧ W.cell? ⟨w.heap.size + 1, 0, none⟩ = some (.int .i64 f.1) ∧ W.cell? ⟨w.heap.size + 1, 1, none⟩ = some (.slice A1 f.2.length c1) ∧ W.cell? ⟨w5.heap.size, 0, none⟩ = some (.int .i64 a.1) ∧ W.cell? ⟨w5.heap.size, 1, none⟩ = some (.slice P2 a.2.length d2) ∧ W.cell? ⟨w7.heap.size, 0, none⟩ = some (.int .i64 f.1) ∧ W.cell? ⟨w7.heap.size, 1, none⟩ = some (.slice P3 f.2.length d3)) from fun W hW => ⟨hW, (bx0_20.below hW bx0_20_l).cell 0, (bx0_20.below hW bx0_20_l).cell 1, (bx1_20.below hW bx1_20_l).cell 0, (bx1_20.below hW bx1_20_l).cell 1, (bxx0_20.below hW bxx0_20_l).cell 0, (bxx0_20.below hW bxx0_20_l).cell 1, (bxx1_20.below hW bxx1_20_l).cell 0, (bxx1_20.below hW bxx1_20_l).cell 1⟩)
        go_cut [18, 19] (fun s0 s1 wx => ∃ (Q_0 : Option Addr) (f_0 : Nat), s0 = .slice Q_0 R0.length f_0 ∧ s1 = .bool R1 ∧ OwnInts wx w21.heap.size wx.heap.size (.slice Q_0 R0.length f_0) R0 ∧ Below w21.heap.size w21 wx)
        case first =>
          go_region_held3 (fun W => Below w21.heap.size w21 W ∧ W.cell? ⟨w.heap.size, 0, none⟩ = some (.int .i64 a.1) ∧ W.cell? ⟨w.heap.size, 1, none⟩ = some (.slice A0 a.2.length c0) ∧ W.cell? ⟨w.heap.size + 1, 0, none⟩ = some (.int .i64 f.1) ∧ W.cell? ⟨w.heap.size + 1, 1, none⟩ = some (.slice A1 f.2.length c1) ∧ W.cell? ⟨w5.heap.size, 0, none⟩ = some (.int .i64 a.1) ∧ W.cell? ⟨w5.heap.size, 1, none⟩ = some (.slice P2 a.2.length d2) ∧ W.cell? ⟨w7.heap.size, 0, none⟩ = some (.int .i64 f.1) ∧ W.cell? ⟨w7.heap.size, 1, none⟩ = some (.slice P3 f.2.length d3))
            (first | exact HS_w21.out _ (Below.refl _ _) | exact HS_w21.out _ (Below.refl _ _).drew | exact HS_w21.out _ (bthen (And.left (by assumption)) (by assumption)))
            (first
              | (go_at_call 40; refine (toAtom_any _ a _ ?_ (by omega)).mono ?_; exact H0.out.on (bthen B_w21 (And.left (by assumption))); rintro e w_0 ⟨P0, d0, rfl, o0, g0⟩)
              | (go_at_call 17; refine (toFact_any _ f _ ?_ (by omega)).mono ?_; exact H1.out.on (bthen B_w21 (And.left (by assumption))); rintro e w_1 ⟨P1, d1, rfl, o1, g1⟩)
              | (go_at_call 16; refine (toIntS_any _ bs _ ?_ (by omega)).mono ?_; exact H2.out.on (bthen B_w21 (And.left (by assumption))); rintro e w_2 ⟨P2, d2, rfl, o2, g2⟩)
              | (go_at_call 41; refine (implMatch_any _ _ _ a f bs _ ⟨_, rfl, ((o0.rd.on g1).on g2)⟩ ⟨_, rfl, (o1.rd.on g2)⟩ (o2.rd) r0 r1 r2).mono ?_; rw [← HR0.out]; try rw [← HR1.out]; rintro e w_r ⟨Q_0, f_0, rfl, oo_0, hb_r⟩))
          all_goals (go_wp2_with fail; go_meet; exact ⟨_, _, rfl, rfl, oo_0.mono (Nat.le_trans g0.size (Nat.le_trans g1.size (g2.size))) (Nat.le_refl _), And.left (by assumption)⟩)
        case rest =>
          obtain ⟨Q17_0, f17_0, rfl, rfl, o17_0, hb17⟩ := hcut
          clear HS_w21
          generalize wc = w22 at *
          have s_w22 := hb17.size
          have bx0_21 := bx0_20.below hb17 (by first | exact bx0_20.lt | omega)
          clear bx0_20
          have bx0_21_l := bx0_21.lt
          have bx1_21 := bx1_20.below hb17 (by first | exact bx1_20.lt | omega)
          clear bx1_20
          have bx1_21_l := bx1_21.lt
          have w0_21 := w0_20.below hb17 (by omega)
          clear w0_20
          have bxx0_21 := bxx0_20.below hb17 (by first | exact bxx0_20.lt | omega)
          clear bxx0_20
          have bxx0_21_l := bxx0_21.lt
          have bxx1_21 := bxx1_20.below hb17 (by first | exact bxx1_20.lt | omega)
          clear bxx1_20
          have bxx1_21_l := bxx1_21.lt
          have d0_21 := d0_20.below hb17 (by omega)
          clear d0_20
          have B_w22 := bthen B_w21 hb17
          have q127 : w22.cell? ⟨w.heap.size, 0, none⟩ = some (.int .i64 a.1) := bx0_21.cell 0
          have q128 : w22.cell? ⟨w.heap.size, 1, none⟩ = some (.slice A0 a.2.length c0) := bx0_21.cell 1
          have q129 : w22.cell? ⟨w.heap.size + 1, 0, none⟩ = some (.int .i64 f.1) := bx1_21.cell 0
          have q130 : w22.cell? ⟨w.heap.size + 1, 1, none⟩ = some (.slice A1 f.2.length c1) := bx1_21.cell 1
          have q131 : w22.cell? ⟨w5.heap.size, 0, none⟩ = some (.int .i64 a.1) := bxx0_21.cell 0
          have q132 : w22.cell? ⟨w5.heap.size, 1, none⟩ = some (.slice P2 a.2.length d2) := bxx0_21.cell 1
          have q133 : w22.cell? ⟨w7.heap.size, 0, none⟩ = some (.int .i64 f.1) := bxx1_21.cell 0
          have q134 : w22.cell? ⟨w7.heap.size, 1, none⟩ = some (.slice P3 f.2.length d3) := bxx1_21.cell 1
          go_wp2_with (fail)
          clear q127 q128 q129 q130 q131 q132 q133 q134
          refine (eqIntS_any _ _ R0 R0 _ (o17_0.rd.more (by omega)) (w0_21.rd.more (by omega)) (by omega) (by omega)).mono ?_
          rintro e w23 ⟨rfl, hb18⟩
          rw [show decide (R0 = R0) = true by simp]
          have s_w23 := hb18.size
          have bx0_22 := bx0_21.below hb18 (by first | exact bx0_21.lt | omega)
          clear bx0_21
          have bx0_22_l := bx0_22.lt
          have bx1_22 := bx1_21.below hb18 (by first | exact bx1_21.lt | omega)
          clear bx1_21
          have bx1_22_l := bx1_22.lt
          have w0_22 := w0_21.below hb18 (by omega)
          clear w0_21
          have bxx0_22 := bxx0_21.below hb18 (by first | exact bxx0_21.lt | omega)
          clear bxx0_21
          have bxx0_22_l := bxx0_22.lt
          have bxx1_22 := bxx1_21.below hb18 (by first | exact bxx1_21.lt | omega)
          clear bxx1_21
          have bxx1_22_l := bxx1_22.lt
          have d0_22 := d0_21.below hb18 (by omega)
          clear d0_21
          have h0_22 := o17_0.below hb18 (by omega)
          clear o17_0
          have B_w23 := bthen B_w22 hb18
          have q135 : w23.cell? ⟨w.heap.size, 0, none⟩ = some (.int .i64 a.1) := bx0_22.cell 0
          have q136 : w23.cell? ⟨w.heap.size, 1, none⟩ = some (.slice A0 a.2.length c0) := bx0_22.cell 1
          have q137 : w23.cell? ⟨w.heap.size + 1, 0, none⟩ = some (.int .i64 f.1) := bx1_22.cell 0
          have q138 : w23.cell? ⟨w.heap.size + 1, 1, none⟩ = some (.slice A1 f.2.length c1) := bx1_22.cell 1
          have q139 : w23.cell? ⟨w5.heap.size, 0, none⟩ = some (.int .i64 a.1) := bxx0_22.cell 0
          have q140 : w23.cell? ⟨w5.heap.size, 1, none⟩ = some (.slice P2 a.2.length d2) := bxx0_22.cell 1
          have q141 : w23.cell? ⟨w7.heap.size, 0, none⟩ = some (.int .i64 f.1) := bxx1_22.cell 0
          have q142 : w23.cell? ⟨w7.heap.size, 1, none⟩ = some (.slice P3 f.2.length d3) := bxx1_22.cell 1
          go_wp2_with (fail)
          clear q135 q136 q137 q138 q139 q140 q141 q142
          refine (uh_ints d0_22 (by omega)).mono ?_
          rintro e w24 ⟨rfl, hb19⟩
          have s_w24 := hb19.size
          have bx0_23 := bx0_22.below hb19 (by first | exact bx0_22.lt | omega)
          clear bx0_22
          have bx0_23_l := bx0_23.lt
          have bx1_23 := bx1_22.below hb19 (by first | exact bx1_22.lt | omega)
          clear bx1_22
          have bx1_23_l := bx1_23.lt
          have w0_23 := w0_22.below hb19 (by omega)
          clear w0_22
          have bxx0_23 := bxx0_22.below hb19 (by first | exact bxx0_22.lt | omega)
          clear bxx0_22
          have bxx0_23_l := bxx0_23.lt
          have bxx1_23 := bxx1_22.below hb19 (by first | exact bxx1_22.lt | omega)
          clear bxx1_22
          have bxx1_23_l := bxx1_23.lt
          have d0_23 := d0_22.below hb19 (by omega)
          clear d0_22
          have h0_23 := h0_22.below hb19 (by omega)
          clear h0_22
          have B_w24 := bthen B_w23 hb19
          have q143 : w24.cell? ⟨w.heap.size, 0, none⟩ = some (.int .i64 a.1) := bx0_23.cell 0
          have q144 : w24.cell? ⟨w.heap.size, 1, none⟩ = some (.slice A0 a.2.length c0) := bx0_23.cell 1
          have q145 : w24.cell? ⟨w.heap.size + 1, 0, none⟩ = some (.int .i64 f.1) := bx1_23.cell 0
          have q146 : w24.cell? ⟨w.heap.size + 1, 1, none⟩ = some (.slice A1 f.2.length c1) := bx1_23.cell 1
          have q147 : w24.cell? ⟨w5.heap.size, 0, none⟩ = some (.int .i64 a.1) := bxx0_23.cell 0
          have q148 : w24.cell? ⟨w5.heap.size, 1, none⟩ = some (.slice P2 a.2.length d2) := bxx0_23.cell 1
          have q149 : w24.cell? ⟨w7.heap.size, 0, none⟩ = some (.int .i64 f.1) := bxx1_23.cell 0
          have q150 : w24.cell? ⟨w7.heap.size, 1, none⟩ = some (.slice P3 f.2.length d3) := bxx1_23.cell 1
          go_wp2_with (fail)
          clear q143 q144 q145 q146 q147 q148 q149 q150
          go_ret
          exact ⟨rfl, B_w24⟩

theorem lawMatch_in (v0 : Value) (v1 : Value) (v2 : Value) (a : LFact) (f : LFact) (bs : List Int) (w : World) (h0 : InAtom w v0 a) (h1 : InFact w v1 f) (h2 : InInts w v2 bs) : Calls Try.prog 9 #[v0, v1, v2] w fun e w' => e = .returned (.bool true) ∧ Below w.heap.size w w' :=
  lawMatch_any v0 v1 v2 a f bs w h0.1 h1.1 h2.1 h0.2 h1.2

end Go.Proofs.Ytehjhdihaloalaa
