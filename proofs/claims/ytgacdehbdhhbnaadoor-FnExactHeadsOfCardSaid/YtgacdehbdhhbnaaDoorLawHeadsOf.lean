/-
  The walk of the law on HeadsOf.
-/
import Derived.Test.YtgacdehbdhhbnaaDoorHeadsOf
import Derived.Test.YtgacdehbdhhbnaaDoorWrites2
import Derived.Test.YtgacdehbdhhbnaaDoorIns
import Derived.Deep.RegionHeld3
import Derived.Deep.DeepCutAuto
import Derived.Deep.RegionWith
namespace Go.Proofs.YtgacdehbdhhbnaaDoor
open Go.RowKit

set_option maxHeartbeats 2000000 in
set_option maxRecDepth 100000 in
theorem lawHeadsOf_any (v : Value) (r : LProg) (w : World) (h : RdProg w w.heap.size v r) (hn : progLens r) (hT : Tab w) :
    Calls Tryd.prog 4 #[v] w fun e w' => e = .returned (.bool true) ∧ Below w.heap.size w w' := by
  have H := Lib.hid h
  have HT := Lib.hid hT
  clear hT
  obtain ⟨a, b, rfl, h, h2⟩ := h
  obtain ⟨A, c, rfl, hc, _⟩ := h
  obtain ⟨A2, c2, rfl, hcc, _⟩ := h2
  go_enter Tryd.func4, Tryd.ntmps4
  go_wp2_with (fail)
  refine (szProgram_any _ r _ _ (H.out.on (below1 _ _)) (by omega) (by omega) hn).mono ?_
  rintro e w1 ⟨z, rfl, hz, hb1⟩
  have B1 := bthen (below1 _ _) hb1
  have x1 : Blk w1 w.heap.size 42 #[.slice A r.1.length c, .slice A2 r.2.length c2] := (Blk.new w _ _).below hb1 (by simp)
  clear hb1
  rcases hz with rfl | ⟨z0, z1⟩
  · go_wp2_with (fail)
    go_ret
    exact ⟨rfl, B1⟩
  · have hz : ¬ z < 0 := by omega
    have hs : szP r ≤ 1048576 := by omega
    clear z1
    obtain ⟨R, hR⟩ : ∃ R, R = headsOf r := ⟨_, rfl⟩
    have hRn : R.length ≤ 1048576 := by rw [hR]; have := bitsOf_length (headMask (headN r) r.2); unfold headsOf; omega
    have HR := Lib.hid hR
    clear hR
    have p1 : w1.cell? ⟨w.heap.size, 0, none⟩ = some (.slice A r.1.length c) := x1.cell 0
    have p2 : w1.cell? ⟨w.heap.size, 1, none⟩ = some (.slice A2 r.2.length c2) := x1.cell 1
    go_wp2_with (fail)
    refine (toProgram_any _ r _ (H.out.on B1) hs).mono ?_
    rintro e w2 ⟨A3, c3, A4, c4, rfl, ho2, hl2, hb2⟩
    have B2 := bthen B1 hb2
    go_wp2_with (fail)
    refine (specHeadsOf_any _ r _ ⟨_, _, rfl, ho2.rd, hl2.rd⟩ hs).mono ?_
    rw [← HR.out]
    rintro e w3 ⟨Aw, cw, rfl, ow3, hb3⟩
    have B3 := bthen B2 hb3
    have x3 := (x1.below hb2 x1.lt).below hb3 (Nat.lt_of_lt_of_le x1.lt hb2.size)
    have W3 := ow3.rd
    clear p1 p2 ho2 hl2
    have p1 : w3.cell? ⟨w.heap.size, 0, none⟩ = some (.slice A r.1.length c) := x3.cell 0
    have p2 : w3.cell? ⟨w.heap.size, 1, none⟩ = some (.slice A2 r.2.length c2) := x3.cell 1
    go_wp2_with (fail)
    refine (toProgram_any _ r _ (H.out.on B3) hs).mono ?_
    rintro e w4 ⟨A5, c5, A6, c6, rfl, ho4, hl4, hb4⟩
    have B4 := bthen B3 hb4
    have R4 : RdProg w4 w4.heap.size (.agg #[.slice A5 r.1.length c5, .slice A6 r.2.length c6]) r := ⟨_, _, rfl, ho4.rd, hl4.rd⟩
    have I4 := ho4.wr
    have L4 := hl4.wr
    go_wp2_with (fail)
    refine (implHeadsOf_any _ r _ (R4.on (below1 _ _)) hs (HT.out.below (bthen B4 (below1 _ _)))).mono ?_
    rw [← HR.out]
    rintro e w6 ⟨Ag, cg, rfl, g6, hb6⟩
    have h46 : Below w4.heap.size w4 w6 := bthen (below1 _ _) hb6
    have B6 := bthen B4 h46
    have R6 := R4.on h46
    have s46 : w4.heap.size + 1 ≤ w6.heap.size := by have := hb6.size; simp at this; exact this
    have G6 : OwnInts w6 (w4.heap.size + 1) w6.heap.size (.slice Ag R.length cg) R := by simpa using g6
    have y6 : Blk w6 w4.heap.size 47 #[.slice A5 r.1.length c5, .slice A6 r.2.length c6] := (Blk.new w4 _ _).below hb6 (by simp)
    have x6 := (x3.below hb4 x3.lt).below h46 (Nat.lt_of_lt_of_le x3.lt hb4.size)
    have W6 := (W3.on hb4).on h46
    have s34 := hb4.size
    have sw3 : w.heap.size < w3.heap.size := x3.lt
    clear p1 p2 x1 x3 ho4 hl4 g6 hb6
    go_wp2_with (fail)
    refine (eqIntS_any _ _ R R _ G6.rd W6 (by omega) (by omega)).mono ?_
    rintro e w8 ⟨rfl, hb8⟩
    rw [show decide (R = R) = true by simp]
    have B8 := bthen B6 hb8
    have x8 := x6.below hb8 x6.lt
    have y8 := y6.below hb8 y6.lt
    have R8 := R6.on hb8
    go_upto_region 10 with fail
    have HS := Lib.hid (show ∀ W, Below w8.heap.size w8 W → (Below w8.heap.size w8 W ∧ W.cell? ⟨w.heap.size, 0, none⟩ = some (.slice A r.1.length c) ∧ W.cell? ⟨w.heap.size, 1, none⟩ = some (.slice A2 r.2.length c2) ∧ W.cell? ⟨w4.heap.size, 0, none⟩ = some (.slice A5 r.1.length c5) ∧ W.cell? ⟨w4.heap.size, 1, none⟩ = some (.slice A6 r.2.length c6)) from
      fun W hW => ⟨hW, (x8.below hW x8.lt).cell 0, (x8.below hW x8.lt).cell 1, (y8.below hW y8.lt).cell 0, (y8.below hW y8.lt).cell 1⟩)
    go_cut [31] (fun s wx => s = .bool false ∧ Below w8.heap.size w8 wx)
    case first =>
      go_region_held3 (fun w' => Below w8.heap.size w8 w' ∧ w'.cell? ⟨w.heap.size, 0, none⟩ = some (.slice A r.1.length c) ∧ w'.cell? ⟨w.heap.size, 1, none⟩ = some (.slice A2 r.2.length c2) ∧ w'.cell? ⟨w4.heap.size, 0, none⟩ = some (.slice A5 r.1.length c5) ∧ w'.cell? ⟨w4.heap.size, 1, none⟩ = some (.slice A6 r.2.length c6))
        (first | exact HS.out _ (Below.refl _ _) | exact HS.out _ (Below.refl _ _).drew | exact HS.out _ (bthen (And.left (by assumption)) (by assumption)))
        (first
          | (go_at_call 16; refine (toProgram_any _ r _ ?_ hs).mono ?_; exact H.out.on (bthen B8 (And.left (by assumption))); rintro e wf ⟨Af, cf, Ag', cg', rfl, hof, hlf, hbf⟩)
          | (go_at_call 18; refine (eqProgram_any _ _ r r _ ?_ ?_ hs hs).mono ?_; exact (R8.on (And.left (by assumption))); exact ⟨_, _, rfl, hof.rd, hlf.rd⟩; rw [show decide (r = r) = true by simp]; rintro e wg ⟨rfl, hbg⟩))
      all_goals (go_wp2_with fail; go_meet; exact ⟨rfl, And.left (by assumption)⟩)
    case rest =>
      obtain ⟨rfl, hb9⟩ := hcut
      have h69 := bthen hb8 hb9
      have B9 := bthen B6 h69
      have h49 := bthen h46 h69
      have G9 := G6.below h69 (Nat.le_refl _)
      have W9 := W6.below h69 (Nat.le_refl _)
      have I9 := I4.marked (Marked.of_below h49)
      have L9 := L4.marked (Marked.of_below h49)
      have y9 := y6.below h69 y6.lt
      have x9 := x6.below h69 x6.lt
      have s69 := h69.size
      have q1 : wc.cell? ⟨w4.heap.size, 0, none⟩ = some (.slice A5 r.1.length c5) := y9.cell 0
      have q2 : wc.cell? ⟨w4.heap.size, 1, none⟩ = some (.slice A6 r.2.length c6) := y9.cell 1
      clear HS hb9 hb8 x8 y8 R8 R6 x6 y6 G6
      go_wp2_with (fail)
      refine (wmarkProgram_any _ _ r 1 w3.heap.size w4.heap.size _ I9 L9 (by omega) (by omega) hs).mono ?_
      rintro e w10 ⟨zk, rfl, hzk, hm10⟩
      have on10 := hm10.only
      have B10 := Only.then_ B9 on10 (by have := B3.size; omega)
      have s10 := on10.size
      have hd10 : decide (zk < 0) = false := by simp; omega
      have hzn : ¬ zk < 0 := by omega
      have G10 := G9.only on10 (.inr (by omega))
      have x10 : Blk w10 w.heap.size 42 #[.slice A r.1.length c, .slice A2 r.2.length c2] := (on10.block _ x9.lt (.inl sw3)).trans x9
      have O9 : OwnInts wc w2.heap.size w3.heap.size (.slice Aw R.length cw) R := ow3.below (bthen hb4 h49) (Nat.le_refl _)
      have O10 := O9.only on10 (.inl (Nat.le_refl _))
      have s49 := h49.size
      clear G9 W9 I9 L9 y9 q1 q2 O9 hm10
      go_wp2_with (fail)
      refine (eqIntS_any _ _ R R _ (G10.rd.more (by omega)) (O10.rd.more (by omega)) (by omega) (by omega)).mono ?_
      rintro e w11 ⟨rfl, hb11⟩
      rw [show decide (R = R) = true by simp]
      have B11 := bthen B10 hb11
      have G11 := G10.below hb11 (by omega)
      have O11 := O10.below hb11 (by omega)
      have x11 := x10.below hb11 x10.lt
      have s11 := hb11.size
      clear G10 O10
      go_wp2_with (fail)
      refine (markIntS_any _ R 1 (w4.heap.size + 1) w6.heap.size _ G11 (by omega) (by omega)).mono ?_
      rintro e w12 ⟨rfl, G12, hg12⟩
      have on12 : Only (w4.heap.size + 1) w6.heap.size w11 w12 := Only.of_grown hg12 (fun g hg => by have := G11.lt hg; omega)
      have B12 := Only.then_ B11 on12 (by have := B3.size; omega)
      have O12 := O11.only on12 (.inl (by omega))
      have x12 : Blk w12 w.heap.size 42 #[.slice A r.1.length c, .slice A2 r.2.length c2] := (on12.block _ x11.lt (.inl (by omega))).trans x11
      have s12 := on12.size
      clear G11 O11 hg12
      go_wp2_with (fail)
      refine (heldIntS_any _ R.length 1 _ (G12.rd.more (by omega)) (by omega) (by omega)).mono ?_
      rintro e w' ⟨rfl, rfl⟩
      have hh1 : ¬ (1 : Int) + (R.length : Int) < 0 := by omega
      have hh2 : ((1 : Int) + (R.length : Int) != 1 + (R.length : Int)) = false := by simp
      have q1 : w12.cell? ⟨w.heap.size, 0, none⟩ = some (.slice A r.1.length c) := x12.cell 0
      have q2 : w12.cell? ⟨w.heap.size, 1, none⟩ = some (.slice A2 r.2.length c2) := x12.cell 1
      go_wp2_with (fail)
      refine (toProgram_any _ r _ (H.out.on B12) hs).mono ?_
      rintro e w13 ⟨A7, c7, A8, c8, rfl, ho13, hl13, hb13⟩
      have B13 := bthen B12 hb13
      go_wp2_with (fail)
      refine (implHeadsOf_any _ r _ ⟨_, _, rfl, ho13.rd, hl13.rd⟩ hs (HT.out.below B13)).mono ?_
      rw [← HR.out]
      rintro e w14 ⟨A9, c9, rfl, o14, hb14⟩
      have h1214 := bthen hb13 hb14
      have s14 := h1214.size
      have O14 := O12.below h1214 (by omega)
      have G14 := G12.below h1214 (by omega)
      have B14 := bthen B12 h1214
      go_wp2_with (fail)
      refine (eqIntS_any _ _ R R _ o14.rd (O14.rd.more (by omega)) (by omega) (by omega)).mono ?_
      rintro e w15 ⟨rfl, hb15⟩
      rw [show decide (R = R) = true by simp]
      have B15 := bthen B14 hb15
      have s15 := hb15.size
      have G15 := G14.below hb15 (by omega)
      go_wp2_with (fail)
      refine (heldIntS_any _ R.length 1 _ (G15.rd.more (by omega)) (by omega) (by omega)).mono ?_
      rintro e w' ⟨rfl, rfl⟩
      go_wp2_with (fail)
      go_ret
      exact ⟨rfl, B15⟩

theorem lawHeadsOf_in (v : Value) (r : LProg) (w : World) (h : InProg w v r) (hT : Tab w) : Calls Tryd.prog 4 #[v] w fun e w' => e = .returned (.bool true) ∧ Below w.heap.size w w' :=
  lawHeadsOf_any v r w h.1 (progLens_in h.2) hT

end Go.Proofs.YtgacdehbdhhbnaaDoor
