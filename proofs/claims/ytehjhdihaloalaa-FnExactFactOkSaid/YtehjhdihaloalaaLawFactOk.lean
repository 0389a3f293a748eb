/-
  The walk of the law on FactOk.
-/
import Derived.Test.YtehjhdihaloalaaSpecFactOk
import Derived.Deep.RegionHeld3
import Derived.Deep.DeepCutAuto
import Derived.Deep.RegionWith
import Derived.Test.YtehjhdihaloalaaOpen
namespace Go.Proofs.Ytehjhdihaloalaa
open Go.RowKit

set_option maxHeartbeats 400000 in
set_option maxRecDepth 100000 in
theorem lawFactOk_any (v v2 : Value) (ar : List Int) (f : LFact) (w : World) (h : RdInts w w.heap.size v ar) (h2 : RdFact w w.heap.size v2 f) (hm : f.2.length ≤ 9223372036854775807) :
    Calls Try.prog 3 #[v, v2] w fun e w' => e = .returned (.bool true) ∧ Below w.heap.size w w' := by
  have H := Lib.hid h
  have H2 := Lib.hid h2
  obtain ⟨A, c, rfl, hc, _⟩ := h
  obtain ⟨a, rfl, A2, c2, rfl, hc2, _⟩ := h2
  by_cases hl : 1048576 < ar.length
  · go_enter Try.func3, Try.ntmps3
    go_wp2_with (fail)
    go_ret
    exact ⟨rfl, below1 _ _⟩
  · have hr : ar.length ≤ 1048576 := by omega
    go_enter Try.func3, Try.ntmps3
    go_wp2_with (fail)
    refine (szFact_any _ f _ _ (H2.out.on (below1 _ _)) (by omega) (by omega) hm).mono ?_
    rintro e w1 ⟨rfl, hb1⟩
    have B1 := bthen (below1 _ _) hb1
    have hblk : Blk w1 w.heap.size 24 #[.int .i64 f.1, .slice A2 f.2.length c2] := (Blk.new w _ _).below hb1 (by simp)
    clear hb1
    rcases szV_cases 1048576 f.2.length with ⟨e1, _⟩ | ⟨e1, e2⟩
    · rw [e1]
      clear e1
      go_wp2_with (fail)
      go_ret
      exact ⟨rfl, B1⟩
    · have h1 : ¬ szV 1048576 f.2.length < 0 := by omega
      have hf : f.2.length ≤ 1048576 := by omega
      clear e2 e1
      go_upto_region 7 with fail
      have HS0 := Lib.hid (show ∀ W, Below w1.heap.size w1 W → (Below w1.heap.size w1 W ∧ W.cell? ⟨w.heap.size, 0, none⟩ = some (.int .i64 f.1) ∧ W.cell? ⟨w.heap.size, 1, none⟩ = some (.slice A2 f.2.length c2)) from
        fun W hW => ⟨hW, (hblk.below hW hblk.lt).cell 0, (hblk.below hW hblk.lt).cell 1⟩)
      go_cut [6] (fun s6 wx => s6 = .bool (factOk ar f) ∧ Below w1.heap.size w1 wx)
      case first =>
        go_region_held3 (fun w' => Below w1.heap.size w1 w' ∧ w'.cell? ⟨w.heap.size, 0, none⟩ = some (.int .i64 f.1) ∧ w'.cell? ⟨w.heap.size, 1, none⟩ = some (.slice A2 f.2.length c2))
          (first | exact HS0.out _ (Below.refl _ _) | exact HS0.out _ (Below.refl _ _).drew | exact HS0.out _ (bthen (And.left (by assumption)) (by assumption)))
          (first
            | (go_at_call 16; refine (toIntS_any _ ar _ ?_ (by omega)).mono ?_; exact H.out.on (bthen B1 (And.left (by assumption))); rintro e wi ⟨Ai, ci, rfl, hoi, hbi⟩)
            | (go_at_call 17; refine (toFact_any _ f _ ?_ (by omega)).mono ?_; exact H2.out.on (bthen B1 (And.left (by assumption))); rintro e wf ⟨Af, cf, rfl, hof, hbf⟩)
            | (go_at_call 15; refine (specFactOk_any _ _ ar f _ ?_ ?_ hr hf).mono ?_; (first | exact hoi.rd | exact hoi.rd.on hbf); (first | exact ⟨_, rfl, hof.rd⟩ | exact ⟨_, rfl, hof.rd.on hbi⟩); rintro e wg ⟨rfl, hbg⟩))
        all_goals (go_wp2_with fail; go_meet; exact ⟨rfl, And.left (by assumption)⟩)
      case rest =>
        obtain ⟨rfl, hb2⟩ := hcut
        have B2 := bthen B1 hb2
        have hblk2 := hblk.below hb2 hblk.lt
        have hc0 : wc.cell? ⟨w.heap.size, 0, none⟩ = some (.int .i64 f.1) := hblk2.cell 0
        have hc1 : wc.cell? ⟨w.heap.size, 1, none⟩ = some (.slice A2 f.2.length c2) := hblk2.cell 1
        clear hb2 HS0
        go_wp2_with (fail)
        refine (toIntS_any _ ar _ (H.out.on B2) (by omega)).mono ?_
        rintro e w3 ⟨A3, c3, rfl, ho3, hb3⟩
        have B3 := bthen B2 hb3
        have hblk3 := hblk2.below hb3 hblk2.lt
        clear hc0 hc1
        have hc0 : w3.cell? ⟨w.heap.size, 0, none⟩ = some (.int .i64 f.1) := hblk3.cell 0
        have hc1 : w3.cell? ⟨w.heap.size, 1, none⟩ = some (.slice A2 f.2.length c2) := hblk3.cell 1
        go_wp2_with (fail)
        refine (toFact_any _ f _ (H2.out.on B3) (by omega)).mono ?_
        rintro e w4 ⟨A4, c4, rfl, ho4, hb4⟩
        have B4 := bthen B3 hb4
        go_wp2_with (fail)
        refine (implFactOk_any _ _ ar f _ ((ho3.rd.on hb4).on (below1 _ _)) ⟨_, rfl, ho4.rd.on (below1 _ _)⟩ hr hf).mono ?_
        rintro e w5 ⟨rfl, hb5⟩
        have B5 := bthen B4 (bthen (below1 _ _) hb5)
        have K3 : RdInts w5 w5.heap.size (.slice A3 ar.length c3) ar := ((ho3.rd.on hb4).on (below1 _ _)).on hb5
        have K4 : RdFact w5 w5.heap.size (.agg #[.int .i64 f.1, .slice A4 f.2.length c4]) f := ⟨_, rfl, (ho4.rd.on (below1 _ _)).on hb5⟩
        have hx1 : Blk w5 w4.heap.size 28 #[.int .i64 f.1, .slice A4 f.2.length c4] := (Blk.new w4 _ _).below hb5 (by simp)
        have hblk5 := ((hblk3.below hb4 hblk3.lt).alloc _).below hb5 (by have := hblk3.lt; have := hb4.size; simp; omega)
        have ga : (factOk ar f != factOk ar f) = false := by simp
        go_wp2_with (fail)
        refine (toIntS_any _ ar _ (H.out.on B5) (by omega)).mono ?_
        rintro e w6 ⟨A6, c6, rfl, ho6, hb6⟩
        have B6 := bthen B5 hb6
        go_wp2_with (fail)
        refine (eqIntS_any _ _ ar ar _ (K3.on hb6) ho6.rd (by omega) (by omega)).mono ?_
        rintro e w7 ⟨rfl, hb7⟩
        have B7 := bthen B6 hb7
        rw [show decide (ar = ar) = true by simp]
        have hx7 := (hx1.below hb6 hx1.lt).below hb7 (by have := hx1.lt; have := hb6.size; omega)
        have hblk7 := (hblk5.below hb6 hblk5.lt).below hb7 (by have := hblk5.lt; have := hb6.size; omega)
        have K7 := (K4.on hb6).on hb7
        go_wp2_with (fail)
        have HS7 := Lib.hid (show ∀ W, Below w7.heap.size w7 W → (Below w7.heap.size w7 W ∧ W.cell? ⟨w.heap.size, 0, none⟩ = some (.int .i64 f.1) ∧ W.cell? ⟨w.heap.size, 1, none⟩ = some (.slice A2 f.2.length c2) ∧ W.cell? ⟨w4.heap.size, 0, none⟩ = some (.int .i64 f.1) ∧ W.cell? ⟨w4.heap.size, 1, none⟩ = some (.slice A4 f.2.length c4)) from
          fun W hW => ⟨hW, (hblk7.below hW hblk7.lt).cell 0, (hblk7.below hW hblk7.lt).cell 1, (hx7.below hW hx7.lt).cell 0, (hx7.below hW hx7.lt).cell 1⟩)
        go_region_held3 (fun w' => Below w7.heap.size w7 w' ∧ w'.cell? ⟨w.heap.size, 0, none⟩ = some (.int .i64 f.1) ∧ w'.cell? ⟨w.heap.size, 1, none⟩ = some (.slice A2 f.2.length c2) ∧ w'.cell? ⟨w4.heap.size, 0, none⟩ = some (.int .i64 f.1) ∧ w'.cell? ⟨w4.heap.size, 1, none⟩ = some (.slice A4 f.2.length c4))
          (first | exact HS7.out _ (Below.refl _ _) | exact HS7.out _ (Below.refl _ _).drew | exact HS7.out _ (bthen (And.left (by assumption)) (by assumption)))
          (first
            | (go_at_call 17; refine (toFact_any _ f _ ?_ (by omega)).mono ?_; exact H2.out.on (bthen B7 (And.left (by assumption))); rintro e wf ⟨Af, cf, rfl, hof, hbf⟩)
            | (go_at_call 20; refine (eqFact_any _ _ f f _ ?_ ?_ (by omega) (by omega)).mono ?_; exact (K7.on (And.left (by assumption))); exact ⟨_, rfl, hof.rd⟩; rw [show decide (f = f) = true by simp]; rintro e wg ⟨rfl, hbg⟩))
        all_goals
          go_wp2_with (fail)
          go_ret
          exact ⟨rfl, bthen B7 (And.left (by assumption))⟩

theorem lawFactOk_in (v v2 : Value) (ar : List Int) (f : LFact) (w : World) (h : InInts w v ar) (h2 : InFact w v2 f) : Calls Try.prog 3 #[v, v2] w fun e w' => e = .returned (.bool true) ∧ Below w.heap.size w w' :=
  lawFactOk_any v v2 ar f w h.1 h2.1 (by have := h2.2; unfold maxLen at this; omega)

end Go.Proofs.Ytehjhdihaloalaa
