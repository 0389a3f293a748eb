/-
  The walk of the law on RuleOk.
-/
import Derived.Test.YtgacdehbdhhbnaaRuleOk
import Derived.Test.YtgacdehbdhhbnaaLawRuleSafe
import Derived.Deep.RegionHeld3
import Derived.Deep.DeepCutAuto
import Derived.Deep.RegionWith
import Derived.Test.YtgacdehbdhhbnaaOpens
namespace Go.Proofs.Ytgacdehbdhhbnaa
open Go.RowKit

set_option maxHeartbeats 400000 in
set_option maxRecDepth 100000 in
theorem lawRuleOk_any (v v2 : Value) (ar : List Int) (f : LRule) (w : World) (h : RdInts w w.heap.size v ar) (h2 : RdRule w w.heap.size v2 f) (hm : ruleLens f) :
    Calls Try.prog 7 #[v, v2] w fun e w' => e = .returned (.bool true) ∧ Below w.heap.size w w' := by
  have H := Lib.hid h
  have H2 := Lib.hid h2
  obtain ⟨A, c, rfl, hc, _⟩ := h
  obtain ⟨a, b, rfl, ⟨A2, c2, rfl, hcx, _⟩, ⟨A9, c9, rfl, hcy, _⟩⟩ := h2
  by_cases hl : 1048576 < ar.length
  · go_enter Try.func7, Try.ntmps7
    go_wp2_with (fail)
    go_ret
    exact ⟨rfl, below1 _ _⟩
  · have hr : ar.length ≤ 1048576 := by omega
    go_enter Try.func7, Try.ntmps7
    go_wp2_with (fail)
    refine (szRule_any _ f _ _ (H2.out.on (below1 _ _)) (by omega) (by omega) hm).mono ?_
    rintro e w1 ⟨z, rfl, hz, hb1⟩
    have B1 := bthen (below1 _ _) hb1
    have hblk : Blk w1 w.heap.size 58 #[.int .i64 f.1.1, .slice A2 f.1.2.length c2, .slice A9 f.2.length c9] := (Blk.new w _ _).below hb1 (by simp)
    clear hb1
    rcases hz with rfl | ⟨z0, z1⟩
    · go_wp2_with (fail)
      go_ret
      exact ⟨rfl, B1⟩
    · have hz : ¬ z < 0 := by omega
      have hf : szR f ≤ 1048576 := by omega
      clear z1
      go_upto_region 7 with fail
      have HS0 := Lib.hid (show ∀ W, Below w1.heap.size w1 W → (Below w1.heap.size w1 W ∧ W.cell? ⟨w.heap.size, 0, none⟩ = some (.int .i64 f.1.1) ∧ W.cell? ⟨w.heap.size, 1, none⟩ = some (.slice A2 f.1.2.length c2) ∧ W.cell? ⟨w.heap.size, 2, none⟩ = some (.slice A9 f.2.length c9)) from
        fun W hW => ⟨hW, (hblk.below hW hblk.lt).cell 0, (hblk.below hW hblk.lt).cell 1, (hblk.below hW hblk.lt).cell 2⟩)
      go_cut [6] (fun s6 wx => s6 = .bool (ruleOk ar f) ∧ Below w1.heap.size w1 wx)
      case first =>
        go_region_held3 (fun w' => Below w1.heap.size w1 w' ∧ w'.cell? ⟨w.heap.size, 0, none⟩ = some (.int .i64 f.1.1) ∧ w'.cell? ⟨w.heap.size, 1, none⟩ = some (.slice A2 f.1.2.length c2) ∧ w'.cell? ⟨w.heap.size, 2, none⟩ = some (.slice A9 f.2.length c9))
          (first | exact HS0.out _ (Below.refl _ _) | exact HS0.out _ (Below.refl _ _).drew | exact HS0.out _ (bthen (And.left (by assumption)) (by assumption)))
          (first
            | (go_at_call 24; refine (toIntS_any _ ar _ ?_ (by omega)).mono ?_; exact H.out.on (bthen B1 (And.left (by assumption))); rintro e wi ⟨Ai, ci, rfl, hoi, hbi⟩)
            | (go_at_call 36; refine (toRule_any _ f _ ?_ hf).mono ?_; exact H2.out.on (bthen B1 (And.left (by assumption))); rintro e wf ⟨Af, cf, Ag, cg, rfl, hof, hlf, hbf⟩)
            | (go_at_call 39; refine (specRuleOk_any _ _ ar f _ ?_ ?_ hr hf).mono ?_; (first | exact hoi.rd | exact hoi.rd.on hbf); (first | exact ⟨_, _, rfl, hof.rd, hlf.rd⟩ | exact ⟨_, _, rfl, hof.rd.on hbi, hlf.rd.on hbi⟩); rintro e wg ⟨rfl, hbg⟩))
        all_goals (go_wp2_with fail; go_meet; exact ⟨rfl, And.left (by assumption)⟩)
      case rest =>
        obtain ⟨rfl, hb2⟩ := hcut
        have B2 := bthen B1 hb2
        have hblk2 := hblk.below hb2 hblk.lt
        have hc0 : wc.cell? ⟨w.heap.size, 0, none⟩ = some (.int .i64 f.1.1) := hblk2.cell 0
        have hc1 : wc.cell? ⟨w.heap.size, 1, none⟩ = some (.slice A2 f.1.2.length c2) := hblk2.cell 1
        have hc2 : wc.cell? ⟨w.heap.size, 2, none⟩ = some (.slice A9 f.2.length c9) := hblk2.cell 2
        clear hb2 HS0
        go_wp2_with (fail)
        refine (toIntS_any _ ar _ (H.out.on B2) (by omega)).mono ?_
        rintro e w3 ⟨A3, c3, rfl, ho3, hb3⟩
        have B3 := bthen B2 hb3
        have hblk3 := hblk2.below hb3 hblk2.lt
        clear hc0 hc1 hc2
        have hc0 : w3.cell? ⟨w.heap.size, 0, none⟩ = some (.int .i64 f.1.1) := hblk3.cell 0
        have hc1 : w3.cell? ⟨w.heap.size, 1, none⟩ = some (.slice A2 f.1.2.length c2) := hblk3.cell 1
        have hc2 : w3.cell? ⟨w.heap.size, 2, none⟩ = some (.slice A9 f.2.length c9) := hblk3.cell 2
        go_wp2_with (fail)
        refine (toRule_any _ f _ (H2.out.on B3) hf).mono ?_
        rintro e w4 ⟨A4, c4, A8, c8, rfl, ho4, hl4, hb4⟩
        have B4 := bthen B3 hb4
        go_wp2_with (fail)
        refine (implRuleOk_any _ _ ar f _ ((ho3.rd.on hb4).on (below1 _ _)) ⟨_, _, rfl, ho4.rd.on (below1 _ _), hl4.rd.on (below1 _ _)⟩ hr hf).mono ?_
        rintro e w5 ⟨rfl, hb5⟩
        have B5 := bthen B4 (bthen (below1 _ _) hb5)
        have K3 : RdInts w5 w5.heap.size (.slice A3 ar.length c3) ar := ((ho3.rd.on hb4).on (below1 _ _)).on hb5
        have K4 : RdRule w5 w5.heap.size (.agg #[.int .i64 f.1.1, .slice A4 f.1.2.length c4, .slice A8 f.2.length c8]) f := ⟨_, _, rfl, (ho4.rd.on (below1 _ _)).on hb5, (hl4.rd.on (below1 _ _)).on hb5⟩
        have hx1 : Blk w5 w4.heap.size 63 #[.int .i64 f.1.1, .slice A4 f.1.2.length c4, .slice A8 f.2.length c8] := (Blk.new w4 _ _).below hb5 (by simp)
        have hblk5 := ((hblk3.below hb4 hblk3.lt).alloc _).below hb5 (by have := hblk3.lt; have := hb4.size; simp; omega)
        have ga : (ruleOk ar f != ruleOk ar f) = false := by simp
        go_wp2_with (fail)
        refine (toIntS_any _ ar _ (H.out.on B5) (by omega)).mono ?_
        rintro e w6 ⟨A6, c6, rfl, ho6, hb6⟩
        have B6 := bthen B5 hb6
        go_wp2_with (fail)
        refine (eqIntS_any _ _ ar ar _ (K3.on hb6) ho6.rd (by omega) (by omega)).mono ?_
        rintro e w7 ⟨rfl, hb7⟩
        have B7 := bthen B6 hb7
        rw [show decide (ar = ar) = true by simp]
        have hx7 := (hx1.below hb6 hx1.lt).below hb7 (by have := hx1.lt; have := hb6.size; omega)
        have hblk7 := (hblk5.below hb6 hblk5.lt).below hb7 (by have := hblk5.lt; have := hb6.size; omega)
        have K7 := (K4.on hb6).on hb7
        go_wp2_with (fail)
        have HS7 := Lib.hid (show ∀ W, Below w7.heap.size w7 W → (Below w7.heap.size w7 W ∧ W.cell? ⟨w.heap.size, 0, none⟩ = some (.int .i64 f.1.1) ∧ W.cell? ⟨w.heap.size, 1, none⟩ = some (.slice A2 f.1.2.length c2) ∧ W.cell? ⟨w.heap.size, 2, none⟩ = some (.slice A9 f.2.length c9) ∧ W.cell? ⟨w4.heap.size, 0, none⟩ = some (.int .i64 f.1.1) ∧ W.cell? ⟨w4.heap.size, 1, none⟩ = some (.slice A4 f.1.2.length c4) ∧ W.cell? ⟨w4.heap.size, 2, none⟩ = some (.slice A8 f.2.length c8)) from
          fun W hW => ⟨hW, (hblk7.below hW hblk7.lt).cell 0, (hblk7.below hW hblk7.lt).cell 1, (hblk7.below hW hblk7.lt).cell 2, (hx7.below hW hx7.lt).cell 0, (hx7.below hW hx7.lt).cell 1, (hx7.below hW hx7.lt).cell 2⟩)
        go_region_held3 (fun w' => Below w7.heap.size w7 w' ∧ w'.cell? ⟨w.heap.size, 0, none⟩ = some (.int .i64 f.1.1) ∧ w'.cell? ⟨w.heap.size, 1, none⟩ = some (.slice A2 f.1.2.length c2) ∧ w'.cell? ⟨w.heap.size, 2, none⟩ = some (.slice A9 f.2.length c9) ∧ w'.cell? ⟨w4.heap.size, 0, none⟩ = some (.int .i64 f.1.1) ∧ w'.cell? ⟨w4.heap.size, 1, none⟩ = some (.slice A4 f.1.2.length c4) ∧ w'.cell? ⟨w4.heap.size, 2, none⟩ = some (.slice A8 f.2.length c8))
          (first | exact HS7.out _ (Below.refl _ _) | exact HS7.out _ (Below.refl _ _).drew | exact HS7.out _ (bthen (And.left (by assumption)) (by assumption)))
          (first
            | (go_at_call 36; refine (toRule_any _ f _ ?_ hf).mono ?_; exact H2.out.on (bthen B7 (And.left (by assumption))); rintro e wf ⟨Af, cf, Ag, cg, rfl, hof, hlf, hbf⟩)
            | (go_at_call 38; refine (eqRule_any _ _ f f _ ?_ ?_ hf hf).mono ?_; exact (K7.on (And.left (by assumption))); exact ⟨_, _, rfl, hof.rd, hlf.rd⟩; rw [show decide (f = f) = true by simp]; rintro e wg ⟨rfl, hbg⟩))
        all_goals
          go_wp2_with (fail)
          go_ret
          exact ⟨rfl, bthen B7 (And.left (by assumption))⟩

theorem lawRuleOk_in (v v2 : Value) (ar : List Int) (f : LRule) (w : World) (h : InInts w v ar) (h2 : InRule w v2 f) : Calls Try.prog 7 #[v, v2] w fun e w' => e = .returned (.bool true) ∧ Below w.heap.size w w' :=
  lawRuleOk_any v v2 ar f w h.1 h2.1 (ruleLens_in h2.2)

end Go.Proofs.Ytgacdehbdhhbnaa
