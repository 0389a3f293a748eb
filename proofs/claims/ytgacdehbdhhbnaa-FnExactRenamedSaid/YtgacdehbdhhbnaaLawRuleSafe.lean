/-
  The walk of the law on RuleSafe.
-/
import Derived.Test.YtgacdehbdhhbnaaSafe
import Derived.Test.YtgacdehbdhhbnaaOpens
import Derived.Deep.RegionHeld3
import Derived.Deep.DeepCutAuto
import Derived.Deep.RegionWith
namespace Go.Proofs.Ytgacdehbdhhbnaa
open Go.RowKit

theorem ruleLens_in {r : LRule} (h : ruleFitsIn r) : ruleLens r := by
  obtain ⟨h1, h2, h3⟩ := h
  unfold maxLen at *
  exact ⟨by omega, by omega, fun k hk => by have := h3 k hk; omega⟩

set_option maxHeartbeats 1000000 in
set_option maxRecDepth 100000 in
theorem lawRuleSafe_any (v : Value) (r : LRule) (w : World) (h : RdRule w w.heap.size v r) (hn : ruleLens r) :
    Calls Try.prog 6 #[v] w fun e w' => e = .returned (.bool true) ∧ Below w.heap.size w w' := by
  have H := Lib.hid h
  obtain ⟨a, b, rfl, h, h2⟩ := h
  obtain ⟨A, c, rfl, hc, _⟩ := h
  obtain ⟨A2, c2, rfl, hcc, _⟩ := h2
  go_enter Try.func6, Try.ntmps6
  go_wp2_with (fail)
  refine (szRule_any _ r _ _ (H.out.on (below1 _ _)) (by omega) (by omega) hn).mono ?_
  rintro e w1 ⟨z, rfl, hz, hb1⟩
  have B1 := bthen (below1 _ _) hb1
  have x1 : Blk w1 w.heap.size 58 #[.int .i64 r.1.1, .slice A r.1.2.length c, .slice A2 r.2.length c2] := (Blk.new w _ _).below hb1 (by simp)
  clear hb1
  rcases hz with rfl | ⟨z0, z1⟩
  · go_wp2_with (fail)
    go_ret
    exact ⟨rfl, B1⟩
  · have hz : ¬ z < 0 := by omega
    have hs : szR r ≤ 1048576 := by omega
    clear z1
    have p0 : w1.cell? ⟨w.heap.size, 0, none⟩ = some (.int .i64 r.1.1) := x1.cell 0
    have p1 : w1.cell? ⟨w.heap.size, 1, none⟩ = some (.slice A r.1.2.length c) := x1.cell 1
    have p2 : w1.cell? ⟨w.heap.size, 2, none⟩ = some (.slice A2 r.2.length c2) := x1.cell 2
    go_wp2_with (fail)
    refine (toRule_any _ r _ (H.out.on B1) hs).mono ?_
    rintro e w2 ⟨A3, c3, A4, c4, rfl, ho2, hl2, hb2⟩
    have B2 := bthen B1 hb2
    go_wp2_with (fail)
    refine (specRuleSafe_any _ r _ ⟨_, _, rfl, ho2.rd, hl2.rd⟩ hs).mono ?_
    rintro e w3 ⟨rfl, hb3⟩
    have B3 := bthen B2 hb3
    have x3 := (x1.below hb2 x1.lt).below hb3 (Nat.lt_of_lt_of_le x1.lt hb2.size)
    clear p0 p1 p2
    have p0 : w3.cell? ⟨w.heap.size, 0, none⟩ = some (.int .i64 r.1.1) := x3.cell 0
    have p1 : w3.cell? ⟨w.heap.size, 1, none⟩ = some (.slice A r.1.2.length c) := x3.cell 1
    have p2 : w3.cell? ⟨w.heap.size, 2, none⟩ = some (.slice A2 r.2.length c2) := x3.cell 2
    go_wp2_with (fail)
    refine (toRule_any _ r _ (H.out.on B3) hs).mono ?_
    rintro e w4 ⟨A5, c5, A6, c6, rfl, ho4, hl4, hb4⟩
    have B4 := bthen B3 hb4
    have R4 : RdRule w4 w4.heap.size (.agg #[.int .i64 r.1.1, .slice A5 r.1.2.length c5, .slice A6 r.2.length c6]) r := ⟨_, _, rfl, ho4.rd, hl4.rd⟩
    go_wp2_with (fail)
    refine (implRuleSafe_any _ r _ (R4.on (below1 _ _)) hs).mono ?_
    rintro e w6 ⟨rfl, hb6⟩
    have B6 := bthen B4 (bthen (below1 _ _) hb6)
    have R6 := (R4.on (below1 w4 (Obj.cells #[Value.int IntKind.i64 r.1.1, Value.slice A5 r.1.2.length c5, Value.slice A6 r.2.length c6] 63))).on hb6
    have y6 : Blk w6 w4.heap.size 63 #[.int .i64 r.1.1, .slice A5 r.1.2.length c5, .slice A6 r.2.length c6] := (Blk.new w4 _ _).below hb6 (by simp)
    have x6 := ((x3.below hb4 x3.lt).alloc (Obj.cells #[Value.int IntKind.i64 r.1.1, Value.slice A5 r.1.2.length c5, Value.slice A6 r.2.length c6] 63)).below hb6 (by have := x3.lt; have := hb4.size; simp; omega)
    have ga : (ruleSafe r != ruleSafe r) = false := by simp
    go_wp2_with (fail)
    have HS := Lib.hid (show ∀ W, Below w6.heap.size w6 W → (Below w6.heap.size w6 W ∧ W.cell? ⟨w.heap.size, 0, none⟩ = some (.int .i64 r.1.1) ∧ W.cell? ⟨w.heap.size, 1, none⟩ = some (.slice A r.1.2.length c) ∧ W.cell? ⟨w.heap.size, 2, none⟩ = some (.slice A2 r.2.length c2) ∧ W.cell? ⟨w4.heap.size, 0, none⟩ = some (.int .i64 r.1.1) ∧ W.cell? ⟨w4.heap.size, 1, none⟩ = some (.slice A5 r.1.2.length c5) ∧ W.cell? ⟨w4.heap.size, 2, none⟩ = some (.slice A6 r.2.length c6)) from
      fun W hW => ⟨hW, (x6.below hW x6.lt).cell 0, (x6.below hW x6.lt).cell 1, (x6.below hW x6.lt).cell 2, (y6.below hW y6.lt).cell 0, (y6.below hW y6.lt).cell 1, (y6.below hW y6.lt).cell 2⟩)
    go_region_held3 (fun w' => Below w6.heap.size w6 w' ∧ w'.cell? ⟨w.heap.size, 0, none⟩ = some (.int .i64 r.1.1) ∧ w'.cell? ⟨w.heap.size, 1, none⟩ = some (.slice A r.1.2.length c) ∧ w'.cell? ⟨w.heap.size, 2, none⟩ = some (.slice A2 r.2.length c2) ∧ w'.cell? ⟨w4.heap.size, 0, none⟩ = some (.int .i64 r.1.1) ∧ w'.cell? ⟨w4.heap.size, 1, none⟩ = some (.slice A5 r.1.2.length c5) ∧ w'.cell? ⟨w4.heap.size, 2, none⟩ = some (.slice A6 r.2.length c6))
      (first | exact HS.out _ (Below.refl _ _) | exact HS.out _ (Below.refl _ _).drew | exact HS.out _ (bthen (And.left (by assumption)) (by assumption)))
      (first
        | (go_at_call 36; refine (toRule_any _ r _ ?_ hs).mono ?_; exact H.out.on (bthen B6 (And.left (by assumption))); rintro e wf ⟨Af, cf, Ag, cg, rfl, hof, hlf, hbf⟩)
        | (go_at_call 38; refine (eqRule_any _ _ r r _ ?_ ?_ hs hs).mono ?_; exact (R6.on (And.left (by assumption))); exact ⟨_, _, rfl, hof.rd, hlf.rd⟩; rw [show decide (r = r) = true by simp]; rintro e wg ⟨rfl, hbg⟩))
    all_goals
      go_wp2_with (fail)
      go_ret
      exact ⟨rfl, bthen B6 (And.left (by assumption))⟩

theorem lawRuleSafe_in (v : Value) (r : LRule) (w : World) (h : InRule w v r) : Calls Try.prog 6 #[v] w fun e w' => e = .returned (.bool true) ∧ Below w.heap.size w w' :=
  lawRuleSafe_any v r w h.1 (ruleLens_in h.2)

end Go.Proofs.Ytgacdehbdhhbnaa
