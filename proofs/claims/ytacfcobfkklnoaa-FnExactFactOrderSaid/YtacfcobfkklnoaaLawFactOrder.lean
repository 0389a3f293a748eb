/-
  The walk of the law on FactOrder.
-/
import Derived.Test.YtacfcobfkklnoaaSpecOrder
import Derived.Test.YtacfcobfkklnoaaOpen
import Derived.Deep.RegionHeld3
import Derived.Deep.DeepCutAuto
import Derived.Deep.RegionWith
namespace Go.Proofs.Ytacfcobfkklnoaa
open Go.RowKit

set_option maxHeartbeats 1000000 in
set_option maxRecDepth 100000 in
theorem lawFactOrder_any (v v2 : Value) (f g : LFact) (w : World) (h : RdFact w w.heap.size v f) (h2 : RdFact w w.heap.size v2 g) (hm : f.2.length ≤ 9223372036854775807) (hm2 : g.2.length ≤ 9223372036854775807) :
    Calls Try.prog 6 #[v, v2] w fun e w' => e = .returned (.bool true) ∧ Below w.heap.size w w' := by
  have H := Lib.hid h
  have H2 := Lib.hid h2
  obtain ⟨a, rfl, A, c, rfl, hc, _⟩ := h
  obtain ⟨a, rfl, A2, c2, rfl, hc2, _⟩ := h2
  go_enter Try.func6, Try.ntmps6
  go_wp2_with (fail)
  refine (szFact_any _ f _ _ (H.out.on (below2 _ _ _)) (by omega) (by omega) hm).mono ?_
  rintro e w1 ⟨rfl, hb1⟩
  have B1 := bthen (below2 _ _ _) hb1
  have k0 : Blk w1 w.heap.size 41 #[.int .i64 f.1, .slice A f.2.length c] := ((Blk.new w _ _).alloc _).below hb1 (by simp <;> omega)
  have k1 : Blk w1 (w.heap.size + 1) 41 #[.int .i64 g.1, .slice A2 g.2.length c2] :=
    (by simpa using Blk.new (w.alloc (Obj.cells #[Value.int IntKind.i64 f.1, Value.slice A f.2.length c] 41)) 41 #[.int .i64 g.1, .slice A2 g.2.length c2] : Blk _ _ _ _).below hb1 (by simp)
  have c10 : w1.cell? ⟨w.heap.size + 1, 0, none⟩ = some (.int .i64 g.1) := k1.cell 0
  have c11 : w1.cell? ⟨w.heap.size + 1, 1, none⟩ = some (.slice A2 g.2.length c2) := k1.cell 1
  clear hb1
  rcases szV_cases 1048576 f.2.length with ⟨e1, _⟩ | ⟨e1, e2⟩
  · rw [e1]
    clear e1
    go_wp2_with (fail)
    go_ret
    exact ⟨rfl, B1⟩
  · have h1 : ¬ szV 1048576 f.2.length < 0 := by omega
    have hf : f.2.length ≤ 1048576 := by omega
    have hs1 : szV 1048576 f.2.length ≤ 1048576 := by omega
    clear e2
    go_wp2_with (fail)
    refine (szFact_any _ g _ _ (H2.out.on B1) e1 hs1 hm2).mono ?_
    rintro e w2 ⟨rfl, hb2⟩
    have B2 := bthen B1 hb2
    have k02 := k0.below hb2 k0.lt
    have k12 := k1.below hb2 k1.lt
    clear hb2
    rcases szV_cases (szV 1048576 f.2.length) g.2.length with ⟨e3, _⟩ | ⟨e3, e4⟩
    · rw [e3]
      clear e3
      go_wp2_with (fail)
      go_ret
      exact ⟨rfl, B2⟩
    · have h3 : ¬ szV (szV 1048576 f.2.length) g.2.length < 0 := by omega
      have hg : g.2.length ≤ 1048576 := by omega
      clear e4 e3
      go_upto_region 8 with fail
      have HS0 := Lib.hid (show ∀ W, Below w2.heap.size w2 W → (Below w2.heap.size w2 W ∧ W.cell? ⟨w.heap.size, 0, none⟩ = some (.int .i64 f.1) ∧ W.cell? ⟨w.heap.size, 1, none⟩ = some (.slice A f.2.length c) ∧ W.cell? ⟨w.heap.size + 1, 0, none⟩ = some (.int .i64 g.1) ∧ W.cell? ⟨w.heap.size + 1, 1, none⟩ = some (.slice A2 g.2.length c2)) from
        fun W hW => ⟨hW, (k02.below hW k02.lt).cell 0, (k02.below hW k02.lt).cell 1, (k12.below hW k12.lt).cell 0, (k12.below hW k12.lt).cell 1⟩)
      go_cut [6] (fun s6 wx => s6 = .int .i64 (factOrder f g) ∧ Below w2.heap.size w2 wx)
      case first =>
        go_region_held3 (fun W => Below w2.heap.size w2 W ∧ W.cell? ⟨w.heap.size, 0, none⟩ = some (.int .i64 f.1) ∧ W.cell? ⟨w.heap.size, 1, none⟩ = some (.slice A f.2.length c) ∧ W.cell? ⟨w.heap.size + 1, 0, none⟩ = some (.int .i64 g.1) ∧ W.cell? ⟨w.heap.size + 1, 1, none⟩ = some (.slice A2 g.2.length c2))
          (first | assumption | exact HS0.out _ (Below.refl _ _) | exact HS0.out _ (Below.refl _ _).drew | exact HS0.out _ (bthen (And.left (by assumption)) (by assumption)))
          (first
            | (go_at_call_of 30 (Value.slice A f.2.length c); refine (toFact_any _ f _ ?_ (by omega)).mono ?_; exact H.out.on (bthen B2 (And.left (by assumption))); rintro e wi ⟨Ai, ci, rfl, hoi, hbi⟩)
            | (go_at_call_of 30 (Value.slice A2 g.2.length c2); refine (toFact_any _ g _ ?_ (by omega)).mono ?_; exact H2.out.on (bthen B2 (And.left (by assumption))); rintro e wf ⟨Af, cf, rfl, hof, hbf⟩)
            | (go_at_call 20; refine (specFactOrder_any _ _ f g _ ?_ ?_ hf hg).mono ?_; (first | exact ⟨_, rfl, hoi.rd⟩ | exact ⟨_, rfl, hoi.rd.on hbf⟩); (first | exact ⟨_, rfl, hof.rd⟩ | exact ⟨_, rfl, hof.rd.on hbi⟩); rintro e wg ⟨rfl, hbg⟩))
        all_goals (go_wp2_with fail; go_meet; exact ⟨rfl, And.left (by assumption)⟩)
      case rest =>
        obtain ⟨rfl, hb3⟩ := hcut
        have B3 := bthen B2 hb3
        have k03 := k02.below hb3 k02.lt
        have k13 := k12.below hb3 k12.lt
        clear hb3 HS0 c10 c11
        have d00 : wc.cell? ⟨w.heap.size, 0, none⟩ = some (.int .i64 f.1) := k03.cell 0
        have d01 : wc.cell? ⟨w.heap.size, 1, none⟩ = some (.slice A f.2.length c) := k03.cell 1
        go_wp2_with (fail)
        refine (toFact_any _ f _ (H.out.on B3) (by omega)).mono ?_
        rintro e w4 ⟨A4, c4, rfl, ho4, hb4⟩
        have B4 := bthen B3 hb4
        have k04 := k03.below hb4 k03.lt
        have k14 := k13.below hb4 k13.lt
        have hz4 := k14.lt
        clear d00 d01
        have q10 : ∀ o, (w4.alloc o).cell? ⟨w.heap.size + 1, 0, none⟩ = some (.int .i64 g.1) := fun o => (k14.alloc o).cell 0
        have q11 : ∀ o, (w4.alloc o).cell? ⟨w.heap.size + 1, 1, none⟩ = some (.slice A2 g.2.length c2) := fun o => (k14.alloc o).cell 1
        go_wp2_with (fail)
        refine (toFact_any _ g _ (H2.out.on (bthen B4 (below1 _ _))) (by omega)).mono ?_
        rintro e w5 ⟨A5, c5, rfl, ho5, hb5⟩
        have B5 := bthen B4 (bthen (below1 _ _) hb5)
        have x05 : Blk w5 w4.heap.size 25 #[.int .i64 f.1, .slice A4 f.2.length c4] := (Blk.new w4 _ _).below hb5 (by simp)
        have K4 : RdFact w5 w5.heap.size (.agg #[.int .i64 f.1, .slice A4 f.2.length c4]) f := ⟨_, rfl, (ho4.rd.on (below1 _ _)).on hb5⟩
        have K5 : RdFact w5 w5.heap.size (.agg #[.int .i64 g.1, .slice A5 g.2.length c5]) g := ⟨_, rfl, ho5.rd⟩
        have k05 := (k04.alloc _).below hb5 (Blk.lt (k04.alloc _))
        have k15 := (k14.alloc _).below hb5 (Blk.lt (k14.alloc _))
        clear q10 q11
        have r0 : ∀ o, (w5.alloc o).cell? ⟨w4.heap.size, 0, none⟩ = some (.int .i64 f.1) := fun o => (x05.alloc o).cell 0
        have r1 : ∀ o, (w5.alloc o).cell? ⟨w4.heap.size, 1, none⟩ = some (.slice A4 f.2.length c4) := fun o => (x05.alloc o).cell 1
        go_wp2_with (fail)
        refine (implFactOrder_any _ _ f g _ (K4.on (below1 _ _)) (K5.on (below1 _ _)) hf hg).mono ?_
        rintro e w6 ⟨rfl, hb6⟩
        have B6 := bthen B5 (bthen (below1 _ _) hb6)
        have x06 := (x05.alloc _).below hb6 (Blk.lt (x05.alloc _))
        have x16 : Blk w6 w5.heap.size 25 #[.int .i64 g.1, .slice A5 g.2.length c5] := (Blk.new w5 _ _).below hb6 (by simp)
        have k06 := (k05.alloc _).below hb6 (Blk.lt (k05.alloc _))
        have k16 := (k15.alloc _).below hb6 (Blk.lt (k15.alloc _))
        have K46 := (K4.on (below1 _ _)).on hb6
        have K56 := (K5.on (below1 _ _)).on hb6
        have hne : (factOrder f g != factOrder f g) = false := by simp
        clear r0 r1
        go_upto_region 14 with fail
        have HS6 := Lib.hid (show ∀ W, Below w6.heap.size w6 W → (Below w6.heap.size w6 W ∧ W.cell? ⟨w.heap.size, 0, none⟩ = some (.int .i64 f.1) ∧ W.cell? ⟨w.heap.size, 1, none⟩ = some (.slice A f.2.length c) ∧ W.cell? ⟨w4.heap.size, 0, none⟩ = some (.int .i64 f.1) ∧ W.cell? ⟨w4.heap.size, 1, none⟩ = some (.slice A4 f.2.length c4)) from
          fun W hW => ⟨hW, (k06.below hW k06.lt).cell 0, (k06.below hW k06.lt).cell 1, (x06.below hW x06.lt).cell 0, (x06.below hW x06.lt).cell 1⟩)
        go_region_held3 (fun W => Below w6.heap.size w6 W ∧ W.cell? ⟨w.heap.size, 0, none⟩ = some (.int .i64 f.1) ∧ W.cell? ⟨w.heap.size, 1, none⟩ = some (.slice A f.2.length c) ∧ W.cell? ⟨w4.heap.size, 0, none⟩ = some (.int .i64 f.1) ∧ W.cell? ⟨w4.heap.size, 1, none⟩ = some (.slice A4 f.2.length c4))
          (first | assumption | exact HS6.out _ (Below.refl _ _) | exact HS6.out _ (Below.refl _ _).drew | exact HS6.out _ (bthen (And.left (by assumption)) (by assumption)))
          (first
            | (go_at_call 30; refine (toFact_any _ f _ ?_ (by omega)).mono ?_; exact H.out.on (bthen B6 (And.left (by assumption))); rintro e wf ⟨Af, cf, rfl, hof, hbf⟩)
            | (go_at_call 31; refine (eqFact_any _ _ f f _ ?_ ?_ (by omega) (by omega)).mono ?_; exact (K46.on (And.left (by assumption))); exact ⟨_, rfl, hof.rd⟩; rw [show decide (f = f) = true by simp]; rintro e wg ⟨rfl, hbg⟩))
        obtain ⟨w7, hb7, hw7⟩ : ∃ w7, Below w6.heap.size w6 w7 ∧ w7 = wg := ⟨wg, And.left (by assumption), rfl⟩
        rw [← hw7]
        clear hw7
        have B7 := bthen B6 hb7
        have k17 := k16.below hb7 k16.lt
        have x17 := x16.below hb7 x16.lt
        have K57 := K56.on hb7
        clear HS6
        go_upto_region 16 with fail
        have HS7 := Lib.hid (show ∀ W, Below w7.heap.size w7 W → (Below w7.heap.size w7 W ∧ W.cell? ⟨w.heap.size + 1, 0, none⟩ = some (.int .i64 g.1) ∧ W.cell? ⟨w.heap.size + 1, 1, none⟩ = some (.slice A2 g.2.length c2) ∧ W.cell? ⟨w5.heap.size, 0, none⟩ = some (.int .i64 g.1) ∧ W.cell? ⟨w5.heap.size, 1, none⟩ = some (.slice A5 g.2.length c5)) from
          fun W hW => ⟨hW, (k17.below hW k17.lt).cell 0, (k17.below hW k17.lt).cell 1, (x17.below hW x17.lt).cell 0, (x17.below hW x17.lt).cell 1⟩)
        go_region_held3 (fun W => Below w7.heap.size w7 W ∧ W.cell? ⟨w.heap.size + 1, 0, none⟩ = some (.int .i64 g.1) ∧ W.cell? ⟨w.heap.size + 1, 1, none⟩ = some (.slice A2 g.2.length c2) ∧ W.cell? ⟨w5.heap.size, 0, none⟩ = some (.int .i64 g.1) ∧ W.cell? ⟨w5.heap.size, 1, none⟩ = some (.slice A5 g.2.length c5))
          (first | assumption | exact HS7.out _ (Below.refl _ _) | exact HS7.out _ (Below.refl _ _).drew | exact HS7.out _ (bthen (And.left (by assumption)) (by assumption)))
          (first
            | (go_at_call 30; refine (toFact_any _ g _ ?_ (by omega)).mono ?_; exact H2.out.on (bthen B7 (And.left (by assumption))); rintro e wf2 ⟨Af2, cf2, rfl, hof2, hbf2⟩)
            | (go_at_call 31; refine (eqFact_any _ _ g g _ ?_ ?_ (by omega) (by omega)).mono ?_; exact (K57.on (And.left (by assumption))); exact ⟨_, rfl, hof2.rd⟩; rw [show decide (g = g) = true by simp]; rintro e wg2 ⟨rfl, hbg2⟩))
        all_goals
          go_wp2_with (fail)
          go_ret
          exact ⟨rfl, bthen B7 (And.left (by assumption))⟩

theorem lawFactOrder_in (v v2 : Value) (f g : LFact) (w : World) (h : InFact w v f) (h2 : InFact w v2 g) : Calls Try.prog 6 #[v, v2] w fun e w' => e = .returned (.bool true) ∧ Below w.heap.size w w' :=
  lawFactOrder_any v v2 f g w h.1 h2.1 (by have := h.2; unfold maxLen at this; omega) (by have := h2.2; unfold maxLen at this; omega)

end Go.Proofs.Ytacfcobfkklnoaa
