/-
  The walk of the law on FactsHas.
-/
import Derived.Test.YtacfcobfkklnoaaHas
import Derived.Test.YtacfcobfkklnoaaOpen
import Derived.Deep.RegionHeld3
import Derived.Deep.DeepCutAuto
import Derived.Deep.RegionWith
namespace Go.Proofs.Ytacfcobfkklnoaa
open Go.RowKit

set_option maxHeartbeats 1000000 in
set_option maxRecDepth 100000 in
theorem lawFactsHas_any (v v2 : Value) (fs : List LFact) (f : LFact) (w : World) (h : RdFacts w w.heap.size v fs) (h2 : RdFact w w.heap.size v2 f) (hn : fs.length ≤ 9223372036854775807) (hn' : ∀ k (h : k < fs.length), fs[k].2.length ≤ 9223372036854775807) (hm : f.2.length ≤ 9223372036854775807) :
    Calls Try.prog 8 #[v, v2] w fun e w' => e = .returned (.bool true) ∧ Below w.heap.size w w' := by
  have H := Lib.hid h
  have H2 := Lib.hid h2
  obtain ⟨A, c, rfl, hc, _⟩ := h
  obtain ⟨a, rfl, A2, c2, rfl, hc2, _⟩ := h2
  go_enter Try.func8, Try.ntmps8
  go_wp2_with (fail)
  refine (szFactS_any _ fs _ _ (H.out.on (below1 _ _)) (by omega) (by omega) hn hn').mono ?_
  rintro e w1 ⟨r, rfl, hsz, hb1⟩
  have B1 := bthen (below1 _ _) hb1
  have k0 : Blk w1 w.heap.size 41 #[.int .i64 f.1, .slice A2 f.2.length c2] := (Blk.new w _ _).below hb1 (by simp)
  have c10 : w1.cell? ⟨w.heap.size, 0, none⟩ = some (.int .i64 f.1) := k0.cell 0
  have c11 : w1.cell? ⟨w.heap.size, 1, none⟩ = some (.slice A2 f.2.length c2) := k0.cell 1
  clear hb1
  rcases hsz with rfl | ⟨hr0, hr⟩
  · go_wp2_with (fail)
    go_ret
    exact ⟨rfl, B1⟩
  · have h1 : ¬ r < 0 := by omega
    have hr1 : r ≤ 1048576 := by omega
    have hnf : fs.length ≤ 1048576 := by omega
    have htf : tot fs ≤ 1048576 := by omega
    clear hr
    go_wp2_with (fail)
    refine (szFact_any _ f _ _ (H2.out.on B1) hr0 hr1 hm).mono ?_
    rintro e w2 ⟨rfl, hb2⟩
    have B2 := bthen B1 hb2
    have k02 := k0.below hb2 k0.lt
    clear hb2
    rcases szV_cases r f.2.length with ⟨e3, _⟩ | ⟨e3, e4⟩
    · rw [e3]
      clear e3
      go_wp2_with (fail)
      go_ret
      exact ⟨rfl, B2⟩
    · have h3 : ¬ szV r f.2.length < 0 := by omega
      have hf : f.2.length ≤ 1048576 := by omega
      clear e4 e3
      go_upto_region 8 with fail
      have HS0 := Lib.hid (show ∀ W, Below w2.heap.size w2 W → (Below w2.heap.size w2 W ∧ W.cell? ⟨w.heap.size, 0, none⟩ = some (.int .i64 f.1) ∧ W.cell? ⟨w.heap.size, 1, none⟩ = some (.slice A2 f.2.length c2)) from
        fun W hW => ⟨hW, (k02.below hW k02.lt).cell 0, (k02.below hW k02.lt).cell 1⟩)
      go_cut [6] (fun s6 wx => s6 = .bool (factsHas fs f) ∧ Below w2.heap.size w2 wx)
      case first =>
        go_region_held3 (fun W => Below w2.heap.size w2 W ∧ W.cell? ⟨w.heap.size, 0, none⟩ = some (.int .i64 f.1) ∧ W.cell? ⟨w.heap.size, 1, none⟩ = some (.slice A2 f.2.length c2))
          (first | assumption | exact HS0.out _ (Below.refl _ _) | exact HS0.out _ (Below.refl _ _).drew | exact HS0.out _ (bthen (And.left (by assumption)) (by assumption)))
          (first
            | (go_at_call 34; refine (toFactS_any _ fs _ ?_ hnf htf).mono ?_; exact H.out.on (bthen B2 (And.left (by assumption))); rintro e wi ⟨Ai, ci, rfl, hoi, hbi⟩)
            | (go_at_call 30; refine (toFact_any _ f _ ?_ (by omega)).mono ?_; exact H2.out.on (bthen B2 (And.left (by assumption))); rintro e wf ⟨Af, cf, rfl, hof, hbf⟩)
            | (go_at_call 37; refine (specFactsHas_any _ _ fs f _ ?_ ?_ hnf htf hf).mono ?_; (first | exact hoi.rd | exact hoi.rd.on hbf); (first | exact ⟨_, rfl, hof.rd⟩ | exact ⟨_, rfl, hof.rd.on hbi⟩); rintro e wg ⟨rfl, hbg⟩))
        all_goals (go_wp2_with fail; go_meet; exact ⟨rfl, And.left (by assumption)⟩)
      case rest =>
        obtain ⟨rfl, hb3⟩ := hcut
        have B3 := bthen B2 hb3
        have k03 := k02.below hb3 k02.lt
        clear hb3 HS0 c10 c11
        go_wp2_with (fail)
        refine (toFactS_any _ fs _ (H.out.on B3) hnf htf).mono ?_
        rintro e w4 ⟨A4, c4, rfl, ho4, hb4⟩
        have B4 := bthen B3 hb4
        have k04 := k03.below hb4 k03.lt
        have d00 : w4.cell? ⟨w.heap.size, 0, none⟩ = some (.int .i64 f.1) := k04.cell 0
        have d01 : w4.cell? ⟨w.heap.size, 1, none⟩ = some (.slice A2 f.2.length c2) := k04.cell 1
        go_wp2_with (fail)
        refine (toFact_any _ f _ (H2.out.on B4) (by omega)).mono ?_
        rintro e w5 ⟨A5, c5, rfl, ho5, hb5⟩
        have B5 := bthen B4 hb5
        have K4 := ho4.rd.on hb5
        have K5 : RdFact w5 w5.heap.size (.agg #[.int .i64 f.1, .slice A5 f.2.length c5]) f := ⟨_, rfl, ho5.rd⟩
        have k05 := k04.below hb5 k04.lt
        clear d00 d01
        go_wp2_with (fail)
        refine (implFactsHas_any _ _ fs f _ (K4.on (below1 _ _)) (K5.on (below1 _ _)) hnf htf hf).mono ?_
        rintro e w6 ⟨rfl, hb6⟩
        have B6 := bthen B5 (bthen (below1 _ _) hb6)
        have x16 : Blk w6 w5.heap.size 25 #[.int .i64 f.1, .slice A5 f.2.length c5] := (Blk.new w5 _ _).below hb6 (by simp)
        have k06 := (k05.alloc _).below hb6 (Blk.lt (k05.alloc _))
        have K46 := (K4.on (below1 _ _)).on hb6
        have K56 := (K5.on (below1 _ _)).on hb6
        have hne : (factsHas fs f != factsHas fs f) = false := by simp
        go_wp2_with (fail)
        refine (toFactS_any _ fs _ (H.out.on B6) hnf htf).mono ?_
        rintro e w7 ⟨A7, c7, rfl, ho7, hb7⟩
        go_wp2_with (fail)
        refine (eqFactS_any _ _ fs fs _ (K46.on hb7) ho7.rd hnf hnf htf htf).mono ?_
        rintro e w8 ⟨rfl, hb8⟩
        have h68 := bthen hb7 hb8
        have B8 := bthen B6 h68
        have x18 := x16.below h68 x16.lt
        have k08 := k06.below h68 k06.lt
        have K58 := K56.on h68
        rw [show decide (fs = fs) = true by simp]
        go_upto_region 16 with fail
        have HS8 := Lib.hid (show ∀ W, Below w8.heap.size w8 W → (Below w8.heap.size w8 W ∧ W.cell? ⟨w.heap.size, 0, none⟩ = some (.int .i64 f.1) ∧ W.cell? ⟨w.heap.size, 1, none⟩ = some (.slice A2 f.2.length c2) ∧ W.cell? ⟨w5.heap.size, 0, none⟩ = some (.int .i64 f.1) ∧ W.cell? ⟨w5.heap.size, 1, none⟩ = some (.slice A5 f.2.length c5)) from
          fun W hW => ⟨hW, (k08.below hW k08.lt).cell 0, (k08.below hW k08.lt).cell 1, (x18.below hW x18.lt).cell 0, (x18.below hW x18.lt).cell 1⟩)
        go_region_held3 (fun W => Below w8.heap.size w8 W ∧ W.cell? ⟨w.heap.size, 0, none⟩ = some (.int .i64 f.1) ∧ W.cell? ⟨w.heap.size, 1, none⟩ = some (.slice A2 f.2.length c2) ∧ W.cell? ⟨w5.heap.size, 0, none⟩ = some (.int .i64 f.1) ∧ W.cell? ⟨w5.heap.size, 1, none⟩ = some (.slice A5 f.2.length c5))
          (first | assumption | exact HS8.out _ (Below.refl _ _) | exact HS8.out _ (Below.refl _ _).drew | exact HS8.out _ (bthen (And.left (by assumption)) (by assumption)))
          (first
            | (go_at_call 30; refine (toFact_any _ f _ ?_ (by omega)).mono ?_; exact H2.out.on (bthen B8 (And.left (by assumption))); rintro e wf2 ⟨Af2, cf2, rfl, hof2, hbf2⟩)
            | (go_at_call 31; refine (eqFact_any _ _ f f _ ?_ ?_ (by omega) (by omega)).mono ?_; exact (K58.on (And.left (by assumption))); exact ⟨_, rfl, hof2.rd⟩; rw [show decide (f = f) = true by simp]; rintro e wg2 ⟨rfl, hbg2⟩))
        all_goals
          go_wp2_with (fail)
          go_ret
          exact ⟨rfl, bthen B8 (And.left (by assumption))⟩

theorem lawFactsHas_in (v v2 : Value) (fs : List LFact) (f : LFact) (w : World) (h : InFacts w v fs) (h2 : InFact w v2 f) : Calls Try.prog 8 #[v, v2] w fun e w' => e = .returned (.bool true) ∧ Below w.heap.size w w' :=
  lawFactsHas_any v v2 fs f w h.1 h2.1 (by have := h.2.1; unfold maxLen at this; omega) (fun k hk => by have := h.2.2 k hk; unfold maxLen at this; omega) (by have := h2.2; unfold maxLen at this; omega)

end Go.Proofs.Ytacfcobfkklnoaa
