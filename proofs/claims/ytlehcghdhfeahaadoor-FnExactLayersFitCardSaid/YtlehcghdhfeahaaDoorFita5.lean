/-
  The law FnExactLayersFit: for every input the call returns true, and each argument reads behind it as it read before. Conditions: none but the row's own.
-/
import Derived.Deep.RegionHeld3
import Derived.Deep.DeepCutAuto
import Derived.Deep.RegionWith
import Derived.Test.YtlehcghdhfeahaaDoorRows
import Derived.Test.YtlehcghdhfeahaaDoorCards
import Derived.Test.YtlehcghdhfeahaaDoorTie
import Derived.Lay
import Derived.SevenTiedAt
import Derived.Test.YtlehcghdhfeahaaDoorFita1
import Derived.Test.YtlehcghdhfeahaaDoorFita2
import Derived.Test.YtlehcghdhfeahaaDoorFita3
import Derived.Test.YtlehcghdhfeahaaDoorFita4
/-
  The walk of the law on LayersFit (written by wip/genlaw.py).
-/
namespace Go.Proofs.YtlehcghdhfeahaaDoor
open Go.RowKit

set_option maxHeartbeats 4000000 in
set_option maxRecDepth 100000 in
theorem lawLayersFit_any (v0 : Value) (v1 : Value) (p : LProg) (ls : List Int) (w : World) (h0 : RdProg w w.heap.size v0 p) (h1 : RdInts w w.heap.size v1 ls) (n0 : progLens p) (hT : Tab w) :
    Calls Tryd.prog 6 #[v0, v1] w fun e w' => e = .returned (.bool true) ∧ Below w.heap.size w w' := by
  have HT := Lib.hid hT
  clear hT
  have H0 := Lib.hid h0
  obtain ⟨_, _, rfl, ⟨A0, c0, rfl, hc0, _⟩, ⟨A0b, c0b, rfl, hc0b, _⟩⟩ := h0
  have H1 := Lib.hid h1
  obtain ⟨A1, c1, rfl, hc1, _⟩ := h1
  by_cases g1 : 1048576 < ls.length
  · go_enter Tryd.func6, Tryd.ntmps6
    go_wp2_with (fail)
    go_ret
    exact ⟨rfl, below1 _ _⟩
  have r1 : ls.length ≤ 1048576 := by omega
  go_enter Tryd.func6, Tryd.ntmps6
  go_wp2_with (fail)
  obtain ⟨w1, hw_w1⟩ : ∃ W', W' = w.alloc (Obj.cells #[Value.slice A0 p.1.length c0, Value.slice A0b p.2.length c0b] 47) := ⟨_, rfl⟩
  rw [← hw_w1]
  have B_w1 : Below w.heap.size w w1 := by rw [hw_w1]; exact below1 _ _
  have bx0 : Blk w1 (w.heap.size + 0) 47 #[.slice A0 p.1.length c0, .slice A0b p.2.length c0b] := by
    rw [hw_w1]
    have := (Blk.new w 47 #[.slice A0 p.1.length c0, .slice A0b p.2.length c0b])
    simpa using this
  have bx0_l := bx0.lt
  rw [Nat.add_zero] at bx0 bx0_l
  have s_w1 := B_w1.size
  clear hw_w1
  refine (us_prog (H0.out.on B_w1) (by omega) (by omega) n0).mono ?_
  rintro e w2 ⟨z0, rfl, hz0, hbz0⟩
  have s_w2 := hbz0.size
  have bx0_1 := bx0.below hbz0 (by first | exact bx0.lt | omega)
  clear bx0
  have bx0_1_l := bx0_1.lt
  have B_w2 := bthen B_w1 hbz0
  rcases hz0 with rfl | ⟨zp0, zs0⟩
  · go_wp2_with (fail)
    go_ret
    exact ⟨rfl, B_w2⟩
  have zn0 : ¬ z0 < 0 := by omega
  have r0 : szP p ≤ 1048576 := by omega
  have zl0 : z0 ≤ 1048576 := by omega
  have ZS0 := Lib.hid zs0
  clear zs0 zn0
  have zn0 : ¬ z0 < 0 := by omega
  obtain ⟨R0, hR0⟩ : ∃ R, R = layersFit p ls := ⟨_, rfl⟩
  have HR0 := Lib.hid hR0
  clear hR0
  have gb0 : (R0 != R0) = false := by simp
  have q1 : w2.cell? ⟨w.heap.size, 0, none⟩ = some (.slice A0 p.1.length c0) := bx0_1.cell 0
  have q2 : w2.cell? ⟨w.heap.size, 1, none⟩ = some (.slice A0b p.2.length c0b) := bx0_1.cell 1
  go_wp2_with (fail)
  clear q1 q2
  refine (toProgram_own _ p _ (H0.out.on B_w2) (by omega)).mono ?_
  rintro e w3 ⟨P1, d1, P1b, d1b, rfl, o1, hb1⟩
  have s_w3 := hb1.size
  have bx0_2 := bx0_1.below hb1 (by first | exact bx0_1.lt | omega)
  clear bx0_1
  have bx0_2_l := bx0_2.lt
  have B_w3 := bthen B_w2 hb1
  have q3 : w3.cell? ⟨w.heap.size, 0, none⟩ = some (.slice A0 p.1.length c0) := bx0_2.cell 0
  have q4 : w3.cell? ⟨w.heap.size, 1, none⟩ = some (.slice A0b p.2.length c0b) := bx0_2.cell 1
  go_wp2_with (fail)
  clear q3 q4
  refine (toIntS_any _ ls _ (H1.out.on B_w3) (by omega)).mono ?_
  rintro e w4 ⟨P2, d2, rfl, o2, hb2⟩
  have s_w4 := hb2.size
  have bx0_3 := bx0_2.below hb2 (by first | exact bx0_2.lt | omega)
  clear bx0_2
  have bx0_3_l := bx0_3.lt
  have tw0_3 := o1.below hb2 (by omega)
  clear o1
  have B_w4 := bthen B_w3 hb2
  have q5 : w4.cell? ⟨w.heap.size, 0, none⟩ = some (.slice A0 p.1.length c0) := bx0_3.cell 0
  have q6 : w4.cell? ⟨w.heap.size, 1, none⟩ = some (.slice A0b p.2.length c0b) := bx0_3.cell 1
  go_wp2_with (fail)
  clear q5 q6
  refine (specLayersFit_any _ _ p ls _ (tw0_3.rd.more (by omega)) (o2.rd.more (by omega)) (by omega) (by omega)).mono ?_
  try rw [← HR0.out]
  rintro e w5 ⟨rfl, hb3⟩
  have s_w5 := hb3.size
  have bx0_4 := bx0_3.below hb3 (by first | exact bx0_3.lt | omega)
  clear bx0_3
  have bx0_4_l := bx0_4.lt
  have tw0_4 := tw0_3.below hb3 (by omega)
  clear tw0_3
  have tw1_4 := o2.below hb3 (by omega)
  clear o2
  have B_w5 := bthen B_w4 hb3
  have q7 : w5.cell? ⟨w.heap.size, 0, none⟩ = some (.slice A0 p.1.length c0) := bx0_4.cell 0
  have q8 : w5.cell? ⟨w.heap.size, 1, none⟩ = some (.slice A0b p.2.length c0b) := bx0_4.cell 1
  go_wp2_with (fail)
  clear q7 q8
  refine (toProgram_own _ p _ (H0.out.on B_w5) (by omega)).mono ?_
  rintro e w6 ⟨P4, d4, P4b, d4b, rfl, o4, hb4⟩
  have s_w6 := hb4.size
  have bx0_5 := bx0_4.below hb4 (by first | exact bx0_4.lt | omega)
  clear bx0_4
  have bx0_5_l := bx0_5.lt
  have B_w6 := bthen B_w5 hb4
  have q9 : w6.cell? ⟨w.heap.size, 0, none⟩ = some (.slice A0 p.1.length c0) := bx0_5.cell 0
  have q10 : w6.cell? ⟨w.heap.size, 1, none⟩ = some (.slice A0b p.2.length c0b) := bx0_5.cell 1
  go_wp2_with (fail)
  clear q9 q10
  obtain ⟨w7, hw_w7⟩ : ∃ W', W' = w6.alloc (Obj.cells #[Value.slice P4 p.1.length d4, Value.slice P4b p.2.length d4b] 40) := ⟨_, rfl⟩
  rw [← hw_w7]
  have hb_w7 : Below w6.heap.size w6 w7 := by rw [hw_w7]; exact below1 _ _
  have bxx0_n : Blk w7 w6.heap.size 40 #[.slice P4 p.1.length d4, .slice P4b p.2.length d4b] := by rw [hw_w7]; exact Blk.new _ _ _
  have bxx0_nl := bxx0_n.lt
  clear hw_w7
  have s_w7 := hb_w7.size
  have bx0_6 := bx0_5.below hb_w7 (by first | exact bx0_5.lt | omega)
  clear bx0_5
  have bx0_6_l := bx0_6.lt
  have x0_6 := o4.below hb_w7 (by omega)
  clear o4
  have B_w7 := bthen B_w6 hb_w7
  refine (toIntS_any _ ls _ (H1.out.on B_w7) (by omega)).mono ?_
  rintro e w8 ⟨P5, d5, rfl, o5, hb5⟩
  have s_w8 := hb5.size
  have bx0_7 := bx0_6.below hb5 (by first | exact bx0_6.lt | omega)
  clear bx0_6
  have bx0_7_l := bx0_7.lt
  have x0_7 := x0_6.below hb5 (by omega)
  clear x0_6
  have bxx0_7 := bxx0_n.below hb5 (by first | exact bxx0_n.lt | omega)
  clear bxx0_n
  have bxx0_7_l := bxx0_7.lt
  have B_w8 := bthen B_w7 hb5
  have q11 : w8.cell? ⟨w.heap.size, 0, none⟩ = some (.slice A0 p.1.length c0) := bx0_7.cell 0
  have q12 : w8.cell? ⟨w.heap.size, 1, none⟩ = some (.slice A0b p.2.length c0b) := bx0_7.cell 1
  have q13 : w8.cell? ⟨w6.heap.size, 0, none⟩ = some (.slice P4 p.1.length d4) := bxx0_7.cell 0
  have q14 : w8.cell? ⟨w6.heap.size, 1, none⟩ = some (.slice P4b p.2.length d4b) := bxx0_7.cell 1
  go_wp2_with (fail)
  clear q11 q12 q13 q14
  refine (implLayersFit_any _ _ p ls _ (x0_7.rd.more (by omega)) (o5.rd.more (by omega)) (by omega) (by omega) (HT.out.below B_w8)).mono ?_
  try rw [← HR0.out]
  rintro e w9 ⟨rfl, hb6⟩
  have s_w9 := hb6.size
  have bx0_8 := bx0_7.below hb6 (by first | exact bx0_7.lt | omega)
  clear bx0_7
  have bx0_8_l := bx0_8.lt
  have x0_8 := x0_7.below hb6 (by omega)
  clear x0_7
  have bxx0_8 := bxx0_7.below hb6 (by first | exact bxx0_7.lt | omega)
  clear bxx0_7
  have bxx0_8_l := bxx0_8.lt
  have x1_8 := o5.below hb6 (by omega)
  clear o5
  have B_w9 := bthen B_w8 hb6
  have q15 : w9.cell? ⟨w.heap.size, 0, none⟩ = some (.slice A0 p.1.length c0) := bx0_8.cell 0
  have q16 : w9.cell? ⟨w.heap.size, 1, none⟩ = some (.slice A0b p.2.length c0b) := bx0_8.cell 1
  have q17 : w9.cell? ⟨w6.heap.size, 0, none⟩ = some (.slice P4 p.1.length d4) := bxx0_8.cell 0
  have q18 : w9.cell? ⟨w6.heap.size, 1, none⟩ = some (.slice P4b p.2.length d4b) := bxx0_8.cell 1
  go_upto_region 13 with fail
  clear q15 q16 q17 q18
  have HS_w9 := Lib.hid (show ∀ W, Below w9.heap.size w9 W → (Below w9.heap.size w9 W ∧ W.cell? ⟨w.heap.size, 0, none⟩ = some (.slice A0 p.1.length c0) ∧ W.cell? ⟨w.heap.size, 1, none⟩ = some (.slice A0b p.2.length c0b) ∧ W.cell? ⟨w6.heap.size, 0, none⟩ = some (.slice P4 p.1.length d4) ∧ W.cell? ⟨w6.heap.size, 1, none⟩ = some (.slice P4b p.2.length d4b)) from fun W hW => ⟨hW, (bx0_8.below hW bx0_8_l).cell 0, (bx0_8.below hW bx0_8_l).cell 1, (bxx0_8.below hW bxx0_8_l).cell 0, (bxx0_8.below hW bxx0_8_l).cell 1⟩)
  have RX_w9 := Lib.hid (show RdProg w9 w9.heap.size (.agg #[.slice P4 p.1.length d4, .slice P4b p.2.length d4b]) p from x0_8.rd.more (by omega))
  go_cut [37] (fun s wx => s = .bool false ∧ Below w9.heap.size w9 wx)
  case first =>
    go_region_held3 (fun W => Below w9.heap.size w9 W ∧ W.cell? ⟨w.heap.size, 0, none⟩ = some (.slice A0 p.1.length c0) ∧ W.cell? ⟨w.heap.size, 1, none⟩ = some (.slice A0b p.2.length c0b) ∧ W.cell? ⟨w6.heap.size, 0, none⟩ = some (.slice P4 p.1.length d4) ∧ W.cell? ⟨w6.heap.size, 1, none⟩ = some (.slice P4b p.2.length d4b))
      (first | exact HS_w9.out _ (Below.refl _ _) | exact HS_w9.out _ (Below.refl _ _).drew | exact HS_w9.out _ (bthen (And.left (by assumption)) (by assumption)))
      (first
        | (go_at_call 31; refine (toProgram_own _ p _ ?_ (by omega)).mono ?_; exact H0.out.on (bthen B_w9 (And.left (by assumption))); rintro e wf ⟨Af, cf, Ag, cg, rfl, hof, hbf⟩)
        | (go_at_call 34; refine (eqProgram_any _ _ p p _ ?_ ?_ (by omega) (by omega)).mono ?_; exact (RX_w9.out.on (And.left (by assumption))); exact hof.rd; rw [show decide (p = p) = true by simp]; rintro e wg ⟨rfl, hbg⟩))
    all_goals (go_wp2_with fail; go_meet; exact ⟨rfl, And.left (by assumption)⟩)
  case rest =>
    obtain ⟨rfl, hb7⟩ := hcut
    clear HS_w9 RX_w9
    generalize wc = w10 at *
    have s_w10 := hb7.size
    have bx0_9 := bx0_8.below hb7 (by first | exact bx0_8.lt | omega)
    clear bx0_8
    have bx0_9_l := bx0_9.lt
    have x0_9 := x0_8.below hb7 (by omega)
    clear x0_8
    have bxx0_9 := bxx0_8.below hb7 (by first | exact bxx0_8.lt | omega)
    clear bxx0_8
    have bxx0_9_l := bxx0_9.lt
    have x1_9 := x1_8.below hb7 (by omega)
    clear x1_8
    have B_w10 := bthen B_w9 hb7
    have q19 : w10.cell? ⟨w.heap.size, 0, none⟩ = some (.slice A0 p.1.length c0) := bx0_9.cell 0
    have q20 : w10.cell? ⟨w.heap.size, 1, none⟩ = some (.slice A0b p.2.length c0b) := bx0_9.cell 1
    have q21 : w10.cell? ⟨w6.heap.size, 0, none⟩ = some (.slice P4 p.1.length d4) := bxx0_9.cell 0
    have q22 : w10.cell? ⟨w6.heap.size, 1, none⟩ = some (.slice P4b p.2.length d4b) := bxx0_9.cell 1
    go_wp2_with (fail)
    clear q19 q20 q21 q22
    refine (toIntS_any _ ls _ (H1.out.on B_w10) (by omega)).mono ?_
    rintro e w11 ⟨P8, d8, rfl, o8, hb8⟩
    have s_w11 := hb8.size
    have bx0_10 := bx0_9.below hb8 (by first | exact bx0_9.lt | omega)
    clear bx0_9
    have bx0_10_l := bx0_10.lt
    have x0_10 := x0_9.below hb8 (by omega)
    clear x0_9
    have bxx0_10 := bxx0_9.below hb8 (by first | exact bxx0_9.lt | omega)
    clear bxx0_9
    have bxx0_10_l := bxx0_10.lt
    have x1_10 := x1_9.below hb8 (by omega)
    clear x1_9
    have B_w11 := bthen B_w10 hb8
    have q23 : w11.cell? ⟨w.heap.size, 0, none⟩ = some (.slice A0 p.1.length c0) := bx0_10.cell 0
    have q24 : w11.cell? ⟨w.heap.size, 1, none⟩ = some (.slice A0b p.2.length c0b) := bx0_10.cell 1
    have q25 : w11.cell? ⟨w6.heap.size, 0, none⟩ = some (.slice P4 p.1.length d4) := bxx0_10.cell 0
    have q26 : w11.cell? ⟨w6.heap.size, 1, none⟩ = some (.slice P4b p.2.length d4b) := bxx0_10.cell 1
    go_wp2_with (fail)
    clear q23 q24 q25 q26
    refine (eqIntS_any _ _ ls ls _ (x1_10.rd.more (by omega)) (o8.rd.more (by omega)) (by omega) (by omega)).mono ?_
    rintro e w12 ⟨rfl, hb9⟩
    rw [show decide (ls = ls) = true by simp]
    have s_w12 := hb9.size
    have bx0_11 := bx0_10.below hb9 (by first | exact bx0_10.lt | omega)
    clear bx0_10
    have bx0_11_l := bx0_11.lt
    have x0_11 := x0_10.below hb9 (by omega)
    clear x0_10
    have bxx0_11 := bxx0_10.below hb9 (by first | exact bxx0_10.lt | omega)
    clear bxx0_10
    have bxx0_11_l := bxx0_11.lt
    have x1_11 := x1_10.below hb9 (by omega)
    clear x1_10
    have B_w12 := bthen B_w11 hb9
    have q27 : w12.cell? ⟨w.heap.size, 0, none⟩ = some (.slice A0 p.1.length c0) := bx0_11.cell 0
    have q28 : w12.cell? ⟨w.heap.size, 1, none⟩ = some (.slice A0b p.2.length c0b) := bx0_11.cell 1
    have q29 : w12.cell? ⟨w6.heap.size, 0, none⟩ = some (.slice P4 p.1.length d4) := bxx0_11.cell 0
    have q30 : w12.cell? ⟨w6.heap.size, 1, none⟩ = some (.slice P4b p.2.length d4b) := bxx0_11.cell 1
    go_wp2_with (fail)
    clear q27 q28 q29 q30
    go_ret
    exact ⟨rfl, B_w12⟩

theorem lawLayersFit_in (v0 : Value) (v1 : Value) (p : LProg) (ls : List Int) (w : World) (h0 : InProg w v0 p) (h1 : InInts w v1 ls) (hT : Tab w) : Calls Tryd.prog 6 #[v0, v1] w fun e w' => e = .returned (.bool true) ∧ Below w.heap.size w w' :=
  lawLayersFit_any v0 v1 p ls w h0.1 h1.1 (progLens_in h0.2) hT

end Go.Proofs.YtlehcghdhfeahaaDoor
namespace Go.Proofs.YtlehcghdhfeahaaDoor
open Go.ChangeShapes Go.WideShapes Go.ChangeAt Go.RowKit

set_option maxRecDepth 100000 in
theorem fnExactLayersFit_lifted (os : Os) (started : os.Started) (H : Type) (enc : TypeId × Value → H) :
    ReturnsInHanded {} Tryd.checked os 6 .any (fun w args => (Rows.fnExactLayersFitSpec.pre enc Tryd.prog Tryd.f6 [] false w args ∧ laidMetH Tryd.prog laidTabs w) ∧ sizedMet enc Tryd.prog Tryd.f6 (OpenSpec.ofChange Rows.fnExactLayersFitSpec) false w args) (Rows.fnExactLayersFitSpec.post enc Tryd.prog Tryd.f6 false true false false) := by
  refine returnsInHanded_of_change_and (C := Tryd.checked) (X := fun w _ => laidMetH Tryd.prog laidTabs w) (fun _ _ _ hh h => h.of_heap hh) Tryd.own started (by kernel_rfl) Tryd.func6
    (ChangeSpec.witness_shaped (enc := enc) (C := Tryd.checked) (os := os) (X := fun w _ => laidMetH Tryd.prog laidTabs w) false (World.laidAll Tryd.prog os laidTabs) #[.agg #[.slice none 0 0, .slice none 0 0], .slice none 0 0] 8 (World.laidAll_os _ _ _)
      (World.shaped_of_ZipB (by kernel_rfl) (by kernel_rfl)) (by kernel_rfl) (by kernel_rfl) (by kernel_rfl)
      (by rw [MakeChecks.laidMetH_plain _ _ _ (by kernel_rfl)]; exact laidMet_laidAll _ (by kernel_rfl) (by kernel_rfl))) ?_
  intro W base args ds gs before hval0 hW _ _ hL _
  have hval : ∀ (j : Nat) t v, Tryd.f6.params[j]? = some t → args[j]? = some v → Value.okWide Tryd.prog W .any base t v := hval0
  have hW' := hW
  obtain ⟨p, q, hA0, hV, rfl, hfz, hnd⟩ := hW
  have hA : DataW.TrodAll enc Tryd.prog W 0 (fun _ => true) true Tryd.f6.params.toList args.toList ds p := hA0
  rw [Tryd.params6] at hA hval
  obtain ⟨v0, vs0, d0, ds0, p0, q0, hargs, rfl, rfl, h0, r0⟩ := trodAll_cons hA
  obtain ⟨v1, vs1, d1, ds1, p1, q1, rfl, rfl, rfl, h1, r1⟩ := trodAll_cons r0
  obtain ⟨rfl, rfl, rfl⟩ := trodAll_nil r1
  obtain rfl : args = #[v0, v1] := by cases args; simp_all
  obtain ⟨rfl, rfl⟩ := trodVars_none hV
  have lt0 : ∀ x ∈ p0, x.block < W.heap.size := by obtain ⟨m, hm⟩ := h0; exact DataW.trod_lt m _ _ _ hm
  obtain ⟨x0, w0⟩ := open_inProg (hval 0 47 v0 rfl rfl) h0
  have lt1 : ∀ x ∈ p1, x.block < W.heap.size := by obtain ⟨m, hm⟩ := h1; exact DataW.trod_lt m _ _ _ hm
  obtain ⟨x1, w1⟩ := open_inInts (hval 1 23 v1 rfl rfl) h1
  clear hA0 hval0
  refine (lawLayersFit_in v0 v1 x0 x1 W w0 w1 (tab_of_laid hL)).mono fun e W' ⟨he, bel⟩ => ?_
  subst he
  exact ⟨_, rfl, _, _, _, [], _, [], hW', trodAll_mk1 (shut_bool Tryd.underlying4 _), (trodAll_cons_mk (Below.trod Tryd.laidOut (by kernel_rfl) (of_decide_eq_true (by kernel_rfl)) h0 bel lt0) (trodAll_cons_mk (Below.trod Tryd.laidOut (by kernel_rfl) (of_decide_eq_true (by kernel_rfl)) h1 bel lt1) trodAll_mk0)), rfl, bel.frame _, fun h => by cases h⟩

theorem fnExactLayersFit_holds : Rows.FnExactLayersFitSaid :=
  OpenClaim.holds_of_wide 6 Tryd.f6 rfl rfl rfl rfl rfl rfl rfl ⟨rfl, rfl, rfl, rfl, rfl⟩ rfl rfl rfl rfl rfl (by kernel_rfl) Tryd.func6 (by kernel_rfl)
    (of_decide_eq_true (by kernel_rfl)) (by unfold Func.isWrapper; rw [if_neg (of_decide_eq_false (by kernel_rfl))]; exact ⟨rfl, rfl⟩)
    (fun os started H enc _ => fnExactLayersFit_lifted os started H enc)

theorem fnExactLayersFitCard_holds : Rows.FnExactLayersFitCardSaid :=
  Claim7.holds_tied_plain_at .later [] [.data, .data] true (true, "109c117c52ea79f35ecd8c70d7637fa55fc755f17d1c21179963ded452e57f3d") false fnExactLayersFit_holds (fun _ h => by cases h) (by kernel_rfl) (fun _ h => by cases h) fnExactLayersFit_row_tie rfl ⟨rfl, rfl⟩ (by kernel_rfl) rfl
    (fun f fn hf hfn => by
      obtain rfl : f = 6 := Option.some.inj ((show Tryd.prog.funcNamed "loop.example/wholerules/laws.FnExactLayersFit" = some 6 by kernel_rfl).symm.trans hf) |>.symm
      obtain rfl : fn = Tryd.f6 := (Option.some.inj (Tryd.func6.symm.trans hfn)).symm
      exact ⟨by kernel_rfl, fun j t ht => by
        rw [Tryd.params6] at ht
        have hm : t ∈ [47, 23] := by simpa using Array.mem_of_getElem? ht
        have hall : ([47, 23].all fun u => !Tryd.prog.wantsStandIn u) = true := by kernel_rfl
        exact (show Tryd.prog.wantsStandIn t = false by simpa using List.all_eq_true.1 hall t hm)⟩)
    (by kernel_rfl)

end Go.Proofs.YtlehcghdhfeahaaDoor
