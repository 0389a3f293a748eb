/-
  The walk of the law on FactsWith.
-/
import Derived.Test.YtacfcobfkklnoaaImplWith
import Derived.Test.YtacfcobfkklnoaaEqBig
import Derived.Test.YtacfcobfkklnoaaLawFactsOf
import Derived.Deep.RegionHeld3
import Derived.Deep.DeepCutAuto
import Derived.Deep.RegionWith
namespace Go.Proofs.Ytacfcobfkklnoaa
open Go.RowKit

/-- A slot that holds a list of facts. -/
def HoldsFacts (R : List LFact) (w0 : World) (s : Value) (w : World) : Prop := ∃ A c, s = .slice A R.length c ∧ RdFacts w w.heap.size (.slice A R.length c) R ∧ Below w0.heap.size w0 w

theorem factsWith_bound (fs : List LFact) (f : LFact) : (factsWith fs f).length ≤ fs.length + 1 ∧ tot (factsWith fs f) ≤ tot fs + f.2.length := by
  have h := withTo_bound fs f fs.length (Nat.le_refl _)
  rw [List.take_length] at h
  unfold factsWith
  cases hp : (withTo fs f fs.length).2 <;> simp [hp, tot_append, tot_cons] at h ⊢ <;> simp [tot] at h ⊢ <;> omega

set_option maxHeartbeats 2000000 in
set_option maxRecDepth 100000 in
theorem lawFactsWith_any (v v2 : Value) (fs : List LFact) (f : LFact) (w : World) (h : RdFacts w w.heap.size v fs) (h2 : RdFact w w.heap.size v2 f) (hn : fs.length ≤ 9223372036854775807) (hn' : ∀ k (h : k < fs.length), fs[k].2.length ≤ 9223372036854775807) (hm : f.2.length ≤ 9223372036854775807) :
    Calls Try.prog 9 #[v, v2] w fun e w' => e = .returned (.bool true) ∧ Below w.heap.size w w' := by
  have H := Lib.hid h
  have H2 := Lib.hid h2
  obtain ⟨A, c, rfl, hc, _⟩ := h
  obtain ⟨a, rfl, A2, c2, rfl, hc2, _⟩ := h2
  go_enter Try.func9, Try.ntmps9
  go_wp2_with (fail)
  refine (szFactS_any _ fs _ _ (H.out.on (below1 _ _)) (by omega) (by omega) hn hn').mono ?_
  rintro e w1 ⟨r, rfl, hsz, hb1⟩
  have B1 := bthen (below1 _ _) hb1
  have k0 : Blk w1 w.heap.size 41 #[.int .i64 f.1, .slice A2 f.2.length c2] := (Blk.new w _ _).below hb1 (by simp)
  have c10 : w1.cell? ⟨w.heap.size, 0, none⟩ = some (.int .i64 f.1) := k0.cell 0
  have c11 : w1.cell? ⟨w.heap.size, 1, none⟩ = some (.slice A2 f.2.length c2) := k0.cell 1
  clear hb1
  rcases hsz with rfl | ⟨hr0, hr⟩
  · go_wp2_with (fail)
    go_ret
    exact ⟨rfl, B1⟩
  · have h1 : ¬ r < 0 := by omega
    have hr1 : r ≤ 1048576 := by omega
    have hnf : fs.length ≤ 1048576 := by omega
    have htf : tot fs ≤ 1048576 := by omega
    clear hr
    go_wp2_with (fail)
    refine (szFact_any _ f _ _ (H2.out.on B1) hr0 hr1 hm).mono ?_
    rintro e w2 ⟨rfl, hb2⟩
    have B2 := bthen B1 hb2
    have k02 := k0.below hb2 k0.lt
    clear hb2
    rcases szV_cases r f.2.length with ⟨e3, _⟩ | ⟨e3, e4⟩
    · rw [e3]
      clear e3
      go_wp2_with (fail)
      go_ret
      exact ⟨rfl, B2⟩
    · have h3 : ¬ szV r f.2.length < 0 := by omega
      have hf : f.2.length ≤ 1048576 := by omega
      clear e4 e3
      obtain ⟨R, hR⟩ : ∃ R, R = factsWith fs f := ⟨_, rfl⟩
      have hRb := factsWith_bound fs f
      rw [← hR] at hRb
      have hRn : R.length ≤ 1073741824 := by omega
      have hRt : tot R ≤ 1073741824 := by omega
      have HR := Lib.hid hR
      clear hR hRb
      go_upto_region 8 with fail
      have HS0 := Lib.hid (show ∀ W, Below w2.heap.size w2 W → (Below w2.heap.size w2 W ∧ W.cell? ⟨w.heap.size, 0, none⟩ = some (.int .i64 f.1) ∧ W.cell? ⟨w.heap.size, 1, none⟩ = some (.slice A2 f.2.length c2)) from
        fun W hW => ⟨hW, (k02.below hW k02.lt).cell 0, (k02.below hW k02.lt).cell 1⟩)
      go_cut [6] (fun s6 wx => HoldsFacts R w2 s6 wx)
      case first =>
        go_region_held3 (fun W => Below w2.heap.size w2 W ∧ W.cell? ⟨w.heap.size, 0, none⟩ = some (.int .i64 f.1) ∧ W.cell? ⟨w.heap.size, 1, none⟩ = some (.slice A2 f.2.length c2))
          (first | assumption | exact HS0.out _ (Below.refl _ _) | exact HS0.out _ (Below.refl _ _).drew | exact HS0.out _ (bthen (And.left (by assumption)) (by assumption)))
          (first
            | (go_at_call 34; refine (toFactS_any _ fs _ ?_ hnf htf).mono ?_; exact H.out.on (bthen B2 (And.left (by assumption))); rintro e wi ⟨Ai, ci, rfl, hoi, hbi⟩)
            | (go_at_call 30; refine (toFact_any _ f _ ?_ (by omega)).mono ?_; exact H2.out.on (bthen B2 (And.left (by assumption))); rintro e wf ⟨Af, cf, rfl, hof, hbf⟩)
            | (go_at_call 39; refine (specFactsWith_any _ _ fs f _ ?_ ?_ hnf htf hf).mono ?_; (first | exact hoi.rd | exact hoi.rd.on hbf); (first | exact ⟨_, rfl, hof.rd⟩ | exact ⟨_, rfl, hof.rd.on hbi⟩); rw [← HR.out]; rintro e wg ⟨Ag, cg, rfl, hog, hbg⟩; have HOG := Lib.hid hog; clear hog))
        all_goals (go_wp2_with fail; go_meet; exact ⟨_, _, rfl, HOG.out.rd, And.left (by assumption)⟩)
      case rest =>
        obtain ⟨A9, c9, rfl, W3, hb3⟩ := hcut
        have B3 := bthen B2 hb3
        have k03 := k02.below hb3 k02.lt
        clear hb3 HS0 c10 c11
        have hz3 := B3.size
        have hk3 := k03.lt
        go_wp2_with (fail)
        refine (toFactS_any _ fs _ (H.out.on B3) hnf htf).mono ?_
        rintro e w4 ⟨A4, c4, rfl, hx4, hb4⟩
        have B4 := bthen B3 hb4
        have k04 := k03.below hb4 k03.lt
        have d00 : w4.cell? ⟨w.heap.size, 0, none⟩ = some (.int .i64 f.1) := k04.cell 0
        have d01 : w4.cell? ⟨w.heap.size, 1, none⟩ = some (.slice A2 f.2.length c2) := k04.cell 1
        go_wp2_with (fail)
        refine (toFact_any _ f _ (H2.out.on B4) (by omega)).mono ?_
        rintro e w5 ⟨A5, c5, rfl, ho5, hb5⟩
        have B5 := bthen B4 hb5
        have k05 := k04.below hb5 k04.lt
        have hz4 := hb4.size
        have hz5 := hb5.size
        clear d00 d01
        go_wp2_with (fail)
        obtain ⟨wb, hwb⟩ : ∃ wb, wb = w5.alloc (Obj.cells #[Value.int IntKind.i64 f.1, Value.slice A5 f.2.length c5] 25) := ⟨_, rfl⟩
        have hbb : Below w5.heap.size w5 wb := by rw [hwb]; exact below1 _ _
        have hzb : wb.heap.size = w5.heap.size + 1 := by rw [hwb]; simp
        have xb : Blk wb w5.heap.size 25 #[.int .i64 f.1, .slice A5 f.2.length c5] := by rw [hwb]; exact Blk.new _ _ _
        rw [← hwb]
        clear hwb
        have X0b := (hx4.below hb5 (Nat.le_refl _)).below hbb hz5
        have X1b := ho5.below hbb (Nat.le_refl _)
        have Wb := (W3.below hb4 (Nat.le_refl _)).below (hb5.trans (hbb.mono hz5)) hb4.size
        have Bb := bthen B5 hbb
        have kb := k05.below hbb k05.lt
        have hzb1 := hbb.size
        refine (implFactsWith_any _ _ fs f _ (X0b.rd.more (by omega)) ⟨_, rfl, X1b.rd.more hbb.size⟩ hnf htf hf).mono ?_
        rw [← HR.out]
        rintro e w6 ⟨A6, c6, rfl, hg6, hb6⟩
        have B6 := bthen Bb hb6
        have hz6 := hb6.size
        have W6 := Wb.below hb6 (by omega)
        have X06 := X0b.below hb6 (by omega)
        have X16 := X1b.below hb6 (by omega)
        have x6 := xb.below hb6 xb.lt
        have k06 := kb.below hb6 kb.lt
        go_wp2_with (fail)
        refine (eqFactS_big _ _ R R _ hg6.rd (W6.more (by omega)) hRn hRn hRt hRt).mono ?_
        rintro e w7 ⟨rfl, hb7⟩
        rw [show decide (R = R) = true by simp]
        have B7 := bthen B6 hb7
        go_wp2_with (fail)
        refine (toFactS_any _ fs _ (H.out.on B7) hnf htf).mono ?_
        rintro e w8 ⟨A8, c8, rfl, ho8, hb8⟩
        have h68 := bthen hb7 hb8
        have hz8 := h68.size
        go_wp2_with (fail)
        refine (eqFactS_any _ _ fs fs _ ((X06.below h68 (by omega)).rd.more (by omega)) ho8.rd hnf hnf htf htf).mono ?_
        rintro e w9 ⟨rfl, hb9⟩
        rw [show decide (fs = fs) = true by simp]
        have h69 := bthen h68 hb9
        have B9 := bthen B6 h69
        have hz9 := h69.size
        have W9 := W6.below h69 (by omega)
        have X09 := X06.below h69 (by omega)
        have X19 := X16.below h69 (by omega)
        have G9 := hg6.below h69 (Nat.le_refl _)
        have x9 := x6.below h69 x6.lt
        have k09 := k06.below h69 k06.lt
        go_upto_region 16 with fail
        have HS9 := Lib.hid (show ∀ W, Below w9.heap.size w9 W → (Below w9.heap.size w9 W ∧ W.cell? ⟨w.heap.size, 0, none⟩ = some (.int .i64 f.1) ∧ W.cell? ⟨w.heap.size, 1, none⟩ = some (.slice A2 f.2.length c2) ∧ W.cell? ⟨w5.heap.size, 0, none⟩ = some (.int .i64 f.1) ∧ W.cell? ⟨w5.heap.size, 1, none⟩ = some (.slice A5 f.2.length c5)) from
          fun W hW => ⟨hW, (k09.below hW k09.lt).cell 0, (k09.below hW k09.lt).cell 1, (x9.below hW x9.lt).cell 0, (x9.below hW x9.lt).cell 1⟩)
        go_region_held3 (fun W => Below w9.heap.size w9 W ∧ W.cell? ⟨w.heap.size, 0, none⟩ = some (.int .i64 f.1) ∧ W.cell? ⟨w.heap.size, 1, none⟩ = some (.slice A2 f.2.length c2) ∧ W.cell? ⟨w5.heap.size, 0, none⟩ = some (.int .i64 f.1) ∧ W.cell? ⟨w5.heap.size, 1, none⟩ = some (.slice A5 f.2.length c5))
          (first | assumption | exact HS9.out _ (Below.refl _ _) | exact HS9.out _ (Below.refl _ _).drew | exact HS9.out _ (bthen (And.left (by assumption)) (by assumption)))
          (first
            | (go_at_call 30; refine (toFact_any _ f _ ?_ (by omega)).mono ?_; exact H2.out.on (bthen B9 (And.left (by assumption))); rintro e wf2 ⟨Af2, cf2, rfl, hof2, hbf2⟩)
            | (go_at_call 31; refine (eqFact_any _ _ f f _ ?_ ?_ (by omega) (by omega)).mono ?_; exact ⟨_, rfl, (X19.rd.more (by omega)).on (And.left (by assumption))⟩; exact ⟨_, rfl, hof2.rd⟩; rw [show decide (f = f) = true by simp]; rintro e wg2 ⟨rfl, hbg2⟩))
        obtain ⟨w10, hb10, hw10⟩ : ∃ w10, Below w9.heap.size w9 w10 ∧ w10 = wg2 := ⟨wg2, And.left (by assumption), rfl⟩
        rw [← hw10]
        clear hw10 HS9
        have B10 := bthen B9 hb10
        have hz10 := hb10.size
        have W10 := W9.below hb10 (by omega)
        have X010 := X09.below hb10 (by omega)
        have X110 := X19.below hb10 (by omega)
        have G10 := G9.below hb10 (by omega)
        have x10 := x9.below hb10 x9.lt
        have k10 := k09.below hb10 k09.lt
        go_wp2_with (fail)
        refine (markFactS_any _ fs 1 wc.heap.size w4.heap.size _ X010 (by omega) (by omega) (by omega) (by omega)).mono ?_
        rintro e w11 ⟨rfl, _, on11⟩
        have B11 := Only.then_ B10 on11 hz3
        have hz11 := on11.size
        have G11 := G10.only on11 (.inr (by omega))
        have W11 := W10.only on11 (by omega) (by omega)
        have X111 := X110.only on11 (.inr (by omega))
        have x11 := on11.blk x10 (.inr (by omega))
        have k11 := on11.blk k10 (.inl (by omega))
        have j0 : w11.cell? ⟨w5.heap.size, 0, none⟩ = some (.int .i64 f.1) := x11.cell 0
        have j1 : w11.cell? ⟨w5.heap.size, 1, none⟩ = some (.slice A5 f.2.length c5) := x11.cell 1
        have hE : 0 ≤ endF 1 fs ∧ endF 1 fs ≤ 8589934592 := by unfold endF; omega
        obtain ⟨hE0, hE1⟩ := hE
        go_wp2_with (fail)
        refine (markFact_any _ f (endF 1 fs) w4.heap.size w5.heap.size _ X111 (by omega) hE0 hE1 (by omega)).mono ?_
        rintro e w12 ⟨rfl, on12⟩
        have B12 := Only.then_ B11 on12 (by omega)
        have hz12 := on12.size
        have G12 := G11.only on12 (.inr (by omega))
        have W12 := W11.only on12 (by omega) (by omega)
        have k12 := on12.blk k11 (.inl (by omega))
        have hk0 : ¬ endF 1 fs + (f.2.length : Int) < 0 := by omega
        have hkd : decide (endF 1 fs + (f.2.length : Int) < 0) = false := by simpa using hk0
        clear j0 j1
        go_wp2_with (fail)
        refine (eqFactS_big _ _ R R _ (G12.rd.more (by omega)) (W12.more (by omega)) hRn hRn hRt hRt).mono ?_
        rintro e w13 ⟨rfl, hb13⟩
        rw [show decide (R = R) = true by simp]
        have B13 := bthen B12 hb13
        have hz13 := hb13.size
        have G13 := G12.below hb13 (by omega)
        have W13 := W12.below hb13 (by omega)
        have k13 := k12.below hb13 k12.lt
        go_wp2_with (fail)
        refine (markFactS_any _ R 1 wb.heap.size w6.heap.size _ G13 (by omega) (by omega) (by omega) (by omega)).mono ?_
        rintro e w14 ⟨rfl, G14, on14⟩
        have B14 := Only.then_ B13 on14 (by omega)
        have hz14 := on14.size
        have W14 := W13.only on14 (by omega) (by omega)
        have k14 := on14.blk k13 (.inl (by omega))
        have hm0 : ¬ endF 1 R < 0 := by unfold endF; omega
        have hmm : (endF 1 R != endF 1 R) = false := by simp
        go_wp2_with (fail)
        refine (heldFactS_any _ R 1 _ (G14.rd.more (show w6.heap.size ≤ w14.heap.size by omega)) (by omega) (by omega) (by omega) (by omega)).mono ?_
        rintro e w15 ⟨rfl, rfl⟩
        go_upto_region 31 with fail
        have HS14 := Lib.hid (show ∀ W, Below w14.heap.size w14 W → (Below w14.heap.size w14 W ∧ W.cell? ⟨w.heap.size, 0, none⟩ = some (.int .i64 f.1) ∧ W.cell? ⟨w.heap.size, 1, none⟩ = some (.slice A2 f.2.length c2)) from
          fun W hW => ⟨hW, (k14.below hW k14.lt).cell 0, (k14.below hW k14.lt).cell 1⟩)
        go_cut [13] (fun s13 wx => HoldsFacts R w14 s13 wx)
        case first =>
          go_region_held3 (fun W => Below w14.heap.size w14 W ∧ W.cell? ⟨w.heap.size, 0, none⟩ = some (.int .i64 f.1) ∧ W.cell? ⟨w.heap.size, 1, none⟩ = some (.slice A2 f.2.length c2))
            (first | assumption | exact HS14.out _ (Below.refl _ _) | exact HS14.out _ (Below.refl _ _).drew | exact HS14.out _ (bthen (And.left (by assumption)) (by assumption)))
            (first
              | (go_at_call 34; refine (toFactS_any _ fs _ ?_ hnf htf).mono ?_; exact H.out.on (bthen B14 (And.left (by assumption))); rintro e wi ⟨Ai, ci, rfl, hoi, hbi⟩)
              | (go_at_call 30; refine (toFact_any _ f _ ?_ (by omega)).mono ?_; exact H2.out.on (bthen B14 (And.left (by assumption))); rintro e wf ⟨Af, cf, rfl, hof, hbf⟩)
              | (go_at_call 40; refine (implFactsWith_any _ _ fs f _ ?_ ?_ hnf htf hf).mono ?_; (first | exact hoi.rd | exact hoi.rd.on hbf); (first | exact ⟨_, rfl, hof.rd⟩ | exact ⟨_, rfl, hof.rd.on hbi⟩); rw [← HR.out]; rintro e wg ⟨Ag, cg, rfl, hog, hbg⟩; have HOG := Lib.hid hog; clear hog))
          all_goals (go_wp2_with fail; go_meet; exact ⟨_, _, rfl, HOG.out.rd, And.left (by assumption)⟩)
        case rest =>
          obtain ⟨A16, c16, rfl, W16, hb16⟩ := hcut
          have B16 := bthen B14 hb16
          have hz16 := hb16.size
          have Wz := W14.below hb16 (by omega)
          have G16 := G14.below hb16 (by omega)
          go_wp2_with (fail)
          refine (eqFactS_big _ _ R R _ W16 (Wz.more (by omega)) hRn hRn hRt hRt).mono ?_
          rintro e w17 ⟨rfl, hb17⟩
          rw [show decide (R = R) = true by simp]
          have B17 := bthen B16 hb17
          have hz17 := hb17.size
          have G17 := G16.below hb17 (by omega)
          go_wp2_with (fail)
          refine (heldFactS_any _ R 1 _ (G17.rd.more (show w6.heap.size ≤ w17.heap.size by omega)) (by omega) (by omega) (by omega) (by omega)).mono ?_
          rintro e w18 ⟨rfl, rfl⟩
          go_wp2_with (fail)
          go_ret
          exact ⟨rfl, B17⟩

theorem lawFactsWith_in (v v2 : Value) (fs : List LFact) (f : LFact) (w : World) (h : InFacts w v fs) (h2 : InFact w v2 f) : Calls Try.prog 9 #[v, v2] w fun e w' => e = .returned (.bool true) ∧ Below w.heap.size w w' :=
  lawFactsWith_any v v2 fs f w h.1 h2.1 (by have := h.2.1; unfold maxLen at this; omega) (fun k hk => by have := h.2.2 k hk; unfold maxLen at this; omega) (by have := h2.2; unfold maxLen at this; omega)

end Go.Proofs.Ytacfcobfkklnoaa
