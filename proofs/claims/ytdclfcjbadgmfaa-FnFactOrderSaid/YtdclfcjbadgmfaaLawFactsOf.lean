/-
  The walk of the law on FactsOf.
-/
import Derived.Test.YtdclfcjbadgmfaaImplFactsOf
import Derived.Test.YtdclfcjbadgmfaaOpenInt
namespace Go.Proofs.Ytdclfcjbadgmfaa
open Go.RowKit

theorem tot_filter_le (q : LFact → Bool) : ∀ fs : List LFact, tot (fs.filter q) ≤ tot fs
  | [] => Nat.le_refl _
  | f :: fs => by
    have := tot_filter_le q fs
    cases hq : q f
    · rw [List.filter_cons_of_neg (by simp [hq]), tot_cons]; omega
    · rw [List.filter_cons_of_pos (by simp [hq]), tot_cons, tot_cons]; omega
/-- What is read below a row that alone is written stays read. -/
theorem RdFacts.only {w w' : World} {lo hi B : Nat} {v : Value} {fs : List LFact} (h : RdFacts w B v fs) (ho : Only lo hi w w') (hB : B ≤ lo) (hs : B ≤ w.heap.size) : RdFacts w' B v fs := h.below (ho.below hB hs) (Nat.le_refl _)

set_option maxHeartbeats 1000000 in
set_option maxRecDepth 100000 in
theorem lawFactsOf_any (v : Value) (fs : List LFact) (p : Int) (w : World) (h : RdFacts w w.heap.size v fs) (hn : fs.length ≤ 9223372036854775807) (hn' : ∀ k (h : k < fs.length), fs[k].2.length ≤ 9223372036854775807) :
    Calls Try.prog 9 #[v, .int .i64 p] w fun e w' => e = .returned (.bool true) ∧ Below w.heap.size w w' := by
  have H := Lib.hid h
  obtain ⟨A, c, rfl, hc, _⟩ := h
  go_enter Try.func9, Try.ntmps9
  go_wp2_with (fail)
  refine (szFactS_any _ fs _ _ H.out (by omega) (by omega) hn hn').mono ?_
  rintro e w1 ⟨r, rfl, hsz, B1⟩
  rcases hsz with rfl | ⟨hr0, hr1⟩
  · go_wp2_with (fail)
    go_ret
    exact ⟨rfl, B1⟩
  · have h1 : ¬ r < 0 := by omega
    have hnf : fs.length ≤ 1048576 := by omega
    have htf : tot fs ≤ 1048576 := by omega
    clear hr1
    obtain ⟨R, hR⟩ : ∃ R, R = factsOf fs p := ⟨_, rfl⟩
    have hRn : R.length ≤ 1048576 := by rw [hR]; have := List.length_filter_le (fun f : LFact => f.1 == p) fs; unfold factsOf; omega
    have hRt : tot R ≤ 1048576 := by rw [hR]; have := tot_filter_le (fun f : LFact => f.1 == p) fs; unfold factsOf; omega
    have HR := Lib.hid hR
    clear hR
    go_wp2_with (fail)
    refine (toFactS_any _ fs _ (H.out.on B1) hnf htf).mono ?_
    rintro e w2 ⟨A2, c2, rfl, ho2, hb2⟩
    have B2 := bthen B1 hb2
    go_wp2_with (fail)
    refine (specFactsOf_any _ fs p _ ho2.rd hnf htf).mono ?_
    rw [← HR.out]
    rintro e w3 ⟨A3, c3, rfl, ho3, hb3⟩
    have B3 := bthen B2 hb3
    have W0 := ho3.rd
    go_wp2_with (fail)
    refine (toFactS_any _ fs _ (H.out.on B3) hnf htf).mono ?_
    rintro e w4 ⟨A4, c4, rfl, hx4, hb4⟩
    have B4 := bthen B3 hb4
    go_wp2_with (fail)
    refine (implFactsOf_any _ fs p _ hx4.rd hnf htf).mono ?_
    rw [← HR.out]
    rintro e w5 ⟨A5, c5, rfl, hg5, hb5⟩
    have B5 := bthen B4 hb5
    have W5 := W0.below (hb4.trans (hb5.mono hb4.size)) (Nat.le_refl _)
    have X5 := hx4.below hb5 (Nat.le_refl _)
    go_wp2_with (fail)
    refine (eqFactS_any _ _ R R _ hg5.rd (W5.more (Nat.le_trans hb4.size hb5.size)) hRn hRn hRt hRt).mono ?_
    rintro e w6 ⟨rfl, hb6⟩
    rw [show decide (R = R) = true by simp]
    have B6 := bthen B5 hb6
    go_wp2_with (fail)
    refine (toFactS_any _ fs _ (H.out.on B6) hnf htf).mono ?_
    rintro e w7 ⟨A7, c7, rfl, ho7, hb7⟩
    have B7 := bthen B6 hb7
    have h57 := bthen hb6 hb7
    have X7 := X5.below h57 hb5.size
    go_wp2_with (fail)
    refine (eqFactS_any _ _ fs fs _ (X7.rd.more (by have := hb5.size; have := h57.size; omega)) ho7.rd hnf hnf htf htf).mono ?_
    rintro e w8 ⟨rfl, hb8⟩
    rw [show decide (fs = fs) = true by simp]
    have B8 := bthen B7 hb8
    have h58 := bthen h57 hb8
    have X8 := X5.below h58 hb5.size
    have G8 := hg5.below h58 (Nat.le_refl _)
    have W8 := W5.below h58 (by have := hb4.size; have := hb5.size; omega)
    go_wp2_with (fail)
    refine (markFactS_any _ fs 1 w3.heap.size w4.heap.size _ X8 (by omega) (by omega) (by omega) (by omega)).mono ?_
    rintro e w9 ⟨rfl, _, on9⟩
    have hz3 := B3.size
    have hz4 := hb4.size
    have hz5 := hb5.size
    have hz8 := h58.size
    have B9 := Only.then_ B8 on9 hz3
    have G9 := G8.only on9 (.inr (Nat.le_refl _))
    have W9 := W8.only on9 (Nat.le_refl _) (by omega)
    have hz9 := on9.size
    have hk9 : ¬ endF 1 fs < 0 := by unfold endF; omega
    have hd9 : decide (endF 1 fs < 0) = false := by simpa using hk9
    go_wp2_with (fail)
    refine (eqFactS_any _ _ R R _ (G9.rd.more (by omega)) (W9.more (by omega)) hRn hRn hRt hRt).mono ?_
    rintro e w10 ⟨rfl, hb10⟩
    rw [show decide (R = R) = true by simp]
    have B10 := bthen B9 hb10
    have G10 := G9.below hb10 (by omega)
    have W10 := W9.below hb10 (by omega)
    have hz10 := hb10.size
    go_wp2_with (fail)
    refine (markFactS_any _ R 1 w4.heap.size w5.heap.size _ G10 (by omega) (by omega) (by omega) (by omega)).mono ?_
    rintro e w11 ⟨rfl, G11, on11⟩
    have B11 := Only.then_ B10 on11 (by omega)
    have W11 := W10.only on11 (by omega) (by omega)
    have hz11 := on11.size
    have hm0 : ¬ endF 1 R < 0 := by unfold endF; omega
    have hmm : (endF 1 R != endF 1 R) = false := by simp
    go_wp2_with (fail)
    refine (heldFactS_any _ R 1 _ (G11.rd.more (show w5.heap.size ≤ w11.heap.size by omega)) (by omega) (by omega) (by omega) (by omega)).mono ?_
    rintro e w12 ⟨rfl, rfl⟩
    go_wp2_with (fail)
    refine (toFactS_any _ fs _ (H.out.on B11) hnf htf).mono ?_
    rintro e w13 ⟨A13, c13, rfl, ho13, hb13⟩
    have B13 := bthen B11 hb13
    go_wp2_with (fail)
    refine (implFactsOf_any _ fs p _ ho13.rd hnf htf).mono ?_
    rw [← HR.out]
    rintro e w14 ⟨A14, c14, rfl, ho14, hb14⟩
    have B14 := bthen B13 hb14
    have h1114 := bthen hb13 hb14
    have W14 := W11.below h1114 (by omega)
    have G14 := G11.below h1114 (by omega)
    have hz14 := h1114.size
    go_wp2_with (fail)
    refine (eqFactS_any _ _ R R _ ho14.rd (W14.more (by omega)) hRn hRn hRt hRt).mono ?_
    rintro e w15 ⟨rfl, hb15⟩
    rw [show decide (R = R) = true by simp]
    have B15 := bthen B14 hb15
    have G15 := G14.below hb15 (by omega)
    have hz15 := hb15.size
    go_wp2_with (fail)
    refine (heldFactS_any _ R 1 _ (G15.rd.more (show w5.heap.size ≤ w15.heap.size by omega)) (by omega) (by omega) (by omega) (by omega)).mono ?_
    rintro e w16 ⟨rfl, rfl⟩
    go_wp2_with (fail)
    go_ret
    exact ⟨rfl, B15⟩

theorem lawFactsOf_in (v v2 : Value) (fs : List LFact) (p : Int) (w : World) (h : InFacts w v fs) (h2 : InInt v2 p) : Calls Try.prog 9 #[v, v2] w fun e w' => e = .returned (.bool true) ∧ Below w.heap.size w w' := by
  obtain ⟨rfl, _⟩ := h2
  exact lawFactsOf_any v fs p w h.1 (by have := h.2.1; unfold maxLen at this; omega) (fun k hk => by have := h.2.2 k hk; unfold maxLen at this; omega)

end Go.Proofs.Ytdclfcjbadgmfaa
