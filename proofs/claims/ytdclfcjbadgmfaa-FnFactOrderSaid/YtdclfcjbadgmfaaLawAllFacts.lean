/-
  The walk of the law on AllFacts.
-/
import Derived.Test.YtdclfcjbadgmfaaImplAll
import Derived.Test.YtdclfcjbadgmfaaEqBig
import Derived.Test.YtdclfcjbadgmfaaLawFactsOf
namespace Go.Proofs.Ytdclfcjbadgmfaa
open Go.RowKit

theorem allFacts_bound (p q : Int) : (allFacts p q).length ≤ 36 ∧ tot (allFacts p q) ≤ 72 := by
  unfold allFacts
  by_cases h : allOk p q = true
  · rw [if_pos h, allTo_length, allTo_tot]
    have hq : 0 ≤ q ∧ q ≤ 2 := by
      simp [allOk] at h
      omega
    obtain ⟨n, rfl⟩ := Int.eq_ofNat_of_zero_le hq.1
    have hn : n ≤ 2 := by omega
    rw [Int.toNat_natCast]
    match n, hn with
    | 0, _ => decide
    | 1, _ => decide
    | 2, _ => decide
  · rw [if_neg h]
    simp [tot]

set_option maxHeartbeats 1000000 in
set_option maxRecDepth 100000 in
theorem lawAllFacts_any (p q : Int) (w : World) :
    Calls Try.prog 10 #[.int .i64 p, .int .i64 q] w fun e w' => e = .returned (.bool true) ∧ Below w.heap.size w w' := by
  obtain ⟨R, hR⟩ : ∃ R, R = allFacts p q := ⟨_, rfl⟩
  have hRb := allFacts_bound p q
  rw [← hR] at hRb
  have hRn : R.length ≤ 1048576 := by omega
  have hRt : tot R ≤ 1048576 := by omega
  have HR := Lib.hid hR
  clear hR hRb
  go_enter Try.func10, Try.ntmps10
  go_wp2_with (fail)
  refine (specAllFacts_any p q _).mono ?_
  rw [← HR.out]
  rintro e w1 ⟨A1, c1, rfl, ho1, B1⟩
  go_wp2_with (fail)
  refine (implAllFacts_any p q _).mono ?_
  rw [← HR.out]
  rintro e w2 ⟨A2, c2, rfl, hg2, hb2⟩
  have B2 := bthen B1 hb2
  have hz1 := B1.size
  have hz2 := hb2.size
  have W2 := ho1.rd.below hb2 (Nat.le_refl _)
  go_wp2_with (fail)
  refine (eqFactS_any _ _ R R _ hg2.rd (W2.more hz2) hRn hRn hRt hRt).mono ?_
  rintro e w3 ⟨rfl, hb3⟩
  rw [show decide (R = R) = true by simp]
  have B3 := bthen B2 hb3
  have hz3 := hb3.size
  have G3 := hg2.below hb3 (Nat.le_refl _)
  have W3 := W2.below hb3 hz2
  go_wp2_with (fail)
  refine (markFactS_any _ R 1 w1.heap.size w2.heap.size _ G3 (by omega) (by omega) (by omega) (by omega)).mono ?_
  rintro e w4 ⟨rfl, G4, on4⟩
  have B4 := Only.then_ B3 on4 hz1
  have hz4 := on4.size
  have W4 := W3.only on4 (Nat.le_refl _) (by omega)
  have hm0 : ¬ endF 1 R < 0 := by unfold endF; omega
  have hmm : (endF 1 R != endF 1 R) = false := by simp
  go_wp2_with (fail)
  refine (heldFactS_any _ R 1 _ (G4.rd.more (show w2.heap.size ≤ w4.heap.size by omega)) (by omega) (by omega) (by omega) (by omega)).mono ?_
  rintro e w5 ⟨rfl, rfl⟩
  go_wp2_with (fail)
  refine (implAllFacts_any p q _).mono ?_
  rw [← HR.out]
  rintro e w6 ⟨A6, c6, rfl, ho6, hb6⟩
  have B6 := bthen B4 hb6
  have hz6 := hb6.size
  have W6 := W4.below hb6 (by omega)
  have G6 := G4.below hb6 (by omega)
  go_wp2_with (fail)
  refine (eqFactS_any _ _ R R _ ho6.rd (W6.more (by omega)) hRn hRn hRt hRt).mono ?_
  rintro e w7 ⟨rfl, hb7⟩
  rw [show decide (R = R) = true by simp]
  have B7 := bthen B6 hb7
  have hz7 := hb7.size
  have G7 := G6.below hb7 (by omega)
  go_wp2_with (fail)
  refine (heldFactS_any _ R 1 _ (G7.rd.more (show w2.heap.size ≤ w7.heap.size by omega)) (by omega) (by omega) (by omega) (by omega)).mono ?_
  rintro e w8 ⟨rfl, rfl⟩
  go_wp2_with (fail)
  go_ret
  exact ⟨rfl, B7⟩

theorem lawAllFacts_in (v v2 : Value) (p q : Int) (w : World) (h : InInt v p) (h2 : InInt v2 q) : Calls Try.prog 10 #[v, v2] w fun e w' => e = .returned (.bool true) ∧ Below w.heap.size w w' := by
  obtain ⟨rfl, _⟩ := h
  obtain ⟨rfl, _⟩ := h2
  exact lawAllFacts_any p q w

end Go.Proofs.Ytdclfcjbadgmfaa
