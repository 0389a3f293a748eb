/-
  The walk of the program's AllFacts.
-/
import Derived.Test.YtdclfcjbadgmfaaSpecAll
namespace Go.Proofs.Ytdclfcjbadgmfaa
open Go.RowKit

theorem allTo_at {p : Int} {q m k : Nat} (h : k < (allTo p q m).length) : (allTo p q m)[k] = (p, digits k q) := by simp [allTo]

set_option maxHeartbeats 2000000 in
set_option maxRecDepth 100000 in
theorem implAllFacts_no (p q : Int) (w : World) (h : allOk p q = false) :
    Calls Try.prog 14 #[.int .i64 p, .int .i64 q] w fun e w' => e = .returned (.slice none 0 0) ∧ w = w' := by
  by_cases h1 : p < 0
  · have d1 : decide (p < 0) = true := by simpa using h1
    go_enter Try.func14, Try.ntmps14
    go_wp2_with (fail)
    go_ret
    exact ⟨rfl, rfl⟩
  · have d1 : decide (p < 0) = false := by simpa using h1
    by_cases h2 : 24 ≤ p
    · have d2 : decide (24 ≤ p) = true := by simpa using h2
      go_enter Try.func14, Try.ntmps14
      go_wp2_with (fail)
      go_ret
      exact ⟨rfl, rfl⟩
    · have d2 : decide (24 ≤ p) = false := by simpa using h2
      by_cases h3 : q < 0
      · have d3 : decide (q < 0) = true := by simpa using h3
        go_enter Try.func14, Try.ntmps14
        go_wp2_with (fail)
        go_ret
        exact ⟨rfl, rfl⟩
      · have d3 : decide (q < 0) = false := by simpa using h3
        have h4 : 2 < q := by
          simp [allOk] at h
          omega
        have d4 : decide (2 < q) = true := by simpa using h4
        clear h
        go_enter Try.func14, Try.ntmps14
        go_wp2_with (fail)
        go_ret
        exact ⟨rfl, rfl⟩

set_option maxHeartbeats 2000000 in
set_option maxRecDepth 100000 in
theorem implAllFacts_any (p q : Int) (w : World) :
    Calls Try.prog 14 #[.int .i64 p, .int .i64 q] w fun e w' => ∃ A' c', e = .returned (.slice A' (allFacts p q).length c') ∧ OwnFacts w' w.heap.size w'.heap.size (.slice A' (allFacts p q).length c') (allFacts p q) ∧ Below w.heap.size w w' := by
  by_cases hok : allOk p q = false
  · refine (implAllFacts_no p q w hok).mono ?_
    rintro e w' ⟨rfl, rfl⟩
    have hE : allFacts p q = [] := by unfold allFacts; rw [hok]; rfl
    rw [hE]
    exact ⟨none, 0, rfl, (ColRel.nil w).own.own, Below.refl _ _⟩
  · have hb : 0 ≤ p ∧ p ≤ 23 ∧ 0 ≤ q ∧ q ≤ 2 := by
      simp [allOk] at hok
      omega
    obtain ⟨hp0, hp1, hq0, hq1⟩ := hb
    have HK := Lib.hid (show allOk p q = true by simpa using hok)
    clear hok
    obtain ⟨n, rfl⟩ := Int.eq_ofNat_of_zero_le hq0
    have hn2 : n ≤ 2 := by omega
    have HR := Lib.hid (show allFacts p (n : Int) = allTo p n (6 ^ n) by unfold allFacts; rw [HK.out]; simp)
    have d1 : decide (p < 0) = false := by simp; omega
    have d2 : decide (24 ≤ p) = false := by simp; omega
    obtain ⟨i0, hi0, hz0, hz1, hz2⟩ := info_parts Try.infoFact
    have hmk := fun (t : Nat) (ht : t ≤ 36) (W : World) => run_make_rowN (P := Try.prog) 31 25 i0 (.agg #[.int .i64 0, .slice none 0 0]) Try.underlying31 hi0 hz0 .i64 .i64 t t (Nat.le_refl _) (by rw [hz2]; omega) (by omega) W
    rw [hz1] at hmk
    simp only [Value.cells] at hmk
    have HMK := Lib.hid hmk
    clear hmk
    go_enter Try.func14, Try.ntmps14
    go_wp2_with (fail)
    go_loop [5, 23] (fun m i => ∃ j : Nat, j ≤ n ∧ i = .int .i64 j ∧ m = .int .i64 ((6 ^ j : Nat) : Int)) (fun _ i => n - (intOf i).toNat)
    case atStart => exact ⟨0, Nat.zero_le _, rfl, rfl⟩
    case round =>
      obtain ⟨j, hj, rfl, rfl⟩ := hrel
      by_cases hlt : j < n
      · have h6 : (6 : Nat) ^ j ≤ 36 := Nat.pow_le_pow_right (by decide) (show j ≤ 2 by omega)
        obtain ⟨t, ht⟩ : ∃ t, t = 6 ^ j := ⟨_, rfl⟩
        have HT := Lib.hid (show t * 6 = 6 ^ (j + 1) by rw [ht, Nat.pow_succ])
        rw [← ht] at h6 ⊢
        clear ht
        go_wp2_with (fail)
        go_round
        case rel => exact ⟨j + 1, by omega, by go_num, by rw [← HT.out]; go_num⟩
        case measure => simp [intOf]; omega
      · have hjn : j = n := by omega
        subst hjn
        obtain ⟨t, ht⟩ : ∃ t, t = 6 ^ j := ⟨_, rfl⟩
        have h6 : t ≤ 36 := by rw [ht]; exact Nat.pow_le_pow_right (by decide) hn2
        rw [← ht] at HR ⊢
        clear ht
        have hmk := HMK.out t h6
        go_wp2_with (fail)
        have hl := allTo_length p j t
        obtain ⟨fs, hfs⟩ : ∃ fs, fs = allTo p j t := ⟨_, rfl⟩
        rw [← hfs] at hl HR
        have HFS := Lib.hid hfs
        clear hfs hmk
        subst hl
        go_loopw [7, 32] (fun _ i wr => ∃ (k : Nat) (av : List Value), k ≤ fs.length ∧ i = .int .i64 k ∧ ToRel w wr fs k av) (fun _ i _ => fs.length - (intOf i).toNat)
        case atStart => exact ⟨0, [], Nat.zero_le _, rfl, ToRel.start w fs⟩
        case round =>
          obtain ⟨k, av, hk, rfl, hr⟩ := hrel
          by_cases hlt : k < fs.length
          · have HA := Lib.hid (show fs[k] = (p, digits k j) by
              have e := HFS.out
              have := allTo_at (p := p) (q := j) (m := fs.length) (k := k) (by rw [allTo_length]; exact hlt)
              simpa [← e] using this)
            go_wp2_with (fail)
            refine (constantDigits_any k j _ (by omega) hn2).mono ?_
            rintro e w4 ⟨A4, c4, rfl, ho4, hb4⟩
            obtain ⟨r1, r2, r3, r4⟩ := hr.room hlt hb4
            have hstep := hr.step hlt hb4 (a := .slice A4 j c4) (by rw [HA.out]; exact ho4)
            rw [HA.out] at hstep
            go_wp2_with (fail)
            go_roundw
            case rel => exact ⟨k + 1, _, by omega, by go_num, hstep⟩
            case measure => simp [intOf]; omega
          · have hkn : k = fs.length := by omega
            have HO := Lib.hid (show OwnFacts wr w.heap.size wr.heap.size (.slice (some ⟨w.heap.size, 0, none⟩) fs.length fs.length) fs from ToRel.done (by rw [← hkn]; exact hr) (by unfold maxLen; omega))
            have hbe := hr.below
            clear hkn hr
            go_wp2_with (fail)
            go_ret
            rw [HR.out]
            exact ⟨_, _, rfl, HO.out, hbe⟩

end Go.Proofs.Ytdclfcjbadgmfaa
