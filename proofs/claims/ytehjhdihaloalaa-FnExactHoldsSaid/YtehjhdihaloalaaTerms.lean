/-
  The walks of isTerm, areTerms, l2Terms.
-/
import Derived.Test.YtehjhdihaloalaaVars
import Derived.Test.YtehjhdihaloalaaL1In
import Derived.StillTailTactics
import Derived.Deep.QuietTactic
import Derived.BigQuiet
namespace Go.Proofs.Ytehjhdihaloalaa
open Go.RowKit

theorem isTerm_any (n : Int) (w : World) : Calls Try.prog 105 #[.int .i64 n] w fun e w' => e = .returned (.bool (termOk n)) ∧ w = w' := by
  by_cases h1 : isVarB n = true
  · have HE := Lib.hid (show termOk n = true by simp [isVarB] at h1; simp [termOk]; omega)
    go_enter Try.func105, Try.ntmps105
    go_wp2_with (go_at_call 121; refine (isVar_is h1 _).mono ?_; rintro e w' ⟨rfl, rfl⟩)
    go_ret
    exact ⟨ret_bool HE.out.symm, rfl⟩
  · have h2 : isVarB n = false := by simpa using h1
    by_cases h3 : 0 ≤ n
    · have hd : decide (0 ≤ n) = true := by simpa using h3
      by_cases h4 : n ≤ 5
      · have HE := Lib.hid (show termOk n = true by simp [termOk]; omega)
        go_enter Try.func105, Try.ntmps105
        go_wp2_with (go_at_call 121; refine (isVar_is h2 _).mono ?_; rintro e w' ⟨rfl, rfl⟩)
        go_ret
        exact ⟨ret_bool HE.out.symm, rfl⟩
      · have HE := Lib.hid (show termOk n = false by simp [termOk]; omega)
        go_enter Try.func105, Try.ntmps105
        go_wp2_with (go_at_call 121; refine (isVar_is h2 _).mono ?_; rintro e w' ⟨rfl, rfl⟩)
        go_ret
        exact ⟨ret_bool (by rw [HE.out]; simp; omega), rfl⟩
    · have hd : decide (0 ≤ n) = false := by simpa using h3
      have HE := Lib.hid (show termOk n = false by simp [isVarB] at h2; simp [termOk]; omega)
      go_enter Try.func105, Try.ntmps105
      go_wp2_with (go_at_call 121; refine (isVar_is h2 _).mono ?_; rintro e w' ⟨rfl, rfl⟩)
      go_ret
      exact ⟨ret_bool HE.out.symm, rfl⟩

theorem isTerm_is {n : Int} {b : Bool} (h : termOk n = b) (w : World) : Calls Try.prog 105 #[.int .i64 n] w fun e w' => e = .returned (.bool b) ∧ w = w' := h ▸ isTerm_any n w

set_option maxHeartbeats 400000 in
theorem areTerms_any (v : Value) (xs : List Int) (B : Nat) (w : World) (h : RdInts w B v xs) (hr : xs.length ≤ 1048576) :
    Calls Try.prog 78 #[v] w fun e w' => e = .returned (.bool (xs.all termOk)) ∧ w = w' := by
  obtain ⟨A, c, rfl, hc, ha⟩ := h
  go_enter Try.func78, Try.ntmps78
  go_wp2_with (fail)
  go_loop [4, 7] (fun _ i => ∃ k : Nat, k ≤ xs.length ∧ i = .int .i64 k ∧ AllTo termOk xs k) (fun _ i => xs.length - (intOf i).toNat)
  case atStart => exact ⟨0, Nat.zero_le _, rfl, AllTo.start⟩
  case round =>
    obtain ⟨k, hk, rfl, hs⟩ := hrel
    by_cases hlt : k < xs.length
    · obtain ⟨b, o, rfl, hbB, hx⟩ := ha (by omega)
      have hck : w.cell? ⟨b, o + k, none⟩ = some (.int .i64 xs[k]) := hx k hlt
      clear hx ha
      by_cases he : termOk xs[k] = true
      · have HS := Lib.hid (hs.step hlt he)
        clear hs
        go_wp2_with (go_at_call 105; refine (isTerm_is he _).mono ?_; rintro e w' ⟨rfl, rfl⟩)
        go_round
        case rel => exact ⟨k + 1, by omega, by go_num, HS.out⟩
        case measure => simp [intOf]; omega
      · have he' : termOk xs[k] = false := by simpa using he
        have HE := Lib.hid (all_not hlt he')
        clear hs he
        go_wp2_with (go_at_call 105; refine (isTerm_is he' _).mono ?_; rintro e w' ⟨rfl, rfl⟩)
        go_ret
        exact ⟨ret_bool HE.out.symm, rfl⟩
    · have HE := Lib.hid (hs.done (by omega))
      clear hs ha
      go_wp2_with (fail)
      go_ret
      exact ⟨ret_bool HE.out.symm, rfl⟩

set_option maxHeartbeats 400000 in
theorem l2Terms_any (v : Value) (xs : List Int) (B : Nat) (w : World) (h : RdInts w B v xs) (hr : xs.length ≤ 1048576) :
    Calls Try.prog 75 #[v] w fun e w' => e = .returned (.bool (xs.all termOk)) ∧ w = w' := by
  obtain ⟨A, c, rfl, hc, ha⟩ := h
  go_enter Try.func75, Try.ntmps75
  go_wp2_with (fail)
  go_loop [3] (fun i => ∃ k : Nat, k ≤ xs.length ∧ i = .int .i64 k ∧ AllTo termOk xs k) (fun i => xs.length - (intOf i).toNat)
  case atStart => exact ⟨0, Nat.zero_le _, rfl, AllTo.start⟩
  case round =>
    obtain ⟨k, hk, rfl, hs⟩ := hrel
    by_cases hlt : k < xs.length
    · obtain ⟨b, o, rfl, hbB, hx⟩ := ha (by omega)
      have hck : w.cell? ⟨b, o + k, none⟩ = some (.int .i64 xs[k]) := hx k hlt
      clear hx ha
      by_cases he : -4 ≤ xs[k] ∧ xs[k] ≤ 5
      · have HS := Lib.hid (hs.step hlt (by simpa [termOk] using he))
        have HK := Lib.hid (l1In_yes he)
        clear hs he
        go_wp2_with (go_at_call 63; refine (HK.out _).mono ?_; rintro e w' ⟨rfl, rfl⟩)
        go_round
        case rel => exact ⟨k + 1, by omega, by go_num, HS.out⟩
        case measure => simp [intOf]; omega
      · have HE := Lib.hid (all_not hlt (show termOk xs[k] = false by simpa [termOk] using he))
        have HK := Lib.hid (l1In_no he)
        clear hs he
        go_wp2_with (go_at_call 63; refine (HK.out _).mono ?_; rintro e w' ⟨rfl, rfl⟩)
        go_ret
        exact ⟨ret_bool HE.out.symm, rfl⟩
    · have HE := Lib.hid (hs.done (by omega))
      clear hs ha
      go_wp2_with (fail)
      go_ret
      exact ⟨ret_bool HE.out.symm, rfl⟩

end Go.Proofs.Ytehjhdihaloalaa
