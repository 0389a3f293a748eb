/-
  Terms and variables: the words, and the walks of varTerm, varNumber, isVar.
-/
import Derived.Test.YtehjhdihaloalaaRows3
import Derived.StillTailTactics
import Derived.Deep.QuietTactic
import Derived.BigQuiet
namespace Go.Proofs.Ytehjhdihaloalaa
open Go.RowKit

def termOk (x : Int) : Bool := decide (-4 ≤ x ∧ x ≤ 5)
def isVarB (x : Int) : Bool := decide (-4 ≤ x ∧ x ≤ -1)

/-- 'the first k are so', kept from the walk. -/
def AllTo {α : Type} (p : α → Bool) (xs : List α) (k : Nat) : Prop := (xs.take k).all p = true
theorem AllTo.start {α : Type} {p : α → Bool} {xs : List α} : AllTo p xs 0 := by simp [AllTo]
theorem AllTo.step {α : Type} {p : α → Bool} {xs : List α} {k : Nat} (h : AllTo p xs k) (hk : k < xs.length) (e : p xs[k] = true) : AllTo p xs (k + 1) := by
  unfold AllTo at h ⊢
  rw [take_snoc xs k hk, List.all_append, h]
  simp [e]
theorem AllTo.done {α : Type} {p : α → Bool} {xs : List α} {k : Nat} (h : AllTo p xs k) (hk : k = xs.length) : xs.all p = true := by
  unfold AllTo at h
  rwa [hk, List.take_length] at h
theorem all_not {α : Type} {p : α → Bool} {xs : List α} {k : Nat} (hk : k < xs.length) (e : p xs[k] = false) : xs.all p = false := by
  rw [List.all_eq_false]
  exact ⟨xs[k], List.getElem_mem hk, by simp [e]⟩

theorem varTerm_any (n : Int) (h0 : 0 ≤ n) (h1 : n ≤ 1000) (w : World) : Calls Try.prog 135 #[.int .i64 n] w fun e w' => e = .returned (.int .i64 (-1 - n)) ∧ w = w' := by
  go_enter Try.func135, Try.ntmps135
  go_wp2
  go_ret
  exact ⟨rfl, rfl⟩
theorem varNumber_any (n : Int) (h0 : -4 ≤ n) (h1 : n ≤ -1) (w : World) : Calls Try.prog 108 #[.int .i64 n] w fun e w' => e = .returned (.int .i64 (-1 - n)) ∧ w = w' := by
  go_enter Try.func108, Try.ntmps108
  go_wp2
  go_ret
  exact ⟨rfl, rfl⟩

theorem isVar_any (n : Int) (w : World) : Calls Try.prog 121 #[.int .i64 n] w fun e w' => e = .returned (.bool (isVarB n)) ∧ w = w' := by
  by_cases h1 : n < 0
  · have hd : decide (n < 0) = true := by simpa using h1
    by_cases h2 : -4 ≤ n
    · have HE := Lib.hid (show isVarB n = true by simp [isVarB]; omega)
      go_enter Try.func121, Try.ntmps121
      go_wp2_with (go_at_call 135; refine (varTerm_any 3 (by omega) (by omega) _).mono ?_; rintro e w' ⟨rfl, rfl⟩)
      go_ret
      exact ⟨ret_bool HE.out.symm, rfl⟩
    · have HE := Lib.hid (show isVarB n = false by simp [isVarB]; omega)
      go_enter Try.func121, Try.ntmps121
      go_wp2_with (go_at_call 135; refine (varTerm_any 3 (by omega) (by omega) _).mono ?_; rintro e w' ⟨rfl, rfl⟩)
      go_ret
      exact ⟨ret_bool (by rw [HE.out]; simp; omega), rfl⟩
  · have hd : decide (n < 0) = false := by simpa using h1
    have HE := Lib.hid (show isVarB n = false by simp [isVarB]; omega)
    go_enter Try.func121, Try.ntmps121
    go_wp2_with (fail)
    go_ret
    exact ⟨ret_bool HE.out.symm, rfl⟩

theorem isVar_is {n : Int} {b : Bool} (h : isVarB n = b) (w : World) : Calls Try.prog 121 #[.int .i64 n] w fun e w' => e = .returned (.bool b) ∧ w = w' := h ▸ isVar_any n w

end Go.Proofs.Ytehjhdihaloalaa
