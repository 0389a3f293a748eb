/-
  The walk of the program's constantDigits, and AllFacts' plain mathematics.
-/
import Derived.Test.YtdclfcjbadgmfaaLater
import Derived.Test.YtdclfcjbadgmfaaMarkFacts
import Derived.Test.YtdclfcjbadgmfaaArity
namespace Go.Proofs.Ytdclfcjbadgmfaa
open Go.RowKit

/-- The digits of n in base six, so many places. -/
def digits (n p : Nat) : List Int := (List.range p).map fun j : Nat => ((n / 6 ^ (p - 1 - j) % 6 : Nat) : Int)
theorem digits_length (n p : Nat) : (digits n p).length = p := by simp [digits]
theorem div_pow (n k : Nat) : n / 6 ^ k / 6 = n / 6 ^ (k + 1) := by rw [Nat.div_div_eq_div_mul, Nat.pow_succ]
def digitCell (n p m j : Nat) : Value := if m ≤ j then .int .i64 ((n / 6 ^ (p - 1 - j) % 6 : Nat) : Int) else .int .i64 0

set_option maxHeartbeats 1000000 in
theorem constantDigits_any (n p : Nat) (w : World) (hn : n ≤ 1048576) (hp : p ≤ 2) :
    Calls Try.prog 49 #[.int .i64 n, .int .i64 p] w fun e w' => ∃ A' c', e = .returned (.slice A' p c') ∧ OwnInts w' w.heap.size w'.heap.size (.slice A' p c') (digits n p) ∧ Below w.heap.size w w' := by
  have hmk := run_make_row' (P := Try.prog) 23 3 (.int .i64 0) 8 Try.underlying23 Try.infoInt rfl .i64 .i64 p (by omega) (by omega)
  go_enter Try.func49, Try.ntmps49
  go_wp2_with (fail)
  go_loopw [0, 6] (fun v i wr => ∃ (m : Nat) (q : Nat), m ≤ p ∧ i = .int .i64 ((m : Int) - 1) ∧ v = .int .i64 q ∧ q = n / 6 ^ (p - m) ∧ wr.rowIs w.heap.size 3 p (digitCell n p m) ∧ Below w.heap.size w wr) (fun _ i _ => (intOf i + 1).toNat)
  case atStart => exact ⟨p, n, Nat.le_refl _, rfl, rfl, by simp, (World.rowIs_made w _ _ _).congr (fun j hj => by simp [digitCell]; omega), below1 _ _⟩
  case round =>
    obtain ⟨m, q, hm, rfl, rfl, hq, hrow, hbe⟩ := hrel
    have hqn : q ≤ n := by rw [hq]; exact Nat.div_le_self _ _
    rcases Nat.eq_zero_or_pos m with h0 | h0
    · have HO := Lib.hid (show OwnInts wr w.heap.size wr.heap.size (.slice (some ⟨w.heap.size, 0, none⟩) p p) (digits n p) by
        have h1 : wr.rowIs w.heap.size 3 (digits n p).length (fun j => .int .i64 ((digits n p).getD j 0)) := by
          rw [digits_length]
          refine hrow.congr (fun j hj => ?_)
          simp [digitCell, digits, h0, hj]
        have h2 := OwnInts.of_rowIs h1 (Nat.le_refl _) h1.lt (by rw [digits_length]; unfold maxLen; omega)
        rwa [digits_length] at h2)
      have hneg : ¬ (0 : Int) ≤ (m : Int) - 1 := by omega
      clear hrow hq h0
      go_wp2_with (fail)
      go_ret
      exact ⟨_, _, rfl, HO.out, hbe⟩
    · obtain ⟨k, rfl⟩ : ∃ k, m = k + 1 := ⟨m - 1, by omega⟩
      have hkp : k < p := by omega
      have c1 := hrow.cell hkp
      have f1 := hrow.frozen k
      have c1' : ∃ u, wr.cell? ⟨w.heap.size, k, none⟩ = some (.int .i64 u) := by
        rw [c1]
        unfold digitCell
        split <;> exact ⟨_, rfl⟩
      obtain ⟨u, c2⟩ := c1'
      have e1 : ((k + 1 : Nat) : Int) - 1 = (k : Int) := by omega
      have hrw := (hrow.set k (.int .i64 ((q % 6 : Nat) : Int))).congr (g := digitCell n p k) (fun j hj => by
        by_cases e : j = k
        · subst e
          rw [if_pos rfl, hq, show p - (j + 1) = p - 1 - j by omega]
          simp [digitCell]
        · rw [if_neg e]
          unfold digitCell
          by_cases h2 : k ≤ j
          · rw [if_pos (by omega), if_pos h2]
          · rw [if_neg (by omega), if_neg h2])
      have HR := Lib.hid hrw
      have HQ := Lib.hid (show q / 6 = n / 6 ^ (p - k) by rw [hq, div_pow]; congr 2; omega)
      rw [e1]
      clear hrow hq c1 hrw e1
      go_wp2_with (fail)
      go_roundw
      case rel => exact ⟨k, q / 6, by omega, rfl, by simp, HQ.out, by simpa using HR.out, hbe.setCell (Nat.le_refl _) _⟩
      case measure => simp [intOf]

theorem pow6 : (6 : Nat) ^ 0 = 1 ∧ (6 : Nat) ^ 1 = 6 ∧ (6 : Nat) ^ 2 = 36 := by decide
/-- All facts of a predicate with so many places. -/
def allOk (p q : Int) : Bool := decide (0 ≤ p ∧ p ≤ 23) && decide (0 ≤ q ∧ q ≤ 2)
def allTo (p : Int) (q : Nat) (m : Nat) : List LFact := (List.range m).map fun i => (p, digits i q)
def allFacts (p q : Int) : List LFact := if allOk p q then allTo p q.toNat (6 ^ q.toNat) else []
theorem allTo_length (p : Int) (q m : Nat) : (allTo p q m).length = m := by simp [allTo]
theorem allTo_snoc (p : Int) (q m : Nat) : allTo p q (m + 1) = allTo p q m ++ [(p, digits m q)] := by simp [allTo, List.range_succ]
theorem allTo_tot (p : Int) (q : Nat) : ∀ m, tot (allTo p q m) = m * q
  | 0 => by simp [allTo, tot]
  | m + 1 => by rw [allTo_snoc, tot_append, allTo_tot p q m, tot_cons]; simp [tot, digits_length, Nat.add_mul]

end Go.Proofs.Ytdclfcjbadgmfaa
