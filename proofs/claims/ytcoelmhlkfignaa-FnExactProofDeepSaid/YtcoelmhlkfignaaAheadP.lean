/-
  Steps that name steps ahead, how deep a proof is: plain mathematics. No walk.
-/
import Derived.Test.YtcoelmhlkfignaaSteps
namespace Go.Proofs.Ytcoelmhlkfignaa
open Go.RowKit

/-- All of these numbers name steps ahead of step i. -/
def aheadB (i : Nat) (xs : List Int) : Bool := xs.all fun f => decide (0 ≤ f) && decide (f < (i : Int))
def fromsAt (ss : List LStep) (i : Nat) : List Int := ((ss[i]?).map (·.2.2.2)).getD []
def formedN (ss : List LStep) (n : Nat) : Bool := (List.range n).all fun i => aheadB i (fromsAt ss i)
def formed (ss : List LStep) : Bool := formedN ss ss.length

theorem fromsAt_eq {ss : List LStep} {i : Nat} (h : i < ss.length) : fromsAt ss i = ss[i].2.2.2 := by simp [fromsAt, h]
theorem formedN_zero (ss : List LStep) : formedN ss 0 = true := rfl
theorem formedN_step {ss : List LStep} {k : Nat} (h : formedN ss k = true) (hk : k < ss.length) (e : aheadB k ss[k].2.2.2 = true) : formedN ss (k + 1) = true := by
  unfold formedN at h ⊢
  rw [List.range_succ, List.all_append, h]
  simp [fromsAt_eq hk, e]
theorem formed_not {ss : List LStep} {k : Nat} (hk : k < ss.length) (e : aheadB k ss[k].2.2.2 = false) : formed ss = false := by
  unfold formed formedN
  rw [List.all_eq_false]
  exact ⟨k, List.mem_range.2 hk, by simp [fromsAt_eq hk, e]⟩
theorem formed_at {ss : List LStep} (h : formed ss = true) {k : Nat} (hk : k < ss.length) : aheadB k ss[k].2.2.2 = true := by
  unfold formed formedN at h
  have := List.all_eq_true.1 h k (List.mem_range.2 hk)
  rwa [fromsAt_eq hk] at this
theorem aheadB_at {i : Nat} {xs : List Int} (h : aheadB i xs = true) {m : Nat} (hm : m < xs.length) : 0 ≤ xs[m] ∧ xs[m] < (i : Int) := by
  have := List.all_eq_true.1 h xs[m] (List.getElem_mem hm)
  simpa using this
theorem aheadB_zero (i : Nat) (xs : List Int) : aheadB i (xs.take 0) = true := by simp [aheadB]
theorem aheadB_step {i : Nat} {xs : List Int} {m : Nat} (h : aheadB i (xs.take m) = true) (hm : m < xs.length) (h0 : 0 ≤ xs[m]) (h1 : xs[m] < (i : Int)) : aheadB i (xs.take (m + 1)) = true := by
  unfold aheadB at h ⊢
  rw [take_snoc xs m hm, List.all_append, h]
  simp [h0, h1]
theorem aheadB_not {i : Nat} {xs : List Int} {m : Nat} (hm : m < xs.length) (h : ¬ (0 ≤ xs[m] ∧ xs[m] < (i : Int))) : aheadB i xs = false := by
  unfold aheadB
  rw [List.all_eq_false]
  exact ⟨xs[m], List.getElem_mem hm, by simpa using h⟩
theorem aheadB_bound {i : Nat} {xs : List Int} (h : aheadB i xs = true) {f : Int} (hf : f ∈ xs) : 0 ≤ f ∧ f < (i : Int) := by
  have := List.all_eq_true.1 h f hf
  simpa using this

/-- How deep a step is that names these steps, ds being how deep the steps ahead are. -/
def deepAt (ds : List Int) (xs : List Int) : Int := xs.foldl (fun n f => max n (ds.getD f.toNat 0 + 1)) 0
def deeps (ss : List LStep) : List Int := ss.foldl (fun ds s => ds ++ [deepAt ds s.2.2.2]) []
/-- What ProofDeep answers. -/
def deepL (ss : List LStep) : Int := if ss.length = 0 ∨ formed ss = false then -1 else (deeps ss).getD (ss.length - 1) 0

theorem deeps_snoc (ss : List LStep) (s : LStep) : deeps (ss ++ [s]) = deeps ss ++ [deepAt (deeps ss) s.2.2.2] := by simp [deeps]
theorem deeps_take {ss : List LStep} {k : Nat} (h : k < ss.length) : deeps (ss.take (k + 1)) = deeps (ss.take k) ++ [deepAt (deeps (ss.take k)) ss[k].2.2.2] := by rw [take_snoc ss k h, deeps_snoc]
theorem deeps_length : ∀ (n : Nat) (ss : List LStep), ss.length = n → (deeps ss).length = n
  | 0, ss, h => by rw [List.length_eq_zero_iff.1 h]; rfl
  | n + 1, ss, h => by
    have hk : n < ss.length := by omega
    have e : ss = ss.take n ++ [ss[n]] := by rw [← take_snoc ss n hk, List.take_of_length_le (by omega)]
    have := deeps_length n (ss.take n) (by simp; omega)
    rw [e, deeps_snoc]
    simp [this]
theorem deepAt_snoc (ds xs : List Int) (f : Int) : deepAt ds (xs ++ [f]) = max (deepAt ds xs) (ds.getD f.toNat 0 + 1) := by simp [deepAt]
theorem deepAt_step {ds xs : List Int} {m : Nat} (h : m < xs.length) : deepAt ds (xs.take (m + 1)) = max (deepAt ds (xs.take m)) (ds.getD xs[m].toNat 0 + 1) := by rw [take_snoc xs m h, deepAt_snoc]
theorem deepAt_bound {ds : List Int} {M : Int} (hM : 0 ≤ M) (hd : ∀ i, 0 ≤ ds.getD i 0 ∧ ds.getD i 0 ≤ M) : ∀ (n : Nat) (xs : List Int), xs.length = n → 0 ≤ deepAt ds xs ∧ deepAt ds xs ≤ M + 1
  | 0, xs, h => by rw [List.length_eq_zero_iff.1 h]; simp [deepAt]; omega
  | n + 1, xs, h => by
    have hk : n < xs.length := by omega
    have e : xs = xs.take n ++ [xs[n]] := by rw [← take_snoc xs n hk, List.take_of_length_le (by omega)]
    have := deepAt_bound hM hd n (xs.take n) (by simp; omega)
    have h2 := hd xs[n].toNat
    rw [e, deepAt_snoc]
    omega
theorem deeps_bound : ∀ (n : Nat) (ss : List LStep), ss.length = n → ∀ i, 0 ≤ (deeps ss).getD i 0 ∧ (deeps ss).getD i 0 ≤ (n : Int)
  | 0, ss, h, i => by rw [List.length_eq_zero_iff.1 h]; simp [deeps]
  | n + 1, ss, h, i => by
    have hk : n < ss.length := by omega
    have e : ss = ss.take n ++ [ss[n]] := by rw [← take_snoc ss n hk, List.take_of_length_le (by omega)]
    have hl : (ss.take n).length = n := by simp; omega
    have hb := deeps_bound n (ss.take n) hl
    have hdl := deeps_length n (ss.take n) hl
    have h2 := deepAt_bound (M := (n : Int)) (by omega) hb _ ss[n].2.2.2 rfl
    rw [e, deeps_snoc]
    rcases Nat.lt_trichotomy i n with h3 | h3 | h3
    · have := hb i
      rw [List.getD_eq_getElem?_getD, List.getElem?_append_left (by omega), ← List.getD_eq_getElem?_getD]
      omega
    · subst h3
      rw [List.getD_eq_getElem?_getD, List.getElem?_append_right (by omega), hdl]
      simp
      omega
    · rw [List.getD_eq_getElem?_getD, List.getElem?_eq_none (by simp; omega)]
      simp
      omega

end Go.Proofs.Ytcoelmhlkfignaa
