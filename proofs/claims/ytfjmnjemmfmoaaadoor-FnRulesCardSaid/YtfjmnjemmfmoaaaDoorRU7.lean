/-
  The law FnRules: for every input the call returns true, and each argument reads behind it as it read before. Conditions: none but the row's own.
-/
import Derived.BigRegion
import Derived.Deep.RegionHeld3
import Derived.Deep.RegionWith
import Derived.Deep.RegionLaw
import Derived.Deep.DeepCutAuto
import Derived.Test.YtfjmnjemmfmoaaaDoorChecked
import Derived.Deep.SlicePairs
import Derived.ProofKit
import Derived.OpenShut
import Derived.ChangeOld
import Derived.WalkKit
import Derived.Deep.Slices
import Derived.Deep.Fields
import Derived.ChangeSame
import Derived.Lib.SmallJoins
import Derived.KernelRfl
import Derived.Test.YtfjmnjemmfmoaaaDoorRows
import Derived.Test.YtfjmnjemmfmoaaaDoorCards
import Derived.Test.YtfjmnjemmfmoaaaDoorTie
import Derived.Lay
import Derived.SevenTiedAt
import Derived.Test.YtfjmnjemmfmoaaaDoorRU1
import Derived.Test.YtfjmnjemmfmoaaaDoorRU2
import Derived.Test.YtfjmnjemmfmoaaaDoorRU3
import Derived.Test.YtfjmnjemmfmoaaaDoorRU4
import Derived.Test.YtfjmnjemmfmoaaaDoorRU6
/-
  What renaming keeps: plain mathematics.
-/
namespace Go.Proofs.YtfjmnjemmfmoaaaDoor
open Go.RowKit

/-- A term is the variable of a number. -/
def varAt (j : Nat) (t : Int) : Bool := isVarB t && decide ((-1 - t).toNat = j)
theorem varAt_iff {j : Nat} {t : Int} : varAt j t = true ↔ t = -1 - (j : Int) ∧ j < 4 := by
  unfold varAt isVarB
  simp only [Bool.and_eq_true, decide_eq_true_eq]
  omega
theorem orV_bit (m j : Nat) (t : Int) : (orV m t).testBit j = (m.testBit j || varAt j t) := by
  unfold orV varAt
  split
  · rename_i h
    rw [Nat.testBit_or, Nat.testBit_two_pow, h, Bool.true_and]
  · rename_i h
    rw [Bool.not_eq_true] at h
    rw [h, Bool.false_and, Bool.or_false]
theorem maskFrom_bit (j : Nat) : ∀ (xs : List Int) (m : Nat), (maskFrom m xs).testBit j = (m.testBit j || xs.any (varAt j))
  | [], m => by simp [maskFrom]
  | t :: xs, m => by
    show (maskFrom (orV m t) xs).testBit j = _
    rw [maskFrom_bit j xs, orV_bit, List.any_cons, Bool.or_assoc]
theorem maskOf_bit (j : Nat) (xs : List Int) : (maskOf xs).testBit j = xs.any (varAt j) := by
  unfold maskOf
  rw [maskFrom_bit, Nat.zero_testBit, Bool.false_or]
theorem bodyFrom_bit (j : Nat) : ∀ (ls : List LLit) (m : Nat), (ls.foldl (fun m l => m ||| maskOf l.2.2) m).testBit j = (m.testBit j || ls.any fun l => l.2.2.any (varAt j))
  | [], m => by simp
  | l :: ls, m => by
    rw [List.foldl_cons, bodyFrom_bit j ls, Nat.testBit_or, maskOf_bit, List.any_cons, Bool.or_assoc]
theorem yesFrom_bit (j : Nat) : ∀ (ls : List LLit) (m : Nat), (ls.foldl (fun m l => if l.1 = 0 then m ||| maskOf l.2.2 else m) m).testBit j = (m.testBit j || ls.any fun l => decide (l.1 = 0) && l.2.2.any (varAt j))
  | [], m => by simp
  | l :: ls, m => by
    rw [List.foldl_cons, yesFrom_bit j ls, List.any_cons]
    by_cases h : l.1 = 0
    · rw [if_pos h, Nat.testBit_or, maskOf_bit, decide_eq_true h, Bool.true_and, Bool.or_assoc]
    · rw [if_neg h, decide_eq_false h, Bool.false_and, Bool.false_or]
def terms (r : LRule) : List Int := r.1.2 ++ r.2.flatMap (·.2.2)
theorem ruleMask_bit (j : Nat) (r : LRule) : (ruleMask r).testBit j = (terms r).any (varAt j) := by
  unfold ruleMask terms
  rw [Nat.testBit_or, maskOf_bit, bodyMask, bodyFrom_bit, Nat.zero_testBit, Bool.false_or, List.any_append, List.any_flatMap]
theorem yesMask_bit (j : Nat) (ls : List LLit) : (yesMask ls).testBit j = ls.any fun l => decide (l.1 = 0) && l.2.2.any (varAt j) := by
  unfold yesMask
  rw [yesFrom_bit, Nat.zero_testBit, Bool.false_or]
theorem four_in {a b : Nat} (ha : a < 16) (hb : b < 16) : (bits .andNot .u64 (a : Int) (b : Int) == 0) = true ↔ ∀ n, a.testBit n = true → b.testBit n = true := by
  have hb' : b < 2 ^ 64 := by omega
  have e : (18446744073709551615 - b : Nat) = 2 ^ 64 - (b + 1) := by omega
  rw [u64_andNot_nat a b (by omega) (by omega), beq_iff_eq, e]
  constructor
  · intro h n hn
    have h0 : a &&& (2 ^ 64 - (b + 1)) = 0 := by exact_mod_cast h
    have h1 := congrArg (fun y => y.testBit n) h0
    simp only [Nat.testBit_and, Nat.zero_testBit, hn, Bool.true_and, Nat.testBit_two_pow_sub_succ hb'] at h1
    have hlt : n < 64 := by
      apply Classical.byContradiction
      intro h64
      have h2 := Nat.ge_two_pow_of_testBit hn
      have h3 : (2 : Nat) ^ 64 ≤ 2 ^ n := Nat.pow_le_pow_right (by decide) (by omega)
      omega
    simpa [hlt] using h1
  · intro h
    have h0 : a &&& (2 ^ 64 - (b + 1)) = 0 := by
      apply Nat.eq_of_testBit_eq
      intro n
      rw [Nat.testBit_and, Nat.zero_testBit, Nat.testBit_two_pow_sub_succ hb']
      cases hn : a.testBit n
      · rfl
      · rw [h n hn]
        simp
    rw [h0]
    rfl
theorem yesMask_lt16 (ls : List LLit) : yesMask ls < 16 := by
  apply Classical.byContradiction
  intro h
  obtain ⟨n, hn, hb⟩ := Nat.exists_ge_and_testBit_of_ge_two_pow (n := 4) (x := yesMask ls) (by omega)
  rw [yesMask_bit, List.any_eq_true] at hb
  obtain ⟨l, _, h2⟩ := hb
  rw [Bool.and_eq_true, List.any_eq_true] at h2
  obtain ⟨t, _, h3⟩ := h2.2
  have := (varAt_iff.1 h3).2
  omega
theorem ruleMask_lt16 (r : LRule) : ruleMask r < 16 := by
  apply Classical.byContradiction
  intro h
  obtain ⟨n, hn, hb⟩ := Nat.exists_ge_and_testBit_of_ge_two_pow (n := 4) (x := ruleMask r) (by omega)
  rw [ruleMask_bit, List.any_eq_true] at hb
  obtain ⟨t, _, h3⟩ := hb
  have := (varAt_iff.1 h3).2
  omega
theorem ruleSafe_iff (r : LRule) : ruleSafe r = true ↔ ∀ j, (terms r).any (varAt j) = true → (r.2.any fun l => decide (l.1 = 0) && l.2.2.any (varAt j)) = true := by
  unfold ruleSafe
  rw [four_in (ruleMask_lt16 r) (yesMask_lt16 r.2)]
  constructor
  · intro h j hj
    rw [← yesMask_bit]
    exact h j (by rw [ruleMask_bit]; exact hj)
  · intro h j hj
    rw [yesMask_bit]
    exact h j (by rw [← ruleMask_bit]; exact hj)

theorem renBody_terms : ∀ (ls : List LLit) (s : Ren), renBody s ls = renList s (ls.flatMap (·.2.2))
  | [], _ => rfl
  | l :: ls, s => by
    rw [List.flatMap_cons, renList_append]
    exact renBody_terms ls (renList s l.2.2)
theorem renRule_terms (r : LRule) : renRule r = renList ren0 (terms r) := by
  unfold renRule terms
  rw [renBody_terms, ← renList_append]

/-- What has been named, and how. -/
structure RenOk (s : Ren) (P : List Int) : Prop where
  len : s.1.length = 4
  cnt : s.1.countP (fun x => decide (x ≠ 0)) = s.2
  val : ∀ i, s.1.getD i 0 = 0 ∨ ∃ n : Nat, n < s.2 ∧ s.1.getD i 0 = -1 - (n : Int)
  sur : ∀ n, n < s.2 → ∃ i, i < 4 ∧ s.1.getD i 0 = -1 - (n : Int)
  occ : ∀ i, s.1.getD i 0 ≠ 0 ↔ P.any (varAt i) = true
theorem RenOk.le {s : Ren} {P : List Int} (h : RenOk s P) : s.2 ≤ 4 := by
  rw [← h.cnt, ← h.len]
  exact List.countP_le_length
theorem renOk_nil : RenOk ren0 [] := by
  refine ⟨rfl, rfl, fun i => .inl ?_, fun n h => absurd h (Nat.not_lt_zero _), fun i => ?_⟩
  · match i with
    | 0 => rfl
    | 1 => rfl
    | 2 => rfl
    | 3 => rfl
    | _ + 4 => rfl
  · have : ren0.1.getD i 0 = 0 := by
      match i with
      | 0 => rfl
      | 1 => rfl
      | 2 => rfl
      | 3 => rfl
      | _ + 4 => rfl
    rw [this]
    simp
theorem getD_set (l : List Int) (i j : Nat) (x : Int) : (l.set i x).getD j 0 = if i = j ∧ j < l.length then x else l.getD j 0 := by
  simp only [List.getD_eq_getElem?_getD, List.getElem?_set]
  by_cases e : i = j
  · subst e
    by_cases h : i < l.length
    · simp [h]
    · simp [h, List.getElem?_eq_none (Nat.le_of_not_lt h)]
  · simp [e]
theorem renOk_snoc {s : Ren} {P : List Int} (h : RenOk s P) (t : Int) : RenOk (renStep s t) (P ++ [t]) := by
  unfold renStep
  by_cases hv : isVarB t = true
  · have h4 := var_lt hv
    have hvi : ∀ i, varAt i t = true ↔ (-1 - t).toNat = i := fun i => by
      unfold varAt
      rw [hv, Bool.true_and, decide_eq_true_eq]
    obtain ⟨i, hi⟩ : ∃ i, i = (-1 - t).toNat := ⟨_, rfl⟩
    rw [← hi] at h4 ⊢
    simp only [← hi] at hvi
    by_cases h0 : s.1.getD i 0 = 0
    · rw [if_pos (by rw [hv, h0]; rfl)]
      have hlt : i < s.1.length := by rw [h.len]; exact h4
      have hz : s.1[i] = 0 := by simpa [List.getD_eq_getElem?_getD, hlt] using h0
      have hg : ∀ j, (s.1.set i (-1 - (s.2 : Int))).getD j 0 = if i = j then -1 - (s.2 : Int) else s.1.getD j 0 := fun j => by
        rw [getD_set]
        by_cases e : i = j
        · subst e
          rw [if_pos ⟨rfl, hlt⟩, if_pos rfl]
        · rw [if_neg (fun h => e h.1), if_neg e]
      refine ⟨by simpa using h.len, ?_, fun j => ?_, fun n hn => ?_, fun j => ?_⟩
      · rw [List.countP_set hlt, h.cnt]
        have e1 : decide (s.1[i] ≠ 0) = false := by simp [hz]
        have e2 : decide (-1 - (s.2 : Int) ≠ 0) = true := by simp; omega
        rw [e1, e2]
        simp
      · show (s.1.set i (-1 - (s.2 : Int))).getD j 0 = 0 ∨ ∃ n : Nat, n < s.2 + 1 ∧ (s.1.set i (-1 - (s.2 : Int))).getD j 0 = -1 - (n : Int)
        rw [hg]
        by_cases e : i = j
        · rw [if_pos e]
          exact .inr ⟨s.2, Nat.lt_succ_self _, rfl⟩
        · rw [if_neg e]
          rcases h.val j with h1 | ⟨n, h1, h2⟩
          · exact .inl h1
          · exact .inr ⟨n, Nat.lt_succ_of_lt h1, h2⟩
      · show ∃ j, j < 4 ∧ (s.1.set i (-1 - (s.2 : Int))).getD j 0 = -1 - (n : Int)
        have hn' : n < s.2 + 1 := hn
        by_cases e : n = s.2
        · exact ⟨i, h4, by rw [hg, if_pos rfl, e]⟩
        · obtain ⟨j, h1, h2⟩ := h.sur n (by omega)
          refine ⟨j, h1, ?_⟩
          rw [hg, if_neg (fun e2 => by subst e2; omega)]
          exact h2
      · show (s.1.set i (-1 - (s.2 : Int))).getD j 0 ≠ 0 ↔ _
        rw [hg, List.any_append, Bool.or_eq_true, ← h.occ j, List.any_cons, List.any_nil, Bool.or_false, hvi]
        by_cases e : i = j
        · rw [if_pos e]
          constructor
          · intro _
            exact .inr e
          · intro _
            omega
        · rw [if_neg e]
          constructor
          · exact .inl
          · rintro (h1 | h1)
            · exact h1
            · exact absurd h1 e
    · rw [if_neg (by rw [hv, Bool.true_and, beq_iff_eq]; exact h0)]
      refine ⟨h.len, h.cnt, h.val, h.sur, fun j => ?_⟩
      rw [List.any_append, Bool.or_eq_true, ← h.occ j, List.any_cons, List.any_nil, Bool.or_false, hvi]
      constructor
      · exact .inl
      · rintro (h1 | rfl)
        · exact h1
        · exact h0
  · rw [Bool.not_eq_true] at hv
    rw [hv, Bool.false_and, if_neg (by simp)]
    refine ⟨h.len, h.cnt, h.val, h.sur, fun j => ?_⟩
    have e : varAt j t = false := by unfold varAt; rw [hv, Bool.false_and]
    rw [List.any_append, List.any_cons, List.any_nil, e, Bool.or_false, Bool.or_false]
    exact h.occ j
theorem renOk_list (xs : List Int) : ∀ (s : Ren) (P : List Int), RenOk s P → RenOk (renList s xs) (P ++ xs) := by
  induction xs with
  | nil => intro s P h; simpa [renList] using h
  | cons t xs ih =>
    intro s P h
    have := ih (renStep s t) (P ++ [t]) (renOk_snoc h t)
    rw [List.append_assoc] at this
    exact this
theorem renOk_rule (r : LRule) : RenOk (renRule r) (terms r) := by
  rw [renRule_terms]
  exact renOk_list (terms r) ren0 [] renOk_nil

theorem varAt_look {s : Ren} {P : List Int} (h : RenOk s P) {t : Int} (ht : t ∈ P) (j : Nat) : varAt j (look s t) = true ↔ ∃ i, varAt i t = true ∧ s.1.getD i 0 = -1 - (j : Int) := by
  by_cases hv : isVarB t = true
  · have h4 := var_lt hv
    have hi : varAt (-1 - t).toNat t = true := by
      unfold varAt
      rw [hv, Bool.true_and, decide_eq_true_eq]
    have hne : s.1.getD (-1 - t).toNat 0 ≠ 0 := (h.occ _).2 (List.any_eq_true.2 ⟨t, ht, hi⟩)
    have el : look s t = s.1.getD (-1 - t).toNat 0 := by unfold look; rw [if_pos hv]
    rw [el]
    rcases h.val (-1 - t).toNat with h0 | ⟨n, hn, e⟩
    · exact absurd h0 hne
    · rw [varAt_iff, e]
      have := h.le
      constructor
      · rintro ⟨h1, _⟩
        exact ⟨_, hi, by rw [e]; omega⟩
      · rintro ⟨i, h1, h2⟩
        have : i = (-1 - t).toNat := by
          unfold varAt at h1
          rw [hv, Bool.true_and, decide_eq_true_eq] at h1
          exact h1.symm
        subst this
        rw [e] at h2
        exact ⟨by omega, by omega⟩
  · have el : look s t = t := by unfold look; rw [if_neg hv]
    have hn : ∀ i, varAt i t = false := fun i => by
      rw [Bool.not_eq_true] at hv
      unfold varAt
      rw [hv, Bool.false_and]
    rw [el, hn]
    constructor
    · intro h
      cases h
    · rintro ⟨i, h1, _⟩
      rw [hn] at h1
      cases h1
theorem look_ok {s : Ren} {P : List Int} (h : RenOk s P) {t : Int} (hk : termOk t = true) : termOk (look s t) = true := by
  unfold look
  by_cases hv : isVarB t = true
  · rw [if_pos hv]
    have := h.le
    rcases h.val (-1 - t).toNat with e | ⟨n, hn, e⟩
    · rw [e]; rfl
    · rw [e]
      simp only [termOk, decide_eq_true_eq]
      omega
  · rw [if_neg hv]
    exact hk

/-- The state after the terms as they are renamed. -/
def idS (k : Nat) : Ren := ((List.range 4).map (fun i => if i < k then -1 - (i : Int) else 0), k)
theorem idS_at {k i : Nat} (hi : i < 4) : (idS k).1.getD i 0 = if i < k then -1 - (i : Int) else 0 := by
  unfold idS
  rw [List.getD_eq_getElem?_getD, List.getElem?_map, List.getElem?_range hi]
  rfl
theorem idS_step {k : Nat} (hk : k < 4) : renStep (idS k) (-1 - (k : Int)) = idS (k + 1) := by
  have : k = 0 ∨ k = 1 ∨ k = 2 ∨ k = 3 := by omega
  rcases this with rfl | rfl | rfl | rfl <;> rfl
theorem idS_keep {k n : Nat} (hn : n < k) (hk : k ≤ 4) : renStep (idS k) (-1 - (n : Int)) = idS k := by
  unfold renStep
  have e : (-1 - (-1 - (n : Int))).toNat = n := by omega
  have h1 : (idS k).1.getD n 0 = -1 - (n : Int) := by rw [idS_at (by omega), if_pos hn]
  rw [e, h1, if_neg]
  rw [Bool.and_eq_true, beq_iff_eq]
  omega
theorem idS_look {k n : Nat} (hn : n < k) (hk : k ≤ 4) : look (idS k) (-1 - (n : Int)) = -1 - (n : Int) := by
  unfold look
  have e : (-1 - (-1 - (n : Int))).toNat = n := by omega
  have hv : isVarB (-1 - (n : Int)) = true := by unfold isVarB; rw [decide_eq_true_eq]; omega
  rw [if_pos hv, e, idS_at (by omega), if_pos hn]
theorem again_step {s S : Ren} {P : List Int} (h : RenOk s P) {t : Int} (he : Ext (renStep s t) S) : renStep (idS s.2) (look S t) = idS (renStep s t).2 := by
  have h4 := h.le
  have h4' : (renStep s t).2 ≤ 4 := (renOk_snoc h t).le
  by_cases hv : isVarB t = true
  · have hlt := var_lt hv
    have hl : look S t = (renStep s t).1.getD (-1 - t).toNat 0 := by
      rw [← look_ext h.len he]
      unfold look
      rw [if_pos hv]
    rw [hl]
    by_cases h0 : s.1.getD (-1 - t).toNat 0 = 0
    · have e : renStep s t = (s.1.set (-1 - t).toNat (-1 - (s.2 : Int)), s.2 + 1) := by
        unfold renStep
        rw [if_pos (by rw [hv, h0]; rfl)]
      rw [e]
      have e2 : (s.1.set (-1 - t).toNat (-1 - (s.2 : Int))).getD (-1 - t).toNat 0 = -1 - (s.2 : Int) := by
        rw [getD_set, if_pos ⟨rfl, by rw [h.len]; exact hlt⟩]
      rw [e2]
      rw [e] at h4'
      exact idS_step (Nat.lt_of_succ_le h4')
    · have e : renStep s t = s := by
        unfold renStep
        rw [if_neg (by rw [hv, Bool.true_and, beq_iff_eq]; exact h0)]
      rw [e]
      rcases h.val (-1 - t).toNat with h1 | ⟨n, hn, e2⟩
      · exact absurd h1 h0
      · rw [e2]
        exact idS_keep hn h4
  · have e1 : look S t = t := by unfold look; rw [if_neg hv]
    have e2 : ∀ s, renStep s t = s := fun s => by
      rw [Bool.not_eq_true] at hv
      unfold renStep
      rw [hv, Bool.false_and, if_neg (by simp)]
    rw [e1, e2, e2]
theorem again_list {S : Ren} : ∀ (xs : List Int) (s : Ren) (P : List Int), RenOk s P → Ext (renList s xs) S → renList (idS s.2) (xs.map (look S)) = idS (renList s xs).2
  | [], _, _, _, _ => rfl
  | t :: xs, s, P, h, he => by
    have h1 : Ext (renStep s t) S := (Ext.list xs _).trans he
    show renList (renStep (idS s.2) (look S t)) (xs.map (look S)) = idS (renList (renStep s t) xs).2
    rw [again_step h h1]
    exact again_list xs (renStep s t) (P ++ [t]) (renOk_snoc h t) he

theorem terms_renamed {r : LRule} (h : termsOk r = true) : terms (renamed r) = (terms r).map (look (renRule r)) := by
  unfold renamed terms
  rw [if_pos h, List.map_append, List.flatMap_map, List.map_flatMap]
  rfl
theorem termsOk_iff (r : LRule) : termsOk r = true ↔ ∀ t ∈ terms r, termOk t = true := by
  unfold termsOk terms
  rw [Bool.and_eq_true, List.all_eq_true, List.all_eq_true]
  constructor
  · rintro ⟨h1, h2⟩ t ht
    rcases List.mem_append.1 ht with h | h
    · exact h2 t h
    · obtain ⟨l, hl, h⟩ := List.mem_flatMap.1 h
      exact List.all_eq_true.1 (h1 l hl) t h
  · intro h
    exact ⟨fun l hl => List.all_eq_true.2 fun t ht => h t (List.mem_append.2 (.inr (List.mem_flatMap.2 ⟨l, hl, ht⟩))), fun t ht => h t (List.mem_append.2 (.inl ht))⟩
theorem renamed_ok {r : LRule} (h : termsOk r = true) : termsOk (renamed r) = true := by
  rw [termsOk_iff, terms_renamed h]
  intro t ht
  obtain ⟨u, hu, rfl⟩ := List.mem_map.1 ht
  exact look_ok (renOk_rule r) ((termsOk_iff r).1 h u hu)
/-- Renaming again changes nothing. -/
theorem renamed_again {r : LRule} (h : termsOk r = true) : (renamed (renamed r)).1.2 = (renamed r).1.2 := by
  have hR := renOk_rule r
  have e : renRule (renamed r) = idS (renRule r).2 := by
    rw [renRule_terms, terms_renamed h]
    have := again_list (S := renRule r) (terms r) ren0 [] renOk_nil (by rw [← renRule_terms]; exact Ext.refl _)
    rw [← renRule_terms] at this
    exact this
  have hx : ∀ x, termsOk x = true → (renamed x).1.2 = x.1.2.map (look (renRule x)) := fun x hx => by
    unfold renamed
    rw [if_pos hx]
  have e2 : (renamed (renamed r)).1.2 = (renamed r).1.2.map (look (idS (renRule r).2)) := by
    rw [hx _ (renamed_ok h), e]
  rw [e2]
  have hid : ∀ t ∈ (renamed r).1.2, look (idS (renRule r).2) t = id t := by
    intro t ht
    have ht' : t ∈ terms (renamed r) := List.mem_append.2 (.inl ht)
    rw [terms_renamed h] at ht'
    obtain ⟨u, hu, rfl⟩ := List.mem_map.1 ht'
    by_cases hv : isVarB u = true
    · have el : look (renRule r) u = (renRule r).1.getD (-1 - u).toNat 0 := by unfold look; rw [if_pos hv]
      have hne : (renRule r).1.getD (-1 - u).toNat 0 ≠ 0 := (hR.occ _).2 (List.any_eq_true.2 ⟨u, hu, by unfold varAt; rw [hv, Bool.true_and, decide_eq_true_eq]⟩)
      rw [el]
      rcases hR.val (-1 - u).toNat with h0 | ⟨n, hn, e3⟩
      · exact absurd h0 hne
      · rw [e3]
        exact idS_look hn hR.le
    · have el : look (renRule r) u = u := by unfold look; rw [if_neg hv]
      rw [el]
      unfold look
      rw [if_neg hv]
      rfl
  rw [List.map_congr_left hid, List.map_id]
theorem mask_renamed {r : LRule} (h : termsOk r = true) (j : Nat) : (terms (renamed r)).any (varAt j) = true ↔ j < (renRule r).2 := by
  have hR := renOk_rule r
  rw [terms_renamed h, List.any_map, List.any_eq_true]
  constructor
  · rintro ⟨t, ht, h1⟩
    obtain ⟨i, _, h3⟩ := (varAt_look hR ht j).1 h1
    rcases hR.val i with h0 | ⟨n, hn, e⟩
    · omega
    · omega
  · intro hj
    obtain ⟨i, _, h2⟩ := hR.sur j hj
    have hne : (renRule r).1.getD i 0 ≠ 0 := by omega
    obtain ⟨t, ht, h3⟩ := List.any_eq_true.1 ((hR.occ i).1 hne)
    exact ⟨t, ht, (varAt_look hR ht j).2 ⟨i, h3, h2⟩⟩
theorem safe_renamed {r : LRule} (h : termsOk r = true) (hs : ruleSafe r = true) : ruleSafe (renamed r) = true := by
  have hR := renOk_rule r
  rw [ruleSafe_iff] at hs ⊢
  intro j hj
  obtain ⟨i, _, h2⟩ := hR.sur j ((mask_renamed h j).1 hj)
  have hne : (renRule r).1.getD i 0 ≠ 0 := by omega
  have h3 := hs i ((hR.occ i).1 hne)
  obtain ⟨l, hl, h4⟩ := List.any_eq_true.1 h3
  rw [Bool.and_eq_true, List.any_eq_true] at h4
  obtain ⟨h5, t, ht, h6⟩ := h4
  have e : (renamed r).2 = r.2.map (lookLit (renRule r)) := by unfold renamed; rw [if_pos h]
  rw [e, List.any_map, List.any_eq_true]
  refine ⟨l, hl, ?_⟩
  show (decide ((lookLit (renRule r) l).1 = 0) && (lookLit (renRule r) l).2.2.any (varAt j)) = true
  rw [Bool.and_eq_true]
  refine ⟨h5, ?_⟩
  show (l.2.2.map (look (renRule r))).any (varAt j) = true
  rw [List.any_map, List.any_eq_true]
  exact ⟨t, ht, (varAt_look hR (List.mem_append.2 (.inr (List.mem_flatMap.2 ⟨l, hl, ht⟩))) j).2 ⟨i, h6, h2⟩⟩

theorem atomFits_map {ar : List Int} {a : LFact} {f : Int → Int} (h : atomFits ar a = true) (hf : ∀ t ∈ a.2, termOk (f t) = true) : atomFits ar (a.1, a.2.map f) = true := by
  unfold atomFits at h ⊢
  rw [Bool.and_eq_true, decide_eq_true_eq] at h ⊢
  refine ⟨by simpa using h.1, ?_⟩
  rw [List.all_map, List.all_eq_true]
  exact fun t ht => hf t ht
theorem litFits_map {ar : List Int} {l : LLit} {f : Int → Int} (h : litFits ar l = true) (hf : ∀ t ∈ l.2.2, termOk (f t) = true) : litFits ar (l.1, (l.2.1, l.2.2.map f)) = true := by
  unfold litFits at h ⊢
  split at h
  · rename_i h1
    rw [if_pos h1]
    exact atomFits_map h hf
  · rename_i h1
    split at h
    · rename_i h2
      rw [if_neg h1, if_pos h2]
      rw [Bool.and_eq_true, Bool.and_eq_true] at h ⊢
      refine ⟨⟨h.1.1, by simpa using h.1.2⟩, ?_⟩
      rw [List.all_map, List.all_eq_true]
      exact fun t ht => hf t ht
    · cases h
theorem litFits_terms {ar : List Int} {l : LLit} (h : litFits ar l = true) : ∀ t ∈ l.2.2, termOk t = true := by
  unfold litFits at h
  split at h
  · unfold atomFits at h
    rw [Bool.and_eq_true] at h
    exact List.all_eq_true.1 h.2
  · split at h
    · rw [Bool.and_eq_true] at h
      exact List.all_eq_true.1 h.2
    · cases h
theorem ruleFits_terms {ar : List Int} {r : LRule} (h : ruleFits ar r = true) : termsOk r = true := by
  unfold ruleFits at h
  rw [Bool.and_eq_true, Bool.and_eq_true, Bool.and_eq_true] at h
  obtain ⟨h1, _, h3, _⟩ := h
  rw [termsOk_iff]
  intro t ht
  rcases List.mem_append.1 ht with h4 | h4
  · unfold atomFits at h1
    rw [Bool.and_eq_true] at h1
    exact List.all_eq_true.1 h1.2 t h4
  · obtain ⟨l, hl, h5⟩ := List.mem_flatMap.1 h4
    exact litFits_terms (List.all_eq_true.1 h3 l hl) t h5
theorem ruleFits_renamed {ar : List Int} {r : LRule} (h : ruleFits ar r = true) : ruleFits ar (renamed r) = true := by
  have ht := ruleFits_terms h
  have hR := renOk_rule r
  have htt := (termsOk_iff r).1 ht
  have hs := safe_renamed ht
  unfold ruleFits at h ⊢
  rw [Bool.and_eq_true, Bool.and_eq_true, Bool.and_eq_true] at h ⊢
  obtain ⟨h1, h2, h3, h4⟩ := h
  refine ⟨?_, ?_, ?_, hs h4⟩
  · unfold renamed
    rw [if_pos ht]
    exact atomFits_map h1 fun t h5 => look_ok hR (htt t (List.mem_append.2 (.inl h5)))
  · unfold renamed
    rw [if_pos ht]
    simpa using h2
  · unfold renamed
    rw [if_pos ht, List.all_map, List.all_eq_true]
    intro l hl
    exact litFits_map (List.all_eq_true.1 h3 l hl) fun t h5 => look_ok hR (htt t (List.mem_append.2 (.inr (List.mem_flatMap.2 ⟨l, hl, h5⟩))))

theorem range_below {k n : Nat} (h : k ≤ n) : (List.range n).filter (fun j => decide (j < k)) = List.range k := by
  obtain ⟨d, rfl⟩ : ∃ d, n = k + d := ⟨n - k, by omega⟩
  rw [List.range_add, List.filter_append]
  have h1 : (List.range k).filter (fun j => decide (j < k)) = List.range k := List.filter_eq_self.2 fun j hj => by simpa using hj
  have h2 : ((List.range d).map (k + ·)).filter (fun j => decide (j < k)) = [] := List.filter_eq_nil_iff.2 fun j hj => by
    obtain ⟨m, _, rfl⟩ := List.mem_map.1 hj
    simp
  rw [h1, h2, List.append_nil]
/-- The variables of a renamed rule. -/
theorem vars_renamed {r : LRule} (h : termsOk r = true) : varsOf (renamed r) = (List.range (renRule r).2).map fun j : Nat => (j : Int) := by
  have hR := renOk_rule r
  unfold varsOf bitsOf
  have e : (List.range 64).filter (fun j => (ruleMask (renamed r)).testBit j) = (List.range 64).filter (fun j => decide (j < (renRule r).2)) :=
    List.filter_congr fun j _ => by
      rw [Bool.eq_iff_iff, decide_eq_true_eq, ruleMask_bit]
      exact mask_renamed h j
  rw [e, range_below (by have := hR.le; omega)]
theorem count4 (f : Nat → Bool) (l : List Int) (h : l.length = 4) (hf : ∀ i, f i = decide (l.getD i 0 ≠ 0)) : ((List.range 64).filter f).length = l.countP (fun x => decide (x ≠ 0)) := by
  match l, h with
  | [a, b, c, d], _ =>
    have e : List.range 64 = [0, 1, 2, 3] ++ (List.range 60).map (4 + ·) := by rw [show 64 = 4 + 60 from rfl, List.range_add]; rfl
    have e2 : ((List.range 60).map (4 + ·)).filter f = [] := List.filter_eq_nil_iff.2 fun j hj => by
      obtain ⟨m, _, rfl⟩ := List.mem_map.1 hj
      rw [hf, Nat.add_comm]
      simp
    have f0 : f 0 = decide (a ≠ 0) := hf 0
    have f1 : f 1 = decide (b ≠ 0) := hf 1
    have f2 : f 2 = decide (c ≠ 0) := hf 2
    have f3 : f 3 = decide (d ≠ 0) := hf 3
    rw [e, List.filter_append, e2, List.append_nil]
    simp only [List.filter_cons, List.filter_nil, List.countP_cons, List.countP_nil, f0, f1, f2, f3]
    by_cases ha : a = 0 <;> by_cases hb : b = 0 <;> by_cases hc : c = 0 <;> by_cases hd : d = 0 <;> simp [ha, hb, hc, hd]
theorem vars_count (r : LRule) : (varsOf r).length = (renRule r).2 := by
  have hR := renOk_rule r
  unfold varsOf bitsOf
  rw [List.length_map, ← hR.cnt]
  refine count4 _ _ hR.len fun i => ?_
  rw [Bool.eq_iff_iff, decide_eq_true_eq, ruleMask_bit]
  exact (hR.occ i).symm

end Go.Proofs.YtfjmnjemmfmoaaaDoor
/-
  The specification's renaming: the walk of Renamed.
-/
namespace Go.Proofs.YtfjmnjemmfmoaaaDoor
open Go.RowKit

theorem makeI4 (w : World) : (Instr.makeSlice 23 (.int .i64 4) (.int .i64 4)).run Tryd.prog w = .ok (.slice (some ⟨w.heap.size, 0, none⟩) 4 4) (w.alloc (.cells #[.int .i64 0, .int .i64 0, .int .i64 0, .int .i64 0] 3)) := by
  have h := run_make_row' (P := Tryd.prog) 23 3 (.int .i64 0) 8 Tryd.underlying23 Tryd.infoInt rfl .i64 .i64 4 (by omega) (by omega) w
  have e : madeCells #[Value.int IntKind.i64 0] 4 = #[.int .i64 0, .int .i64 0, .int .i64 0, .int .i64 0] := by
    rw [← Array.toList_inj]
    simp [madeCells, Array.toList_range, List.range_succ]
  rw [e] at h
  exact h

set_option maxHeartbeats 1000000 in
set_option maxRecDepth 100000 in
theorem specRenamed_any (v : Value) (r : LRule) (w : World) (h : RdRule w w.heap.size v r) (hr : szR r ≤ 1048576) :
    Calls Tryd.prog 13 #[v] w fun e w' => ∃ A c A2 c2, e = .returned (.agg #[.int .i64 (renamed r).1.1, .slice A (renamed r).1.2.length c, .slice A2 (renamed r).2.length c2]) ∧
      OwnInts w' w.heap.size w'.heap.size (.slice A (renamed r).1.2.length c) (renamed r).1.2 ∧ OwnLits w' w.heap.size w'.heap.size (.slice A2 (renamed r).2.length c2) (renamed r).2 ∧ Below w.heap.size w w' := by
  have hmk := makeI4
  obtain ⟨a, b, rfl, h, h2⟩ := h
  have hsz := hr
  unfold szR at hr
  have H := Lib.hid h
  have H2 := Lib.hid h2
  obtain ⟨A, c, rfl, hc, _⟩ := h
  obtain ⟨A2, c2, rfl, hcc, _⟩ := h2
  go_enter Tryd.func13, Tryd.ntmps13
  go_wp2_with (fail)
  obtain ⟨w1, hw1⟩ : ∃ w1, w1 = ((w.alloc (Obj.cells #[Value.int IntKind.i64 r.1.1, Value.slice A r.1.2.length c, Value.slice A2 r.2.length c2] 28)).alloc (Obj.cells #[Value.int IntKind.i64 0, Value.slice none 0 0, Value.slice none 0 0] 28)).alloc (Obj.cells #[.int .i64 0, .int .i64 0, .int .i64 0, .int .i64 0] 3) := ⟨_, rfl⟩
  have B1 : Below w.heap.size w w1 := by rw [hw1]; exact below3 _ _ _ _
  have s1 : w.heap.size + 3 = w1.heap.size := by rw [hw1]; simp
  have x1 : Blk w1 w.heap.size 28 #[.int .i64 r.1.1, .slice A r.1.2.length c, .slice A2 r.2.length c2] := by rw [hw1]; exact ((Blk.new w _ _).alloc _).alloc _
  have y1 : Blk w1 (w.heap.size + 1) 28 #[.int .i64 0, .slice none 0 0, .slice none 0 0] := by
    rw [hw1]
    have := (Blk.new (w.alloc (Obj.cells #[Value.int IntKind.i64 r.1.1, Value.slice A r.1.2.length c, Value.slice A2 r.2.length c2] 28)) 28 #[.int .i64 0, .slice none 0 0, .slice none 0 0]).alloc (Obj.cells #[.int .i64 0, .int .i64 0, .int .i64 0, .int .i64 0] 3)
    simpa using this
  have t1 : ToAt w1 (w.heap.size + 1 + 1) ren0 := by
    rw [hw1]
    have := Blk.new ((w.alloc (Obj.cells #[Value.int IntKind.i64 r.1.1, Value.slice A r.1.2.length c, Value.slice A2 r.2.length c2] 28)).alloc (Obj.cells #[Value.int IntKind.i64 0, Value.slice none 0 0, Value.slice none 0 0] 28)) 3 #[.int .i64 0, .int .i64 0, .int .i64 0, .int .i64 0]
    exact ⟨0, 0, 0, 0, rfl, by simpa using this⟩
  rw [← hw1]
  clear hw1
  have S1 := Lib.hid s1
  clear s1
  have q1 : w1.cell? ⟨w.heap.size, 1, none⟩ = some (.slice A r.1.2.length c) := x1.cell 1
  have q2 : w1.cell? ⟨w.heap.size, 2, none⟩ = some (.slice A2 r.2.length c2) := x1.cell 2
  have k0 : w1.cell? ⟨w.heap.size + 1, 0, none⟩ = some (.int .i64 0) := y1.cell 0
  have k1 : w1.cell? ⟨w.heap.size + 1, 1, none⟩ = some (.slice none 0 0) := y1.cell 1
  have k2 : w1.cell? ⟨w.heap.size + 1, 2, none⟩ = some (.slice none 0 0) := y1.cell 2
  have j0 := y1.frozen 0
  have j1 := y1.frozen 1
  have j2 := y1.frozen 2
  cases hh : r.1.2.all termOk
  · have hno : termsOk r = false := by unfold termsOk; rw [hh, Bool.and_false]
    have HNO := Lib.hid (renamed_no hno)
    have HH := Lib.hid hh
    clear hh hno
    refine (l2Terms_any _ r.1.2 _ _ (H.out.on B1) (by omega)).mono ?_
    rw [HH.out]
    rintro e w' ⟨rfl, rfl⟩
    have BW : Below w.heap.size w (((w1.setCell ⟨w.heap.size + 1, 0, none⟩ (.int .i64 0)).setCell ⟨w.heap.size + 1, 1, none⟩ (.slice none 0 0)).setCell ⟨w.heap.size + 1, 2, none⟩ (.slice none 0 0)) := (((B1.setCell (by simp) _).setCell (by simp) _).setCell (by simp) _)
    have HY := y1.set3 (.int .i64 0) (.slice none 0 0) (.slice none 0 0)
    go_wp2_with (fail)
    generalize (((w1.setCell ⟨w.heap.size + 1, 0, none⟩ (.int .i64 0)).setCell ⟨w.heap.size + 1, 1, none⟩ (.slice none 0 0)).setCell ⟨w.heap.size + 1, 2, none⟩ (.slice none 0 0)) = W at BW HY ⊢
    have d0 : W.cell? ⟨w.heap.size + 1, 0, none⟩ = some (.int .i64 0) := HY.cell 0
    have d1 : W.cell? ⟨w.heap.size + 1, 1, none⟩ = some (.slice none 0 0) := HY.cell 1
    have d2 : W.cell? ⟨w.heap.size + 1, 2, none⟩ = some (.slice none 0 0) := HY.cell 2
    refine bodyPost_ret (v := .agg #[.int .i64 0, .slice none 0 0, .slice none 0 0]) (by simp [results, Tryd.results13, go_sem, d0, d1, d2]) rfl ?_
    rw [HNO.out]
    exact ⟨none, 0, none, 0, rfl, ⟨World.ownsRow_nil _ _ _ _, fun g hg => by cases hg⟩, ⟨none, 0, rfl, Nat.le_refl _, fun hn => absurd hn (by simp)⟩, BW⟩
  · have HH := Lib.hid hh
    clear hh
    refine (l2Terms_any _ r.1.2 _ _ (H.out.on B1) (by omega)).mono ?_
    rw [HH.out]
    rintro e w' ⟨rfl, rfl⟩
    go_wp2_with (fail)
    go_loopw [4] (fun i wr => ∃ k : Nat, k ≤ r.2.length ∧ i = .int .i64 k ∧ AllTo (fun l : LLit => l.2.2.all termOk) r.2 k ∧ wr = w1) (fun i _ => r.2.length - (intOf i).toNat)
    case atStart => exact ⟨0, Nat.zero_le _, rfl, AllTo.start, rfl⟩
    case round =>
      obtain ⟨k, hk, rfl, hs, rfl⟩ := hrel
      by_cases hlt : k < r.2.length
      · obtain ⟨b, o, u0, u1, u2, rfl, hbB, p0, p1, p2, rfl, rfl, p3⟩ := (H2.out.on B1).get hlt
        have HA := Lib.hid p3
        obtain ⟨A3, c3, rfl, hc3, _⟩ := p3
        have hle := len_le_totL r.2 k hlt
        cases ht : r.2[k].2.2.all termOk
        · have hno : termsOk r = false := by
            have : (r.2.all fun l => l.2.2.all termOk) = false := by
              rw [List.all_eq_false]
              exact ⟨r.2[k], List.getElem_mem _, by rw [ht]; decide⟩
            unfold termsOk
            rw [this]
            rfl
          have HNO := Lib.hid (renamed_no hno)
          have HT := Lib.hid ht
          clear hs ht hno
          have BW : Below w.heap.size w (((wr.setCell ⟨w.heap.size + 1, 0, none⟩ (.int .i64 0)).setCell ⟨w.heap.size + 1, 1, none⟩ (.slice none 0 0)).setCell ⟨w.heap.size + 1, 2, none⟩ (.slice none 0 0)) := (((B1.setCell (by simp) _).setCell (by simp) _).setCell (by simp) _)
          have HY := y1.set3 (.int .i64 0) (.slice none 0 0) (.slice none 0 0)
          go_wp2_with (go_at_call 60; refine (l2Terms_any _ r.2[k].2.2 _ _ HA.out (by omega)).mono ?_; rw [HT.out]; rintro e w' ⟨rfl, rfl⟩)
          generalize (((wr.setCell ⟨w.heap.size + 1, 0, none⟩ (.int .i64 0)).setCell ⟨w.heap.size + 1, 1, none⟩ (.slice none 0 0)).setCell ⟨w.heap.size + 1, 2, none⟩ (.slice none 0 0)) = W at BW HY ⊢
          have d0 : W.cell? ⟨w.heap.size + 1, 0, none⟩ = some (.int .i64 0) := HY.cell 0
          have d1 : W.cell? ⟨w.heap.size + 1, 1, none⟩ = some (.slice none 0 0) := HY.cell 1
          have d2 : W.cell? ⟨w.heap.size + 1, 2, none⟩ = some (.slice none 0 0) := HY.cell 2
          refine bodyPost_ret (v := .agg #[.int .i64 0, .slice none 0 0, .slice none 0 0]) (by simp [results, Tryd.results13, go_sem, d0, d1, d2]) rfl ?_
          rw [HNO.out]
          exact ⟨none, 0, none, 0, rfl, ⟨World.ownsRow_nil _ _ _ _, fun g hg => by cases hg⟩, ⟨none, 0, rfl, Nat.le_refl _, fun hn => absurd hn (by simp)⟩, BW⟩
        · have HS := Lib.hid (hs.step hlt ht)
          have HT := Lib.hid ht
          clear hs ht
          go_wp2_with (go_at_call 60; refine (l2Terms_any _ r.2[k].2.2 _ _ HA.out (by omega)).mono ?_; rw [HT.out]; rintro e w' ⟨rfl, rfl⟩)
          go_roundw
          case rel => exact ⟨k + 1, by omega, by go_num, HS.out, trivial⟩
          case measure => simp [intOf]; omega
      · have hyes : termsOk r = true := by
          have : (r.2.all fun l => l.2.2.all termOk) = true := AllTo.done hs (by omega)
          unfold termsOk
          rw [this, HH.out]
          rfl
        have HYES := Lib.hid hyes
        clear hs hyes
        go_wp2_with (fail)
        refine (l2Number_any (w.heap.size + 1 + 1) ren0 _ r.1.2 _ t1 ((H.out.below B1 (Nat.le_refl _)).more (by omega)) (by omega) (by decide) HH.out).mono ?_
        rintro e w2 ⟨rfl, t2, on2⟩
        have B2 := Only.then_ B1 on2 (by omega)
        have x2 := x1.only on2 (.inl (by omega))
        have y2 := y1.only on2 (.inl (by omega))
        have HC := Lib.hid (renList_big r.1.2 ren0)
        clear q1 q2 k0 k1 k2
        go_wp2_with (fail)
        go_loopw [5, 6] (fun m i wr => ∃ k : Nat, k ≤ r.2.length ∧ i = .int .i64 k ∧ m = .int .i64 ((renBody (renList ren0 r.1.2) (r.2.take k)).2 : Int) ∧ ToAt wr (w.heap.size + 1 + 1) (renBody (renList ren0 r.1.2) (r.2.take k)) ∧ Only (w.heap.size + 1 + 1) (w.heap.size + 1 + 1 + 1) w2 wr) (fun _ i _ => r.2.length - (intOf i).toNat)
        case atStart => exact ⟨0, Nat.zero_le _, rfl, rfl, t2, Only.refl _ _ _⟩
        case round =>
          obtain ⟨k, hk, rfl, rfl, ht, hon⟩ := hrel
          have BW := Only.then_ B2 hon (by omega)
          have xr := x2.only hon (.inl (by omega))
          have yr := y2.only hon (.inl (by omega))
          have q2 : wr.cell? ⟨w.heap.size, 2, none⟩ = some (.slice A2 r.2.length c2) := xr.cell 2
          have hgw := ht.lt
          by_cases hlt : k < r.2.length
          · obtain ⟨b, o, u0, u1, u2, rfl, hbB, p0, p1, p2, rfl, rfl, p3⟩ := (H2.out.below BW (Nat.le_refl _)).get hlt
            have HA := Lib.hid p3
            obtain ⟨A3, c3, rfl, hc3, _⟩ := p3
            have hle := len_le_totL r.2 k hlt
            have hcn := renBody_count (r.2.take k) (renList ren0 r.1.2)
            have htk := totL_take_le r.2 k
            have hcn0 := HC.out
            have hcn1 : (renBody (renList ren0 r.1.2) (r.2.take k)).2 ≤ 4611686014132420000 := by
              have : ren0.2 = 0 := rfl
              omega
            have hokk := HYES.out
            unfold termsOk at hokk
            simp only [Bool.and_eq_true] at hokk
            have HO3 := Lib.hid (List.all_eq_true.1 hokk.1 _ (List.getElem_mem hlt))
            have HTT := Lib.hid ht
            have HST := Lib.hid (renBody_take (renList ren0 r.1.2) hlt)
            have HON := Lib.hid hon
            clear hokk hcn htk hcn0 ht hon
            go_wp2_with (fail)
            refine (l2Number_any (w.heap.size + 1 + 1) _ _ r.2[k].2.2 _ HTT.out (HA.out.more (by omega)) (by omega) hcn1 HO3.out).mono ?_
            rintro e w4 ⟨rfl, t4, on4⟩
            rw [← HST.out] at t4 ⊢
            go_wp2_with (fail)
            go_roundw
            case rel => exact ⟨k + 1, by omega, by go_num, rfl, t4, HON.out.trans on4⟩
            case measure => simp [intOf]; omega
          · have hkn : k = r.2.length := by omega
            have HTT := Lib.hid (show ToAt wr (w.heap.size + 1 + 1) (renRule r) by rw [hkn, List.take_length] at ht; exact ht)
            have q0 : wr.cell? ⟨w.heap.size, 0, none⟩ = some (.int .i64 r.1.1) := xr.cell 0
            have q1 : wr.cell? ⟨w.heap.size, 1, none⟩ = some (.slice A r.1.2.length c) := xr.cell 1
            clear hkn ht
            go_wp2_with (fail)
            refine (l2Rule_any (renRule r) (w.heap.size + 1 + 1) _ r _ HTT.out ⟨_, _, rfl, H.out.on BW, H2.out.on BW⟩ hsz HYES.out).mono ?_
            rintro e w5 ⟨A5, c5, A6, c6, rfl, ho5, hl5, hb5⟩
            have B5 := bthen BW hb5
            have y5 := yr.below hb5 yr.lt
            have sr : w.heap.size + 2 ≤ wr.heap.size := by omega
            obtain ⟨W, hW⟩ : ∃ W, W = ((w5.setCell ⟨w.heap.size + 1, 0, none⟩ (.int .i64 r.1.1)).setCell ⟨w.heap.size + 1, 1, none⟩ (.slice A5 r.1.2.length c5)).setCell ⟨w.heap.size + 1, 2, none⟩ (.slice A6 r.2.length c6) := ⟨_, rfl⟩
            have HY := Lib.hid (show Blk W (w.heap.size + 1) 28 #[.int .i64 r.1.1, .slice A5 r.1.2.length c5, .slice A6 r.2.length c6] by rw [hW]; exact y5.set3 _ _ _)
            have BWW : Below w.heap.size w W := by
              rw [hW]
              exact (((B5.setCell (by simp) _).setCell (by simp) _).setCell (by simp) _)
            have hsW : W.heap.size = w5.heap.size := by rw [hW]; simp
            have hOW : OwnInts W wr.heap.size w5.heap.size (.slice A5 r.1.2.length c5) (r.1.2.map (look (renRule r))) := by
              rw [hW]
              exact ho5.set3 (by omega) _ _ _
            have hLW : OwnLits W wr.heap.size w5.heap.size (.slice A6 r.2.length c6) (r.2.map (lookLit (renRule r))) := by
              rw [hW]
              exact ((hl5.far (p := ⟨w.heap.size + 1, 0, none⟩) (by simp; omega) _).far (p := ⟨w.heap.size + 1, 1, none⟩) (by simp; omega) _).far (p := ⟨w.heap.size + 1, 2, none⟩) (by simp; omega) _
            have hren : renamed r = ((r.1.1, r.1.2.map (look (renRule r))), r.2.map (lookLit (renRule r))) := by unfold renamed; rw [if_pos HYES.out]
            have HF := Lib.hid (show ∃ A c A2 c2, (.agg #[.int .i64 r.1.1, .slice A5 r.1.2.length c5, .slice A6 r.2.length c6] : Value) = (.agg #[.int .i64 (renamed r).1.1, .slice A (renamed r).1.2.length c, .slice A2 (renamed r).2.length c2]) ∧
                OwnInts W w.heap.size W.heap.size (.slice A (renamed r).1.2.length c) (renamed r).1.2 ∧ OwnLits W w.heap.size W.heap.size (.slice A2 (renamed r).2.length c2) (renamed r).2 ∧ Below w.heap.size w W from by
              rw [hren]
              refine ⟨A5, c5, A6, c6, by simp, ?_, ?_, BWW⟩
              · simp only [List.length_map]
                exact hOW.mono (by omega) (by omega)
              · simp only [List.length_map]
                exact hLW.mono (by omega) (by omega))
            have HWW := Lib.hid hW
            have z0 : w5.cell? ⟨w.heap.size + 1, 0, none⟩ = some (.int .i64 0) := y5.cell 0
            have z1 : w5.cell? ⟨w.heap.size + 1, 1, none⟩ = some (.slice none 0 0) := y5.cell 1
            have z2 : w5.cell? ⟨w.heap.size + 1, 2, none⟩ = some (.slice none 0 0) := y5.cell 2
            have g0 := y5.frozen 0
            have g1 := y5.frozen 1
            have g2 := y5.frozen 2
            clear hW hren hLW hOW hsW BWW ho5 hl5 q0 q1 q2
            go_wp2_with (fail)
            rw [← HWW.out]
            have d0 : W.cell? ⟨w.heap.size + 1, 0, none⟩ = some (.int .i64 r.1.1) := HY.out.cell 0
            have d1 : W.cell? ⟨w.heap.size + 1, 1, none⟩ = some (.slice A5 r.1.2.length c5) := HY.out.cell 1
            have d2 : W.cell? ⟨w.heap.size + 1, 2, none⟩ = some (.slice A6 r.2.length c6) := HY.out.cell 2
            refine bodyPost_ret (v := .agg #[.int .i64 r.1.1, .slice A5 r.1.2.length c5, .slice A6 r.2.length c6]) (by simp [results, Tryd.results13, go_sem, d0, d1, d2]) rfl ?_
            obtain ⟨A7, c7, A8, c8, hv, h1, h2, h3⟩ := HF.out
            exact ⟨A7, c7, A8, c8, by rw [hv], h1, h2, h3⟩

end Go.Proofs.YtfjmnjemmfmoaaaDoor
/-
  The walk of the plain laws' wrInts.
-/
namespace Go.Proofs.YtfjmnjemmfmoaaaDoor
open Go.RowKit

theorem RdInts.at_ {w : World} {B c : Nat} {A : Option Addr} {xs : List Int} (h : RdInts w B (.slice A xs.length c) xs) {k : Nat} (hk : k < xs.length) : ∃ b o, A = some ⟨b, o, none⟩ ∧ b < B ∧ w.cell? ⟨b, o + k, none⟩ = some (.int .i64 xs[k]) := by
  obtain ⟨A', c', e, _, hx⟩ := h
  injection e with e1 _ _
  subst e1
  obtain ⟨b, o, rfl, hb, hx⟩ := hx (by omega)
  exact ⟨b, o, rfl, hb, hx k hk⟩

set_option maxHeartbeats 1000000 in
set_option maxRecDepth 100000 in
theorem wrInts_any (va vb : Value) (xs ys : List Int) (w : World) (ha : RdInts w w.heap.size va xs) (hb : RdInts w w.heap.size vb ys) (hx : xs.length ≤ 1048576) (hy : ys.length ≤ 1048576) :
    Calls Tryd.prog 17 #[va, vb] w fun e w' => e = .returned (.bool (decide (xs = ys))) ∧ Below w.heap.size w w' := by
  have HX := Lib.hid ha
  have HY := Lib.hid hb
  obtain ⟨A, c, rfl, hc, _⟩ := ha
  obtain ⟨A2, c2, rfl, hc2, _⟩ := hb
  by_cases hl : xs.length = ys.length
  · have hl1 : ((xs.length : Int) != (ys.length : Int)) = false := by simp [hl]
    have HL := Lib.hid hl
    clear hl
    go_enter Tryd.func17, Tryd.ntmps17
    go_wp2_with (fail)
    go_loopw [13] (fun i wr => ∃ k : Nat, k ≤ xs.length ∧ i = .int .i64 k ∧ (∀ j, j < k → xs[j]? = ys[j]?) ∧ Below w.heap.size w wr) (fun i _ => xs.length - (intOf i).toNat)
    case atStart => exact ⟨0, Nat.zero_le _, rfl, fun j h => absurd h (Nat.not_lt_zero _), Below.refl _ _⟩
    case round =>
      obtain ⟨k, hk, rfl, hs, hbe⟩ := hrel
      by_cases hlt : k < xs.length
      · have hlt2 : k < ys.length := by have := HL.out; omega
        obtain ⟨b, o, rfl, hbB, k0⟩ := (HX.out.on hbe).at_ hlt
        obtain ⟨b2, o2, rfl, hbB2, m0⟩ := (HY.out.on hbe).at_ hlt2
        have d0 : wr.drew.cell? ⟨b, o + k, none⟩ = some (.int .i64 xs[k]) := k0
        have d1 : wr.drew.cell? ⟨b2, o2 + k, none⟩ = some (.int .i64 ys[k]) := m0
        have HBE := Lib.hid hbe
        by_cases he : xs[k] = ys[k]
        · have hdb : (xs[k] != ys[k]) = false := by simp [he]
          have HS2 := Lib.hid (show ∀ j, j < k + 1 → xs[j]? = ys[j]? from fun j hj => by
            by_cases e : j = k
            · subst e; rw [List.getElem?_eq_getElem hlt, List.getElem?_eq_getElem hlt2, he]
            · exact hs j (by omega))
          clear he hs hbe
          go_upto_region 6 with fail
          go_big_region
          go_wp2_with (fail)
          go_roundw
          case rel => exact ⟨k + 1, by omega, by go_num, HS2.out, HBE.out.drew⟩
          case measure => simp [intOf]; omega
        · have hdb : (xs[k] != ys[k]) = true := by simpa using he
          have HE := Lib.hid (show decide (xs = ys) = false from decide_eq_false fun e => he (by subst e; rfl))
          clear he hs hbe
          go_upto_region 6 with fail
          go_big_region
          go_wp2_with (fail)
          go_ret
          exact ⟨ret_bool HE.out.symm, HBE.out.drew⟩
      · have HE := Lib.hid (show decide (xs = ys) = true from decide_eq_true (List.ext_getElem? fun j => by
          by_cases e : j < k
          · exact hs j e
          · have := HL.out
            rw [List.getElem?_eq_none (by omega), List.getElem?_eq_none (by omega)]))
        clear hs
        go_wp2_with (fail)
        go_ret
        exact ⟨ret_bool HE.out.symm, hbe⟩
  · have hl1 : ((xs.length : Int) != (ys.length : Int)) = true := by simp; omega
    have HE := Lib.hid (show decide (xs = ys) = false from decide_eq_false fun e => hl (by rw [e]))
    clear hl
    go_enter Tryd.func17, Tryd.ntmps17
    go_wp2_with (fail)
    go_ret
    exact ⟨ret_bool HE.out.symm, Below.refl _ _⟩

end Go.Proofs.YtfjmnjemmfmoaaaDoor
/-
  What comes in, opened into the words of the Base text.
-/
namespace Go.Proofs.YtfjmnjemmfmoaaaDoor
open Go.ChangeShapes Go.WideShapes Go.ChangeAt Go.RowKit Go.Joins Go.Deep

section
variable {H : Type} {enc : TypeId × Value → H} {W : World}

def InFact (W : World) (v : Value) (f : LFact) : Prop := RdFact W W.heap.size v f ∧ f.2.length ≤ maxLen
def InFacts (W : World) (v : Value) (fs : List LFact) : Prop := RdFacts W W.heap.size v fs ∧ fs.length ≤ maxLen ∧ ∀ k (h : k < fs.length), fs[k].2.length ≤ maxLen

end

end Go.Proofs.YtfjmnjemmfmoaaaDoor
/-
  A slice of bytes that came in.
-/
namespace Go.Proofs.YtfjmnjemmfmoaaaDoor
open Go.ChangeShapes Go.WideShapes Go.ChangeAt Go.RowKit Go.Joins Go.Deep

theorem Tryd.cells5 : Tryd.prog.cellsOf 5 = 1 := by kernel_rfl

/-- What is known of a slice of bytes that came in. -/
def InBytes (W : World) (v : Value) (bs : List Nat) : Prop := RdBytes W W.heap.size v bs ∧ bs.length ≤ maxLen ∧ ∀ b ∈ bs, b < 256

theorem byte_of_wf {n : Int} (h : (Lit.int .u8 n).wf = true) : 0 ≤ n ∧ n < 256 := by
  simp only [Lit.wf, Bool.and_eq_true, decide_eq_true_eq] at h
  have h1 : IntKind.u8.min = 0 := by decide
  have h2 : IntKind.u8.max = 255 := by decide
  omega

set_option maxRecDepth 100000 in
theorem open_inBytes {H : Type} {enc : TypeId × Value → H} {W : World} {v : Value} {d : DataW H} {p : List MemPlace} {b0 : Nat} (hv : Value.okWide Tryd.prog W .any b0 22 v) (h : DataW.Trod enc Tryd.prog W 0 (fun _ => true) true 22 v d p) :
    ∃ bs, InBytes W v bs := by
  obtain ⟨a, len, cap, rfl⟩ := okWide_slice Tryd.underlying22 hv
  obtain ⟨fuel, hf⟩ := h
  have hf : DataW.trod enc Tryd.prog W 0 (fun _ => true) true fuel 22 [.slice a len cap] = some (d, p) := by simpa [Value.cells] using hf
  rcases open_ints Tryd.underlying22 Tryd.underlying5 Tryd.cells5 hf with ⟨hcs, _⟩ | ⟨a, len, cap, zs, hcs, _, hl, hm, hz, _, hcell, hwz⟩
  · simp at hcs
    obtain ⟨rfl, rfl, rfl⟩ := hcs
    exact ⟨[], ⟨none, 0, rfl, by simp, fun h => absurd h (by simp)⟩, by simp, by simp⟩
  · simp at hcs
    obtain ⟨rfl, rfl, rfl⟩ := hcs
    simp at hz
    refine ⟨(zs.take len).map Int.toNat, ⟨some a, cap, ?_, by simp; omega, fun hn => ?_⟩, by simp; omega, ?_⟩
    · congr 1
      simp
      omega
    · have hlen : (zs.take len).length = len := by simp; omega
      simp only [List.length_map, hlen] at hn
      obtain ⟨b, o, rfl, hc⟩ := ints_at hcell (by omega)
      refine ⟨b, o, rfl, World.block_lt_of_cell? _ _ (hc 0 (by omega)), fun k hk => ?_⟩
      simp only [List.length_map, hlen] at hk
      have hw := byte_of_wf (hwz zs[k] (List.getElem_mem (by omega)))
      rw [hc k (by omega)]
      simp [show k < zs.length by omega]
      omega
    · intro b hb
      rw [List.mem_map] at hb
      obtain ⟨z, hz1, rfl⟩ := hb
      have := byte_of_wf (hwz z (List.mem_of_mem_take hz1))
      omega

end Go.Proofs.YtfjmnjemmfmoaaaDoor
/-
  The walk of the law FnRules.
-/
namespace Go.Proofs.YtfjmnjemmfmoaaaDoor
open Go.RowKit

theorem totL_look (s : Ren) (ls : List LLit) : totL (ls.map (lookLit s)) = totL ls := by
  unfold totL
  rw [List.map_map]
  congr 1
  apply List.map_congr_left
  intro l _
  simp [lookLit]
theorem szR_renamed (r : LRule) : szR (renamed r) ≤ szR r := by
  unfold renamed
  split
  · unfold szR
    rw [totL_look]
    simp
  · simp [szR, totL]

set_option maxHeartbeats 4000000 in
set_option maxRecDepth 100000 in
theorem lawPlainRules_any (v : Value) (code : List Nat) (w : World) (hr : RdBytes w w.heap.size v code) (_ : code.length ≤ maxLen) (hby : ∀ b ∈ code, b < 256) (hT : Tab w) :
    Calls Tryd.prog 3 #[v] w fun e w' => e = .returned (.bool true) ∧ Below w.heap.size w w' := by
  have HV := Lib.hid hr
  have HT := Lib.hid hT
  obtain ⟨Av, cv, rfl, hcv, _⟩ := hr
  clear hT
  go_enter Tryd.func3, Tryd.ntmps3
  by_cases hbig : 1048576 < code.length
  · have hd : decide ((1048576 : Int) < code.length) = true := by simp; omega
    go_wp2_with (fail)
    go_ret
    exact ⟨rfl, Below.refl _ _⟩
  have hd : decide ((1048576 : Int) < code.length) = false := by simp; omega
  have hbn : code.length ≤ 1073741824 := by omega
  go_wp2_with (fail)
  refine (drawRuleOk_any _ code w HV.out hby hbn).mono ?_
  rintro e w1 ⟨ar, r, A, c, A2, c2, A3, c3, rfl, hal, hsz, ra, rh, rb, B1⟩
  have HA := Lib.hid ra
  have HR := Lib.hid (show RdRule w1 w1.heap.size (.agg #[.int .i64 r.1.1, .slice A2 r.1.2.length c2, .slice A3 r.2.length c3]) r from ⟨_, _, rfl, rh, rb⟩)
  have HSR := Lib.hid (show szR r ≤ 1048576 by omega)
  clear ra rh rb
  go_upto_region 4 with fail
  obtain ⟨w2, hw2⟩ : ∃ w2, w2 = w1.alloc (Obj.cells #[Value.int .i64 r.1.1, Value.slice A2 r.1.2.length c2, Value.slice A3 r.2.length c3] 28) := ⟨_, rfl⟩
  have b2 : Below w1.heap.size w1 w2 := by rw [hw2]; exact below1 _ _
  have HX2 := Lib.hid (show Blk w2 w1.heap.size 28 #[.int .i64 r.1.1, .slice A2 r.1.2.length c2, .slice A3 r.2.length c3] by rw [hw2]; exact Blk.new _ _ _)
  rw [← hw2]
  clear hw2
  obtain ⟨D1, hD1⟩ : ∃ D1, D1 = w1.heap.size := ⟨_, rfl⟩
  rw [← hD1] at HX2 ⊢
  clear hD1
  have B2 := Lib.hid (bthen B1 b2)
  have HA2 := Lib.hid (HA.out.on b2)
  have HR2 := Lib.hid (HR.out.on b2)
  clear HA HR b2 B1
  have x0 : w2.cell? ⟨D1, 0, none⟩ = some (.int .i64 r.1.1) := HX2.out.cell 0
  have x1 : w2.cell? ⟨D1, 1, none⟩ = some (.slice A2 r.1.2.length c2) := HX2.out.cell 1
  have x2 : w2.cell? ⟨D1, 2, none⟩ = some (.slice A3 r.2.length c3) := HX2.out.cell 2
  obtain ⟨ro, hro⟩ : ∃ ro, ro = ruleOk ar r := ⟨_, rfl⟩
  have HRO := Lib.hid hro
  clear hro
  obtain ⟨x, hx⟩ : ∃ x, x = renamed r := ⟨_, rfl⟩
  have HXE := Lib.hid hx
  have hsx : szR x ≤ 16 := by rw [hx]; exact Nat.le_trans (szR_renamed r) hsz
  have HSX := Lib.hid (show szR x ≤ 1048576 by omega)
  have hxl : x.1.2.length ≤ 16 := by unfold szR at hsx; omega
  clear hx
  go_wp2_with (fail)
  refine (implRuleOk_any _ _ ar r w2 HA2.out HR2.out (by omega) HSR.out).mono ?_
  rw [← HRO.out]
  rintro e w3 ⟨rfl, b3⟩
  have HA3 := Lib.hid (HA2.out.on b3)
  have HR3 := Lib.hid (HR2.out.on b3)
  have HX3 := Lib.hid (HX2.out.below b3 HX2.out.lt)
  have B3 := Lib.hid (bthen B2.out b3)
  clear b3 x0 x1 x2 HA2 HR2 HX2 B2
  have x0 : w3.cell? ⟨D1, 0, none⟩ = some (.int .i64 r.1.1) := HX3.out.cell 0
  have x1 : w3.cell? ⟨D1, 1, none⟩ = some (.slice A2 r.1.2.length c2) := HX3.out.cell 1
  have x2 : w3.cell? ⟨D1, 2, none⟩ = some (.slice A3 r.2.length c3) := HX3.out.cell 2
  go_wp2_with (fail)
  refine (implRenamed_any _ r w3 HR3.out HSR.out).mono ?_
  rw [← HXE.out]
  rintro e w4 ⟨A4, c4, A5, c5, lo4, hi4, _, rfl, ⟨oh4, ob4⟩, _, _, _, hhi4, b4⟩
  have HA4 := Lib.hid (HA3.out.on b4)
  have HR4 := Lib.hid (HR3.out.on b4)
  have HX4 := Lib.hid (HX3.out.below b4 HX3.out.lt)
  have HN4 := Lib.hid (show RdInts w4 w4.heap.size (.slice A4 x.1.2.length c4) x.1.2 ∧ RdLits w4 w4.heap.size (.slice A5 x.2.length c5) x.2 from ⟨oh4.rd.more hhi4, ob4.rd.more hhi4⟩)
  have B4 := Lib.hid (bthen B3.out b4)
  clear b4 x0 x1 x2 HA3 HR3 HX3 B3 oh4 ob4
  go_upto_region 6 with fail
  obtain ⟨w5, hw5⟩ : ∃ w5, w5 = w4.alloc (Obj.cells #[Value.int .i64 x.1.1, Value.slice A4 x.1.2.length c4, Value.slice A5 x.2.length c5] 28) := ⟨_, rfl⟩
  have b5 : Below w4.heap.size w4 w5 := by rw [hw5]; exact below1 _ _
  have HY5 := Lib.hid (show Blk w5 w4.heap.size 28 #[.int .i64 x.1.1, .slice A4 x.1.2.length c4, .slice A5 x.2.length c5] by rw [hw5]; exact Blk.new _ _ _)
  rw [← hw5]
  clear hw5
  obtain ⟨D2, hD2⟩ : ∃ D2, D2 = w4.heap.size := ⟨_, rfl⟩
  rw [← hD2] at HY5 ⊢
  clear hD2
  have HA5 := Lib.hid (HA4.out.on b5)
  have HR5 := Lib.hid (HR4.out.on b5)
  have HX5 := Lib.hid (HX4.out.below b5 HX4.out.lt)
  have HN5 := Lib.hid (And.intro (HN4.out.1.on b5) (HN4.out.2.on b5))
  have B5 := Lib.hid (bthen B4.out b5)
  clear b5 HA4 HR4 HX4 HN4 B4
  have x0 : w5.cell? ⟨D1, 0, none⟩ = some (.int .i64 r.1.1) := HX5.out.cell 0
  have x1 : w5.cell? ⟨D1, 1, none⟩ = some (.slice A2 r.1.2.length c2) := HX5.out.cell 1
  have x2 : w5.cell? ⟨D1, 2, none⟩ = some (.slice A3 r.2.length c3) := HX5.out.cell 2
  go_wp2_with (fail)
  refine (specRenamed_any _ r w5 HR5.out HSR.out).mono ?_
  rw [← HXE.out]
  rintro e w6 ⟨A6, c6, A7, c7, rfl, oh6, ob6, b6⟩
  have HA6 := Lib.hid (HA5.out.on b6)
  have HR6 := Lib.hid (HR5.out.on b6)
  have HX6 := Lib.hid (HX5.out.below b6 HX5.out.lt)
  have HY6 := Lib.hid (HY5.out.below b6 HY5.out.lt)
  have HN6 := Lib.hid (And.intro (HN5.out.1.on b6) (HN5.out.2.on b6))
  have HM6 := Lib.hid oh6.rd
  have B6 := Lib.hid (bthen B5.out b6)
  clear b6 x0 x1 x2 HA5 HR5 HX5 HY5 HN5 B5 oh6 ob6
  go_upto_region 7 with fail
  obtain ⟨w7, hw7⟩ : ∃ w7, w7 = w6.alloc (Obj.cells #[Value.int .i64 x.1.1, Value.slice A6 x.1.2.length c6, Value.slice A7 x.2.length c7] 28) := ⟨_, rfl⟩
  have b7 : Below w6.heap.size w6 w7 := by rw [hw7]; exact below1 _ _
  have HZ7 := Lib.hid (show Blk w7 w6.heap.size 28 #[.int .i64 x.1.1, .slice A6 x.1.2.length c6, .slice A7 x.2.length c7] by rw [hw7]; exact Blk.new _ _ _)
  rw [← hw7]
  clear hw7
  obtain ⟨D3, hD3⟩ : ∃ D3, D3 = w6.heap.size := ⟨_, rfl⟩
  rw [← hD3] at HZ7 ⊢
  clear hD3
  have HX7 := Lib.hid (HX6.out.below b7 HX6.out.lt)
  have HY7 := Lib.hid (HY6.out.below b7 HY6.out.lt)
  have HA7 := Lib.hid (HA6.out.on b7)
  have HR7 := Lib.hid (HR6.out.on b7)
  have HN7 := Lib.hid (And.intro (HN6.out.1.on b7) (HN6.out.2.on b7))
  have HM7 := Lib.hid (HM6.out.on b7)
  have B7 := Lib.hid (bthen B6.out b7)
  clear b7 HA6 HR6 HX6 HY6 HN6 HM6 B6
  have HRD := Lib.hid (show ∀ W, Below w7.heap.size w7 W → RdInts W W.heap.size (.slice A ar.length c) ar ∧ RdRule W W.heap.size (.agg #[.int .i64 r.1.1, .slice A2 r.1.2.length c2, .slice A3 r.2.length c3]) r ∧ RdRule W W.heap.size (.agg #[.int .i64 x.1.1, .slice A4 x.1.2.length c4, .slice A5 x.2.length c5]) x ∧ RdInts W W.heap.size (.slice A4 x.1.2.length c4) x.1.2 ∧ RdInts W W.heap.size (.slice A6 x.1.2.length c6) x.1.2 from
    fun W hW => ⟨HA7.out.on hW, HR7.out.on hW, ⟨_, _, rfl, HN7.out.1.on hW, HN7.out.2.on hW⟩, HN7.out.1.on hW, HM7.out.on hW⟩)
  have HXY := Lib.hid (show ∀ W, Below w7.heap.size w7 W → Blk W D1 28 #[.int .i64 r.1.1, .slice A2 r.1.2.length c2, .slice A3 r.2.length c3] ∧ Blk W D2 28 #[.int .i64 x.1.1, .slice A4 x.1.2.length c4, .slice A5 x.2.length c5] ∧ Blk W D3 28 #[.int .i64 x.1.1, .slice A6 x.1.2.length c6, .slice A7 x.2.length c7] from
    fun W hW => ⟨HX7.out.below hW HX7.out.lt, HY7.out.below hW HY7.out.lt, HZ7.out.below hW HZ7.out.lt⟩)
  clear HA7 HR7 HX7 HY7 HZ7 HN7 HM7
  obtain ⟨vs, hvs⟩ : ∃ vs, vs = varsOf r := ⟨_, rfl⟩
  have HVS := Lib.hid hvs
  have hvl : vs.length ≤ 64 := by rw [hvs]; exact bitsOf_length _
  clear hvs
  have hn1 : (ro != ro) = false := by simp
  have hn2 : (ruleSafe r != ruleSafe r) = false := by simp
  obtain ⟨SS, hSS⟩ : ∃ SS : World → Prop, SS = (fun W => (W.cell? ⟨D1, 0, none⟩ = some (.int .i64 r.1.1) ∧ W.cell? ⟨D1, 1, none⟩ = some (.slice A2 r.1.2.length c2) ∧ W.cell? ⟨D1, 2, none⟩ = some (.slice A3 r.2.length c3)) ∧ (W.cell? ⟨D2, 0, none⟩ = some (.int .i64 x.1.1) ∧ W.cell? ⟨D2, 1, none⟩ = some (.slice A4 x.1.2.length c4) ∧ W.cell? ⟨D2, 2, none⟩ = some (.slice A5 x.2.length c5)) ∧ W.cell? ⟨D3, 0, none⟩ = some (.int .i64 x.1.1) ∧ W.cell? ⟨D3, 1, none⟩ = some (.slice A6 x.1.2.length c6) ∧ W.cell? ⟨D3, 2, none⟩ = some (.slice A7 x.2.length c7)) := ⟨_, rfl⟩
  have HB := Lib.hid (show ∀ W, SS W → (W.cell? ⟨D1, 0, none⟩ = some (.int .i64 r.1.1) ∧ W.cell? ⟨D1, 1, none⟩ = some (.slice A2 r.1.2.length c2) ∧ W.cell? ⟨D1, 2, none⟩ = some (.slice A3 r.2.length c3)) ∧ (W.cell? ⟨D2, 0, none⟩ = some (.int .i64 x.1.1) ∧ W.cell? ⟨D2, 1, none⟩ = some (.slice A4 x.1.2.length c4) ∧ W.cell? ⟨D2, 2, none⟩ = some (.slice A5 x.2.length c5)) ∧ W.cell? ⟨D3, 0, none⟩ = some (.int .i64 x.1.1) ∧ W.cell? ⟨D3, 1, none⟩ = some (.slice A6 x.1.2.length c6) ∧ W.cell? ⟨D3, 2, none⟩ = some (.slice A7 x.2.length c7) from by rw [hSS]; exact fun W hW => hW)
  have HC := Lib.hid (show ∀ W, Below w7.heap.size w7 W → SS W from by rw [hSS]; exact fun W hW => ⟨⟨(HXY.out W hW).1.cell 0, (HXY.out W hW).1.cell 1, (HXY.out W hW).1.cell 2⟩, ⟨(HXY.out W hW).2.1.cell 0, (HXY.out W hW).2.1.cell 1, (HXY.out W hW).2.1.cell 2⟩, (HXY.out W hW).2.2.cell 0, (HXY.out W hW).2.2.cell 1, (HXY.out W hW).2.2.cell 2⟩)
  clear hSS
  have B7d := Lib.hid (Below.refl w7.heap.size w7).drew
  have SB := HC.out _ B7d.out
  refine wp_region_rel SS 38 39 (by kernel_rfl) rfl ?_
  refine wpAnyR_pure (i := 0) (oi := _) ?v0 rfl rfl (by kernel_rfl) (by decide) (fun _ _ _ h => h) rfl ?hy0 (fun _ => SB) ?rest0
  case hy0 => (intro W; go_simp; (try with_reducible rfl))
  try simp only [List.setIfInBounds_toArray, List.set_cons_zero, List.set_cons_succ]
  refine wpAnyR_pure (i := 1) (oi := _) ?v1 rfl rfl (by kernel_rfl) (by decide) (fun _ _ _ h => h) rfl ?hy1 (fun _ => SB) ?rest1
  case hy1 => (intro W; go_simp; (try with_reducible rfl))
  try simp only [List.setIfInBounds_toArray, List.set_cons_zero, List.set_cons_succ]
  refine wpAnyR_take (i := 2) (oi := _) ?v2 rfl rfl (by kernel_rfl) (fun _ _ _ h => h) rfl ?hy2 SB ?rest2
  case hy2 => (intro W hW; obtain ⟨⟨E0, E1, E2⟩, ⟨F0, F1, F2⟩, G0, G1, G2⟩ := HB.out W hW; go_simp; (try with_reducible rfl))
  try simp only [List.setIfInBounds_toArray, List.set_cons_zero, List.set_cons_succ]
  refine wpAnyR_one (i := 3) (by kernel_rfl) rfl (fun K hK => ?_)
  try rw [if_pos (show Region.wanted _ _ = true from rfl)]
  go_simp
  refine (specRuleOk_any _ _ ar r _ (HRD.out _ B7d.out).1 (HRD.out _ B7d.out).2.1 (by omega) HSR.out).mono ?_
  rw [← HRO.out]
  rintro e w8 ⟨rfl, b8⟩
  have B8 := Lib.hid (bthen B7d.out b8)
  have S8 := HC.out _ B8.out
  clear b8
  refine hK.out _ _ (fun _ => S8) ?_
  clear hK K
  try simp only [List.setIfInBounds_toArray, List.set_cons_zero, List.set_cons_succ, Act.put]
  refine wpAnyR_pure (i := 4) (oi := _) (.bool false) rfl rfl (by kernel_rfl) (by decide) (fun _ _ _ h => h) rfl ?hy4 (fun _ => S8) ?rest4
  case hy4 => (intro W; go_simp; (try simp))
  try simp only [List.setIfInBounds_toArray, List.set_cons_zero, List.set_cons_succ]
  refine wpAnyR_pure (i := 5) (oi := _) (.bool false) rfl rfl (by kernel_rfl) (by decide) (fun _ _ _ h => h) rfl ?hy5 (fun _ => S8) ?rest5
  case hy5 => (intro W; go_simp; (try simp))
  try simp only [List.setIfInBounds_toArray, List.set_cons_zero, List.set_cons_succ]
  refine wpAnyR_take (i := 6) (oi := _) ?v6 rfl rfl (by kernel_rfl) (fun _ _ _ h => h) rfl ?hy6 S8 ?rest6
  case hy6 => (intro W hW; obtain ⟨⟨E0, E1, E2⟩, ⟨F0, F1, F2⟩, G0, G1, G2⟩ := HB.out W hW; go_simp; (try with_reducible rfl))
  try simp only [List.setIfInBounds_toArray, List.set_cons_zero, List.set_cons_succ]
  refine wpAnyR_take (i := 8) (oi := _) ?v8 rfl rfl (by kernel_rfl) (fun _ _ _ h => h) rfl ?hy8 S8 ?rest8
  case hy8 => (intro W hW; obtain ⟨⟨E0, E1, E2⟩, ⟨F0, F1, F2⟩, G0, G1, G2⟩ := HB.out W hW; go_simp; (try with_reducible rfl))
  try simp only [List.setIfInBounds_toArray, List.set_cons_zero, List.set_cons_succ]
  refine wpAnyR_one (i := 7) (by kernel_rfl) rfl (fun K hK => ?_)
  try rw [if_pos (show Region.wanted _ _ = true from rfl)]
  go_simp
  refine (implRuleSafe_any _ r _ (HRD.out _ B8.out).2.1 HSR.out).mono ?_
  rintro e w9 ⟨rfl, b9⟩
  have B9 := Lib.hid (bthen B8.out b9)
  have S9 := HC.out _ B9.out
  clear b9
  refine hK.out _ _ (fun _ => S9) ?_
  clear hK K
  try simp only [List.setIfInBounds_toArray, List.set_cons_zero, List.set_cons_succ, Act.put]
  refine wpAnyR_one (i := 9) (by kernel_rfl) rfl (fun K hK => ?_)
  try rw [if_pos (show Region.wanted _ _ = true from rfl)]
  go_simp
  refine (specRuleSafe_any _ r _ (HRD.out _ B9.out).2.1 HSR.out).mono ?_
  rintro e w10 ⟨rfl, b10⟩
  have B10 := Lib.hid (bthen B9.out b10)
  have S10 := HC.out _ B10.out
  clear b10
  refine hK.out _ _ (fun _ => S10) ?_
  clear hK K
  try simp only [List.setIfInBounds_toArray, List.set_cons_zero, List.set_cons_succ, Act.put]
  refine wpAnyR_pure (i := 10) (oi := _) (.bool false) rfl rfl (by kernel_rfl) (by decide) (fun _ _ _ h => h) rfl ?hy10 (fun _ => S10) ?rest10
  case hy10 => (intro W; go_simp; (try simp))
  try simp only [List.setIfInBounds_toArray, List.set_cons_zero, List.set_cons_succ]
  refine wpAnyR_pure (i := 11) (oi := _) (.bool false) rfl rfl (by kernel_rfl) (by decide) (fun _ _ _ h => h) rfl ?hy11 (fun _ => S10) ?rest11
  case hy11 => (intro W; go_simp; (try simp))
  try simp only [List.setIfInBounds_toArray, List.set_cons_zero, List.set_cons_succ]
  refine wpAnyR_pure (i := 12) (oi := _) (.bool false) rfl rfl (by kernel_rfl) (by decide) (fun _ _ _ h => h) rfl ?hy12 (fun _ => S10) ?rest12
  case hy12 => (intro W; go_simp; (try simp))
  try simp only [List.setIfInBounds_toArray, List.set_cons_zero, List.set_cons_succ]
  refine wpAnyR_take (i := 13) (oi := _) ?v13 rfl rfl (by kernel_rfl) (fun _ _ _ h => h) rfl ?hy13 S10 ?rest13
  case hy13 => (intro W hW; obtain ⟨⟨E0, E1, E2⟩, ⟨F0, F1, F2⟩, G0, G1, G2⟩ := HB.out W hW; go_simp; (try with_reducible rfl))
  try simp only [List.setIfInBounds_toArray, List.set_cons_zero, List.set_cons_succ]
  refine wpAnyR_take (i := 15) (oi := _) ?v15 rfl rfl (by kernel_rfl) (fun _ _ _ h => h) rfl ?hy15 S10 ?rest15
  case hy15 => (intro W hW; obtain ⟨⟨E0, E1, E2⟩, ⟨F0, F1, F2⟩, G0, G1, G2⟩ := HB.out W hW; go_simp; (try with_reducible rfl))
  try simp only [List.setIfInBounds_toArray, List.set_cons_zero, List.set_cons_succ]
  refine wpAnyR_one (i := 14) (by kernel_rfl) rfl (fun K hK => ?_)
  try rw [if_pos (show Region.wanted _ _ = true from rfl)]
  go_simp
  refine (implVarsOf_any _ r _ (HRD.out _ B10.out).2.1 HSR.out (HT.out.below (bthen B7.out B10.out))).mono ?_
  rw [← HVS.out]
  rintro e w11 ⟨A11, c11, rfl, o11, b11⟩
  have B11 := Lib.hid (bthen B10.out b11)
  have S11 := HC.out _ B11.out
  have HV11 := Lib.hid o11.rd
  clear o11
  clear b11
  refine hK.out _ _ (fun _ => S11) ?_
  clear hK K
  try simp only [List.setIfInBounds_toArray, List.set_cons_zero, List.set_cons_succ, Act.put]
  refine wpAnyR_one (i := 16) (by kernel_rfl) rfl (fun K hK => ?_)
  try rw [if_pos (show Region.wanted _ _ = true from rfl)]
  go_simp
  refine (specVarsOf_any _ r _ (HRD.out _ B11.out).2.1 HSR.out).mono ?_
  rw [← HVS.out]
  rintro e w12 ⟨A12, c12, rfl, o12, b12⟩
  have B12 := Lib.hid (bthen B11.out b12)
  have S12 := HC.out _ B12.out
  have HV12 := Lib.hid (And.intro (HV11.out.on b12) o12.rd)
  clear o12
  clear b12
  refine hK.out _ _ (fun _ => S12) ?_
  clear hK K
  try simp only [List.setIfInBounds_toArray, List.set_cons_zero, List.set_cons_succ, Act.put]
  refine wpAnyR_one (i := 17) (by kernel_rfl) rfl (fun K hK => ?_)
  try rw [if_pos (show Region.wanted _ _ = true from rfl)]
  go_simp
  refine (wrInts_any _ _ vs vs _ HV12.out.1 HV12.out.2 (by omega) (by omega)).mono ?_
  rw [show decide (vs = vs) = true by simp]
  rintro e w13 ⟨rfl, b13⟩
  have B13 := Lib.hid (bthen B12.out b13)
  have S13 := HC.out _ B13.out
  clear b13
  refine hK.out _ _ (fun _ => S13) ?_
  clear hK K
  try simp only [List.setIfInBounds_toArray, List.set_cons_zero, List.set_cons_succ, Act.put]
  refine wpAnyR_pure (i := 18) (oi := _) (.bool false) rfl rfl (by kernel_rfl) (by decide) (fun _ _ _ h => h) rfl ?hy18 (fun _ => S13) ?rest18
  case hy18 => (intro W; go_simp; (try simp))
  try simp only [List.setIfInBounds_toArray, List.set_cons_zero, List.set_cons_succ]
  refine wpAnyR_pure (i := 19) (oi := _) (.bool false) rfl rfl (by kernel_rfl) (by decide) (fun _ _ _ h => h) rfl ?hy19 (fun _ => S13) ?rest19
  case hy19 => (intro W; go_simp; (try simp))
  try simp only [List.setIfInBounds_toArray, List.set_cons_zero, List.set_cons_succ]
  refine wpAnyR_pure (i := 20) (oi := _) (.bool false) rfl rfl (by kernel_rfl) (by decide) (fun _ _ _ h => h) rfl ?hy20 (fun _ => S13) ?rest20
  case hy20 => (intro W; go_simp; (try simp))
  try simp only [List.setIfInBounds_toArray, List.set_cons_zero, List.set_cons_succ]
  refine wpAnyR_pure (i := 21) (oi := _) ?v21 rfl rfl (by kernel_rfl) (by decide) (fun _ _ _ h => h) rfl ?hy21 (fun _ => S13) ?rest21
  case hy21 => (intro W; go_simp; (try with_reducible rfl))
  try simp only [List.setIfInBounds_toArray, List.set_cons_zero, List.set_cons_succ]
  refine wpAnyR_pure (i := 24) (oi := _) ?v24 rfl rfl (by kernel_rfl) (by decide) (fun _ _ _ h => h) rfl ?hy24 (fun _ => S13) ?rest24
  case hy24 => (intro W; go_simp; (try with_reducible rfl))
  try simp only [List.setIfInBounds_toArray, List.set_cons_zero, List.set_cons_succ]
  refine wpAnyR_take (i := 22) (oi := _) ?v22 rfl rfl (by kernel_rfl) (fun _ _ _ h => h) rfl ?hy22 S13 ?rest22
  case hy22 => (intro W hW; obtain ⟨⟨E0, E1, E2⟩, ⟨F0, F1, F2⟩, G0, G1, G2⟩ := HB.out W hW; go_simp; (try with_reducible rfl))
  try simp only [List.setIfInBounds_toArray, List.set_cons_zero, List.set_cons_succ]
  refine wpAnyR_take (i := 25) (oi := _) ?v25 rfl rfl (by kernel_rfl) (fun _ _ _ h => h) rfl ?hy25 S13 ?rest25
  case hy25 => (intro W hW; obtain ⟨⟨E0, E1, E2⟩, ⟨F0, F1, F2⟩, G0, G1, G2⟩ := HB.out W hW; go_simp; (try with_reducible rfl))
  try simp only [List.setIfInBounds_toArray, List.set_cons_zero, List.set_cons_succ]
  refine wpAnyR_pure (i := 23) (oi := _) ?v23 rfl rfl (by kernel_rfl) (by decide) (fun _ _ _ h => h) rfl ?hy23 (fun _ => S13) ?rest23
  case hy23 => (intro W; go_simp; (try with_reducible rfl))
  try simp only [List.setIfInBounds_toArray, List.set_cons_zero, List.set_cons_succ]
  refine wpAnyR_pure (i := 26) (oi := _) ?v26 rfl rfl (by kernel_rfl) (by decide) (fun _ _ _ h => h) rfl ?hy26 (fun _ => S13) ?rest26
  case hy26 => (intro W; go_simp; (try with_reducible rfl))
  try simp only [List.setIfInBounds_toArray, List.set_cons_zero, List.set_cons_succ]
  refine wpAnyR_pure (i := 27) (oi := _) (.bool false) rfl rfl (by kernel_rfl) (by decide) (fun _ _ _ h => h) rfl ?hy27 (fun _ => S13) ?rest27
  case hy27 => (intro W; go_simp; (try simp))
  try simp only [List.setIfInBounds_toArray, List.set_cons_zero, List.set_cons_succ]
  refine wpAnyR_pure (i := 28) (oi := _) (.bool false) rfl rfl (by kernel_rfl) (by decide) (fun _ _ _ h => h) rfl ?hy28 (fun _ => S13) ?rest28
  case hy28 => (intro W; go_simp; (try simp))
  try simp only [List.setIfInBounds_toArray, List.set_cons_zero, List.set_cons_succ]
  refine wpAnyR_pure (i := 29) (oi := _) (.bool false) rfl rfl (by kernel_rfl) (by decide) (fun _ _ _ h => h) rfl ?hy29 (fun _ => S13) ?rest29
  case hy29 => (intro W; go_simp; (try simp))
  try simp only [List.setIfInBounds_toArray, List.set_cons_zero, List.set_cons_succ]
  refine wpAnyR_pure (i := 30) (oi := _) ?v30 rfl rfl (by kernel_rfl) (by decide) (fun _ _ _ h => h) rfl ?hy30 (fun _ => S13) ?rest30
  case hy30 => (intro W; go_simp; (try with_reducible rfl))
  try simp only [List.setIfInBounds_toArray, List.set_cons_zero, List.set_cons_succ]
  refine wpAnyR_pure (i := 31) (oi := _) ?v31 rfl rfl (by kernel_rfl) (by decide) (fun _ _ _ h => h) rfl ?hy31 (fun _ => S13) ?rest31
  case hy31 => (intro W; go_simp; (try with_reducible rfl))
  try simp only [List.setIfInBounds_toArray, List.set_cons_zero, List.set_cons_succ]
  refine wpAnyR_pure (i := 33) (oi := _) ?v33 rfl rfl (by kernel_rfl) (by decide) (fun _ _ _ h => h) rfl ?hy33 (fun _ => S13) ?rest33
  case hy33 => (intro W; go_simp; (try with_reducible rfl))
  try simp only [List.setIfInBounds_toArray, List.set_cons_zero, List.set_cons_succ]
  refine wpAnyR_pure (i := 34) (oi := _) ?v34 rfl rfl (by kernel_rfl) (by decide) (fun _ _ _ h => h) rfl ?hy34 (fun _ => S13) ?rest34
  case hy34 => (intro W; go_simp; (try with_reducible rfl))
  try simp only [List.setIfInBounds_toArray, List.set_cons_zero, List.set_cons_succ]
  refine wpAnyR_take (i := 32) (oi := _) ?v32 rfl rfl (by kernel_rfl) (fun _ _ _ h => h) rfl ?hy32 S13 ?rest32
  case hy32 => (intro W hW; obtain ⟨⟨E0, E1, E2⟩, ⟨F0, F1, F2⟩, G0, G1, G2⟩ := HB.out W hW; go_simp; (try with_reducible rfl))
  try simp only [List.setIfInBounds_toArray, List.set_cons_zero, List.set_cons_succ]
  refine wpAnyR_take (i := 35) (oi := _) ?v35 rfl rfl (by kernel_rfl) (fun _ _ _ h => h) rfl ?hy35 S13 ?rest35
  case hy35 => (intro W hW; obtain ⟨⟨E0, E1, E2⟩, ⟨F0, F1, F2⟩, G0, G1, G2⟩ := HB.out W hW; go_simp; (try with_reducible rfl))
  try simp only [List.setIfInBounds_toArray, List.set_cons_zero, List.set_cons_succ]
  refine wpAnyR_one (i := 36) (by kernel_rfl) rfl (fun K hK => ?_)
  try rw [if_pos (show Region.wanted _ _ = true from rfl)]
  go_simp
  refine (wrInts_any _ _ x.1.2 x.1.2 _ (HRD.out _ B13.out).2.2.2.1 (HRD.out _ B13.out).2.2.2.2 (by omega) (by omega)).mono ?_
  rw [show decide (x.1.2 = x.1.2) = true by simp]
  rintro e w14 ⟨rfl, b14⟩
  have B14 := Lib.hid (bthen B13.out b14)
  have S14 := HC.out _ B14.out
  clear b14
  refine hK.out _ _ (fun _ => S14) ?_
  clear hK K
  try simp only [List.setIfInBounds_toArray, List.set_cons_zero, List.set_cons_succ, Act.put]
  refine wpAnyR_pure (i := 37) (oi := _) (.bool false) rfl rfl (by kernel_rfl) (by decide) (fun _ _ _ h => h) rfl ?hy37 (fun _ => S14) ?rest37
  case hy37 => (intro W; go_simp; (try simp))
  try simp only [List.setIfInBounds_toArray, List.set_cons_zero, List.set_cons_succ]
  refine wpAnyR_one (i := 38) (by kernel_rfl) rfl (fun K hK => ?_)
  go_simp
  refine hK.out _ _ (fun hf => absurd hf (by decide)) ?_
  clear hK K
  refine wpAnyR_done (by kernel_rfl) ?_
  clear HB HC SB
  cases ro
  · have ha1 : (arityOk ar == arityOk ar) = true := by simp
    go_wp2_with (first
      | (go_at_call 20; refine (arityOk_any _ ar w14 (HRD.out _ B14.out).1 (by omega)).mono ?_; rintro e wa ⟨rfl, ba⟩; have Ba := Lib.hid (bthen B14.out ba); clear ba)
      | (go_at_call 21; refine (specArityOk_any _ ar wa (HRD.out _ Ba.out).1 (by omega)).mono ?_; rintro e wb ⟨rfl, bb⟩; have Bb := Lib.hid (show Below w7.heap.size w7 wb from bb ▸ Ba.out); clear bb))
    go_ret
    exact ⟨rfl, bthen B7.out Bb.out⟩
  · have HOK := Lib.hid HRO.out.symm
    have HFIT := Lib.hid (show ruleFits ar r = true from by have := HOK.out; unfold ruleOk at this; rw [Bool.and_eq_true] at this; exact this.2)
    have HTE := Lib.hid (ruleFits_terms HFIT.out)
    have HROX := Lib.hid (show ruleOk ar x = true from by
      have := HOK.out
      unfold ruleOk at this ⊢
      rw [Bool.and_eq_true] at this ⊢
      exact ⟨this.1, by rw [HXE.out]; exact ruleFits_renamed this.2⟩)
    have HSAFE := Lib.hid (show ruleSafe r = true from by have := HFIT.out; unfold ruleFits at this; rw [Bool.and_eq_true, Bool.and_eq_true, Bool.and_eq_true] at this; exact this.2.2.2)
    have x0 : w14.cell? ⟨D2, 0, none⟩ = some (.int .i64 x.1.1) := (HXY.out _ B14.out).2.1.cell 0
    have x1 : w14.cell? ⟨D2, 1, none⟩ = some (.slice A4 x.1.2.length c4) := (HXY.out _ B14.out).2.1.cell 1
    have x2 : w14.cell? ⟨D2, 2, none⟩ = some (.slice A5 x.2.length c5) := (HXY.out _ B14.out).2.1.cell 2
    obtain ⟨vx, hvx⟩ : ∃ vx, vx = varsOf x := ⟨_, rfl⟩
    have HVX := Lib.hid hvx
    have HVK := Lib.hid (show ∀ k (h : k < vx.length), vx[k] = (k : Int) from fun k h => by
      have e : vx = (List.range (renRule r).2).map fun j : Nat => (j : Int) := by rw [hvx, HXE.out]; exact vars_renamed HTE.out
      subst e
      simp)
    have HVL := Lib.hid (show vx.length = vs.length from by
      rw [hvx, HXE.out, vars_renamed HTE.out, HVS.out, vars_count]
      simp)
    have hvxl : vx.length ≤ 64 := by rw [hvx]; exact bitsOf_length _
    clear hvx
    go_wp2_with (go_at_call 18; refine (implVarsOf_any _ x w14 (HRD.out _ B14.out).2.2.1 HSX.out (HT.out.below (bthen B7.out B14.out))).mono ?_
                 rw [← HVX.out]
                 rintro e w15 ⟨A15, c15, rfl, o15, b15⟩
                 have B15 := Lib.hid (bthen B14.out b15)
                 have HV15 := Lib.hid o15.rd
                 clear o15 b15)
    clear x0 x1 x2
    go_loopw [75] (fun i wr => ∃ k : Nat, k ≤ vx.length ∧ i = .int .i64 k ∧ wr = w15) (fun i _ => vx.length - (intOf i).toNat)
    case atStart => exact ⟨0, Nat.zero_le _, rfl, by first | rfl | trivial⟩
    case round =>
      obtain ⟨k, hk, rfl, rfl⟩ := hrel
      by_cases hlt : k < vx.length
      · obtain ⟨bb, oo, e0, hbb, k0⟩ := HV15.out.at_ hlt
        subst e0
        rw [HVK.out k hlt] at k0
        go_wp2_with (fail)
        go_roundw
        case rel => exact ⟨k + 1, by omega, by go_num, by first | rfl | trivial⟩
        case measure => simp [intOf]; omega
      · clear hk
        obtain ⟨wx, rfl⟩ : ∃ wx, wx = wr := ⟨_, rfl⟩
        have x0 : wx.cell? ⟨D2, 0, none⟩ = some (.int .i64 x.1.1) := (HXY.out _ B15.out).2.1.cell 0
        have x1 : wx.cell? ⟨D2, 1, none⟩ = some (.slice A4 x.1.2.length c4) := (HXY.out _ B15.out).2.1.cell 1
        have x2 : wx.cell? ⟨D2, 2, none⟩ = some (.slice A5 x.2.length c5) := (HXY.out _ B15.out).2.1.cell 2
        obtain ⟨y, hy⟩ : ∃ y, y = renamed x := ⟨_, rfl⟩
        have HYE := Lib.hid hy
        have HYX := Lib.hid (show y.1.2 = x.1.2 by rw [hy, HXE.out]; exact renamed_again HTE.out)
        have hyl : y.1.2.length ≤ 16 := by rw [HYX.out]; exact hxl
        clear hy
        go_wp2_with (fail)
        refine (implRenamed_any _ x wx (HRD.out _ B15.out).2.2.1 HSX.out).mono ?_
        rw [← HYE.out]
        rintro e w18 ⟨A18, c18, A19, c19, lo18, hi18, _, rfl, ⟨oh18, _⟩, _, _, _, hhi18, b18⟩
        have B18 := Lib.hid (bthen B15.out b18)
        have HM18 := Lib.hid (oh18.rd.more hhi18)
        clear b18 oh18 x0 x1 x2
        go_upto_region 18 with fail
        obtain ⟨w19, hw19⟩ : ∃ w19, w19 = w18.alloc (Obj.cells #[Value.int .i64 y.1.1, Value.slice A18 y.1.2.length c18, Value.slice A19 y.2.length c19] 28) := ⟨_, rfl⟩
        have b19 : Below w18.heap.size w18 w19 := by rw [hw19]; exact below1 _ _
        have HU19 := Lib.hid (show Blk w19 w18.heap.size 28 #[.int .i64 y.1.1, .slice A18 y.1.2.length c18, .slice A19 y.2.length c19] by rw [hw19]; exact Blk.new _ _ _)
        rw [← hw19]
        clear hw19
        obtain ⟨D4, hD4⟩ : ∃ D4, D4 = w18.heap.size := ⟨_, rfl⟩
        rw [← hD4] at HU19 ⊢
        clear hD4
        have HM19 := Lib.hid (HM18.out.on b19)
        have B719 := Lib.hid (bthen B18.out b19)
        have B19 := Lib.hid (bthen B7.out B719.out)
        clear b19
        have HRD2 := Lib.hid (show ∀ W, Below w19.heap.size w19 W → RdInts W W.heap.size (.slice A ar.length c) ar ∧ RdRule W W.heap.size (.agg #[.int .i64 r.1.1, .slice A2 r.1.2.length c2, .slice A3 r.2.length c3]) r ∧ RdRule W W.heap.size (.agg #[.int .i64 x.1.1, .slice A4 x.1.2.length c4, .slice A5 x.2.length c5]) x ∧ RdInts W W.heap.size (.slice A4 x.1.2.length c4) x.1.2 ∧ RdInts W W.heap.size (.slice A18 y.1.2.length c18) y.1.2 from
          fun W hW => ⟨(HRD.out _ (bthen B719.out hW)).1, (HRD.out _ (bthen B719.out hW)).2.1, (HRD.out _ (bthen B719.out hW)).2.2.1, (HRD.out _ (bthen B719.out hW)).2.2.2.1, HM19.out.on hW⟩)
        have hn3 : ((vx.length : Int) == (vs.length : Int)) = true := by rw [HVL.out]; simp
        obtain ⟨SS, hSS⟩ : ∃ SS : World → Prop, SS = (fun W => (W.cell? ⟨D1, 0, none⟩ = some (.int .i64 r.1.1) ∧ W.cell? ⟨D1, 1, none⟩ = some (.slice A2 r.1.2.length c2) ∧ W.cell? ⟨D1, 2, none⟩ = some (.slice A3 r.2.length c3)) ∧ (W.cell? ⟨D2, 0, none⟩ = some (.int .i64 x.1.1) ∧ W.cell? ⟨D2, 1, none⟩ = some (.slice A4 x.1.2.length c4) ∧ W.cell? ⟨D2, 2, none⟩ = some (.slice A5 x.2.length c5)) ∧ W.cell? ⟨D4, 0, none⟩ = some (.int .i64 y.1.1) ∧ W.cell? ⟨D4, 1, none⟩ = some (.slice A18 y.1.2.length c18) ∧ W.cell? ⟨D4, 2, none⟩ = some (.slice A19 y.2.length c19)) := ⟨_, rfl⟩
        have HB2 := Lib.hid (show ∀ W, SS W → (W.cell? ⟨D1, 0, none⟩ = some (.int .i64 r.1.1) ∧ W.cell? ⟨D1, 1, none⟩ = some (.slice A2 r.1.2.length c2) ∧ W.cell? ⟨D1, 2, none⟩ = some (.slice A3 r.2.length c3)) ∧ (W.cell? ⟨D2, 0, none⟩ = some (.int .i64 x.1.1) ∧ W.cell? ⟨D2, 1, none⟩ = some (.slice A4 x.1.2.length c4) ∧ W.cell? ⟨D2, 2, none⟩ = some (.slice A5 x.2.length c5)) ∧ W.cell? ⟨D4, 0, none⟩ = some (.int .i64 y.1.1) ∧ W.cell? ⟨D4, 1, none⟩ = some (.slice A18 y.1.2.length c18) ∧ W.cell? ⟨D4, 2, none⟩ = some (.slice A19 y.2.length c19) from by rw [hSS]; exact fun W hW => hW)
        have HC2 := Lib.hid (show ∀ W, Below w19.heap.size w19 W → SS W from by rw [hSS]; exact fun W hW => ⟨⟨(HXY.out W (bthen B719.out hW)).1.cell 0, (HXY.out W (bthen B719.out hW)).1.cell 1, (HXY.out W (bthen B719.out hW)).1.cell 2⟩, ⟨(HXY.out W (bthen B719.out hW)).2.1.cell 0, (HXY.out W (bthen B719.out hW)).2.1.cell 1, (HXY.out W (bthen B719.out hW)).2.1.cell 2⟩, (HU19.out.below hW HU19.out.lt).cell 0, (HU19.out.below hW HU19.out.lt).cell 1, (HU19.out.below hW HU19.out.lt).cell 2⟩)
        clear hSS
        have B19d := Lib.hid (Below.refl w19.heap.size w19).drew
        have SB := HC2.out _ B19d.out
        refine wp_region_rel SS 25 26 (by kernel_rfl) rfl ?_
        refine wpAnyR_pure (i := 0) (oi := _) ?y0 rfl rfl (by kernel_rfl) (by decide) (fun _ _ _ h => h) rfl ?gy0 (fun _ => SB) ?rust0
        case gy0 => (intro W; go_simp; (try with_reducible rfl))
        try simp only [List.setIfInBounds_toArray, List.set_cons_zero, List.set_cons_succ]
        refine wpAnyR_take (i := 1) (oi := _) ?y1 rfl rfl (by kernel_rfl) (fun _ _ _ h => h) rfl ?gy1 SB ?rust1
        case gy1 => (intro W hW; obtain ⟨⟨E0, E1, E2⟩, ⟨F0, F1, F2⟩, G0, G1, G2⟩ := HB2.out W hW; go_simp; (try with_reducible rfl))
        try simp only [List.setIfInBounds_toArray, List.set_cons_zero, List.set_cons_succ]
        refine wpAnyR_one (i := 2) (by kernel_rfl) rfl (fun K hK => ?_)
        try rw [if_pos (show Region.wanted _ _ = true from rfl)]
        go_simp
        refine (implRuleOk_any _ _ ar x _ (HRD2.out _ B19d.out).1 (HRD2.out _ B19d.out).2.2.1 (by omega) HSX.out).mono ?_
        rw [HROX.out]
        rintro e w20 ⟨rfl, b20⟩
        have B20 := Lib.hid (bthen B19d.out b20)
        have S20 := HC2.out _ B20.out
        clear b20
        refine hK.out _ _ (fun _ => S20) ?_
        clear hK K
        try simp only [List.setIfInBounds_toArray, List.set_cons_zero, List.set_cons_succ, Act.put]
        refine wpAnyR_pure (i := 3) (oi := _) (.bool true) rfl rfl (by kernel_rfl) (by decide) (fun _ _ _ h => h) rfl ?gy3 (fun _ => S20) ?rust3
        case gy3 => (intro W; go_simp; (try simp))
        try simp only [List.setIfInBounds_toArray, List.set_cons_zero, List.set_cons_succ]
        refine wpAnyR_take (i := 4) (oi := _) ?y4 rfl rfl (by kernel_rfl) (fun _ _ _ h => h) rfl ?gy4 S20 ?rust4
        case gy4 => (intro W hW; obtain ⟨⟨E0, E1, E2⟩, ⟨F0, F1, F2⟩, G0, G1, G2⟩ := HB2.out W hW; go_simp; (try with_reducible rfl))
        try simp only [List.setIfInBounds_toArray, List.set_cons_zero, List.set_cons_succ]
        refine wpAnyR_one (i := 5) (by kernel_rfl) rfl (fun K hK => ?_)
        try rw [if_pos (show Region.wanted _ _ = true from rfl)]
        go_simp
        refine (implRuleSafe_any _ r _ (HRD2.out _ B20.out).2.1 HSR.out).mono ?_
        rw [HSAFE.out]
        rintro e w21 ⟨rfl, b21⟩
        have B21 := Lib.hid (bthen B20.out b21)
        have S21 := HC2.out _ B21.out
        clear b21
        refine hK.out _ _ (fun _ => S21) ?_
        clear hK K
        try simp only [List.setIfInBounds_toArray, List.set_cons_zero, List.set_cons_succ, Act.put]
        refine wpAnyR_pure (i := 6) (oi := _) (.bool true) rfl rfl (by kernel_rfl) (by decide) (fun _ _ _ h => h) rfl ?gy6 (fun _ => S21) ?rust6
        case gy6 => (intro W; go_simp; (try simp))
        try simp only [List.setIfInBounds_toArray, List.set_cons_zero, List.set_cons_succ]
        refine wpAnyR_pure (i := 7) (oi := _) (.bool true) rfl rfl (by kernel_rfl) (by decide) (fun _ _ _ h => h) rfl ?gy7 (fun _ => S21) ?rust7
        case gy7 => (intro W; go_simp; (try simp))
        try simp only [List.setIfInBounds_toArray, List.set_cons_zero, List.set_cons_succ]
        refine wpAnyR_pure (i := 8) (oi := _) ?y8 rfl rfl (by kernel_rfl) (by decide) (fun _ _ _ h => h) rfl ?gy8 (fun _ => S21) ?rust8
        case gy8 => (intro W; go_simp; (try with_reducible rfl))
        try simp only [List.setIfInBounds_toArray, List.set_cons_zero, List.set_cons_succ]
        refine wpAnyR_pure (i := 9) (oi := _) ?y9 rfl rfl (by kernel_rfl) (by decide) (fun _ _ _ h => h) rfl ?gy9 (fun _ => S21) ?rust9
        case gy9 => (intro W; go_simp; (try with_reducible rfl))
        try simp only [List.setIfInBounds_toArray, List.set_cons_zero, List.set_cons_succ]
        refine wpAnyR_pure (i := 11) (oi := _) ?y11 rfl rfl (by kernel_rfl) (by decide) (fun _ _ _ h => h) rfl ?gy11 (fun _ => S21) ?rust11
        case gy11 => (intro W; go_simp; (try with_reducible rfl))
        try simp only [List.setIfInBounds_toArray, List.set_cons_zero, List.set_cons_succ]
        refine wpAnyR_pure (i := 12) (oi := _) ?y12 rfl rfl (by kernel_rfl) (by decide) (fun _ _ _ h => h) rfl ?gy12 (fun _ => S21) ?rust12
        case gy12 => (intro W; go_simp; (try with_reducible rfl))
        try simp only [List.setIfInBounds_toArray, List.set_cons_zero, List.set_cons_succ]
        refine wpAnyR_take (i := 10) (oi := _) ?y10 rfl rfl (by kernel_rfl) (fun _ _ _ h => h) rfl ?gy10 S21 ?rust10
        case gy10 => (intro W hW; obtain ⟨⟨E0, E1, E2⟩, ⟨F0, F1, F2⟩, G0, G1, G2⟩ := HB2.out W hW; go_simp; (try with_reducible rfl))
        try simp only [List.setIfInBounds_toArray, List.set_cons_zero, List.set_cons_succ]
        refine wpAnyR_take (i := 13) (oi := _) ?y13 rfl rfl (by kernel_rfl) (fun _ _ _ h => h) rfl ?gy13 S21 ?rust13
        case gy13 => (intro W hW; obtain ⟨⟨E0, E1, E2⟩, ⟨F0, F1, F2⟩, G0, G1, G2⟩ := HB2.out W hW; go_simp; (try with_reducible rfl))
        try simp only [List.setIfInBounds_toArray, List.set_cons_zero, List.set_cons_succ]
        refine wpAnyR_one (i := 14) (by kernel_rfl) rfl (fun K hK => ?_)
        try rw [if_pos (show Region.wanted _ _ = true from rfl)]
        go_simp
        refine (wrInts_any _ _ y.1.2 x.1.2 _ (HRD2.out _ B21.out).2.2.2.2 (HRD2.out _ B21.out).2.2.2.1 (by omega) (by omega)).mono ?_
        rw [show decide (y.1.2 = x.1.2) = true by rw [HYX.out]; simp]
        rintro e w22 ⟨rfl, b22⟩
        have B22 := Lib.hid (bthen B21.out b22)
        have S22 := HC2.out _ B22.out
        clear b22
        refine hK.out _ _ (fun _ => S22) ?_
        clear hK K
        try simp only [List.setIfInBounds_toArray, List.set_cons_zero, List.set_cons_succ, Act.put]
        refine wpAnyR_pure (i := 15) (oi := _) (.bool true) rfl rfl (by kernel_rfl) (by decide) (fun _ _ _ h => h) rfl ?gy15 (fun _ => S22) ?rust15
        case gy15 => (intro W; go_simp; (try simp))
        try simp only [List.setIfInBounds_toArray, List.set_cons_zero, List.set_cons_succ]
        refine wpAnyR_pure (i := 16) (oi := _) (.bool true) rfl rfl (by kernel_rfl) (by decide) (fun _ _ _ h => h) rfl ?gy16 (fun _ => S22) ?rust16
        case gy16 => (intro W; go_simp; (try simp))
        try simp only [List.setIfInBounds_toArray, List.set_cons_zero, List.set_cons_succ]
        refine wpAnyR_take (i := 17) (oi := _) ?y17 rfl rfl (by kernel_rfl) (fun _ _ _ h => h) rfl ?gy17 S22 ?rust17
        case gy17 => (intro W hW; obtain ⟨⟨E0, E1, E2⟩, ⟨F0, F1, F2⟩, G0, G1, G2⟩ := HB2.out W hW; go_simp; (try with_reducible rfl))
        try simp only [List.setIfInBounds_toArray, List.set_cons_zero, List.set_cons_succ]
        refine wpAnyR_take (i := 20) (oi := _) ?y20 rfl rfl (by kernel_rfl) (fun _ _ _ h => h) rfl ?gy20 S22 ?rust20
        case gy20 => (intro W hW; obtain ⟨⟨E0, E1, E2⟩, ⟨F0, F1, F2⟩, G0, G1, G2⟩ := HB2.out W hW; go_simp; (try with_reducible rfl))
        try simp only [List.setIfInBounds_toArray, List.set_cons_zero, List.set_cons_succ]
        refine wpAnyR_one (i := 18) (by kernel_rfl) rfl (fun K hK => ?_)
        try rw [if_pos (show Region.wanted _ _ = true from rfl)]
        go_simp
        refine (implVarsOf_any _ x _ (HRD2.out _ B22.out).2.2.1 HSX.out (HT.out.below (bthen B19.out B22.out))).mono ?_
        rw [← HVX.out]
        rintro e w23 ⟨A23, c23, rfl, o23, b23⟩
        have B23 := Lib.hid (bthen B22.out b23)
        have S23 := HC2.out _ B23.out
        clear o23
        clear b23
        refine hK.out _ _ (fun _ => S23) ?_
        clear hK K
        try simp only [List.setIfInBounds_toArray, List.set_cons_zero, List.set_cons_succ, Act.put]
        refine wpAnyR_pure (i := 19) (oi := _) ?y19 rfl rfl (by kernel_rfl) (by decide) (fun _ _ _ h => h) rfl ?gy19 (fun _ => S23) ?rust19
        case gy19 => (intro W; go_simp; (try with_reducible rfl))
        try simp only [List.setIfInBounds_toArray, List.set_cons_zero, List.set_cons_succ]
        refine wpAnyR_one (i := 21) (by kernel_rfl) rfl (fun K hK => ?_)
        try rw [if_pos (show Region.wanted _ _ = true from rfl)]
        go_simp
        refine (implVarsOf_any _ r _ (HRD2.out _ B23.out).2.1 HSR.out (HT.out.below (bthen B19.out B23.out))).mono ?_
        rw [← HVS.out]
        rintro e w24 ⟨A24, c24, rfl, o24, b24⟩
        have B24 := Lib.hid (bthen B23.out b24)
        have S24 := HC2.out _ B24.out
        clear o24
        clear b24
        refine hK.out _ _ (fun _ => S24) ?_
        clear hK K
        try simp only [List.setIfInBounds_toArray, List.set_cons_zero, List.set_cons_succ, Act.put]
        refine wpAnyR_pure (i := 22) (oi := _) ?y22 rfl rfl (by kernel_rfl) (by decide) (fun _ _ _ h => h) rfl ?gy22 (fun _ => S24) ?rust22
        case gy22 => (intro W; go_simp; (try with_reducible rfl))
        try simp only [List.setIfInBounds_toArray, List.set_cons_zero, List.set_cons_succ]
        refine wpAnyR_pure (i := 23) (oi := _) (.bool true) rfl rfl (by kernel_rfl) (by decide) (fun _ _ _ h => h) rfl ?gy23 (fun _ => S24) ?rust23
        case gy23 => (intro W; go_simp; (try simp))
        try simp only [List.setIfInBounds_toArray, List.set_cons_zero, List.set_cons_succ]
        refine wpAnyR_pure (i := 24) (oi := _) (.bool true) rfl rfl (by kernel_rfl) (by decide) (fun _ _ _ h => h) rfl ?gy24 (fun _ => S24) ?rust24
        case gy24 => (intro W; go_simp; (try simp))
        try simp only [List.setIfInBounds_toArray, List.set_cons_zero, List.set_cons_succ]
        refine wpAnyR_one (i := 25) (by kernel_rfl) rfl (fun K hK => ?_)
        go_simp
        refine hK.out _ _ (fun hf => absurd hf (by decide)) ?_
        clear hK K
        refine wpAnyR_done (by kernel_rfl) ?_
        go_wp2_with (fail)
        go_ret
        exact ⟨rfl, bthen B19.out B24.out⟩

theorem lawPlainRules_in (v : Value) (bs : List Nat) (w : World) (h : InBytes w v bs) (hT : Tab w) : Calls Tryd.prog 3 #[v] w fun e w' => e = .returned (.bool true) ∧ Below w.heap.size w w' :=
  lawPlainRules_any v bs w h.1 h.2.1 h.2.2 hT

end Go.Proofs.YtfjmnjemmfmoaaaDoor
namespace Go.Proofs.YtfjmnjemmfmoaaaDoor
open Go.ChangeShapes Go.WideShapes Go.ChangeAt Go.RowKit

set_option maxRecDepth 100000 in
theorem fnRules_lifted (os : Os) (started : os.Started) (H : Type) (enc : TypeId × Value → H) :
    ReturnsInHanded {} Tryd.checked os 3 .any (fun w args => (Rows.fnRulesSpec.pre enc Tryd.prog Tryd.f3 [] false w args ∧ laidMetH Tryd.prog laidTabs w) ∧ sizedMet enc Tryd.prog Tryd.f3 (OpenSpec.ofChange Rows.fnRulesSpec) false w args) (Rows.fnRulesSpec.post enc Tryd.prog Tryd.f3 false true false false) := by
  refine returnsInHanded_of_change_and (C := Tryd.checked) (X := fun w _ => laidMetH Tryd.prog laidTabs w) (fun _ _ _ hh h => h.of_heap hh) Tryd.own started (by kernel_rfl) Tryd.func3
    (ChangeSpec.witness_shaped (enc := enc) (C := Tryd.checked) (os := os) (X := fun w _ => laidMetH Tryd.prog laidTabs w) false (World.laidAll Tryd.prog os laidTabs) #[.slice none 0 0] 8 (World.laidAll_os _ _ _)
      (World.shaped_of_ZipB (by kernel_rfl) (by kernel_rfl)) (by kernel_rfl) (by kernel_rfl) (by kernel_rfl)
      (by rw [MakeChecks.laidMetH_plain _ _ _ (by kernel_rfl)]; exact laidMet_laidAll _ (by kernel_rfl) (by kernel_rfl))) ?_
  intro W base args ds gs before hval0 hW _ _ hL _
  have hval : ∀ (j : Nat) t v, Tryd.f3.params[j]? = some t → args[j]? = some v → Value.okWide Tryd.prog W .any base t v := hval0
  have hW' := hW
  obtain ⟨p, q, hA0, hV, rfl, hfz, hnd⟩ := hW
  have hA : DataW.TrodAll enc Tryd.prog W 0 (fun _ => true) true Tryd.f3.params.toList args.toList ds p := hA0
  rw [Tryd.params3] at hA hval
  obtain ⟨v0, vs0, d0, ds0, p0, q0, hargs, rfl, rfl, h0, r0⟩ := trodAll_cons hA
  obtain ⟨rfl, rfl, rfl⟩ := trodAll_nil r0
  obtain rfl : args = #[v0] := by cases args; simp_all
  obtain ⟨rfl, rfl⟩ := trodVars_none hV
  have lt0 : ∀ x ∈ p0, x.block < W.heap.size := by obtain ⟨m, hm⟩ := h0; exact DataW.trod_lt m _ _ _ hm
  obtain ⟨x0, w0⟩ := open_inBytes (hval 0 22 v0 rfl rfl) h0
  clear hA0 hval0
  refine (lawPlainRules_in v0 x0 W w0 (tab_of_laid hL)).mono fun e W' ⟨he, bel⟩ => ?_
  subst he
  exact ⟨_, rfl, _, _, _, [], _, [], hW', trodAll_mk1 (shut_bool Tryd.underlying4 _), (trodAll_cons_mk (Below.trod Tryd.laidOut (by kernel_rfl) (of_decide_eq_true (by kernel_rfl)) h0 bel lt0) trodAll_mk0), rfl, bel.frame _, fun h => by cases h⟩

theorem fnRules_holds : Rows.FnRulesSaid :=
  OpenClaim.holds_of_wide 3 Tryd.f3 rfl rfl rfl rfl rfl rfl rfl ⟨rfl, rfl, rfl, rfl, rfl⟩ rfl rfl rfl rfl rfl (by kernel_rfl) Tryd.func3 (by kernel_rfl)
    (of_decide_eq_true (by kernel_rfl)) (by unfold Func.isWrapper; rw [if_neg (of_decide_eq_false (by kernel_rfl))]; exact ⟨rfl, rfl⟩)
    (fun os started H enc _ => fnRules_lifted os started H enc)

theorem fnRulesCard_holds : Rows.FnRulesCardSaid :=
  Claim7.holds_tied_plain_at .later [] [.data, .data] true (true, "eb9f304200c1dc23c84bf0b304748481fb81b6d2ef45b766bfb609a6583c2c85") false fnRules_holds (fun _ h => by cases h) (by kernel_rfl) (fun _ h => by cases h) fnRules_row_tie rfl ⟨rfl, rfl⟩ (by kernel_rfl) rfl
    (fun f fn hf hfn => by
      obtain rfl : f = 3 := Option.some.inj ((show Tryd.prog.funcNamed "loop.example/wholerules/laws.FnRules" = some 3 by kernel_rfl).symm.trans hf) |>.symm
      obtain rfl : fn = Tryd.f3 := (Option.some.inj (Tryd.func3.symm.trans hfn)).symm
      exact ⟨by kernel_rfl, fun j t ht => by
        rw [Tryd.params3] at ht
        have hm : t ∈ [22] := by simpa using Array.mem_of_getElem? ht
        have hall : ([22].all fun u => !Tryd.prog.wantsStandIn u) = true := by kernel_rfl
        exact (show Tryd.prog.wantsStandIn t = false by simpa using List.all_eq_true.1 hall t hm)⟩)
    (by kernel_rfl)

end Go.Proofs.YtfjmnjemmfmoaaaDoor
