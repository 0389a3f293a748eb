/-
  Texts that the claim's last one imports, laid together: part 4 of 5. No condition of its own.
-/
import Derived.Deep.RegionHeld3
import Derived.Deep.DeepCutAuto
import Derived.OrdersHeld
import Derived.Test.YtocpfmbieedpgaaMPb1
import Derived.Test.YtocpfmbieedpgaaMPb2
import Derived.Test.YtocpfmbieedpgaaMPb3
/-
  Sizes of literals, in the one form that the laws' walks ask.
-/
namespace Go.Proofs.Ytocpfmbieedpgaa
open Go.RowKit

def szL (ls : List LLit) : Nat := ls.length + totL ls
theorem us_lit {v : Value} {l : LLit} {left : Int} {w : World} (h : RdLit w w.heap.size v l) (h0 : 0 ≤ left) (hl : left ≤ 1048576) (hn : l.2.2.length ≤ maxLen) :
    Calls Try.prog 105 #[v, .int .i64 left] w fun e w' => ∃ z, e = .returned (.int .i64 z) ∧ (z = -1 ∨ (0 ≤ z ∧ z + l.2.2.length = left)) ∧ Below w.heap.size w w' :=
  (szLit_any v l left w h h0 hl (by unfold maxLen at hn; omega)).mono fun _ _ ⟨he, hb⟩ => ⟨_, he, (szV_cases left l.2.2.length).imp And.left id, hb⟩
theorem us_lits {v : Value} {ls : List LLit} {left : Int} {w : World} (h : RdLits w w.heap.size v ls) (h0 : 0 ≤ left) (hl : left ≤ 1048576) (hn : ls.length ≤ maxLen) (hm : ∀ k (h : k < ls.length), ls[k].2.2.length ≤ maxLen) :
    Calls Try.prog 71 #[v, .int .i64 left] w fun e w' => ∃ z, e = .returned (.int .i64 z) ∧ (z = -1 ∨ (0 ≤ z ∧ z + szL ls = left)) ∧ Below w.heap.size w w' :=
  (szLitS_any v ls left w h h0 hl (by unfold maxLen at hn; omega) (fun k hk => by have := hm k hk; unfold maxLen at this; omega)).mono fun _ _ ⟨r, he, hr, hb⟩ => ⟨r, he, hr.imp id fun ⟨a, b⟩ => ⟨a, by unfold szL; omega⟩, hb⟩

end Go.Proofs.Ytocpfmbieedpgaa
/-
  Plain facts on fitting rules and their orders and plans.
-/
namespace Go.Proofs.Ytocpfmbieedpgaa
open Go.RowKit

theorem litFits_kind {ar : List Int} {l : LLit} (h : litFits ar l = true) : l.1 = 0 ∨ l.1 = 1 ∨ l.1 = 2 ∨ l.1 = 3 := by
  unfold litFits at h
  by_cases h1 : l.1 = 0 ∨ l.1 = 1
  · omega
  · rw [if_neg h1] at h
    by_cases h2 : l.1 = 2 ∨ l.1 = 3
    · omega
    · rw [if_neg h2] at h
      cases h
theorem ruleOk_kinds {ar : List Int} {r : LRule} (h : ruleOk ar r = true) : ∀ l ∈ r.2, l.1 = 0 ∨ l.1 = 1 ∨ l.1 = 2 ∨ l.1 = 3 := fun l hl => by
  unfold ruleOk ruleFits at h
  simp only [Bool.and_eq_true] at h
  exact litFits_kind (List.all_eq_true.1 h.2.2.2.1 l hl)
theorem orderOk_range {b : List LLit} {os : List Int} (h : orderOk b os = true) : os.length = b.length ∧ ∀ i ∈ os, 0 ≤ i ∧ i < (b.length : Int) := by
  unfold orderOk at h
  simp only [Bool.and_eq_true, decide_eq_true_eq] at h
  refine ⟨h.1, fun i hi => ?_⟩
  obtain ⟨k, hk, rfl⟩ := List.getElem_of_mem hi
  have := h.2 k hk
  rw [ordAt_get hk] at this
  simp only [Bool.and_eq_true, decide_eq_true_eq] at this
  exact this.1

theorem soon_range {r : LRule} (hs : ruleSafe r = true) {k : Nat} (hk : k < r.2.length) : ∃ j : Nat, soonL r.2 (soonOrd r.2 k) (ordMask r.2 (soonOrd r.2 k)) = (j : Int) ∧ j < r.2.length := by
  obtain ⟨j0, hj0, hd0⟩ := left_over r.2.length (soonOrd r.2 k) (by rw [soonOrd_len]; omega)
  obtain ⟨j, h1, h2, _⟩ := soonL_is hs hj0 hd0
  exact ⟨j, h1, h2⟩

theorem atomFits_terms {ar : List Int} {f : LFact} (h : atomFits ar f = true) : f.2.all termOk = true := by
  unfold atomFits at h
  rw [Bool.and_eq_true] at h
  exact h.2
theorem litFits_terms {ar : List Int} {l : LLit} (h : litFits ar l = true) : l.2.2.all termOk = true := by
  unfold litFits at h
  by_cases h1 : l.1 = 0 ∨ l.1 = 1
  · rw [if_pos h1] at h
    exact atomFits_terms h
  · rw [if_neg h1] at h
    by_cases h2 : l.1 = 2 ∨ l.1 = 3
    · rw [if_pos h2] at h
      simp only [Bool.and_eq_true] at h
      exact h.2
    · rw [if_neg h2] at h
      cases h
theorem ruleOk_terms {ar : List Int} {r : LRule} (h : ruleOk ar r = true) : r.1.2.all termOk = true ∧ ∀ l ∈ r.2, l.2.2.all termOk = true := by
  unfold ruleOk ruleFits at h
  simp only [Bool.and_eq_true] at h
  exact ⟨atomFits_terms h.2.1, fun l hl => litFits_terms (List.all_eq_true.1 h.2.2.2.1 l hl)⟩
/-- Atoms of fitting predicates have two places at most. -/
theorem arityOk_two {ar : List Int} (h : arityOk ar = true) {i : Nat} : ar.getD i 0 ≤ 2 := by
  by_cases hi : i < ar.length
  · have : ar.getD i 0 = ar[i] := by simp [hi]
    rw [this]
    unfold arityOk at h
    simp only [Bool.and_eq_true, List.all_eq_true] at h
    have := h.2 _ (List.getElem_mem hi)
    simp [placeOk] at this
    omega
  · simp [List.getD_eq_getElem?_getD, List.getElem?_eq_none (by omega : ar.length ≤ i)]
theorem atomFits_two {ar : List Int} {f : LFact} (ha : arityOk ar = true) (h : atomFits ar f = true) : f.2.length ≤ 2 := by
  unfold atomFits at h
  simp only [Bool.and_eq_true, decide_eq_true_eq] at h
  have := arityOk_two ha (i := f.1.toNat)
  omega
theorem litFits_two {ar : List Int} {l : LLit} (ha : arityOk ar = true) (h : litFits ar l = true) : l.2.2.length ≤ 2 := by
  unfold litFits at h
  by_cases h1 : l.1 = 0 ∨ l.1 = 1
  · rw [if_pos h1] at h
    exact atomFits_two ha h
  · rw [if_neg h1] at h
    by_cases h2 : l.1 = 2 ∨ l.1 = 3
    · rw [if_pos h2] at h
      simp only [Bool.and_eq_true, decide_eq_true_eq] at h
      omega
    · rw [if_neg h2] at h
      cases h
theorem totL_append (xs ys : List LLit) : totL (xs ++ ys) = totL xs + totL ys := by simp [totL]
theorem opsTo_tot {b : List LLit} (h : ∀ l ∈ b, l.2.2.length ≤ 2) (os : List Int) : ∀ k, totL (opsTo b os k) ≤ 2 * k
  | 0 => by simp [opsTo, totL]
  | k + 1 => by
    have ih := opsTo_tot h os k
    have : (litAt b (os.getD k 0)).2.2.length ≤ 2 := by
      unfold litAt
      generalize (os.getD k 0).toNat = j
      by_cases hl : j < b.length
      · have e : b.getD j (0, 0, []) = b[j] := by simp [hl]
        rw [e]
        exact h _ (List.getElem_mem hl)
      · rw [List.getD_eq_getElem?_getD, List.getElem?_eq_none (by omega)]
        simp
    show totL (opsTo b os k ++ _) ≤ _
    rw [totL_append]
    simp only [totL, List.map_cons, List.map_nil, List.sum_cons, List.sum_nil] at this ⊢
    simp only [totL] at ih
    omega
theorem planFor_sz {ar : List Int} {r : LRule} {os : List Int} (h : ruleOk ar r = true) (hl : os.length = r.2.length) : szL (planFor r os) ≤ 64 := by
  have h4 := (ruleOk_safe h).2
  unfold ruleOk ruleFits at h
  simp only [Bool.and_eq_true] at h
  have h1 := opsTo_tot (fun l hl => litFits_two h.1 (List.all_eq_true.1 h.2.2.2.1 l hl)) os os.length
  have h2 := atomFits_two h.1 h.2.1
  unfold szL planFor
  rw [totL_append, List.length_append, opsTo_len]
  simp only [List.length_singleton, totL, List.map_cons, List.map_nil, List.sum_cons, List.sum_nil] at h1 ⊢
  omega
theorem planBy_sz (ar : List Int) (r : LRule) (os : List Int) : szL (planByL ar r os) ≤ 64 := by
  cases h : planByK ar r os
  · rw [planBy_no h]; simp [szL, totL]
  · rw [planBy_yes h]
    unfold planByK at h
    rw [Bool.and_eq_true] at h
    exact planFor_sz h.1 (orderOk_range h.2).1
theorem planOf_sz (ar : List Int) (r : LRule) : szL (planOfL ar r) ≤ 64 := by
  unfold planOfL
  by_cases h : ruleOk ar r = true
  · rw [if_pos h]; exact planFor_sz h (soonOrd_len _ _)
  · rw [if_neg h]; simp [szL, totL]

end Go.Proofs.Ytocpfmbieedpgaa
/-
  The program's renaming: the walks of varTerm and term.
-/
namespace Go.Proofs.Ytocpfmbieedpgaa
open Go.RowKit

theorem varTerm_big (n : Int) (h0 : 0 ≤ n) (h1 : n ≤ 4611686018427387904) (w : World) : Calls Try.prog 126 #[.int .i64 n] w fun e w' => e = .returned (.int .i64 (-1 - n)) ∧ w = w' := by
  go_enter Try.func126, Try.ntmps126
  go_wp2
  go_ret
  exact ⟨rfl, rfl⟩

end Go.Proofs.Ytocpfmbieedpgaa
/-
  The program's renaming: the walk of atom.
-/
namespace Go.Proofs.Ytocpfmbieedpgaa
open Go.RowKit

theorem rowIs_only {w w' : World} {lo hi g n : Nat} {t : TypeId} {f : Nat → Value} (h : w.rowIs g t n f) (ho : Only lo hi w w') (hd : g < lo ∨ hi ≤ g) : w'.rowIs g t n f := by
  obtain ⟨c, hb, r⟩ := h
  exact ⟨c, (ho.block g (Array.getElem?_eq_some_iff.1 hb).1 hd).trans hb, r⟩
theorem RdInts.only {w w' : World} {lo hi B : Nat} {v : Value} {xs : List Int} (h : RdInts w B v xs) (ho : Only lo hi w w') (hB : B ≤ lo) : RdInts w' B v xs := by
  obtain ⟨A, c, rfl, hc, h⟩ := h
  refine ⟨A, c, rfl, hc, fun hn => ?_⟩
  obtain ⟨b, o, rfl, hlt, hk⟩ := h hn
  refine ⟨b, o, rfl, hlt, fun k hkl => ?_⟩
  have hc := hk k hkl
  rw [← hc]
  exact World.cell?_of_block (by exact ho.block b (World.block_lt_of_cell? _ _ hc) (.inl (by omega)))

/-- All blocks but two are as they were. -/
structure But2 (g r : Nat) (w w' : World) : Prop where
  os : w'.os = w.os
  tape : w'.tape = w.tape
  output : w'.output = w.output
  size : w.heap.size ≤ w'.heap.size
  block : ∀ k, k < w.heap.size → k ≠ g → k ≠ r → w'.heap[k]? = w.heap[k]?
theorem But2.refl (g r : Nat) (w : World) : But2 g r w w := ⟨rfl, rfl, rfl, Nat.le_refl _, fun _ _ _ _ => rfl⟩
theorem But2.only {g r : Nat} {w w1 w' : World} (h : But2 g r w w1) (ho : Only g (g + 1) w1 w') : But2 g r w w' :=
  ⟨ho.os.trans h.os, ho.tape.trans h.tape, ho.output.trans h.output, Nat.le_trans h.size ho.size, fun k hk h1 h2 => (ho.block k (Nat.lt_of_lt_of_le hk h.size) (by omega)).trans (h.block k hk h1 h2)⟩
theorem But2.set {g r j : Nat} {w w1 : World} (h : But2 g r w w1) (u : Value) : But2 g r w (w1.setCell ⟨r, j, none⟩ u) :=
  ⟨h.os, h.tape, h.output, by simpa using h.size, fun k hk h1 h2 => (Below.heap_setCell _ _ _ _ h2).trans (h.block k hk h1 h2)⟩
theorem Blk.but {g r b : Nat} {w w' : World} {t : TypeId} {cs : Array Value} (h : Blk w b t cs) (hb : But2 g r w w') (h1 : b ≠ g) (h2 : b ≠ r) : Blk w' b t cs := (hb.block b h.lt h1 h2).trans h

theorem renOut_at {s : Ren} {xs : List Int} {k : Nat} (h : k < xs.length) : (renOut s xs).getD k 0 = look (renStep (renList s (xs.take k)) xs[k]) xs[k] := by
  rw [← renList_take s h]
  simp [renOut, h]
theorem renStep_no {s : Ren} {t : Int} (h : isVarB t = false) : renStep s t = s := by simp [renStep, h]
theorem look_no {s : Ren} {t : Int} (h : isVarB t = false) : look s t = t := by simp [look, h]
theorem renStep_count (s : Ren) (t : Int) : (renStep s t).2 ≤ s.2 + 1 := by
  unfold renStep
  split <;> simp
theorem renList_count : ∀ (xs : List Int) (s : Ren), (renList s xs).2 ≤ s.2 + xs.length
  | [], s => by simp [renList]
  | t :: xs, s => by
    have h1 := renList_count xs (renStep s t)
    have h2 := renStep_count s t
    show (renList (renStep s t) xs).2 ≤ _
    simp only [List.length_cons]
    omega

end Go.Proofs.Ytocpfmbieedpgaa
/-
  Regions that draw their order and end in a store to a cell that they load: the condition on the world holds until operation t has come up, and is released then. Laws of any program.
-/
namespace Go.Proofs.Ytocpfmbieedpgaa
open Go

section
variable {P : Program} {ops : Array Oper} {Q : Exit → Act → World → Prop} {md : Region.Mode} {S : World → Prop} {t : Nat}

/-- Whatever order is picked from here on, and S holds behind each operation that is carried out, until t has come up. -/
def wpAnyR (P : Program) (md : Region.Mode) (ops : Array Oper) (Q : Exit → Act → World → Prop) (S : World → Prop) (t : Nat) : Nat → Array Bool → Act → World → Prop
  | 0, listed, a, w => Region.ready md ops listed = [] ∧ Q .normal a w
  | fuel + 1, listed, a, w =>
    (Region.ready md ops listed = [] → Q .normal a w) ∧
    ∀ i ∈ Region.ready md ops listed, wpOp P ops Q i (fun a' w' => ((listed.setIfInBounds i true).getD t true = false → S w') ∧ wpAnyR P md ops Q S t fuel (listed.setIfInBounds i true) a' w') a w

theorem wpAny_of_rel : ∀ (fuel : Nat) (listed : Array Bool) (a : Act) (w : World), wpAnyR P md ops Q S t fuel listed a w → wpAny P md ops Q fuel listed a w
  | 0, _, _, _, h => h
  | fuel + 1, _, _, _, h => ⟨h.1, fun i hi => wpOp_mono (fun a' w' h' => wpAny_of_rel fuel _ a' w' h'.2) (h.2 i hi)⟩

/-- None of D has come up, and each waits for i or for one of D. -/
def blockedB (md : Region.Mode) (ops : Array Oper) (listed : Array Bool) (i : Nat) (D : List Nat) : Bool :=
  !D.contains i && D.all fun d => !listed.getD d true && ((ops[d]?).map fun o => o.after.any fun e => Region.binds md e && (e.on == i || D.contains e.on)).getD false

/-- None of D may come up while i has not. -/
theorem not_ready_of_blocked {listed : Array Bool} {i : Nat} {D : List Nat} (h : blockedB md ops listed i D = true) (hi : listed.getD i true = false) {d : Nat} (hd : d ∈ D) : d ∉ Region.ready md ops listed := by
  intro hr
  obtain ⟨_, o, ho, hall⟩ := mem_ready.1 hr
  simp only [blockedB, Bool.and_eq_true, List.all_eq_true] at h
  have h2 := (h.2 d hd).2
  rw [ho] at h2
  simp only [Option.map_some, Option.getD_some, Array.any_eq_true', Bool.and_eq_true, Bool.or_eq_true, beq_iff_eq] at h2
  obtain ⟨e, he, hb, hon⟩ := h2
  have hl := hall e he hb
  have un : ∀ k : Nat, listed.getD k true = false → listed.getD k false = true → False := by
    intro k h1 h2
    rcases Nat.lt_or_ge k listed.size with h' | h'
    · simp [h'] at h1 h2
      rw [h1] at h2
      cases h2
    · simp [Array.getElem?_eq_none h'] at h1
  rcases hon with e1 | e1
  · rw [e1] at hl
    exact un i hi hl
  · have h3 := (h.2 e.on (by simpa using e1)).1
    exact un _ (by simpa using h3) hl

theorem blocked_set {listed : Array Bool} {i j : Nat} {D : List Nat} (h : blockedB md ops listed i D = true) (hj : j ∉ D) : blockedB md ops (listed.setIfInBounds j true) i D = true := by
  simp only [blockedB, Bool.and_eq_true, List.all_eq_true] at h ⊢
  refine ⟨h.1, fun d hd => ?_⟩
  have := h.2 d hd
  refine ⟨?_, this.2⟩
  rw [getD_set_ne true (show j ≠ d from fun e => hj (by rw [e]; exact hd))]
  exact this.1

theorem wpAnyR_first {i : Nat} {oi : Oper} {v : Value} {D : List Nat} (hi : ops[i]? = some oi) (hsel : ∀ (j : Nat) (o : Oper) cs b, ops[j]? = some o → o.op ≠ .select cs b)
    (hQ : ∀ c a w, Q (.panic c) (a.put oi.dst v) w → Q (.panic c) a w) (ht : t ∈ D) :
    ∀ (fuel : Nat) (listed : Array Bool) (a : Act) (w : World),
      (∀ j oj, ops[j]? = some oj → j ≠ i → listed.getD j true = false → (∀ e ∈ oj.after, Region.binds md e = true → e.on ≠ i) → oi.apart ops oj = true) →
      i ∈ Region.ready md ops listed → blockedB md ops listed i D = true → YieldsIf P ops S oi v a → S w →
      wpAnyR P md ops Q S t fuel (listed.setIfInBounds i true) (a.put oi.dst v) w → wpAnyR P md ops Q S t (fuel + 1) listed a w := by
  intro fuel
  induction fuel with
  | zero =>
    intro listed a w _ hr hbl hy hS H
    refine ⟨fun h => (by rw [h] at hr; cases hr), fun j hj => ?_⟩
    by_cases hji : j = i
    · subst hji; exact hy.wpOp hi hS ⟨fun _ => hS, H⟩
    · have := ready_mono hj hji
      rw [H.1] at this
      cases this
  | succ fuel ih =>
    intro listed a w hfree hr hbl hy hS H
    refine ⟨fun h => (by rw [h] at hr; cases hr), fun j hj => ?_⟩
    by_cases hji : j = i
    · subst hji; exact hy.wpOp hi hS ⟨fun _ => hS, H⟩
    · have h1 := H.2 j (ready_mono hj hji)
      have hjD : j ∉ D := fun hd => not_ready_of_blocked hbl (mem_ready.1 hr).1 hd hj
      have hiD : i ∉ D := by
        simp only [blockedB, Bool.and_eq_true] at hbl
        simpa using hbl.1
      have htl : listed.getD t true = false := by
        simp only [blockedB, Bool.and_eq_true, List.all_eq_true] at hbl
        simpa using (hbl.2 t ht).1
      have htl2 : ((listed.setIfInBounds i true).setIfInBounds j true).getD t true = false := by
        rw [getD_set_ne true (show j ≠ t from fun e => hjD (by rw [e]; exact ht)), getD_set_ne true (show i ≠ t from fun e => hiD (by rw [e]; exact ht))]
        exact htl
      obtain ⟨hjun, oj, hoj, hall⟩ := mem_ready.1 hj
      have hnot : ∀ e ∈ oj.after, Region.binds md e = true → e.on ≠ i := fun e he hb heq => by
        have h1 := hall e he hb
        have h0 := (mem_ready.1 hr).1
        rw [heq] at h1
        rcases Nat.lt_or_ge i listed.size with h' | h'
        · simp [h'] at h0 h1; rw [h0] at h1; cases h1
        · simp [Array.getElem?_eq_none h'] at h1
      have h2 := wpOp_putIf hoj (hfree j oj hoj hji hjun hnot) (fun cs b => hsel i oi cs b hi) (fun cs b => hsel j oj cs b hoj) hQ hy h1
      have hfree' : ∀ k ok, ops[k]? = some ok → k ≠ i → (listed.setIfInBounds j true).getD k true = false →
          (∀ e ∈ ok.after, Region.binds md e = true → e.on ≠ i) → oi.apart ops ok = true := fun k ok hk hki hun hno => by
        refine hfree k ok hk hki ?_ hno
        by_cases hjk : j = k
        · subst hjk; exact hjun
        · rw [getD_set_ne true hjk] at hun; exact hun
      refine wpOp_mono (fun a' w' h3 => ⟨fun _ => h3.2.1 htl2, ih (listed.setIfInBounds j true) a' w' hfree' (ready_mono hr (Ne.symm hji)) (blocked_set hbl hjD) h3.1 (h3.2.1 htl2) ?_⟩) h2
      rw [Array.setIfInBounds_comm _ _ hji]
      exact h3.2.2

/-- What waits for i, at once or over others. -/
def descOf (md : Region.Mode) (ops : Array Oper) (i : Nat) : List Nat :=
  (List.range ops.size).foldl (fun D k => if ((ops[k]?).map fun o => o.after.any fun e => Region.binds md e && (e.on == i || D.contains e.on)).getD false then D ++ [k] else D) []
/-- All that is asked of a take, as one Bool. -/
def takeOk (md : Region.Mode) (ops : Array Oper) (listed : Array Bool) (i t : Nat) : Bool :=
  Region.noSelect ops && Region.free md ops listed i && (Region.ready md ops listed).contains i && blockedB md ops listed i (descOf md ops i) && (descOf md ops i).contains t
def pureOk (md : Region.Mode) (ops : Array Oper) (listed : Array Bool) (i : Nat) : Bool :=
  Region.noSelect ops && Region.free md ops listed i && (Region.ready md ops listed).contains i

/-- Take number i first: what it reads holds in every world that meets S, and t waits for it. -/
theorem wpAnyR_take {i d : Nat} {oi : Oper} (v : Value) {fuel : Nat} {listed : Array Bool} {a : Act} {w : World} (hi : ops[i]? = some oi) (hd : oi.dst = some d)
    (hok : takeOk md ops listed i t = true)
    (hQ : ∀ c a w, Q (.panic c) (a.put oi.dst v) w → Q (.panic c) a w) (hw : Region.wanted oi (yielded ops a.tmps) = true) (hy : ∀ w, S w → (execOp a.eval oi).run P w = .ok (.value v) w) (hS : S w)
    (h : wpAnyR P md ops Q S t fuel (listed.setIfInBounds i true) { a with tmps := a.tmps.setIfInBounds d v } w) : wpAnyR P md ops Q S t (fuel + 1) listed a w := by
  have h : wpAnyR P md ops Q S t fuel (listed.setIfInBounds i true) (a.put oi.dst v) w := by rw [hd]; exact h
  simp only [takeOk, Bool.and_eq_true] at hok
  obtain ⟨⟨⟨⟨h1, h2⟩, h3⟩, h4⟩, h5⟩ := hok
  exact wpAnyR_first hi (Region.noSelect_spec h1) hQ (by simpa using h5) fuel listed a w (Region.free_spec hi h2) (by simpa using h3) h4 (.inl ⟨hw, hy⟩) hS h

theorem wpAnyR_first0 {i : Nat} {oi : Oper} {v : Value} (hi : ops[i]? = some oi) (hsel : ∀ (j : Nat) (o : Oper) cs b, ops[j]? = some o → o.op ≠ .select cs b)
    (hQ : ∀ c a w, Q (.panic c) (a.put oi.dst v) w → Q (.panic c) a w) :
    ∀ (fuel : Nat) (listed : Array Bool) (a : Act) (w : World),
      (∀ j oj, ops[j]? = some oj → j ≠ i → listed.getD j true = false → (∀ e ∈ oj.after, Region.binds md e = true → e.on ≠ i) → oi.apart ops oj = true) →
      i ∈ Region.ready md ops listed → YieldsIf P ops (fun _ => True) oi v a → (listed.getD t true = false → S w) → t ≠ i →
      wpAnyR P md ops Q S t fuel (listed.setIfInBounds i true) (a.put oi.dst v) w → wpAnyR P md ops Q S t (fuel + 1) listed a w := by
  intro fuel
  induction fuel with
  | zero =>
    intro listed a w _ hr hy hS hti H
    refine ⟨fun h => (by rw [h] at hr; cases hr), fun j hj => ?_⟩
    by_cases hji : j = i
    · subst hji; exact hy.wpOp hi trivial ⟨fun h => hS (by rwa [getD_set_ne true (Ne.symm hti)] at h), H⟩
    · have := ready_mono hj hji
      rw [H.1] at this
      cases this
  | succ fuel ih =>
    intro listed a w hfree hr hy hS hti H
    refine ⟨fun h => (by rw [h] at hr; cases hr), fun j hj => ?_⟩
    by_cases hji : j = i
    · subst hji; exact hy.wpOp hi trivial ⟨fun h => hS (by rwa [getD_set_ne true (Ne.symm hti)] at h), H⟩
    · have h1 := H.2 j (ready_mono hj hji)
      obtain ⟨hjun, oj, hoj, hall⟩ := mem_ready.1 hj
      have hnot : ∀ e ∈ oj.after, Region.binds md e = true → e.on ≠ i := fun e he hb heq => by
        have h1 := hall e he hb
        have h0 := (mem_ready.1 hr).1
        rw [heq] at h1
        rcases Nat.lt_or_ge i listed.size with h' | h'
        · simp [h'] at h0 h1; rw [h0] at h1; cases h1
        · simp [Array.getElem?_eq_none h'] at h1
      have h2 := wpOp_putIf hoj (hfree j oj hoj hji hjun hnot) (fun cs b => hsel i oi cs b hi) (fun cs b => hsel j oj cs b hoj) hQ hy h1
      have hfree' : ∀ k ok, ops[k]? = some ok → k ≠ i → (listed.setIfInBounds j true).getD k true = false →
          (∀ e ∈ ok.after, Region.binds md e = true → e.on ≠ i) → oi.apart ops ok = true := fun k ok hk hki hun hno => by
        refine hfree k ok hk hki ?_ hno
        by_cases hjk : j = k
        · subst hjk; exact hjun
        · rw [getD_set_ne true hjk] at hun; exact hun
      have hback : ∀ {W : World}, (((listed.setIfInBounds i true).setIfInBounds j true).getD t true = false → S W) → ((listed.setIfInBounds j true).getD t true = false → S W) := fun h hl => h (by
        rw [Array.setIfInBounds_comm _ _ (Ne.symm hji), getD_set_ne true (Ne.symm hti)]
        exact hl)
      refine wpOp_mono (fun a' w' h3 => ⟨hback h3.2.1, ih (listed.setIfInBounds j true) a' w' hfree' (ready_mono hr (Ne.symm hji)) h3.1 (hback h3.2.1) hti ?_⟩) h2
      rw [Array.setIfInBounds_comm _ _ hji]
      exact h3.2.2
/-- Take number i first: it yields its value in whatever world. -/
theorem wpAnyR_pure {i d : Nat} {oi : Oper} (v : Value) {fuel : Nat} {listed : Array Bool} {a : Act} {w : World} (hi : ops[i]? = some oi) (hd : oi.dst = some d)
    (hok : pureOk md ops listed i = true) (hti : t ≠ i)
    (hQ : ∀ c a w, Q (.panic c) (a.put oi.dst v) w → Q (.panic c) a w) (hw : Region.wanted oi (yielded ops a.tmps) = true) (hy : ∀ w, (execOp a.eval oi).run P w = .ok (.value v) w) (hS : listed.getD t true = false → S w)
    (h : wpAnyR P md ops Q S t fuel (listed.setIfInBounds i true) { a with tmps := a.tmps.setIfInBounds d v } w) : wpAnyR P md ops Q S t (fuel + 1) listed a w := by
  have h : wpAnyR P md ops Q S t fuel (listed.setIfInBounds i true) (a.put oi.dst v) w := by rw [hd]; exact h
  simp only [pureOk, Bool.and_eq_true] at hok
  obtain ⟨⟨h1, h2⟩, h3⟩ := hok
  exact wpAnyR_first0 hi (Region.noSelect_spec h1) hQ fuel listed a w (Region.free_spec hi h2) (by simpa using h3) (.inl ⟨hw, fun w _ => hy w⟩) hS hti h

/-- The one that may come up. -/
theorem wpAnyR_one {i : Nat} {o : Oper} {fuel : Nat} {listed : Array Bool} {a : Act} {w : World} (hr : Region.ready md ops listed = [i]) (ho : ops[i]? = some o)
    (h : ∀ K' : Act → World → Prop, Shut (∀ a w, ((listed.setIfInBounds i true).getD t true = false → S w) → wpAnyR P md ops Q S t fuel (listed.setIfInBounds i true) a w → K' a w) → if Region.wanted o (yielded ops a.tmps) = true then Oper.wp P o a w K' Q else K' (a.put o.dst undef) w) :
    wpAnyR P md ops Q S t (fuel + 1) listed a w := by
  refine ⟨fun h0 => (by rw [hr] at h0; cases h0), fun j hj => ?_⟩
  rw [hr] at hj
  obtain rfl : j = i := by simpa using hj
  exact wpOp_step ho (fun K' hK => h K' (fun a w hS hW => hK a w ⟨hS, hW⟩))

/-- The two that may come up. -/
theorem wpAnyR_two {i j : Nat} {oi oj : Oper} {fuel : Nat} {listed : Array Bool} {a : Act} {w : World} (hr : Region.ready md ops listed = [i, j]) (hi : ops[i]? = some oi) (hj : ops[j]? = some oj)
    (h1 : ∀ K' : Act → World → Prop, Shut (∀ a w, ((listed.setIfInBounds i true).getD t true = false → S w) → wpAnyR P md ops Q S t fuel (listed.setIfInBounds i true) a w → K' a w) → if Region.wanted oi (yielded ops a.tmps) = true then Oper.wp P oi a w K' Q else K' (a.put oi.dst undef) w)
    (h2 : ∀ K' : Act → World → Prop, Shut (∀ a w, ((listed.setIfInBounds j true).getD t true = false → S w) → wpAnyR P md ops Q S t fuel (listed.setIfInBounds j true) a w → K' a w) → if Region.wanted oj (yielded ops a.tmps) = true then Oper.wp P oj a w K' Q else K' (a.put oj.dst undef) w) :
    wpAnyR P md ops Q S t (fuel + 1) listed a w := by
  refine ⟨fun h0 => (by rw [hr] at h0; cases h0), fun k hk => ?_⟩
  rw [hr] at hk
  rcases List.mem_cons.1 hk with rfl | hk
  · exact wpOp_step hi (fun K' hK => h1 K' (fun a w hS hW => hK a w ⟨hS, hW⟩))
  · obtain rfl : k = j := by simpa using hk
    exact wpOp_step hj (fun K' hK => h2 K' (fun a w hS hW => hK a w ⟨hS, hW⟩))

theorem wpAnyR_done {fuel : Nat} {listed : Array Bool} {a : Act} {w : World} (hr : Region.ready md ops listed = []) (h : Q .normal a w) : wpAnyR P md ops Q S t fuel listed a w := by
  cases fuel with
  | zero => exact ⟨hr, h⟩
  | succ fuel => exact ⟨fun _ => h, fun j hj => (by rw [hr] at hj; cases hj)⟩

theorem wp_region_rel (S : World → Prop) (t n : Nat) {id : Nat} {a : Act} {w : World} (hm : P.follows .mixedOrders = true) (hn : ops.size = n)
    (h : wpAnyR P .any ops Q S t n (Array.replicate n false) a w.drew) : (Code.region id ops true).wp P Q a w :=
  wp_region_any hm (wpAny_of_rel _ _ _ _ (hn ▸ h))

end
end Go.Proofs.Ytocpfmbieedpgaa
/-
  The walks of l10Kind and PlanBy of the specification.
-/
namespace Go.Proofs.Ytocpfmbieedpgaa
open Go.RowKit

set_option maxHeartbeats 1000000 in
set_option maxRecDepth 100000 in
theorem l10Kind_any (g m : Nat) (v : Value) (l : LLit) (w : World) (hm : MkRow w g m) (h : RdLit w w.heap.size v l) (hok : l.2.2.all termOk = true) (hn : l.2.2.length ≤ 1048576) (hk : l.1 = 0 ∨ l.1 = 1 ∨ l.1 = 2 ∨ l.1 = 3) :
    Calls Try.prog 62 #[v, .slice (some ⟨g, 0, none⟩) 4 4] w fun e w' => e = .returned (.int .i64 (if canB l m then kindOf l m else -1)) ∧ Below w.heap.size w w' := by
  obtain ⟨kd, pp, xs⟩ := l
  obtain ⟨a, rfl, h2⟩ := h
  obtain ⟨w1, hw1⟩ : ∃ w1, w1 = w.alloc (Obj.cells #[.int .i64 kd, .int .i64 pp, a] 81) := ⟨_, rfl⟩
  have B1 : Below w.heap.size w w1 := by rw [hw1]; exact below1 _ _
  have H2 := Lib.hid (h2.on B1)
  have HM := Lib.hid (hm.below B1 hm.lt)
  have x1 : Blk w1 w.heap.size 81 #[.int .i64 kd, .int .i64 pp, a] := by rw [hw1]; exact Blk.new _ _ _
  obtain ⟨A2, c2, rfl, hc2, _⟩ := h2
  have q0 : w1.cell? ⟨w.heap.size, 0, none⟩ = some (.int .i64 kd) := x1.cell 0
  have q1 : w1.cell? ⟨w.heap.size, 1, none⟩ = some (.int .i64 pp) := x1.cell 1
  have q2 : w1.cell? ⟨w.heap.size, 2, none⟩ = some (.slice A2 xs.length c2) := x1.cell 2
  have HB1 := Lib.hid B1
  have CO := Lib.hid (l10Open_any g m (.slice A2 xs.length c2) xs _ w1 HM.out H2.out hok hn)
  obtain ⟨op, hop⟩ : ∃ op, op = openB xs m := ⟨_, rfl⟩
  obtain ⟨R, hR⟩ : ∃ R : Int, R = if canB (kd, pp, xs) m then kindOf (kd, pp, xs) m else -1 := ⟨_, rfl⟩
  rw [← hR]
  have HE := Lib.hid (show R = if (decide (kd = 0) || !op) then (if kd = 0 then (if op then 0 else 1) else kd + 1) else -1 by rw [hR, hop]; rfl)
  rw [← hop] at CO
  clear hop x1 B1 hm hok hR
  simp only at hk
  rcases hk with rfl | rfl | rfl | rfl
  all_goals
    cases op
    all_goals
      go_enter Try.func62, Try.ntmps62
      go_upto_region 1 with fail
      rw [← hw1]
      clear hw1
      go_wp2_with (go_at_call 92; refine CO.out.mono ?_; rintro e w2 ⟨rfl, rfl⟩)
      go_ret
      exact ⟨ret_int (by rw [HE.out]; rfl), HB1.out⟩

theorem take_contains {os : List Int} {k n : Nat} (hk : k < os.length) (hn : os[k] = (n : Int)) (j : Nat) : (if j = n then true else (os.take k).contains (j : Int)) = (os.take (k + 1)).contains (j : Int) := by
  rw [take_snoc os k hk, hn]
  by_cases e : j = n
  · subst e; simp
  · have : ¬ (j : Int) = (n : Int) := by omega
    simp [e, this]
theorem kindOf_nonneg {l : LLit} {m : Nat} (hk : l.1 = 0 ∨ l.1 = 1 ∨ l.1 = 2 ∨ l.1 = 3) : 0 ≤ kindOf l m := by
  unfold kindOf
  split
  · split <;> omega
  · omega

set_option maxHeartbeats 8000000 in
set_option maxRecDepth 100000 in
theorem specPlanBy_any (v v2 v3 : Value) (ar : List Int) (r : LRule) (os : List Int) (w : World) (h : RdInts w w.heap.size v ar) (h2 : RdRule w w.heap.size v2 r) (h3 : RdInts w w.heap.size v3 os) (hr : ar.length ≤ 1048576) (hs : szR r ≤ 1048576) (hl : os.length ≤ 1048576) :
    Calls Try.prog 20 #[v, v2, v3] w fun e w' => ∃ A' c', e = .returned (.tuple #[.slice A' (planByL ar r os).length c', .bool (planByK ar r os)]) ∧ OwnOps w' w.heap.size w'.heap.size (.slice A' (planByL ar r os).length c') (planByL ar r os) ∧ Below w.heap.size w w' := by
  obtain ⟨i0, hi0, hz0, hz1, hz2⟩ := info_parts Try.infoOp
  have H := Lib.hid h
  have H2 := Lib.hid h2
  have H3 := Lib.hid h3
  obtain ⟨hd, b⟩ := r
  have hss := hs
  unfold szR at hss
  simp only at hss
  obtain ⟨A, c, rfl, hc, _⟩ := h
  obtain ⟨a1, a2, rfl, h2a, h2b⟩ := h2
  have H2A := Lib.hid h2a
  have H2B := Lib.hid h2b
  obtain ⟨A1, c1, rfl, hc1, _⟩ := h2a
  obtain ⟨A2, c2, rfl, hc2, _⟩ := h2b
  obtain ⟨A3, c3, rfl, hc3, _⟩ := h3
  simp only at hc1 hc2
  obtain ⟨w1, hw1⟩ : ∃ w1, w1 = w.alloc (Obj.cells #[Value.int IntKind.i64 hd.1, Value.slice A1 hd.2.length c1, Value.slice A2 b.length c2] 28) := ⟨_, rfl⟩
  have HB1 := Lib.hid (show Below w.heap.size w w1 by rw [hw1]; exact below1 _ _)
  have X1 := Lib.hid (show Blk w1 w.heap.size 28 #[.int .i64 hd.1, .slice A1 hd.2.length c1, .slice A2 b.length c2] by rw [hw1]; exact Blk.new _ _ _)
  have q0 : w1.cell? ⟨w.heap.size, 0, none⟩ = some (.int .i64 hd.1) := X1.out.cell 0
  have q1 : w1.cell? ⟨w.heap.size, 1, none⟩ = some (.slice A1 hd.2.length c1) := X1.out.cell 1
  have q2 : w1.cell? ⟨w.heap.size, 2, none⟩ = some (.slice A2 b.length c2) := X1.out.cell 2
  have CR := Lib.hid (specRuleOk_any (.slice A ar.length c) (.agg #[.int .i64 hd.1, .slice A1 hd.2.length c1, .slice A2 b.length c2]) ar (hd, b) w1 (H.out.on HB1.out) (H2.out.on HB1.out) hr hs)
  obtain ⟨ro, hro⟩ : ∃ ro, ro = ruleOk ar (hd, b) := ⟨_, rfl⟩
  rw [← hro] at CR
  have HRO := Lib.hid hro
  clear hro
  cases ro
  · have HK := Lib.hid (show planByK ar (hd, b) os = false by unfold planByK; rw [← HRO.out]; rfl)
    have HL := Lib.hid (planBy_no HK.out)
    go_enter Try.func20, Try.ntmps20
    go_upto_region 1 with fail
    rw [← hw1]
    clear hw1
    go_wp2_with (go_at_call 15; refine CR.out.mono ?_; rintro e w2 ⟨rfl, b2⟩)
    refine bodyPost_ret (v := .tuple #[.slice none 0 0, .bool false]) (by simp [results, Try.results20, go_sem]) rfl ?_
    refine ⟨none, 0, by rw [HK.out, HL.out]; rfl, ?_, bthen HB1.out b2⟩
    rw [HL.out]
    exact OwnOps.nil
  · by_cases hlen : os.length = b.length
    · have l0 : ((os.length : Int) != (b.length : Int)) = false := by simp [hlen]
      have hmk4 := make4
      have hmkU := run_make_row' (P := Try.prog) 92 4 (.bool false) 1 Try.underlying92 Try.infoBoolQ rfl .i64 .i64 os.length (by omega) (by omega)
      have HLN := Lib.hid hlen
      have HTM := Lib.hid (ruleOk_terms HRO.out.symm)
      have HKD := Lib.hid (ruleOk_kinds HRO.out.symm)
      have HNO := Lib.hid (show ∀ k, k < os.length → ordAt b os k = false → planByK ar (hd, b) os = false from fun k hk e => by unfold planByK; rw [orderOk_not hk e, Bool.and_false])
      clear hlen
      go_enter Try.func20, Try.ntmps20
      go_upto_region 1 with fail
      rw [← hw1]
      clear hw1
      go_upto_region 3 with (go_at_call 15; refine CR.out.mono ?_; rintro e w2 ⟨rfl, b2⟩; have x2 := X1.out.below b2 X1.out.lt; have t2 : w2.cell? ⟨w.heap.size, 2, none⟩ = some (.slice A2 b.length c2) := x2.cell 2)
      have X2 := Lib.hid x2
      have HB2 := Lib.hid (bthen HB1.out b2)
      have hg0 := X2.out.lt
      clear x2 b2 q0 q1 q2
      go_upto_region 6 with fail
      obtain ⟨w3, hw3⟩ : ∃ w3, w3 = w2.alloc (.cells (madeCells #[.bool false] 4) 4) := ⟨_, rfl⟩
      obtain ⟨w4, hw4⟩ : ∃ w4, w4 = w3.alloc (.cells (madeCells #[.bool false] os.length) 4) := ⟨_, rfl⟩
      have s3 : w3.heap.size = w2.heap.size + 1 := by rw [hw3]; simp
      have s4 : w4.heap.size = w2.heap.size + 1 + 1 := by rw [hw4]; simp [s3]
      have HM0 := Lib.hid (show MkRow (w4.alloc (.cells #[] 78)) w2.heap.size 0 from by
        have h0 : MkRow w3 w2.heap.size 0 := by rw [hw3]; exact MkRow.made _
        have h1 : MkRow w4 w2.heap.size 0 := by rw [hw4]; exact h0.below (below1 _ _) h0.lt
        exact h1.below (below1 _ _) h1.lt)
      have HU0 := Lib.hid (show (w4.alloc (.cells #[] 78)).rowIs (w2.heap.size + 1) 4 os.length (fun j => .bool ((os.take 0).contains (j : Int))) from by
        have h0 : w4.rowIs w3.heap.size 4 os.length (fun _ => .bool false) := by rw [hw4]; exact World.rowIs_made _ _ _ _
        rw [s3] at h0
        exact (h0.alloc _).congr fun _ _ => by simp)
      have HC0 := Lib.hid (show ColOp (w2.heap.size + 1 + 1) w2 (w4.alloc (.cells #[] 78)) [] (some ⟨w2.heap.size + 1 + 1, 0, none⟩) 0 [] from by
        have hb : Below w2.heap.size w2 w4 := by rw [hw4, hw3]; exact below2 _ _ _
        have h0 := ColOp.empty (lo := w2.heap.size + 1 + 1) (w := w2) (wr := w4) hb (by omega) (by omega)
        rwa [s4] at h0)
      rw [← hw3, ← hw4]
      clear hw3 hw4 hmk4 hmkU
      go_wp2_with fail
      go_loopw [10, 11, 12, 13] (fun p i _ _ wr => ∃ (k : Nat) (A' : Option Addr) (c' : Nat) (av : List Value), k ≤ os.length ∧ i = .int .i64 k ∧ p = .slice A' k c' ∧ ColOp (w2.heap.size + 1 + 1) w2 wr (opsTo b os k) A' c' av ∧ MkRow wr w2.heap.size (ordMask b (os.take k)) ∧ wr.rowIs (w2.heap.size + 1) 4 os.length (fun j => .bool ((os.take k).contains (j : Int))) ∧ OrdTo b os k) (fun _ i _ _ _ => os.length - (intOf i).toNat)
      case atStart => exact ⟨0, _, _, [], Nat.zero_le _, rfl, rfl, HC0.out, HM0.out, HU0.out, OrdTo.start⟩
      case round =>
        obtain ⟨k, A', c', av, hk, rfl, rfl, hcol, hm, hu, hod⟩ := hrel
        have HCOL := Lib.hid hcol
        have HM := Lib.hid hm
        have HU := Lib.hid hu
        have HOD := Lib.hid hod
        have hgM := hm.lt
        have hgU := hu.lt
        have BR := bthen HB2.out hcol.below
        have sR := hcol.below.size
        have xr := X2.out.below hcol.below hg0
        have q0 : wr.cell? ⟨w.heap.size, 0, none⟩ = some (.int .i64 hd.1) := xr.cell 0
        have q1 : wr.cell? ⟨w.heap.size, 1, none⟩ = some (.slice A1 hd.2.length c1) := xr.cell 1
        have q2 : wr.cell? ⟨w.heap.size, 2, none⟩ = some (.slice A2 b.length c2) := xr.cell 2
        clear hcol hm hu hod xr
        by_cases hlt : k < os.length
        · obtain ⟨A5, c5, e5, _, hx⟩ := H3.out
          injection e5 with e5 _ e6
          subst e5
          subst e6
          obtain ⟨b2, o2, rfl, hbB, hx⟩ := hx (by omega)
          have hck : wr.cell? ⟨b2, o2 + k, none⟩ = some (.int .i64 os[k]) := (BR.cell (p := ⟨b2, o2 + k, none⟩) hbB).trans (hx k hlt)
          have HA := Lib.hid (ordAt_get (b := b) hlt)
          clear hx
          by_cases hrg : 0 ≤ os[k] ∧ os[k] ≤ (os.length : Int) - 1
          · have CI := Lib.hid (show Calls Try.prog 61 #[.int .i64 os[k], .int .i64 0, .int .i64 ((os.length : Int) - 1)] wr fun e w' => e = .returned (.bool true) ∧ wr = w' from by
              rw [← (show decide (0 ≤ os[k] ∧ os[k] ≤ (os.length : Int) - 1) = true by simpa using hrg)]
              exact l1In_any _ _ _ _)
            obtain ⟨n, hn⟩ : ∃ n : Nat, os[k] = (n : Int) := ⟨os[k].toNat, by omega⟩
            have hnl : n < os.length := by omega
            have hnb : n < b.length := by rw [← HLN.out]; exact hnl
            have hdr : decide (0 ≤ os[k] ∧ os[k] < (b.length : Int)) = true := by simp; omega
            have HA2 := Lib.hid (show ordAt b os k = (!(os.take k).contains (n : Int) && canB b[n] (ordMask b (os.take k))) by rw [HA.out, hdr, Bool.true_and, litAt_get hn hnb, hn])
            have hcu := HU.out.cell hnl
            have hfu := HU.out.frozen n
            obtain ⟨cc, hcc⟩ : ∃ cc, cc = (os.take k).contains (n : Int) := ⟨_, rfl⟩
            rw [← hcc] at hcu HA2
            have HTC := Lib.hid (take_contains hlt hn)
            have HLI := Lib.hid (litAt_get (b := b) hn hnb)
            rw [hn] at CI hck
            have HN := Lib.hid hn
            have hn0 : (0 : Int) ≤ (n : Int) := by omega
            have hn1 : (n : Int) < (b.length : Int) := by omega
            have hn2 : (n : Int) < (os.length : Int) := by omega
            clear hcc hn hrg hdr HA
            cases cc
            · go_upto_region 11 with (go_at_call 61; refine CI.out.mono ?_; rintro e w5 ⟨rfl, rfl⟩)
              go_upto_region 12 with fail
              obtain ⟨w6, hw6⟩ : ∃ w6, w6 = wr.setCell ⟨w2.heap.size + 1, n, none⟩ (.bool true) := ⟨_, rfl⟩
              have O6 : Only (w2.heap.size + 1) (w2.heap.size + 1 + 1) wr w6 := by rw [hw6]; exact (Only.refl _ _ _).setCell (p := ⟨w2.heap.size + 1, n, none⟩) ⟨Nat.le_refl _, Nat.lt_succ_self _⟩ _
              have HC6 := Lib.hid (HCOL.out.only O6 (by omega) (Nat.le_refl _))
              have HM6 := Lib.hid (HM.out.only O6 (.inl (by omega)))
              have HU6 := Lib.hid (show w6.rowIs (w2.heap.size + 1) 4 os.length (fun j => .bool ((os.take (k + 1)).contains (j : Int))) from by
                rw [hw6]
                exact (HU.out.set n (.bool true)).congr fun j _ => by
                  show (if j = n then Value.bool true else .bool _) = .bool _
                  rw [← HTC.out j]
                  split <;> rfl)
              have BR6 := Lib.hid (bthen HB2.out HC6.out.below)
              have s6 := O6.size
              obtain ⟨b3, o3, u0, u1, u2, rfl, hbB3, k0, k1, k2, rfl, rfl, p3⟩ := H2B.out.get hnb
              have HA3 := Lib.hid p3
              obtain ⟨A4, c4, rfl, hc4, _⟩ := p3
              have hle := len_le_totL b n hnb
              have k0 := (BR6.out.cell (p := ⟨b3, o3 + n * 3, none⟩) hbB3).trans k0
              have k1 := (BR6.out.cell (p := ⟨b3, o3 + n * 3 + 1, none⟩) hbB3).trans k1
              have k2 := (BR6.out.cell (p := ⟨b3, o3 + n * 3 + 2, none⟩) hbB3).trans k2
              have X6 := Lib.hid (X2.out.below HC6.out.below hg0)
              have y2 : w6.cell? ⟨w.heap.size, 2, none⟩ = some (.slice (some ⟨b3, o3, none⟩) b.length c2) := X6.out.cell 2
              have hg6 := X6.out.lt
              have hc6 : w6.cell? ⟨b2, o2 + k, none⟩ = some (.int .i64 (n : Int)) := by rw [hw6, World.cell?_setCell_other _ _ _ _ (by intro e; injection e with e _ _; have := HCOL.out.below.size; have := HB2.out.size; omega)]; exact hck
              have hki : (k : Int) < (os.length : Int) := by omega
              have hk0 : (0 : Int) ≤ (k : Int) := by omega
              rw [← hw6]
              clear hw6 O6 hcu hfu hck q0 q1 q2
              obtain ⟨SS, hSS⟩ : ∃ SS : World → Prop, SS = (fun W => W.cell? ⟨w.heap.size, 2, none⟩ = some (.slice (some ⟨b3, o3, none⟩) b.length c2) ∧ W.cell? ⟨b2, o2 + k, none⟩ = some (.int .i64 (n : Int)) ∧ W.cell? ⟨b3, o3 + n * 3, none⟩ = some (.int .i64 b[n].1) ∧ W.cell? ⟨b3, o3 + n * 3 + 1, none⟩ = some (.int .i64 b[n].2.1) ∧ W.cell? ⟨b3, o3 + n * 3 + 2, none⟩ = some (.slice A4 b[n].2.2.length c4)) := ⟨_, rfl⟩
              have HB := Lib.hid (show ∀ W, SS W → (W.cell? ⟨w.heap.size, 2, none⟩ = some (.slice (some ⟨b3, o3, none⟩) b.length c2) ∧ W.cell? ⟨b2, o2 + k, none⟩ = some (.int .i64 (n : Int)) ∧ W.cell? ⟨b3, o3 + n * 3, none⟩ = some (.int .i64 b[n].1) ∧ W.cell? ⟨b3, o3 + n * 3 + 1, none⟩ = some (.int .i64 b[n].2.1) ∧ W.cell? ⟨b3, o3 + n * 3 + 2, none⟩ = some (.slice A4 b[n].2.2.length c4)) from by rw [hSS]; exact fun W hW => hW)
              have HS := Lib.hid (show ∀ W, Below w6.heap.size w6 W → SS W from by
                rw [hSS]
                exact fun W hW => ⟨(hW.cell (World.block_lt_of_cell? _ _ y2)).trans y2, (hW.cell (World.block_lt_of_cell? _ _ hc6)).trans hc6, (hW.cell (World.block_lt_of_cell? _ _ k0)).trans k0, (hW.cell (World.block_lt_of_cell? _ _ k1)).trans k1, (hW.cell (World.block_lt_of_cell? _ _ k2)).trans k2⟩)
              clear hSS k0 k1 k2 y2 hc6
              go_cut [12] (fun p wx => p = .pointer (some ⟨w6.heap.size, 0, none⟩) ∧ Below w6.heap.size w6 wx ∧ Blk wx w6.heap.size 81 #[.int .i64 b[n].1, .int .i64 b[n].2.1, .slice A4 b[n].2.2.length c4])
              case first =>
                refine wp_region_rel SS 9 10 (by kernel_rfl) rfl ?_
                obtain ⟨wy, hwy⟩ : ∃ wy, wy = w6.drew := ⟨_, rfl⟩
                have BY : Below w6.heap.size w6 wy := by rw [hwy]; exact (Below.refl _ _).drew
                have HSY := Lib.hid (show wy.heap.size = w6.heap.size by rw [hwy]; rfl)
                rw [← hwy]
                clear hwy
                have S0 := HS.out _ BY
                refine wpAnyR_pure (i := 0) (oi := _) ?va0 rfl rfl (by kernel_rfl) (by decide) (fun _ _ _ h => h) rfl ?hya0 (fun _ => S0) ?resta0
                case hya0 => (intro W; go_simp; (try with_reducible rfl))
                try simp only [List.setIfInBounds_toArray, List.set_cons_zero, List.set_cons_succ]
                refine wpAnyR_take (i := 1) (oi := _) ?va1 rfl rfl (by kernel_rfl) (fun _ _ _ h => h) rfl ?hya1 S0 ?resta1
                case hya1 => (intro W hW; obtain ⟨d0, d1, d2, d3, d4⟩ := HB.out W hW; go_simp; (try with_reducible rfl))
                try simp only [List.setIfInBounds_toArray, List.set_cons_zero, List.set_cons_succ]
                refine wpAnyR_pure (i := 2) (oi := _) ?va2 rfl rfl (by kernel_rfl) (by decide) (fun _ _ _ h => h) rfl ?hya2 (fun _ => S0) ?resta2
                case hya2 => (intro W; go_simp; (try with_reducible rfl))
                try simp only [List.setIfInBounds_toArray, List.set_cons_zero, List.set_cons_succ]
                refine wpAnyR_pure (i := 3) (oi := _) ?va3 rfl rfl (by kernel_rfl) (by decide) (fun _ _ _ h => h) rfl ?hya3 (fun _ => S0) ?resta3
                case hya3 => (intro W; go_simp; (try with_reducible rfl))
                try simp only [List.setIfInBounds_toArray, List.set_cons_zero, List.set_cons_succ]
                refine wpAnyR_pure (i := 4) (oi := _) ?va4 rfl rfl (by kernel_rfl) (by decide) (fun _ _ _ h => h) rfl ?hya4 (fun _ => S0) ?resta4
                case hya4 => (intro W; go_simp; (try with_reducible rfl))
                try simp only [List.setIfInBounds_toArray, List.set_cons_zero, List.set_cons_succ]
                refine wpAnyR_take (i := 5) (oi := _) ?va5 rfl rfl (by kernel_rfl) (fun _ _ _ h => h) rfl ?hya5 S0 ?resta5
                case hya5 => (intro W hW; obtain ⟨d0, d1, d2, d3, d4⟩ := HB.out W hW; go_simp; (try with_reducible rfl))
                try simp only [List.setIfInBounds_toArray, List.set_cons_zero, List.set_cons_succ]
                refine wpAnyR_pure (i := 6) (oi := _) ?va6 rfl rfl (by kernel_rfl) (by decide) (fun _ _ _ h => h) rfl ?hya6 (fun _ => S0) ?resta6
                case hya6 => (intro W; go_simp; (try with_reducible rfl))
                try simp only [List.setIfInBounds_toArray, List.set_cons_zero, List.set_cons_succ]
                refine wpAnyR_take (i := 7) (oi := _) ?va7 rfl rfl (by kernel_rfl) (fun _ _ _ h => h) rfl ?hya7 S0 ?resta7
                case hya7 => (intro W hW; obtain ⟨d0, d1, d2, d3, d4⟩ := HB.out W hW; go_simp; (try with_reducible rfl))
                try simp only [List.setIfInBounds_toArray, List.set_cons_zero, List.set_cons_succ]
                refine wpAnyR_one (i := 8) (by kernel_rfl) rfl (fun K hK => ?_)
                try rw [if_pos (show Region.wanted _ _ = true from rfl)]
                go_simp
                obtain ⟨w7, hw7⟩ : ∃ w7, w7 = wy.alloc (Obj.cells #[Value.int IntKind.i64 0, Value.int IntKind.i64 0, Value.slice none 0 0] 81) := ⟨_, rfl⟩
                have g7 : Below wy.heap.size wy w7 := by rw [hw7]; exact below1 _ _
                have x7 : Blk w7 wy.heap.size 81 #[.int .i64 0, .int .i64 0, .slice none 0 0] := by rw [hw7]; exact Blk.new _ _ _
                rw [← hw7]
                clear hw7
                have B7 := bthen BY g7
                have S7 := HS.out _ B7
                refine hK.out _ _ (fun _ => S7) ?_
                clear hK K
                try simp only [List.setIfInBounds_toArray, List.set_cons_zero, List.set_cons_succ, Act.put]
                have e0 := x7.cell 0
                have e1 := x7.cell 1
                have e2 := x7.cell 2
                have f0 := x7.frozen 0
                have f1 := x7.frozen 1
                have f2 := x7.frozen 2
                simp at e0 e1 e2
                refine wpAnyR_one (i := 9) (by kernel_rfl) rfl (fun K hK => ?_)
                try rw [if_pos (show Region.wanted _ _ = true from rfl)]
                go_simp
                refine hK.out _ _ (fun hf => absurd hf (by decide)) ?_
                clear hK K e0 e1 e2 f0 f1 f2
                refine wpAnyR_done (by kernel_rfl) ?_
                go_wp2_with fail
                go_meet
                rw [← HSY.out]
                have h1 := ((x7.set_ 0 (.int .i64 b[n].1)).set_ 1 (.int .i64 b[n].2.1)).set_ 2 (.slice A4 b[n].2.2.length c4)
                have sy := HSY.out
                exact ⟨rfl, by rw [sy]; exact ((B7.setCell (Nat.le_refl _) _).setCell (Nat.le_refl _) _).setCell (Nat.le_refl _) _, by simpa using h1⟩
              case rest =>
                obtain ⟨rfl, b7, x7⟩ := hcut
                have s7 := b7.size
                have B7 := bthen BR6.out b7
                have z0 : wc.cell? ⟨w6.heap.size, 0, none⟩ = some (.int .i64 b[n].1) := x7.cell 0
                have z1 : wc.cell? ⟨w6.heap.size, 1, none⟩ = some (.int .i64 b[n].2.1) := x7.cell 1
                have z2 : wc.cell? ⟨w6.heap.size, 2, none⟩ = some (.slice A4 b[n].2.2.length c4) := x7.cell 2
                have X7 := Lib.hid x7
                have HM7 := Lib.hid (HM6.out.below b7 HM6.out.lt)
                have HU7 := Lib.hid (HU6.out.of_block (b7.block _ HU6.out.lt))
                have HC7 := Lib.hid (HC6.out.on b7)
                have hT := HTM.out.2 b[n] (List.getElem_mem hnb)
                have hkd := HKD.out b[n] (List.getElem_mem hnb)
                have CK := Lib.hid (l10Kind_any w2.heap.size (ordMask b (os.take k)) (.agg #[.int .i64 b[n].1, .int .i64 b[n].2.1, .slice A4 b[n].2.2.length c4]) b[n] wc HM7.out ⟨_, rfl, HA3.out.on B7⟩ hT (by omega) hkd)
                obtain ⟨nn, hnn⟩ : ∃ nn, nn = canB b[n] (ordMask b (os.take k)) := ⟨_, rfl⟩
                rw [← hnn] at CK HA2
                clear x7 hnn
                cases nn
                · have HK := Lib.hid (HNO.out k hlt (by rw [HA2.out]; rfl))
                  have HL := Lib.hid (planBy_no HK.out)
                  simp only [Bool.false_eq_true, if_false] at CK
                  go_wp2_with (go_at_call 62; refine CK.out.mono ?_; rintro e w8 ⟨rfl, b8⟩)
                  refine bodyPost_ret (v := .tuple #[.slice none 0 0, .bool false]) (by simp [results, Try.results20, go_sem]) rfl ?_
                  refine ⟨none, 0, by rw [HK.out, HL.out]; rfl, ?_, bthen B7 b8⟩
                  rw [HL.out]
                  exact OwnOps.nil
                · obtain ⟨KK, hKK⟩ : ∃ KK, KK = kindOf b[n] (ordMask b (os.take k)) := ⟨_, rfl⟩
                  simp only [if_true] at CK
                  rw [← hKK] at CK
                  have hKn : decide (KK < 0) = false := by
                    have := kindOf_nonneg (m := ordMask b (os.take k)) hkd
                    rw [← hKK] at this
                    simp
                    omega
                  have hst := opsTo_step (b := b) hlt
                  have hom := ordMask_take (b := b) hlt
                  rw [HLI.out] at hst hom
                  rw [← hKK] at hst
                  have HNX := Lib.hid hst
                  have HOM := Lib.hid hom
                  have HOD2 := Lib.hid (HOD.out.step (by rw [HA2.out]; rfl))
                  obtain ⟨Q, hQ⟩ : ∃ Q, Q = opsTo b os k := ⟨_, rfl⟩
                  have HQ := Lib.hid hQ
                  have HQL := Lib.hid (show Q.length = k by rw [hQ, opsTo_len])
                  rw [← hQ] at HC7
                  clear hst hom hQ hKK
                  go_upto_region 16 with (go_at_call 62; refine CK.out.mono ?_; rintro e w8 ⟨rfl, b8⟩)
                  have s8 := b8.size
                  have B8 := bthen B7 b8
                  have x8 := X7.out.below b8 X7.out.lt
                  have y0 : w8.cell? ⟨w6.heap.size, 0, none⟩ = some (.int .i64 b[n].1) := x8.cell 0
                  have y1 : w8.cell? ⟨w6.heap.size, 1, none⟩ = some (.int .i64 b[n].2.1) := x8.cell 1
                  have y2 : w8.cell? ⟨w6.heap.size, 2, none⟩ = some (.slice A4 b[n].2.2.length c4) := x8.cell 2
                  have X8 := Lib.hid x8
                  have HM8 := Lib.hid (HM7.out.below b8 HM7.out.lt)
                  have HU8 := Lib.hid (HU7.out.of_block (b8.block _ HU7.out.lt))
                  have HC8 := Lib.hid (HC7.out.on b8)
                  have CA := Lib.hid (l2AtomN_any b[n].2.1 (.slice A4 b[n].2.2.length c4) b[n].2.2 w8 (HA3.out.on B8) (by omega) hT)
                  clear x8 z0 z1 z2 b8
                  go_upto_region 17 with (first | (go_at_call 63; refine CA.out.mono ?_; rintro e w9 ⟨P6, d6, rfl, o6, g9⟩) | (at_builtin; refine wpList_append_lies _ rfl (.tmp 74) (.tmp 80) 31 rfl (w2.heap.size + 1 + 1) 78 i0 (.agg #[.int .i64 0, .int .i64 0, .slice none 0 0]) 3 40 Try.underlying31 hi0 hz0 hz1 hz2 rfl (by decide) (.slice A' k c') k (flat3 Q av) rfl ?c1 ⟨w9.heap.size, 0, none⟩ 1 1 [.int .i64 KK, .int .i64 b[n].2.1, .slice P6 b[n].2.2.length d6] rfl rfl (news3o w9 _ _ _ _) ?c2 (by omega) (by unfold maxLen; omega) (by omega) ?c3 _ rfl ?_))
                  case c1 => have h0 := (HC8.out.on g9).own.row; rw [HQL.out] at h0; exact h0.alloc _
                  case c2 => intro u hu; simp at hu; rcases hu with rfl | rfl | rfl <;> rfl
                  case c3 => have := HC8.out.lo2; have := g9.size; simp; omega
                  intro g2 cap w10 hown hgr hat _
                  have hpush := HC8.out.push (s := (KK, b[n].2)) (os' := opsTo b os (k + 1)) (by rw [HNX.out, HQ.out]) g9 o6 (by rw [HQL.out]; exact hgr) (by rw [HQL.out]; exact hown)
                  have hgf := grown_from_alloc hgr
                  have s9 := g9.size
                  have hlo := (HC8.out.on g9).own
                  have hne : ∀ q, q < w2.heap.size + 1 + 1 ∨ q = w6.heap.size → some q ≠ (Value.slice A' k c').ownBlock := fun q hq e => by
                    have h1 := HC6.out.own.row.lt q (by rw [← HQ.out, HQL.out]; exact e.symm)
                    omega
                  have hsame : ∀ q, q < w8.heap.size → (q < w2.heap.size + 1 + 1 ∨ q = w6.heap.size) → w10.heap[q]? = w8.heap[q]? := fun q h1 h2 => (hgf.block q (Nat.lt_of_lt_of_le h1 s9) (hne q h2)).trans (g9.block q h1)
                  have HM10 := Lib.hid (show MkRow w10 w2.heap.size (ordMask b (os.take k)) from (hsame _ HM8.out.lt (.inl (by omega))).trans HM8.out)
                  have HU10 := Lib.hid (HU8.out.of_block (hsame _ HU8.out.lt (.inl (by omega))))
                  have x10 : Blk w10 w6.heap.size 81 #[.int .i64 b[n].1, .int .i64 b[n].2.1, .slice A4 b[n].2.2.length c4] := (hsame _ X8.out.lt (.inr rfl)).trans X8.out
                  have v0 : w10.cell? ⟨w6.heap.size, 0, none⟩ = some (.int .i64 b[n].1) := x10.cell 0
                  have v1 : w10.cell? ⟨w6.heap.size, 1, none⟩ = some (.int .i64 b[n].2.1) := x10.cell 1
                  have v2 : w10.cell? ⟨w6.heap.size, 2, none⟩ = some (.slice A4 b[n].2.2.length c4) := x10.cell 2
                  have HC10 := Lib.hid hpush.1
                  have B10 := bthen HB2.out hpush.1.below
                  have CM := Lib.hid (l2Mark_any w2.heap.size (ordMask b (os.take k)) (.slice A4 b[n].2.2.length c4) b[n].2.2 w10 HM10.out ((HA3.out.below B10 (Nat.le_refl _)).more (HB2.out.size)) (by omega))
                  clear hpush hown hgr hat hgf hlo hne hsame x10 y0 y1 y2
                  go_wp2_with (go_at_call 64; refine CM.out.mono ?_; rintro e w11 ⟨rfl, m11, on11⟩)
                  rw [maskFrom_eq, ← HOM.out] at m11
                  have HC11 := Lib.hid (HC10.out.only on11 (Nat.le_refl _) (by omega))
                  have HU11 := Lib.hid (rowIs_only HU10.out on11 (.inr (by omega)))
                  go_roundw
                  case rel => exact ⟨k + 1, _, _, _, by omega, by go_num, rfl, HC11.out, m11, HU11.out, HOD2.out⟩
                  case measure => simp [intOf]; omega
            · have HK := Lib.hid (HNO.out k hlt (by rw [HA2.out]; rfl))
              have HL := Lib.hid (planBy_no HK.out)
              go_wp2_with (go_at_call 61; refine CI.out.mono ?_; rintro e w5 ⟨rfl, rfl⟩)
              refine bodyPost_ret (v := .tuple #[.slice none 0 0, .bool false]) (by simp [results, Try.results20, go_sem]) rfl ?_
              refine ⟨none, 0, by rw [HK.out, HL.out]; rfl, ?_, BR⟩
              rw [HL.out]
              exact OwnOps.nil
          · have CI := Lib.hid (show Calls Try.prog 61 #[.int .i64 os[k], .int .i64 0, .int .i64 ((os.length : Int) - 1)] wr fun e w' => e = .returned (.bool false) ∧ wr = w' from by
              rw [← (show decide (0 ≤ os[k] ∧ os[k] ≤ (os.length : Int) - 1) = false by simpa using hrg)]
              exact l1In_any _ _ _ _)
            have HK := Lib.hid (HNO.out k hlt (by rw [HA.out, decide_eq_false (by rw [← HLN.out]; omega)]; rfl))
            have HL := Lib.hid (planBy_no HK.out)
            clear hrg
            go_wp2_with (go_at_call 61; refine CI.out.mono ?_; rintro e w5 ⟨rfl, rfl⟩)
            refine bodyPost_ret (v := .tuple #[.slice none 0 0, .bool false]) (by simp [results, Try.results20, go_sem]) rfl ?_
            refine ⟨none, 0, by rw [HK.out, HL.out]; rfl, ?_, BR⟩
            rw [HL.out]
            exact OwnOps.nil
        · obtain rfl : k = os.length := by omega
          have HK := Lib.hid (show planByK ar (hd, b) os = true by unfold planByK; rw [← HRO.out, show orderOk (hd, b).2 os = true from orderOk_yes HLN.out HOD.out rfl]; rfl)
          have HL := Lib.hid (planBy_yes HK.out)
          have CA := Lib.hid (l2AtomN_any hd.1 (.slice A1 hd.2.length c1) hd.2 wr (H2A.out.on BR) (by omega) HTM.out.1)
          obtain ⟨Q, hQ⟩ : ∃ Q, Q = opsTo b os os.length := ⟨_, rfl⟩
          have HQ := Lib.hid hQ
          have HQL := Lib.hid (show Q.length = os.length by rw [hQ, opsTo_len])
          rw [← hQ] at HCOL
          clear hQ
          go_wp2_with (first | (go_at_call 63; refine CA.out.mono ?_; rintro e w9 ⟨P6, d6, rfl, o6, g9⟩) | (at_builtin; refine wpList_append_lies _ rfl (.tmp 87) (.tmp 92) 31 rfl (w2.heap.size + 1 + 1) 78 i0 (.agg #[.int .i64 0, .int .i64 0, .slice none 0 0]) 3 40 Try.underlying31 hi0 hz0 hz1 hz2 rfl (by decide) (.slice A' os.length c') os.length (flat3 Q av) rfl ?c1 ⟨w9.heap.size, 0, none⟩ 1 1 [.int .i64 5, .int .i64 hd.1, .slice P6 hd.2.length d6] rfl rfl (news3o w9 _ _ _ _) ?c2 (by omega) (by unfold maxLen; omega) (by omega) ?c3 _ rfl ?_))
          case c1 => have h0 := (HCOL.out.on g9).own.row; rw [HQL.out] at h0; exact h0.alloc _
          case c2 => intro u hu; simp at hu; rcases hu with rfl | rfl | rfl <;> rfl
          case c3 => have := HCOL.out.lo2; have := g9.size; simp; omega
          intro g2 cap w7 hown hgr hat _
          have hpush := HCOL.out.push (s := (5, hd)) (os' := planFor (hd, b) os) (by rw [HQ.out]; rfl) g9 o6 (by rw [HQL.out]; exact hgr) (by rw [HQL.out]; exact hown)
          have HPU := Lib.hid hpush
          have HLE := Lib.hid (planFor_len (hd, b) os)
          clear hpush hown hgr hat
          go_wp2_with fail
          refine bodyPost_ret (v := .tuple #[.slice (some ⟨g2, 0, none⟩) (os.length + 1) cap, .bool true]) (by simp [results, Try.results20, go_sem]) rfl ?_
          refine ⟨some ⟨g2, 0, none⟩, cap, by rw [HK.out, HL.out, HLE.out], ?_, bthen HB2.out HPU.out.1.below⟩
          rw [HL.out]
          exact HPU.out.1.ops.mono HB2.out.size (Nat.le_refl _)
    · have l0 : ((os.length : Int) != (b.length : Int)) = true := by simp; omega
      have HK := Lib.hid (show planByK ar (hd, b) os = false by unfold planByK; rw [show orderOk (hd, b).2 os = false from orderOk_len hlen, Bool.and_false])
      have HL := Lib.hid (planBy_no HK.out)
      clear hlen
      go_enter Try.func20, Try.ntmps20
      go_upto_region 1 with fail
      rw [← hw1]
      clear hw1
      go_wp2_with (go_at_call 15; refine CR.out.mono ?_; rintro e w2 ⟨rfl, b2⟩; have x2 := X1.out.below b2 X1.out.lt; have t2 : w2.cell? ⟨w.heap.size, 2, none⟩ = some (.slice A2 b.length c2) := x2.cell 2)
      refine bodyPost_ret (v := .tuple #[.slice none 0 0, .bool false]) (by simp [results, Try.results20, go_sem]) rfl ?_
      refine ⟨none, 0, by rw [HK.out, HL.out]; rfl, ?_, bthen HB1.out b2⟩
      rw [HL.out]
      exact OwnOps.nil

end Go.Proofs.Ytocpfmbieedpgaa
/-
  The walks of areKnown, opFits, PlanOk of the program.
-/
namespace Go.Proofs.Ytocpfmbieedpgaa
open Go.RowKit

set_option maxHeartbeats 400000 in
theorem areKnown_any (v : Value) (xs : List Int) (m : Nat) (B : Nat) (w : World) (h : RdInts w B v xs) (hr : xs.length ≤ 1048576) (hm : m < 16) :
    Calls Try.prog 57 #[v, .int .u64 (m : Nat)] w fun e w' => e = .returned (.bool (!(openB xs m))) ∧ w = w' := by
  have CV := Lib.hid (argVars_any v xs B w h hr)
  have hw := openB_word xs hm
  obtain ⟨z, hz⟩ : ∃ z : Int, z = ((maskOf xs : Nat) : Int) := ⟨_, rfl⟩
  rw [← hz] at CV hw
  obtain ⟨y, hy⟩ : ∃ y : Int, y = ((m : Nat) : Int) := ⟨_, rfl⟩
  rw [← hy] at hw
  rw [← hy]
  clear hz hy
  obtain ⟨A, c, rfl, hc, ha⟩ := h
  go_enter Try.func57, Try.ntmps57
  go_wp2_with (go_at_call 58; refine CV.out.mono ?_; rintro e w5 ⟨rfl, rfl⟩)
  go_ret
  exact ⟨rfl, rfl⟩

theorem areKnown_below (v : Value) (xs : List Int) (m : Nat) (w : World) (h : RdInts w w.heap.size v xs) (hr : xs.length ≤ 1048576) (hm : m < 16) :
    Calls Try.prog 57 #[v, .int .u64 (m : Nat)] w fun e w' => e = .returned (.bool (!(openB xs m))) ∧ Below w.heap.size w w' :=
  (areKnown_any v xs m _ w h hr hm).mono fun _ _ ⟨he, hw⟩ => ⟨he, hw ▸ Below.refl _ _⟩

set_option maxHeartbeats 1000000 in
set_option maxRecDepth 100000 in
theorem opFits_any (v v2 : Value) (ar : List Int) (l : LLit) (w : World) (h : RdInts w w.heap.size v ar) (h2 : RdLit w w.heap.size v2 l) (hn : l.2.2.length ≤ 1048576) :
    Calls Try.prog 56 #[v, v2] w fun e w' => e = .returned (.bool (opFits ar l)) ∧ Below w.heap.size w w' := by
  have H := Lib.hid h
  obtain ⟨kd, pp, xs⟩ := l
  obtain ⟨A, c, rfl, hc, _⟩ := h
  obtain ⟨a, rfl, h2⟩ := h2
  have H2 := Lib.hid (h2.on (below1 w (.cells #[.int .i64 kd, .int .i64 pp, a] 78)))
  obtain ⟨A2, c2, rfl, hc2, _⟩ := h2
  by_cases ka : kd = 0 ∨ kd = 1 ∨ kd = 2 ∨ kd = 5
  · have HE := Lib.hid (show opFits ar (kd, pp, xs) = atomFits ar (pp, xs) by simp [opFits, ka])
    rcases ka with rfl | rfl | rfl | rfl
    all_goals
      go_enter Try.func56, Try.ntmps56
      go_wp2_with (go_at_call 93; refine (atomFits_any _ _ ar (pp, xs) _ (H.out.on (below1 _ _)) ⟨_, rfl, H2.out⟩ hn).mono ?_; rintro e w5 ⟨rfl, hb5⟩)
      go_ret
      exact ⟨ret_bool HE.out.symm, bthen (below1 _ _) hb5⟩
  · have k0 : (kd == 0) = false := by simp; omega
    have k1 : (kd == 1) = false := by simp; omega
    have k2 : (kd == 2) = false := by simp; omega
    have k5 : (kd == 5) = false := by simp; omega
    by_cases kb : kd = 3 ∨ kd = 4
    · have HE := Lib.hid (show opFits ar (kd, pp, xs) = comparesB (pp, xs) by simp [opFits, comparesB, ka, kb])
      clear ka k0 k1 k2 k5
      rcases kb with rfl | rfl
      all_goals
        go_enter Try.func56, Try.ntmps56
        go_wp2_with (go_at_call 101; refine (comparesTerms_any _ (pp, xs) _ ⟨_, rfl, H2.out⟩ hn).mono ?_; rintro e w5 ⟨rfl, hb5⟩)
        go_ret
        exact ⟨ret_bool HE.out.symm, bthen (below1 _ _) hb5⟩
    · have k3 : (kd == 3) = false := by simp; omega
      have k4 : (kd == 4) = false := by simp; omega
      have HE := Lib.hid (show opFits ar (kd, pp, xs) = false by simp [opFits, ka, kb])
      clear ka kb
      go_enter Try.func56, Try.ntmps56
      go_wp2_with (fail)
      go_ret
      exact ⟨ret_bool HE.out.symm, below1 _ _⟩

set_option maxHeartbeats 2000000 in
set_option maxRecDepth 100000 in
theorem implPlanOk_any (v v2 : Value) (ar : List Int) (os : List LLit) (w : World) (h : RdInts w w.heap.size v ar) (h2 : RdLits w w.heap.size v2 os) (hr : ar.length ≤ 1048576) (hl : os.length ≤ 1048576) (ht : totL os ≤ 1048576) :
    Calls Try.prog 18 #[v, v2] w fun e w' => e = .returned (.bool (planOk ar os)) ∧ Below w.heap.size w w' := by
  have H := Lib.hid h
  have H2 := Lib.hid h2
  have CA := Lib.hid (arityOk_any v ar w h (by omega))
  obtain ⟨A, c, rfl, hc, _⟩ := h
  obtain ⟨A2, c2, rfl, hc2, _⟩ := h2
  by_cases ha : arityOk ar = true
  · rw [ha] at CA
    have HA := Lib.hid ha
    clear ha
    by_cases hlen : 1 ≤ os.length ∧ os.length ≤ 5
    · have l0 : ((os.length : Int) == 0) = false := by rw [beq_eq_false_iff_ne]; omega
      have l5 : decide ((5 : Int) < (os.length : Int)) = false := by simp; omega
      have HLN := Lib.hid hlen
      clear hlen
      go_enter Try.func18, Try.ntmps18
      go_upto_region 3 with (go_at_call 49; refine CA.out.mono ?_; rintro e w1 ⟨rfl, b1⟩)
      go_wp2_with (fail)
      go_loopw [5, 6, 7, 8, 24] (fun m _ _ _ i wr => ∃ (k : Nat), k ≤ os.length ∧ i = .int .i64 k ∧ m = .int .u64 ((bodyMask (os.take k) : Nat) : Int) ∧ OpsOk ar os k ∧ Below w.heap.size w wr) (fun _ _ _ _ i _ => os.length - (intOf i).toNat)
      case atStart => exact ⟨0, Nat.zero_le _, rfl, rfl, OpsOk.start, b1⟩
      case round =>
        obtain ⟨k, hk, rfl, rfl, hs, hbe⟩ := hrel
        by_cases hlt : k < os.length
        · obtain ⟨b, o, u0, u1, u2, rfl, hbB, k0, k1, k2, rfl, rfl, p3⟩ := (H2.out.on hbe).get hlt
          have HA3 := Lib.hid p3
          obtain ⟨A3, c3, rfl, hc3, _⟩ := p3
          have hle := len_le_totL os k hlt
          have HM := Lib.hid (And.intro (bodyMask_lt k os (by omega)) (bodyMask_take hlt))
          have HS := Lib.hid hs
          clear hs
          go_upto_region 7 with fail
          obtain ⟨w3, hw3⟩ : ∃ w3, w3 = wr.alloc (Obj.cells #[.int .i64 os[k].1, .int .i64 os[k].2.1, .slice A3 os[k].2.2.length c3] 78) := ⟨_, rfl⟩
          have B3 : Below wr.heap.size wr w3 := by rw [hw3]; exact below1 _ _
          have x3 : Blk w3 wr.heap.size 78 #[.int .i64 os[k].1, .int .i64 os[k].2.1, .slice A3 os[k].2.2.length c3] := by rw [hw3]; exact Blk.new _ _ _
          have q0 : w3.cell? ⟨wr.heap.size, 0, none⟩ = some (.int .i64 os[k].1) := x3.cell 0
          have q1 : w3.cell? ⟨wr.heap.size, 1, none⟩ = some (.int .i64 os[k].2.1) := x3.cell 1
          have q2 : w3.cell? ⟨wr.heap.size, 2, none⟩ = some (.slice A3 os[k].2.2.length c3) := x3.cell 2
          rw [← hw3]
          clear hw3
          have HF := Lib.hid (opFits_any (.slice A ar.length c) (.agg #[.int .i64 os[k].1, .int .i64 os[k].2.1, .slice A3 os[k].2.2.length c3]) ar os[k] w3 ((H.out.on hbe).on B3) ⟨_, rfl, HA3.out.on B3⟩ (by omega))
          have X3 := Lib.hid x3
          clear x3 k0 k1 k2
          obtain ⟨b5, hb5⟩ : ∃ b, b = (os[k].1 == 5) := ⟨_, rfl⟩
          obtain ⟨la, hla⟩ : ∃ b, b = decide (k + 1 = os.length) := ⟨_, rfl⟩
          have el : ((k : Int) == (os.length : Int) - 1) = la := by
            rw [hla]
            by_cases e : k + 1 = os.length
            · simp only [e, decide_true, beq_iff_eq]; omega
            · simp only [e, decide_false, beq_eq_false_iff_ne]; omega
          have e5 := hb5.symm
          have HB5 := Lib.hid hb5
          have HLA := Lib.hid hla
          clear hb5 hla
          obtain ⟨ff, hff⟩ : ∃ b, b = opFits ar os[k] := ⟨_, rfl⟩
          rw [← hff] at HF
          have HFF := Lib.hid hff
          clear hff
          go_upto_region 8 with fail
          go_cut [44] (fun v wx => v = .bool (!((b5 == la) && ff)) ∧ Below w3.heap.size w3 wx)
          case first =>
            cases b5 <;> cases la
            · go_wp2_with (go_at_call 56; refine HF.out.mono ?_; rintro e w5 ⟨rfl, bf⟩)
              go_meet
              exact ⟨by cases ff <;> rfl, bf⟩
            · go_wp2_with fail
              go_meet
              exact ⟨rfl, Below.refl _ _⟩
            · go_wp2_with fail
              go_meet
              exact ⟨rfl, Below.refl _ _⟩
            · go_wp2_with (go_at_call 56; refine HF.out.mono ?_; rintro e w5 ⟨rfl, bf⟩)
              go_meet
              exact ⟨by cases ff <;> rfl, bf⟩
          case rest =>
            obtain ⟨rfl, b4⟩ := hcut
            have B4 := bthen hbe (bthen B3 b4)
            have x4 := X3.out.below b4 X3.out.lt
            have M0 := later_cell (x4.cell 0 : wc.cell? ⟨wr.heap.size, 0, none⟩ = some (.int .i64 os[k].1))
            have M1 := later_cell (x4.cell 1 : wc.cell? ⟨wr.heap.size, 1, none⟩ = some (.int .i64 os[k].2.1))
            have M2 := later_cell (x4.cell 2 : wc.cell? ⟨wr.heap.size, 2, none⟩ = some (.slice A3 os[k].2.2.length c3))
            have X4 := Lib.hid x4
            clear x4 q0 q1 q2
            obtain ⟨y, hy⟩ : ∃ y, y = ((b5 == la) && ff) := ⟨_, rfl⟩
            rw [← hy]
            have HY := Lib.hid hy
            clear hy
            obtain ⟨b0, hb0⟩ : ∃ b, b = (os[k].1 == 0) := ⟨_, rfl⟩
            obtain ⟨op, hop⟩ : ∃ b, b = openB os[k].2.2 (bodyMask (os.take k)) := ⟨_, rfl⟩
            have HOK := Lib.hid (show opOk ar os[k] (bodyMask (os.take k)) (decide (k + 1 = os.length)) = (y && (b0 == op)) by rw [opOk_beq, ← HB5.out, ← HLA.out, ← HFF.out, ← hb0, ← hop, ← HY.out])
            have e0 := hb0.symm
            cases y
            · have HE := Lib.hid (show planOk ar os = false from planOk_not hlt (by rw [HOK.out]; rfl))
              clear e0 hop hb0
              go_wp2_with (fail)
              go_ret
              exact ⟨ret_bool HE.out.symm, B4⟩
            · have C1 := Lib.hid (fun x : Later wc => later_of (areKnown_below (.slice A3 os[k].2.2.length c3) os[k].2.2 (bodyMask (os.take k)) x.val (((HA3.out.on B3).on b4).on x.2) (by omega) HM.out.1))
              rw [← hop] at C1
              clear hb0 hop
              obtain ⟨w4, hw4⟩ : ∃ w4, w4 = wc := ⟨_, rfl⟩
              subst hw4
              go_upto_region 10 with fail
              go_cut [53] (fun v wx => v = .bool (!(b0 == op)) ∧ Below w4.heap.size w4 wx)
              case first =>
                cases b0 <;> cases op
                all_goals
                  refine wp_region_later (by kernel_rfl) (by kernel_rfl) ?_
                  repeat (go_big_quiet_step (first | (go_at_call 57; exact C1.out _)))
                  refine wpQuiet_nil ?_
                  rintro _ ⟨xq, rfl⟩
                  go_wp2_with (fail)
                  go_meet
                  exact ⟨rfl, xq.2⟩
              case rest =>
                obtain ⟨rfl, b9⟩ := hcut
                have B9 := bthen B4 b9
                obtain ⟨z, hz⟩ : ∃ z, z = (b0 == op) := ⟨_, rfl⟩
                rw [← hz]
                rw [← hz] at HOK
                clear hz
                cases z
                · have HE := Lib.hid (show planOk ar os = false from planOk_not hlt (by rw [HOK.out]; rfl))
                  go_wp2_with (fail)
                  go_ret
                  exact ⟨ret_bool HE.out.symm, B9⟩
                · have HS2 := Lib.hid (HS.out.step hlt (by rw [HOK.out]; rfl))
                  have x9 := X4.out.below b9 X4.out.lt
                  have t0 : wc.cell? ⟨wr.heap.size, 0, none⟩ = some (.int .i64 os[k].1) := x9.cell 0
                  have t1 : wc.cell? ⟨wr.heap.size, 1, none⟩ = some (.int .i64 os[k].2.1) := x9.cell 1
                  have t2 : wc.cell? ⟨wr.heap.size, 2, none⟩ = some (.slice A3 os[k].2.2.length c3) := x9.cell 2
                  have CV := Lib.hid (argVars_any (.slice A3 os[k].2.2.length c3) os[k].2.2 _ wc (((HA3.out.on B3).on b4).on b9) (by omega))
                  have HW := Lib.hid (show bits .or .u64 ((bodyMask (os.take k) : Nat) : Int) ((maskOf os[k].2.2 : Nat) : Int) = ((bodyMask (os.take (k + 1)) : Nat) : Int) by rw [or_word HM.out.1 (maskOf_lt _), HM.out.2])
                  clear x9 M0 M1 M2 e0 e5 el
                  go_wp2_with (go_at_call 58; refine CV.out.mono ?_; rintro e w6 ⟨rfl, rfl⟩)
                  go_roundw
                  case rel => exact ⟨k + 1, by omega, by go_num, by rw [← HW.out], HS2.out, B9⟩
                  case measure => simp [intOf]; omega
        · have HE := Lib.hid (show planOk ar os = true from planOk_yes HA.out HLN.out.1 HLN.out.2 hs (by omega))
          clear hs
          go_wp2_with (fail)
          go_ret
          exact ⟨ret_bool HE.out.symm, hbe⟩
    · have HE := Lib.hid (show planOk ar os = false from planOk_len hlen)
      by_cases l0 : os.length = 0
      · have l0' : ((os.length : Int) == 0) = true := by rw [beq_iff_eq]; omega
        clear hlen l0
        go_enter Try.func18, Try.ntmps18
        go_wp2_with (go_at_call 49; refine CA.out.mono ?_; rintro e w1 ⟨rfl, b1⟩)
        go_ret
        exact ⟨ret_bool HE.out.symm, b1⟩
      · have l0' : ((os.length : Int) == 0) = false := by rw [beq_eq_false_iff_ne]; omega
        have l5 : decide ((5 : Int) < (os.length : Int)) = true := by simp; omega
        clear hlen l0
        go_enter Try.func18, Try.ntmps18
        go_wp2_with (go_at_call 49; refine CA.out.mono ?_; rintro e w1 ⟨rfl, b1⟩)
        go_ret
        exact ⟨ret_bool HE.out.symm, b1⟩
  · have ha' : arityOk ar = false := by simpa using ha
    rw [ha'] at CA
    have HE := Lib.hid (show planOk ar os = false from planOk_ar ha')
    clear ha ha'
    go_enter Try.func18, Try.ntmps18
    go_wp2_with (go_at_call 49; refine CA.out.mono ?_; rintro e w1 ⟨rfl, b1⟩)
    go_ret
    exact ⟨ret_bool HE.out.symm, b1⟩

end Go.Proofs.Ytocpfmbieedpgaa
/-
  slices.Index and slices.Contains at integers; a slice's first rows.
-/
namespace Go.Proofs.Ytocpfmbieedpgaa
open Go.RowKit

theorem RdInts.takes {w : World} {B n c : Nat} {A : Option Addr} {xs : List Int} (h : RdInts w B (.slice A n c) xs) {k : Nat} (hk : k ≤ xs.length) : RdInts w B (.slice A k c) (xs.take k) := by
  obtain ⟨A', c', e, hc, h⟩ := h
  injection e with e1 e2 e3
  subst e1
  subst e3
  have hl : (xs.take k).length = k := by simp; omega
  refine ⟨A, c, by rw [hl], by omega, fun hn => ?_⟩
  rw [hl] at hn
  obtain ⟨b, o, rfl, hb, hx⟩ := h (by omega)
  refine ⟨b, o, rfl, hb, fun j hj => ?_⟩
  rw [List.getElem_take]
  exact hx j (by omega)

set_option maxHeartbeats 400000 in
theorem indexI_any (v : Value) (xs : List Int) (x : Int) (B : Nat) (w : World) (h : RdInts w B v xs) (hr : xs.length ≤ 1048576) :
    Calls Try.prog 125 #[v, .int .i64 x] w fun e w' => ∃ z : Int, e = .returned (.int .i64 z) ∧ (0 ≤ z ↔ x ∈ xs) ∧ w = w' := by
  obtain ⟨A, c, rfl, hc, ha⟩ := h
  go_enter Try.func125, Try.ntmps125
  go_wp2_with (fail)
  go_loop [5, 8] (fun _ i => ∃ k : Nat, k ≤ xs.length ∧ i = .int .i64 k ∧ x ∉ xs.take k) (fun _ i => xs.length - (intOf i).toNat)
  case atStart => exact ⟨0, Nat.zero_le _, rfl, by simp⟩
  case round =>
    obtain ⟨k, hk, rfl, hs⟩ := hrel
    have HS := Lib.hid hs
    clear hs
    by_cases hlt : k < xs.length
    · obtain ⟨b, o, rfl, hbB, hx⟩ := ha (by omega)
      have hck := hx k hlt
      clear hx ha
      by_cases e : x = xs[k]
      · have he : (x == xs[k]) = true := by simp [e]
        have HE := Lib.hid (show x ∈ xs by rw [e]; exact List.getElem_mem hlt)
        clear e
        go_wp2_with (fail)
        go_ret
        exact ⟨(k : Int), rfl, ⟨fun _ => HE.out, fun _ => by omega⟩, rfl⟩
      · have he : (x == xs[k]) = false := by simp [e]
        have HN := Lib.hid (show x ∉ xs.take (k + 1) by
          rw [take_snoc xs k hlt, List.mem_append]
          rintro (h | h)
          · exact HS.out h
          · exact e (by simpa using h))
        clear e
        go_wp2_with (fail)
        go_round
        case rel => exact ⟨k + 1, by omega, by go_num, HN.out⟩
        case measure => simp [intOf]; omega
    · have HE := Lib.hid (show x ∉ xs by
        have h1 := HS.out
        rwa [show k = xs.length by omega, List.take_length] at h1)
      clear ha
      go_wp2_with (fail)
      go_ret
      exact ⟨-1, rfl, ⟨fun h => absurd h (by decide), fun h => absurd h HE.out⟩, rfl⟩

set_option maxHeartbeats 400000 in
theorem containsI_any (v : Value) (xs : List Int) (x : Int) (B : Nat) (w : World) (h : RdInts w B v xs) (hr : xs.length ≤ 1048576) :
    Calls Try.prog 99 #[v, .int .i64 x] w fun e w' => e = .returned (.bool (xs.contains x)) ∧ w = w' := by
  have CI := Lib.hid (indexI_any v xs x B w h hr)
  obtain ⟨A, c, rfl, hc, ha⟩ := h
  go_enter Try.func99, Try.ntmps99
  go_wp2_with (go_at_call 125; refine CI.out.mono ?_; rintro e w5 ⟨z, rfl, hz, rfl⟩)
  go_ret
  exact ⟨ret_bool (by rw [Bool.eq_iff_iff]; simp), rfl⟩

end Go.Proofs.Ytocpfmbieedpgaa
/-
  The walks of canCome, orderFits, opKind of the program.
-/
namespace Go.Proofs.Ytocpfmbieedpgaa
open Go.RowKit

set_option maxHeartbeats 400000 in
theorem canCome_any (v : Value) (l : LLit) (m : Nat) (w : World) (h : RdLit w w.heap.size v l) (hn : l.2.2.length ≤ 1048576) (hm : m < 16) :
    Calls Try.prog 100 #[v, .int .u64 (m : Nat)] w fun e w' => e = .returned (.bool (canB l m)) ∧ Below w.heap.size w w' := by
  obtain ⟨kd, pp, xs⟩ := l
  obtain ⟨a, rfl, h2⟩ := h
  have H2 := Lib.hid (h2.on (below1 w (.cells #[.int .i64 kd, .int .i64 pp, a] 81)))
  obtain ⟨A2, c2, rfl, hc2, _⟩ := h2
  have CK := Lib.hid (areKnown_any _ xs m _ _ H2.out hn hm)
  obtain ⟨y, hy⟩ : ∃ y, y = openB xs m := ⟨_, rfl⟩
  rw [← hy] at CK
  have HE := Lib.hid (show canB (kd, pp, xs) m = (decide (kd = 0) || !y) by rw [hy]; rfl)
  obtain ⟨M, hM⟩ : ∃ M : Int, M = ((m : Nat) : Int) := ⟨_, rfl⟩
  rw [← hM] at CK
  rw [← hM]
  clear hy hM
  by_cases k0 : kd = 0
  · subst k0
    go_enter Try.func100, Try.ntmps100
    go_wp2_with (fail)
    go_ret
    exact ⟨ret_bool (by rw [HE.out]; rfl), below1 _ _⟩
  · have k0' : (kd == 0) = false := by rw [beq_eq_false_iff_ne]; exact k0
    rw [decide_eq_false k0] at HE
    clear k0
    go_enter Try.func100, Try.ntmps100
    go_wp2_with (go_at_call 57; refine CK.out.mono ?_; rintro e w5 ⟨rfl, rfl⟩)
    go_ret
    exact ⟨ret_bool (by rw [HE.out]; rfl), below1 _ _⟩

set_option maxHeartbeats 400000 in
theorem opKind_any (v : Value) (l : LLit) (m : Nat) (w : World) (h : RdLit w w.heap.size v l) (hn : l.2.2.length ≤ 1048576) (hm : m < 16) (hk : l.1 = 0 ∨ l.1 = 1 ∨ l.1 = 2 ∨ l.1 = 3) :
    Calls Try.prog 89 #[v, .int .u64 (m : Nat)] w fun e w' => e = .returned (.int .i64 (kindOf l m)) ∧ Below w.heap.size w w' := by
  obtain ⟨kd, pp, xs⟩ := l
  obtain ⟨a, rfl, h2⟩ := h
  have H2 := Lib.hid (h2.on (below1 w (.cells #[.int .i64 kd, .int .i64 pp, a] 81)))
  obtain ⟨A2, c2, rfl, hc2, _⟩ := h2
  have CK := Lib.hid (areKnown_any _ xs m _ _ H2.out hn hm)
  obtain ⟨y, hy⟩ : ∃ y, y = openB xs m := ⟨_, rfl⟩
  rw [← hy] at CK
  have HE := Lib.hid (show kindOf (kd, pp, xs) m = if kd = 0 then (if y then 0 else 1) else kd + 1 by rw [hy]; rfl)
  obtain ⟨M, hM⟩ : ∃ M : Int, M = ((m : Nat) : Int) := ⟨_, rfl⟩
  rw [← hM] at CK
  rw [← hM]
  clear hy hM
  simp only at hk
  rcases hk with rfl | rfl | rfl | rfl
  · cases y
    all_goals
      go_enter Try.func89, Try.ntmps89
      go_wp2_with (go_at_call 57; refine CK.out.mono ?_; rintro e w5 ⟨rfl, rfl⟩)
      go_ret
      exact ⟨ret_int (by rw [HE.out]; rfl), below1 _ _⟩
  all_goals
    go_enter Try.func89, Try.ntmps89
    go_wp2_with (fail)
    go_ret
    exact ⟨ret_int (by rw [HE.out]; rfl), below1 _ _⟩

set_option maxHeartbeats 2000000 in
set_option maxRecDepth 100000 in
theorem orderFits_any (v v2 : Value) (b : List LLit) (os : List Int) (w : World) (h : RdLits w w.heap.size v b) (h2 : RdInts w w.heap.size v2 os) (ht : totL b ≤ 1048576) (hr : os.length ≤ 1048576) :
    Calls Try.prog 55 #[v, v2] w fun e w' => e = .returned (.bool (orderOk b os)) ∧ Below w.heap.size w w' := by
  have H := Lib.hid h
  have H2 := Lib.hid h2
  obtain ⟨A, c, rfl, hc, _⟩ := h
  obtain ⟨A2, c2, rfl, hc2, _⟩ := h2
  by_cases hlen : os.length = b.length
  · have l0 : ((os.length : Int) != (b.length : Int)) = false := by simp [hlen]
    have HLN := Lib.hid hlen
    clear hlen
    go_enter Try.func55, Try.ntmps55
    go_wp2_with (fail)
    go_loopw [5, 6, 7, 15] (fun m _ _ i wr => ∃ (k : Nat), k ≤ os.length ∧ i = .int .i64 k ∧ m = .int .u64 ((ordMask b (os.take k) : Nat) : Int) ∧ OrdTo b os k ∧ Below w.heap.size w wr) (fun _ _ _ i _ => os.length - (intOf i).toNat)
    case atStart => exact ⟨0, Nat.zero_le _, rfl, rfl, OrdTo.start, Below.refl _ _⟩
    case round =>
      obtain ⟨k, hk, rfl, rfl, hs, hbe⟩ := hrel
      by_cases hlt : k < os.length
      · obtain ⟨A', c', e', _, hx⟩ := H2.out.on hbe
        injection e' with e1 _ e3
        subst e1
        subst e3
        obtain ⟨b2, o2, rfl, hbB, hx⟩ := hx (by omega)
        have hck := hx k hlt
        have HA := Lib.hid (ordAt_get (b := b) hlt)
        have HM := Lib.hid (And.intro (ordMask_lt b (os.take k)) (ordMask_take (b := b) hlt))
        have HS := Lib.hid hs
        have CC := Lib.hid (containsI_any (.slice (some ⟨b2, o2, none⟩) k c2) (os.take k) os[k] _ wr ((H2.out.on hbe).takes hk) (by simp; omega))
        obtain ⟨cc, hcc⟩ : ∃ cc, cc = (os.take k).contains os[k] := ⟨_, rfl⟩
        rw [← hcc] at CC HA
        obtain ⟨aa, haa⟩ : ∃ aa, aa = ordAt b os k := ⟨_, rfl⟩
        rw [← haa] at HA
        have HAA := Lib.hid haa
        clear hx hs hcc haa
        go_upto_region 7 with fail
        by_cases h0 : os[k] < 0
        · have hd : decide (os[k] < 0) = true := by simpa using h0
          have HF := Lib.hid (show orderOk b os = false from orderOk_not hlt (by rw [← HAA.out, HA.out, decide_eq_false (by omega)]; rfl))
          clear h0
          go_wp2_with (fail)
          go_ret
          exact ⟨ret_bool HF.out.symm, hbe⟩
        · have hd : decide (os[k] < 0) = false := by simp; omega
          by_cases h1 : (b.length : Int) ≤ os[k]
          · have hd1 : decide ((b.length : Int) ≤ os[k]) = true := by simpa using h1
            have HF := Lib.hid (show orderOk b os = false from orderOk_not hlt (by rw [← HAA.out, HA.out, decide_eq_false (by omega)]; rfl))
            clear h0 h1
            go_wp2_with (fail)
            go_ret
            exact ⟨ret_bool HF.out.symm, hbe⟩
          · have hd1 : decide ((b.length : Int) ≤ os[k]) = false := by simp; omega
            have hdr : decide (0 ≤ os[k] ∧ os[k] < (b.length : Int)) = true := by simp; omega
            rw [hdr, Bool.true_and] at HA
            cases cc
            · obtain ⟨n, hn⟩ : ∃ n : Nat, os[k] = (n : Int) := ⟨os[k].toNat, by omega⟩
              have hnl : n < b.length := by omega
              obtain ⟨b3, o3, u0, u1, u2, rfl, hbB3, k0, k1, k2, rfl, rfl, p3⟩ := (H.out.on hbe).get hnl
              have HA3 := Lib.hid p3
              obtain ⟨A3, c3, rfl, hc3, _⟩ := p3
              have hle := len_le_totL b n hnl
              have hlit : litAt b os[k] = b[n] := litAt_get hn hnl
              rw [hlit] at HA HM
              have CN := Lib.hid (canCome_any (.agg #[.int .i64 b[n].1, .int .i64 b[n].2.1, .slice A3 b[n].2.2.length c3]) b[n] (ordMask b (os.take k)) wr ⟨_, rfl, HA3.out⟩ (by omega) HM.out.1)
              obtain ⟨nn, hnn⟩ : ∃ nn, nn = canB b[n] (ordMask b (os.take k)) := ⟨_, rfl⟩
              rw [← hnn] at CN HA
              have hn0 : (0 : Int) ≤ (n : Int) := by omega
              have hn1 : (n : Int) < (b.length : Int) := by omega
              have HN := Lib.hid hn
              rw [hn] at hd hd1 CC hck ⊢
              have hd2 : decide (b.length ≤ n) = false := by simp; omega
              clear hlit hnn h0 h1 hdr hn
              go_cut [43] (fun v wx => v = .bool (!nn) ∧ Below wr.heap.size wr wx)
              case first =>
                go_wp2_with (first | (go_at_call 99; refine CC.out.mono ?_; rintro e w5 ⟨rfl, rfl⟩) | (go_at_call 100; refine CN.out.mono ?_; rintro e w6 ⟨rfl, b6⟩))
                go_meet
                exact ⟨rfl, b6⟩
              case rest =>
                obtain ⟨rfl, b6⟩ := hcut
                cases nn
                · have HF := Lib.hid (show orderOk b os = false from orderOk_not hlt (by rw [← HAA.out, HA.out]; rfl))
                  go_wp2_with (fail)
                  go_ret
                  exact ⟨ret_bool HF.out.symm, bthen hbe b6⟩
                · have HS2 := Lib.hid (HS.out.step (by rw [← HAA.out, HA.out]; rfl))
                  have n0 := (b6.cell (p := ⟨b3, o3 + n * 3, none⟩) (World.block_lt_of_cell? _ _ k0)).trans k0
                  have n1 := (b6.cell (p := ⟨b3, o3 + n * 3 + 1, none⟩) (World.block_lt_of_cell? _ _ k1)).trans k1
                  have n2 := (b6.cell (p := ⟨b3, o3 + n * 3 + 2, none⟩) (World.block_lt_of_cell? _ _ k2)).trans k2
                  have CV := Lib.hid (argVars_any (.slice A3 b[n].2.2.length c3) b[n].2.2 _ wc (HA3.out.on b6) (by omega))
                  have HW := Lib.hid (show bits .or .u64 ((ordMask b (os.take k) : Nat) : Int) ((maskOf b[n].2.2 : Nat) : Int) = ((ordMask b (os.take (k + 1)) : Nat) : Int) by rw [or_word HM.out.1 (maskOf_lt _), HM.out.2])
                  have B6 := bthen hbe b6
                  go_wp2_with (go_at_call 58; refine CV.out.mono ?_; rintro e w6 ⟨rfl, rfl⟩)
                  go_roundw
                  case rel => exact ⟨k + 1, by omega, by go_num, by rw [← HW.out], HS2.out, B6⟩
                  case measure => simp [intOf]; omega
            · have HF := Lib.hid (show orderOk b os = false from orderOk_not hlt (by rw [← HAA.out, HA.out]; rfl))
              clear h0 h1 hdr
              go_wp2_with (go_at_call 99; refine CC.out.mono ?_; rintro e w5 ⟨rfl, rfl⟩)
              go_ret
              exact ⟨ret_bool HF.out.symm, hbe⟩
      · have HE := Lib.hid (show orderOk b os = true from orderOk_yes HLN.out hs (by omega))
        clear hs
        go_wp2_with (fail)
        go_ret
        exact ⟨ret_bool HE.out.symm, hbe⟩
  · have l0 : ((os.length : Int) != (b.length : Int)) = true := by simp; omega
    have HE := Lib.hid (show orderOk b os = false from orderOk_len hlen)
    clear hlen
    go_enter Try.func55, Try.ntmps55
    go_wp2_with (fail)
    go_ret
    exact ⟨ret_bool HE.out.symm, Below.refl _ _⟩

end Go.Proofs.Ytocpfmbieedpgaa
/-
  The walk of the program's copyAtom.
-/
namespace Go.Proofs.Ytocpfmbieedpgaa
open Go.RowKit

set_option maxHeartbeats 1000000 in
set_option maxRecDepth 100000 in
theorem copyAtom_any (v : Value) (f : LFact) (w : World) (h : RdFact w w.heap.size v f) (hn : f.2.length ≤ 1073741824) :
    Calls Try.prog 90 #[v] w fun e w' => ∃ A' c', e = .returned (.agg #[.int .i64 f.1, .slice A' f.2.length c']) ∧ OwnInts w' w.heap.size w'.heap.size (.slice A' f.2.length c') f.2 ∧ Below w.heap.size w w' := by
  obtain ⟨i0, hi0, hz0, hz1, hz2⟩ := info_parts Try.infoInt
  obtain ⟨a, rfl, h⟩ := h
  have H := Lib.hid h
  obtain ⟨A, c, rfl, hc, _⟩ := h
  go_enter Try.func90, Try.ntmps90
  go_wp2_with (fail)
  obtain ⟨w1, hw1⟩ : ∃ w1, w1 = ((w.alloc (Obj.cells #[Value.int IntKind.i64 f.1, Value.slice A f.2.length c] 25)).alloc (Obj.cells #[Value.int IntKind.i64 0, Value.slice none 0 0] 25)) := ⟨_, rfl⟩
  have B1 : Below w.heap.size w w1 := by rw [hw1]; exact below2 _ _ _
  have hsz1 : w1.heap.size = w.heap.size + 2 := by rw [hw1]; simp
  have HZ := Lib.hid hsz1
  have k0 : Blk w1 w.heap.size 25 #[.int .i64 f.1, .slice A f.2.length c] := by rw [hw1]; exact (Blk.new w _ _).alloc _
  have k1 : Blk w1 (w.heap.size + 1) 25 #[.int .i64 0, .slice none 0 0] := by rw [hw1]; simpa using Blk.new (w.alloc (Obj.cells #[Value.int IntKind.i64 f.1, Value.slice A f.2.length c] 25)) 25 #[.int .i64 0, .slice none 0 0]
  rw [← hw1]
  clear hw1 hsz1
  have HS0 := Lib.hid (show ∀ W, Below w1.heap.size w1 W → (Below w.heap.size w W ∧ W.cell? ⟨w.heap.size, 0, none⟩ = some (.int .i64 f.1) ∧ W.cell? ⟨w.heap.size, 1, none⟩ = some (.slice A f.2.length c) ∧ ∃ u0 u1, Blk W (w.heap.size + 1) 25 #[u0, u1]) from
    fun W hW => ⟨bthen B1 hW, (k0.below hW k0.lt).cell 0, (k0.below hW k0.lt).cell 1, _, _, k1.below hW k1.lt⟩)
  have HS1 := Lib.hid (show ∀ W W', (Below w.heap.size w W ∧ W.cell? ⟨w.heap.size, 0, none⟩ = some (.int .i64 f.1) ∧ W.cell? ⟨w.heap.size, 1, none⟩ = some (.slice A f.2.length c) ∧ ∃ u0 u1, Blk W (w.heap.size + 1) 25 #[u0, u1]) → W.grownBy W' none →
      (Below w.heap.size w W' ∧ W'.cell? ⟨w.heap.size, 0, none⟩ = some (.int .i64 f.1) ∧ W'.cell? ⟨w.heap.size, 1, none⟩ = some (.slice A f.2.length c) ∧ ∃ u0 u1, Blk W' (w.heap.size + 1) 25 #[u0, u1]) from
    fun W W' ⟨a1, a2, a3, u0, u1, a4⟩ hg => ⟨a1.trans (Below.grown (Below.refl _ _) hg a1.size (fun k hk => by cases hk)), hg.cell a2 (by simp), hg.cell a3 (by simp), u0, u1, (hg.block _ a4.lt (by simp)).trans a4⟩)
  have HS2 := Lib.hid (show ∀ W i v, (Below w.heap.size w W ∧ W.cell? ⟨w.heap.size, 0, none⟩ = some (.int .i64 f.1) ∧ W.cell? ⟨w.heap.size, 1, none⟩ = some (.slice A f.2.length c) ∧ ∃ u0 u1, Blk W (w.heap.size + 1) 25 #[u0, u1]) →
      (Below w.heap.size w (W.setCell ⟨w.heap.size + 1, i, none⟩ v) ∧ (W.setCell ⟨w.heap.size + 1, i, none⟩ v).cell? ⟨w.heap.size, 0, none⟩ = some (.int .i64 f.1) ∧ (W.setCell ⟨w.heap.size + 1, i, none⟩ v).cell? ⟨w.heap.size, 1, none⟩ = some (.slice A f.2.length c) ∧ ∃ u0 u1, Blk (W.setCell ⟨w.heap.size + 1, i, none⟩ v) (w.heap.size + 1) 25 #[u0, u1]) from
    fun W i v ⟨a1, a2, a3, u0, u1, a4⟩ => ⟨a1.setCell (by show w.heap.size ≤ w.heap.size + 1; omega) _, by rw [World.cell?_setCell_other _ _ _ _ (by simp)]; exact a2, by rw [World.cell?_setCell_other _ _ _ _ (by simp)]; exact a3, by
      have h := a4.set_ i v
      match i with
      | 0 => exact ⟨_, _, h⟩
      | 1 => exact ⟨_, _, h⟩
      | i + 2 => exact ⟨u0, u1, h⟩⟩)
  have HS3 := Lib.hid (show ∀ (W : World) (v' : Value), (Below w.heap.size w W ∧ W.cell? ⟨w.heap.size, 0, none⟩ = some (.int .i64 f.1) ∧ W.cell? ⟨w.heap.size, 1, none⟩ = some (.slice A f.2.length c) ∧ ∃ u0 u1, Blk W (w.heap.size + 1) 25 #[u0, u1]) →
      (v'.ownBlock = (Value.slice none 0 0).ownBlock ∨ v'.ownBlock = some W.heap.size) → ∀ g, v'.ownBlock = some g → g ≠ w.heap.size + 1 from
    fun W v' ⟨_, _, _, u0, u1, a4⟩ h g hg => by
      have := a4.lt
      rcases h with h | h
      · rw [h] at hg; cases hg
      · rw [h] at hg; injection hg; omega)
  go_region_held3 (fun W => Below w.heap.size w W ∧ W.cell? ⟨w.heap.size, 0, none⟩ = some (.int .i64 f.1) ∧ W.cell? ⟨w.heap.size, 1, none⟩ = some (.slice A f.2.length c) ∧ ∃ u0 u1, Blk W (w.heap.size + 1) 25 #[u0, u1])
    (first | assumption | exact HS0.out _ (Below.refl _ _) | exact HS0.out _ (Below.refl _ _).drew | exact HS1.out _ _ (by assumption) (by assumption) | exact HS2.out _ _ _ (HS2.out _ _ _ (by assumption)))
    (first
      | (refine step_append_rd _ rfl (.const (.slice none 0 0)) (.tmp 6) 23 rfl w.heap.size 3 i0 (.int .i64 0) 8 Try.underlying23 hi0 hz0 hz1 hz2 rfl (.slice none 0 0) 0 [] rfl (World.ownsRow_nil _ _ _ _) w.heap.size _ f.2 rfl ?_ (by unfold maxLen; omega) (by omega) ?_ ?_
         · exact H.out.below (And.left (by assumption)) (Nat.le_refl _)
         · exact Below.size (And.left (by assumption))
         intro A' c' w2 hown hg hat
         have hne := HS3.out _ _ (by assumption) hat
         obtain ⟨hbe, _, _, u0, u1, hblk⟩ := HS1.out _ _ (by assumption) hg
         have c0 : w2.cell? ⟨w.heap.size + 1, 0, none⟩ = some u0 := hblk.cell 0
         have c1 : w2.cell? ⟨w.heap.size + 1, 1, none⟩ = some u1 := hblk.cell 1
         have f0 := hblk.frozen 0
         have f1 := hblk.frozen 1
         have HO := Lib.hid (show OwnInts w2 w.heap.size w2.heap.size (.slice A' f.2.length c') f.2 from ⟨by simpa using hown, fun g hg' => (hown.lt g (by simpa using hg')).2⟩)
         clear hown hat))
  all_goals
    go_wp2_with (fail)
    refine bodyPost_ret (v := .agg #[.int .i64 f.1, .slice A' f.2.length c']) (by simp [results, Try.results90, go_sem, c0, c1]) rfl ⟨_, _, rfl, ?_, ?_⟩
    · exact (HO.out.kept (fun g hg' => (Below.heap_setCell _ _ _ _ (hne g (by simpa using hg'))).trans (Below.heap_setCell _ _ _ _ (hne g (by simpa using hg'))))).mono (Nat.le_refl _) (by simp)
    · exact (hbe.setCell (by show w.heap.size ≤ w.heap.size + 1; omega) _).setCell (by show w.heap.size ≤ w.heap.size + 1; omega) _

end Go.Proofs.Ytocpfmbieedpgaa
/-
  The walk of the program's planIn.
-/
namespace Go.Proofs.Ytocpfmbieedpgaa
open Go.RowKit

set_option maxHeartbeats 4000000 in
set_option maxRecDepth 100000 in
theorem planIn_any (v v2 : Value) (r : LRule) (os : List Int) (w : World) (h : RdRule w w.heap.size v r) (h2 : RdInts w w.heap.size v2 os) (hs : szR r ≤ 1048576) (hk : ∀ l ∈ r.2, l.1 = 0 ∨ l.1 = 1 ∨ l.1 = 2 ∨ l.1 = 3)
    (ho : ∀ i ∈ os, 0 ≤ i ∧ i < (r.2.length : Int)) (hl : os.length ≤ 1048576) :
    Calls Try.prog 46 #[v, v2] w fun e w' => ∃ A' c', e = .returned (.slice A' (planFor r os).length c') ∧ OwnOps w' w.heap.size w'.heap.size (.slice A' (planFor r os).length c') (planFor r os) ∧ Below w.heap.size w w' := by
  obtain ⟨i0, hi0, hz0, hz1, hz2⟩ := info_parts Try.infoOp
  have hmk := fun W => run_make_rowN (P := Try.prog) 31 78 i0 (.agg #[.int .i64 0, .int .i64 0, .slice none 0 0]) Try.underlying31 hi0 hz0 .i64 .i64 0 (os.length + 1) (Nat.zero_le _) (by rw [hz2]; omega) (by omega) W
  rw [hz1] at hmk
  simp only [Value.cells] at hmk
  rw [show ((os.length + 1 : Nat) : Int) = (os.length : Int) + 1 by omega, show ((0 : Nat) : Int) = 0 from rfl] at hmk
  obtain ⟨hd, b⟩ := r
  obtain ⟨a, a2, rfl, h, h3⟩ := h
  unfold szR at hs
  simp only at hs hk ho h h3
  have HH := Lib.hid h
  have H3 := Lib.hid h3
  have H2 := Lib.hid h2
  have HK := Lib.hid hk
  have HO := Lib.hid ho
  obtain ⟨A, c, rfl, hc, _⟩ := h
  obtain ⟨A3, c3, rfl, hc3, _⟩ := h3
  obtain ⟨A2, c2, rfl, hc2, _⟩ := h2
  clear hk ho
  obtain ⟨w1, hw1⟩ : ∃ w1, w1 = w.alloc (Obj.cells #[Value.int IntKind.i64 hd.1, Value.slice A hd.2.length c, Value.slice A3 b.length c3] 28) := ⟨_, rfl⟩
  have HB1 := Lib.hid (show Below w.heap.size w w1 by rw [hw1]; exact below1 _ _)
  have X1 := Lib.hid (show Blk w1 w.heap.size 28 #[.int .i64 hd.1, .slice A hd.2.length c, .slice A3 b.length c3] by rw [hw1]; exact Blk.new _ _ _)
  have s1 : w1.heap.size = w.heap.size + 1 := by rw [hw1]; simp
  obtain ⟨w2, hw2⟩ : ∃ w2, w2 = w1.alloc (Obj.cells (madeCells #[Value.int IntKind.i64 0, Value.int IntKind.i64 0, Value.slice none 0 0] ((os.length + 1) * 3)) 78) := ⟨_, rfl⟩
  have HC0 := Lib.hid (show ColOp w1.heap.size w1 w2 [] (some ⟨w1.heap.size, 0, none⟩) (os.length + 1) [] from ⟨by rw [hw2]; exact below1 _ _, Nat.le_refl _, by rw [hw2]; simp, by
    rw [hw2]
    exact ⟨.nil, World.ownsRow_made w1 _ (os.length + 1) (Nat.le_refl _) (by unfold maxLen; omega) (by simp [madeCells]), fun g hg => by simp [Value.ownBlock] at hg; subst hg; simp⟩⟩)
  go_enter Try.func46, Try.ntmps46
  go_upto_region 1 with fail
  rw [← hw1]
  clear hw1
  go_upto_region 2 with fail
  rw [← hw2]
  clear hw2 hmk
  go_wp2_with fail
  go_loopw [5, 6, 8, 9, 16] (fun p m _ _ i wr => ∃ (k : Nat) (A' : Option Addr) (c' : Nat) (av : List Value), k ≤ os.length ∧ i = .int .i64 k ∧ m = .int .u64 ((ordMask b (os.take k) : Nat) : Int) ∧ p = .slice A' k c' ∧ ColOp w1.heap.size w1 wr (opsTo b os k) A' c' av) (fun _ _ _ _ i _ => os.length - (intOf i).toNat)
  case atStart => exact ⟨0, _, _, [], Nat.zero_le _, rfl, rfl, rfl, by have h0 := HC0.out; rw [show w.heap.size + 1 = w1.heap.size from s1.symm]; exact h0⟩
  case round =>
    obtain ⟨k, A', c', av, hk, rfl, rfl, rfl, hcol⟩ := hrel
    have HCOL := Lib.hid hcol
    have BR := bthen HB1.out hcol.below
    have sR := hcol.below.size
    have xr := X1.out.below hcol.below X1.out.lt
    have q0 : wr.cell? ⟨w.heap.size, 0, none⟩ = some (.int .i64 hd.1) := xr.cell 0
    have q1 : wr.cell? ⟨w.heap.size, 1, none⟩ = some (.slice A hd.2.length c) := xr.cell 1
    have q2 : wr.cell? ⟨w.heap.size, 2, none⟩ = some (.slice A3 b.length c3) := xr.cell 2
    clear hcol xr
    by_cases hlt : k < os.length
    · obtain ⟨A5, c5, e5, _, hx⟩ := H2.out.on BR
      injection e5 with e5 _ e6
      subst e5
      subst e6
      obtain ⟨b2, o2, rfl, hbB, hx⟩ := hx (by omega)
      have hck := hx k hlt
      obtain ⟨hr0, hr1⟩ := HO.out _ (List.getElem_mem hlt)
      obtain ⟨n, hn⟩ : ∃ n : Nat, os[k] = (n : Int) := ⟨os[k].toNat, by omega⟩
      have hnl : n < b.length := by omega
      obtain ⟨b3, o3, u0, u1, u2, rfl, hbB3, k0, k1, k2, rfl, rfl, p3⟩ := H3.out.get hnl
      have HA3 := Lib.hid p3
      obtain ⟨A4, c4, rfl, hc4, _⟩ := p3
      have k0 := (BR.cell (p := ⟨b3, o3 + n * 3, none⟩) hbB3).trans k0
      have k1 := (BR.cell (p := ⟨b3, o3 + n * 3 + 1, none⟩) hbB3).trans k1
      have k2 := (BR.cell (p := ⟨b3, o3 + n * 3 + 2, none⟩) hbB3).trans k2
      have hle := len_le_totL b n hnl
      have hlit : litAt b os[k] = b[n] := litAt_get hn hnl
      have hst := opsTo_step (b := b) hlt
      have hom := ordMask_take (b := b) hlt
      rw [hlit] at hst hom
      have HM := Lib.hid (And.intro (ordMask_lt b (os.take k)) hom)
      have hkd := HK.out b[n] (List.getElem_mem hnl)
      have hn0 : (0 : Int) ≤ (n : Int) := by omega
      have hn1 : (n : Int) < (b.length : Int) := by omega
      rw [hn] at hck
      clear hx hr0 hr1 hlit hom
      go_upto_region 6 with fail
      obtain ⟨w4, hw4⟩ : ∃ w4, w4 = wr.alloc (Obj.cells #[.int .i64 b[n].1, .int .i64 b[n].2.1, .slice A4 b[n].2.2.length c4] 81) := ⟨_, rfl⟩
      have B4 : Below wr.heap.size wr w4 := by rw [hw4]; exact below1 _ _
      have X4 := Lib.hid (show Blk w4 wr.heap.size 81 #[.int .i64 b[n].1, .int .i64 b[n].2.1, .slice A4 b[n].2.2.length c4] by rw [hw4]; exact Blk.new _ _ _)
      go_upto_region 7 with fail
      rw [← hw4]
      clear hw4 k0 k1 k2 q0 q1 q2 hck hn
      obtain ⟨KK, hKK⟩ : ∃ KK, KK = kindOf b[n] (ordMask b (os.take k)) := ⟨_, rfl⟩
      have CK := Lib.hid (show ∀ W, Below w4.heap.size w4 W → Calls Try.prog 89 #[.agg #[.int .i64 b[n].1, .int .i64 b[n].2.1, .slice A4 b[n].2.2.length c4], .int .u64 ((ordMask b (os.take k) : Nat) : Int)] W fun e w' => e = .returned (.int .i64 KK) ∧ Below W.heap.size W w' from fun W hW => by
        rw [hKK]
        exact opKind_any _ b[n] (ordMask b (os.take k)) W ⟨_, rfl, ((HA3.out.on BR).on B4).on hW⟩ (by omega) HM.out.1 hkd)
      have CC := Lib.hid (show ∀ W, Below w4.heap.size w4 W → Calls Try.prog 90 #[.agg #[.int .i64 b[n].2.1, .slice A4 b[n].2.2.length c4]] W fun e w' => ∃ A' c', e = .returned (.agg #[.int .i64 b[n].2.1, .slice A' b[n].2.2.length c']) ∧ OwnInts w' W.heap.size w'.heap.size (.slice A' b[n].2.2.length c') b[n].2.2 ∧ Below W.heap.size W w' from fun W hW =>
        copyAtom_any _ b[n].2 W ⟨_, rfl, ((HA3.out.on BR).on B4).on hW⟩ (by omega))
      rw [← hKK] at hst
      have HNX := Lib.hid hst
      obtain ⟨Q, hQ⟩ : ∃ Q, Q = opsTo b os k := ⟨_, rfl⟩
      have HQ := Lib.hid hQ
      have HQL := Lib.hid (show Q.length = k by rw [hQ, opsTo_len])
      rw [← hQ] at HCOL
      have s4 := B4.size
      clear hst hKK hQ hkd
      obtain ⟨SS, hSS⟩ : ∃ SS : World → Prop, SS = (fun W => W.cell? ⟨wr.heap.size, 0, none⟩ = some (.int .i64 b[n].1) ∧ W.cell? ⟨wr.heap.size, 1, none⟩ = some (.int .i64 b[n].2.1) ∧ W.cell? ⟨wr.heap.size, 2, none⟩ = some (.slice A4 b[n].2.2.length c4)) := ⟨_, rfl⟩
      have HB := Lib.hid (show ∀ W, SS W → (W.cell? ⟨wr.heap.size, 0, none⟩ = some (.int .i64 b[n].1) ∧ W.cell? ⟨wr.heap.size, 1, none⟩ = some (.int .i64 b[n].2.1) ∧ W.cell? ⟨wr.heap.size, 2, none⟩ = some (.slice A4 b[n].2.2.length c4)) from by rw [hSS]; exact fun W hW => hW)
      have HS := Lib.hid (show ∀ W, Below w4.heap.size w4 W → SS W from by
        rw [hSS]
        exact fun W hW => ⟨(X4.out.below hW X4.out.lt).cell 0, (X4.out.below hW X4.out.lt).cell 1, (X4.out.below hW X4.out.lt).cell 2⟩)
      clear hSS
      go_cut [5] (fun p wx => ∃ (A6 : Option Addr) (c6 : Nat) (av2 : List Value), p = .slice A6 (k + 1) c6 ∧ ColOp w1.heap.size w1 wx (opsTo b os (k + 1)) A6 c6 av2 ∧ Blk wx wr.heap.size 81 #[.int .i64 b[n].1, .int .i64 b[n].2.1, .slice A4 b[n].2.2.length c4])
      case first =>
        refine wp_region_rel SS 9 11 (by kernel_rfl) rfl ?_
        obtain ⟨wy, hwy⟩ : ∃ wy, wy = w4.drew := ⟨_, rfl⟩
        have BY : Below w4.heap.size w4 wy := by rw [hwy]; exact (Below.refl _ _).drew
        rw [← hwy]
        clear hwy
        have S0 := HS.out _ BY
        refine wpAnyR_pure (i := 0) (oi := _) ?va0 rfl rfl (by kernel_rfl) (by decide) (fun _ _ _ h => h) rfl ?hya0 (fun _ => S0) ?resta0
        case hya0 => (intro W; go_simp; (try with_reducible rfl))
        try simp only [List.setIfInBounds_toArray, List.set_cons_zero, List.set_cons_succ]
        refine wpAnyR_take (i := 1) (oi := _) ?va1 rfl rfl (by kernel_rfl) (fun _ _ _ h => h) rfl ?hya1 S0 ?resta1
        case hya1 => (intro W hW; obtain ⟨d0, d1, d2⟩ := HB.out W hW; go_simp; (try with_reducible rfl))
        try simp only [List.setIfInBounds_toArray, List.set_cons_zero, List.set_cons_succ]
        refine wpAnyR_pure (i := 2) (oi := _) ?va2 rfl rfl (by kernel_rfl) (by decide) (fun _ _ _ h => h) rfl ?hya2 (fun _ => S0) ?resta2
        case hya2 => (intro W; go_simp; (try with_reducible rfl))
        try simp only [List.setIfInBounds_toArray, List.set_cons_zero, List.set_cons_succ]
        refine wpAnyR_pure (i := 4) (oi := _) ?va4 rfl rfl (by kernel_rfl) (by decide) (fun _ _ _ h => h) rfl ?hya4 (fun _ => S0) ?resta4
        case hya4 => (intro W; go_simp; (try with_reducible rfl))
        try simp only [List.setIfInBounds_toArray, List.set_cons_zero, List.set_cons_succ]
        refine wpAnyR_take (i := 5) (oi := _) ?va5 rfl rfl (by kernel_rfl) (fun _ _ _ h => h) rfl ?hya5 S0 ?resta5
        case hya5 => (intro W hW; obtain ⟨d0, d1, d2⟩ := HB.out W hW; go_simp; (try with_reducible rfl))
        try simp only [List.setIfInBounds_toArray, List.set_cons_zero, List.set_cons_succ]
        refine wpAnyR_one (i := 3) (by kernel_rfl) rfl (fun K hK => ?_)
        try rw [if_pos (show Region.wanted _ _ = true from rfl)]
        go_simp
        refine (CK.out wy BY).mono ?_
        rintro e V1 ⟨rfl, gV1⟩
        have B1 := bthen BY gV1
        have S1 := HS.out _ B1
        refine hK.out _ _ (fun _ => S1) ?_
        clear hK K
        try simp only [List.setIfInBounds_toArray, List.set_cons_zero, List.set_cons_succ, Act.put]
        refine wpAnyR_one (i := 6) (by kernel_rfl) rfl (fun K hK => ?_)
        try rw [if_pos (show Region.wanted _ _ = true from rfl)]
        go_simp
        refine (CC.out V1 B1).mono ?_
        rintro e V2 ⟨P6, d6, rfl, o6, gV2⟩
        have B2 := bthen B1 gV2
        have S2 := HS.out _ B2
        refine hK.out _ _ (fun _ => S2) ?_
        clear hK K
        try simp only [List.setIfInBounds_toArray, List.set_cons_zero, List.set_cons_succ, Act.put]
        have O6 := Lib.hid (o6.mono (Nat.le_trans BY.size gV1.size) (Nat.le_refl _))
        refine wpAnyR_pure (i := 7) (oi := _) ?vx7 rfl rfl (by kernel_rfl) (by decide) (fun _ _ _ h => h) rfl ?hyx7 (fun _ => S2) ?restx7
        case hyx7 => (intro W; go_simp; (try with_reducible rfl))
        try simp only [List.setIfInBounds_toArray, List.set_cons_zero, List.set_cons_succ]
        refine wpAnyR_one (i := 8) (by kernel_rfl) rfl (fun K hK => ?_)
        try rw [if_pos (show Region.wanted _ _ = true from rfl)]
        go_simp
        have S3 := HS.out _ (bthen B2 (below1 V2 (Obj.cells #[Value.int IntKind.i64 KK, Value.int IntKind.i64 b[n].2.1, Value.slice P6 b[n].2.2.length d6] 78)))
        refine hK.out _ _ (fun _ => S3) ?_
        clear hK K
        try simp only [List.setIfInBounds_toArray, List.set_cons_zero, List.set_cons_succ, Act.put]
        refine wpAnyR_one (i := 9) (by kernel_rfl) rfl (fun K hK => ?_)
        refine step_append_lies _ rfl (.tmp 25) (.tmp 33) 31 rfl w1.heap.size 78 i0 (.agg #[.int .i64 0, .int .i64 0, .slice none 0 0]) 3 40 Try.underlying31 hi0 hz0 hz1 hz2 rfl (by decide) (.slice A' k c') k (flat3 Q av) rfl ?c1x ⟨V2.heap.size, 0, none⟩ 1 1 [.int .i64 KK, .int .i64 b[n].2.1, .slice P6 b[n].2.2.length d6] rfl rfl ?c4x ?c2x (by omega) (by unfold maxLen; omega) (by omega) ?c3x _ rfl ?c5x
        case c1x => have h0 := (HCOL.out.on (bthen B4 B2)).own.row; rw [HQL.out] at h0; exact h0.alloc _
        case c4x => exact news3o V2 _ _ _ _
        case c2x => intro u hu; simp at hu; rcases hu with rfl | rfl | rfl <;> rfl
        case c3x => have := HCOL.out.lo2; have := (bthen B4 B2).size; simp; omega
        case c5x =>
        intro g2 cap w7 hown hgr hat _
        have hpush := HCOL.out.push (s := (KK, b[n].2)) (os' := opsTo b os (k + 1)) (by rw [HNX.out, HQ.out]) (bthen B4 B2) (O6.out.mono (Nat.le_trans B4.size (Nat.le_refl _)) (Nat.le_refl _)) (by rw [HQL.out]; exact hgr) (by rw [HQL.out]; exact hown)
        have hgf := grown_from_alloc hgr
        have hne : (Value.slice A' k c').ownBlock ≠ some wr.heap.size := fun e => by have := HCOL.out.own.lt wr.heap.size (by rw [HQL.out]; exact e); omega
        have X2 := X4.out.below B2 X4.out.lt
        have X7 : Blk w7 wr.heap.size 81 #[.int .i64 b[n].1, .int .i64 b[n].2.1, .slice A4 b[n].2.2.length c4] := (hgf.block _ X2.lt (fun e => hne e.symm)).trans X2
        have HPU := Lib.hid (And.intro hpush X7)
        clear hpush X7 hown hgr hat hgf
        refine hK.out _ _ (fun hf => absurd hf (by decide)) ?_
        clear hK K
        try simp only [List.setIfInBounds_toArray, Act.put]
        refine wpAnyR_one (i := 10) (by kernel_rfl) rfl (fun K hK => ?_)
        go_simp
        refine hK.out _ _ (fun hf => absurd hf (by decide)) ?_
        clear hK K
        refine wpAnyR_done (by kernel_rfl) ?_
        go_wp2_with fail
        go_meet
        exact ⟨_, _, _, rfl, HPU.out.1.1, HPU.out.2⟩
      case rest =>
        obtain ⟨A6, c6, av2, rfl, hcol, hx4⟩ := hcut
        have HCOL2 := Lib.hid hcol
        have t0 : wc.cell? ⟨wr.heap.size, 0, none⟩ = some (.int .i64 b[n].1) := hx4.cell 0
        have t1 : wc.cell? ⟨wr.heap.size, 1, none⟩ = some (.int .i64 b[n].2.1) := hx4.cell 1
        have t2 : wc.cell? ⟨wr.heap.size, 2, none⟩ = some (.slice A4 b[n].2.2.length c4) := hx4.cell 2
        have B5 := bthen HB1.out hcol.below
        have sc := hcol.below.size
        have CV := Lib.hid (argVars_any (.slice A4 b[n].2.2.length c4) b[n].2.2 _ wc (HA3.out.on B5) (by omega))
        have HW := Lib.hid (show bits .or .u64 ((ordMask b (os.take k) : Nat) : Int) ((maskOf b[n].2.2 : Nat) : Int) = ((ordMask b (os.take (k + 1)) : Nat) : Int) by rw [or_word HM.out.1 (maskOf_lt _), HM.out.2])
        clear hcol hx4
        go_wp2_with (go_at_call 58; refine CV.out.mono ?_; rintro e w6 ⟨rfl, rfl⟩)
        go_roundw
        case rel => exact ⟨k + 1, _, _, _, by omega, by go_num, by rw [← HW.out], rfl, HCOL2.out⟩
        case measure => simp [intOf]; omega
    · obtain rfl : k = os.length := by omega
      have CC := Lib.hid (copyAtom_any (.agg #[.int .i64 hd.1, .slice A hd.2.length c]) hd wr ⟨_, rfl, HH.out.on BR⟩ (by omega))
      obtain ⟨Q, hQ⟩ : ∃ Q, Q = opsTo b os os.length := ⟨_, rfl⟩
      have HQ := Lib.hid hQ
      have HQL := Lib.hid (show Q.length = os.length by rw [hQ, opsTo_len])
      rw [← hQ] at HCOL
      clear hQ
      go_wp2_with (first | (go_at_call 90; refine CC.out.mono ?_; rintro e w5 ⟨P6, d6, rfl, o6, g5⟩) | (at_builtin; refine wpList_append_lies _ rfl (.tmp 42) (.tmp 47) 31 rfl w1.heap.size 78 i0 (.agg #[.int .i64 0, .int .i64 0, .slice none 0 0]) 3 40 Try.underlying31 hi0 hz0 hz1 hz2 rfl (by decide) (.slice A' os.length c') os.length (flat3 Q av) rfl ?c1 ⟨w5.heap.size, 0, none⟩ 1 1 [.int .i64 5, .int .i64 hd.1, .slice P6 hd.2.length d6] rfl rfl (news3o w5 _ _ _ _) ?c2 (by omega) (by unfold maxLen; omega) (by omega) ?c3 _ rfl ?_))
      case c1 => have h0 := (HCOL.out.on g5).own.row; rw [HQL.out] at h0; exact h0.alloc _
      case c2 => intro u hu; simp at hu; rcases hu with rfl | rfl | rfl <;> rfl
      case c3 => have := HCOL.out.lo2; have := g5.size; simp; omega
      intro g2 cap w7 hown hgr hat _
      have hpush := HCOL.out.push (s := (5, hd)) (os' := planFor (hd, b) os) (by rw [HQ.out]; rfl) g5 o6 (by rw [HQL.out]; exact hgr) (by rw [HQL.out, s1]; exact hown)
      have HPU := Lib.hid hpush
      have HLE := Lib.hid (planFor_len (hd, b) os)
      clear hpush hown hgr hat
      go_wp2_with fail
      go_ret
      refine ⟨some ⟨g2, 0, none⟩, cap, by rw [HLE.out]; rfl, ?_, bthen HB1.out HPU.out.1.below⟩
      exact HPU.out.1.ops.mono (by omega) (Nat.le_refl _)

end Go.Proofs.Ytocpfmbieedpgaa
