/-
  Facts in order, plain mathematics: the order, lists that ascend, FactsWith on them, and that their members determine them.
-/
import Derived.Test.YtehjhdihaloalaaWith
namespace Go.Proofs.Ytehjhdihaloalaa

theorem cmpI_neg {a b : Int} : cmpI a b < 0 ↔ a < b := by
  unfold cmpI
  split
  · simp; assumption
  · split <;> simp <;> omega
theorem cmpI_pos {a b : Int} : 0 < cmpI a b ↔ b < a := by
  unfold cmpI
  split
  · simp; omega
  · split <;> simp <;> omega
theorem cmpL_eq : ∀ {xs ys : List Int}, cmpL xs ys = 0 → xs = ys
  | [], [], _ => rfl
  | [], _ :: _, h => by simp [cmpL] at h
  | _ :: _, [], h => by simp [cmpL] at h
  | x :: xs, y :: ys, h => by
    unfold cmpL at h
    split at h
    · rename_i e
      rw [e, cmpL_eq h]
    · exact absurd (cmpI_zero h) (by assumption)
theorem cmpL_refl : ∀ xs : List Int, cmpL xs xs = 0
  | [] => rfl
  | x :: xs => by simp [cmpL, cmpL_refl xs]
theorem cmpL_flip : ∀ {xs ys : List Int}, cmpL xs ys < 0 ↔ 0 < cmpL ys xs
  | [], [] => by simp [cmpL]
  | [], _ :: _ => by simp [cmpL]
  | _ :: _, [] => by simp [cmpL]
  | x :: xs, y :: ys => by
    unfold cmpL
    by_cases e : x = y
    · subst e
      simpa using cmpL_flip
    · rw [if_neg e, if_neg (fun h => e h.symm), cmpI_neg, cmpI_pos]
theorem cmpL_less : ∀ {xs ys zs : List Int}, cmpL xs ys < 0 → cmpL ys zs < 0 → cmpL xs zs < 0
  | [], [], _, h, _ => by simp [cmpL] at h
  | [], _ :: _, [], _, h => by simp [cmpL] at h
  | [], _ :: _, _ :: _, _, _ => by simp [cmpL]
  | _ :: _, [], _, h, _ => by simp [cmpL] at h
  | _ :: _, _ :: _, [], _, h => by simp [cmpL] at h
  | x :: xs, y :: ys, z :: zs, h1, h2 => by
    unfold cmpL at h1 h2 ⊢
    by_cases e1 : x = y
    · subst e1
      by_cases e2 : x = z
      · simp only [e2, if_true] at h1 h2 ⊢
        exact cmpL_less h1 h2
      · simpa [e2] using h2
    · by_cases e2 : y = z
      · subst e2
        simpa [e1] using h1
      · rw [if_neg e1] at h1
        rw [if_neg e2] at h2
        rw [cmpI_neg] at h1 h2
        rw [if_neg (by omega), cmpI_neg]
        omega

theorem order_eq {f g : LFact} (h : factOrder f g = 0) : f = g := by
  unfold factOrder at h
  split at h
  · exact Prod.ext (by assumption) (cmpL_eq h)
  · exact absurd (cmpI_zero h) (by assumption)
theorem order_refl (f : LFact) : factOrder f f = 0 := by simp [factOrder, cmpL_refl]
theorem order_flip {f g : LFact} : factOrder f g < 0 ↔ 0 < factOrder g f := by
  unfold factOrder
  by_cases e : f.1 = g.1
  · rw [if_pos e, if_pos e.symm]
    exact cmpL_flip
  · rw [if_neg e, if_neg (fun h => e h.symm), cmpI_neg, cmpI_pos]
theorem order_less {f g h : LFact} (h1 : factOrder f g < 0) (h2 : factOrder g h < 0) : factOrder f h < 0 := by
  unfold factOrder at h1 h2 ⊢
  by_cases e1 : f.1 = g.1
  · by_cases e2 : g.1 = h.1
    · rw [if_pos e1] at h1
      rw [if_pos e2] at h2
      rw [if_pos (e1.trans e2)]
      exact cmpL_less h1 h2
    · rw [if_neg e2] at h2
      rw [if_neg (fun e => e2 (e1.symm.trans e)), e1]
      exact h2
  · by_cases e2 : g.1 = h.1
    · rw [if_neg e1] at h1
      rw [if_neg (fun e => e1 (e.trans e2.symm)), ← e2]
      exact h1
    · rw [if_neg e1, cmpI_neg] at h1
      rw [if_neg e2, cmpI_neg] at h2
      rw [if_neg (by omega), cmpI_neg]
      omega
theorem order_cases (f g : LFact) : factOrder f g < 0 ∨ f = g ∨ factOrder g f < 0 := by
  rcases Int.lt_trichotomy (factOrder f g) 0 with h | h | h
  · exact .inl h
  · exact .inr (.inl (order_eq h))
  · exact .inr (.inr (order_flip.2 h))

/-- The list ascends, each fact once. -/
def Asc (l : List LFact) : Prop := l.Pairwise fun f g => factOrder f g < 0

/-- Lists that ascend and have the same members are the same. -/
theorem Asc.unique : ∀ {l m : List LFact}, Asc l → Asc m → (∀ f, f ∈ l ↔ f ∈ m) → l = m
  | [], [], _, _, _ => rfl
  | [], g :: m, _, _, h => absurd ((h g).2 (List.mem_cons_self ..)) (by simp)
  | f :: l, [], _, _, h => absurd ((h f).1 (List.mem_cons_self ..)) (by simp)
  | f :: l, g :: m, hl, hm, h => by
    have hl' := List.pairwise_cons.1 hl
    have hm' := List.pairwise_cons.1 hm
    have e : f = g := by
      rcases List.mem_cons.1 ((h f).1 (List.mem_cons_self ..)) with e | e
      · exact e
      rcases List.mem_cons.1 ((h g).2 (List.mem_cons_self ..)) with e' | e'
      · exact e'.symm
      have h1 := hm'.1 f e
      have h2 := hl'.1 g e'
      have := order_less h1 h2
      rw [order_refl] at this
      omega
    subst e
    refine congrArg (f :: ·) (Asc.unique hl'.2 hm'.2 fun x => ⟨fun hx => ?_, fun hx => ?_⟩)
    · rcases List.mem_cons.1 ((h x).1 (List.mem_cons_of_mem _ hx)) with e | e
      · subst e
        have := hl'.1 x hx
        rw [order_refl] at this
        omega
      · exact e
    · rcases List.mem_cons.1 ((h x).2 (List.mem_cons_of_mem _ hx)) with e | e
      · subst e
        have := hm'.1 x hx
        rw [order_refl] at this
        omega
      · exact e

/-- Insertion. -/
def ins (f : LFact) : List LFact → List LFact
  | [] => [f]
  | g :: l => if factOrder f g < 0 then f :: g :: l else if factOrder f g = 0 then f :: l else g :: ins f l

theorem ins_mem (f : LFact) : ∀ (l : List LFact) (x : LFact), x ∈ ins f l ↔ x = f ∨ x ∈ l
  | [], x => by simp [ins]
  | g :: l, x => by
    unfold ins
    split
    · simp
    · split
      · have e := order_eq (by assumption : factOrder f g = 0)
        subst e
        simp
      · simp [ins_mem f l x]
        constructor
        · rintro (h | h | h) <;> simp [h]
        · rintro (h | h | h) <;> simp [h]
theorem Asc.ins {f : LFact} : ∀ {l : List LFact}, Asc l → Asc (ins f l)
  | [], _ => by simp [Go.Proofs.Ytehjhdihaloalaa.ins, Asc]
  | g :: l, h => by
    have h' := List.pairwise_cons.1 h
    unfold Go.Proofs.Ytehjhdihaloalaa.ins
    split
    · rename_i hlt
      refine List.pairwise_cons.2 ⟨fun x hx => ?_, h⟩
      rcases List.mem_cons.1 hx with e | e
      · rw [e]; exact hlt
      · exact order_less hlt (h'.1 x e)
    · split
      · have e := order_eq (by assumption : factOrder f g = 0)
        subst e
        exact h
      · refine List.pairwise_cons.2 ⟨fun x hx => ?_, Asc.ins h'.2⟩
        rcases (ins_mem f l x).1 hx with e | e
        · subst e
          rcases order_cases x g with h1 | h1 | h1
          · exact absurd h1 (by assumption)
          · subst h1
            exact absurd (order_refl x) (by assumption)
          · exact h1
        · exact h'.1 x e

/-- FactsWith's fold, from a state where the fact is placed already and the rest ascends behind it. -/
theorem withStep_placed (f : LFact) : ∀ (l : List LFact) (out : List LFact), (∀ g ∈ l, factOrder f g ≠ 0) → l.foldl (withStep f) (out, true) = (out ++ l, true)
  | [], out, _ => by simp
  | g :: l, out, h => by
    have h0 := h g (List.mem_cons_self ..)
    simp only [List.foldl_cons, withStep]
    simp [h0]
    rw [withStep_placed f l (out ++ [g]) fun x hx => h x (List.mem_cons_of_mem _ hx)]
    simp

def endW (f : LFact) (s : List LFact × Bool) : List LFact := if s.2 then s.1 else s.1 ++ [f]
theorem withStep_fold (f : LFact) : ∀ (l : List LFact) (out : List LFact), Asc l → endW f (l.foldl (withStep f) (out, false)) = out ++ ins f l
  | [], out, _ => by simp [ins, endW]
  | g :: l, out, h => by
    have h' := List.pairwise_cons.1 h
    simp only [List.foldl_cons]
    rcases Int.lt_trichotomy (factOrder f g) 0 with h1 | h1 | h1
    · have e : withStep f (out, false) g = (out ++ [f] ++ [g], true) := by
        simp [withStep, show factOrder f g ≤ 0 by omega, show factOrder f g ≠ 0 by omega]
      rw [e, withStep_placed f l _ fun x hx => by have := order_less h1 (h'.1 x hx); omega]
      simp [ins, h1, endW]
    · have e : withStep f (out, false) g = (out ++ [f], true) := by
        simp [withStep, h1]
      have e2 := order_eq h1
      subst e2
      rw [e, withStep_placed f l _ fun x hx => by have := h'.1 x hx; omega]
      simp [ins, order_refl, endW]
    · have e : withStep f (out, false) g = (out ++ [g], false) := by
        simp [withStep, show ¬ factOrder f g ≤ 0 by omega, show factOrder f g ≠ 0 by omega]
      rw [e, withStep_fold f l _ h'.2]
      simp [ins, show ¬ factOrder f g < 0 by omega, show factOrder f g ≠ 0 by omega]

/-- FactsWith on a list that ascends is insertion. -/
theorem Asc.with_ {l : List LFact} (h : Asc l) (f : LFact) : factsWith l f = Go.Proofs.Ytehjhdihaloalaa.ins f l := by
  have := withStep_fold f l [] h
  unfold endW at this
  unfold factsWith withTo
  rw [List.take_length]
  simpa using this

/-- Facts laid into a list, one after another. -/
def setOf (l : List LFact) : List LFact := l.foldl factsWith []
theorem foldWith : ∀ (l : List LFact) (out : List LFact), Asc out → Asc (l.foldl factsWith out) ∧ ∀ x, x ∈ l.foldl factsWith out ↔ x ∈ out ∨ x ∈ l
  | [], out, h => by simpa using h
  | f :: l, out, h => by
    have h1 : Asc (factsWith out f) := by rw [h.with_ f]; exact h.ins
    obtain ⟨h2, h3⟩ := foldWith l _ h1
    refine ⟨h2, fun x => ?_⟩
    rw [List.foldl_cons, h3 x, h.with_ f, ins_mem]
    simp only [List.mem_cons]
    constructor
    · rintro ((h | h) | h) <;> simp [h]
    · rintro (h | h | h) <;> simp [h]
theorem setOf_asc (l : List LFact) : Asc (setOf l) := (foldWith l [] List.Pairwise.nil).1
theorem setOf_mem (l : List LFact) (x : LFact) : x ∈ setOf l ↔ x ∈ l := by
  rw [setOf, (foldWith l [] List.Pairwise.nil).2 x]
  simp

/-- The list ascends, a fact perhaps more than once. -/
def Up (l : List LFact) : Prop := l.Pairwise fun f g => factOrder f g ≤ 0
/-- Of equal neighbours the last one. -/
def compactL : List LFact → List LFact
  | [] => []
  | [f] => [f]
  | f :: g :: l => if factOrder f g = 0 then compactL (g :: l) else f :: compactL (g :: l)
theorem compactL_mem : ∀ (l : List LFact) (x : LFact), x ∈ compactL l ↔ x ∈ l
  | [], x => by simp [compactL]
  | [f], x => by simp [compactL]
  | f :: g :: l, x => by
    unfold compactL
    split
    · have e := order_eq (by assumption : factOrder f g = 0)
      subst e
      rw [compactL_mem (f :: l) x]
      simp
    · rw [List.mem_cons, compactL_mem (g :: l) x]
      simp
theorem Up.asc : ∀ {l : List LFact}, Up l → Asc (compactL l)
  | [], _ => List.Pairwise.nil
  | [f], _ => by simp [compactL, Asc]
  | f :: g :: l, h => by
    have h' := List.pairwise_cons.1 h
    unfold compactL
    split
    · exact Up.asc h'.2
    · refine List.pairwise_cons.2 ⟨fun x hx => ?_, Up.asc h'.2⟩
      rw [compactL_mem] at hx
      have hfg : factOrder f g < 0 := by
        have := h'.1 g (List.mem_cons_self ..)
        omega
      rcases List.mem_cons.1 hx with e | e
      · rw [e]; exact hfg
      · have h2 := (List.pairwise_cons.1 h'.2).1 x e
        rcases Int.lt_trichotomy (factOrder g x) 0 with h3 | h3 | h3
        · exact order_less hfg h3
        · rw [← order_eq h3]; exact hfg
        · omega

/-- Sorted and compacted, and laid one after another: the same. -/
theorem compact_setOf {s l : List LFact} (h : Up s) (hm : ∀ x, x ∈ s ↔ x ∈ l) : compactL s = setOf l :=
  h.asc.unique (setOf_asc l) fun x => by rw [compactL_mem, setOf_mem, hm]
theorem compact_filter {s l : List LFact} (h : Up s) (hm : ∀ x, x ∈ s ↔ x ∈ l) (p : LFact → Bool) : (compactL s).filter p = setOf (l.filter p) :=
  Asc.unique (h.asc.filter p) (setOf_asc _) fun x => by rw [List.mem_filter, compactL_mem, setOf_mem, List.mem_filter, hm]

end Go.Proofs.Ytehjhdihaloalaa
