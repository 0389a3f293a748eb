/-
  The rules of sets, in plain mathematics.
-/
import Derived.Test.YtehjhdihaloalaaFactSet
import Derived.Test.YtehjhdihaloalaaByOther
namespace Go.Proofs.Ytehjhdihaloalaa
open Go.RowKit Go.Sort

theorem pickL_mem (a b : List LFact) (t : Bool) (f : LFact) : f ∈ pickL a b t ↔ f ∈ a ∧ decide (f ∈ b) = t := by
  unfold pickL
  rw [setOf_mem, List.mem_filter, factsHas_mem]
  simp
theorem setOf_turn (a b : List LFact) : setOf (b ++ a) = setOf (a ++ b) :=
  Asc.unique (setOf_asc _) (setOf_asc _) fun f => by rw [setOf_mem, setOf_mem, List.mem_append, List.mem_append, Or.comm]
theorem setOf_parts (a b : List LFact) : setOf (pickL a b false ++ pickL a b true) = setOf (a ++ []) :=
  Asc.unique (setOf_asc _) (setOf_asc _) fun f => by
    rw [setOf_mem, setOf_mem, List.mem_append, List.append_nil, pickL_mem, pickL_mem]
    by_cases h : f ∈ b <;> simp [h]
theorem filter_parts {α : Type} (p : α → Bool) : ∀ l : List α, (l.filter p).length + (l.filter fun x => !p x).length = l.length
  | [] => rfl
  | x :: l => by
    have := filter_parts p l
    cases hp : p x <;> simp [hp] <;> omega
theorem setOf_count (a b : List LFact) : (setOf (a ++ b)).length + (pickL a b true).length = (setOf (a ++ [])).length + (setOf (b ++ [])).length := by
  have e1 : (setOf (a ++ b)).filter (fun f => decide (f ∈ a)) = setOf (a ++ []) :=
    Asc.unique ((setOf_asc _).filter _) (setOf_asc _) fun f => by
      rw [List.mem_filter, setOf_mem, setOf_mem, List.mem_append, List.append_nil]
      by_cases h : f ∈ a <;> simp [h]
  have e2 : (setOf (a ++ b)).filter (fun f => !decide (f ∈ a)) = (setOf (b ++ [])).filter (fun f => !decide (f ∈ a)) :=
    Asc.unique ((setOf_asc _).filter _) ((setOf_asc _).filter _) fun f => by
      rw [List.mem_filter, List.mem_filter, setOf_mem, setOf_mem, List.mem_append, List.append_nil]
      by_cases h : f ∈ a <;> simp [h]
  have e3 : (setOf (b ++ [])).filter (fun f => decide (f ∈ a)) = pickL a b true :=
    Asc.unique ((setOf_asc _).filter _) (setOf_asc _) fun f => by
      rw [List.mem_filter, setOf_mem, pickL_mem, List.append_nil]
      by_cases h : f ∈ a <;> simp [h]
  have h1 := filter_parts (fun f => decide (f ∈ a)) (setOf (a ++ b))
  have h2 := filter_parts (fun f => decide (f ∈ a)) (setOf (b ++ []))
  rw [e1, e2] at h1
  rw [e3] at h2
  omega

theorem setOf_has (a b : List LFact) (k : Nat) (h : k < (setOf (a ++ b)).length) : (factsHas a (setOf (a ++ b))[k] || factsHas b (setOf (a ++ b))[k]) = true ∧
    factsHas (pickL a b true) (setOf (a ++ b))[k] = (factsHas a (setOf (a ++ b))[k] && factsHas b (setOf (a ++ b))[k]) ∧
    factsHas (pickL a b false) (setOf (a ++ b))[k] = (factsHas a (setOf (a ++ b))[k] && !factsHas b (setOf (a ++ b))[k]) := by
  have hm := (setOf_mem (a ++ b) _).1 (List.getElem_mem h)
  rw [List.mem_append] at hm
  generalize (setOf (a ++ b))[k] = f at *
  simp only [factsHas_mem, pickL_mem]
  by_cases h1 : f ∈ a <;> by_cases h2 : f ∈ b <;> simp [h1, h2] at hm ⊢

end Go.Proofs.Ytehjhdihaloalaa
