/-
  Compacting, plain mathematics; a row of facts under stores.
-/
import Derived.Test.YtehjhdihaloalaaSortF
import Derived.Test.YtehjhdihaloalaaSame
import Derived.Test.YtehjhdihaloalaaLater
import Derived.Laws.IdiomCopy
namespace Go.Proofs.Ytehjhdihaloalaa
open Go.RowKit Go.Sort

theorem same_iff (f g : LFact) : (factOrder f g == 0) = decide (f = g) := by
  by_cases h : f = g
  · subst h
    simp [order_refl]
  · rw [decide_eq_false h]
    simpa using fun e => h (order_eq e)

theorem compactL_snoc : ∀ (l : List LFact) (a b : LFact), compactL (l ++ [a, b]) = if a = b then compactL (l ++ [a]) else compactL (l ++ [a]) ++ [b]
  | [], a, b => by
    by_cases h : a = b
    · subst h
      simp [compactL, order_refl]
    · have : factOrder a b ≠ 0 := fun e => h (order_eq e)
      simp [compactL, this, h]
  | [x], a, b => by
    have ih := compactL_snoc [] a b
    simp only [List.nil_append] at ih
    show compactL (x :: a :: [b]) = _
    by_cases hx : factOrder x a = 0
    · rw [compactL, if_pos hx]
      show compactL [a, b] = _
      rw [ih, show compactL ([x] ++ [a]) = compactL [a] by simp [compactL, hx]]
    · rw [compactL, if_neg hx]
      show x :: compactL [a, b] = _
      rw [ih, show compactL ([x] ++ [a]) = x :: compactL [a] by simp [compactL, hx]]
      split <;> rfl
  | x :: y :: l, a, b => by
    have ih := compactL_snoc (y :: l) a b
    have e1 : x :: y :: l ++ [a, b] = x :: (y :: (l ++ [a, b])) := rfl
    have e2 : x :: y :: l ++ [a] = x :: (y :: (l ++ [a])) := rfl
    have e3 : y :: l ++ [a, b] = y :: (l ++ [a, b]) := rfl
    have e4 : y :: l ++ [a] = y :: (l ++ [a]) := rfl
    rw [e3, e4] at ih
    rw [e1, e2]
    by_cases hx : factOrder x y = 0
    · rw [compactL, if_pos hx, ih, compactL, if_pos hx]
    · rw [compactL, if_neg hx, ih, compactL, if_neg hx]
      split <;> rfl
/-- One more place. -/
theorem compact_step {fs : List LFact} {j : Nat} (h : j + 1 < fs.length) : compactL (fs.take (j + 2)) = if fs[j] = fs[j + 1] then compactL (fs.take (j + 1)) else compactL (fs.take (j + 1)) ++ [fs[j + 1]] := by
  have e1 : fs.take (j + 2) = fs.take j ++ [fs[j], fs[j + 1]] := by
    rw [take_snoc fs (j + 1) h, take_snoc fs j (by omega), List.append_assoc]
    rfl
  have e2 : fs.take (j + 1) = fs.take j ++ [fs[j]] := take_snoc fs j (by omega)
  rw [e1, e2]
  exact compactL_snoc _ _ _
theorem compactL_length_le : ∀ l : List LFact, (compactL l).length ≤ l.length
  | [] => by simp [compactL]
  | [f] => by simp [compactL]
  | f :: g :: l => by
    have := compactL_length_le (g :: l)
    unfold compactL
    split <;> simp at this ⊢ <;> omega

theorem flat_set_v : ∀ (fs : List LFact) (av : List Value) (j : Nat) (a : Value), av.length = fs.length → j < fs.length → flat fs (av.set j a) = (flat fs av).set (j * 2 + 1) a
  | [], _, j, _, _, h => absurd h (by simp)
  | _ :: _, [], _, _, h, _ => by simp at h
  | f :: fs, b :: av, 0, a, _, _ => by simp [flat]
  | f :: fs, b :: av, j + 1, a, h, hj => by
    have := flat_set_v fs av j a (by simpa using h) (by simpa using hj)
    rw [show (j + 1) * 2 + 1 = j * 2 + 1 + 1 + 1 by omega]
    simp [flat, this]

section
variable {w w' : World} {g c : Nat} {fs : List LFact} {av : List Value}
theorem AtRow.keep (h : AtRow w g c fs av) (hk : w'.heap[g]? = w.heap[g]?) : AtRow w' g c fs av := by
  obtain ⟨cur, hg, r⟩ := h
  exact ⟨cur, hk.trans hg, r⟩
theorem AtRow.below {B : Nat} (h : AtRow w g c fs av) (hb : Below B w w') (hB : g < B) : AtRow w' g c fs av := h.keep (hb.block g hB)
theorem AtRow.len (h : AtRow w g c fs av) : fs.length ≤ c := by
  obtain ⟨cur, _, h1, _⟩ := h
  exact h1
/-- A fact laid at a place. -/
theorem AtRow.set (h : AtRow w g c fs av) (hl : av.length = fs.length) {k : Nat} (hk : k < fs.length) (f : LFact) (a : Value) : AtRow ((w.setCell ⟨g, k * 2, none⟩ (.int .i64 f.1)).setCell ⟨g, k * 2 + 1, none⟩ a) g c (fs.set k f) (av.set k a) := by
  obtain ⟨cur, hg, h1, h2, h3, h4⟩ := h
  have s1 := Blk.set_ (show Blk w g 28 cur from hg) (k * 2) (.int .i64 f.1)
  have s2 := s1.set_ (k * 2 + 1) a
  refine ⟨_, s2, by simpa using h1, h2, by simpa using h3, ?_⟩
  rw [flat_set_v (fs.set k f) av k a (by simpa using hl) (by simpa using hk), flat_set fs av k f hl, ← h4]
  apply List.ext_getElem?
  intro j
  simp only [List.length_set, List.getElem?_take, Array.getElem?_toList, Array.getElem?_setIfInBounds, List.getElem?_set, Array.size_setIfInBounds, List.length_take, Array.length_toList]
  have hb : fs.length * 2 ≤ cur.size := by omega
  by_cases e1 : k * 2 + 1 = j
  · subst e1
    have : k * 2 + 1 < fs.length * 2 := by omega
    have h5 : k * 2 + 1 < cur.size := by omega
    simp [this, h5]
    omega
  · by_cases e2 : k * 2 = j
    · subst e2
      have : k * 2 < fs.length * 2 := by omega
      have h5 : k * 2 < cur.size := by omega
      simp [this, h5]
      omega
    · by_cases h6 : j < fs.length * 2
      · simp [e1, e2, h6]
      · simp [e1, e2, h6]
/-- The first m alone. -/
theorem AtRow.take (h : AtRow w g c fs av) (hl : av.length = fs.length) {m : Nat} (hm : m ≤ fs.length) : AtRow w g c (fs.take m) (av.take m) := by
  obtain ⟨cur, hg, h1, h2, h3, h4⟩ := h
  refine ⟨cur, hg, by simp; omega, h2, h3, ?_⟩
  have hlm : (fs.take m).length = m := by simp; omega
  rw [hlm]
  have e : flat fs av = flat (fs.take m) (av.take m) ++ flat (fs.drop m) (av.drop m) := by
    rw [← flat_append _ _ (by simp [hl]), List.take_append_drop, List.take_append_drop]
  have hfl := flat_length (fs.take m) (av.take m) (by simp [hl])
  rw [hlm] at hfl
  rw [e] at h4
  have := congrArg (List.take (m * 2)) h4
  rw [List.take_take, show min (m * 2) (fs.length * 2) = m * 2 by omega, List.take_append_of_le_length (by omega), ← hfl, List.take_length] at this
  rw [← hfl]
  exact this
end

theorem setCells_heap (g : Nat) : ∀ (vs : List Value) (o : Nat) (w : World) (cur : Array Value) (t : TypeId), w.heap[g]? = some (.cells cur t (0, 0)) →
    ∃ cur', (w.setCells g o vs).heap[g]? = some (.cells cur' t (0, 0)) ∧ cur'.size = cur.size ∧ (∀ j, j < o → cur'[j]? = cur[j]?) ∧ Only g (g + 1) w (w.setCells g o vs)
  | [], _, w, cur, t, h => ⟨cur, h, rfl, fun _ _ => rfl, Only.refl _ _ _⟩
  | v :: vs, o, w, cur, t, h => by
    obtain ⟨cur', h1, h2, h3, h4⟩ := setCells_heap g vs (o + 1) (w.setCell ⟨g, o, none⟩ v) _ t (Blk.set_ (show Blk w g t cur from h) o v)
    refine ⟨cur', h1, by simpa using h2, fun j hj => ?_, (Only.setCell (p := ⟨g, o, none⟩) (Only.refl g (g + 1) w) ⟨Nat.le_refl g, Nat.lt_succ_self g⟩ v).trans h4⟩
    rw [h3 j (by omega), Array.getElem?_setIfInBounds]
    rw [if_neg (by omega)]

/-- clear of the places from k on. -/
theorem run_clear_facts {w : World} {g c : Nat} {fs : List LFact} {av : List Value} (h : AtRow w g c fs av) {k : Nat} (hk : k < fs.length) (d : Nat) :
    ∃ W, (∀ ty, (Builtin.clear_ #[36] ty #[.slice (some ⟨g, k * 2, none⟩) (fs.length - k) d]).run Try.prog w = .ok (.tuple #[]) W) ∧ Only g (g + 1) w W ∧ ((av.length = fs.length) → AtRow W g c (fs.take k) (av.take k)) := by
  obtain ⟨cur, hg, h1, h2, h3, h4⟩ := h
  have hz : ∀ W, (zeroValue 28).run Try.prog W = .ok (.agg #[.int .i64 0, .slice none 0 0]) W := Try.zeroValue28
  obtain ⟨zc, hzc⟩ : ∃ zc, zc = (Builtin.zeroCells #[Value.int IntKind.i64 0, Value.slice none 0 0] (fs.length - k)).toList := ⟨_, rfl⟩
  have hzl : zc.length = (fs.length - k) * 2 := by rw [hzc, Array.length_toList, size_zeroPairs]
  have hz1 : ∀ v ∈ zc, v.oneCell' = true := by
    intro v hv
    rw [hzc] at hv
    simp [Builtin.zeroCells] at hv
    obtain ⟨i, _, hi⟩ := hv
    rcases (show i % 2 = 0 ∨ i % 2 = 1 by omega) with e | e
    · rw [e] at hi
      simp at hi
      rw [← hi]
      rfl
    · rw [e] at hi
      simp at hi
      rw [← hi]
      rfl
  have hst := run_storeCells_cells (P := Try.prog) g (k * 2) zc 0 w (fun j hj => by
      rw [Blk.cell hg, Array.getElem?_eq_getElem (by omega)]
      rfl) (fun j _ => Blk.frozen hg _) hz1
  rw [Nat.add_zero] at hst
  obtain ⟨cur', g1, g2, g3, g4⟩ := setCells_heap g zc (k * 2) w cur _ hg
  refine ⟨w.setCells g (k * 2) zc, fun ty => ?_, g4, fun hl => ?_⟩
  · obtain ⟨m, hm⟩ : ∃ m, fs.length - k = m + 1 := ⟨fs.length - k - 1, by omega⟩
    rw [hm] at hzc ⊢
    simp only [Builtin.clear_]
    simp [run_underlying Try.underlying36, hz, Value.cells, ← hzc, hst]
  · have hA : AtRow w g c fs av := ⟨cur, hg, h1, h2, h3, h4⟩
    obtain ⟨_, hg', _, _, _, h4'⟩ := hA.take hl (Nat.le_of_lt hk)
    rw [hg] at hg'
    injection hg' with hg'
    injection hg' with hg' _ _
    subst hg'
    refine ⟨cur', g1, by simp; omega, h2, by rw [g2]; exact h3, ?_⟩
    rw [← h4']
    have hlk : (fs.take k).length = k := by simp; omega
    rw [hlk]
    apply List.ext_getElem?
    intro j
    rw [List.getElem?_take, List.getElem?_take]
    split
    · rw [Array.getElem?_toList, Array.getElem?_toList]
      exact g3 j (by omega)
    · rfl

end Go.Proofs.Ytehjhdihaloalaa
