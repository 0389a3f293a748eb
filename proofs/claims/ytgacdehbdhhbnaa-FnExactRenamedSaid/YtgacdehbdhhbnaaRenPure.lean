/-
  Renaming, in plain words: what each variable becomes, in the order in which they come.
-/
import Derived.Test.YtgacdehbdhhbnaaRules
import Derived.Test.YtgacdehbdhhbnaaAtomOk
namespace Go.Proofs.Ytgacdehbdhhbnaa
open Go.RowKit

/-- What the four variables have become (0: nothing yet), and how many have come. -/
abbrev Ren := List Int × Nat
def renStep (s : Ren) (t : Int) : Ren := if isVarB t && s.1.getD (-1 - t).toNat 0 == 0 then (s.1.set (-1 - t).toNat (-1 - (s.2 : Int)), s.2 + 1) else s
def renList (s : Ren) (xs : List Int) : Ren := xs.foldl renStep s
def look (s : Ren) (t : Int) : Int := if isVarB t then s.1.getD (-1 - t).toNat 0 else t
/-- What comes out while the variables come. -/
def renOut (s : Ren) (xs : List Int) : List Int := (List.range xs.length).map fun j => look (renList s (xs.take (j + 1))) (xs.getD j 0)
def renBody (s : Ren) (ls : List LLit) : Ren := ls.foldl (fun s l => renList s l.2.2) s
def ren0 : Ren := ([0, 0, 0, 0], 0)
def renRule (r : LRule) : Ren := renBody (renList ren0 r.1.2) r.2
def lookLit (s : Ren) (l : LLit) : LLit := (l.1, (l.2.1, l.2.2.map (look s)))
def termsOk (r : LRule) : Bool := (r.2.all fun l => l.2.2.all termOk) && r.1.2.all termOk
def renamed (r : LRule) : LRule := if termsOk r then ((r.1.1, r.1.2.map (look (renRule r))), r.2.map (lookLit (renRule r))) else ((0, []), [])

theorem var_lt {t : Int} (h : isVarB t = true) : (-1 - t).toNat < 4 := by simp [isVarB] at h; omega
theorem renStep_len {s : Ren} {t : Int} (h : s.1.length = 4) : (renStep s t).1.length = 4 := by
  unfold renStep
  split <;> simp [h]
theorem renList_len : ∀ (xs : List Int) {s : Ren}, s.1.length = 4 → (renList s xs).1.length = 4
  | [], _, h => h
  | _ :: xs, _, h => renList_len xs (renStep_len h)
theorem renList_take {xs : List Int} {k : Nat} (s : Ren) (h : k < xs.length) : renList s (xs.take (k + 1)) = renStep (renList s (xs.take k)) xs[k] := by
  unfold renList
  rw [take_snoc xs k h, List.foldl_append]
  rfl
theorem renBody_take {ls : List LLit} {k : Nat} (s : Ren) (h : k < ls.length) : renBody s (ls.take (k + 1)) = renList (renBody s (ls.take k)) ls[k].2.2 := by
  unfold renBody
  rw [take_snoc ls k h, List.foldl_append]
  rfl
theorem renBody_len : ∀ (ls : List LLit) {s : Ren}, s.1.length = 4 → (renBody s ls).1.length = 4
  | [], _, h => h
  | l :: ls, _, h => renBody_len ls (renList_len l.2.2 h)

/-- What has come stays as it is. -/
def Ext (s s' : Ren) : Prop := ∀ i, s.1.getD i 0 ≠ 0 → s'.1.getD i 0 = s.1.getD i 0
theorem Ext.refl (s : Ren) : Ext s s := fun _ _ => rfl
theorem Ext.trans {s s1 s2 : Ren} (h : Ext s s1) (k : Ext s1 s2) : Ext s s2 := fun i hi => by
  have := h i hi
  rw [k i (by rw [this]; exact hi), this]
theorem Ext.step (s : Ren) (t : Int) : Ext s (renStep s t) := fun i hi => by
  unfold renStep
  split
  · rename_i h
    simp only [Bool.and_eq_true, beq_iff_eq] at h
    have hne : (-1 - t).toNat ≠ i := fun e => hi (e ▸ h.2)
    simp only [List.getD_eq_getElem?_getD, List.getElem?_set_ne hne]
  · rfl
theorem Ext.list : ∀ (xs : List Int) (s : Ren), Ext s (renList s xs)
  | [], s => Ext.refl s
  | t :: xs, s => (Ext.step s t).trans (Ext.list xs _)
theorem Ext.body : ∀ (ls : List LLit) (s : Ren), Ext s (renBody s ls)
  | [], s => Ext.refl s
  | l :: ls, s => (Ext.list l.2.2 s).trans (Ext.body ls _)
theorem renList_append (s : Ren) (xs ys : List Int) : renList s (xs ++ ys) = renList (renList s xs) ys := by simp [renList, List.foldl_append]
theorem renBody_append (s : Ren) (xs ys : List LLit) : renBody s (xs ++ ys) = renBody (renBody s xs) ys := by simp [renBody, List.foldl_append]
/-- A variable that has come has become something. -/
theorem renStep_ne {s : Ren} {t : Int} (h : s.1.length = 4) (hv : isVarB t = true) : (renStep s t).1.getD (-1 - t).toNat 0 ≠ 0 := by
  have h4 := var_lt hv
  unfold renStep
  split
  · rw [List.getD_eq_getElem?_getD, List.getElem?_set_self (by omega)]
    simp
    omega
  · rename_i hn
    intro e
    exact hn (by rw [hv, e]; rfl)
theorem look_ext {s S : Ren} {t : Int} (h : s.1.length = 4) (he : Ext (renStep s t) S) : look (renStep s t) t = look S t := by
  unfold look
  split
  · rename_i hv
    exact (he _ (renStep_ne h hv)).symm
  · rfl
theorem renOut_eq {s S : Ren} {xs : List Int} (h : s.1.length = 4) (he : Ext (renList s xs) S) : renOut s xs = xs.map (look S) := by
  apply List.ext_getElem (by simp [renOut])
  intro j h1 h2
  have hj : j < xs.length := by simpa using h2
  simp only [renOut, List.getElem_map, List.getElem_range]
  rw [renList_take s hj]
  have e1 : xs.getD j 0 = xs[j] := by simp [hj]
  rw [e1]
  refine look_ext (renList_len _ h) (Ext.trans ?_ he)
  rw [← renList_take s hj]
  have := renList_append s (xs.take (j + 1)) (xs.drop (j + 1))
  rw [List.take_append_drop] at this
  rw [this]
  exact Ext.list _ _
theorem renOut_length (s : Ren) (xs : List Int) : (renOut s xs).length = xs.length := by simp [renOut]

/-- The program's way: while they come. -/
def renLits (s : Ren) (ls : List LLit) : List LLit := (List.range ls.length).map fun j => ((ls.getD j (0, (0, []))).1, ((ls.getD j (0, (0, []))).2.1, renOut (renBody s (ls.take j)) (ls.getD j (0, (0, []))).2.2))
theorem renLits_eq {s S : Ren} {ls : List LLit} (h : s.1.length = 4) (he : Ext (renBody s ls) S) : renLits s ls = ls.map (lookLit S) := by
  apply List.ext_getElem (by simp [renLits])
  intro j h1 h2
  have hj : j < ls.length := by simpa using h2
  have e1 : ls.getD j (0, (0, [])) = ls[j] := by simp [hj]
  simp only [renLits, List.getElem_map, List.getElem_range, e1, lookLit]
  congr 2
  refine renOut_eq (renBody_len _ h) (Ext.trans ?_ he)
  rw [← renBody_take s hj]
  have := renBody_append s (ls.take (j + 1)) (ls.drop (j + 1))
  rw [List.take_append_drop] at this
  rw [this]
  exact Ext.body _ _
theorem renamed_yes {r : LRule} (h : termsOk r = true) : renamed r = ((r.1.1, renOut ren0 r.1.2), renLits (renList ren0 r.1.2) r.2) := by
  unfold renamed
  rw [if_pos h]
  have h0 : ren0.1.length = 4 := rfl
  rw [renOut_eq (S := renRule r) h0 (Ext.body _ _), renLits_eq (S := renRule r) (renList_len _ h0) (Ext.refl _)]
theorem renamed_no {r : LRule} (h : termsOk r = false) : renamed r = ((0, []), []) := by
  unfold renamed
  rw [h]
  rfl
theorem renamed_head (r : LRule) : (renamed r).1.2.length ≤ r.1.2.length := by
  unfold renamed
  split <;> simp
theorem renamed_szR (r : LRule) : szR (renamed r) ≤ szR r := by
  unfold renamed
  split
  · unfold szR totL
    simp only [List.length_map, List.map_map]
    have : ((fun l : LLit => l.2.2.length) ∘ lookLit (renRule r)) = fun l : LLit => l.2.2.length := by
      funext l
      simp [lookLit]
    rw [this]
    omega
  · simp [szR, totL]

end Go.Proofs.Ytgacdehbdhhbnaa
