/-
  The law FnExactFreshSolutions: for every input the call returns true, and each argument reads behind it as it read before. Conditions: none but the row's own.
-/
import Derived.Test.YtebincnejcmocaaGreatMSo5
import Derived.Test.YtebincnejcmocaaGreatMSo2
import Derived.Laws.IdiomCopy
import Derived.Test.YtebincnejcmocaaGreatMSo1
import Derived.Test.YtebincnejcmocaaGreatMSo3
import Derived.Test.YtebincnejcmocaaGreatMSo6
import Derived.Shelf.SlSortCmp.NoneTotal
import Derived.Laws.BitsAllLaws
import Derived.Test.YtebincnejcmocaaGreatMSo7
import Derived.Deep.RegionHeld3
import Derived.Deep.DeepCutAuto
import Derived.Deep.RegionWith
import Derived.Test.YtebincnejcmocaaGreatRows
import Derived.Test.YtebincnejcmocaaGreatMFs1
import Derived.Test.YtebincnejcmocaaGreatMFs2
/-
  slices.SortFunc at facts by FactOrder: a permutation, ascending.
-/
namespace Go.Proofs.YtebincnejcmocaaGreat
open Go.RowKit Go.Sort

/-- An element of the row: a fact, its header, which reads in blocks below g. -/
def El (w : World) (g : Nat) : Type := { x : LFact × Value // RdInts w g x.2 x.1.2 ∧ x.1.2.length ≤ 1048576 }
instance (w : World) (g : Nat) : Inhabited (El w g) := ⟨⟨((0, []), .slice none 0 0), ⟨none, 0, rfl, by simp, fun h => absurd h (by simp)⟩, by simp⟩⟩
def encE {w : World} {g : Nat} (x : El w g) : List Value := [.int .i64 x.1.1.1, x.1.2]
def cfE {w : World} {g : Nat} (x y : El w g) : Int := factOrder x.1.1 y.1.1

section
variable {w : World} {g : Nat}
theorem ltE (x y : El w g) : ltOf cfE x y = decide (factOrder x.1.1 y.1.1 < 0) := rfl
theorem swoE : SWO (ltOf (cfE (w := w) (g := g))) where
  irrefl x := by rw [ltE, order_refl]; rfl
  trans x y z h1 h2 := by
    rw [ltE] at *
    exact decide_eq_true (order_less (of_decide_eq_true h1) (of_decide_eq_true h2))
  ntrans x y z h1 h2 := by
    rw [ltE] at *
    refine decide_eq_false fun h3 => ?_
    have h1 := of_decide_eq_false h1
    have h2 := of_decide_eq_false h2
    rcases order_cases x.1.1 y.1.1 with h | h | h
    · exact h1 h
    · rw [h] at h3
      exact h2 h3
    · exact h2 (order_less h h3)

theorem below_sortWorld {α : Type} [Inhabited α] (enc : α → List Value) (m : Nat) (dk : Array α) (os : Array Obj) : Only g (g + 1) w (sortWorldK enc 2 w g 0 m dk os) := by
  refine ⟨rfl, rfl, rfl, ?_, fun k hk ho => ?_⟩
  · simp [sortWorldK, putRowK, putRow, mapBlock, Sort.grow, Sort.ahead]
  · have hne : ¬ g = k := by omega
    simp only [sortWorldK, putRowK, putRow, mapBlock, Sort.grow, Sort.ahead, Array.getElem?_append, Array.size_modify, Array.getElem?_modify, hne, if_false]
    rw [if_pos hk]

theorem flatE : ∀ (l : List (El w g)), (flatK encE 2 l.toArray).toList = flat (l.map (·.1.1)) (l.map (·.1.2)) := by
  intro l
  have hl : (l.map fun x : El w g => x.1.2).length = (l.map fun x : El w g => x.1.1).length := by simp
  have hfl := flat_length (l.map fun x : El w g => x.1.1) (l.map fun x : El w g => x.1.2) hl
  simp only [List.length_map] at hfl
  have hsz : (flatK encE 2 l.toArray).size = l.length * 2 := by simp
  apply List.ext_getElem
  · rw [Array.length_toList, hsz, hfl]
  · intro t h1 h2
    rw [Array.length_toList, hsz] at h1
    have hk : t / 2 < l.length := by omega
    obtain ⟨c0, c1⟩ := flat_at (l.map fun x : El w g => x.1.1) (l.map fun x : El w g => x.1.2) hl (t / 2) (by simpa using hk) (by simpa using hk)
    have hget : (flatK encE 2 l.toArray)[t]'(by rw [hsz]; exact h1) = (encE l[t / 2])[t % 2]! := by
      have := get_flatK (encE (w := w) (g := g)) 2 l.toArray t (by simpa using h1)
      rw [getElem!_pos _ _ (by rw [hsz]; exact h1)] at this
      rw [this]
      congr 2
      rw [getElem!_pos _ _ (by simpa using hk)]
      simp
    rw [Array.getElem_toList, hget]
    apply Option.some.inj
    rw [← List.getElem?_eq_getElem h2]
    rcases (show t % 2 = 0 ∨ t % 2 = 1 by omega) with e | e
    · have et : t = t / 2 * 2 := by omega
      rw [e]
      conv => rhs; rw [et, c0]
      simp [encE]
    · have et : t = t / 2 * 2 + 1 := by omega
      rw [e]
      conv => rhs; rw [et, c1]
      simp [encE]

theorem elems {fs : List LFact} {av : List Value} (h : RdArgs w g av fs) (hl : ∀ k (hk : k < fs.length), fs[k].2.length ≤ 1048576) : ∃ l : List (El w g), l.map (·.1.1) = fs ∧ l.map (·.1.2) = av := by
  let F : Fin fs.length → El w g := fun i => ⟨(fs[i.1], av[i.1]'(by have := i.2; have := h.1; omega)), h.2 i.1 i.2 _ i.2, hl i.1 i.2⟩
  refine ⟨List.ofFn F, ?_, ?_⟩
  · apply List.ext_getElem
    · rw [List.length_map, List.length_ofFn]
    · intro k k1 k2
      rw [List.getElem_map, List.getElem_ofFn]
  · apply List.ext_getElem
    · rw [List.length_map, List.length_ofFn, h.1]
    · intro k k1 k2
      rw [List.getElem_map, List.getElem_ofFn]

theorem rdE (l : List (El w g)) : RdArgs w g (l.map (·.1.2)) (l.map (·.1.1)) := ⟨by simp, fun k _ h2 h3 => by simpa using (l[k]'(by simpa using h3)).2.1⟩
end

theorem RdArgs.below {w w' : World} {B B' : Nat} {av : List Value} {fs : List LFact} (h : RdArgs w B av fs) (hb : Below B' w w') (hB : B ≤ B') : RdArgs w' B av fs := ⟨h.1, fun k h1 h2 h3 => (h.2 k h1 h2 h3).below hb hB⟩
theorem RdArgs.more {w : World} {B B' : Nat} {av : List Value} {fs : List LFact} (h : RdArgs w B av fs) (hB : B ≤ B') : RdArgs w B' av fs := ⟨h.1, fun k h1 h2 h3 => (h.2 k h1 h2 h3).more hB⟩

/-- The row at block g, from its start, holds facts with these headers. -/
def AtRow (w : World) (g cap : Nat) (fs : List LFact) (av : List Value) : Prop :=
  ∃ cur, w.heap[g]? = some (.cells cur 52 (0, 0)) ∧ fs.length ≤ cap ∧ cap ≤ maxLen ∧ cur.size = cap * 2 ∧ cur.toList.take (fs.length * 2) = flat fs av
theorem AtRow.lt {w : World} {g cap : Nat} {fs : List LFact} {av : List Value} (h : AtRow w g cap fs av) : g < w.heap.size := by
  obtain ⟨cur, hg, _⟩ := h
  exact Blk.lt hg
theorem RowF.at_ {w : World} {base c : Nat} {A : Option Addr} {fs : List LFact} {av : List Value} (h : RowF w base A c fs av) (hn : 0 < fs.length) : ∃ g, A = some ⟨g, 0, none⟩ ∧ base ≤ g ∧ AtRow w g c fs av := by
  rcases h.row.2 with ⟨_, h0⟩ | ⟨g, cap, cur, e, hb, hgg, r1, r2, r3, r4⟩
  · omega
  · injection e with e1 _ e3
    subst e1
    subst e3
    exact ⟨g, rfl, hb, cur, hgg, r1, r2, r3, r4⟩
theorem AtRow.row {w : World} {base g c : Nat} {fs : List LFact} {av : List Value} (h : AtRow w g c fs av) (hl : av.length = fs.length) (hb : base ≤ g) : w.ownsRow base 52 2 (.slice (some ⟨g, 0, none⟩) fs.length c) fs.length (flat fs av) := by
  obtain ⟨cur, hg, h1, h2, h3, h4⟩ := h
  exact ⟨flat_length _ _ hl, .inr ⟨g, c, cur, rfl, hb, hg, h1, h2, h3, h4⟩⟩
theorem AtRow.cell {w : World} {g c : Nat} {fs : List LFact} {av : List Value} (h : AtRow w g c fs av) {j : Nat} (hj : j < fs.length * 2) : w.cell? ⟨g, j, none⟩ = (flat fs av)[j]? := by
  obtain ⟨cur, hg, h1, h2, h3, h4⟩ := h
  rw [Blk.cell hg, ← h4, List.getElem?_take_of_lt hj, Array.getElem?_toList]
theorem AtRow.frozen {w : World} {g c : Nat} {fs : List LFact} {av : List Value} (h : AtRow w g c fs av) (j : Nat) : w.frozen? ⟨g, j, none⟩ = false := by
  obtain ⟨cur, hg, _⟩ := h
  exact Blk.frozen hg j

set_option maxHeartbeats 1000000 in
theorem sortF_any (g c : Nat) (fs : List LFact) (av : List Value) (w : World) (hrow : AtRow w g c fs av) (hrd : RdArgs w g av fs) (hn : fs.length ≤ 4194304) (hl : ∀ k (hk : k < fs.length), fs[k].2.length ≤ 1048576) :
    Calls Tryz.prog 109 #[.slice (some ⟨g, 0, none⟩) fs.length c, .func (.func 110) #[] #[]] w fun e w' =>
      e = .returned (.tuple #[]) ∧ ∃ fs' av', fs'.Perm fs ∧ Up fs' ∧ AtRow w' g c fs' av' ∧ RdArgs w' g av' fs' ∧ Only g (g + 1) w w' := by
  obtain ⟨l, rfl, rfl⟩ := elems hrd hl
  have hg := hrow.lt
  have eg : ∀ args w, (callFunc 110 args).run Tryz.prog w = .ok (.enter 110 args) w := enters_of Tryz.func110 (by kernel_rfl) rfl
  have hcmp : CmpLays Tryz.prog 110 #[] (encE (w := w) (g := g)) 2 cfE g 0 l.toArray.size w := fun m os dk _ x y => by
    have ho := below_sortWorld (w := w) (g := g) (encE (w := w) (g := g)) m dk os
    have hb : Below g w (sortWorldK encE 2 w g 0 m dk os) := ho.below (Nat.le_refl _) (Nat.le_of_lt hg)
    exact implFactOrder_grow _ _ x.1.1 y.1.1 _ ⟨_, rfl, (x.2.1.below hb (Nat.le_refl _)).more (Nat.le_trans (Nat.le_of_lt hg) ho.size)⟩ ⟨_, rfl, (y.2.1.below hb (Nat.le_refl _)).more (Nat.le_trans (Nat.le_of_lt hg) ho.size)⟩ x.2.2 y.2.2
  have hH : HoldsK (encE (w := w) (g := g)) 2 w g 0 l.toArray := fun j hj => by
    have hj2 : j < l.length * 2 := by simpa using hj
    refine ⟨?_, hrow.frozen _⟩
    rw [Nat.zero_add, hrow.cell (by simpa using hj2), ← flatE l, Array.getElem?_toList, Array.getElem?_eq_getElem hj]
    rw [getElem!_pos (flatK encE 2 l.toArray) j hj]
    rfl
  have hcon := AnyQ.slices_SortFunc Tryz.sortFact 2 Tryz.isAgg52 Tryz.sizeOf52 (encE (w := w) (g := g)) (fun _ => rfl) (fun x v hv => by
      simp only [encE, List.mem_cons, List.not_mem_nil, or_false] at hv
      rcases hv with rfl | rfl
      · rfl
      · obtain ⟨A, c, e, _⟩ := x.2.1
        rw [e]
        rfl) cfE swoE 110 #[] g 0 c l.toArray w eg hcmp hH hg (by simp at hn ⊢; omega)
  rw [show (List.map (fun x : El w g => x.1.1) l).length = l.toArray.size by simp]
  refine Calls.mono hcon ?_
  rintro e w' ⟨rfl, d', n, os, ⟨hsz, _, hperm⟩, hsort, rfl⟩
  have hp : d'.toList.Perm l := by
    have e1 : d'.extract 0 l.toArray.size = d' := by rw [← hsz]; simp
    have e2 : l.toArray.extract 0 l.toArray.size = l.toArray := by simp
    rw [e1, e2] at hperm
    simpa using hperm
  have ho := below_sortWorld (w := w) (g := g) (encE (w := w) (g := g)) n d' os
  have hszl : d'.toList.length = l.length := by rw [Array.length_toList, hsz]; simp
  refine ⟨rfl, d'.toList.map (·.1.1), d'.toList.map (·.1.2), hp.map _, ?_, ?_, (rdE d'.toList).below (ho.below (Nat.le_refl _) (Nat.le_of_lt hg)) (Nat.le_refl _), ho⟩
  · refine List.pairwise_map.2 (List.pairwise_iff_getElem.2 fun i j hi hj hij => ?_)
    rw [Array.length_toList] at hi hj
    have h := hsort i j (Nat.zero_le _) hij (by rw [← hsz]; exact hj)
    rw [ltE, getElem!_pos d' i hi, getElem!_pos d' j hj] at h
    have h := of_decide_eq_false h
    have h2 := @order_flip d'[j].1.1 d'[i].1.1
    simp only [Array.getElem_toList]
    omega
  · obtain ⟨cur, hgg, h1, h2, h3, h4⟩ := hrow
    have hlen : (d'.toList.map fun x : El w g => x.1.1).length = l.length := by rw [List.length_map, hszl]
    refine ⟨putCells id 0 (flatK encE 2 d') cur, ?_, by rw [hlen]; simpa using h1, h2, by simp [putCells, h3], ?_⟩
    · simp only [sortWorldK, putRowK, putRow, mapBlock, Sort.grow, Sort.ahead]
      rw [Array.getElem?_append, Array.size_modify, if_pos hg, Array.getElem?_modify, if_pos rfl, hgg]
      rfl
    · have hfe := flatE d'.toList
      rw [Array.toArray_toList] at hfe
      rw [← hfe, hlen]
      have hfs : (flatK encE 2 d').size = l.length * 2 := by rw [size_flatK, hsz]; simp
      have hcl : l.length * 2 ≤ cur.size := by rw [h3]; simp at h1; omega
      apply List.ext_getElem
      · simp [putCells, hfs]
        omega
      · intro t t1 t2
        rw [Array.length_toList, hfs] at t2
        rw [List.getElem_take, Array.getElem_toList, Array.getElem_toList]
        simp only [putCells, Array.getElem_mapIdx, id]
        rw [if_pos ⟨Nat.zero_le _, by rw [hfs]; omega⟩, Nat.sub_zero, getElem!_pos (flatK encE 2 d') t (by rw [hfs]; exact t2)]

end Go.Proofs.YtebincnejcmocaaGreat
/-
  sameFact.
-/
namespace Go.Proofs.YtebincnejcmocaaGreat
open Go.RowKit Go.Sort

set_option maxHeartbeats 400000 in
set_option maxRecDepth 100000 in
theorem sameFact_grow (v v2 : Value) (f g : LFact) (w : World) (h : RdFact w w.heap.size v f) (h2 : RdFact w w.heap.size v2 g) (hn : f.2.length ≤ 1048576) (hn2 : g.2.length ≤ 1048576) :
    Calls Tryz.prog 112 #[v, v2] w fun e w' => e = .returned (.bool (factOrder f g == 0)) ∧ Gr w w' := by
  obtain ⟨a, rfl, h⟩ := h
  have H := Lib.hid h
  obtain ⟨A, c, rfl, hc, _⟩ := h
  obtain ⟨a, rfl, h2⟩ := h2
  have H2 := Lib.hid h2
  obtain ⟨A2, c2, rfl, hc2, _⟩ := h2
  go_enter Tryz.func112, Tryz.ntmps112
  go_wp2_with (fail)
  refine (implFactOrder_grow _ _ f g _ ⟨_, rfl, H.out.on (below2 _ _ _)⟩ ⟨_, rfl, H2.out.on (below2 _ _ _)⟩ hn hn2).mono ?_
  rintro e w1 ⟨rfl, hg1⟩
  have HG := Lib.hid ((((Gr.refl w).alloc _).alloc _).trans hg1)
  clear hg1
  go_wp2_with (fail)
  go_ret
  exact ⟨rfl, HG.out⟩

end Go.Proofs.YtebincnejcmocaaGreat
/-
  Compacting, plain mathematics; a row of facts under stores.
-/
namespace Go.Proofs.YtebincnejcmocaaGreat
open Go.RowKit Go.Sort

theorem same_iff (f g : LFact) : (factOrder f g == 0) = decide (f = g) := by
  by_cases h : f = g
  · subst h
    simp [order_refl]
  · rw [decide_eq_false h]
    simpa using fun e => h (order_eq e)

theorem compactL_snoc : ∀ (l : List LFact) (a b : LFact), compactL (l ++ [a, b]) = if a = b then compactL (l ++ [a]) else compactL (l ++ [a]) ++ [b]
  | [], a, b => by
    by_cases h : a = b
    · subst h
      simp [compactL, order_refl]
    · have : factOrder a b ≠ 0 := fun e => h (order_eq e)
      simp [compactL, this, h]
  | [x], a, b => by
    have ih := compactL_snoc [] a b
    simp only [List.nil_append] at ih
    show compactL (x :: a :: [b]) = _
    by_cases hx : factOrder x a = 0
    · rw [compactL, if_pos hx]
      show compactL [a, b] = _
      rw [ih, show compactL ([x] ++ [a]) = compactL [a] by simp [compactL, hx]]
    · rw [compactL, if_neg hx]
      show x :: compactL [a, b] = _
      rw [ih, show compactL ([x] ++ [a]) = x :: compactL [a] by simp [compactL, hx]]
      split <;> rfl
  | x :: y :: l, a, b => by
    have ih := compactL_snoc (y :: l) a b
    have e1 : x :: y :: l ++ [a, b] = x :: (y :: (l ++ [a, b])) := rfl
    have e2 : x :: y :: l ++ [a] = x :: (y :: (l ++ [a])) := rfl
    have e3 : y :: l ++ [a, b] = y :: (l ++ [a, b]) := rfl
    have e4 : y :: l ++ [a] = y :: (l ++ [a]) := rfl
    rw [e3, e4] at ih
    rw [e1, e2]
    by_cases hx : factOrder x y = 0
    · rw [compactL, if_pos hx, ih, compactL, if_pos hx]
    · rw [compactL, if_neg hx, ih, compactL, if_neg hx]
      split <;> rfl
/-- One more place. -/
theorem compact_step {fs : List LFact} {j : Nat} (h : j + 1 < fs.length) : compactL (fs.take (j + 2)) = if fs[j] = fs[j + 1] then compactL (fs.take (j + 1)) else compactL (fs.take (j + 1)) ++ [fs[j + 1]] := by
  have e1 : fs.take (j + 2) = fs.take j ++ [fs[j], fs[j + 1]] := by
    rw [take_snoc fs (j + 1) h, take_snoc fs j (by omega), List.append_assoc]
    rfl
  have e2 : fs.take (j + 1) = fs.take j ++ [fs[j]] := take_snoc fs j (by omega)
  rw [e1, e2]
  exact compactL_snoc _ _ _
theorem compactL_length_le : ∀ l : List LFact, (compactL l).length ≤ l.length
  | [] => by simp [compactL]
  | [f] => by simp [compactL]
  | f :: g :: l => by
    have := compactL_length_le (g :: l)
    unfold compactL
    split <;> simp at this ⊢ <;> omega

theorem flat_set_v : ∀ (fs : List LFact) (av : List Value) (j : Nat) (a : Value), av.length = fs.length → j < fs.length → flat fs (av.set j a) = (flat fs av).set (j * 2 + 1) a
  | [], _, j, _, _, h => absurd h (by simp)
  | _ :: _, [], _, _, h, _ => by simp at h
  | f :: fs, b :: av, 0, a, _, _ => by simp [flat]
  | f :: fs, b :: av, j + 1, a, h, hj => by
    have := flat_set_v fs av j a (by simpa using h) (by simpa using hj)
    rw [show (j + 1) * 2 + 1 = j * 2 + 1 + 1 + 1 by omega]
    simp [flat, this]

section
variable {w w' : World} {g c : Nat} {fs : List LFact} {av : List Value}
theorem AtRow.keep (h : AtRow w g c fs av) (hk : w'.heap[g]? = w.heap[g]?) : AtRow w' g c fs av := by
  obtain ⟨cur, hg, r⟩ := h
  exact ⟨cur, hk.trans hg, r⟩
theorem AtRow.below {B : Nat} (h : AtRow w g c fs av) (hb : Below B w w') (hB : g < B) : AtRow w' g c fs av := h.keep (hb.block g hB)
theorem AtRow.len (h : AtRow w g c fs av) : fs.length ≤ c := by
  obtain ⟨cur, _, h1, _⟩ := h
  exact h1
/-- A fact laid at a place. -/
theorem AtRow.set (h : AtRow w g c fs av) (hl : av.length = fs.length) {k : Nat} (hk : k < fs.length) (f : LFact) (a : Value) : AtRow ((w.setCell ⟨g, k * 2, none⟩ (.int .i64 f.1)).setCell ⟨g, k * 2 + 1, none⟩ a) g c (fs.set k f) (av.set k a) := by
  obtain ⟨cur, hg, h1, h2, h3, h4⟩ := h
  have s1 := Blk.set_ (show Blk w g 52 cur from hg) (k * 2) (.int .i64 f.1)
  have s2 := s1.set_ (k * 2 + 1) a
  refine ⟨_, s2, by simpa using h1, h2, by simpa using h3, ?_⟩
  rw [flat_set_v (fs.set k f) av k a (by simpa using hl) (by simpa using hk), flat_set fs av k f hl, ← h4]
  apply List.ext_getElem?
  intro j
  simp only [List.length_set, List.getElem?_take, Array.getElem?_toList, Array.getElem?_setIfInBounds, List.getElem?_set, Array.size_setIfInBounds, List.length_take, Array.length_toList]
  have hb : fs.length * 2 ≤ cur.size := by omega
  by_cases e1 : k * 2 + 1 = j
  · subst e1
    have : k * 2 + 1 < fs.length * 2 := by omega
    have h5 : k * 2 + 1 < cur.size := by omega
    simp [this, h5]
    omega
  · by_cases e2 : k * 2 = j
    · subst e2
      have : k * 2 < fs.length * 2 := by omega
      have h5 : k * 2 < cur.size := by omega
      simp [this, h5]
      omega
    · by_cases h6 : j < fs.length * 2
      · simp [e1, e2, h6]
      · simp [e1, e2, h6]
/-- The first m alone. -/
theorem AtRow.take (h : AtRow w g c fs av) (hl : av.length = fs.length) {m : Nat} (hm : m ≤ fs.length) : AtRow w g c (fs.take m) (av.take m) := by
  obtain ⟨cur, hg, h1, h2, h3, h4⟩ := h
  refine ⟨cur, hg, by simp; omega, h2, h3, ?_⟩
  have hlm : (fs.take m).length = m := by simp; omega
  rw [hlm]
  have e : flat fs av = flat (fs.take m) (av.take m) ++ flat (fs.drop m) (av.drop m) := by
    rw [← flat_append _ _ (by simp [hl]), List.take_append_drop, List.take_append_drop]
  have hfl := flat_length (fs.take m) (av.take m) (by simp [hl])
  rw [hlm] at hfl
  rw [e] at h4
  have := congrArg (List.take (m * 2)) h4
  rw [List.take_take, show min (m * 2) (fs.length * 2) = m * 2 by omega, List.take_append_of_le_length (by omega), ← hfl, List.take_length] at this
  rw [← hfl]
  exact this
end

theorem setCells_heap (g : Nat) : ∀ (vs : List Value) (o : Nat) (w : World) (cur : Array Value) (t : TypeId), w.heap[g]? = some (.cells cur t (0, 0)) →
    ∃ cur', (w.setCells g o vs).heap[g]? = some (.cells cur' t (0, 0)) ∧ cur'.size = cur.size ∧ (∀ j, j < o → cur'[j]? = cur[j]?) ∧ Only g (g + 1) w (w.setCells g o vs)
  | [], _, w, cur, t, h => ⟨cur, h, rfl, fun _ _ => rfl, Only.refl _ _ _⟩
  | v :: vs, o, w, cur, t, h => by
    obtain ⟨cur', h1, h2, h3, h4⟩ := setCells_heap g vs (o + 1) (w.setCell ⟨g, o, none⟩ v) _ t (Blk.set_ (show Blk w g t cur from h) o v)
    refine ⟨cur', h1, by simpa using h2, fun j hj => ?_, (Only.setCell (p := ⟨g, o, none⟩) (Only.refl g (g + 1) w) ⟨Nat.le_refl g, Nat.lt_succ_self g⟩ v).trans h4⟩
    rw [h3 j (by omega), Array.getElem?_setIfInBounds]
    rw [if_neg (by omega)]

/-- clear of the places from k on. -/
theorem run_clear_facts {w : World} {g c : Nat} {fs : List LFact} {av : List Value} (h : AtRow w g c fs av) {k : Nat} (hk : k < fs.length) (d : Nat) :
    ∃ W, (∀ ty, (Builtin.clear_ #[28] ty #[.slice (some ⟨g, k * 2, none⟩) (fs.length - k) d]).run Tryz.prog w = .ok (.tuple #[]) W) ∧ Only g (g + 1) w W ∧ ((av.length = fs.length) → AtRow W g c (fs.take k) (av.take k)) := by
  obtain ⟨cur, hg, h1, h2, h3, h4⟩ := h
  have hz : ∀ W, (zeroValue 52).run Tryz.prog W = .ok (.agg #[.int .i64 0, .slice none 0 0]) W := Tryz.zeroValue52
  obtain ⟨zc, hzc⟩ : ∃ zc, zc = (Builtin.zeroCells #[Value.int IntKind.i64 0, Value.slice none 0 0] (fs.length - k)).toList := ⟨_, rfl⟩
  have hzl : zc.length = (fs.length - k) * 2 := by rw [hzc, Array.length_toList, size_zeroPairs]
  have hz1 : ∀ v ∈ zc, v.oneCell' = true := by
    intro v hv
    rw [hzc] at hv
    simp [Builtin.zeroCells] at hv
    obtain ⟨i, _, hi⟩ := hv
    rcases (show i % 2 = 0 ∨ i % 2 = 1 by omega) with e | e
    · rw [e] at hi
      simp at hi
      rw [← hi]
      rfl
    · rw [e] at hi
      simp at hi
      rw [← hi]
      rfl
  have hst := run_storeCells_cells (P := Tryz.prog) g (k * 2) zc 0 w (fun j hj => by
      rw [Blk.cell hg, Array.getElem?_eq_getElem (by omega)]
      rfl) (fun j _ => Blk.frozen hg _) hz1
  rw [Nat.add_zero] at hst
  obtain ⟨cur', g1, g2, g3, g4⟩ := setCells_heap g zc (k * 2) w cur _ hg
  refine ⟨w.setCells g (k * 2) zc, fun ty => ?_, g4, fun hl => ?_⟩
  · obtain ⟨m, hm⟩ : ∃ m, fs.length - k = m + 1 := ⟨fs.length - k - 1, by omega⟩
    rw [hm] at hzc ⊢
    simp only [Builtin.clear_]
    simp [run_underlying Tryz.underlying28, hz, Value.cells, ← hzc, hst]
  · have hA : AtRow w g c fs av := ⟨cur, hg, h1, h2, h3, h4⟩
    obtain ⟨_, hg', _, _, _, h4'⟩ := hA.take hl (Nat.le_of_lt hk)
    rw [hg] at hg'
    injection hg' with hg'
    injection hg' with hg' _ _
    subst hg'
    refine ⟨cur', g1, by simp; omega, h2, by rw [g2]; exact h3, ?_⟩
    rw [← h4']
    have hlk : (fs.take k).length = k := by simp; omega
    rw [hlk]
    apply List.ext_getElem?
    intro j
    rw [List.getElem?_take, List.getElem?_take]
    split
    · rw [Array.getElem?_toList, Array.getElem?_toList]
      exact g3 j (by omega)
    · rfl

end Go.Proofs.YtebincnejcmocaaGreat
/-
  slices.CompactFunc at facts by sameFact.
-/
namespace Go.Proofs.YtebincnejcmocaaGreat
open Go.RowKit Go.Sort

/-- What a call of sameFact asks, at two places of a row, in any later world. -/
theorem same_at {w0 : World} {g c : Nat} {fs : List LFact} {av : List Value} (hrow : AtRow w0 g c fs av) (hrd : RdArgs w0 g av fs) (hl : ∀ k (hk : k < fs.length), fs[k].2.length ≤ 1048576) {i j : Nat} (hi : i < fs.length) (hj : j < fs.length)
    (hi' : i < av.length) (hj' : j < av.length) (x : Later w0) :
    Calls Tryz.prog 112 #[.agg #[.int .i64 fs[i].1, av[i]], .agg #[.int .i64 fs[j].1, av[j]]] x.val fun e w' => e = .returned (.bool (decide (fs[i] = fs[j]))) ∧ Below x.val.heap.size x.val w' := by
  have hg := Nat.le_of_lt hrow.lt
  have h1 := ((hrd.2 i hi hi' hi).more hg).on x.2
  have h2 := ((hrd.2 j hj hj' hj).more hg).on x.2
  refine (sameFact_grow _ _ fs[i] fs[j] x.val ⟨_, rfl, h1⟩ ⟨_, rfl, h2⟩ (hl i hi) (hl j hj)).mono fun e w' ⟨he, hG⟩ => ⟨by rw [he, same_iff], hG.below⟩

theorem AtRow.cells {w : World} {g c : Nat} {fs : List LFact} {av : List Value} (h : AtRow w g c fs av) (hl : av.length = fs.length) {k : Nat} (hk : k < fs.length) (hk' : k < av.length) :
    w.cell? ⟨g, k * 2, none⟩ = some (.int .i64 fs[k].1) ∧ w.cell? ⟨g, k * 2 + 1, none⟩ = some av[k] := by
  obtain ⟨c0, c1⟩ := flat_at fs av hl k hk hk'
  exact ⟨by rw [h.cell (by omega), c0], by rw [h.cell (by omega), c1]⟩

set_option maxHeartbeats 4000000 in
set_option maxRecDepth 100000 in
theorem compactF_any (g c : Nat) (fs : List LFact) (av : List Value) (w : World) (hrow : AtRow w g c fs av) (hrd : RdArgs w g av fs) (hn : fs.length ≤ 4194304) (hl : ∀ k (hk : k < fs.length), fs[k].2.length ≤ 1048576) :
    Calls Tryz.prog 111 #[.slice (some ⟨g, 0, none⟩) fs.length c, .func (.func 112) #[] #[]] w fun e w' =>
      ∃ av', e = .returned (.slice (some ⟨g, 0, none⟩) (compactL fs).length c) ∧ AtRow w' g c (compactL fs) av' ∧ RdArgs w' g av' (compactL fs) ∧ Only g (g + 1) w w' := by
  have hlc := hrow.len
  have hcm : c ≤ maxLen := by obtain ⟨_, _, _, h, _⟩ := hrow; exact h
  have hcm2 : c ≤ 9223372036854775807 := by unfold maxLen at hcm; omega
  by_cases h2 : fs.length < 2
  · have HE := Lib.hid (show compactL fs = fs by
      match fs, h2 with
      | [], _ => rfl
      | [f], _ => rfl)
    have h2I : (fs.length : Int) < 2 := by omega
    have HR := Lib.hid (And.intro hrow hrd)
    clear hrow hrd h2
    go_enter Tryz.func111, Tryz.ntmps111
    go_wp2_with (fail)
    go_ret
    rw [HE.out]
    exact ⟨av, rfl, HR.out.1, HR.out.2, Only.refl _ _ _⟩
  · have h2I : ¬ (fs.length : Int) < 2 := by omega
    have hg := hrow.lt
    have hav := hrd.1
    have HR := Lib.hid (And.intro hrow hrd)
    have HAV := Lib.hid hav
    clear hrow hrd h2 hav
    go_enter Tryz.func111, Tryz.ntmps111
    go_wp2_with (fail)
    go_loopw [5] (fun i wr => ∃ j : Nat, j + 1 ≤ fs.length ∧ i = .int .i64 ((j + 1 : Nat) : Int) ∧ compactL (fs.take (j + 1)) = fs.take (j + 1) ∧ Below w.heap.size w wr) (fun i _ => fs.length - (intOf i).toNat)
    case atStart => exact ⟨0, by omega, rfl, by
      rw [take_snoc fs 0 (by omega)]
      rfl, Below.refl _ _⟩
    case round =>
      obtain ⟨j, hj, rfl, hcp, hbe⟩ := hrel
      have hrow := HR.out.1.below hbe hg
      have hrd := HR.out.2.below hbe (Nat.le_of_lt hg)
      by_cases hlt : j + 1 < fs.length
      · have hj1 : j < fs.length := by omega
        have hja : j < av.length := by have := HAV.out; omega
        have hja1 : j + 1 < av.length := by have := HAV.out; omega
        obtain ⟨a0, a1⟩ := hrow.cells HAV.out hlt hja1
        obtain ⟨b0, b1⟩ := hrow.cells HAV.out hj1 hja
        have A0 := later_cell a0
        have A1 := later_cell a1
        have B0 := later_cell b0
        have B1 := later_cell b1
        have CS := Lib.hid (same_at hrow hrd hl hlt hj1 hja1 hja)
        have HC := Lib.hid hcp
        have HST := Lib.hid (compact_step hlt)
        have HRR := Lib.hid (And.intro hrow hrd)
        obtain ⟨va, hva⟩ : ∃ va, va = av[j + 1] := ⟨_, rfl⟩
        obtain ⟨vb, hvb⟩ : ∃ vb, vb = av[j] := ⟨_, rfl⟩
        rw [← hva] at A1 CS
        rw [← hvb] at B1 CS
        obtain ⟨Aa, ca, hfa, _⟩ := hrd.2 (j + 1) hlt hja1 hlt
        obtain ⟨Ab, cb, hfb, _⟩ := hrd.2 j hj1 hja hj1
        rw [← hva] at hfa
        rw [← hvb] at hfb
        subst hfa hfb
        clear hcp hrow hrd a0 a1 b0 b1 hva hvb
        by_cases he : fs[j + 1] = fs[j]
        · -- the first two that are the same
          have hd : decide (fs[j + 1] = fs[j]) = true := decide_eq_true he
          rw [hd] at CS
          have HE := Lib.hid he
          clear he hd
          go_wp2_with (fail)
          refine wp_region_later (by kernel_rfl) (by kernel_rfl) ?_
          repeat (go_big_quiet_step ((go_at_call 112; exact later_of (CS.out _))))
          refine wpQuiet_nil ?_
          rintro _ ⟨xq, rfl⟩
          go_wp2_with (fail)
          have HLN := Lib.hid (show compactL (fs.take (j + 1 + 1)) = fs.take (j + 1) by
            rw [show j + 1 + 1 = j + 2 from rfl, HST.out, if_pos HE.out.symm, HC.out])
          have HAll := Lib.hid (show ∀ f ∈ fs, f.2.length ≤ 1048576 from fun f hf => by
            obtain ⟨q, hq, rfl⟩ := List.getElem_of_mem hf
            exact hl q hq)
          clear A0 A1 B0 B1
          go_loopw [5, 7] (fun m k wr => ∃ (i m' : Nat) (fw : List LFact) (aw : List Value), i + 1 ≤ fs.length - (j + 1) ∧ k = .int .i64 ((i + 1 : Nat) : Int) ∧ m = .int .i64 (m' : Nat) ∧ m' ≤ j + 1 + i ∧ fw.length = fs.length ∧ fw.take m' = compactL (fs.take (j + 1 + i + 1)) ∧ m' = (compactL (fs.take (j + 1 + i + 1))).length ∧ fw.drop (j + 1 + i) = fs.drop (j + 1 + i) ∧
              (∀ f ∈ fw, f.2.length ≤ 1048576) ∧ AtRow wr g c fw aw ∧ RdArgs wr g aw fw ∧ Only g (g + 1) w wr) (fun _ k _ => fs.length - (intOf k).toNat)
          case atStart =>
            exact ⟨0, j + 1, fs, av, by omega, rfl, rfl, by omega, rfl, HLN.out.symm, by rw [HLN.out, List.length_take]; omega, rfl, HAll.out, HRR.out.1.keep (xq.2.block g (Nat.lt_of_lt_of_le hg hbe.size)), HRR.out.2.below xq.2 (Nat.le_trans (Nat.le_of_lt hg) hbe.size), (Only.of_below hbe).trans (Only.of_below xq.2)⟩
          case round =>
            obtain ⟨i, m, fw, aw, hi, rfl, rfl, hm, hfl, htk, hml, hdr, hal, hrow, hrd, hon⟩ := hrel
            have hgr := hrow.lt
            have haw := hrd.1
            by_cases hlt2 : i + 1 < fs.length - (j + 1)
            · have hq1 : j + 1 + i + 1 < fs.length := by omega
              have hq0 : j + 1 + i < fs.length := by omega
              have hq1f : j + 1 + i + 1 < fw.length := by omega
              have hq0f : j + 1 + i < fw.length := by omega
              have hq1a : j + 1 + i + 1 < aw.length := by omega
              have hq0a : j + 1 + i < aw.length := by omega
              have hma : m < aw.length := by omega
              have hmf : m < fw.length := by omega
              have e0 : fw[j + 1 + i] = fs[j + 1 + i] := by
                have h1 := congrArg (fun l => l[0]?) hdr
                simpa [hq0, hq0f] using h1
              have e1 : fw[j + 1 + i + 1] = fs[j + 1 + i + 1] := by
                have h1 := congrArg (fun l => l[1]?) hdr
                simpa [hq1, hq1f] using h1
              obtain ⟨a0, a1⟩ := hrow.cells haw hq1f hq1a
              obtain ⟨b0, b1⟩ := hrow.cells haw hq0f hq0a
              obtain ⟨d0, d1⟩ := hrow.cells haw hmf hma
              rw [show (j + 1 + i + 1) * 2 = (j + 1) * 2 + (i + 1) * 2 by omega] at a0 a1
              rw [show (j + 1 + i) * 2 = (j + 1) * 2 + i * 2 by omega] at b0 b1
              have CS2 := Lib.hid (same_at hrow hrd (fun k hk => hal _ (List.getElem_mem hk)) hq1f hq0f hq1a hq0a)
              have HST2 := Lib.hid (compact_step hq1)
              obtain ⟨va, hva⟩ : ∃ va, va = aw[j + 1 + i + 1] := ⟨_, rfl⟩
              obtain ⟨vb, hvb⟩ : ∃ vb, vb = aw[j + 1 + i] := ⟨_, rfl⟩
              obtain ⟨Aa, ca, hfa, hfx⟩ := hrd.2 (j + 1 + i + 1) hq1f hq1a hq1f
              obtain ⟨Ab, cb, hfb, _⟩ := hrd.2 (j + 1 + i) hq0f hq0a hq0f
              have RA := hrd.2 (j + 1 + i + 1) hq1f hq1a hq1f
              rw [← hva] at a1 CS2 hfa RA
              rw [← hvb] at b1 CS2 hfb
              subst hfa hfb
              rw [e1] at a0 a1 CS2 RA
              rw [e0] at b0 b1 CS2
              have A0 := later_cell a0
              have A1 := later_cell a1
              have B0 := later_cell b0
              have B1 := later_cell b1
              have HQ := Lib.hid (And.intro hrow (And.intro hrd (And.intro hon (And.intro htk (And.intro hml (And.intro hdr RA))))))
              have HAL := Lib.hid hal
              have HF := Lib.hid (And.intro hfl haw)
              clear hva hvb a0 a1 b0 b1 e0 e1 hrow hrd hon htk hml hdr RA hal hfx
              by_cases he2 : fs[j + 1 + i + 1] = fs[j + 1 + i]
              · have hd2 : decide (fs[j + 1 + i + 1] = fs[j + 1 + i]) = true := decide_eq_true he2
                rw [hd2] at CS2
                have HN := Lib.hid (show compactL (fs.take (j + 1 + (i + 1) + 1)) = compactL (fs.take (j + 1 + i + 1)) by
                  rw [show j + 1 + (i + 1) + 1 = j + 1 + i + 2 by omega, HST2.out, if_pos he2.symm])
                clear he2 hd2 d0 d1
                go_wp2_with (fail)
                refine wp_region_later (by kernel_rfl) (by kernel_rfl) ?_
                repeat (go_big_quiet_step ((go_at_call 112; exact later_of (CS2.out _))))
                refine wpQuiet_nil ?_
                rintro _ ⟨xr, rfl⟩
                go_wp2_with (fail)
                go_roundw
                case rel =>
                  obtain ⟨h1, h2, h3, h4, h5, h6, h7⟩ := HQ.out
                  refine ⟨i + 1, m, fw, aw, by omega, by go_num, rfl, by omega, HF.out.1, by rw [HN.out]; exact h4, by rw [HN.out]; exact h5, ?_, HAL.out, h1.keep (xr.2.block g hgr), h2.below xr.2 (Nat.le_of_lt hgr), h3.trans (Only.of_below xr.2)⟩
                  have := congrArg (List.drop 1) h6
                  rwa [List.drop_drop, List.drop_drop] at this
                case measure => simp [intOf]; omega
              · have hd2 : decide (fs[j + 1 + i + 1] = fs[j + 1 + i]) = false := decide_eq_false he2
                rw [hd2] at CS2
                have HN := Lib.hid (show compactL (fs.take (j + 1 + (i + 1) + 1)) = compactL (fs.take (j + 1 + i + 1)) ++ [fs[j + 1 + i + 1]] by
                  rw [show j + 1 + (i + 1) + 1 = j + 1 + i + 2 by omega, HST2.out, if_neg (fun e => he2 e.symm)])
                clear he2 hd2
                go_wp2_with (fail)
                refine wp_region_later (by kernel_rfl) (by kernel_rfl) ?_
                repeat (go_big_quiet_step ((go_at_call 112; exact later_of (CS2.out _))))
                refine wpQuiet_nil ?_
                rintro _ ⟨xr, rfl⟩
                have D0 := later_cell d0 xr
                have D1 := later_cell d1 xr
                have hrx := HQ.out.1.keep (xr.2.block g hgr)
                have F0 := hrx.frozen (m * 2)
                have F1 := hrx.frozen (m * 2 + 1)
                have hset := hrx.set HF.out.2 hmf fs[j + 1 + i + 1] (.slice Aa fs[j + 1 + i + 1].2.length ca)
                have HSET := Lib.hid hset
                have hbx := xr.2
                obtain ⟨Vd, hVd⟩ : ∃ Vd, Vd = aw[m] := ⟨_, rfl⟩
                rw [← hVd] at D1
                clear hset hrx d0 d1 hVd
                go_wp2_with (fail)
                go_roundw
                case rel =>
                  obtain ⟨h1, h2, h3, h4, h5, h6, h7⟩ := HQ.out
                  have o1 : Only g (g + 1) xr.val ((xr.val.setCell ⟨g, m * 2, none⟩ (.int .i64 fs[j + 1 + i + 1].1)).setCell ⟨g, m * 2 + 1, none⟩ (.slice Aa fs[j + 1 + i + 1].2.length ca)) :=
                    Only.setCell (p := ⟨g, m * 2 + 1, none⟩) (Only.setCell (p := ⟨g, m * 2, none⟩) (Only.refl g (g + 1) xr.val) ⟨Nat.le_refl g, Nat.lt_succ_self g⟩ _) ⟨Nat.le_refl g, Nat.lt_succ_self g⟩ _
                  have o2 := (h3.trans (Only.of_below xr.2)).trans o1
                  refine ⟨i + 1, m + 1, fw.set m fs[j + 1 + i + 1], aw.set m (.slice Aa fs[j + 1 + i + 1].2.length ca), by omega, by go_num, by go_num, by omega, by rw [List.length_set]; exact HF.out.1, ?_, ?_, ?_, ?_, HSET.out, ?_, o2⟩
                  · rw [HN.out, ← h4, List.take_set, take_snoc fw m hmf, List.set_append_right _ _ (by simp; omega)]
                    simp [Nat.min_eq_left (Nat.le_of_lt hmf)]
                  · rw [HN.out, List.length_append, ← h5]
                    rfl
                  · rw [List.drop_set_of_lt (by omega)]
                    have := congrArg (List.drop 1) h6
                    rwa [List.drop_drop, List.drop_drop] at this
                  · intro f hf
                    rcases List.mem_or_eq_of_mem_set hf with hf | rfl
                    · exact HAL.out f hf
                    · exact hl _ hq1
                  · have hbw : Below g wr ((xr.val.setCell ⟨g, m * 2, none⟩ (.int .i64 fs[j + 1 + i + 1].1)).setCell ⟨g, m * 2 + 1, none⟩ (.slice Aa fs[j + 1 + i + 1].2.length ca)) := ((Only.of_below xr.2).trans o1).below (Nat.le_refl _) (Nat.le_of_lt hgr)
                    have h2b := h2.below hbw (Nat.le_refl _)
                    refine ⟨by simp [h2.1], fun q q1 q2 q3 => ?_⟩
                    by_cases eq : m = q
                    · subst eq
                      simpa using h7.below hbw (Nat.le_refl _)
                    · have := h2b.2 q (by simpa using q1) (by simpa using q2) (by simpa using q3)
                      simpa [List.getElem_set_ne eq] using this
                case measure => simp [intOf]; omega
            · have hn1 : j + 1 + i + 1 = fs.length := by omega
              have hmn : m < fw.length := by omega
              obtain ⟨WC, hcl, hoc, hac⟩ := run_clear_facts hrow hmn (c - m)
              rw [hfl] at hcl
              have HX := Lib.hid (show fw.take m = compactL fs ∧ m = (compactL fs).length by
                rw [hn1, List.take_length] at htk hml
                exact ⟨htk, hml⟩)
              have HQ := Lib.hid (And.intro (hac haw) (And.intro hrd (And.intro (hon.trans hoc) (hoc.below (Nat.le_refl _) (Nat.le_of_lt hgr)))))
              have hmn2 : m ≤ fs.length := by omega
              have hmc : m ≤ c := by omega
              clear hrow hrd hon htk hml hdr hal hoc hac
              go_wp2_with (simp only [hcl])
              go_ret
              obtain ⟨h1, h2, h3, h4⟩ := HQ.out
              rw [← HX.out.1] at *
              refine ⟨aw.take m, ?_, h1, ?_, h3⟩
              · congr 2
                simp
                omega
              · have h2b := h2.below h4 (Nat.le_refl _)
                refine ⟨by simp [h2.1], fun q q1 q2 q3 => ?_⟩
                simp at q1 q2 q3
                have := h2b.2 q (by omega) (by omega) (by omega)
                simpa using this
        · have hd : decide (fs[j + 1] = fs[j]) = false := decide_eq_false he
          rw [hd] at CS
          have HN := Lib.hid (show compactL (fs.take (j + 1 + 1)) = fs.take (j + 1 + 1) by
            rw [show j + 1 + 1 = j + 2 from rfl, HST.out, if_neg (fun e => he e.symm), HC.out, ← take_snoc fs (j + 1) hlt])
          clear he hd
          go_wp2_with (fail)
          refine wp_region_later (by kernel_rfl) (by kernel_rfl) ?_
          repeat (go_big_quiet_step ((go_at_call 112; exact later_of (CS.out _))))
          refine wpQuiet_nil ?_
          rintro _ ⟨xq, rfl⟩
          go_wp2_with (fail)
          go_roundw
          case rel => exact ⟨j + 1, by omega, by go_num, HN.out, bthen hbe xq.2⟩
          case measure => simp [intOf]; omega
      · have HE := Lib.hid (show compactL fs = fs by
          have e : fs.take (j + 1) = fs := by rw [show j + 1 = fs.length by omega, List.take_length]
          rw [e] at hcp
          exact hcp)
        have HRR := Lib.hid (And.intro hrow hrd)
        clear hcp hrow hrd
        go_wp2_with (fail)
        go_ret
        rw [HE.out]
        exact ⟨av, rfl, HRR.out.1, HRR.out.2, Only.of_below hbe⟩

end Go.Proofs.YtebincnejcmocaaGreat
/-
  copyFacts.
-/
namespace Go.Proofs.YtebincnejcmocaaGreat
open Go.RowKit

end Go.Proofs.YtebincnejcmocaaGreat
/-
  factSet: cloned, sorted, compacted: the facts laid one after another. The program's FactsEither.
-/
namespace Go.Proofs.YtebincnejcmocaaGreat
open Go.RowKit Go.Sort

theorem compactNil_any (w : World) :
    Calls Tryz.prog 111 #[.slice none 0 0, .func (.func 112) #[] #[]] w fun e w' => e = .returned (.slice none 0 0) ∧ w = w' := by
  go_enter Tryz.func111, Tryz.ntmps111
  go_wp2_with (fail)
  go_ret
  exact ⟨rfl, rfl⟩

theorem len_tot {fs : List LFact} {n : Nat} (h : tot fs ≤ n) : ∀ k (hk : k < fs.length), fs[k].2.length ≤ n := fun k hk => Nat.le_trans (len_le_tot fs k hk) h

set_option maxHeartbeats 1000000 in
set_option maxRecDepth 100000 in
theorem factSet_any (v : Value) (fs : List LFact) (w : World) (h : RdFacts w w.heap.size v fs) (hn : fs.length ≤ 2097152) (ht : tot fs ≤ 1048576) :
    Calls Tryz.prog 84 #[v] w fun e w' => ∃ A' c', e = .returned (.slice A' (setOf fs).length c') ∧ RdFacts w' w'.heap.size (.slice A' (setOf fs).length c') (setOf fs) ∧ Below w.heap.size w w' := by
  obtain ⟨A, c, av, rfl, ha, hc⟩ := h.heads
  have HA := Lib.hid (And.intro ha hc)
  clear h ha hc
  go_enter Tryz.func84, Tryz.ntmps84
  go_wp2_with (fail)
  refine (clone_av A c fs av w HA.out.1 HA.out.2 (by omega)).mono ?_
  rintro e w1 ⟨A1, c1, rfl, hrow, hb1⟩
  rcases hrow.row.2 with ⟨e1, h0⟩ | ⟨g, cap, cur, e1, hbg, hgg, r1, r2, r3, r4⟩
  · injection e1 with e1 _ e3
    subst e1
    subst e3
    have hfs : fs = [] := List.eq_nil_of_length_eq_zero h0
    subst hfs
    have HS := Lib.hid (show setOf [] = [] from rfl)
    have hs := AnyF.slices_SortFunc_none Tryz.sortFact none 0 (.func (.func 110) #[] #[]) w1
    clear hrow h0
    go_wp2_with (fail)
    refine Calls.mono hs ?_
    rintro e w2 ⟨rfl, rfl⟩
    go_wp2_with (fail)
    refine (compactNil_any _).mono ?_
    rintro e w2 ⟨rfl, rfl⟩
    go_wp2_with (fail)
    go_ret
    rw [HS.out]
    exact ⟨none, 0, rfl, ⟨none, 0, rfl, by simp, fun h => absurd h (by simp)⟩, hb1⟩
  · injection e1 with e1 _ e3
    subst e1
    subst e3
    have hat : AtRow w1 g c1 fs av := ⟨cur, hgg, r1, r2, r3, r4⟩
    have hrd : RdArgs w1 g av fs := ((HA.out.1.below hb1 (Nat.le_refl _)).more hbg)
    have hlen := len_tot ht
    have hs := sortF_any g c1 fs av w1 hat hrd (by omega) hlen
    clear hrow hat hgg r1 r2 r3 r4
    go_wp2_with (fail)
    refine hs.mono ?_
    rintro e w2 ⟨rfl, fs', av', hp, hup, hat2, hrd2, ho2⟩
    have hl2 : ∀ k (hk : k < fs'.length), fs'[k].2.length ≤ 1048576 := fun k hk => by
      obtain ⟨q, hq, e⟩ := List.getElem_of_mem (hp.mem_iff.1 (List.getElem_mem hk))
      rw [← e]
      exact hlen q hq
    have hk := compactF_any g c1 fs' av' w2 hat2 hrd2 (by rw [hp.length_eq]; omega) hl2
    have HC := Lib.hid (show compactL fs' = setOf fs from compact_setOf hup fun x => hp.mem_iff)
    rw [show fs.length = fs'.length from hp.length_eq.symm]
    have HB2 := Lib.hid (show Below w.heap.size w w2 from Only.then_ hb1 ho2 hbg)
    have hg1 := hat2.lt
    clear hs hp hup hat2 hrd2 hl2 hlen hrd
    go_wp2_with (fail)
    refine hk.mono ?_
    rw [HC.out]
    rintro e w3 ⟨av3, rfl, hat3, hrd3, ho3⟩
    have HR := Lib.hid (show RdFacts w3 w3.heap.size (.slice (some ⟨g, 0, none⟩) (setOf fs).length c1) (setOf fs) from
      (RowF.facts (base := 0) ⟨hat3.row hrd3.1 (Nat.zero_le _), hrd3.more (Nat.le_of_lt hat3.lt)⟩))
    have HB3 := Lib.hid (show Below w.heap.size w w3 from Only.then_ HB2.out ho3 hbg)
    clear hk hat3 hrd3 ho3 ho2
    go_wp2_with (fail)
    go_ret
    exact ⟨_, c1, rfl, HR.out, HB3.out⟩

end Go.Proofs.YtebincnejcmocaaGreat
/-
  slices.BinarySearchFunc at facts by FactOrder, setHas: found just if a member of the list that ascends.
-/
namespace Go.Proofs.YtebincnejcmocaaGreat
open Go.RowKit Go.Sort

/-- All ahead of i stand ahead of f. -/
def LessTo (fs : List LFact) (f : LFact) (i : Nat) : Prop := ∀ k (h : k < fs.length), k < i → factOrder fs[k] f < 0
def MoreFrom (fs : List LFact) (f : LFact) (j : Nat) : Prop := ∀ k (h : k < fs.length), j ≤ k → ¬ factOrder fs[k] f < 0

theorem asc_lt {fs : List LFact} (h : Asc fs) {i j : Nat} (hi : i < fs.length) (hj : j < fs.length) (hij : i < j) : factOrder fs[i] fs[j] < 0 := List.pairwise_iff_getElem.1 h i j hi hj hij
theorem lessTo_mid {fs : List LFact} {f : LFact} (h : Asc fs) {m : Nat} (hm : m < fs.length) (e : factOrder fs[m] f < 0) : LessTo fs f (m + 1) := fun k hk hlt => by
  by_cases e2 : k = m
  · subst e2
    exact e
  · exact order_less (asc_lt h hk hm (by omega)) e
theorem moreFrom_mid {fs : List LFact} {f : LFact} (h : Asc fs) {m : Nat} (hm : m < fs.length) (e : ¬ factOrder fs[m] f < 0) : MoreFrom fs f m := fun k hk hle he => by
  by_cases e2 : m = k
  · subst e2
    exact e he
  · exact e (order_less (asc_lt h hm hk (by omega)) he)
/-- At the end: a member just if it stands at the place. -/
theorem has_at {fs : List LFact} {f : LFact} {i : Nat} (h1 : LessTo fs f i) (h2 : MoreFrom fs f i) (hi : i < fs.length) (h : Asc fs) : decide (f ∈ fs) = (factOrder fs[i] f == 0) := by
  by_cases e : factOrder fs[i] f = 0
  · have := order_eq e
    rw [e]
    simp [← this]
  · have hne : ¬ f ∈ fs := fun hm => by
      obtain ⟨k, hk, rfl⟩ := List.getElem_of_mem hm
      rcases Nat.lt_trichotomy k i with hlt | rfl | hgt
      · have := h1 k hk hlt
        rw [order_refl] at this
        omega
      · exact e (order_refl _)
      · have h3 := asc_lt h hi hk hgt
        exact h2 i hi (Nat.le_refl _) h3
    rw [decide_eq_false hne]
    simpa using e
theorem has_none {fs : List LFact} {f : LFact} {i : Nat} (h1 : LessTo fs f i) (hi : ¬ i < fs.length) : decide (f ∈ fs) = false := by
  refine decide_eq_false fun hm => ?_
  obtain ⟨k, hk, rfl⟩ := List.getElem_of_mem hm
  have := h1 k hk (by omega)
  rw [order_refl] at this
  omega

/-- What a call of FactOrder asks, in any later world. -/
theorem order_in {w0 : World} {v v2 : Value} {f g : LFact} (h : RdFact w0 w0.heap.size v f) (h2 : RdFact w0 w0.heap.size v2 g) (hn : f.2.length ≤ 1048576) (hn2 : g.2.length ≤ 1048576) (x : Later w0) :
    Calls Tryz.prog 110 #[v, v2] x.val fun e w' => e = .returned (.int .i64 (factOrder f g)) ∧ Below x.val.heap.size x.val w' :=
  (implFactOrder_grow v v2 f g x.val (h.on x.2) (h2.on x.2) hn hn2).mono fun _ _ ⟨he, hG⟩ => ⟨he, hG.below⟩

set_option maxHeartbeats 2000000 in
set_option maxRecDepth 100000 in
theorem binF_any (v v2 : Value) (fs : List LFact) (f : LFact) (w : World) (h : RdFacts w w.heap.size v fs) (h2 : RdFact w w.heap.size v2 f) (ha : Asc fs) (hn : fs.length ≤ 2097152) (hl : tot fs ≤ 1048576) (hf : f.2.length ≤ 1048576) :
    Calls Tryz.prog 113 #[v, v2, .func (.func 110) #[] #[]] w fun e w' =>
      (∃ i : Int, e = .returned (.tuple #[.int .i64 i, .bool (decide (f ∈ fs))])) ∧ Below w.heap.size w w' := by
  have H := Lib.hid h
  have H2 := Lib.hid h2
  have HA := Lib.hid ha
  obtain ⟨A, c, rfl, hc, _⟩ := h
  obtain ⟨u, rfl, A2, c2, rfl, hc2, _⟩ := h2
  obtain ⟨R, hR⟩ : ∃ R, R = decide (f ∈ fs) := ⟨_, rfl⟩
  rw [← hR]
  have HR := Lib.hid hR
  clear hR ha
  go_enter Tryz.func113, Tryz.ntmps113
  go_wp2_with (fail)
  obtain ⟨w1, hw1⟩ : ∃ w1, w1 = w.alloc (Obj.cells #[Value.int IntKind.i64 f.1, Value.slice A2 f.2.length c2] 52) := ⟨_, rfl⟩
  have B1 : Below w.heap.size w w1 := by rw [hw1]; exact below1 _ _
  have x1 : Blk w1 w.heap.size 52 #[.int .i64 f.1, .slice A2 f.2.length c2] := by rw [hw1]; exact Blk.new _ _ _
  rw [← hw1]
  clear hw1
  have HX := Lib.hid (And.intro B1 x1)
  clear B1 x1
  go_loopw [9, 10, 11] (fun i j _ wr => ∃ (p q : Nat), p ≤ q ∧ q ≤ fs.length ∧ i = .int .i64 (p : Nat) ∧ j = .int .i64 (q : Nat) ∧ LessTo fs f p ∧ MoreFrom fs f q ∧ Below w1.heap.size w1 wr) (fun i j _ _ => (intOf j).toNat - (intOf i).toNat)
  case atStart => exact ⟨0, fs.length, Nat.zero_le _, Nat.le_refl _, rfl, rfl, fun k _ hk => absurd hk (by omega), fun k hk hle => absurd hk (by omega), Below.refl _ _⟩
  case round =>
    obtain ⟨p, q, hpq, hq, rfl, rfl, hlo, hhi, hbe⟩ := hrel
    have BW := bthen HX.out.1 hbe
    have xr := HX.out.2.below hbe HX.out.2.lt
    have L0 := later_cell (xr.cell 0 : wr.cell? ⟨w.heap.size, 0, none⟩ = some (.int .i64 f.1))
    have L1 := later_cell (xr.cell 1 : wr.cell? ⟨w.heap.size, 1, none⟩ = some (.slice A2 f.2.length c2))
    clear xr
    by_cases hlt : p < q
    · obtain ⟨m, hm⟩ : ∃ m, m = (p + q) / 2 := ⟨_, rfl⟩
      have hm1 : p ≤ m := by omega
      have hm2 : m < q := by omega
      have hml : m < fs.length := by omega
      have HM := Lib.hid (show ((p : Int) + (q : Int)) / 2 = (m : Int) by omega)
      obtain ⟨b, o, A3, c3, rfl, hbB, k1, k2, k3⟩ := (H.out.on BW).get hml
      have hln := len_le_tot fs m hml
      have M0 := later_cell k1
      have M1 := later_cell k2
      have CO := Lib.hid (order_in (w0 := wr) (f := fs[m]) (g := f) ⟨_, rfl, k3⟩ (H2.out.on BW) (by omega) hf)
      have HLO := Lib.hid (And.intro hlo hhi)
      clear k1 k2 k3 hlo hhi hm
      by_cases ho : factOrder fs[m] f < 0
      · have hd : decide (factOrder fs[m] f < 0) = true := decide_eq_true ho
        have HN := Lib.hid (lessTo_mid HA.out hml ho)
        go_wp2_with (fail)
        rw [HM.out]
        refine wp_region_later (by kernel_rfl) (by kernel_rfl) ?_
        repeat (go_big_quiet_step ((go_at_call 110; exact later_of (CO.out _))))
        refine wpQuiet_nil ?_
        rintro _ ⟨xq, rfl⟩
        go_wp2_with (fail)
        go_roundw
        case rel => exact ⟨m + 1, q, by omega, hq, by go_num, rfl, HN.out, HLO.out.2, bthen hbe xq.2⟩
        case measure => simp [intOf]; omega
      · have hd : decide (factOrder fs[m] f < 0) = false := decide_eq_false ho
        have HN := Lib.hid (moreFrom_mid HA.out hml ho)
        go_wp2_with (fail)
        rw [HM.out]
        refine wp_region_later (by kernel_rfl) (by kernel_rfl) ?_
        repeat (go_big_quiet_step ((go_at_call 110; exact later_of (CO.out _))))
        refine wpQuiet_nil ?_
        rintro _ ⟨xq, rfl⟩
        go_wp2_with (fail)
        go_roundw
        case rel => exact ⟨p, m, hm1, by omega, rfl, rfl, HLO.out.1, HN.out, bthen hbe xq.2⟩
        case measure => simp [intOf]; omega
    · obtain rfl : p = q := by omega
      by_cases hpl : p < fs.length
      · have HE := Lib.hid (show R = (factOrder fs[p] f == 0) by rw [HR.out, has_at hlo hhi hpl HA.out])
        obtain ⟨b, o, A3, c3, rfl, hbB, k1, k2, k3⟩ := (H.out.on BW).get hpl
        have hln := len_le_tot fs p hpl
        have M0 := later_cell k1
        have M1 := later_cell k2
        have CO := Lib.hid (order_in (w0 := wr) (f := fs[p]) (g := f) ⟨_, rfl, k3⟩ (H2.out.on BW) (by omega) hf)
        clear k1 k2 k3 hlo hhi
        by_cases hz : factOrder fs[p] f = 0
        · have HT := Lib.hid (show R = true by rw [HE.out, hz]; rfl)
          rw [hz] at CO
          clear hz
          go_wp2_with (fail)
          refine wp_region_later (by kernel_rfl) (by kernel_rfl) ?_
          repeat (go_big_quiet_step ((go_at_call 110; exact later_of (CO.out _))))
          refine wpQuiet_nil ?_
          rintro _ ⟨xq, rfl⟩
          go_wp2_with (fail)
          go_ret2
          rw [HT.out]
          exact ⟨⟨_, rfl⟩, bthen BW xq.2⟩
        · have hz2 : (factOrder fs[p] f == 0) = false := by simpa using hz
          have HT := Lib.hid (show R = false by rw [HE.out, hz2])
          clear hz
          go_wp2_with (fail)
          refine wp_region_later (by kernel_rfl) (by kernel_rfl) ?_
          repeat (go_big_quiet_step ((go_at_call 110; exact later_of (CO.out _))))
          refine wpQuiet_nil ?_
          rintro _ ⟨xq, rfl⟩
          go_wp2_with (fail)
          go_ret2
          rw [HT.out]
          exact ⟨⟨_, rfl⟩, bthen BW xq.2⟩
      · have HT := Lib.hid (show R = false by rw [HR.out, has_none hlo hpl])
        clear hlo hhi
        go_wp2_with (fail)
        refine wp_region_later (by kernel_rfl) (by kernel_rfl) ?_
        repeat (go_big_quiet_step (fail))
        refine wpQuiet_nil ?_
        rintro _ ⟨xq, rfl⟩
        go_wp2_with (fail)
        go_ret2
        rw [HT.out]
        exact ⟨⟨_, rfl⟩, bthen BW xq.2⟩

set_option maxHeartbeats 400000 in
set_option maxRecDepth 100000 in
theorem setHas_any (v v2 : Value) (fs : List LFact) (f : LFact) (w : World) (h : RdFacts w w.heap.size v fs) (h2 : RdFact w w.heap.size v2 f) (ha : Asc fs) (hn : fs.length ≤ 2097152) (hl : tot fs ≤ 1048576) (hf : f.2.length ≤ 1048576) :
    Calls Tryz.prog 85 #[v, v2] w fun e w' => e = .returned (.bool (decide (f ∈ fs))) ∧ Below w.heap.size w w' := by
  have H := Lib.hid h
  have H2 := Lib.hid h2
  obtain ⟨A, c, rfl, hc, _⟩ := h
  obtain ⟨u, rfl, A2, c2, rfl, hc2, _⟩ := h2
  have HB := Lib.hid (fun W (hW : Below w.heap.size w W) => binF_any (.slice A fs.length c) (.agg #[.int .i64 f.1, .slice A2 f.2.length c2]) fs f W (H.out.on hW) (H2.out.on hW) ha hn hl hf)
  generalize decide (f ∈ fs) = R at HB ⊢
  go_enter Tryz.func85, Tryz.ntmps85
  go_wp2_with (fail)
  refine (HB.out _ (below1 _ _)).mono ?_
  rintro e w2 ⟨⟨i, rfl⟩, hb2⟩
  have B2 := bthen (below1 _ _) hb2
  clear hb2
  go_wp2_with (fail)
  go_ret
  exact ⟨rfl, B2⟩

end Go.Proofs.YtebincnejcmocaaGreat
/-
  factsByOther; the program's FactsBoth and FactsLess.
-/
namespace Go.Proofs.YtebincnejcmocaaGreat
open Go.RowKit Go.Sort

theorem factsHas_mem (ys : List LFact) (f : LFact) : factsHas ys f = decide (f ∈ ys) := by
  unfold factsHas
  by_cases h : f ∈ ys
  · rw [decide_eq_true h, List.any_eq_true]
    exact ⟨f, h, by rw [order_refl]; rfl⟩
  · rw [decide_eq_false h, List.any_eq_false]
    intro g hg e
    refine h ?_
    rw [← order_eq (f := g) (g := f) (by simpa using e)]
    exact hg
/-- The facts of a list, each once, that another has, or has not. -/
def byOther (xs ys : List LFact) (b : Bool) : List LFact := xs.filter fun f => decide (f ∈ ys) == b
theorem byOther_pick (xs ys : List LFact) (b : Bool) : byOther (setOf xs) (setOf ys) b = pickL xs ys b := by
  unfold byOther pickL
  refine Asc.unique ((setOf_asc xs).filter _) (setOf_asc _) fun f => ?_
  have : decide (f ∈ setOf ys) = decide (f ∈ ys) := by
    by_cases h : f ∈ ys
    · rw [decide_eq_true h, decide_eq_true ((setOf_mem ys f).2 h)]
    · rw [decide_eq_false h, decide_eq_false (fun e => h ((setOf_mem ys f).1 e))]
  rw [List.mem_filter, setOf_mem xs f, this, setOf_mem (xs.filter fun f => factsHas ys f == b) f, List.mem_filter, factsHas_mem]
theorem byOther_yes {xs ys : List LFact} {b : Bool} {k : Nat} (h : k < xs.length) (e : decide (xs[k] ∈ ys) = b) : byOther (xs.take (k + 1)) ys b = byOther (xs.take k) ys b ++ [xs[k]] := by
  unfold byOther
  rw [take_snoc xs k h, List.filter_append]
  simp [e]
theorem byOther_no {xs ys : List LFact} {b : Bool} {k : Nat} (h : k < xs.length) (e : decide (xs[k] ∈ ys) ≠ b) : byOther (xs.take (k + 1)) ys b = byOther (xs.take k) ys b := by
  unfold byOther
  rw [take_snoc xs k h, List.filter_append]
  simp [e]
theorem byOther_length (xs ys : List LFact) (b : Bool) (k : Nat) : (byOther (xs.take k) ys b).length ≤ k := by
  unfold byOther
  refine Nat.le_trans (List.length_filter_le _ _) ?_
  simp
  omega

set_option maxHeartbeats 2000000 in
set_option maxRecDepth 100000 in
theorem factsByOther_any (v v2 : Value) (xs ys : List LFact) (b : Bool) (w : World) (h : RdFacts w w.heap.size v xs) (h2 : RdFacts w w.heap.size v2 ys) (hn : xs.length + ys.length ≤ 1048576) (ht : tot xs + tot ys ≤ 1048576) :
    Calls Tryz.prog 65 #[v, v2, .bool b] w fun e w' => ∃ A' c', e = .returned (.slice A' (pickL xs ys b).length c') ∧ OwnFacts w' w.heap.size w'.heap.size (.slice A' (pickL xs ys b).length c') (pickL xs ys b) ∧ Below w.heap.size w w' := by
  obtain ⟨i0, hi0, hz0, hz1, hz2⟩ := info_parts Tryz.infoFact
  have H := Lib.hid h
  have H2 := Lib.hid h2
  obtain ⟨A, c, rfl, hc, _⟩ := h
  obtain ⟨A2, c2, rfl, hc2, _⟩ := h2
  obtain ⟨fs, hfs⟩ : ∃ fs, fs = setOf xs := ⟨_, rfl⟩
  obtain ⟨gs, hgs⟩ : ∃ gs, gs = setOf ys := ⟨_, rfl⟩
  have HFS := Lib.hid hfs
  have HGS := Lib.hid hgs
  have HAS := Lib.hid (show Asc gs by rw [hgs]; exact setOf_asc ys)
  have HPK := Lib.hid (show byOther fs gs b = pickL xs ys b by rw [hfs, hgs]; exact byOther_pick xs ys b)
  rw [← HPK.out]
  have hfb : fs.length ≤ 1048576 ∧ tot fs ≤ 1048576 := by have := setOf_bound xs; rw [hfs]; omega
  have hgb : gs.length ≤ 1048576 ∧ tot gs ≤ 1048576 := by have := setOf_bound ys; rw [hgs]; omega
  obtain ⟨hfl, hft⟩ := hfb
  obtain ⟨hgl, hgt⟩ := hgb
  clear hfs hgs
  go_enter Tryz.func65, Tryz.ntmps65
  go_wp2_with (fail)
  refine (factSet_any _ ys w H2.out (by omega) (by omega)).mono ?_
  rw [← HGS.out]
  rintro e w1 ⟨Ag, cg, rfl, hrg, hb1⟩
  have HG := Lib.hid hrg
  clear hrg
  go_wp2_with (fail)
  refine (factSet_any _ xs w1 (H.out.on hb1) (by omega) (by omega)).mono ?_
  rw [← HFS.out]
  rintro e w2 ⟨Af, cf, rfl, hrf, hb2⟩
  have HF := Lib.hid hrf
  have HG2 := Lib.hid (HG.out.on hb2)
  have B2 := bthen hb1 hb2
  clear hrf
  go_wp2_with (fail)
  go_loopw [8, 10, 16] (fun o _ i wr => ∃ (k : Nat) (A' : Option Addr) (c' : Nat) (av : List Value), k ≤ fs.length ∧ i = .int .i64 k ∧ o = .slice A' (byOther (fs.take k) gs b).length c' ∧ ColRel w2 wr (byOther (fs.take k) gs b) A' c' av) (fun _ _ i _ => fs.length - (intOf i).toNat)
  case atStart => exact ⟨0, _, 0, [], Nat.zero_le _, rfl, by simp [byOther], ColRel.nil w2⟩
  case round =>
    obtain ⟨k, A', c', av, hk, rfl, rfl, hr⟩ := hrel
    by_cases hlt : k < fs.length
    · obtain ⟨bb, o, A3, c3, rfl, hbB, k1, k2, k3⟩ := (HF.out.on hr.below).get hlt
      have hln := len_le_tot fs k hlt
      have hgl2 := byOther_length fs gs b k
      have K3 := Lib.hid (show RdFact wr wr.heap.size (.agg #[.int .i64 fs[k].1, .slice A3 fs[k].2.length c3]) fs[k] from ⟨_, rfl, k3⟩)
      have HSH := Lib.hid (fun W (hW : Below wr.heap.size wr W) => setHas_any (.slice Ag gs.length cg) (.agg #[.int .i64 fs[k].1, .slice A3 fs[k].2.length c3]) gs fs[k] W ((HG2.out.on hr.below).on hW) (K3.out.on hW) HAS.out (by omega) hgt (by omega))
      have HR := Lib.hid hr
      clear k3 hr
      go_wp2_with (fail)
      obtain ⟨w3, hw3⟩ : ∃ w3, w3 = wr.alloc (Obj.cells #[Value.int IntKind.i64 fs[k].1, Value.slice A3 fs[k].2.length c3] 52) := ⟨_, rfl⟩
      have B3 : Below wr.heap.size wr w3 := by rw [hw3]; exact below1 _ _
      have x3 : Blk w3 wr.heap.size 52 #[.int .i64 fs[k].1, .slice A3 fs[k].2.length c3] := by rw [hw3]; exact Blk.new _ _ _
      rw [← hw3]
      clear hw3 k1 k2
      refine (HSH.out w3 B3).mono ?_
      rintro e w4 ⟨rfl, hb4⟩
      have B4 := bthen B3 hb4
      have x4 := x3.below hb4 x3.lt
      have q0 : w4.cell? ⟨wr.heap.size, 0, none⟩ = some (.int .i64 fs[k].1) := x4.cell 0
      have q1 : w4.cell? ⟨wr.heap.size, 1, none⟩ = some (.slice A3 fs[k].2.length c3) := x4.cell 1
      have HP := Lib.hid (HR.out.on B4)
      have K4 := Lib.hid (K3.out.on B4)
      clear x3 x4
      by_cases he : decide (fs[k] ∈ gs) = b
      · have HS := Lib.hid (byOther_yes hlt he)
        have hq : (b == b) = true := by simp
        rw [he]
        clear he
        go_wp2_with (fail)
        refine (copyFact_any _ fs[k] _ K4.out (by omega)).mono ?_
        rintro e w5 ⟨A4, c4, rfl, ho4, hb5⟩
        have hz5 := hb5.size
        clear q0 q1
        go_wp2_with (at_builtin; refine wpList_append_lies _ rfl (.tmp 25) (.tmp 28) 28 rfl w2.heap.size 52 i0 (.agg #[.int .i64 0, .slice none 0 0]) 2 32 Tryz.underlying28 hi0 hz0 hz1 hz2 rfl (by decide) (.slice A' (byOther (fs.take k) gs b).length c') (byOther (fs.take k) gs b).length (flat (byOther (fs.take k) gs b) av) rfl ?c1 ⟨w5.heap.size, 0, none⟩ 1 1 [.int .i64 fs[k].1, .slice A4 fs[k].2.length c4] rfl rfl (news2 _ _ _ _) ?c2 (by omega) (by unfold maxLen; omega) (by omega) ?c3 _ rfl ?_)
        case c1 => exact (ownsRow_below HP.out.own.row HP.out.own.lt hb5 (Nat.le_refl _)).alloc _
        case c2 => intro u hu; simp at hu; rcases hu with rfl | rfl <;> rfl
        case c3 => have := HP.out.below.size; simp; omega
        intro g cap w6 hown hg _ _
        obtain ⟨av', hcol, hlen⟩ := HP.out.push HS.out hb5 ho4 hg hown
        rw [hlen]
        have HC := Lib.hid hcol
        clear hcol hlen hown hg
        go_wp2_with (fail)
        go_roundw
        case rel => exact ⟨k + 1, _, _, _, by omega, by go_num, rfl, HC.out⟩
        case measure => simp [intOf]; omega
      · have heb : (decide (fs[k] ∈ gs) == b) = false := by simpa using he
        have HS := Lib.hid (byOther_no hlt he)
        generalize decide (fs[k] ∈ gs) = D at heb
        clear he
        go_wp2_with (fail)
        go_roundw
        case rel => exact ⟨k + 1, _, _, _, by omega, by go_num, by rw [HS.out], by rw [HS.out]; exact HP.out⟩
        case measure => simp [intOf]; omega
    · have hkn : k = fs.length := by omega
      have HO := Lib.hid (show OwnFacts wr w2.heap.size wr.heap.size (.slice A' (byOther fs gs b).length c') (byOther fs gs b) ∧ byOther (fs.take k) gs b = byOther fs gs b by
        have e : fs.take k = fs := by rw [hkn, List.take_length]
        have := hr.own.own
        rw [e] at this ⊢
        exact ⟨this, rfl⟩)
      have hbe := hr.below
      have hs2 := B2.size
      rw [HO.out.2]
      clear hkn hr
      go_wp2_with (fail)
      go_ret
      exact ⟨_, _, rfl, HO.out.1.mono hs2 (Nat.le_refl _), bthen B2 hbe⟩

theorem implFactsLess_any (v v2 : Value) (xs ys : List LFact) (w : World) (h : RdFacts w w.heap.size v xs) (h2 : RdFacts w w.heap.size v2 ys) (hn : xs.length + ys.length ≤ 1048576) (ht : tot xs + tot ys ≤ 1048576) :
    Calls Tryz.prog 39 #[v, v2] w fun e w' => ∃ A' c', e = .returned (.slice A' (pickL xs ys false).length c') ∧ OwnFacts w' w.heap.size w'.heap.size (.slice A' (pickL xs ys false).length c') (pickL xs ys false) ∧ Below w.heap.size w w' := by
  have H := Lib.hid h
  have H2 := Lib.hid h2
  obtain ⟨A, c, rfl, hc, _⟩ := h
  obtain ⟨A2, c2, rfl, hc2, _⟩ := h2
  go_enter Tryz.func39, Tryz.ntmps39
  go_wp2_with (fail)
  refine (factsByOther_any _ _ xs ys false _ H.out H2.out hn ht).mono ?_
  rintro e w1 ⟨A', c', rfl, ho, hb⟩
  have HO := Lib.hid (And.intro ho hb)
  clear ho hb
  go_wp2_with (fail)
  go_ret
  exact ⟨A', c', rfl, HO.out.1, HO.out.2⟩

end Go.Proofs.YtebincnejcmocaaGreat
/-
  The specification's l7Uses, l7Fresh, FreshSolutions.
-/
namespace Go.Proofs.YtebincnejcmocaaGreat
open Go.RowKit

theorem usesF_snoc {fr : List LFact} {ls : List LLit} {b : List Int} {k : Nat} (h : k < ls.length) : usesF fr (ls.take (k + 1)) b = (usesF fr (ls.take k) b || (decide (ls[k].1 = 0) && (headOk ls[k].2 b && factsHas fr (headOf ls[k].2 b)))) := by
  unfold usesF
  rw [take_snoc ls k h, List.any_append]
  simp
theorem usesF_at {fr : List LFact} {ls : List LLit} {b : List Int} {k : Nat} (h : k < ls.length) (e : (decide (ls[k].1 = 0) && (headOk ls[k].2 b && factsHas fr (headOf ls[k].2 b))) = true) : usesF fr ls b = true := by
  unfold usesF
  rw [List.any_eq_true]
  exact ⟨ls[k], List.getElem_mem h, e⟩

set_option maxHeartbeats 2000000 in
set_option maxRecDepth 100000 in
theorem l7Uses_any (v v2 v3 : Value) (fr : List LFact) (ls : List LLit) (bs : List Int) (w : World) (h : RdFacts w w.heap.size v fr) (h2 : RdLits w w.heap.size v2 ls) (h3 : RdInts w w.heap.size v3 bs) (hn : fr.length ≤ 1048576) (ht : tot fr ≤ 1048576) (hl : ls.length + totL ls ≤ 1048576) (hb : bs.length ≤ 1048576) :
    Calls Tryz.prog 63 #[v, v2, v3] w fun e w' => e = .returned (.bool (usesF fr ls bs)) ∧ Below w.heap.size w w' := by
  have H := Lib.hid h
  have H2 := Lib.hid h2
  have H3 := Lib.hid h3
  obtain ⟨A, c, rfl, hc, _⟩ := h
  obtain ⟨A2, c2, rfl, hc2, _⟩ := h2
  obtain ⟨A3, c3, rfl, hc3, _⟩ := h3
  obtain ⟨R, hR⟩ : ∃ R, R = usesF fr ls bs := ⟨_, rfl⟩
  have HR := Lib.hid hR
  rw [← hR]
  clear hR
  go_enter Tryz.func63, Tryz.ntmps63
  go_wp2_with (fail)
  go_loopw [7] (fun i wr => ∃ k : Nat, k ≤ ls.length ∧ i = .int .i64 k ∧ usesF fr (ls.take k) bs = false ∧ Below w.heap.size w wr) (fun i _ => ls.length - (intOf i).toNat)
  case atStart => exact ⟨0, Nat.zero_le _, rfl, rfl, Below.refl _ _⟩
  case round =>
    obtain ⟨k, hk, rfl, hs, hbe⟩ := hrel
    have HS := Lib.hid hs
    have HBE := Lib.hid hbe
    clear hs
    by_cases hlt : k < ls.length
    · obtain ⟨b, o, u0, u1, u2, rfl, hbB, k0, k1, k2, rfl, rfl, p3⟩ := (H2.out.on hbe).get hlt
      have HA := Lib.hid p3
      obtain ⟨A4, c4, rfl, hc4, _⟩ := p3
      have hle := len_le_totL ls k hlt
      have HN := Lib.hid (usesF_snoc (fr := fr) (b := bs) hlt)
      have HAT := Lib.hid (usesF_at (fr := fr) (b := bs) hlt)
      clear hbe hbB
      by_cases he : ls[k].1 = 0
      · have CH := Lib.hid (fun W (hW : Below wr.heap.size wr W) => specHeadOf_any (.agg #[.int .i64 ls[k].2.1, .slice A4 ls[k].2.2.length c4]) (.slice A3 bs.length c3) ls[k].2 bs W ⟨_, rfl, HA.out.on hW⟩ (H3.out.on (bthen HBE.out hW)) (by omega) hb)
        obtain ⟨hd, hhd⟩ : ∃ hd, hd = headOf ls[k].2 bs := ⟨_, rfl⟩
        obtain ⟨ok, hok⟩ : ∃ ok, ok = headOk ls[k].2 bs := ⟨_, rfl⟩
        have hdl : hd.2.length ≤ 1048576 := by rw [hhd]; unfold headOf; split <;> simp <;> omega
        rw [← hhd, ← hok] at CH HN HAT
        have he0 : ((ls[k].1 : Int) == 0) = true := by simp [he]
        have HE := Lib.hid he
        clear hhd hok
        cases ok
        · have HS2 := Lib.hid (show usesF fr (ls.take (k + 1)) bs = false from by rw [HN.out, HS.out]; simp)
          clear he
          go_wp2_with (go_at_call 82; refine (CH.out _ (Below.refl _ _)).mono ?_; rintro e w1 ⟨A5, c5, rfl, o5, b5⟩; have H5 := Lib.hid (And.intro o5 b5); clear o5 b5)
          go_roundw
          case rel => exact ⟨k + 1, by omega, by go_num, HS2.out, bthen (bthen HBE.out H5.out.2) (below1 _ _)⟩
          case measure => simp [intOf]; omega
        · obtain ⟨fh, hfh⟩ : ∃ fh, fh = factsHas fr hd := ⟨_, rfl⟩
          have HFH := Lib.hid hfh
          rw [← hfh] at HN HAT
          clear he
          have CFH := Lib.hid (fun W (hW : Below wr.heap.size wr W) (A5 : Option Addr) (c5 : Nat) (hq : RdInts W W.heap.size (.slice A5 hd.2.length c5) hd.2) => specFactsHas_any (.slice A fr.length c) (.agg #[.int .i64 hd.1, .slice A5 hd.2.length c5]) fr hd W (H.out.on (bthen HBE.out hW)) ⟨_, rfl, hq⟩ hn ht hdl)
          rw [← hfh] at CFH
          clear hfh
          cases fh
          · have HS2 := Lib.hid (show usesF fr (ls.take (k + 1)) bs = false from by rw [HN.out, HS.out]; simp)
            go_wp2_with (first
              | (go_at_call 82; refine (CH.out _ (Below.refl _ _)).mono ?_; rintro e w1 ⟨A5, c5, rfl, o5, b5⟩; have H5 := Lib.hid (And.intro (o5.rd.on (below1 w1 (.cells #[.int .i64 hd.1, .slice A5 hd.2.length c5] 52))) (bthen b5 (below1 w1 (.cells #[.int .i64 hd.1, .slice A5 hd.2.length c5] 52)))); clear o5 b5)
              | (go_at_call 83; refine (CFH.out _ H5.out.2 _ _ H5.out.1).mono ?_; rintro e w2 ⟨rfl, b6⟩; have H6 := Lib.hid b6; clear b6))
            go_roundw
            case rel => exact ⟨k + 1, by omega, by go_num, HS2.out, bthen (bthen HBE.out H5.out.2) H6.out⟩
            case measure => simp [intOf]; omega
          · have HT := Lib.hid (show true = R by rw [HR.out, HAT.out (by simp [HE.out])])
            go_wp2_with (first
              | (go_at_call 82; refine (CH.out _ (Below.refl _ _)).mono ?_; rintro e w1 ⟨A5, c5, rfl, o5, b5⟩; have H5 := Lib.hid (And.intro (o5.rd.on (below1 w1 (.cells #[.int .i64 hd.1, .slice A5 hd.2.length c5] 52))) (bthen b5 (below1 w1 (.cells #[.int .i64 hd.1, .slice A5 hd.2.length c5] 52)))); clear o5 b5)
              | (go_at_call 83; refine (CFH.out _ H5.out.2 _ _ H5.out.1).mono ?_; rintro e w2 ⟨rfl, b6⟩; have H6 := Lib.hid b6; clear b6))
            go_ret
            exact ⟨ret_bool HT.out, bthen (bthen HBE.out H5.out.2) H6.out⟩
      · have he0 : ((ls[k].1 : Int) == 0) = false := by rw [beq_eq_false_iff_ne]; exact he
        have HS2 := Lib.hid (show usesF fr (ls.take (k + 1)) bs = false from by rw [HN.out, HS.out]; simp [he])
        clear he
        go_wp2_with (fail)
        go_roundw
        case rel => exact ⟨k + 1, by omega, by go_num, HS2.out, HBE.out⟩
        case measure => simp [intOf]; omega
    · have hkn : k = ls.length := by omega
      have HE := Lib.hid (show R = false by rw [HR.out]; have := HS.out; rw [hkn, List.take_length] at this; exact this)
      clear hkn
      go_wp2_with (fail)
      go_ret
      exact ⟨ret_bool HE.out.symm, HBE.out⟩

theorem filter_yes {α : Type} {f : α → Bool} {l : List α} {k : Nat} (h : k < l.length) (e : f l[k] = true) : (l.take (k + 1)).filter f = (l.take k).filter f ++ [l[k]] := by
  rw [take_snoc l k h, List.filter_append]
  simp [e]
theorem filter_no {α : Type} {f : α → Bool} {l : List α} {k : Nat} (h : k < l.length) (e : f l[k] = false) : (l.take (k + 1)).filter f = (l.take k).filter f := by
  rw [take_snoc l k h, List.filter_append]
  simp [e]

set_option maxHeartbeats 4000000 in
set_option maxRecDepth 100000 in
theorem l7Fresh_any (v v2 v3 : Value) (fs fr : List LFact) (ls : List LLit) (gs : List LFact) (S : List (List Int)) (hgs : gs = setOf (fs ++ fr)) (hS : S = solsOf gs ls) (w : World) (h : RdFacts w w.heap.size v fs) (h2 : RdFacts w w.heap.size v2 fr) (h3 : RdLits w w.heap.size v3 ls)
    (hn : fs.length + fr.length ≤ 1048576) (ht : tot fs + tot fr ≤ 1048576) (hl : ls.length + totL ls ≤ 1048576) (hc : ∀ f ∈ gs, f.2.all constOk = true) (hT : ∀ l ∈ ls, l.2.2.all termOk = true) (hok : ∀ b ∈ S, bindOk b = true) (hSl : S.length ≤ 65536) :
    Calls Tryz.prog 37 #[v, v2, v3] w fun e w' => ∃ A c, e = .returned (.slice A (S.filter (usesF fr ls)).length c) ∧ WkRows w' w.heap.size w'.heap.size (.slice A (S.filter (usesF fr ls)).length c) (S.filter (usesF fr ls)) ∧ Below w.heap.size w w' := by
  obtain ⟨i0, hi0, hz0, hz1, hz2⟩ := info_parts Tryz.infoIntS
  have H := Lib.hid h
  have H2 := Lib.hid h2
  have H3 := Lib.hid h3
  obtain ⟨A, c, rfl, hc1, _⟩ := h
  obtain ⟨A2, c2, rfl, hc2, _⟩ := h2
  obtain ⟨A3, c3, rfl, hc3, _⟩ := h3
  have CE := Lib.hid (specFactsEither_any (.slice A fs.length c) (.slice A2 fr.length c2) fs fr w H.out H2.out hn ht)
  have hbd := setOf_bound (fs ++ fr)
  have hap : (fs ++ fr).length = fs.length + fr.length ∧ tot (fs ++ fr) = tot fs + tot fr := ⟨List.length_append, tot_append fs fr⟩
  have hnd := asc_nodup (setOf_asc (fs ++ fr))
  rw [← hgs] at CE hbd hnd
  have HP := Lib.hid (And.intro hS (And.intro hc (And.intro hnd hT)))
  have HOK := Lib.hid hok
  clear hgs hS hc hT hok hnd
  go_enter Tryz.func37, Tryz.ntmps37
  go_upto_region 2 with (first
    | (go_at_call 25; refine CE.out.mono ?_; rintro e w3 ⟨A4, c4, rfl, o4, b4⟩
       have HS := Lib.hid (l3Solutions_any (.slice A4 gs.length c4) (.slice A3 ls.length c3) gs ls S HP.out.1 w3 o4.rd (H3.out.on b4) (by omega) (by omega) hl HP.out.2.1 HP.out.2.2.1 HP.out.2.2.2)
       have HB3 := Lib.hid b4
       clear o4 b4)
    | (go_at_call 24; refine HS.out.mono ?_; rintro e w5 ⟨A5, c5, rfl, o5, b5⟩; have H5 := Lib.hid (And.intro (o5.mono HB3.out.size (Nat.le_refl _)) (bthen HB3.out b5)); clear o5 b5))
  have C0 := Lib.hid (ColS.empty (lo := w.heap.size) (Below.refl w5.heap.size w5))
  go_wp2_with (fail)
  go_loopw [8, 9] (fun o i wr => ∃ (k : Nat) (A' : Option Addr) (c' : Nat) (av : List Value), k ≤ S.length ∧ i = .int .i64 k ∧ o = .slice A' ((S.take k).filter (usesF fr ls)).length c' ∧ ColS w.heap.size w5 wr ((S.take k).filter (usesF fr ls)) A' c' av) (fun _ i _ => S.length - (intOf i).toNat)
  case atStart => exact ⟨0, _, 0, [], Nat.zero_le _, rfl, rfl, C0.out⟩
  case round =>
    obtain ⟨k, A', c', av, hk, rfl, rfl, hcol⟩ := hrel
    have HC := Lib.hid hcol
    have hbe := hcol.below
    clear hcol
    by_cases hlt : k < S.length
    · obtain ⟨g, A6, c6, rfl, hg, q0, o6⟩ := H5.out.1.get hlt
      have q0 := (hbe.cell (p := ⟨g, k, none⟩) hg).trans q0
      have hki : (k : Int) < (S.length : Int) := by omega
      have hbl : S[k].length ≤ 1048576 := by rw [bindOk_len (HOK.out _ (List.getElem_mem hlt))]; decide
      have HO6 := Lib.hid ((o6.below hbe (Nat.le_refl _)).mono (Nat.le_refl _) hbe.size)
      have CU := Lib.hid (l7Uses_any (.slice A2 fr.length c2) (.slice A3 ls.length c3) (.slice A6 S[k].length c6) fr ls S[k] wr (H2.out.on (bthen H5.out.2 hbe)) (H3.out.on (bthen H5.out.2 hbe)) HO6.out.rd (by omega) (by omega) hl hbl)
      have HY := Lib.hid (filter_yes (f := usesF fr ls) hlt)
      have HN := Lib.hid (filter_no (f := usesF fr ls) hlt)
      obtain ⟨u, hu⟩ : ∃ u, u = usesF fr ls S[k] := ⟨_, rfl⟩
      rw [← hu] at CU HY HN
      have h5s := H5.out.2.size
      clear o6 hu hg
      obtain ⟨x, hx⟩ : ∃ x, x = S[k] := ⟨_, rfl⟩
      rw [← hx] at CU HY HO6 q0 hbl
      clear hx
      obtain ⟨Q, hQ⟩ : ∃ Q, Q = (S.take k).filter (usesF fr ls) := ⟨_, rfl⟩
      have hQl : Q.length ≤ 65536 := by rw [hQ]; have := List.length_filter_le (usesF fr ls) (S.take k); rw [List.length_take] at this; omega
      rw [← hQ] at HC HY HN ⊢
      clear hQ
      cases u
      · go_wp2_with (go_at_call 63; refine CU.out.mono ?_; rintro e w6 ⟨rfl, b6⟩; have H6 := Lib.hid b6; clear b6)
        go_roundw
        case rel => exact ⟨k + 1, _, _, av, by omega, by go_num, by rw [HN.out (by first | trivial | rfl)], by rw [HN.out (by first | trivial | rfl)]; exact HC.out.on H6.out⟩
        case measure => simp [intOf]; omega
      · go_upto_region 7 with (go_at_call 63; refine CU.out.mono ?_; rintro e w6 ⟨rfl, b6⟩; have H6 := Lib.hid b6; clear b6)
        have q0 := (H6.out.cell (World.block_lt_of_cell? _ _ q0)).trans q0
        have HC6 := Lib.hid (HC.out.on H6.out)
        have hrow := HC6.out.row
        go_wp2_with (at_builtin; go_loud (refine wpList_append_lies _ rfl (.tmp 29) (.tmp 34) 26 rfl w5.heap.size 42 i0 (.slice none 0 0) 1 24 Tryz.underlying26 hi0 hz0 hz1 hz2 rfl (by decide) (.slice A' Q.length c') Q.length av rfl ?c1 ⟨w6.heap.size, 0, none⟩ 1 1 [.slice A6 x.length c6] rfl rfl (news1 _ _ _) ?c2 (by omega) (by unfold maxLen; omega) (by omega) ?c3 _ rfl ?_))
        case c1 => exact hrow.alloc _
        case c2 => intro u hu; simp at hu; subst hu; rfl
        case c3 => have := HC6.out.below.size; simp; omega
        intro g2 cap w7 hown hg2 _ _
        have hpush := HC6.out.push (HY.out (by first | trivial | rfl)) (Below.refl _ _) ((HO6.out.below H6.out (Nat.le_refl _)).mono (Nat.le_refl _) H6.out.size) hg2 hown
        have HPU := Lib.hid hpush.1
        rw [hpush.2]
        clear hpush hown hg2 hrow
        go_wp2_with (fail)
        go_roundw
        case rel => exact ⟨k + 1, _, _, _, by omega, by go_num, rfl, HPU.out⟩
        case measure => simp [intOf]; omega
    · have hkn : k = S.length := by omega
      have HQ := Lib.hid (show (S.take k).filter (usesF fr ls) = S.filter (usesF fr ls) by rw [hkn, List.take_length])
      rw [HQ.out] at HC ⊢
      have HR := Lib.hid (HC.out.rows H5.out.2.size)
      have HBX := Lib.hid (bthen H5.out.2 hbe)
      clear hkn
      go_wp2_with (fail)
      go_ret
      exact ⟨_, _, rfl, HR.out, HBX.out⟩

theorem freshL_no {fs fr : List LFact} {ls : List LLit} (h : (bodySafe ls && (constsL fs && constsL fr)) = false) : freshL fs fr ls = [] := by
  unfold freshL
  rw [if_neg (by rw [h]; decide)]

set_option maxHeartbeats 2000000 in
set_option maxRecDepth 100000 in
theorem specFreshSolutions_any (v v2 v3 : Value) (fs fr : List LFact) (ls : List LLit) (R : List (List Int)) (hR : R = freshL fs fr ls) (w : World) (h : RdFacts w w.heap.size v fs) (h2 : RdFacts w w.heap.size v2 fr) (h3 : RdLits w w.heap.size v3 ls) (hn : fs.length + fr.length ≤ 1048576) (ht : tot fs + tot fr ≤ 1048576) (hl : ls.length + totL ls ≤ 1048576) :
    Calls Tryz.prog 18 #[v, v2, v3] w fun e w' => ∃ A c, e = .returned (.slice A R.length c) ∧ WkRows w' w.heap.size w'.heap.size (.slice A R.length c) R ∧ Below w.heap.size w w' := by
  have H := Lib.hid h
  have H2 := Lib.hid h2
  have H3 := Lib.hid h3
  have HR := Lib.hid hR
  obtain ⟨A, c, rfl, hc, _⟩ := h
  obtain ⟨A2, c2, rfl, hc2, _⟩ := h2
  obtain ⟨A3, c3, rfl, hc3, _⟩ := h3
  clear hR
  obtain ⟨sf, hsf⟩ : ∃ sf, sf = bodySafe ls := ⟨_, rfl⟩
  obtain ⟨cf, hcf⟩ : ∃ cf, cf = constsL fs := ⟨_, rfl⟩
  obtain ⟨cr, hcr⟩ : ∃ cr, cr = constsL fr := ⟨_, rfl⟩
  have CB := Lib.hid (specBodySafe_any (.slice A3 ls.length c3) ls w H3.out hl)
  rw [← hsf] at CB
  have CH := Lib.hid (fun W (hW : Below w.heap.size w W) => l3Consts_is hcf.symm (.slice A fs.length c) w.heap.size W (H.out.below hW (Nat.le_refl _)) (by omega) (by omega))
  have CH2 := Lib.hid (fun W (hW : Below w.heap.size w W) => l3Consts_is hcr.symm (.slice A2 fr.length c2) w.heap.size W (H2.out.below hW (Nat.le_refl _)) (by omega) (by omega))
  have HSF := Lib.hid hsf
  have HCF := Lib.hid hcf
  have HCR := Lib.hid hcr
  clear hsf hcf hcr
  cases sf
  · have HE := Lib.hid (show R = [] by rw [HR.out]; exact freshL_no (by rw [← HSF.out]; rfl))
    go_enter Tryz.func18, Tryz.ntmps18
    go_wp2_with (go_at_call 22; refine CB.out.mono ?_; rintro e w1 ⟨rfl, hb1⟩; have HB1 := Lib.hid hb1; clear hb1)
    go_ret
    rw [HE.out]
    exact ⟨none, 0, rfl, WkRows.none _ _ _, HB1.out⟩
  · cases cf
    · have HE := Lib.hid (show R = [] by rw [HR.out]; exact freshL_no (by rw [← HSF.out, ← HCF.out]; rfl))
      go_enter Tryz.func18, Tryz.ntmps18
      go_wp2_with (first
        | (go_at_call 22; refine CB.out.mono ?_; rintro e w1 ⟨rfl, hb1⟩; have HB1 := Lib.hid hb1; clear hb1)
        | (go_at_call 23; refine (CH.out _ HB1.out).mono ?_; rintro e w2 ⟨rfl, rfl⟩))
      go_ret
      rw [HE.out]
      exact ⟨none, 0, rfl, WkRows.none _ _ _, HB1.out⟩
    · cases cr
      · have HE := Lib.hid (show R = [] by rw [HR.out]; exact freshL_no (by rw [← HCF.out, ← HCR.out]; simp))
        go_enter Tryz.func18, Tryz.ntmps18
        go_wp2_with (first
          | (go_at_call 22; refine CB.out.mono ?_; rintro e w1 ⟨rfl, hb1⟩; have HB1 := Lib.hid hb1; clear hb1)
          | (go_at_call 23; first
             | (refine (CH.out _ HB1.out).mono ?_; rintro e w2 ⟨rfl, rfl⟩; clear CH)
             | (refine (CH2.out _ HB1.out).mono ?_; rintro e w2 ⟨rfl, rfl⟩)))
        go_ret
        rw [HE.out]
        exact ⟨none, 0, rfl, WkRows.none _ _ _, HB1.out⟩
      · have hsz := freshL_all (fs := fs) (fr := fr) (ls := ls) HSF.out.symm HCF.out.symm HCR.out.symm
        have CF := Lib.hid (fun W (hW : Below w.heap.size w W) => l7Fresh_any (.slice A fs.length c) (.slice A2 fr.length c2) (.slice A3 ls.length c3) fs fr ls (setOf (fs ++ fr)) (solsOf (setOf (fs ++ fr)) ls) rfl rfl W (H.out.on hW) (H2.out.on hW) (H3.out.on hW) hn ht hl
          (fun f hf => consts_append HCF.out.symm HCR.out.symm f ((setOf_mem _ f).1 hf)) (SafeB.of HSF.out.symm).terms hsz.2.ok (binds_len hsz.2.1 hsz.2.ok))
        rw [← freshL_yes HSF.out.symm HCF.out.symm HCR.out.symm, ← HR.out] at CF
        clear hsz
        go_enter Tryz.func18, Tryz.ntmps18
        go_wp2_with (first
          | (go_at_call 22; refine CB.out.mono ?_; rintro e w1 ⟨rfl, hb1⟩; have HB1 := Lib.hid hb1; clear hb1)
          | (go_at_call 23; first
             | (refine (CH.out _ HB1.out).mono ?_; rintro e w2 ⟨rfl, rfl⟩; clear CH)
             | (refine (CH2.out _ HB1.out).mono ?_; rintro e w2 ⟨rfl, rfl⟩))
          | (go_at_call 37; refine (CF.out _ HB1.out).mono ?_; rintro e w5 ⟨A5, c5, rfl, o5, b5⟩; have H5 := Lib.hid (And.intro o5 b5); clear o5 b5))
        go_ret
        exact ⟨_, _, rfl, H5.out.1.mono HB1.out.size (Nat.le_refl _), bthen HB1.out H5.out.2⟩

end Go.Proofs.YtebincnejcmocaaGreat
/-
  The program's FreshSolutions.
-/
namespace Go.Proofs.YtebincnejcmocaaGreat
open Go.RowKit

theorem upB_of {S S' : List (List Int)} (hnd : S.Nodup) (hok : ∀ b ∈ S, bindOk b = true) (hp : S'.Perm S) (hu : UpW S') : UpB S' := by
  have hn : S'.Nodup := hp.nodup_iff.2 hnd
  have hok' : ∀ b ∈ S', bindOk b = true := fun b hb => hok b (hp.mem_iff.1 hb)
  refine List.Pairwise.imp_of_mem (fun {x y} hx hy hh => ?_) (hu.and hn)
  refine cmp_enc (hok' x hx) (hok' y hy) ?_
  rcases Nat.lt_or_ge (encB x) (encB y) with h1 | h1
  · exact h1
  · exact absurd (encB_inj (hok' x hx) (hok' y hy) (Nat.le_antisymm hh.1 h1)) hh.2
theorem AtA.one (w : World) (a b d : Value) : AtA (w.alloc (.cells #[a, b, d] 67)) w.heap.size 1 [(a, b, d)] :=
  ⟨#[a, b, d], Blk.new _ _ _, Nat.le_refl _, by decide, rfl, rfl⟩
theorem agesL_len (fs fr : List LFact) (n : Nat) : (agesL fs fr n).length = n := by simp [agesL]
theorem RdAges.same {w : World} {B n : Nat} {u : AV} {fs fr : List LFact} (h1 : RdFacts w B u.1 (fs ++ fr)) (h2 : RdFacts w B u.2.1 (pickL fs fr false)) (h3 : RdFacts w B u.2.2 fr) : RdAges w B (List.replicate n u) (agesL fs fr n) :=
  ⟨by simp [agesL], fun k hk hk2 => by simp only [agesL, List.getElem_replicate]; exact ⟨h1, h2, h3⟩⟩
theorem agesL_ok {fs fr : List LFact} {n : Nat} (hc : constsL fs = true) (hc2 : constsL fr = true) (hn : fs.length + fr.length ≤ 1048576) (ht : tot fs + tot fr ≤ 1048576) : ∀ a ∈ agesL fs fr n, AgeOk a := fun a ha => by
  have e := (List.mem_replicate.1 ha).2
  subst e
  have hb := pickL_bound fs fr false
  exact ⟨consts_append hc hc2, by simp; omega, by rw [tot_append]; exact ht, fun f hf => consts_of hc f ((pickF_in fs fr f).1 hf).1, by show (pickL fs fr false).length ≤ _; omega, by show Go.Proofs.YtebincnejcmocaaGreat.tot (pickL fs fr false) ≤ _; omega, consts_of hc2, by show fr.length ≤ _; omega, by show Go.Proofs.YtebincnejcmocaaGreat.tot fr ≤ _; omega⟩
theorem agesL_new {fs fr : List LFact} {n : Nat} : ∀ j f, f ∈ (ageD (agesL fs fr n) j).2.1 → f ∉ (ageD (agesL fs fr n) j).2.2 := fun j f hf => by
  by_cases h : j < n
  · rw [agesL_at h] at hf ⊢
    exact ((pickF_in fs fr f).1 hf).2
  · have e : ageD (agesL fs fr n) j = ([], [], []) := by simp [ageD, agesL, List.getD_eq_getElem?_getD, List.getElem?_eq_none (show (List.replicate n (fs ++ fr, pickL fs fr false, fr)).length ≤ j by simp; omega)]
    rw [e] at hf
    cases hf

set_option maxHeartbeats 4000000 in
set_option maxRecDepth 100000 in
theorem implFreshSolutions_any (v v2 v3 : Value) (fs fr : List LFact) (ls : List LLit) (R : List (List Int)) (hR : R = freshL fs fr ls) (w : World) (h : RdFacts w w.heap.size v fs) (h2 : RdFacts w w.heap.size v2 fr) (h3 : RdLits w w.heap.size v3 ls) (hn : fs.length + fr.length ≤ 1048576) (ht : tot fs + tot fr ≤ 1048576) (hl : ls.length + totL ls ≤ 1048576) :
    Calls Tryz.prog 19 #[v, v2, v3] w fun e w' => ∃ A c, e = .returned (.slice A R.length c) ∧ OwnRows w' w.heap.size w'.heap.size (.slice A R.length c) R ∧ Below w.heap.size w w' := by
  have H := Lib.hid h
  have H2 := Lib.hid h2
  have H3 := Lib.hid h3
  have HR := Lib.hid hR
  obtain ⟨A, c, rfl, hc, _⟩ := h
  obtain ⟨A2, c2, rfl, hc2, _⟩ := h2
  obtain ⟨A3, c3, rfl, hc3, _⟩ := h3
  clear hR
  obtain ⟨sf, hsf⟩ : ∃ sf, sf = bodySafe ls := ⟨_, rfl⟩
  obtain ⟨cf, hcf⟩ : ∃ cf, cf = constsL fs := ⟨_, rfl⟩
  obtain ⟨cr, hcr⟩ : ∃ cr, cr = constsL fr := ⟨_, rfl⟩
  have CB := Lib.hid (implBodySafe_any (.slice A3 ls.length c3) ls w H3.out hl)
  rw [← hsf] at CB
  have CH := Lib.hid (fun W (hW : Below w.heap.size w W) => haveConstants_any (.slice A fs.length c) fs cf hcf.symm W (H.out.on hW) (by omega) (by omega))
  have CH2 := Lib.hid (fun W (hW : Below w.heap.size w W) => haveConstants_any (.slice A2 fr.length c2) fr cr hcr.symm W (H2.out.on hW) (by omega) (by omega))
  have HSF := Lib.hid hsf
  have HCF := Lib.hid hcf
  have HCR := Lib.hid hcr
  clear hsf hcf hcr
  cases sf
  · have HE := Lib.hid (show R = [] by rw [HR.out]; exact freshL_no (by rw [← HSF.out]; rfl))
    go_enter Tryz.func19, Tryz.ntmps19
    go_wp2_with (go_at_call 28; refine CB.out.mono ?_; rintro e w1 ⟨rfl, hb1⟩; have HB1 := Lib.hid hb1; clear hb1)
    go_ret
    rw [HE.out]
    exact ⟨none, 0, rfl, OwnRows.nil _ _ _, HB1.out⟩
  · cases cf
    · have HE := Lib.hid (show R = [] by rw [HR.out]; exact freshL_no (by rw [← HSF.out, ← HCF.out]; rfl))
      go_enter Tryz.func19, Tryz.ntmps19
      go_wp2_with (first
        | (go_at_call 28; refine CB.out.mono ?_; rintro e w1 ⟨rfl, hb1⟩; have HB1 := Lib.hid hb1; clear hb1)
        | (go_at_call 29; refine (CH.out _ HB1.out).mono ?_; rintro e w2 ⟨rfl, hb2⟩; have HB2 := Lib.hid (bthen HB1.out hb2); clear hb2))
      go_ret
      rw [HE.out]
      exact ⟨none, 0, rfl, OwnRows.nil _ _ _, HB2.out⟩
    · cases cr
      · have HE := Lib.hid (show R = [] by rw [HR.out]; exact freshL_no (by rw [← HCF.out, ← HCR.out]; simp))
        go_enter Tryz.func19, Tryz.ntmps19
        go_wp2_with (first
          | (go_at_call 28; refine CB.out.mono ?_; rintro e w1 ⟨rfl, hb1⟩; have HB1 := Lib.hid hb1; clear hb1)
          | (go_at_call 29; first
             | (refine (CH.out _ HB1.out).mono ?_; rintro e w2 ⟨rfl, hb2⟩; have HB2 := Lib.hid (bthen HB1.out hb2); clear hb2 CH)
             | (refine (CH2.out _ HB2.out).mono ?_; rintro e w3 ⟨rfl, hb2⟩; have HB3 := Lib.hid (bthen HB2.out hb2); clear hb2)))
        go_ret
        rw [HE.out]
        exact ⟨none, 0, rfl, OwnRows.nil _ _ _, HB3.out⟩
      · have HS := Lib.hid (SafeB.of HSF.out.symm)
        have hn4 := HS.out.few
        obtain ⟨F, hF⟩ : ∃ F, F = fs ++ fr := ⟨_, rfl⟩
        have HF := Lib.hid hF
        have CC := Lib.hid (fun (g : Nat) W (hW : Below w.heap.size w W) (k0 : W.cell? ⟨g, 0, none⟩ = some (.slice A fs.length c)) (k1 : W.cell? ⟨g, 1, none⟩ = some (.slice A2 fr.length c2)) => concat_any g 2 (.slice A fs.length c) (.slice A2 fr.length c2) fs fr W k0 k1 (H.out.on hW) (H2.out.on hW) (by omega))
        rw [← hF] at CC
        clear hF
        obtain ⟨D, hD⟩ : ∃ D, D = pickL fs fr false := ⟨_, rfl⟩
        have HD := Lib.hid hD
        have CL := Lib.hid (fun W (hW : Below w.heap.size w W) => implFactsLess_any (.slice A fs.length c) (.slice A2 fr.length c2) fs fr W (H.out.on hW) (H2.out.on hW) hn ht)
        rw [← hD] at CL
        clear hD
        go_enter Tryz.func19, Tryz.ntmps19
        go_upto_region 3 with (first
          | (go_at_call 28; refine CB.out.mono ?_; rintro e w1 ⟨rfl, hb1⟩; have HB1 := Lib.hid hb1; clear hb1)
          | (go_at_call 29; first
             | (refine (CH.out _ HB1.out).mono ?_; rintro e w2 ⟨rfl, hb2⟩; have HB2 := Lib.hid (bthen HB1.out hb2); clear hb2 CH)
             | (refine (CH2.out _ HB2.out).mono ?_; rintro e w3 ⟨rfl, hb2⟩; have HB3 := Lib.hid (bthen HB2.out hb2); clear hb2)))
        go_upto_region 4 with (first
          | (go_at_call 38; refine (CC.out w3.heap.size _ (bthen HB3.out (below1 _ _)) ((Blk.new w3 _ _).cell 0) ((Blk.new w3 _ _).cell 1)).mono ?_; rintro e w5 ⟨A5, c5, av5, rfl, r5, b5⟩
             have H5 := Lib.hid (And.intro r5.facts (bthen (bthen HB3.out (below1 _ _)) b5)); clear r5 b5)
          | (go_at_call 39; refine (CL.out _ H5.out.2).mono ?_; rintro e w6 ⟨A6, c6, rfl, o6, b6⟩
             have H6 := Lib.hid (And.intro o6.rd (And.intro b6 (bthen H5.out.2 b6))); clear o6 b6))
        obtain ⟨w7, hw7⟩ : ∃ w7, w7 = w6.alloc (Obj.cells #[.slice A5 F.length c5, .slice A6 D.length c6, .slice A2 fr.length c2] 67) := ⟨_, rfl⟩
        have x0 : w7.cell? ⟨w6.heap.size, 0, none⟩ = some (.slice A5 F.length c5) := by rw [hw7]; exact (Blk.new w6 _ _).cell 0
        have x1 : w7.cell? ⟨w6.heap.size, 1, none⟩ = some (.slice A6 D.length c6) := by rw [hw7]; exact (Blk.new w6 _ _).cell 1
        have x2 : w7.cell? ⟨w6.heap.size, 2, none⟩ = some (.slice A2 fr.length c2) := by rw [hw7]; exact (Blk.new w6 _ _).cell 2
        have HB7 := Lib.hid (show Below w6.heap.size w6 w7 by rw [hw7]; exact below1 _ _)
        rw [← hw7]
        clear hw7
        have HUU := Lib.hid (show RdFacts w7 w7.heap.size (.slice A5 F.length c5) (fs ++ fr) ∧ RdFacts w7 w7.heap.size (.slice A6 D.length c6) (pickL fs fr false) ∧ RdFacts w7 w7.heap.size (.slice A2 fr.length c2) fr ∧ Below w.heap.size w w7 from by
          have b := bthen H6.out.2.2 HB7.out
          refine ⟨?_, ?_, H2.out.on b, b⟩
          · rw [← HF.out]; exact (H5.out.1.on H6.out.2.1).on HB7.out
          · rw [← HD.out]; exact H6.out.1.on HB7.out)
        obtain ⟨w8, hw8⟩ : ∃ w8, w8 = w7.alloc (Obj.cells #[.slice A5 F.length c5, .slice A6 D.length c6, .slice A2 fr.length c2] 67) := ⟨_, rfl⟩
        have HB8 := Lib.hid (show Below w7.heap.size w7 w8 by rw [hw8]; exact below1 _ _)
        have CR := Lib.hid (show Calls Tryz.prog 41 #[.slice (some ⟨w7.heap.size, 0, none⟩) 1 1, .int .i64 (ls.length : Int)] w8 fun e w' => ∃ g9, e = .returned (.slice (some ⟨g9, 0, none⟩) ls.length ls.length) ∧ AtA w' g9 ls.length (List.replicate ls.length (.slice A5 F.length c5, .slice A6 D.length c6, .slice A2 fr.length c2)) ∧ Hid (Below w8.heap.size w8 w') from
          (repeatA_any ls.length hn4 (.slice A5 F.length c5, .slice A6 D.length c6, .slice A2 fr.length c2) ⟨rfl, rfl, rfl⟩ w7.heap.size w8 (by rw [hw8]; exact AtA.one w7 _ _ _)).mono fun e w' h => ⟨_, h.1, h.2.1, Lib.hid h.2.2⟩)
        have HW8 := Lib.hid hw8
        rw [hw8] at CR
        clear hw8
        go_upto_region 5 with (first
          | (go_at_call 41; refine CR.out.mono ?_; rintro e w9 ⟨g9, rfl, a9, b9⟩
             have b89 := b9.out
             rw [← HW8.out] at b89
             have CS := Lib.hid (solveFresh_any g9 ls.length ls (agesL fs fr ls.length) (List.replicate ls.length (.slice A5 F.length c5, .slice A6 D.length c6, .slice A2 fr.length c2)) (.slice A3 ls.length c3) w9 (H3.out.on (bthen (bthen HUU.out.2.2.2 HB8.out) b89)) a9 (RdAges.same ((HUU.out.1.on HB8.out).on b89) ((HUU.out.2.1.on HB8.out).on b89) ((HUU.out.2.2.1.on HB8.out).on b89)) (agesL_len _ _ _) HS.out (by omega) (agesL_ok HCF.out.symm HCR.out.symm hn ht))
             have HB9 := Lib.hid (bthen (bthen HUU.out.2.2.2 HB8.out) b89)
             clear a9 b9 b89)
          | (go_at_call 40; refine CS.out.mono ?_; rintro e w10 ⟨A10, c10, S, rfl, own, b10, hm, hSl, hnd⟩
             have H10 := Lib.hid (And.intro hm (And.intro (hnd agesL_new) b10))
             have HSO := Lib.hid (sortW_any w9.heap.size w10.heap.size (.slice A10 S.length c10) S w10 own (by omega))
             clear own b10 hm hnd))
        go_wp2_with (first
          | (go_at_call 42; refine HSO.out.mono ?_; rintro e w11 ⟨rfl, S', hp, hup, own5, only5⟩
             have hok : ∀ b ∈ S, bindOk b = true := fun b hb => ((H10.out.1 b).1 hb).1
             have hS' : S' = freshL fs fr ls := freshL_is HSF.out.symm HCF.out.symm HCR.out.symm (upB_of H10.out.2.1 hok hp hup) (fun b => by rw [hp.mem_iff]; exact H10.out.1 b)
             have hlS : S.length = S'.length := hp.length_eq.symm
             have hfz := freshL_sz fs fr ls
             rw [← hS'] at hfz
             have hsz := only5.size
             have HB11 := Lib.hid (Only.then_ (bthen HB9.out H10.out.2.2) only5 (by have := HB9.out.size; omega))
             rw [hlS] at own5
             have CNL := Lib.hid (numberLists_any w10.heap.size A10 c10 S' w11 own5.rd hsz hfz.2.1 hfz.2.2)
             rw [← hlS] at CNL
             have HRS := Lib.hid (And.intro (show S' = R by rw [hS', HR.out]) hlS)
             clear hp hup own5 only5 hok hS' hlS hfz)
          | (go_at_call 30; refine CNL.out.mono ?_; rintro e w12 ⟨A12, c12, rfl, o12, b12⟩; have H12 := Lib.hid (And.intro o12 b12); clear o12 b12))
        go_ret
        obtain ⟨o12, b12⟩ := H12.out
        have e := HRS.out.2
        rw [← HRS.out.1]
        rw [e] at o12 ⊢
        exact ⟨_, _, rfl, o12.mono HB11.out.size (Nat.le_refl _), bthen HB11.out b12⟩

end Go.Proofs.YtebincnejcmocaaGreat
/-
  The walk of the law on FreshSolutions (written by wip/genlaw.py).
-/
namespace Go.Proofs.YtebincnejcmocaaGreat
open Go.RowKit

set_option maxHeartbeats 8000000 in
set_option maxRecDepth 100000 in
theorem lawFreshSolutions_any (v0 : Value) (v1 : Value) (v2 : Value) (fs : List LFact) (fr : List LFact) (ls : List LLit) (w : World) (h0 : RdFacts w w.heap.size v0 fs) (h1 : RdFacts w w.heap.size v1 fr) (h2 : RdLits w w.heap.size v2 ls) (n0 : fs.length ≤ maxLen) (m0 : ∀ k (h : k < fs.length), fs[k].2.length ≤ maxLen) (n1 : fr.length ≤ maxLen) (m1 : ∀ k (h : k < fr.length), fr[k].2.length ≤ maxLen) (n2 : ls.length ≤ maxLen) (m2 : ∀ k (h : k < ls.length), ls[k].2.2.length ≤ maxLen) :
    Calls Tryz.prog 4 #[v0, v1, v2] w fun e w' => e = .returned (.bool true) ∧ Below w.heap.size w w' := by
  have H0 := Lib.hid h0
  obtain ⟨A0, c0, rfl, hc0, _⟩ := h0
  have H1 := Lib.hid h1
  obtain ⟨A1, c1, rfl, hc1, _⟩ := h1
  have H2 := Lib.hid h2
  obtain ⟨A2, c2, rfl, hc2, _⟩ := h2
  go_enter Tryz.func4, Tryz.ntmps4
  go_wp2_with (fail)
  refine (us_facts H0.out (by omega) (by omega) n0 m0).mono ?_
  rintro e w1 ⟨z0, rfl, hz0, hbz0⟩
  have s_w1 := hbz0.size
  have B_w1 := hbz0
  rcases hz0 with rfl | ⟨zp0, zs0⟩
  · go_wp2_with (fail)
    go_ret
    exact ⟨rfl, B_w1⟩
  have zn0 : ¬ z0 < 0 := by omega
  have r0 : szF fs ≤ 1048576 := by omega
  have zl0 : z0 ≤ 1048576 := by omega
  have ZS0 := Lib.hid zs0
  clear zs0
  go_wp2_with (fail)
  refine (us_facts (H1.out.on B_w1) (by omega) (by omega) n1 m1).mono ?_
  rintro e w2 ⟨z1, rfl, hz1, hbz1⟩
  have s_w2 := hbz1.size
  have B_w2 := bthen B_w1 hbz1
  rcases hz1 with rfl | ⟨zp1, zs1⟩
  · go_wp2_with (fail)
    go_ret
    exact ⟨rfl, B_w2⟩
  have zn1 : ¬ z1 < 0 := by omega
  have r1 : szF fr ≤ 1048576 := by omega
  have zl1 : z1 ≤ 1048576 := by omega
  have ZS1 := Lib.hid zs1
  clear zs1
  go_wp2_with (fail)
  refine (us_lits (H2.out.on B_w2) (by omega) (by omega) n2 m2).mono ?_
  rintro e w3 ⟨z2, rfl, hz2, hbz2⟩
  have s_w3 := hbz2.size
  have B_w3 := bthen B_w2 hbz2
  rcases hz2 with rfl | ⟨zp2, zs2⟩
  · go_wp2_with (fail)
    go_ret
    exact ⟨rfl, B_w3⟩
  have zn2 : ¬ z2 < 0 := by omega
  have r2 : szL ls ≤ 1048576 := by omega
  have zl2 : z2 ≤ 1048576 := by omega
  have ZS2 := Lib.hid zs2
  clear zs2 zn2
  have zn2 : ¬ z2 < 0 := by omega
  obtain ⟨R0, hR0⟩ : ∃ R, R = freshL fs fr ls := ⟨_, rfl⟩
  have HR0 := Lib.hid hR0
  have hxy : szF fs + szF fr ≤ 1048576 := by have := ZS0.out; have := ZS1.out; omega
  have HRs0 := Lib.hid (show szRows R0 ≤ 1048576 by rw [hR0]; exact (freshL_sz fs fr ls).1)
  have R0s := HRs0.out
  clear hR0
  go_wp2_with (fail)
  refine (toFactS_any _ fs _ (H0.out.on B_w3) (by unfold szF at *; omega) (by unfold szF at *; omega)).mono ?_
  rintro e w4 ⟨P1, d1, rfl, o1, hb1⟩
  have s_w4 := hb1.size
  have B_w4 := bthen B_w3 hb1
  go_wp2_with (fail)
  refine (toFactS_any _ fr _ (H1.out.on B_w4) (by unfold szF at *; omega) (by unfold szF at *; omega)).mono ?_
  rintro e w5 ⟨P2, d2, rfl, o2, hb2⟩
  have s_w5 := hb2.size
  have tw0_5 := o1.below hb2 (by omega)
  clear o1
  have B_w5 := bthen B_w4 hb2
  go_wp2_with (fail)
  refine (toLitS_any _ ls _ (H2.out.on B_w5) (by unfold szL at *; omega) (by unfold szL at *; omega)).mono ?_
  rintro e w6 ⟨P3, d3, rfl, o3, hb3⟩
  have s_w6 := hb3.size
  have tw0_6 := tw0_5.below hb3 (by omega)
  clear tw0_5
  have tw1_6 := o2.below hb3 (by omega)
  clear o2
  have B_w6 := bthen B_w5 hb3
  go_wp2_with (fail)
  refine (specFreshSolutions_any _ _ _ fs fr ls _ rfl _ (tw0_6.rd.more (by omega)) (tw1_6.rd.more (by omega)) (o3.rd.more (by omega)) (by unfold szF at hxy; omega) (by unfold szF at hxy; omega) (by unfold szL at r2; omega)).mono ?_
  rw [← HR0.out]
  rintro e w7 ⟨Q4_0, f4_0, rfl, o4_0, hb4⟩
  have s_w7 := hb4.size
  have tw0_7 := tw0_6.below hb4 (by omega)
  clear tw0_6
  have tw1_7 := tw1_6.below hb4 (by omega)
  clear tw1_6
  have tw2_7 := o3.below hb4 (by omega)
  clear o3
  have B_w7 := bthen B_w6 hb4
  go_wp2_with (fail)
  refine (toFactS_any _ fs _ (H0.out.on B_w7) (by unfold szF at *; omega) (by unfold szF at *; omega)).mono ?_
  rintro e w8 ⟨P5, d5, rfl, o5, hb5⟩
  have s_w8 := hb5.size
  have w0_8 := o4_0.below hb5 (by omega)
  clear o4_0
  have B_w8 := bthen B_w7 hb5
  go_wp2_with (fail)
  refine (toFactS_any _ fr _ (H1.out.on B_w8) (by unfold szF at *; omega) (by unfold szF at *; omega)).mono ?_
  rintro e w9 ⟨P6, d6, rfl, o6, hb6⟩
  have s_w9 := hb6.size
  have w0_9 := w0_8.below hb6 (by omega)
  clear w0_8
  have x0_9 := o5.below hb6 (by omega)
  clear o5
  have B_w9 := bthen B_w8 hb6
  go_wp2_with (fail)
  refine (toLitS_any _ ls _ (H2.out.on B_w9) (by unfold szL at *; omega) (by unfold szL at *; omega)).mono ?_
  rintro e w10 ⟨P7, d7, rfl, o7, hb7⟩
  have s_w10 := hb7.size
  have w0_10 := w0_9.below hb7 (by omega)
  clear w0_9
  have x0_10 := x0_9.below hb7 (by omega)
  clear x0_9
  have x1_10 := o6.below hb7 (by omega)
  clear o6
  have B_w10 := bthen B_w9 hb7
  go_wp2_with (fail)
  refine (implFreshSolutions_any _ _ _ fs fr ls _ rfl _ (x0_10.rd.more (by omega)) (x1_10.rd.more (by omega)) (o7.rd.more (by omega)) (by unfold szF at hxy; omega) (by unfold szF at hxy; omega) (by unfold szL at r2; omega)).mono ?_
  rw [← HR0.out]
  rintro e w11 ⟨Q8_0, f8_0, rfl, o8_0, hb8⟩
  have s_w11 := hb8.size
  have w0_11 := w0_10.below hb8 (by omega)
  clear w0_10
  have x0_11 := x0_10.below hb8 (by omega)
  clear x0_10
  have x1_11 := x1_10.below hb8 (by omega)
  clear x1_10
  have x2_11 := o7.below hb8 (by omega)
  clear o7
  have B_w11 := bthen B_w10 hb8
  go_wp2_with (fail)
  refine (eqIntSS_any _ _ R0 R0 _ (o8_0.rd.more (by omega)) (w0_11.rd.more (by omega)) rfl (by omega)).mono ?_
  rintro e w12 ⟨rfl, hb9⟩
  rw [show decide (R0 = R0) = true by simp]
  have s_w12 := hb9.size
  have w0_12 := w0_11.below hb9 (by omega)
  clear w0_11
  have x0_12 := x0_11.below hb9 (by omega)
  clear x0_11
  have x1_12 := x1_11.below hb9 (by omega)
  clear x1_11
  have x2_12 := x2_11.below hb9 (by omega)
  clear x2_11
  have g0_12 := o8_0.below hb9 (by omega)
  clear o8_0
  have B_w12 := bthen B_w11 hb9
  go_wp2_with (fail)
  refine (toFactS_any _ fs _ (H0.out.on B_w12) (by unfold szF at *; omega) (by unfold szF at *; omega)).mono ?_
  rintro e w13 ⟨P10, d10, rfl, o10, hb10⟩
  have s_w13 := hb10.size
  have w0_13 := w0_12.below hb10 (by omega)
  clear w0_12
  have x0_13 := x0_12.below hb10 (by omega)
  clear x0_12
  have x1_13 := x1_12.below hb10 (by omega)
  clear x1_12
  have x2_13 := x2_12.below hb10 (by omega)
  clear x2_12
  have g0_13 := g0_12.below hb10 (by omega)
  clear g0_12
  have B_w13 := bthen B_w12 hb10
  go_wp2_with (fail)
  refine (eqFactS_any _ _ fs fs _ (x0_13.rd.more (by omega)) (o10.rd.more (by omega)) (by unfold szF at *; omega) (by unfold szF at *; omega) (by unfold szF at *; omega) (by unfold szF at *; omega)).mono ?_
  rintro e w14 ⟨rfl, hb11⟩
  rw [show decide (fs = fs) = true by simp]
  have s_w14 := hb11.size
  have w0_14 := w0_13.below hb11 (by omega)
  clear w0_13
  have x0_14 := x0_13.below hb11 (by omega)
  clear x0_13
  have x1_14 := x1_13.below hb11 (by omega)
  clear x1_13
  have x2_14 := x2_13.below hb11 (by omega)
  clear x2_13
  have g0_14 := g0_13.below hb11 (by omega)
  clear g0_13
  have B_w14 := bthen B_w13 hb11
  go_wp2_with (fail)
  refine (toFactS_any _ fr _ (H1.out.on B_w14) (by unfold szF at *; omega) (by unfold szF at *; omega)).mono ?_
  rintro e w15 ⟨P12, d12, rfl, o12, hb12⟩
  have s_w15 := hb12.size
  have w0_15 := w0_14.below hb12 (by omega)
  clear w0_14
  have x0_15 := x0_14.below hb12 (by omega)
  clear x0_14
  have x1_15 := x1_14.below hb12 (by omega)
  clear x1_14
  have x2_15 := x2_14.below hb12 (by omega)
  clear x2_14
  have g0_15 := g0_14.below hb12 (by omega)
  clear g0_14
  have B_w15 := bthen B_w14 hb12
  go_wp2_with (fail)
  refine (eqFactS_any _ _ fr fr _ (x1_15.rd.more (by omega)) (o12.rd.more (by omega)) (by unfold szF at *; omega) (by unfold szF at *; omega) (by unfold szF at *; omega) (by unfold szF at *; omega)).mono ?_
  rintro e w16 ⟨rfl, hb13⟩
  rw [show decide (fr = fr) = true by simp]
  have s_w16 := hb13.size
  have w0_16 := w0_15.below hb13 (by omega)
  clear w0_15
  have x0_16 := x0_15.below hb13 (by omega)
  clear x0_15
  have x1_16 := x1_15.below hb13 (by omega)
  clear x1_15
  have x2_16 := x2_15.below hb13 (by omega)
  clear x2_15
  have g0_16 := g0_15.below hb13 (by omega)
  clear g0_15
  have B_w16 := bthen B_w15 hb13
  go_wp2_with (fail)
  refine (toLitS_any _ ls _ (H2.out.on B_w16) (by unfold szL at *; omega) (by unfold szL at *; omega)).mono ?_
  rintro e w17 ⟨P14, d14, rfl, o14, hb14⟩
  have s_w17 := hb14.size
  have w0_17 := w0_16.below hb14 (by omega)
  clear w0_16
  have x0_17 := x0_16.below hb14 (by omega)
  clear x0_16
  have x1_17 := x1_16.below hb14 (by omega)
  clear x1_16
  have x2_17 := x2_16.below hb14 (by omega)
  clear x2_16
  have g0_17 := g0_16.below hb14 (by omega)
  clear g0_16
  have B_w17 := bthen B_w16 hb14
  go_wp2_with (fail)
  refine (eqLitS_any _ _ ls ls _ (x2_17.rd.more (by omega)) (o14.rd.more (by omega)) (by unfold szL at *; omega) (by unfold szL at *; omega) (by unfold szL at *; omega) (by unfold szL at *; omega)).mono ?_
  rintro e w18 ⟨rfl, hb15⟩
  rw [show decide (ls = ls) = true by simp]
  have s_w18 := hb15.size
  have w0_18 := w0_17.below hb15 (by omega)
  clear w0_17
  have x0_18 := x0_17.below hb15 (by omega)
  clear x0_17
  have x1_18 := x1_17.below hb15 (by omega)
  clear x1_17
  have x2_18 := x2_17.below hb15 (by omega)
  clear x2_17
  have g0_18 := g0_17.below hb15 (by omega)
  clear g0_17
  have B_w18 := bthen B_w17 hb15
  go_wp2_with (fail)
  refine (um_facts 1 x0_18 (by omega) (by omega) (by omega)).mono ?_
  rintro e w19 ⟨k16, rfl, ka16, kb16, _, on16⟩
  have s_w19 := on16.size
  have w0_19 := w0_18.only on16 (by first | exact .inl (by omega) | exact .inr (by omega))
  clear w0_18
  have x1_19 := x1_18.only on16 (by first | exact .inl (by omega) | exact .inr (by omega))
  clear x1_18
  have x2_19 := x2_18.only on16 (by first | exact .inl (by omega) | exact .inr (by omega)) (by omega)
  clear x2_18
  have g0_19 := g0_18.only on16 (by first | exact .inl (by omega) | exact .inr (by omega))
  clear g0_18
  have B_w19 := Only.then_ B_w18 on16 (by omega)
  go_wp2_with (fail)
  refine (um_facts k16 x1_19 (by omega) (by omega) (by omega)).mono ?_
  rintro e w20 ⟨k17, rfl, ka17, kb17, _, on17⟩
  have s_w20 := on17.size
  have w0_20 := w0_19.only on17 (by first | exact .inl (by omega) | exact .inr (by omega))
  clear w0_19
  have x2_20 := x2_19.only on17 (by first | exact .inl (by omega) | exact .inr (by omega)) (by omega)
  clear x2_19
  have g0_20 := g0_19.only on17 (by first | exact .inl (by omega) | exact .inr (by omega))
  clear g0_19
  have B_w20 := Only.then_ B_w19 on17 (by omega)
  go_wp2_with (fail)
  refine (um_lits k17 x2_20 (by omega) (by omega) (by omega)).mono ?_
  rintro e w21 ⟨k18, rfl, ka18, kb18, _, on18⟩
  have s_w21 := on18.size
  have w0_21 := w0_20.only on18 (by first | exact .inl (by omega) | exact .inr (by omega))
  clear w0_20
  have g0_21 := g0_20.only on18 (by first | exact .inl (by omega) | exact .inr (by omega))
  clear g0_20
  have B_w21 := Only.then_ B_w20 on18 (by omega)
  have kn : ¬ k18 < 0 := by omega
  have kd : decide (k18 < 0) = false := by simp; omega
  go_wp2_with (fail)
  refine (eqIntSS_any _ _ R0 R0 _ (g0_21.rd.more (by omega)) (w0_21.rd.more (by omega)) rfl (by omega)).mono ?_
  rintro e w22 ⟨rfl, hb19⟩
  rw [show decide (R0 = R0) = true by simp]
  have s_w22 := hb19.size
  have w0_22 := w0_21.below hb19 (by omega)
  clear w0_21
  have g0_22 := g0_21.below hb19 (by omega)
  clear g0_21
  have B_w22 := bthen B_w21 hb19
  go_wp2_with (fail)
  refine (um_rows 1 g0_22 (by omega) (by omega) (by have := HRs0.out; omega)).mono ?_
  rintro e w23 ⟨m20, rfl, ma20, mb20, hd20, on20⟩
  have mb20' := HRs0.out
  have s_w23 := on20.size
  have w0_23 := w0_22.only on20 (by first | exact .inl (by omega) | exact .inr (by omega))
  clear w0_22
  have B_w23 := Only.then_ B_w22 on20 (by omega)
  have mn : ¬ m20 < 0 := by omega
  have me : (m20 != m20) = false := by simp
  go_wp2_with (fail)
  refine (uh_rows hd20 (by omega)).mono ?_
  rintro e w24 ⟨rfl, hb21⟩
  have s_w24 := hb21.size
  have w0_24 := w0_23.below hb21 (by omega)
  clear w0_23
  have d0_24 := hd20.below hb21 (by omega)
  clear hd20
  have B_w24 := bthen B_w23 hb21
  go_wp2_with (fail)
  refine (toFactS_any _ fs _ (H0.out.on B_w24) (by unfold szF at *; omega) (by unfold szF at *; omega)).mono ?_
  rintro e w25 ⟨P22, d22, rfl, o22, hb22⟩
  have s_w25 := hb22.size
  have w0_25 := w0_24.below hb22 (by omega)
  clear w0_24
  have d0_25 := d0_24.below hb22 (by omega)
  clear d0_24
  have B_w25 := bthen B_w24 hb22
  go_wp2_with (fail)
  refine (toFactS_any _ fr _ (H1.out.on B_w25) (by unfold szF at *; omega) (by unfold szF at *; omega)).mono ?_
  rintro e w26 ⟨P23, d23, rfl, o23, hb23⟩
  have s_w26 := hb23.size
  have w0_26 := w0_25.below hb23 (by omega)
  clear w0_25
  have d0_26 := d0_25.below hb23 (by omega)
  clear d0_25
  have th0_26 := o22.below hb23 (by omega)
  clear o22
  have B_w26 := bthen B_w25 hb23
  go_wp2_with (fail)
  refine (toLitS_any _ ls _ (H2.out.on B_w26) (by unfold szL at *; omega) (by unfold szL at *; omega)).mono ?_
  rintro e w27 ⟨P24, d24, rfl, o24, hb24⟩
  have s_w27 := hb24.size
  have w0_27 := w0_26.below hb24 (by omega)
  clear w0_26
  have d0_27 := d0_26.below hb24 (by omega)
  clear d0_26
  have th0_27 := th0_26.below hb24 (by omega)
  clear th0_26
  have th1_27 := o23.below hb24 (by omega)
  clear o23
  have B_w27 := bthen B_w26 hb24
  go_wp2_with (fail)
  refine (implFreshSolutions_any _ _ _ fs fr ls _ rfl _ (th0_27.rd.more (by omega)) (th1_27.rd.more (by omega)) (o24.rd.more (by omega)) (by unfold szF at hxy; omega) (by unfold szF at hxy; omega) (by unfold szL at r2; omega)).mono ?_
  rw [← HR0.out]
  rintro e w28 ⟨Q25_0, f25_0, rfl, o25_0, hb25⟩
  have s_w28 := hb25.size
  have w0_28 := w0_27.below hb25 (by omega)
  clear w0_27
  have d0_28 := d0_27.below hb25 (by omega)
  clear d0_27
  have th0_28 := th0_27.below hb25 (by omega)
  clear th0_27
  have th1_28 := th1_27.below hb25 (by omega)
  clear th1_27
  have th2_28 := o24.below hb25 (by omega)
  clear o24
  have B_w28 := bthen B_w27 hb25
  go_wp2_with (fail)
  refine (eqIntSS_any _ _ R0 R0 _ (o25_0.rd.more (by omega)) (w0_28.rd.more (by omega)) rfl (by omega)).mono ?_
  rintro e w29 ⟨rfl, hb26⟩
  rw [show decide (R0 = R0) = true by simp]
  have s_w29 := hb26.size
  have w0_29 := w0_28.below hb26 (by omega)
  clear w0_28
  have d0_29 := d0_28.below hb26 (by omega)
  clear d0_28
  have h0_29 := o25_0.below hb26 (by omega)
  clear o25_0
  have B_w29 := bthen B_w28 hb26
  go_wp2_with (fail)
  refine (uh_rows d0_29 (by omega)).mono ?_
  rintro e w30 ⟨rfl, hb27⟩
  have s_w30 := hb27.size
  have w0_30 := w0_29.below hb27 (by omega)
  clear w0_29
  have d0_30 := d0_29.below hb27 (by omega)
  clear d0_29
  have h0_30 := h0_29.below hb27 (by omega)
  clear h0_29
  have B_w30 := bthen B_w29 hb27
  go_wp2_with (fail)
  go_ret
  exact ⟨rfl, B_w30⟩

theorem lawFreshSolutions_in (v0 : Value) (v1 : Value) (v2 : Value) (fs : List LFact) (fr : List LFact) (ls : List LLit) (w : World) (h0 : InFacts w v0 fs) (h1 : InFacts w v1 fr) (h2 : InLits w v2 ls) : Calls Tryz.prog 4 #[v0, v1, v2] w fun e w' => e = .returned (.bool true) ∧ Below w.heap.size w w' :=
  lawFreshSolutions_any v0 v1 v2 fs fr ls w h0.1 h1.1 h2.1 h0.2.1 h0.2.2 h1.2.1 h1.2.2 h2.2.1 h2.2.2

end Go.Proofs.YtebincnejcmocaaGreat
namespace Go.Proofs.YtebincnejcmocaaGreat
open Go.ChangeShapes Go.WideShapes Go.ChangeAt Go.RowKit

set_option maxRecDepth 100000 in
theorem fnExactFreshSolutions_lifted (os : Os) (started : os.Started) (H : Type) (enc : TypeId × Value → H) :
    ReturnsInHanded {} Tryz.checked os 4 .any (Rows.fnExactFreshSolutionsSpec.pre6 enc Tryz.prog Tryz.f4 Rows.fnExactFreshSolutionsRow.domain false) (Rows.fnExactFreshSolutionsSpec.post enc Tryz.prog Tryz.f4 false true false false) := by
  refine returnsInHanded_of_change (C := Tryz.checked) Tryz.own started (by kernel_rfl) Tryz.func4
    (ChangeSpec.witness6 (enc := enc) (C := Tryz.checked) false ⟨#[], #[.slice none 0 0, .slice none 0 0, .slice none 0 0], []⟩ 8 (by kernel_rfl) (by kernel_rfl) (by kernel_rfl) (by kernel_rfl)) ?_
  intro W base args ds gs before hval0 hW hcnd _
  have hval : ∀ (j : Nat) t v, Tryz.f4.params[j]? = some t → args[j]? = some v → Value.okWide Tryz.prog W .any base t v := hval0
  have hW' := hW
  obtain ⟨p, q, hA0, hV, rfl, hfz, hnd⟩ := hW
  have hA : DataW.TrodAll enc Tryz.prog W 0 (fun _ => true) true Tryz.f4.params.toList args.toList ds p := hA0
  rw [Tryz.params4] at hA hval
  obtain ⟨v0, vs0, d0, ds0, p0, q0, hargs, rfl, rfl, h0, r0⟩ := trodAll_cons hA
  obtain ⟨v1, vs1, d1, ds1, p1, q1, rfl, rfl, rfl, h1, r1⟩ := trodAll_cons r0
  obtain ⟨v2, vs2, d2, ds2, p2, q2, rfl, rfl, rfl, h2, r2⟩ := trodAll_cons r1
  obtain ⟨rfl, rfl, rfl⟩ := trodAll_nil r2
  obtain rfl : args = #[v0, v1, v2] := by cases args; simp_all
  obtain ⟨rfl, rfl⟩ := trodVars_none hV
  have lt0 : ∀ x ∈ p0, x.block < W.heap.size := by obtain ⟨m, hm⟩ := h0; exact DataW.trod_lt m _ _ _ hm
  obtain ⟨x0, w0⟩ := open_inFacts (hval 0 22 v0 rfl rfl) h0
  have lt1 : ∀ x ∈ p1, x.block < W.heap.size := by obtain ⟨m, hm⟩ := h1; exact DataW.trod_lt m _ _ _ hm
  obtain ⟨x1, w1⟩ := open_inFacts (hval 1 22 v1 rfl rfl) h1
  have lt2 : ∀ x ∈ p2, x.block < W.heap.size := by obtain ⟨m, hm⟩ := h2; exact DataW.trod_lt m _ _ _ hm
  obtain ⟨x2, w2⟩ := open_inLits (hval 2 23 v2 rfl rfl) h2
  clear hA0 hval0
  refine (lawFreshSolutions_in v0 v1 v2 x0 x1 x2 W w0 w1 w2).mono fun e W' ⟨he, bel⟩ => ?_
  subst he
  exact ⟨_, rfl, _, _, _, [], _, [], hW', trodAll_mk1 (shut_bool Tryz.underlying4 _), (trodAll_cons_mk (Below.trod Tryz.laidOut (by kernel_rfl) (of_decide_eq_true (by kernel_rfl)) h0 bel lt0) (trodAll_cons_mk (Below.trod Tryz.laidOut (by kernel_rfl) (of_decide_eq_true (by kernel_rfl)) h1 bel lt1) (trodAll_cons_mk (Below.trod Tryz.laidOut (by kernel_rfl) (of_decide_eq_true (by kernel_rfl)) h2 bel lt2) trodAll_mk0))), rfl, bel.frame _, fun h => by cases h⟩

theorem fnExactFreshSolutions_holds : Rows.FnExactFreshSolutionsSaid :=
  OpenClaim.holds_of_wide 4 Tryz.f4 rfl rfl rfl rfl rfl rfl rfl ⟨rfl, rfl, rfl, rfl, rfl⟩ rfl rfl rfl rfl rfl (by kernel_rfl) Tryz.func4 (by kernel_rfl)
    (of_decide_eq_true (by kernel_rfl)) (by unfold Func.isWrapper; rw [if_neg (of_decide_eq_false (by kernel_rfl))]; exact ⟨rfl, rfl⟩)
    (fun os started H enc _ => fnExactFreshSolutions_lifted os started H enc)

end Go.Proofs.YtebincnejcmocaaGreat
