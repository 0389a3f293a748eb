/-
  slices.SortFunc at facts by FactOrder: a permutation, ascending.
-/
import Derived.Test.YtehjhdihaloalaaLibLaid
import Derived.Test.YtehjhdihaloalaaGrowF
import Derived.Test.YtehjhdihaloalaaOrderGrow
import Derived.Test.YtehjhdihaloalaaSets
namespace Go.Proofs.Ytehjhdihaloalaa
open Go.RowKit Go.Sort

/-- An element of the row: a fact, its header, which reads in blocks below g. -/
def El (w : World) (g : Nat) : Type := { x : LFact × Value // RdInts w g x.2 x.1.2 ∧ x.1.2.length ≤ 1048576 }
instance (w : World) (g : Nat) : Inhabited (El w g) := ⟨⟨((0, []), .slice none 0 0), ⟨none, 0, rfl, by simp, fun h => absurd h (by simp)⟩, by simp⟩⟩
def encE {w : World} {g : Nat} (x : El w g) : List Value := [.int .i64 x.1.1.1, x.1.2]
def cfE {w : World} {g : Nat} (x y : El w g) : Int := factOrder x.1.1 y.1.1

section
variable {w : World} {g : Nat}
theorem ltE (x y : El w g) : ltOf cfE x y = decide (factOrder x.1.1 y.1.1 < 0) := rfl
theorem swoE : SWO (ltOf (cfE (w := w) (g := g))) where
  irrefl x := by rw [ltE, order_refl]; rfl
  trans x y z h1 h2 := by
    rw [ltE] at *
    exact decide_eq_true (order_less (of_decide_eq_true h1) (of_decide_eq_true h2))
  ntrans x y z h1 h2 := by
    rw [ltE] at *
    refine decide_eq_false fun h3 => ?_
    have h1 := of_decide_eq_false h1
    have h2 := of_decide_eq_false h2
    rcases order_cases x.1.1 y.1.1 with h | h | h
    · exact h1 h
    · rw [h] at h3
      exact h2 h3
    · exact h2 (order_less h h3)

theorem below_sortWorld {α : Type} [Inhabited α] (enc : α → List Value) (m : Nat) (dk : Array α) (os : Array Obj) : Only g (g + 1) w (sortWorldK enc 2 w g 0 m dk os) := by
  refine ⟨rfl, rfl, rfl, ?_, fun k hk ho => ?_⟩
  · simp [sortWorldK, putRowK, putRow, mapBlock, Sort.grow, Sort.ahead]
  · have hne : ¬ g = k := by omega
    simp only [sortWorldK, putRowK, putRow, mapBlock, Sort.grow, Sort.ahead, Array.getElem?_append, Array.size_modify, Array.getElem?_modify, hne, if_false]
    rw [if_pos hk]

theorem flatE : ∀ (l : List (El w g)), (flatK encE 2 l.toArray).toList = flat (l.map (·.1.1)) (l.map (·.1.2)) := by
  intro l
  have hl : (l.map fun x : El w g => x.1.2).length = (l.map fun x : El w g => x.1.1).length := by simp
  have hfl := flat_length (l.map fun x : El w g => x.1.1) (l.map fun x : El w g => x.1.2) hl
  simp only [List.length_map] at hfl
  have hsz : (flatK encE 2 l.toArray).size = l.length * 2 := by simp
  apply List.ext_getElem
  · rw [Array.length_toList, hsz, hfl]
  · intro t h1 h2
    rw [Array.length_toList, hsz] at h1
    have hk : t / 2 < l.length := by omega
    obtain ⟨c0, c1⟩ := flat_at (l.map fun x : El w g => x.1.1) (l.map fun x : El w g => x.1.2) hl (t / 2) (by simpa using hk) (by simpa using hk)
    have hget : (flatK encE 2 l.toArray)[t]'(by rw [hsz]; exact h1) = (encE l[t / 2])[t % 2]! := by
      have := get_flatK (encE (w := w) (g := g)) 2 l.toArray t (by simpa using h1)
      rw [getElem!_pos _ _ (by rw [hsz]; exact h1)] at this
      rw [this]
      congr 2
      rw [getElem!_pos _ _ (by simpa using hk)]
      simp
    rw [Array.getElem_toList, hget]
    apply Option.some.inj
    rw [← List.getElem?_eq_getElem h2]
    rcases (show t % 2 = 0 ∨ t % 2 = 1 by omega) with e | e
    · have et : t = t / 2 * 2 := by omega
      rw [e]
      conv => rhs; rw [et, c0]
      simp [encE]
    · have et : t = t / 2 * 2 + 1 := by omega
      rw [e]
      conv => rhs; rw [et, c1]
      simp [encE]

theorem elems {fs : List LFact} {av : List Value} (h : RdArgs w g av fs) (hl : ∀ k (hk : k < fs.length), fs[k].2.length ≤ 1048576) : ∃ l : List (El w g), l.map (·.1.1) = fs ∧ l.map (·.1.2) = av := by
  let F : Fin fs.length → El w g := fun i => ⟨(fs[i.1], av[i.1]'(by have := i.2; have := h.1; omega)), h.2 i.1 i.2 _ i.2, hl i.1 i.2⟩
  refine ⟨List.ofFn F, ?_, ?_⟩
  · apply List.ext_getElem
    · rw [List.length_map, List.length_ofFn]
    · intro k k1 k2
      rw [List.getElem_map, List.getElem_ofFn]
  · apply List.ext_getElem
    · rw [List.length_map, List.length_ofFn, h.1]
    · intro k k1 k2
      rw [List.getElem_map, List.getElem_ofFn]

theorem rdE (l : List (El w g)) : RdArgs w g (l.map (·.1.2)) (l.map (·.1.1)) := ⟨by simp, fun k _ h2 h3 => by simpa using (l[k]'(by simpa using h3)).2.1⟩
end

theorem RdArgs.below {w w' : World} {B B' : Nat} {av : List Value} {fs : List LFact} (h : RdArgs w B av fs) (hb : Below B' w w') (hB : B ≤ B') : RdArgs w' B av fs := ⟨h.1, fun k h1 h2 h3 => (h.2 k h1 h2 h3).below hb hB⟩
theorem RdArgs.more {w : World} {B B' : Nat} {av : List Value} {fs : List LFact} (h : RdArgs w B av fs) (hB : B ≤ B') : RdArgs w B' av fs := ⟨h.1, fun k h1 h2 h3 => (h.2 k h1 h2 h3).more hB⟩

/-- The row at block g, from its start, holds facts with these headers. -/
def AtRow (w : World) (g cap : Nat) (fs : List LFact) (av : List Value) : Prop :=
  ∃ cur, w.heap[g]? = some (.cells cur 28 (0, 0)) ∧ fs.length ≤ cap ∧ cap ≤ maxLen ∧ cur.size = cap * 2 ∧ cur.toList.take (fs.length * 2) = flat fs av
theorem AtRow.lt {w : World} {g cap : Nat} {fs : List LFact} {av : List Value} (h : AtRow w g cap fs av) : g < w.heap.size := by
  obtain ⟨cur, hg, _⟩ := h
  exact Blk.lt hg
theorem RowF.at_ {w : World} {base c : Nat} {A : Option Addr} {fs : List LFact} {av : List Value} (h : RowF w base A c fs av) (hn : 0 < fs.length) : ∃ g, A = some ⟨g, 0, none⟩ ∧ base ≤ g ∧ AtRow w g c fs av := by
  rcases h.row.2 with ⟨_, h0⟩ | ⟨g, cap, cur, e, hb, hgg, r1, r2, r3, r4⟩
  · omega
  · injection e with e1 _ e3
    subst e1
    subst e3
    exact ⟨g, rfl, hb, cur, hgg, r1, r2, r3, r4⟩
theorem AtRow.row {w : World} {base g c : Nat} {fs : List LFact} {av : List Value} (h : AtRow w g c fs av) (hl : av.length = fs.length) (hb : base ≤ g) : w.ownsRow base 28 2 (.slice (some ⟨g, 0, none⟩) fs.length c) fs.length (flat fs av) := by
  obtain ⟨cur, hg, h1, h2, h3, h4⟩ := h
  exact ⟨flat_length _ _ hl, .inr ⟨g, c, cur, rfl, hb, hg, h1, h2, h3, h4⟩⟩
theorem AtRow.cell {w : World} {g c : Nat} {fs : List LFact} {av : List Value} (h : AtRow w g c fs av) {j : Nat} (hj : j < fs.length * 2) : w.cell? ⟨g, j, none⟩ = (flat fs av)[j]? := by
  obtain ⟨cur, hg, h1, h2, h3, h4⟩ := h
  rw [Blk.cell hg, ← h4, List.getElem?_take_of_lt hj, Array.getElem?_toList]
theorem AtRow.frozen {w : World} {g c : Nat} {fs : List LFact} {av : List Value} (h : AtRow w g c fs av) (j : Nat) : w.frozen? ⟨g, j, none⟩ = false := by
  obtain ⟨cur, hg, _⟩ := h
  exact Blk.frozen hg j

set_option maxHeartbeats 1000000 in
theorem sortF_any (g c : Nat) (fs : List LFact) (av : List Value) (w : World) (hrow : AtRow w g c fs av) (hrd : RdArgs w g av fs) (hn : fs.length ≤ 4194304) (hl : ∀ k (hk : k < fs.length), fs[k].2.length ≤ 1048576) :
    Calls Try.prog 98 #[.slice (some ⟨g, 0, none⟩) fs.length c, .func (.func 67) #[] #[]] w fun e w' =>
      e = .returned (.tuple #[]) ∧ ∃ fs' av', fs'.Perm fs ∧ Up fs' ∧ AtRow w' g c fs' av' ∧ RdArgs w' g av' fs' ∧ Only g (g + 1) w w' := by
  obtain ⟨l, rfl, rfl⟩ := elems hrd hl
  have hg := hrow.lt
  have eg : ∀ args w, (callFunc 67 args).run Try.prog w = .ok (.enter 67 args) w := enters_of Try.func67 (by kernel_rfl) rfl
  have hcmp : CmpLays Try.prog 67 #[] (encE (w := w) (g := g)) 2 cfE g 0 l.toArray.size w := fun m os dk _ x y => by
    have ho := below_sortWorld (w := w) (g := g) (encE (w := w) (g := g)) m dk os
    have hb : Below g w (sortWorldK encE 2 w g 0 m dk os) := ho.below (Nat.le_refl _) (Nat.le_of_lt hg)
    exact implFactOrder_grow _ _ x.1.1 y.1.1 _ ⟨_, rfl, (x.2.1.below hb (Nat.le_refl _)).more (Nat.le_trans (Nat.le_of_lt hg) ho.size)⟩ ⟨_, rfl, (y.2.1.below hb (Nat.le_refl _)).more (Nat.le_trans (Nat.le_of_lt hg) ho.size)⟩ x.2.2 y.2.2
  have hH : HoldsK (encE (w := w) (g := g)) 2 w g 0 l.toArray := fun j hj => by
    have hj2 : j < l.length * 2 := by simpa using hj
    refine ⟨?_, hrow.frozen _⟩
    rw [Nat.zero_add, hrow.cell (by simpa using hj2), ← flatE l, Array.getElem?_toList, Array.getElem?_eq_getElem hj]
    rw [getElem!_pos (flatK encE 2 l.toArray) j hj]
    rfl
  have hcon := AnyQ.slices_SortFunc Try.sortFact 2 Try.isAgg28 Try.sizeOf28 (encE (w := w) (g := g)) (fun _ => rfl) (fun x v hv => by
      simp only [encE, List.mem_cons, List.not_mem_nil, or_false] at hv
      rcases hv with rfl | rfl
      · rfl
      · obtain ⟨A, c, e, _⟩ := x.2.1
        rw [e]
        rfl) cfE swoE 67 #[] g 0 c l.toArray w eg hcmp hH hg (by simp at hn ⊢; omega)
  rw [show (List.map (fun x : El w g => x.1.1) l).length = l.toArray.size by simp]
  refine Calls.mono hcon ?_
  rintro e w' ⟨rfl, d', n, os, ⟨hsz, _, hperm⟩, hsort, rfl⟩
  have hp : d'.toList.Perm l := by
    have e1 : d'.extract 0 l.toArray.size = d' := by rw [← hsz]; simp
    have e2 : l.toArray.extract 0 l.toArray.size = l.toArray := by simp
    rw [e1, e2] at hperm
    simpa using hperm
  have ho := below_sortWorld (w := w) (g := g) (encE (w := w) (g := g)) n d' os
  have hszl : d'.toList.length = l.length := by rw [Array.length_toList, hsz]; simp
  refine ⟨rfl, d'.toList.map (·.1.1), d'.toList.map (·.1.2), hp.map _, ?_, ?_, (rdE d'.toList).below (ho.below (Nat.le_refl _) (Nat.le_of_lt hg)) (Nat.le_refl _), ho⟩
  · refine List.pairwise_map.2 (List.pairwise_iff_getElem.2 fun i j hi hj hij => ?_)
    rw [Array.length_toList] at hi hj
    have h := hsort i j (Nat.zero_le _) hij (by rw [← hsz]; exact hj)
    rw [ltE, getElem!_pos d' i hi, getElem!_pos d' j hj] at h
    have h := of_decide_eq_false h
    have h2 := @order_flip d'[j].1.1 d'[i].1.1
    simp only [Array.getElem_toList]
    omega
  · obtain ⟨cur, hgg, h1, h2, h3, h4⟩ := hrow
    have hlen : (d'.toList.map fun x : El w g => x.1.1).length = l.length := by rw [List.length_map, hszl]
    refine ⟨putCells id 0 (flatK encE 2 d') cur, ?_, by rw [hlen]; simpa using h1, h2, by simp [putCells, h3], ?_⟩
    · simp only [sortWorldK, putRowK, putRow, mapBlock, Sort.grow, Sort.ahead]
      rw [Array.getElem?_append, Array.size_modify, if_pos hg, Array.getElem?_modify, if_pos rfl, hgg]
      rfl
    · have hfe := flatE d'.toList
      rw [Array.toArray_toList] at hfe
      rw [← hfe, hlen]
      have hfs : (flatK encE 2 d').size = l.length * 2 := by rw [size_flatK, hsz]; simp
      have hcl : l.length * 2 ≤ cur.size := by rw [h3]; simp at h1; omega
      apply List.ext_getElem
      · simp [putCells, hfs]
        omega
      · intro t t1 t2
        rw [Array.length_toList, hfs] at t2
        rw [List.getElem_take, Array.getElem_toList, Array.getElem_toList]
        simp only [putCells, Array.getElem_mapIdx, id]
        rw [if_pos ⟨Nat.zero_le _, by rw [hfs]; omega⟩, Nat.sub_zero, getElem!_pos (flatK encE 2 d') t (by rw [hfs]; exact t2)]

end Go.Proofs.Ytehjhdihaloalaa
