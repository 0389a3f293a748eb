/-
  Words that all texts share: a number with a list of integers, sizes, blocks that are left alone. No walk.
-/
import Derived.Test.YtcoelmhlkfignaaBase
namespace Go.Proofs.Ytcoelmhlkfignaa
open Go.RowKit

/-- A fact: its predicate, its integers. -/
abbrev LFact := Int × List Int
/-- The struct value v reads as the fact f, in blocks below B. -/
def RdFact (w : World) (B : Nat) (v : Value) (f : LFact) : Prop := ∃ a, v = .agg #[.int .i64 f.1, a] ∧ RdInts w B a f.2
theorem RdFact.below {w w' : World} {B B' : Nat} {v : Value} {f : LFact} (h : RdFact w B v f) (hb : Below B' w w') (hB : B ≤ B') : RdFact w' B v f := by
  obtain ⟨a, rfl, h⟩ := h
  exact ⟨a, rfl, h.below hb hB⟩
theorem RdFact.more {w : World} {B B' : Nat} {v : Value} {f : LFact} (h : RdFact w B v f) (hB : B ≤ B') : RdFact w B' v f := by
  obtain ⟨a, rfl, h⟩ := h
  exact ⟨a, rfl, h.more hB⟩
/-- What is read stays read, and below the new world's size. -/
theorem RdInts.on {w w' : World} {v : Value} {xs : List Int} (h : RdInts w w.heap.size v xs) (hb : Below w.heap.size w w') : RdInts w' w'.heap.size v xs := (h.below hb (Nat.le_refl _)).more hb.size
theorem RdFact.on {w w' : World} {v : Value} {f : LFact} (h : RdFact w w.heap.size v f) (hb : Below w.heap.size w w') : RdFact w' w'.heap.size v f := (h.below hb (Nat.le_refl _)).more hb.size
/-- What is left of a size when n are taken: -1 if that is too many. -/
def szV (left : Int) (n : Nat) : Int := if left < n then -1 else left - n
theorem szV_cases (left : Int) (n : Nat) : (szV left n = -1 ∧ left < n) ∨ (0 ≤ szV left n ∧ szV left n + n = left) := by
  unfold szV
  split <;> omega
theorem take_snoc {α : Type} (l : List α) (k : Nat) (h : k < l.length) : l.take (k + 1) = l.take k ++ [l[k]] := by
  rw [List.take_succ_eq_append_getElem h]
theorem grown_from_alloc {w w' : World} {o : Obj} {row : Option Nat} (hg : (w.alloc o).grownBy w' row) : w.grownBy w' row :=
  (World.grownBy_alloc w o row).trans hg
/-- Blocks outside [lo, hi) are as they were. -/
structure Only (lo hi : Nat) (w w' : World) : Prop where
  os : w'.os = w.os
  tape : w'.tape = w.tape
  output : w'.output = w.output
  size : w.heap.size ≤ w'.heap.size
  block : ∀ k, k < w.heap.size → (k < lo ∨ hi ≤ k) → w'.heap[k]? = w.heap[k]?
section
variable {lo hi lo' hi' : Nat} {w w1 w' : World}
theorem Only.refl (lo hi : Nat) (w : World) : Only lo hi w w := ⟨rfl, rfl, rfl, Nat.le_refl _, fun _ _ _ => rfl⟩
theorem Only.trans (h : Only lo hi w w1) (k : Only lo hi w1 w') : Only lo hi w w' :=
  ⟨k.os.trans h.os, k.tape.trans h.tape, k.output.trans h.output, Nat.le_trans h.size k.size, fun i hi' ho => (k.block i (Nat.lt_of_lt_of_le hi' h.size) ho).trans (h.block i hi' ho)⟩
theorem Only.of_below (h : Below w.heap.size w w') : Only lo hi w w' := ⟨h.os, h.tape, h.output, h.size, fun k hk _ => h.block k hk⟩
theorem Only.of_grown {row : Option Nat} (h : w.grownBy w' row) (hr : ∀ g, row = some g → lo ≤ g ∧ g < hi) : Only lo hi w w' :=
  ⟨h.os, h.tape, h.output, h.size, fun k hk ho => h.block k hk (fun e => by have := hr k e.symm; omega)⟩
theorem Only.setCell (h : Only lo hi w w1) {p : Addr} (hp : lo ≤ p.block ∧ p.block < hi) (u : Value) : Only lo hi w (w1.setCell p u) :=
  h.trans ⟨rfl, rfl, rfl, by simp [World.setCell], fun k _ ho => Below.heap_setCell _ _ _ _ (by omega)⟩
theorem Only.below (h : Only lo hi w w') {B : Nat} (hB : B ≤ lo) (hs : B ≤ w.heap.size) : Below B w w' := ⟨h.os, h.tape, h.output, h.size, fun k hk => h.block k (by omega) (.inl (by omega))⟩
theorem Only.then_ {w0 : World} (hb : Below w0.heap.size w0 w) (h : Only lo hi w w') (hl : w0.heap.size ≤ lo) : Below w0.heap.size w0 w' := hb.trans (h.below hl hb.size)
theorem OwnInts.form {v : Value} {xs : List Int} (h : OwnInts w lo hi v xs) : ∃ A c, v = .slice A xs.length c := by
  rcases h.1.2 with ⟨rfl, h0⟩ | ⟨g, cap, _, rfl, _⟩
  · exact ⟨none, 0, by rw [h0]⟩
  · exact ⟨_, _, rfl⟩
theorem OwnInts.lt {v : Value} {xs : List Int} (h : OwnInts w lo hi v xs) {g : Nat} (hg : v.ownBlock = some g) : lo ≤ g ∧ g < hi ∧ g < w.heap.size := ⟨(h.1.lt g hg).1, h.2 g hg, (h.1.lt g hg).2⟩
theorem ownsRow_only {e : TypeId} {size n : Nat} {v : Value} {xs : List Value} (h : w.ownsRow lo e size v n xs) (hb : ∀ g, v.ownBlock = some g → w'.heap[g]? = w.heap[g]?) : w'.ownsRow lo e size v n xs := by
  obtain ⟨hlen, h⟩ := h
  refine ⟨hlen, ?_⟩
  rcases h with h | ⟨g, cap, cur, rfl, hbg, hg, r⟩
  · exact .inl h
  · exact .inr ⟨g, cap, cur, rfl, hbg, by rw [hb g rfl]; exact hg, r⟩
theorem OwnInts.kept {v : Value} {xs : List Int} (h : OwnInts w lo hi v xs) (hb : ∀ g, v.ownBlock = some g → w'.heap[g]? = w.heap[g]?) : OwnInts w' lo hi v xs := ⟨ownsRow_only h.1 hb, h.2⟩
theorem OwnInts.only {v : Value} {xs : List Int} (h : OwnInts w lo hi v xs) (ho : Only lo' hi' w w') (hd : hi ≤ lo' ∨ hi' ≤ lo) : OwnInts w' lo hi v xs :=
  h.kept fun g hg => ho.block g (h.lt hg).2.2 (by have := h.lt hg; omega)
/-- A store into an own row of integers. -/
theorem OwnInts.store {A : Option Addr} {c g : Nat} {xs : List Int} (h : OwnInts w lo hi (.slice A xs.length c) xs) (hA : A = some ⟨g, 0, none⟩) {j : Nat} (_hj : j < xs.length) (u : Int) :
    OwnInts (w.setCell ⟨g, j, none⟩ (.int .i64 u)) lo hi (.slice A xs.length c) (xs.set j u) := by
  subst hA
  obtain ⟨⟨hlen, h⟩, hlt⟩ := h
  refine ⟨⟨by simp, .inr ?_⟩, hlt⟩
  rcases h with ⟨e, _⟩ | ⟨g', cap, cur, e, hbg, hg, hn, hm, hs, ht⟩
  · cases e
  · injection e with e1 e2 e3
    injection e1 with e1
    injection e1 with e1 _ _
    subst e1
    subst e3
    refine ⟨g, c, cur.setIfInBounds j (.int .i64 u), by simp, hbg, ?_, by simpa using hn, hm, by simpa using hs, ?_⟩
    · simp [World.setCell, Array.getElem?_modify, hg]
    · simp only [Nat.mul_one, List.length_set, Array.toList_setIfInBounds] at ht ⊢
      rw [List.take_set, ht, List.map_set]
theorem Blk.only {lo hi : Nat} {w w' : World} {g : Nat} {t : TypeId} {cs : Array Value} (h : Blk w g t cs) (ho : Only lo hi w w') (hg : g < lo ∨ hi ≤ g) : Blk w' g t cs := (ho.block g h.lt hg).trans h
end

end Go.Proofs.Ytcoelmhlkfignaa
