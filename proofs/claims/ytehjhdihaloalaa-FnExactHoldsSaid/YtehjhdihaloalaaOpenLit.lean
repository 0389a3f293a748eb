/-
  What comes in, opened: literals.
-/
import Derived.Test.YtehjhdihaloalaaChecked
import Derived.Test.YtehjhdihaloalaaOpenAtom
import Derived.Test.YtehjhdihaloalaaRows3
import Derived.ProofKit
import Derived.OpenShut
import Derived.ChangeOld
import Derived.WalkKit
import Derived.Deep.Slices
import Derived.Deep.Fields
import Derived.ChangeSame
import Derived.Lib.SmallJoins
import Derived.KernelRfl
namespace Go.Proofs.Ytehjhdihaloalaa
open Go.ChangeShapes Go.WideShapes Go.ChangeAt Go.RowKit Go.Joins Go.Deep

theorem Try.cells56 : Try.prog.cellsOf 56 = 3 := by kernel_rfl
theorem Try.cells64 : Try.prog.cellsOf 64 = 1 := by kernel_rfl

section
variable {H : Type} {enc : TypeId × Value → H} {W : World}

def InLit (W : World) (v : Value) (l : LLit) : Prop := RdLit W W.heap.size v l ∧ l.2.2.length ≤ maxLen

def bodyFits (ls : List LLit) : Prop := ls.length ≤ maxLen ∧ ∀ k (h : k < ls.length), ls[k].2.2.length ≤ maxLen

set_option maxRecDepth 100000 in
theorem open_lit_cells {fuel : Nat} {v0 v1 v2 : Value} {x : DataW H × List MemPlace} (h : DataW.trod enc Try.prog W 0 (fun _ => true) true fuel 56 [v0, v1, v2] = some x) :
    ∃ l : LLit, QLit W W.heap.size v0 v1 v2 l ∧ l.2.2.length ≤ maxLen := by
  obtain ⟨y0, y1, n, _, _, h0, h1⟩ := trod_struct2 Try.underlying56 h
  rw [Try.cells3] at h0
  rw [Try.cells45] at h1
  obtain ⟨m, e0, _, _⟩ := DataW.trod_int Try.underlying3 h0
  obtain ⟨f, e1, hx⟩ := open_atom_cells (v0 := v1) (v1 := v2) h1
  simp at e0
  exact ⟨(m, f), ⟨e0, e1, hx.1⟩, hx.2⟩

/-- A slice of elements of three cells. -/
theorem open_row_cells {α : Type} [Inhabited α] {t e : TypeId} {Q : World → Nat → Value → Value → Value → α → Prop} {N : α → Prop} (ht : Try.prog.underlying t = some (.slice e)) (hc : Try.prog.cellsOf e = 3)
    (hQ : ∀ {fuel : Nat} {v0 v1 v2 : Value} {x : DataW H × List MemPlace}, DataW.trod enc Try.prog W 0 (fun _ => true) true fuel e [v0, v1, v2] = some x → ∃ y : α, Q W W.heap.size v0 v1 v2 y ∧ N y)
    {fuel : Nat} {v : Value} {x : DataW H × List MemPlace} (h : DataW.trod enc Try.prog W 0 (fun _ => true) true fuel t [v] = some x) :
    ∃ xs : List α, RdRow Q W W.heap.size v xs ∧ xs.length ≤ maxLen ∧ ∀ k (h : k < xs.length), N xs[k] := by
  rcases open_slice ht h with ⟨hcs, _⟩ | ⟨a, len, cap, m, n, D, Pl, hcs, _, hl, hm, hmm, _, hx⟩
  · simp at hcs
    subst hcs
    exact ⟨[], ⟨none, 0, rfl, by simp, fun h => absurd h (by simp)⟩, by simp, fun k h => absurd h (by simp)⟩
  · simp at hcs
    subst hcs
    simp at hmm
    subst hmm
    rw [hc] at hx
    obtain ⟨F, hF⟩ := choose_lt (α := Value × Value × Value × α) (n := m) (p := fun i q => W.cell? (a.add (i * 3)) = some q.1 ∧ W.cell? (a.add (i * 3 + 1)) = some q.2.1 ∧ W.cell? (a.add (i * 3 + 2)) = some q.2.2.1 ∧ Q W W.heap.size q.1 q.2.1 q.2.2.1 q.2.2.2 ∧ N q.2.2.2) (fun i hi => by
      obtain ⟨cs', h1, h2⟩ := hx i hi
      obtain ⟨_, hlen, hcell⟩ := World.cells?_some h1
      match cs', hlen with
      | [v0, v1, v2], _ =>
        have e0 := hcell 0 (by omega)
        have e1 := hcell 1 (by omega)
        have e2 := hcell 2 (by omega)
        rw [add_add] at e0 e1 e2
        obtain ⟨y, hy, hn⟩ := hQ h2
        exact ⟨(v0, v1, v2, y), by simpa using e0, by simpa using e1, by simpa using e2, hy, hn⟩)
    refine ⟨(List.range len).map fun i => (F i).2.2.2, ⟨some a, m, by simp, by simpa using hl, fun hn => ?_⟩, by simp; omega, fun k hk => ?_⟩
    · simp at hn
      obtain ⟨b, off, spot⟩ := a
      have hspot : spot = none := by simpa [Addr.add] using World.cell?_spot (hF 0 (by omega)).1
      subst hspot
      have hb : b < W.heap.size := by simpa [Addr.add] using World.block_lt_of_cell? _ _ (hF 0 (by omega)).1
      refine ⟨b, off, rfl, hb, fun k hk => ?_⟩
      simp at hk
      obtain ⟨c0, c1, c2, hq, _⟩ := hF k (by omega)
      rw [Go.WideShapes.add_plain] at c0 c1 c2
      exact ⟨_, _, _, by simpa using c0, by simpa [Nat.add_assoc] using c1, by simpa [Nat.add_assoc] using c2, by simpa using hq⟩
    · simp at hk ⊢
      exact (hF k (by omega)).2.2.2.2

set_option maxRecDepth 100000 in
theorem open_lits_cells {fuel : Nat} {v : Value} {x : DataW H × List MemPlace} (h : DataW.trod enc Try.prog W 0 (fun _ => true) true fuel 64 [v] = some x) : ∃ ls : List LLit, RdLits W W.heap.size v ls ∧ bodyFits ls :=
  open_row_cells (N := fun l : LLit => l.2.2.length ≤ maxLen) Try.underlying64 Try.cells56 (fun h => open_lit_cells h) h

def InLits (W : World) (v : Value) (ls : List LLit) : Prop := RdLits W W.heap.size v ls ∧ bodyFits ls
set_option maxRecDepth 100000 in
theorem open_inLits {v : Value} {d : DataW H} {p : List MemPlace} {b0 : Nat} (hv : Value.okWide Try.prog W .any b0 64 v) (h : DataW.Trod enc Try.prog W 0 (fun _ => true) true 64 v d p) :
    ∃ ls, InLits W v ls := by
  obtain ⟨a, len, cap, rfl⟩ := okWide_slice Try.underlying64 hv
  obtain ⟨fuel, hf⟩ := h
  exact open_lits_cells (by simpa [Value.cells] using hf)

set_option maxRecDepth 100000 in
theorem open_inLit {v : Value} {d : DataW H} {p : List MemPlace} {b0 : Nat} (hv : Value.okWide Try.prog W .any b0 56 v) (h : DataW.Trod enc Try.prog W 0 (fun _ => true) true 56 v d p) : ∃ l, InLit W v l := by
  obtain ⟨cs, rfl, hsz⟩ := okWide_struct Try.underlying56 hv
  obtain ⟨c0, c1, c2, rfl⟩ := array3 (hsz.trans Try.cells56)
  obtain ⟨fuel, hf⟩ := h
  obtain ⟨l, ⟨rfl, rfl, h1⟩, h2⟩ := open_lit_cells (v0 := c0) (v1 := c1) (v2 := c2) (by simpa [Value.cells] using hf)
  exact ⟨l, ⟨c2, rfl, h1⟩, h2⟩
end

end Go.Proofs.Ytehjhdihaloalaa
