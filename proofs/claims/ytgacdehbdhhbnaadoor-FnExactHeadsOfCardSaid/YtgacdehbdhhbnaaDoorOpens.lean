/-
  What comes in, opened: integers, atoms, literals, rules, programs.
-/
import Derived.Test.YtgacdehbdhhbnaaDoorChecked
import Derived.Test.YtgacdehbdhhbnaaDoorRows3
import Derived.ProofKit
import Derived.OpenShut
import Derived.ChangeOld
import Derived.WalkKit
import Derived.Deep.Slices
import Derived.Deep.Fields
import Derived.ChangeSame
import Derived.Lib.SmallJoins
import Derived.KernelRfl
namespace Go.Proofs.YtgacdehbdhhbnaaDoor
open Go.ChangeShapes Go.WideShapes Go.ChangeAt Go.RowKit Go.Joins Go.Deep

theorem Tryd.own : ownKnob Tryd.prog.godebug = none := by kernel_rfl
theorem Tryd.laidOut : laidOutB Tryd.prog = true := by kernel_rfl
theorem Tryd.cells3 : Tryd.prog.cellsOf 3 = 1 := by kernel_rfl
theorem Tryd.cells24 : Tryd.prog.cellsOf 24 = 2 := by kernel_rfl
theorem Tryd.cells73 : Tryd.prog.cellsOf 73 = 3 := by kernel_rfl
theorem Tryd.cells27 : Tryd.prog.cellsOf 27 = 3 := by kernel_rfl
theorem Tryd.cells42 : Tryd.prog.cellsOf 42 = 2 := by kernel_rfl
theorem Tryd.cells22 : Tryd.prog.cellsOf 22 = 1 := by kernel_rfl
theorem Tryd.cells25 : Tryd.prog.cellsOf 25 = 1 := by kernel_rfl
theorem Tryd.cells40 : Tryd.prog.cellsOf 40 = 1 := by kernel_rfl

/-- A program: its predicates' places, its rules. -/
abbrev LProg := List Int × List LRule
def RdProg (w : World) (B : Nat) (v : Value) (p : LProg) : Prop := ∃ a b, v = .agg #[a, b] ∧ RdInts w B a p.1 ∧ RdRules w B b p.2
theorem RdProg.on {w w' : World} {v : Value} {p : LProg} (h : RdProg w w.heap.size v p) (hb : Below w.heap.size w w') : RdProg w' w'.heap.size v p := by
  obtain ⟨a, b, rfl, h1, h2⟩ := h
  exact ⟨a, b, rfl, h1.on hb, h2.on hb⟩

section
variable {H : Type} {enc : TypeId × Value → H} {W : World}

/-- What is known of a slice of integers that came in. -/
def InInts (W : World) (v : Value) (xs : List Int) : Prop := RdInts W W.heap.size v xs ∧ xs.length ≤ maxLen
def InAtom (W : World) (v : Value) (f : LFact) : Prop := RdFact W W.heap.size v f ∧ f.2.length ≤ maxLen
def InLit (W : World) (v : Value) (l : LLit) : Prop := RdLit W W.heap.size v l ∧ l.2.2.length ≤ maxLen
def bodyFits (ls : List LLit) : Prop := ls.length ≤ maxLen ∧ ∀ k (h : k < ls.length), ls[k].2.2.length ≤ maxLen
def ruleFitsIn (r : LRule) : Prop := r.1.2.length ≤ maxLen ∧ bodyFits r.2
def InRule (W : World) (v : Value) (r : LRule) : Prop := RdRule W W.heap.size v r ∧ ruleFitsIn r
def InProg (W : World) (v : Value) (p : LProg) : Prop := RdProg W W.heap.size v p ∧ p.1.length ≤ maxLen ∧ p.2.length ≤ maxLen ∧ ∀ k (h : k < p.2.length), ruleFitsIn p.2[k]

/-- The cells of a slice of integers. -/
theorem open_inInts_cells {fuel : Nat} {v : Value} {x : DataW H × List MemPlace} (h : DataW.trod enc Tryd.prog W 0 (fun _ => true) true fuel 22 [v] = some x) : ∃ xs, InInts W v xs := by
  rcases open_ints Tryd.underlying22 Tryd.underlying3 Tryd.cells3 h with ⟨hcs, _⟩ | ⟨a, len, cap, zs, hcs, _, hl, hm, hz, _, hcell, _⟩
  · simp at hcs
    subst hcs
    exact ⟨[], ⟨none, 0, rfl, by simp, fun h => absurd h (by simp)⟩, by simp⟩
  · simp at hcs
    subst hcs
    simp at hz
    refine ⟨zs.take len, ⟨some a, cap, ?_, by simp; omega, fun hn => ?_⟩, by simp; omega⟩
    · congr 1
      simp
      omega
    · have hlen : (zs.take len).length = len := by simp; omega
      obtain ⟨b, o, rfl, hc⟩ := ints_at hcell (by omega)
      refine ⟨b, o, rfl, World.block_lt_of_cell? _ _ (hc 0 (by omega)), fun k hk => ?_⟩
      rw [hc k (by omega)]
      simp [show k < zs.length by omega]

set_option maxRecDepth 100000 in
theorem open_inInts {v : Value} {d : DataW H} {p : List MemPlace} {b0 : Nat} (hv : Value.okWide Tryd.prog W .any b0 22 v) (h : DataW.Trod enc Tryd.prog W 0 (fun _ => true) true 22 v d p) :
    ∃ xs, InInts W v xs := by
  obtain ⟨a, len, cap, rfl⟩ := okWide_slice Tryd.underlying22 hv
  obtain ⟨fuel, hf⟩ := h
  exact open_inInts_cells (by simpa [Value.cells] using hf)

set_option maxRecDepth 100000 in
theorem open_atom_cells {fuel : Nat} {v0 v1 : Value} {x : DataW H × List MemPlace} (h : DataW.trod enc Tryd.prog W 0 (fun _ => true) true fuel 24 [v0, v1] = some x) : ∃ f : LFact, v0 = .int .i64 f.1 ∧ InInts W v1 f.2 := by
  obtain ⟨y0, y1, n, _, _, h0, h1⟩ := trod_struct2 Tryd.underlying24 h
  rw [Tryd.cells3] at h0
  rw [Tryd.cells22] at h1
  obtain ⟨m, e0, _, _⟩ := DataW.trod_int Tryd.underlying3 h0
  obtain ⟨xs, hx⟩ := open_inInts_cells h1
  simp at e0
  exact ⟨(m, xs), e0, hx⟩

set_option maxRecDepth 100000 in
theorem open_lit_cells {fuel : Nat} {v0 v1 v2 : Value} {x : DataW H × List MemPlace} (h : DataW.trod enc Tryd.prog W 0 (fun _ => true) true fuel 73 [v0, v1, v2] = some x) :
    ∃ l : LLit, QLit W W.heap.size v0 v1 v2 l ∧ l.2.2.length ≤ maxLen := by
  obtain ⟨y0, y1, n, _, _, h0, h1⟩ := trod_struct2 Tryd.underlying73 h
  rw [Tryd.cells3] at h0
  rw [Tryd.cells24] at h1
  obtain ⟨m, e0, _, _⟩ := DataW.trod_int Tryd.underlying3 h0
  obtain ⟨f, e1, hx⟩ := open_atom_cells (v0 := v1) (v1 := v2) h1
  simp at e0
  exact ⟨(m, f), ⟨e0, e1, hx.1⟩, hx.2⟩

/-- A slice of elements of three cells. -/
theorem open_row_cells {α : Type} [Inhabited α] {t e : TypeId} {Q : World → Nat → Value → Value → Value → α → Prop} {N : α → Prop} (ht : Tryd.prog.underlying t = some (.slice e)) (hc : Tryd.prog.cellsOf e = 3)
    (hQ : ∀ {fuel : Nat} {v0 v1 v2 : Value} {x : DataW H × List MemPlace}, DataW.trod enc Tryd.prog W 0 (fun _ => true) true fuel e [v0, v1, v2] = some x → ∃ y : α, Q W W.heap.size v0 v1 v2 y ∧ N y)
    {fuel : Nat} {v : Value} {x : DataW H × List MemPlace} (h : DataW.trod enc Tryd.prog W 0 (fun _ => true) true fuel t [v] = some x) :
    ∃ xs : List α, RdRow Q W W.heap.size v xs ∧ xs.length ≤ maxLen ∧ ∀ k (h : k < xs.length), N xs[k] := by
  rcases open_slice ht h with ⟨hcs, _⟩ | ⟨a, len, cap, m, n, D, Pl, hcs, _, hl, hm, hmm, _, hx⟩
  · simp at hcs
    subst hcs
    exact ⟨[], ⟨none, 0, rfl, by simp, fun h => absurd h (by simp)⟩, by simp, fun k h => absurd h (by simp)⟩
  · simp at hcs
    subst hcs
    simp at hmm
    subst hmm
    rw [hc] at hx
    obtain ⟨F, hF⟩ := choose_lt (α := Value × Value × Value × α) (n := m) (p := fun i q => W.cell? (a.add (i * 3)) = some q.1 ∧ W.cell? (a.add (i * 3 + 1)) = some q.2.1 ∧ W.cell? (a.add (i * 3 + 2)) = some q.2.2.1 ∧ Q W W.heap.size q.1 q.2.1 q.2.2.1 q.2.2.2 ∧ N q.2.2.2) (fun i hi => by
      obtain ⟨cs', h1, h2⟩ := hx i hi
      obtain ⟨_, hlen, hcell⟩ := World.cells?_some h1
      match cs', hlen with
      | [v0, v1, v2], _ =>
        have e0 := hcell 0 (by omega)
        have e1 := hcell 1 (by omega)
        have e2 := hcell 2 (by omega)
        rw [add_add] at e0 e1 e2
        obtain ⟨y, hy, hn⟩ := hQ h2
        exact ⟨(v0, v1, v2, y), by simpa using e0, by simpa using e1, by simpa using e2, hy, hn⟩)
    refine ⟨(List.range len).map fun i => (F i).2.2.2, ⟨some a, m, by simp, by simpa using hl, fun hn => ?_⟩, by simp; omega, fun k hk => ?_⟩
    · simp at hn
      obtain ⟨b, off, spot⟩ := a
      have hspot : spot = none := by simpa [Addr.add] using World.cell?_spot (hF 0 (by omega)).1
      subst hspot
      have hb : b < W.heap.size := by simpa [Addr.add] using World.block_lt_of_cell? _ _ (hF 0 (by omega)).1
      refine ⟨b, off, rfl, hb, fun k hk => ?_⟩
      simp at hk
      obtain ⟨c0, c1, c2, hq, _⟩ := hF k (by omega)
      rw [Go.WideShapes.add_plain] at c0 c1 c2
      exact ⟨_, _, _, by simpa using c0, by simpa [Nat.add_assoc] using c1, by simpa [Nat.add_assoc] using c2, by simpa using hq⟩
    · simp at hk ⊢
      exact (hF k (by omega)).2.2.2.2

set_option maxRecDepth 100000 in
theorem open_lits_cells {fuel : Nat} {v : Value} {x : DataW H × List MemPlace} (h : DataW.trod enc Tryd.prog W 0 (fun _ => true) true fuel 25 [v] = some x) : ∃ ls : List LLit, RdLits W W.heap.size v ls ∧ bodyFits ls :=
  open_row_cells (N := fun l : LLit => l.2.2.length ≤ maxLen) Tryd.underlying25 Tryd.cells73 (fun h => open_lit_cells h) h

set_option maxRecDepth 100000 in
theorem open_rule_cells {fuel : Nat} {v0 v1 v2 : Value} {x : DataW H × List MemPlace} (h : DataW.trod enc Tryd.prog W 0 (fun _ => true) true fuel 27 [v0, v1, v2] = some x) :
    ∃ r : LRule, QRule W W.heap.size v0 v1 v2 r ∧ ruleFitsIn r := by
  obtain ⟨y0, y1, n, _, _, h0, h1⟩ := trod_struct2 Tryd.underlying27 h
  rw [Tryd.cells24] at h0
  rw [Tryd.cells25] at h1
  obtain ⟨f, e1, hx⟩ := open_atom_cells (v0 := v0) (v1 := v1) h0
  obtain ⟨ls, hl, hb⟩ := open_lits_cells (v := v2) h1
  exact ⟨(f, ls), ⟨e1, hx.1, hl⟩, hx.2, hb⟩

set_option maxRecDepth 100000 in
theorem open_rules_cells {fuel : Nat} {v : Value} {x : DataW H × List MemPlace} (h : DataW.trod enc Tryd.prog W 0 (fun _ => true) true fuel 40 [v] = some x) : ∃ rs : List LRule, RdRules W W.heap.size v rs ∧ rs.length ≤ maxLen ∧ ∀ k (h : k < rs.length), ruleFitsIn rs[k] :=
  open_row_cells (N := ruleFitsIn) Tryd.underlying40 Tryd.cells27 (fun h => open_rule_cells h) h

set_option maxRecDepth 100000 in
theorem open_inAtom {v : Value} {d : DataW H} {p : List MemPlace} {b0 : Nat} (hv : Value.okWide Tryd.prog W .any b0 24 v) (h : DataW.Trod enc Tryd.prog W 0 (fun _ => true) true 24 v d p) : ∃ f, InAtom W v f := by
  obtain ⟨cs, rfl, hsz⟩ := okWide_struct Tryd.underlying24 hv
  obtain ⟨c0, c1, rfl⟩ := array2 (hsz.trans Tryd.cells24)
  obtain ⟨fuel, hf⟩ := h
  obtain ⟨f, rfl, h1, h2⟩ := open_atom_cells (v0 := c0) (v1 := c1) (by simpa [Value.cells] using hf)
  exact ⟨f, ⟨c1, rfl, h1⟩, h2⟩
set_option maxRecDepth 100000 in
theorem open_inLit {v : Value} {d : DataW H} {p : List MemPlace} {b0 : Nat} (hv : Value.okWide Tryd.prog W .any b0 73 v) (h : DataW.Trod enc Tryd.prog W 0 (fun _ => true) true 73 v d p) : ∃ l, InLit W v l := by
  obtain ⟨cs, rfl, hsz⟩ := okWide_struct Tryd.underlying73 hv
  obtain ⟨c0, c1, c2, rfl⟩ := array3 (hsz.trans Tryd.cells73)
  obtain ⟨fuel, hf⟩ := h
  obtain ⟨l, ⟨rfl, rfl, h1⟩, h2⟩ := open_lit_cells (v0 := c0) (v1 := c1) (v2 := c2) (by simpa [Value.cells] using hf)
  exact ⟨l, ⟨c2, rfl, h1⟩, h2⟩
set_option maxRecDepth 100000 in
theorem open_inRule {v : Value} {d : DataW H} {p : List MemPlace} {b0 : Nat} (hv : Value.okWide Tryd.prog W .any b0 27 v) (h : DataW.Trod enc Tryd.prog W 0 (fun _ => true) true 27 v d p) : ∃ r, InRule W v r := by
  obtain ⟨cs, rfl, hsz⟩ := okWide_struct Tryd.underlying27 hv
  obtain ⟨c0, c1, c2, rfl⟩ := array3 (hsz.trans Tryd.cells27)
  obtain ⟨fuel, hf⟩ := h
  obtain ⟨r, ⟨rfl, h1, h3⟩, h2⟩ := open_rule_cells (v0 := c0) (v1 := c1) (v2 := c2) (by simpa [Value.cells] using hf)
  exact ⟨r, ⟨c1, c2, rfl, h1, h3⟩, h2⟩
set_option maxRecDepth 100000 in
theorem open_inProg {v : Value} {d : DataW H} {p : List MemPlace} {b0 : Nat} (hv : Value.okWide Tryd.prog W .any b0 42 v) (h : DataW.Trod enc Tryd.prog W 0 (fun _ => true) true 42 v d p) : ∃ q, InProg W v q := by
  obtain ⟨cs, rfl, hsz⟩ := okWide_struct Tryd.underlying42 hv
  obtain ⟨c0, c1, rfl⟩ := array2 (hsz.trans Tryd.cells42)
  obtain ⟨fuel, hf⟩ := h
  obtain ⟨y0, y1, n, _, _, h0, h1⟩ := trod_struct2 Tryd.underlying42 hf
  rw [Tryd.cells22] at h0
  rw [Tryd.cells40] at h1
  obtain ⟨xs, hx⟩ := open_inInts_cells (v := c0) (by simpa [Value.cells] using h0)
  obtain ⟨rs, hr, hn, hk⟩ := open_rules_cells (v := c1) (by simpa [Value.cells] using h1)
  exact ⟨(xs, rs), ⟨c0, c1, rfl, hx.1, hr⟩, hx.2, hn, hk⟩

/-- What is known of an int that came in. -/
def InInt (v : Value) (n : Int) : Prop := v = .int .i64 n ∧ -9223372036854775808 ≤ n ∧ n ≤ 9223372036854775807
set_option maxRecDepth 100000 in
theorem open_inInt {v : Value} {d : DataW H} {p : List MemPlace} {b0 : Nat} (hv : Value.okWide Tryd.prog W .any b0 3 v) (h : DataW.Trod enc Tryd.prog W 0 (fun _ => true) true 3 v d p) : ∃ n, InInt v n := by
  obtain ⟨n, rfl, _, _, hw⟩ := open_int Tryd.underlying3 hv h
  exact ⟨n, rfl, bounds_i64 hw⟩
end

end Go.Proofs.YtgacdehbdhhbnaaDoor
