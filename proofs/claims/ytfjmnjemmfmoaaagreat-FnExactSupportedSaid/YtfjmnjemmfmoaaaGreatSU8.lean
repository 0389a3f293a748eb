/-
  Texts that the claim's last one imports, laid together: part 8 of 9. No condition of its own.
-/
import Derived.Test.YtfjmnjemmfmoaaaGreatChecked
import Derived.ProofKit
import Derived.OpenShut
import Derived.ChangeOld
import Derived.WalkKit
import Derived.Deep.Slices
import Derived.Deep.Fields
import Derived.ChangeSame
import Derived.Lib.SmallJoins
import Derived.KernelRfl
import Derived.Deep.RegionHeld3
import Derived.Deep.RegionWith
import Derived.Deep.RegionLaw
import Derived.Laws.BitsAllLaws
import Derived.Deep.DeepCutAuto
import Derived.Laws.CopyOwn
import Derived.Deep.WholeRow
import Derived.Test.YtfjmnjemmfmoaaaGreatSU1
import Derived.Test.YtfjmnjemmfmoaaaGreatSU2
import Derived.Test.YtfjmnjemmfmoaaaGreatSU3
import Derived.Test.YtfjmnjemmfmoaaaGreatSU6
import Derived.Test.YtfjmnjemmfmoaaaGreatSU7
/-
  What comes in, opened: integers.
-/
namespace Go.Proofs.YtfjmnjemmfmoaaaGreat
open Go.ChangeShapes Go.WideShapes Go.ChangeAt Go.RowKit Go.Joins Go.Deep

theorem Tryz.own : ownKnob Tryz.prog.godebug = none := by kernel_rfl
theorem Tryz.laidOut : laidOutB Tryz.prog = true := by kernel_rfl
theorem Tryz.cells3 : Tryz.prog.cellsOf 3 = 1 := by kernel_rfl
theorem Tryz.cells22 : Tryz.prog.cellsOf 22 = 1 := by kernel_rfl

section
variable {H : Type} {enc : TypeId × Value → H} {W : World}

/-- What is known of a slice of integers that came in. -/
def InInts (W : World) (v : Value) (xs : List Int) : Prop := RdInts W W.heap.size v xs ∧ xs.length ≤ maxLen

/-- The cells of a slice of integers. -/
theorem open_inInts_cells {fuel : Nat} {v : Value} {x : DataW H × List MemPlace} (h : DataW.trod enc Tryz.prog W 0 (fun _ => true) true fuel 22 [v] = some x) : ∃ xs, InInts W v xs := by
  rcases open_ints Tryz.underlying22 Tryz.underlying3 Tryz.cells3 h with ⟨hcs, _⟩ | ⟨a, len, cap, zs, hcs, _, hl, hm, hz, _, hcell, _⟩
  · simp at hcs
    subst hcs
    exact ⟨[], ⟨none, 0, rfl, by simp, fun h => absurd h (by simp)⟩, by simp⟩
  · simp at hcs
    subst hcs
    simp at hz
    refine ⟨zs.take len, ⟨some a, cap, ?_, by simp; omega, fun hn => ?_⟩, by simp; omega⟩
    · congr 1
      simp
      omega
    · have hlen : (zs.take len).length = len := by simp; omega
      obtain ⟨b, o, rfl, hc⟩ := ints_at hcell (by omega)
      refine ⟨b, o, rfl, World.block_lt_of_cell? _ _ (hc 0 (by omega)), fun k hk => ?_⟩
      rw [hc k (by omega)]
      simp [show k < zs.length by omega]

set_option maxRecDepth 100000 in
theorem open_inInts {v : Value} {d : DataW H} {p : List MemPlace} {b0 : Nat} (hv : Value.okWide Tryz.prog W .any b0 22 v) (h : DataW.Trod enc Tryz.prog W 0 (fun _ => true) true 22 v d p) :
    ∃ xs, InInts W v xs := by
  obtain ⟨a, len, cap, rfl⟩ := okWide_slice Tryz.underlying22 hv
  obtain ⟨fuel, hf⟩ := h
  exact open_inInts_cells (by simpa [Value.cells] using hf)

/-- What is known of an int that came in. -/
def InInt (v : Value) (n : Int) : Prop := v = .int .i64 n ∧ -9223372036854775808 ≤ n ∧ n ≤ 9223372036854775807

set_option maxRecDepth 100000 in
theorem open_inInt {v : Value} {d : DataW H} {p : List MemPlace} {b0 : Nat} (hv : Value.okWide Tryz.prog W .any b0 3 v) (h : DataW.Trod enc Tryz.prog W 0 (fun _ => true) true 3 v d p) : ∃ n, InInt v n := by
  obtain ⟨n, rfl, _, _, hw⟩ := open_int Tryz.underlying3 hv h
  exact ⟨n, rfl, bounds_i64 hw⟩
end

end Go.Proofs.YtfjmnjemmfmoaaaGreat
/-
  What comes in, opened: atoms.
-/
namespace Go.Proofs.YtfjmnjemmfmoaaaGreat
open Go.ChangeShapes Go.WideShapes Go.ChangeAt Go.RowKit Go.Joins Go.Deep

theorem Tryz.cells88 : Tryz.prog.cellsOf 88 = 2 := by kernel_rfl

section
variable {H : Type} {enc : TypeId × Value → H} {W : World}

def InAtom (W : World) (v : Value) (f : LFact) : Prop := RdFact W W.heap.size v f ∧ f.2.length ≤ maxLen

set_option maxRecDepth 100000 in
theorem open_atom_cells {fuel : Nat} {v0 v1 : Value} {x : DataW H × List MemPlace} (h : DataW.trod enc Tryz.prog W 0 (fun _ => true) true fuel 88 [v0, v1] = some x) : ∃ f : LFact, v0 = .int .i64 f.1 ∧ InInts W v1 f.2 := by
  obtain ⟨y0, y1, n, _, _, h0, h1⟩ := trod_struct2 Tryz.underlying88 h
  rw [Tryz.cells3] at h0
  rw [Tryz.cells22] at h1
  obtain ⟨m, e0, _, _⟩ := DataW.trod_int Tryz.underlying3 h0
  obtain ⟨xs, hx⟩ := open_inInts_cells h1
  simp at e0
  exact ⟨(m, xs), e0, hx⟩

set_option maxRecDepth 100000 in
theorem open_inAtom {v : Value} {d : DataW H} {p : List MemPlace} {b0 : Nat} (hv : Value.okWide Tryz.prog W .any b0 88 v) (h : DataW.Trod enc Tryz.prog W 0 (fun _ => true) true 88 v d p) : ∃ f, InAtom W v f := by
  obtain ⟨cs, rfl, hsz⟩ := okWide_struct Tryz.underlying88 hv
  obtain ⟨c0, c1, rfl⟩ := array2 (hsz.trans Tryz.cells88)
  obtain ⟨fuel, hf⟩ := h
  obtain ⟨f, rfl, h1, h2⟩ := open_atom_cells (v0 := c0) (v1 := c1) (by simpa [Value.cells] using hf)
  exact ⟨f, ⟨c1, rfl, h1⟩, h2⟩
end

end Go.Proofs.YtfjmnjemmfmoaaaGreat
/-
  What comes in, opened: literals.
-/
namespace Go.Proofs.YtfjmnjemmfmoaaaGreat
open Go.ChangeShapes Go.WideShapes Go.ChangeAt Go.RowKit Go.Joins Go.Deep

theorem Tryz.cells90 : Tryz.prog.cellsOf 90 = 3 := by kernel_rfl
theorem Tryz.cells45 : Tryz.prog.cellsOf 45 = 1 := by kernel_rfl

section
variable {H : Type} {enc : TypeId × Value → H} {W : World}

def InLit (W : World) (v : Value) (l : LLit) : Prop := RdLit W W.heap.size v l ∧ l.2.2.length ≤ maxLen

def bodyFits (ls : List LLit) : Prop := ls.length ≤ maxLen ∧ ∀ k (h : k < ls.length), ls[k].2.2.length ≤ maxLen

set_option maxRecDepth 100000 in
theorem open_lit_cells {fuel : Nat} {v0 v1 v2 : Value} {x : DataW H × List MemPlace} (h : DataW.trod enc Tryz.prog W 0 (fun _ => true) true fuel 90 [v0, v1, v2] = some x) :
    ∃ l : LLit, QLit W W.heap.size v0 v1 v2 l ∧ l.2.2.length ≤ maxLen := by
  obtain ⟨y0, y1, n, _, _, h0, h1⟩ := trod_struct2 Tryz.underlying90 h
  rw [Tryz.cells3] at h0
  rw [Tryz.cells88] at h1
  obtain ⟨m, e0, _, _⟩ := DataW.trod_int Tryz.underlying3 h0
  obtain ⟨f, e1, hx⟩ := open_atom_cells (v0 := v1) (v1 := v2) h1
  simp at e0
  exact ⟨(m, f), ⟨e0, e1, hx.1⟩, hx.2⟩

/-- A slice of elements of three cells. -/
theorem open_row_cells {α : Type} [Inhabited α] {t e : TypeId} {Q : World → Nat → Value → Value → Value → α → Prop} {N : α → Prop} (ht : Tryz.prog.underlying t = some (.slice e)) (hc : Tryz.prog.cellsOf e = 3)
    (hQ : ∀ {fuel : Nat} {v0 v1 v2 : Value} {x : DataW H × List MemPlace}, DataW.trod enc Tryz.prog W 0 (fun _ => true) true fuel e [v0, v1, v2] = some x → ∃ y : α, Q W W.heap.size v0 v1 v2 y ∧ N y)
    {fuel : Nat} {v : Value} {x : DataW H × List MemPlace} (h : DataW.trod enc Tryz.prog W 0 (fun _ => true) true fuel t [v] = some x) :
    ∃ xs : List α, RdRow Q W W.heap.size v xs ∧ xs.length ≤ maxLen ∧ ∀ k (h : k < xs.length), N xs[k] := by
  rcases open_slice ht h with ⟨hcs, _⟩ | ⟨a, len, cap, m, n, D, Pl, hcs, _, hl, hm, hmm, _, hx⟩
  · simp at hcs
    subst hcs
    exact ⟨[], ⟨none, 0, rfl, by simp, fun h => absurd h (by simp)⟩, by simp, fun k h => absurd h (by simp)⟩
  · simp at hcs
    subst hcs
    simp at hmm
    subst hmm
    rw [hc] at hx
    obtain ⟨F, hF⟩ := choose_lt (α := Value × Value × Value × α) (n := m) (p := fun i q => W.cell? (a.add (i * 3)) = some q.1 ∧ W.cell? (a.add (i * 3 + 1)) = some q.2.1 ∧ W.cell? (a.add (i * 3 + 2)) = some q.2.2.1 ∧ Q W W.heap.size q.1 q.2.1 q.2.2.1 q.2.2.2 ∧ N q.2.2.2) (fun i hi => by
      obtain ⟨cs', h1, h2⟩ := hx i hi
      obtain ⟨_, hlen, hcell⟩ := World.cells?_some h1
      match cs', hlen with
      | [v0, v1, v2], _ =>
        have e0 := hcell 0 (by omega)
        have e1 := hcell 1 (by omega)
        have e2 := hcell 2 (by omega)
        rw [add_add] at e0 e1 e2
        obtain ⟨y, hy, hn⟩ := hQ h2
        exact ⟨(v0, v1, v2, y), by simpa using e0, by simpa using e1, by simpa using e2, hy, hn⟩)
    refine ⟨(List.range len).map fun i => (F i).2.2.2, ⟨some a, m, by simp, by simpa using hl, fun hn => ?_⟩, by simp; omega, fun k hk => ?_⟩
    · simp at hn
      obtain ⟨b, off, spot⟩ := a
      have hspot : spot = none := by simpa [Addr.add] using World.cell?_spot (hF 0 (by omega)).1
      subst hspot
      have hb : b < W.heap.size := by simpa [Addr.add] using World.block_lt_of_cell? _ _ (hF 0 (by omega)).1
      refine ⟨b, off, rfl, hb, fun k hk => ?_⟩
      simp at hk
      obtain ⟨c0, c1, c2, hq, _⟩ := hF k (by omega)
      rw [Go.WideShapes.add_plain] at c0 c1 c2
      exact ⟨_, _, _, by simpa using c0, by simpa [Nat.add_assoc] using c1, by simpa [Nat.add_assoc] using c2, by simpa using hq⟩
    · simp at hk ⊢
      exact (hF k (by omega)).2.2.2.2

set_option maxRecDepth 100000 in
theorem open_lits_cells {fuel : Nat} {v : Value} {x : DataW H × List MemPlace} (h : DataW.trod enc Tryz.prog W 0 (fun _ => true) true fuel 45 [v] = some x) : ∃ ls : List LLit, RdLits W W.heap.size v ls ∧ bodyFits ls :=
  open_row_cells (N := fun l : LLit => l.2.2.length ≤ maxLen) Tryz.underlying45 Tryz.cells90 (fun h => open_lit_cells h) h

def InLits (W : World) (v : Value) (ls : List LLit) : Prop := RdLits W W.heap.size v ls ∧ bodyFits ls
set_option maxRecDepth 100000 in
theorem open_inLits {v : Value} {d : DataW H} {p : List MemPlace} {b0 : Nat} (hv : Value.okWide Tryz.prog W .any b0 45 v) (h : DataW.Trod enc Tryz.prog W 0 (fun _ => true) true 45 v d p) :
    ∃ ls, InLits W v ls := by
  obtain ⟨a, len, cap, rfl⟩ := okWide_slice Tryz.underlying45 hv
  obtain ⟨fuel, hf⟩ := h
  exact open_lits_cells (by simpa [Value.cells] using hf)

set_option maxRecDepth 100000 in
theorem open_inLit {v : Value} {d : DataW H} {p : List MemPlace} {b0 : Nat} (hv : Value.okWide Tryz.prog W .any b0 90 v) (h : DataW.Trod enc Tryz.prog W 0 (fun _ => true) true 90 v d p) : ∃ l, InLit W v l := by
  obtain ⟨cs, rfl, hsz⟩ := okWide_struct Tryz.underlying90 hv
  obtain ⟨c0, c1, c2, rfl⟩ := array3 (hsz.trans Tryz.cells90)
  obtain ⟨fuel, hf⟩ := h
  obtain ⟨l, ⟨rfl, rfl, h1⟩, h2⟩ := open_lit_cells (v0 := c0) (v1 := c1) (v2 := c2) (by simpa [Value.cells] using hf)
  exact ⟨l, ⟨c2, rfl, h1⟩, h2⟩
end

end Go.Proofs.YtfjmnjemmfmoaaaGreat
/-
  What comes in, opened: rules.
-/
namespace Go.Proofs.YtfjmnjemmfmoaaaGreat
open Go.ChangeShapes Go.WideShapes Go.ChangeAt Go.RowKit Go.Joins Go.Deep

theorem Tryz.cells100 : Tryz.prog.cellsOf 100 = 3 := by kernel_rfl

section
variable {H : Type} {enc : TypeId × Value → H} {W : World}

def ruleFitsIn (r : LRule) : Prop := r.1.2.length ≤ maxLen ∧ bodyFits r.2

def InRule (W : World) (v : Value) (r : LRule) : Prop := RdRule W W.heap.size v r ∧ ruleFitsIn r

set_option maxRecDepth 100000 in
theorem open_rule_cells {fuel : Nat} {v0 v1 v2 : Value} {x : DataW H × List MemPlace} (h : DataW.trod enc Tryz.prog W 0 (fun _ => true) true fuel 100 [v0, v1, v2] = some x) :
    ∃ r : LRule, QRule W W.heap.size v0 v1 v2 r ∧ ruleFitsIn r := by
  obtain ⟨y0, y1, n, _, _, h0, h1⟩ := trod_struct2 Tryz.underlying100 h
  rw [Tryz.cells88] at h0
  rw [Tryz.cells45] at h1
  obtain ⟨f, e1, hx⟩ := open_atom_cells (v0 := v0) (v1 := v1) h0
  obtain ⟨ls, hl, hb⟩ := open_lits_cells (v := v2) h1
  exact ⟨(f, ls), ⟨e1, hx.1, hl⟩, hx.2, hb⟩

set_option maxRecDepth 100000 in
theorem open_inRule {v : Value} {d : DataW H} {p : List MemPlace} {b0 : Nat} (hv : Value.okWide Tryz.prog W .any b0 100 v) (h : DataW.Trod enc Tryz.prog W 0 (fun _ => true) true 100 v d p) : ∃ r, InRule W v r := by
  obtain ⟨cs, rfl, hsz⟩ := okWide_struct Tryz.underlying100 hv
  obtain ⟨c0, c1, c2, rfl⟩ := array3 (hsz.trans Tryz.cells100)
  obtain ⟨fuel, hf⟩ := h
  obtain ⟨r, ⟨rfl, h1, h3⟩, h2⟩ := open_rule_cells (v0 := c0) (v1 := c1) (v2 := c2) (by simpa [Value.cells] using hf)
  exact ⟨r, ⟨c1, c2, rfl, h1, h3⟩, h2⟩
end

end Go.Proofs.YtfjmnjemmfmoaaaGreat
/-
  What comes in, opened: integers, atoms, literals, rules, programs.
-/
namespace Go.Proofs.YtfjmnjemmfmoaaaGreat
open Go.ChangeShapes Go.WideShapes Go.ChangeAt Go.RowKit Go.Joins Go.Deep

theorem Tryz.cells25 : Tryz.prog.cellsOf 25 = 2 := by kernel_rfl
theorem Tryz.cells23 : Tryz.prog.cellsOf 23 = 1 := by kernel_rfl

/-- A program: its predicates' places, its rules. -/
abbrev LProg := List Int × List LRule
def RdProg (w : World) (B : Nat) (v : Value) (p : LProg) : Prop := ∃ a b, v = .agg #[a, b] ∧ RdInts w B a p.1 ∧ RdRules w B b p.2
theorem RdProg.on {w w' : World} {v : Value} {p : LProg} (h : RdProg w w.heap.size v p) (hb : Below w.heap.size w w') : RdProg w' w'.heap.size v p := by
  obtain ⟨a, b, rfl, h1, h2⟩ := h
  exact ⟨a, b, rfl, h1.on hb, h2.on hb⟩

section
variable {H : Type} {enc : TypeId × Value → H} {W : World}

def InProg (W : World) (v : Value) (p : LProg) : Prop := RdProg W W.heap.size v p ∧ p.1.length ≤ maxLen ∧ p.2.length ≤ maxLen ∧ ∀ k (h : k < p.2.length), ruleFitsIn p.2[k]

set_option maxRecDepth 100000 in
theorem open_rules_cells {fuel : Nat} {v : Value} {x : DataW H × List MemPlace} (h : DataW.trod enc Tryz.prog W 0 (fun _ => true) true fuel 23 [v] = some x) : ∃ rs : List LRule, RdRules W W.heap.size v rs ∧ rs.length ≤ maxLen ∧ ∀ k (h : k < rs.length), ruleFitsIn rs[k] :=
  open_row_cells (N := ruleFitsIn) Tryz.underlying23 Tryz.cells100 (fun h => open_rule_cells h) h

set_option maxRecDepth 100000 in
theorem open_inProg {v : Value} {d : DataW H} {p : List MemPlace} {b0 : Nat} (hv : Value.okWide Tryz.prog W .any b0 25 v) (h : DataW.Trod enc Tryz.prog W 0 (fun _ => true) true 25 v d p) : ∃ q, InProg W v q := by
  obtain ⟨cs, rfl, hsz⟩ := okWide_struct Tryz.underlying25 hv
  obtain ⟨c0, c1, rfl⟩ := array2 (hsz.trans Tryz.cells25)
  obtain ⟨fuel, hf⟩ := h
  obtain ⟨y0, y1, n, _, _, h0, h1⟩ := trod_struct2 Tryz.underlying25 hf
  rw [Tryz.cells22] at h0
  rw [Tryz.cells23] at h1
  obtain ⟨xs, hx⟩ := open_inInts_cells (v := c0) (by simpa [Value.cells] using h0)
  obtain ⟨rs, hr, hn, hk⟩ := open_rules_cells (v := c1) (by simpa [Value.cells] using h1)
  exact ⟨(xs, rs), ⟨c0, c1, rfl, hx.1, hr⟩, hx.2, hn, hk⟩
end

end Go.Proofs.YtfjmnjemmfmoaaaGreat
/-
  The walks over lists of rules and programs: szRuleS, toRuleS, eqRuleS, szProgram, toProgram, eqProgram.
-/
namespace Go.Proofs.YtfjmnjemmfmoaaaGreat
open Go.RowKit

theorem Tryz.infoRule : (Tryz.prog.info? 79).map (fun i => (i.zero, i.size, i.bytes)) = some (some (.agg #[.int .i64 0, .slice none 0 0, .slice none 0 0]), 3, 56) := by kernel_rfl

set_option maxHeartbeats 400000 in
theorem toRuleS_any (v : Value) (ls : List LRule) (w : World) (h : RdRules w w.heap.size v ls) (hl : ls.length ≤ 1048576) (hn : totR ls ≤ 1048576) :
    Calls Tryz.prog 39 #[v] w fun e w' => ∃ A' c', e = .returned (.slice A' ls.length c') ∧ OwnRules w' w.heap.size w'.heap.size (.slice A' ls.length c') ls ∧ Below w.heap.size w w' := by
  obtain ⟨i0, hi0, hz0, hz1, hz2⟩ := info_parts Tryz.infoRule
  have hmk := fun W => run_make_rowN (P := Tryz.prog) 30 79 i0 (.agg #[.int .i64 0, .slice none 0 0, .slice none 0 0]) Tryz.underlying30 hi0 hz0 .i64 .i64 ls.length ls.length (Nat.le_refl _) (by rw [hz2]; omega) (by omega) W
  rw [hz1] at hmk
  simp only [Value.cells] at hmk
  have H := Lib.hid h
  obtain ⟨A, c, rfl, hc, _⟩ := h
  go_enter Tryz.func39, Tryz.ntmps39
  go_wp2_with (fail)
  go_loopw [4] (fun i wr => ∃ (k : Nat), k ≤ ls.length ∧ i = .int .i64 k ∧ ToRow 79 (.int .i64 0) (.slice none 0 0) (.slice none 0 0) ORule w wr ls k) (fun i _ => ls.length - (intOf i).toNat)
  case atStart => exact ⟨0, Nat.zero_le _, rfl, ToRow.start w ls⟩
  case round =>
    obtain ⟨k, hk, rfl, hr⟩ := hrel
    by_cases hlt : k < ls.length
    · obtain ⟨b, o, u0, u1, u2, rfl, hbB, k0, k1, k2, rfl, k3, k4⟩ := (H.out.on hr.below).get hlt
      have HA := Lib.hid k3
      have HB := Lib.hid k4
      obtain ⟨A3, c3, rfl, hc4, _⟩ := k3
      obtain ⟨A5, c5, rfl, hc5, _⟩ := k4
      have hln := sz_le_totR ls k hlt
      go_wp2_with (fail)
      refine (toRule_any _ ls[k] _ ⟨_, _, rfl, HA.out, HB.out⟩ (by omega)).mono ?_
      rintro e w4 ⟨A4, c4, A6, c6, rfl, ho4, hl4, hb4⟩
      obtain ⟨r1, r2, r3, r4, r5, r6⟩ := hr.room hlt hb4
      have hstep := hr.step (O := ORule) ORule.keep ORule.mono hlt hb4 (u0 := .int .i64 ls[k].1.1) ⟨rfl, ho4, hl4⟩
      go_wp2_with (fail)
      go_roundw
      case rel => exact ⟨k + 1, by omega, by go_num, hstep⟩
      case measure => simp [intOf]; omega
    · have hkn : k = ls.length := by omega
      have HO := Lib.hid (show OwnRules wr w.heap.size wr.heap.size (.slice (some ⟨w.heap.size, 0, none⟩) ls.length ls.length) ls from ToRow.done (O := ORule) ORule.mono (by have h' := hr; rw [hkn] at h'; exact h'))
      have hbe := hr.below
      clear hkn hr
      go_wp2_with (fail)
      go_ret
      exact ⟨_, _, rfl, HO.out, hbe⟩

set_option maxHeartbeats 400000 in
set_option maxRecDepth 100000 in
theorem eqRuleS_any (va vb : Value) (xs ys : List LRule) (w : World) (ha : RdRules w w.heap.size va xs) (hb : RdRules w w.heap.size vb ys) (hx : xs.length ≤ 1048576) (hy : ys.length ≤ 1048576) (htx : totR xs ≤ 1048576) (hty : totR ys ≤ 1048576) :
    Calls Tryz.prog 16 #[va, vb] w fun e w' => e = .returned (.bool (decide (xs = ys))) ∧ Below w.heap.size w w' := by
  have HX := Lib.hid ha
  have HY := Lib.hid hb
  obtain ⟨A, c, rfl, hc, _⟩ := ha
  obtain ⟨A2, c2, rfl, hc2, _⟩ := hb
  by_cases hl : xs.length = ys.length
  · have hl1 : ((xs.length : Int) != (ys.length : Int)) = false := by simp [hl]
    have HL := Lib.hid hl
    clear hl
    go_enter Tryz.func16, Tryz.ntmps16
    go_wp2_with (fail)
    go_loopw [5] (fun i wr => ∃ k : Nat, k ≤ xs.length ∧ i = .int .i64 k ∧ TSame xs ys k ∧ Below w.heap.size w wr) (fun i _ => xs.length - (intOf i).toNat)
    case atStart => exact ⟨0, Nat.zero_le _, rfl, rfl, Below.refl _ _⟩
    case round =>
      obtain ⟨k, hk, rfl, hs, hbe⟩ := hrel
      by_cases hlt : k < xs.length
      · have hlt2 : k < ys.length := by have := HL.out; omega
        obtain ⟨b, o, u0, u1, u2, rfl, hbB, k0, k1, k2, rfl, p3, p4⟩ := (HX.out.on hbe).get hlt
        obtain ⟨b2, o2, v0, v1, v2, rfl, hbB2, m0, m1, m2, rfl, q3, q4⟩ := (HY.out.on hbe).get hlt2
        have hln := sz_le_totR xs k hlt
        have hln2 := sz_le_totR ys k hlt2
        have HA := Lib.hid p3
        have HA2 := Lib.hid q3
        have HB := Lib.hid p4
        have HB2 := Lib.hid q4
        obtain ⟨A3, c3, rfl, hc3, _⟩ := p3
        obtain ⟨A4, c4, rfl, hc4, _⟩ := q3
        obtain ⟨A5, c5, rfl, hc5, _⟩ := p4
        obtain ⟨A6, c6, rfl, hc6, _⟩ := q4
        go_wp2_with (fail)
        go_still_tail 8, (by kernel_rfl)
        change wpList _ _ _ _ _ wr.drew
        obtain ⟨w2, hw2⟩ : ∃ w2, w2 = wr.drew := ⟨_, rfl⟩
        rw [← hw2]
        have hbe2 : Below wr.heap.size wr w2 := by rw [hw2]; exact (Below.refl _ _).drew
        clear hw2
        go_wp2_with (fail)
        refine (eqRule_any _ _ xs[k] ys[k] _ ⟨_, _, rfl, HA.out.on hbe2, HB.out.on hbe2⟩ ⟨_, _, rfl, HA2.out.on hbe2, HB2.out.on hbe2⟩ (by omega) (by omega)).mono ?_
        rintro e w4 ⟨rfl, hb4⟩
        have hB4 := bthen hbe (bthen hbe2 hb4)
        by_cases he : xs[k] = ys[k]
        · have hdb : decide (xs[k] = ys[k]) = true := by simp [he]
          have HS := Lib.hid (hs.step hlt hlt2 he)
          clear he hs
          go_wp2_with (fail)
          go_roundw
          case rel => exact ⟨k + 1, by omega, by go_num, HS.out, hB4⟩
          case measure => simp [intOf]; omega
        · have hdb : decide (xs[k] = ys[k]) = false := by simp [he]
          have HE := Lib.hid (show xs ≠ ys from fun e => he (by subst e; rfl))
          clear he hs
          go_wp2_with (fail)
          go_ret
          exact ⟨ret_bool (by simp [HE.out]), hB4⟩
      · have hkn : k = xs.length := by omega
        have HE := Lib.hid (show xs = ys from TSame.eq (by rw [← hkn]; exact hs) HL.out)
        clear hkn hs
        go_wp2_with (fail)
        go_ret
        exact ⟨ret_bool (by simp [HE.out]), hbe⟩
  · have hl1 : ((xs.length : Int) != (ys.length : Int)) = true := by simp; omega
    have HE := Lib.hid (show xs ≠ ys from fun e => hl (by rw [e]))
    clear hl
    go_enter Tryz.func16, Tryz.ntmps16
    go_wp2_with (fail)
    go_ret
    exact ⟨ret_bool (by simp [HE.out]), Below.refl _ _⟩

set_option maxHeartbeats 400000 in
theorem szRuleS_any (v : Value) (ls : List LRule) (left : Int) (w : World) (h : RdRules w w.heap.size v ls) (h0 : 0 ≤ left) (hl : left ≤ 1048576) (hn : ls.length ≤ 9223372036854775807) (hm : ∀ k (h : k < ls.length), ruleLens ls[k]) :
    Calls Tryz.prog 31 #[v, .int .i64 left] w fun e w' => ∃ r, e = .returned (.int .i64 r) ∧ SzRes r left (ls.length + totR ls) ∧ Below w.heap.size w w' := by
  have H := Lib.hid h
  obtain ⟨A, c, rfl, hc, _⟩ := h
  by_cases hneg : left - (ls.length : Int) < 0
  · go_enter Tryz.func31, Tryz.ntmps31
    go_wp2_with (fail)
    go_ret
    exact ⟨_, rfl, .inl rfl, Below.refl _ _⟩
  · go_enter Tryz.func31, Tryz.ntmps31
    go_wp2_with (fail)
    go_loopw [1, 5] (fun l i wr => ∃ (k : Nat) (r : Int), k ≤ ls.length ∧ i = .int .i64 k ∧ l = .int .i64 r ∧ SzTo r left ls.length (totR (ls.take k)) ∧ Below w.heap.size w wr) (fun _ i _ => ls.length - (intOf i).toNat)
    case atStart => exact ⟨0, _, Nat.zero_le _, rfl, rfl, ⟨by omega, by simp [totR]⟩, Below.refl _ _⟩
    case round =>
      obtain ⟨k, r, hk, rfl, rfl, hs, hbe⟩ := hrel
      by_cases hlt : k < ls.length
      · obtain ⟨b, o, u0, u1, u2, rfl, hbB, k0, k1, k2, rfl, p3, p4⟩ := (H.out.on hbe).get hlt
        have HA := Lib.hid p3
        have HB := Lib.hid p4
        obtain ⟨A3, c3, rfl, hc3, _⟩ := p3
        obtain ⟨A5, c5, rfl, hc5, _⟩ := p4
        have hmk := hm k hlt
        have htk := totR_take ls k hlt
        have hr0 := hs.1
        have hr1 := hs.2
        have HT := Lib.hid (And.intro htk hr1)
        clear htk hr1
        go_wp2_with (fail)
        refine (szRule_any _ ls[k] r _ ⟨_, _, rfl, HA.out, HB.out⟩ hr0 (by have := HT.out; omega) hmk).mono ?_
        rintro e w4 ⟨z, rfl, hz, hb4⟩
        have hB4 := bthen hbe hb4
        rcases hz with rfl | ⟨z0, z1⟩
        · go_wp2_with (fail)
          go_ret
          exact ⟨_, rfl, .inl rfl, hB4⟩
        · have h1 : ¬ z < 0 := by omega
          have HS := Lib.hid (show SzTo z left ls.length (totR (ls.take (k + 1))) from ⟨z0, by have := HT.out; omega⟩)
          clear z1
          go_wp2_with (fail)
          go_roundw
          case rel => exact ⟨k + 1, _, by omega, by go_num, rfl, HS.out, hB4⟩
          case measure => simp [intOf]; omega
      · have hkn : k = ls.length := by omega
        have HE := Lib.hid (show SzRes r left (ls.length + totR ls) from .inr ⟨hs.1, by have := hs.2; rw [hkn, List.take_length] at this; omega⟩)
        clear hkn hs
        go_wp2_with (fail)
        go_ret
        exact ⟨_, rfl, HE.out, hbe⟩

/-- What szProgram counts. -/
def szP (p : LProg) : Nat := p.1.length + (p.2.length + totR p.2)
def progLens (p : LProg) : Prop := p.1.length ≤ 9223372036854775807 ∧ p.2.length ≤ 9223372036854775807 ∧ ∀ k (h : k < p.2.length), ruleLens p.2[k]

set_option maxHeartbeats 400000 in
theorem szProgram_any (v : Value) (p : LProg) (left : Int) (w : World) (h : RdProg w w.heap.size v p) (h0 : 0 ≤ left) (hl : left ≤ 1048576) (hn : progLens p) :
    Calls Tryz.prog 6 #[v, .int .i64 left] w fun e w' => ∃ z, e = .returned (.int .i64 z) ∧ SzRes z left (szP p) ∧ Below w.heap.size w w' := by
  obtain ⟨a, b, rfl, h, h2⟩ := h
  obtain ⟨hn1, hn2, hn3⟩ := hn
  have H := Lib.hid h
  have H2 := Lib.hid h2
  obtain ⟨A, c, rfl, hc, _⟩ := h
  obtain ⟨A2, c2, rfl, hcc, _⟩ := h2
  have hcs := szV_cases left p.1.length
  go_enter Tryz.func6, Tryz.ntmps6
  go_wp2_with (fail)
  obtain ⟨w1, hw1⟩ : ∃ w1, w1 = w.alloc (Obj.cells #[Value.slice A p.1.length c, Value.slice A2 p.2.length c2] 25) := ⟨_, rfl⟩
  have B1 : Below w.heap.size w w1 := by rw [hw1]; exact below1 _ _
  have x1 : Blk w1 w.heap.size 25 #[.slice A p.1.length c, .slice A2 p.2.length c2] := by rw [hw1]; exact Blk.new w _ _
  have hx2 : w1.cell? ⟨w.heap.size, 1, none⟩ = some (.slice A2 p.2.length c2) := x1.cell 1
  rw [← hw1]
  clear hw1
  refine (szIntS_any _ _ _ _ _ h0 hl hn1).mono ?_
  rintro e w' ⟨rfl, rfl⟩
  rcases hcs with ⟨e1, e2⟩ | ⟨e1, e2⟩
  · rw [e1]
    have HV := Lib.hid e1
    clear e1
    go_wp2_with (fail)
    go_ret
    exact ⟨_, rfl, .inl rfl, B1⟩
  · have h1 : ¬ szV left p.1.length < 0 := by omega
    go_wp2_with (fail)
    refine (szRuleS_any _ p.2 _ _ (H2.out.on B1) e1 (by omega) hn2 hn3).mono ?_
    rintro e w2 ⟨z, rfl, hz, hb2⟩
    have hB2 := bthen B1 hb2
    rcases hz with rfl | ⟨z0, z1⟩
    · go_wp2_with (fail)
      go_ret
      exact ⟨_, rfl, .inl rfl, hB2⟩
    · have hz : ¬ z < 0 := by omega
      have HZ := Lib.hid (show SzRes z left (szP p) from .inr ⟨z0, by unfold szP; omega⟩)
      clear z0 z1 e1 e2
      go_wp2_with (fail)
      go_ret
      exact ⟨_, rfl, HZ.out, hB2⟩

theorem OwnRules.below {w w' : World} {lo hi B : Nat} {v : Value} {rs : List LRule} (h : OwnRules w lo hi v rs) (hb : Below B w w') (hB : hi ≤ B) : OwnRules w' lo hi v rs := h.keep fun g _ h2 => hb.block g (by omega)
theorem OwnRules.far {w : World} {lo hi : Nat} {v : Value} {rs : List LRule} (h : OwnRules w lo hi v rs) {p : Addr} (hp : p.block < lo) (u : Value) : OwnRules (w.setCell p u) lo hi v rs :=
  h.keep fun g h1 _ => Below.heap_setCell _ _ _ _ (by omega)

set_option maxHeartbeats 1000000 in
theorem toProgram_any (v : Value) (p : LProg) (w : World) (h : RdProg w w.heap.size v p) (hn : szP p ≤ 1048576) :
    Calls Tryz.prog 9 #[v] w fun e w' => ∃ A' c' A2' c2', e = .returned (.agg #[.slice A' p.1.length c', .slice A2' p.2.length c2']) ∧ OwnInts w' w.heap.size w'.heap.size (.slice A' p.1.length c') p.1 ∧ OwnRules w' w.heap.size w'.heap.size (.slice A2' p.2.length c2') p.2 ∧ Below w.heap.size w w' := by
  obtain ⟨a, b, rfl, h, h2⟩ := h
  unfold szP at hn
  have H := Lib.hid h
  have H2 := Lib.hid h2
  obtain ⟨A, c, rfl, hc, _⟩ := h
  obtain ⟨A2, c2, rfl, hcc, _⟩ := h2
  go_enter Tryz.func9, Tryz.ntmps9
  go_wp2_with (fail)
  obtain ⟨w3, hw3⟩ : ∃ w3, w3 = ((w.alloc (Obj.cells #[Value.slice A p.1.length c, Value.slice A2 p.2.length c2] 25)).alloc (Obj.cells #[.slice none 0 0, .slice none 0 0] 32)).alloc (Obj.cells #[.slice none 0 0, .slice none 0 0] 32) := ⟨_, rfl⟩
  have B3 : Below w.heap.size w w3 := by rw [hw3]; exact below3 _ _ _ _
  have s3 : w3.heap.size = w.heap.size + 3 := by rw [hw3]; simp
  have x0 : Blk w3 w.heap.size 25 #[.slice A p.1.length c, .slice A2 p.2.length c2] := by rw [hw3]; exact ((Blk.new w _ _).alloc _).alloc _
  have x1 : Blk w3 (w.heap.size + 1) 32 #[.slice none 0 0, .slice none 0 0] := by
    rw [hw3]
    simpa using (Blk.new (w.alloc (Obj.cells #[Value.slice A p.1.length c, Value.slice A2 p.2.length c2] 25)) _ _).alloc _
  have x2 : Blk w3 (w.heap.size + 2) 32 #[.slice none 0 0, .slice none 0 0] := by
    rw [hw3]
    simpa using Blk.new ((w.alloc (Obj.cells #[Value.slice A p.1.length c, Value.slice A2 p.2.length c2] 25)).alloc (Obj.cells #[.slice none 0 0, .slice none 0 0] 32)) _ _
  rw [← hw3]
  clear hw3
  refine (toIntS_any _ p.1 _ (H.out.on B3) (by omega)).mono ?_
  rintro e w4 ⟨A4, c4, rfl, ho, hb⟩
  have y0 := x0.below hb x0.lt
  have y1 := x1.below hb x1.lt
  have y2 := x2.below hb x2.lt
  have z2c0 : w4.cell? ⟨w.heap.size + 2, 0, none⟩ = some (.slice none 0 0) := y2.cell 0
  have z2f0 := y2.frozen 0
  have z0c2 : w4.cell? ⟨w.heap.size, 1, none⟩ = some (.slice A2 p.2.length c2) := y0.cell 1
  go_wp2_with (fail)
  obtain ⟨w5, hw5⟩ : ∃ w5, w5 = w4.setCell ⟨w.heap.size + 2, 0, none⟩ (.slice A4 p.1.length c4) := ⟨_, rfl⟩
  have s5 : w5.heap.size = w4.heap.size := by rw [hw5]; simp
  have s4 := hb.size
  have u2 : Blk w5 (w.heap.size + 2) 32 #[.slice A4 p.1.length c4, .slice none 0 0] := by
    rw [hw5]
    simpa using y2.set_ 0 (.slice A4 p.1.length c4)
  have u1 : Blk w5 (w.heap.size + 1) 32 #[.slice none 0 0, .slice none 0 0] := by rw [hw5]; exact y1.far (by simp) _
  have B5 : Below w.heap.size w w5 := by rw [hw5]; exact (bthen B3 hb).setCell (by simp) _
  have O5 : OwnInts w5 w3.heap.size w4.heap.size (.slice A4 p.1.length c4) p.1 := by rw [hw5]; exact ho.far (by simp [s3]) _
  rw [← hw5]
  clear hw5 z2c0 z2f0 z0c2
  refine (toRuleS_any _ p.2 _ (H2.out.on B5) (by omega) (by omega)).mono ?_
  rintro e w6 ⟨A6, c6, rfl, ho6, hb6⟩
  have v1 := u1.below hb6 u1.lt
  have v2 := u2.below hb6 u2.lt
  have B6 := bthen B5 hb6
  have O6 := O5.below hb6 (by omega)
  have s6 := hb6.size
  have b1c0 : w6.cell? ⟨w.heap.size + 1, 0, none⟩ = some (.slice none 0 0) := v1.cell 0
  have b1c1 : w6.cell? ⟨w.heap.size + 1, 1, none⟩ = some (.slice none 0 0) := v1.cell 1
  have b2c0 : w6.cell? ⟨w.heap.size + 2, 0, none⟩ = some (.slice A4 p.1.length c4) := v2.cell 0
  have b2c1 : w6.cell? ⟨w.heap.size + 2, 1, none⟩ = some (.slice none 0 0) := v2.cell 1
  have b1f0 := v1.frozen 0
  have b1f1 := v1.frozen 1
  have b2f1 := v2.frozen 1
  clear y0 y1 y2 x0 x1 x2
  go_wp2_with (fail)
  refine bodyPost_ret (v := .agg #[.slice A4 p.1.length c4, .slice A6 p.2.length c6]) (by simp [results, Tryz.results9, go_sem, b1c0, b1c1]) rfl ⟨_, _, _, _, rfl, ?_, ?_, ?_⟩
  · refine OwnInts.mono (lo := w3.heap.size) (hi := w4.heap.size) ?_ (by omega) (by simp; omega)
    repeat (first | exact O6 | refine OwnInts.far ?_ (by simp [s3]) _)
  · refine OwnRules.mono (lo := w5.heap.size) (hi := w6.heap.size) ?_ (by omega) (by simp)
    repeat (first | exact ho6 | refine OwnRules.far ?_ (by simp; omega) _)
  · repeat (first | exact B6 | refine Below.setCell ?_ (by first | (simp; done) | (simp; omega)) _)

set_option maxHeartbeats 1000000 in
theorem eqProgram_any (v v2 : Value) (f g : LProg) (w : World) (h : RdProg w w.heap.size v f) (h2 : RdProg w w.heap.size v2 g) (hn : szP f ≤ 1048576) (hn2 : szP g ≤ 1048576) :
    Calls Tryz.prog 12 #[v, v2] w fun e w' => e = .returned (.bool (decide (f = g))) ∧ Below w.heap.size w w' := by
  obtain ⟨a, b, rfl, h, h3⟩ := h
  obtain ⟨a2, b2, rfl, h2, h4⟩ := h2
  unfold szP at hn hn2
  have H := Lib.hid h
  have H2 := Lib.hid h2
  have H3 := Lib.hid h3
  have H4 := Lib.hid h4
  obtain ⟨A, c, rfl, hc, _⟩ := h
  obtain ⟨A2, c2, rfl, hc2, _⟩ := h2
  obtain ⟨A3, c3, rfl, hc3, _⟩ := h3
  obtain ⟨A4, c4, rfl, hc4, _⟩ := h4
  go_enter Tryz.func12, Tryz.ntmps12
  go_wp2_with (fail)
  obtain ⟨w2, hw2⟩ : ∃ w2, w2 = (w.alloc (Obj.cells #[Value.slice A f.1.length c, Value.slice A3 f.2.length c3] 32)).alloc (Obj.cells #[Value.slice A2 g.1.length c2, Value.slice A4 g.2.length c4] 32) := ⟨_, rfl⟩
  have B2 : Below w.heap.size w w2 := by rw [hw2]; exact below2 _ _ _
  have x0 : Blk w2 w.heap.size 32 #[.slice A f.1.length c, .slice A3 f.2.length c3] := by rw [hw2]; exact (Blk.new w _ _).alloc _
  have x1 : Blk w2 (w.heap.size + 1) 32 #[.slice A2 g.1.length c2, .slice A4 g.2.length c4] := by
    rw [hw2]
    simpa using Blk.new (w.alloc (Obj.cells #[Value.slice A f.1.length c, Value.slice A3 f.2.length c3] 32)) _ _
  rw [← hw2]
  clear hw2
  refine (eqIntS_any _ _ f.1 g.1 _ (H.out.on B2) (H2.out.on B2) (by omega) (by omega)).mono ?_
  rintro e w4 ⟨rfl, hb⟩
  have y0 := x0.below hb x0.lt
  have y1 := x1.below hb x1.lt
  have B4 := bthen B2 hb
  have z0 : w4.cell? ⟨w.heap.size, 1, none⟩ = some (.slice A3 f.2.length c3) := y0.cell 1
  have z1 : w4.cell? ⟨w.heap.size + 1, 1, none⟩ = some (.slice A4 g.2.length c4) := y1.cell 1
  by_cases hp : f.1 = g.1
  · have hpb : decide (f.1 = g.1) = true := by simp [hp]
    have HE := Lib.hid (show decide (f = g) = decide (f.2 = g.2) from decide_eq_decide.2 ⟨fun e => by rw [e], fun e => Prod.ext hp e⟩)
    clear hp
    go_wp2_with (fail)
    refine (eqRuleS_any _ _ f.2 g.2 _ (H3.out.on B4) (H4.out.on B4) (by omega) (by omega) (by omega) (by omega)).mono ?_
    rintro e w5 ⟨rfl, hb5⟩
    have B5 := bthen B4 hb5
    by_cases hd : f.2 = g.2
    · have hdb : decide (f.2 = g.2) = true := by simp [hd]
      have HD := Lib.hid hdb
      clear hd
      go_wp2_with (fail)
      go_ret
      exact ⟨ret_bool (by rw [HE.out, HD.out]), B5⟩
    · have hdb : decide (f.2 = g.2) = false := by simp [hd]
      have HD := Lib.hid hdb
      clear hd
      go_wp2_with (fail)
      go_ret
      exact ⟨ret_bool (by rw [HE.out, HD.out]), B5⟩
  · have hpb : decide (f.1 = g.1) = false := by simp [hp]
    have HE := Lib.hid (show decide (f = g) = false from decide_eq_false fun e => hp (by rw [e]))
    clear hp
    go_wp2_with (fail)
    go_ret
    exact ⟨ret_bool HE.out.symm, B4⟩

end Go.Proofs.YtfjmnjemmfmoaaaGreat
/-
  The walks of both ProgramOk, of l2Has, and of both Positive.
-/
namespace Go.Proofs.YtfjmnjemmfmoaaaGreat
open Go.RowKit

def progOk (p : LProg) : Bool := arityOk p.1 && (decide (p.2.length ≤ 60) && p.2.all (ruleFits p.1))
theorem progOk_spec (p : LProg) : progOk p = (p.2.all (ruleOk p.1) && (arityOk p.1 && decide (p.2.length ≤ 60))) := by
  unfold progOk
  by_cases ha : arityOk p.1 = true
  · have : p.2.all (ruleOk p.1) = p.2.all (ruleFits p.1) := by
      congr 1
      funext r
      unfold ruleOk
      rw [ha, Bool.true_and]
    rw [this, ha]
    cases p.2.all (ruleFits p.1) <;> cases decide (p.2.length ≤ 60) <;> rfl
  · have ha' : arityOk p.1 = false := by simpa using ha
    rw [ha']
    simp

set_option maxHeartbeats 1000000 in
set_option maxRecDepth 100000 in
theorem implProgramOk_any (v : Value) (p : LProg) (w : World) (h : RdProg w w.heap.size v p) (hs : szP p ≤ 1048576) :
    Calls Tryz.prog 41 #[v] w fun e w' => e = .returned (.bool (progOk p)) ∧ Below w.heap.size w w' := by
  unfold szP at hs
  obtain ⟨a, b, rfl, h, h2⟩ := h
  have H := Lib.hid h
  have H2 := Lib.hid h2
  obtain ⟨A, c, rfl, hc, _⟩ := h
  obtain ⟨A2, c2, rfl, hc2, _⟩ := h2
  go_enter Tryz.func41, Tryz.ntmps41
  go_wp2_with (fail)
  refine (arityOk_any _ p.1 _ (H.out.on (below1 _ _)) (by omega)).mono ?_
  rintro e w2 ⟨rfl, hb2⟩
  have B2 := bthen (below1 _ _) hb2
  have x2 : Blk w2 w.heap.size 32 #[.slice A p.1.length c, .slice A2 p.2.length c2] := (Blk.new w _ _).below hb2 (by simp)
  have q1 : w2.cell? ⟨w.heap.size, 1, none⟩ = some (.slice A2 p.2.length c2) := x2.cell 1
  by_cases hf : arityOk p.1 = true
  · rw [hf]
    have HF := Lib.hid hf
    clear hf hb2
    by_cases hl : p.2.length ≤ 60
    · have hd : decide ((60 : Int) < (p.2.length : Int)) = false := by simp; omega
      have HL := Lib.hid (show progOk p = p.2.all (ruleFits p.1) by simp [progOk, HF.out, hl])
      go_wp2_with (fail)
      go_loopw [18] (fun i wr => ∃ k : Nat, k ≤ p.2.length ∧ i = .int .i64 k ∧ AllTo (ruleFits p.1) p.2 k ∧ Below w2.heap.size w2 wr) (fun i _ => p.2.length - (intOf i).toNat)
      case atStart => exact ⟨0, Nat.zero_le _, rfl, AllTo.start, Below.refl _ _⟩
      case round =>
        obtain ⟨k, hk, rfl, hs, hbe⟩ := hrel
        have BW := bthen B2 hbe
        have xr := x2.below hbe x2.lt
        clear q1
        by_cases hlt : k < p.2.length
        · obtain ⟨b, o, u0, u1, u2, rfl, hbB, k0, k1, k2, rfl, p3, p4⟩ := (H2.out.on BW).get hlt
          have HA := Lib.hid p3
          have HB := Lib.hid p4
          obtain ⟨A4, c4, rfl, hc4, _⟩ := p3
          obtain ⟨A5, c5, rfl, hc5, _⟩ := p4
          have hle := sz_le_totR p.2 k hlt
          have q0 : ∀ O, (wr.alloc O).cell? ⟨w.heap.size, 0, none⟩ = some (.slice A p.1.length c) := fun O => (xr.alloc O).cell 0
          go_wp2_with (fail)
          refine (ruleFits_any _ _ p.1 p.2[k] _ ((H.out.on BW).on (below1 _ _)) ⟨_, _, rfl, HA.out.on (below1 _ _), HB.out.on (below1 _ _)⟩ (by omega)).mono ?_
          rintro e w4 ⟨rfl, hb4⟩
          have B4 := bthen hbe (bthen (below1 _ _) hb4)
          by_cases he : ruleFits p.1 p.2[k] = true
          · rw [he]
            have HS := Lib.hid (hs.step hlt he)
            clear hs he
            go_wp2_with (fail)
            go_roundw
            case rel => exact ⟨k + 1, by omega, by go_num, HS.out, B4⟩
            case measure => simp [intOf]; omega
          · have he' : ruleFits p.1 p.2[k] = false := by simpa using he
            rw [he']
            have HE := Lib.hid (show progOk p = false by rw [HL.out, all_not hlt he'])
            clear hs he he'
            go_wp2_with (fail)
            go_ret
            exact ⟨ret_bool HE.out.symm, bthen B2 B4⟩
        · have HE := Lib.hid (show progOk p = true by rw [HL.out, hs.done (by omega)])
          clear hs
          go_wp2_with (fail)
          go_ret
          exact ⟨ret_bool HE.out.symm, BW⟩
    · have hd : decide ((60 : Int) < (p.2.length : Int)) = true := by simp; omega
      have HE := Lib.hid (show progOk p = false by simp [progOk, hl])
      go_wp2_with (fail)
      go_ret
      exact ⟨ret_bool HE.out.symm, B2⟩
  · have hf' : arityOk p.1 = false := by simpa using hf
    rw [hf']
    have HE := Lib.hid (show progOk p = false by simp [progOk, hf'])
    clear hf hf'
    go_wp2_with (fail)
    go_ret
    exact ⟨ret_bool HE.out.symm, B2⟩

set_option maxHeartbeats 1000000 in
set_option maxRecDepth 100000 in
theorem specProgramOk_any (v : Value) (p : LProg) (w : World) (h : RdProg w w.heap.size v p) (hs : szP p ≤ 1048576) :
    Calls Tryz.prog 33 #[v] w fun e w' => e = .returned (.bool (progOk p)) ∧ Below w.heap.size w w' := by
  unfold szP at hs
  obtain ⟨a, b, rfl, h, h2⟩ := h
  have H := Lib.hid h
  have H2 := Lib.hid h2
  have HP := Lib.hid (progOk_spec p)
  obtain ⟨A, c, rfl, hc, _⟩ := h
  obtain ⟨A2, c2, rfl, hc2, _⟩ := h2
  go_enter Tryz.func33, Tryz.ntmps33
  go_wp2_with (fail)
  obtain ⟨w2, hw2⟩ : ∃ w2, w2 = w.alloc (Obj.cells #[Value.slice A p.1.length c, Value.slice A2 p.2.length c2] 32) := ⟨_, rfl⟩
  have B2 : Below w.heap.size w w2 := by rw [hw2]; exact below1 _ _
  have x2 : Blk w2 w.heap.size 32 #[.slice A p.1.length c, .slice A2 p.2.length c2] := by rw [hw2]; exact Blk.new _ _ _
  rw [← hw2]
  clear hw2
  go_loopw [3] (fun i wr => ∃ k : Nat, k ≤ p.2.length ∧ i = .int .i64 k ∧ AllTo (ruleOk p.1) p.2 k ∧ Below w2.heap.size w2 wr) (fun i _ => p.2.length - (intOf i).toNat)
  case atStart => exact ⟨0, Nat.zero_le _, rfl, AllTo.start, Below.refl _ _⟩
  case round =>
    obtain ⟨k, hk, rfl, hs, hbe⟩ := hrel
    have BW := bthen B2 hbe
    have xr := x2.below hbe x2.lt
    have q0 : wr.cell? ⟨w.heap.size, 0, none⟩ = some (.slice A p.1.length c) := xr.cell 0
    have q1 : wr.cell? ⟨w.heap.size, 1, none⟩ = some (.slice A2 p.2.length c2) := xr.cell 1
    by_cases hlt : k < p.2.length
    · obtain ⟨b, o, u0, u1, u2, rfl, hbB, k0, k1, k2, rfl, p3, p4⟩ := (H2.out.on BW).get hlt
      have HA := Lib.hid p3
      have HB := Lib.hid p4
      obtain ⟨A4, c4, rfl, hc4, _⟩ := p3
      obtain ⟨A5, c5, rfl, hc5, _⟩ := p4
      have hle := sz_le_totR p.2 k hlt
      have L0 := later_cell k0
      have L1 := later_cell k1
      have L2 := later_cell k2
      have L3 := later_cell q0
      have L4 := later_cell q1
      by_cases he : ruleOk p.1 p.2[k] = true
      · have CF := Lib.hid (fun x : Later wr => (specRuleOk_any (.slice A p.1.length c) (.agg #[.int .i64 p.2[k].1.1, .slice A4 p.2[k].1.2.length c4, .slice A5 p.2[k].2.length c5]) p.1 p.2[k] x.val ((H.out.on BW).on x.2) ⟨_, _, rfl, HA.out.on x.2, HB.out.on x.2⟩ (by omega) (by omega)).mono fun e w' (hh : e = .returned (.bool (ruleOk p.1 p.2[k])) ∧ Below x.val.heap.size x.val w') => (⟨by rw [hh.1, he], hh.2⟩ : e = .returned (.bool true) ∧ Below x.val.heap.size x.val w'))
        have HS := Lib.hid (hs.step hlt he)
        clear hs he
        go_wp2_with (fail)
        clear k0 k1 k2 q0 q1
        refine wp_region_later (by kernel_rfl) (by kernel_rfl) ?_
        repeat (go_big_quiet_step ((go_at_call 66; exact later_of (CF.out _))))
        refine wpQuiet_nil ?_
        rintro _ ⟨xq, rfl⟩
        go_wp2_with (fail)
        go_roundw
        case rel => exact ⟨k + 1, by omega, by go_num, HS.out, bthen hbe xq.2⟩
        case measure => simp [intOf]; omega
      · have he' : ruleOk p.1 p.2[k] = false := by simpa using he
        have CF := Lib.hid (fun x : Later wr => (specRuleOk_any (.slice A p.1.length c) (.agg #[.int .i64 p.2[k].1.1, .slice A4 p.2[k].1.2.length c4, .slice A5 p.2[k].2.length c5]) p.1 p.2[k] x.val ((H.out.on BW).on x.2) ⟨_, _, rfl, HA.out.on x.2, HB.out.on x.2⟩ (by omega) (by omega)).mono fun e w' (hh : e = .returned (.bool (ruleOk p.1 p.2[k])) ∧ Below x.val.heap.size x.val w') => (⟨by rw [hh.1, he'], hh.2⟩ : e = .returned (.bool false) ∧ Below x.val.heap.size x.val w'))
        have HE := Lib.hid (show progOk p = false by rw [HP.out, all_not hlt he']; rfl)
        clear hs he he'
        go_wp2_with (fail)
        clear k0 k1 k2 q0 q1
        refine wp_region_later (by kernel_rfl) (by kernel_rfl) ?_
        repeat (go_big_quiet_step ((go_at_call 66; exact later_of (CF.out _))))
        refine wpQuiet_nil ?_
        rintro _ ⟨xq, rfl⟩
        go_wp2_with (fail)
        go_ret
        exact ⟨ret_bool HE.out.symm, bthen BW xq.2⟩
    · have HE := Lib.hid (show progOk p = (arityOk p.1 && decide (p.2.length ≤ 60)) by rw [HP.out, hs.done (by omega), Bool.true_and])
      clear hs
      go_wp2_with (fail)
      refine (specArityOk_any _ p.1 _ (H.out.on BW) (by omega)).mono ?_
      rintro e w' ⟨rfl, rfl⟩
      by_cases hf : arityOk p.1 = true
      · rw [hf]
        by_cases hl : p.2.length ≤ 60
        · have hd : decide ((p.2.length : Int) ≤ 60) = true := by simp; omega
          have HE2 := Lib.hid (show progOk p = true by rw [HE.out, hf]; simp [hl])
          clear hf
          go_wp2_with (fail)
          go_ret
          exact ⟨ret_bool (by rw [HE2.out]), BW⟩
        · have hd : decide ((p.2.length : Int) ≤ 60) = false := by simp; omega
          have HE2 := Lib.hid (show progOk p = false by rw [HE.out]; simp [hl])
          clear hf
          go_wp2_with (fail)
          go_ret
          exact ⟨ret_bool (by rw [HE2.out]), BW⟩
      · have hf' : arityOk p.1 = false := by simpa using hf
        rw [hf']
        have HE2 := Lib.hid (show progOk p = false by rw [HE.out, hf']; rfl)
        clear hf hf'
        go_wp2_with (fail)
        go_ret
        exact ⟨ret_bool HE2.out.symm, BW⟩

end Go.Proofs.YtfjmnjemmfmoaaaGreat
/-
  The walk of the specification's FactOk.
-/
namespace Go.Proofs.YtfjmnjemmfmoaaaGreat
open Go.RowKit

set_option maxHeartbeats 400000 in
set_option maxRecDepth 100000 in
theorem specFactOk_any (v v2 : Value) (ar : List Int) (f : LFact) (w : World) (h : RdInts w w.heap.size v ar) (h2 : RdFact w w.heap.size v2 f) (hr : ar.length ≤ 1048576) (hn : f.2.length ≤ 1048576) :
    Calls Tryz.prog 68 #[v, v2] w fun e w' => e = .returned (.bool (factOk ar f)) ∧ Below w.heap.size w w' := by
  have H := Lib.hid h
  have H2 := Lib.hid h2
  obtain ⟨pp, xs⟩ := f
  obtain ⟨A, c, rfl, hc, h⟩ := h
  obtain ⟨a, rfl, A2, c2, rfl, hc2, h2⟩ := h2
  by_cases ha : arityOk ar = true
  · have CA : ∀ W, Below w.heap.size w W → Calls Tryz.prog 67 #[.slice A ar.length c] W fun e w' => e = .returned (.bool true) ∧ w' = W := fun W hW =>
      (specArityOk_any _ ar W (H.out.on hW) (by omega)).mono fun e w' ⟨he, hw⟩ => ⟨by rw [he, ha], hw.symm⟩
    have HCA := Lib.hid CA
    have HA := Lib.hid ha
    clear CA ha
    by_cases hp : 0 ≤ pp ∧ pp ≤ (ar.length : Int) - 1
    · have HCL := Lib.hid (l1In_yes hp)
      obtain ⟨p, rfl⟩ := Int.eq_ofNat_of_zero_le hp.1
      have hlt : p < ar.length := by omega
      have hltI : (p : Int) < (ar.length : Int) := by omega
      obtain ⟨b, o, rfl, hbB, hx⟩ := h (by omega)
      have hck : ∀ O, (w.alloc O).cell? ⟨b, o + p, none⟩ = some (.int .i64 ar[p]) := fun O => (World.cell?_alloc_lt w O ⟨b, o + p, none⟩ hbB).trans (hx p hlt)
      clear hp
      by_cases h3 : (xs.length : Int) = ar[p]
      · have hd3 : ((xs.length : Int) != ar[p]) = false := by simp [h3]
        have H3 := Lib.hid (show factOk ar ((p : Int), xs) = xs.all constOk by simp [factOk, HA.out, factFits, hlt, h3])
        clear h3 hx h
        go_enter Tryz.func68, Tryz.ntmps68
        go_wp2_with (fail)
        go_quiet (first | (go_at_call 67; exact Calls.quiet_of_same (HCA.out _ (bdrewN (below1 _ _) _))) | (go_at_call 89; exact quiet_left (HCL.out _)))
        go_wp2_with (fail)
        obtain ⟨w1, hw1⟩ : ∃ w1, w1 = (w.alloc (Obj.cells #[Value.int IntKind.i64 ↑p, Value.slice A2 xs.length c2] 67)).drewN nq := ⟨_, rfl⟩
        rw [← hw1]
        have hbe : Below w.heap.size w w1 := by rw [hw1]; exact bdrewN (below1 _ _) _
        have hblk : Blk w1 w.heap.size 67 #[.int .i64 p, .slice A2 xs.length c2] := by rw [hw1]; exact (Blk.new w _ _).drewN _
        have hc1 : w1.cell? ⟨w.heap.size, 1, none⟩ = some (.slice A2 xs.length c2) := hblk.cell 1
        clear hw1 hck
        go_loop [5] (fun i => ∃ k : Nat, k ≤ xs.length ∧ i = .int .i64 k ∧ ConstsTo xs k) (fun i => xs.length - (intOf i).toNat)
        case atStart => exact ⟨0, Nat.zero_le _, rfl, fun j hj => absurd hj (by omega)⟩
        case round =>
          obtain ⟨k, hk, rfl, hs⟩ := hrel
          by_cases hlk : k < xs.length
          · obtain ⟨b2, o2, rfl, hbB2, hx2⟩ := h2 (by show 0 < xs.length; omega)
            have hck2 : w1.cell? ⟨b2, o2 + k, none⟩ = some (.int .i64 xs[k]) := (hbe.cell (p := ⟨b2, o2 + k, none⟩) hbB2).trans (hx2 k hlk)
            clear hx2 h2
            by_cases he : 0 ≤ xs[k] ∧ xs[k] ≤ 5
            · have HS := Lib.hid (hs.step (by simpa [hlk, constOk] using he))
              have HK := Lib.hid (l1In_yes he)
              clear hs he
              go_wp2_with (go_at_call 89; refine (HK.out _).mono ?_; rintro e w' ⟨rfl, rfl⟩)
              go_round
              case rel => exact ⟨k + 1, by omega, by go_num, HS.out⟩
              case measure => simp [intOf]; omega
            · have HE := Lib.hid (consts_not hlk (by simpa [constOk] using he))
              have HK := Lib.hid (l1In_no he)
              clear hs he
              go_wp2_with (go_at_call 89; refine (HK.out _).mono ?_; rintro e w' ⟨rfl, rfl⟩)
              go_ret
              exact ⟨ret_bool (by rw [H3.out, HE.out]), hbe⟩
          · have hkn : k = xs.length := by omega
            have HE := Lib.hid (show xs.all constOk = true from ConstsTo.all (by rw [← hkn]; exact hs))
            clear hkn hs h2
            go_wp2_with (fail)
            go_ret
            exact ⟨ret_bool (by rw [H3.out, HE.out]), hbe⟩
      · have hd3 : ((xs.length : Int) != ar[p]) = true := by simp [h3]
        have HE := Lib.hid (show factOk ar ((p : Int), xs) = false by simp [factOk, factFits, hlt, h3])
        clear h3 hx h
        go_enter Tryz.func68, Tryz.ntmps68
        go_wp2_with (fail)
        go_quiet (first | (go_at_call 67; exact Calls.quiet_of_same (HCA.out _ (bdrewN (below1 _ _) _))) | (go_at_call 89; exact quiet_left (HCL.out _)))
        go_wp2_with (fail)
        go_ret
        exact ⟨ret_bool HE.out.symm, bdrewN (below1 _ _) _⟩
    · have HCL := Lib.hid (l1In_no hp)
      have HE := Lib.hid (show factOk ar (pp, xs) = false by simp [factOk, factFits]; omega)
      clear hp
      go_enter Tryz.func68, Tryz.ntmps68
      go_wp2_with (fail)
      go_quiet (first | (go_at_call 67; exact Calls.quiet_of_same (HCA.out _ (bdrewN (below1 _ _) _))) | (go_at_call 89; exact quiet_left (HCL.out _)))
      go_wp2_with (fail)
      go_ret
      exact ⟨ret_bool HE.out.symm, bdrewN (below1 _ _) _⟩
  · have CA : ∀ W, Below w.heap.size w W → Calls Tryz.prog 67 #[.slice A ar.length c] W fun e w' => e = .returned (.bool false) ∧ w' = W := fun W hW =>
      (specArityOk_any _ ar W (H.out.on hW) (by omega)).mono fun e w' ⟨he, hw⟩ => ⟨by rw [he, show arityOk ar = false by simpa using ha], hw.symm⟩
    have HCA := Lib.hid CA
    have HE := Lib.hid (show factOk ar (pp, xs) = false by simp [factOk, ha])
    clear CA ha
    go_enter Tryz.func68, Tryz.ntmps68
    go_wp2_with (fail)
    go_quiet (first | (go_at_call 67; exact Calls.quiet_of_same (HCA.out _ (bdrewN (below1 _ _) _))))
    go_wp2_with (fail)
    go_ret
    exact ⟨ret_bool HE.out.symm, bdrewN (below1 _ _) _⟩

end Go.Proofs.YtfjmnjemmfmoaaaGreat
/-
  The walks of FactsOk: the program's and the specification's.
-/
namespace Go.Proofs.YtfjmnjemmfmoaaaGreat
open Go.RowKit

def roundOk (ar : List Int) (fs : List LFact) (k : Nat) : Bool := factFits ar (fs.getD k (0, [])) && (decide (k = 0) || decide (factOrder (fs.getD (k - 1) (0, [])) (fs.getD k (0, [])) < 0))
def factsOk (ar : List Int) (fs : List LFact) : Bool := arityOk ar && (List.range fs.length).all (roundOk ar fs)
def OkTo (ar : List Int) (fs : List LFact) (k : Nat) : Prop := (List.range k).all (roundOk ar fs) = true
theorem OkTo.step {ar : List Int} {fs : List LFact} {k : Nat} (h : OkTo ar fs k) (e : roundOk ar fs k = true) : OkTo ar fs (k + 1) := by
  unfold OkTo at h ⊢
  rw [List.range_succ, List.all_append, h]
  simp [e]
theorem round_not {ar : List Int} {fs : List LFact} {k : Nat} (hk : k < fs.length) (e : roundOk ar fs k = false) : factsOk ar fs = false := by
  unfold factsOk
  have : (List.range fs.length).all (roundOk ar fs) = false := by
    rw [List.all_eq_false]
    exact ⟨k, List.mem_range.2 hk, by simp [e]⟩
  rw [this, Bool.and_false]
theorem getD_at {α : Type} {l : List α} {k : Nat} (h : k < l.length) {d : α} : l.getD k d = l[k] := by simp [h]
theorem round_first {ar : List Int} {fs : List LFact} {k : Nat} (hk : k < fs.length) (h : factFits ar fs[k] = true) (h0 : k = 0) : roundOk ar fs k = true := by
  unfold roundOk
  rw [getD_at hk, h]
  simp [h0]
theorem round_next {ar : List Int} {fs : List LFact} {j : Nat} (hk : j + 1 < fs.length) (hj : j < fs.length) (h : factFits ar fs[j + 1] = true) : roundOk ar fs (j + 1) = decide (factOrder fs[j] fs[j + 1] < 0) := by
  unfold roundOk
  rw [getD_at hk, h, Nat.add_sub_cancel, getD_at hj]
  simp
theorem round_unfit {ar : List Int} {fs : List LFact} {k : Nat} (hk : k < fs.length) (h : factFits ar fs[k] = false) : roundOk ar fs k = false := by
  unfold roundOk
  rw [getD_at hk, h]
  simp
theorem later_fact {w0 : World} {v : Value} {f : LFact} (h : RdFact w0 w0.heap.size v f) (x : Later w0) : RdFact x.val x.val.heap.size v f := h.on x.2
theorem later_ints {w0 : World} {v : Value} {f : List Int} (h : RdInts w0 w0.heap.size v f) (x : Later w0) : RdInts x.val x.val.heap.size v f := h.on x.2

set_option maxHeartbeats 1000000 in
set_option maxRecDepth 100000 in
theorem specFactsOk_any (v v2 : Value) (ar : List Int) (fs : List LFact) (w : World) (h : RdInts w w.heap.size v ar) (h2 : RdFacts w w.heap.size v2 fs) (hr : ar.length ≤ 1048576) (hn : fs.length ≤ 1048576) (ht : tot fs ≤ 1048576) :
    Calls Tryz.prog 34 #[v, v2] w fun e w' => e = .returned (.bool (factsOk ar fs)) ∧ Below w.heap.size w w' := by
  have H := Lib.hid h
  have H2 := Lib.hid h2
  obtain ⟨A, c, rfl, hc, _⟩ := h
  obtain ⟨A2, c2, rfl, hc2, _⟩ := h2
  go_enter Tryz.func34, Tryz.ntmps34
  go_wp2_with (fail)
  go_loopw [5] (fun i wr => ∃ k : Nat, k ≤ fs.length ∧ i = .int .i64 k ∧ OkTo ar fs k ∧ Below w.heap.size w wr) (fun i _ => fs.length - (intOf i).toNat)
  case atStart => exact ⟨0, Nat.zero_le _, rfl, by simp [OkTo], Below.refl _ _⟩
  case round =>
    obtain ⟨k, hk, rfl, hs, hbe⟩ := hrel
    by_cases hlt : k < fs.length
    · obtain ⟨b, o, A3, c3, rfl, hbB, k1, k2, k3⟩ := (H2.out.on hbe).get hlt
      have K3 := Lib.hid (show RdFact wr wr.heap.size (.agg #[.int .i64 fs[k].1, .slice A3 fs[k].2.length c3]) fs[k] from ⟨_, rfl, k3⟩)
      have hln := len_le_tot fs k hlt
      have L1 := later_cell k1
      have L2 := later_cell k2
      clear k1 k2 k3
      by_cases hfo : factOk ar fs[k] = true
      · have CF := Lib.hid (fun x : Later wr => (specFactOk_any _ _ ar fs[k] x.val ((H.out.on hbe).on x.2) (K3.out.on x.2) hr (by omega)).mono fun e w' (hh : e = .returned (.bool (factOk ar fs[k])) ∧ Below x.val.heap.size x.val w') => (⟨by rw [hh.1, hfo], hh.2⟩ : e = .returned (.bool true) ∧ Below x.val.heap.size x.val w'))
        have hff : factFits ar fs[k] = true := by
          unfold factOk at hfo
          exact (Bool.and_eq_true _ _ ▸ hfo).2
        have HA := Lib.hid (show arityOk ar = true by
          unfold factOk at hfo
          exact (Bool.and_eq_true _ _ ▸ hfo).1)
        clear hfo
        rcases Nat.eq_zero_or_pos k with hk0 | hk0
        · have hd : decide (0 < k) = false := by simp [hk0]
          have HS := Lib.hid (hs.step (round_first hlt hff hk0) : OkTo ar fs (k + 1))
          clear hs hk0 hff
          go_wp2_with (fail)
          refine wp_region_later (by kernel_rfl) (by kernel_rfl) ?_
          repeat (go_big_quiet_step ((go_at_call 68; exact later_of (CF.out _))))
          refine wpQuiet_nil ?_
          rintro _ ⟨xq, rfl⟩
          go_wp2_with (fail)
          go_roundw
          case rel => exact ⟨k + 1, by omega, by go_num, HS.out, bthen hbe xq.2⟩
          case measure => simp [intOf]; omega
        · obtain ⟨j, rfl⟩ : ∃ j, k = j + 1 := ⟨k - 1, by omega⟩
          have hltj : j < fs.length := by omega
          obtain ⟨b', o', A4, c4, e4, hbB', m1, m2, m3⟩ := (H2.out.on hbe).get hltj
          simp only [Option.some.injEq, Addr.mk.injEq, and_true] at e4
          obtain ⟨rfl, rfl⟩ := e4
          have K4 := Lib.hid (show RdFact wr wr.heap.size (.agg #[.int .i64 fs[j].1, .slice A4 fs[j].2.length c4]) fs[j] from ⟨_, rfl, m3⟩)
          have hlnj := len_le_tot fs j hltj
          have M1 := later_cell m1
          have M2 := later_cell m2
          have CO := Lib.hid (fun x : Later wr => specFactOrder_any _ _ fs[j] fs[j + 1] x.val (K4.out.on x.2) (K3.out.on x.2) (by omega) (by omega))
          clear m1 m2 m3
          by_cases hlo : factOrder fs[j] fs[j + 1] < 0
          · have hd : decide (0 ≤ factOrder fs[j] fs[j + 1]) = false := by simp; omega
            have HS := Lib.hid (hs.step (by rw [round_next hlt hltj hff]; simp [hlo]) : OkTo ar fs (j + 1 + 1))
            clear hs hff
            go_wp2_with (fail)
            refine wp_region_later (by kernel_rfl) (by kernel_rfl) ?_
            repeat (go_big_quiet_step (first | (go_at_call 68; exact later_of (CF.out _)) | (go_at_call 69; exact later_of (CO.out _))))
            refine wpQuiet_nil ?_
            rintro _ ⟨xq, rfl⟩
            go_wp2_with (fail)
            go_roundw
            case rel => exact ⟨j + 1 + 1, by omega, by go_num, HS.out, bthen hbe xq.2⟩
            case measure => simp [intOf]; omega
          · have hd : decide (0 ≤ factOrder fs[j] fs[j + 1]) = true := by simp; omega
            have HE := Lib.hid (show factsOk ar fs = false from round_not hlt (by rw [round_next hlt hltj hff]; simp [hlo]))
            clear hs hff
            go_wp2_with (fail)
            refine wp_region_later (by kernel_rfl) (by kernel_rfl) ?_
            repeat (go_big_quiet_step (first | (go_at_call 68; exact later_of (CF.out _)) | (go_at_call 69; exact later_of (CO.out _))))
            refine wpQuiet_nil ?_
            rintro _ ⟨xq, rfl⟩
            go_wp2_with (fail)
            go_ret
            exact ⟨ret_bool HE.out.symm, bthen hbe xq.2⟩
      · have CF := Lib.hid (fun x : Later wr => (specFactOk_any _ _ ar fs[k] x.val ((H.out.on hbe).on x.2) (K3.out.on x.2) hr (by omega)).mono fun e w' (hh : e = .returned (.bool (factOk ar fs[k])) ∧ Below x.val.heap.size x.val w') => (⟨by rw [hh.1, show factOk ar fs[k] = false by simpa using hfo], hh.2⟩ : e = .returned (.bool false) ∧ Below x.val.heap.size x.val w'))
        have HE := Lib.hid (show factsOk ar fs = false by
          by_cases ha : arityOk ar = true
          · exact round_not hlt (round_unfit hlt (by simpa [factOk, ha] using hfo))
          · simp [factsOk, ha])
        clear hs hfo
        go_wp2_with (fail)
        refine wp_region_later (by kernel_rfl) (by kernel_rfl) ?_
        repeat (go_big_quiet_step ((go_at_call 68; exact later_of (CF.out _))))
        refine wpQuiet_nil ?_
        rintro _ ⟨xq, rfl⟩
        go_wp2_with (fail)
        go_ret
        exact ⟨ret_bool HE.out.symm, bthen hbe xq.2⟩
    · have hkn : k = fs.length := by omega
      have HE := Lib.hid (show factsOk ar fs = arityOk ar by unfold factsOk; unfold OkTo at hs; rw [← hkn, hs, Bool.and_true])
      clear hkn hs
      go_wp2_with (fail)
      refine (specArityOk_any _ ar _ (H.out.on hbe) (by omega)).mono ?_
      rintro e w2 ⟨rfl, rfl⟩
      go_wp2_with (fail)
      go_ret
      exact ⟨ret_bool HE.out.symm, hbe⟩

end Go.Proofs.YtfjmnjemmfmoaaaGreat
/-
  The specification's l1Pick, FactsBoth and FactsLess.
-/
namespace Go.Proofs.YtfjmnjemmfmoaaaGreat
open Go.RowKit

theorem filter_tot_le (p : LFact → Bool) : ∀ l : List LFact, tot (l.filter p) ≤ tot l
  | [] => by simp [tot]
  | f :: l => by
    have := filter_tot_le p l
    by_cases h : p f = true <;> simp [h, tot_cons] <;> omega

/-- The facts of a list that another has, or has not. -/
def pickL (xs ys : List LFact) (b : Bool) : List LFact := setOf (xs.filter fun f => factsHas ys f == b)
theorem pickL_bound (xs ys : List LFact) (b : Bool) : (pickL xs ys b).length ≤ xs.length ∧ tot (pickL xs ys b) ≤ tot xs := by
  have h := setOf_bound (xs.filter fun f => factsHas ys f == b)
  have h1 := List.length_filter_le (fun f => factsHas ys f == b) xs
  have h2 := filter_tot_le (fun f => factsHas ys f == b) xs
  unfold pickL
  omega
theorem pickL_yes {xs ys : List LFact} {b : Bool} {k : Nat} (h : k < xs.length) (e : factsHas ys xs[k] = b) : pickL (xs.take (k + 1)) ys b = factsWith (pickL (xs.take k) ys b) xs[k] := by
  unfold pickL
  rw [take_snoc xs k h, List.filter_append, ← setOf_snoc]
  simp [e]
theorem pickL_no {xs ys : List LFact} {b : Bool} {k : Nat} (h : k < xs.length) (e : factsHas ys xs[k] ≠ b) : pickL (xs.take (k + 1)) ys b = pickL (xs.take k) ys b := by
  unfold pickL
  rw [take_snoc xs k h, List.filter_append]
  simp [e]

set_option maxHeartbeats 1000000 in
set_option maxRecDepth 100000 in
theorem l1Pick_any (v v2 : Value) (xs ys : List LFact) (inb : Bool) (w : World) (h : RdFacts w w.heap.size v xs) (h2 : RdFacts w w.heap.size v2 ys) (hn : xs.length + ys.length ≤ 1048576) (ht : tot xs + tot ys ≤ 1048576) :
    Calls Tryz.prog 70 #[v, v2, .bool inb] w fun e w' => ∃ A' c', e = .returned (.slice A' (pickL xs ys inb).length c') ∧ OwnFacts w' w.heap.size w'.heap.size (.slice A' (pickL xs ys inb).length c') (pickL xs ys inb) ∧ Below w.heap.size w w' := by
  have H := Lib.hid h
  have H2 := Lib.hid h2
  obtain ⟨A, c, rfl, hc, _⟩ := h
  obtain ⟨A2, c2, rfl, hc2, _⟩ := h2
  go_enter Tryz.func70, Tryz.ntmps70
  go_wp2_with (fail)
  go_loopw [7, 8] (fun o i wr => ∃ (k : Nat) (gs : List LFact) (A' : Option Addr) (c' : Nat), k ≤ xs.length ∧ i = .int .i64 k ∧ gs = pickL (xs.take k) ys inb ∧ o = .slice A' gs.length c' ∧ OwnFacts wr w.heap.size wr.heap.size (.slice A' gs.length c') gs ∧ Below w.heap.size w wr) (fun _ i _ => xs.length - (intOf i).toNat)
  case atStart => exact ⟨0, [], _, 0, Nat.zero_le _, rfl, rfl, rfl, (ColRel.empty w).own.own.mono (Nat.le_refl _) (Nat.le_refl _), below1 _ _⟩
  case round =>
    obtain ⟨k, gs, A', c', hk, rfl, hgs, rfl, ho, hbe⟩ := hrel
    have hbd := pickL_bound (xs.take k) ys inb
    rw [← hgs, List.length_take] at hbd
    have htk := tot_take_le xs k
    have HO := Lib.hid ho
    have HG := Lib.hid hgs
    clear ho hgs
    by_cases hlt : k < xs.length
    · obtain ⟨b, o, A3, c3, rfl, hbB, k1, k2, k3⟩ := (H.out.on hbe).get hlt
      have hln := len_le_tot xs k hlt
      have K3 := Lib.hid (show RdFact wr wr.heap.size (.agg #[.int .i64 xs[k].1, .slice A3 xs[k].2.length c3]) xs[k] from ⟨_, rfl, k3⟩)
      clear k3
      go_wp2_with (fail)
      refine (specFactsHas_any _ _ ys xs[k] _ (H2.out.on hbe) K3.out (by omega) (by omega) (by omega)).mono ?_
      rintro e w1 ⟨rfl, hb1⟩
      have k11 : w1.cell? ⟨b, o + k * 2, none⟩ = some (.int .i64 xs[k].1) := (hb1.cell hbB).trans k1
      have k12 : w1.cell? ⟨b, o + k * 2 + 1, none⟩ = some (.slice A3 xs[k].2.length c3) := (hb1.cell hbB).trans k2
      have O1 := HO.out.below hb1 (Nat.le_refl _)
      have B1 := bthen hbe hb1
      have K31 := Lib.hid (K3.out.on hb1)
      have hz1 := hb1.size
      clear k1 k2 K3 HO
      by_cases he : factsHas ys xs[k] = inb
      · have HE := Lib.hid (show factsWith gs xs[k] = pickL (xs.take (k + 1)) ys inb by rw [pickL_yes hlt he, ← HG.out])
        have hq : (factsHas ys xs[k] == inb) = true := by simp [he]
        have HO1 := Lib.hid O1
        rw [he]
        clear he O1 hq
        go_wp2_with (fail)
        refine (specFactsWith_any _ _ gs xs[k] _ (HO1.out.rd.more hz1) K31.out (by omega) (by omega) (by omega)).mono ?_
        rintro e w2 ⟨A4, c4, rfl, ho4, hb4⟩
        have HR := Lib.hid (show OwnFacts w2 w.heap.size w2.heap.size _ _ from ho4.mono B1.size (Nat.le_refl _))
        have HB := Lib.hid (bthen B1 hb4)
        clear ho4 hb4
        go_wp2_with (fail)
        go_roundw
        case rel => exact ⟨k + 1, factsWith gs xs[k], _, _, by omega, by go_num, HE.out, rfl, HR.out, HB.out⟩
        case measure => simp [intOf]; omega
      · have HE := Lib.hid (show gs = pickL (xs.take (k + 1)) ys inb by rw [pickL_no hlt he, ← HG.out])
        have hq : (factsHas ys xs[k] == inb) = false := by simp [he]
        have HO1 := Lib.hid (O1.mono (Nat.le_refl _) hz1)
        clear he O1
        go_wp2_with (fail)
        go_roundw
        case rel => exact ⟨k + 1, gs, _, _, by omega, by go_num, HE.out, rfl, HO1.out, B1⟩
        case measure => simp [intOf]; omega
    · have hkn : k = xs.length := by omega
      subst hkn
      have HY := Lib.hid (show gs = pickL xs ys inb by rw [HG.out, List.take_length])
      have HB := Lib.hid hbe
      clear HG
      go_wp2_with (fail)
      go_ret
      rw [← HY.out]
      exact ⟨A', c', rfl, HO.out, HB.out⟩

theorem specFactsLess_any (v v2 : Value) (xs ys : List LFact) (w : World) (h : RdFacts w w.heap.size v xs) (h2 : RdFacts w w.heap.size v2 ys) (hn : xs.length + ys.length ≤ 1048576) (ht : tot xs + tot ys ≤ 1048576) :
    Calls Tryz.prog 35 #[v, v2] w fun e w' => ∃ A' c', e = .returned (.slice A' (pickL xs ys false).length c') ∧ OwnFacts w' w.heap.size w'.heap.size (.slice A' (pickL xs ys false).length c') (pickL xs ys false) ∧ Below w.heap.size w w' := by
  have H := Lib.hid h
  have H2 := Lib.hid h2
  obtain ⟨A, c, rfl, hc, _⟩ := h
  obtain ⟨A2, c2, rfl, hc2, _⟩ := h2
  go_enter Tryz.func35, Tryz.ntmps35
  go_wp2_with (fail)
  refine (l1Pick_any _ _ xs ys false _ H.out H2.out hn ht).mono ?_
  rintro e w1 ⟨A', c', rfl, ho, hb⟩
  have HO := Lib.hid (And.intro ho hb)
  clear ho hb
  go_wp2_with (fail)
  go_ret
  exact ⟨A', c', rfl, HO.out.1, HO.out.2⟩

end Go.Proofs.YtfjmnjemmfmoaaaGreat
/-
  The specification's Consequences and Closed.
-/
namespace Go.Proofs.YtfjmnjemmfmoaaaGreat
open Go.RowKit

/-- The heads that follow. -/
def consL (p : LProg) (fs : List LFact) : List LFact := if progOk p && factsOk p.1 fs then headsAll p.2 fs else []
def closedL (p : LProg) (fs : List LFact) : Bool := progOk p && (factsOk p.1 fs && decide ((pickL (headsAll p.2 fs) fs false).length = 0))

theorem factsOk_parts {ar : List Int} {fs : List LFact} (h : factsOk ar fs = true) : arityOk ar = true ∧ (∀ f ∈ fs, factFits ar f = true) ∧ Asc fs := by
  simp only [factsOk, Bool.and_eq_true, List.all_eq_true, List.mem_range] at h
  obtain ⟨h1, h2⟩ := h
  refine ⟨h1, fun f hf => ?_, ?_⟩
  · obtain ⟨k, hk, rfl⟩ := List.getElem_of_mem hf
    have := h2 k hk
    unfold roundOk at this
    rw [getD_at hk, Bool.and_eq_true] at this
    exact this.1
  · have hs : ∀ k (h0 : k + 1 < fs.length), factOrder (fs[k]'(by omega)) fs[k + 1] < 0 := fun k h0 => by
      have := h2 (k + 1) h0
      unfold roundOk at this
      rw [getD_at h0, Nat.add_sub_cancel, getD_at (show k < fs.length by omega), Bool.and_eq_true] at this
      simpa using this.2
    have hd : ∀ d k (h0 : k + d + 1 < fs.length), factOrder (fs[k]'(by omega)) fs[k + d + 1] < 0 := fun d => by
      induction d with
      | zero => intro k h0; exact hs k h0
      | succ d ih =>
        intro k h0
        exact order_less (ih k (by omega)) (hs (k + d + 1) h0)
    unfold Asc
    rw [List.pairwise_iff_getElem]
    intro i j hi hj hij
    obtain ⟨d, rfl⟩ : ∃ d, j = i + d + 1 := ⟨j - i - 1, by omega⟩
    exact hd d i hj
theorem prog_parts {p : LProg} (h : progOk p = true) : arityOk p.1 = true ∧ p.2.length ≤ 60 ∧ ∀ r ∈ p.2, ruleFits p.1 r = true := by
  simp only [progOk, Bool.and_eq_true, decide_eq_true_eq, List.all_eq_true] at h
  exact ⟨h.1, h.2.1, h.2.2⟩

end Go.Proofs.YtfjmnjemmfmoaaaGreat
/-
  The heads of a rule by its solutions: plain mathematics.
-/
namespace Go.Proofs.YtfjmnjemmfmoaaaGreat
open Go.RowKit

theorem safeTo_or {a b y : Nat} (h : safeTo (a ||| b) y 4 = true) : safeTo b y 4 = true := by
  rw [safeTo_iff] at h ⊢
  intro v hv hb
  exact h v hv (by rw [Nat.testBit_or, hb, Bool.or_true])
/-- A rule that fits has a body that can be asked. -/
theorem fits_body {ar : List Int} {r : LRule} (h : ruleFits ar r = true) : bodySafe r.2 = true := by
  simp only [ruleFits, Bool.and_eq_true, decide_eq_true_eq] at h
  obtain ⟨_, h4, hl, hs⟩ := h
  unfold bodySafe
  rw [Bool.and_eq_true, Bool.and_eq_true, decide_eq_true_eq, List.all_eq_true]
  refine ⟨⟨fun l hm => ?_, h4⟩, ?_⟩
  · have hf := List.all_eq_true.1 hl l hm
    refine litFine_yes ?_ (lit_terms hf)
    unfold litFits at hf
    split at hf
    · omega
    · split at hf
      · omega
      · cases hf
  · rw [ruleSafe_eq] at hs ⊢
    rw [ruleMask_body]
    exact safeTo_or hs
/-- The variables of the head stand in an atom that is to hold. -/
theorem fits_head {ar : List Int} {r : LRule} (h : ruleFits ar r = true) : ∀ v, v < 4 → (maskOf r.1.2).testBit v = true → ∃ l ∈ r.2, l.1 = 0 ∧ (maskOf l.2.2).testBit v = true := by
  simp only [ruleFits, Bool.and_eq_true, decide_eq_true_eq] at h
  obtain ⟨_, _, _, hs⟩ := h
  rw [ruleSafe_eq, safeTo_iff] at hs
  intro v hv hm
  have := hs v hv (by unfold ruleMask; rw [Nat.testBit_or, hm, Bool.true_or])
  unfold yesMask at this
  rw [yesMask_bit] at this
  simpa using this
/-- A solution makes a head. -/
theorem sols_head {ar : List Int} {r : LRule} {fs : List LFact} {S : List (List Int)} (h : ruleFits ar r = true) (hS : IsSols (questL fs r.2) S) : ∀ b ∈ S, headOk r.1 b = true := by
  intro b hb
  obtain ⟨h1, h2, _⟩ := (hS.2 b).1 hb
  have hf := h
  simp only [ruleFits, atomFits, Bool.and_eq_true, decide_eq_true_eq] at hf
  refine headOk_yes h1 hf.1.2 (List.all_eq_true.2 fun x hx => ?_)
  obtain ⟨t, ht, rfl⟩ := List.mem_map.1 hx
  have htk : termOk t = true := List.all_eq_true.1 hf.1.2 t ht
  have hbd := termVal_bounds h1 htk
  rcases term_cases htk with h' | ⟨v, hv, rfl⟩
  · rw [termVal_const h'.1]
    simp [constOk]
    exact h'
  · have hm : (maskOf r.1.2).testBit v = true := by unfold maskOf; rw [maskFrom_bit hv]; exact .inr ht
    obtain ⟨l, hl, _, hlm⟩ := fits_head h v hv hm
    have hne := (h2 v hv).2 ⟨(l, fs), List.mem_map.2 ⟨l, hl, rfl⟩, hlm⟩
    rw [termVal_v] at hbd ⊢
    unfold constOk
    exact decide_eq_true (by omega)
theorem headsTo_mem (a : LFact) (S : List (List Int)) (f : LFact) : ∀ k, k ≤ S.length → (f ∈ headsTo a S k ↔ ∃ b ∈ S.take k, headOk a b = true ∧ f = headOf a b)
  | 0, _ => by simp [headsTo]
  | k + 1, hk => by
    have ih := headsTo_mem a S f k (by omega)
    have hlt : k < S.length := by omega
    rw [take_snoc S k hlt]
    cases e : headOk a S[k]
    · rw [headsTo_no hlt e, ih]
      constructor
      · rintro ⟨b, hb, h⟩; exact ⟨b, List.mem_append_left _ hb, h⟩
      · rintro ⟨b, hb, h⟩
        rcases List.mem_append.1 hb with hb | hb
        · exact ⟨b, hb, h⟩
        · obtain rfl : b = S[k] := by simpa using hb
          rw [e] at h; cases h.1
    · rw [headsTo_yes hlt e, factsWith_mem, ih]
      constructor
      · rintro (⟨b, hb, h⟩ | rfl)
        · exact ⟨b, List.mem_append_left _ hb, h⟩
        · exact ⟨S[k], List.mem_append_right _ (List.mem_singleton_self _), e, rfl⟩
      · rintro ⟨b, hb, h⟩
        rcases List.mem_append.1 hb with hb | hb
        · exact .inl ⟨b, hb, h⟩
        · obtain rfl : b = S[k] := by simpa using hb
          exact .inr h.2
/-- The heads, by whatever list of the solutions. -/
theorem headsL_mem {ar : List Int} {r : LRule} {fs : List LFact} {S : List (List Int)} (h : ruleFits ar r = true) (hS : IsSols (questL fs r.2) S) (hc : ∀ f ∈ fs, f.2.all constOk = true) (hn : fs.Nodup) (f : LFact) :
    f ∈ headsL r fs ↔ ∃ b ∈ S, f = (r.1.1, r.1.2.map (termVal b)) := by
  obtain ⟨_, h2⟩ := solsOf_is (fs := fs) (gs := fs) (SafeB.of (fits_body h)) hc hn (fun _ => Iff.rfl)
  unfold headsL
  rw [headsTo_mem _ _ _ _ (Nat.le_refl _), List.take_length]
  constructor
  · rintro ⟨b, hb, e, rfl⟩
    exact ⟨b, (hS.2 b).2 ((h2.2 b).1 hb), headOf_yes e⟩
  · rintro ⟨b, hb, rfl⟩
    have e := sols_head h hS b hb
    exact ⟨b, (h2.2 b).2 ((hS.2 b).1 hb), e, (headOf_yes e).symm⟩

end Go.Proofs.YtfjmnjemmfmoaaaGreat
/-
  Tables of facts: a word for each predicate.
-/
namespace Go.Proofs.YtfjmnjemmfmoaaaGreat
open Go.RowKit

/-- The words of a table, with one fact more. -/
def setBit (T : List Nat) (p n : Nat) : List Nat := T.set p (T.getD p 0 ||| 2 ^ n)
def tabCells (T : List Nat) : Array Value := (T.map fun x => Value.int .u64 ((x : Nat) : Int)).toArray
/-- A table stands in block g. -/
def TabAt (w : World) (g : Nat) (T : List Nat) : Prop := Blk w g 71 (tabCells T) ∧ T.length = 24 ∧ ∀ x ∈ T, x < 18446744073709551616
theorem TabAt.cell {w : World} {g p : Nat} {T : List Nat} (h : TabAt w g T) (hp : p < 24) : w.cell? ⟨g, p, none⟩ = some (.int .u64 ((T.getD p 0 : Nat) : Int)) := by
  rw [h.1.cell p]
  have : p < T.length := by rw [h.2.1]; exact hp
  simp [tabCells, this]
theorem TabAt.lt {w : World} {g p : Nat} {T : List Nat} (h : TabAt w g T) : T.getD p 0 < 18446744073709551616 := by
  by_cases hp : p < T.length
  · have : T.getD p 0 = T[p] := by simp [hp]
    rw [this]
    exact h.2.2 _ (List.getElem_mem hp)
  · simp [List.getD_eq_getElem?_getD, List.getElem?_eq_none (by omega : T.length ≤ p)]
theorem TabAt.set {w : World} {g p n : Nat} {T : List Nat} (h : TabAt w g T) (hn : n < 64) : TabAt (w.setCell ⟨g, p, none⟩ (.int .u64 ((T.getD p 0 ||| 2 ^ n : Nat) : Int))) g (setBit T p n) := by
  have hlt := h.lt (p := p)
  obtain ⟨h1, h2, h3⟩ := h
  refine ⟨?_, by simp [setBit, h2], fun x hx => ?_⟩
  · have := h1.set_ p (.int .u64 ((T.getD p 0 ||| 2 ^ n : Nat) : Int))
    have e : tabCells (setBit T p n) = (tabCells T).setIfInBounds p (.int .u64 ((T.getD p 0 ||| 2 ^ n : Nat) : Int)) := by
      unfold tabCells setBit
      rw [List.map_set]
      simp
    rw [e]
    exact this
  · rcases List.mem_or_eq_of_mem_set hx with h4 | rfl
    · exact h3 x h4
    · exact Nat.or_lt_two_pow (n := 64) hlt (Nat.pow_lt_pow_right (by decide) hn)

set_option maxHeartbeats 1000000 in
set_option maxRecDepth 100000 in
theorem add_any (g p n : Nat) (T : List Nat) (w : World) (h : TabAt w g T) (hp : p < 24) (hn : n < 64) :
    Calls Tryz.prog 80 #[.pointer (some ⟨g, 0, none⟩), .int .i64 p, .int .i64 n] w fun e w' =>
      e = .returned (.bool (!(T.getD p 0).testBit n)) ∧ TabAt w' g (setBit T p n) ∧ Only g (g + 1) w w' := by
  have hc := h.cell hp
  have hf := h.1.frozen p
  have HS := Lib.hid (show ∀ W, W.heap[g]? = w.heap[g]? → TabAt W g T from fun W hW => ⟨hW.trans h.1, h.2⟩)
  have hlt := h.lt (p := p)
  have HL := Lib.hid h.1.lt
  clear h
  obtain ⟨x, hx⟩ : ∃ x, x = T.getD p 0 := ⟨_, rfl⟩
  obtain ⟨m, hm⟩ : ∃ m, m = 2 ^ n := ⟨_, rfl⟩
  have hml : m < 18446744073709551616 := by rw [hm]; exact Nat.pow_lt_pow_right (by decide) hn
  have hwr : IntKind.u64.wrap (2 ^ n) = (m : Int) := by
    have e : ((2 : Int) ^ n) = ((m : Nat) : Int) := by rw [hm]; simp
    rw [e]
    unfold IntKind.wrap
    simp [IntKind.bits, IntKind.signed] <;> omega
  rw [← hx] at hc hlt ⊢
  have hand : (bits .and .u64 (x : Int) (m : Int) == 0) = !(x.testBit n) := by
    rw [u64_and_nat x m hlt hml, hm]
    cases ht : x.testBit n
    · have : x &&& 2 ^ n = 0 := by
        apply Nat.eq_of_testBit_eq
        intro i
        rw [Nat.testBit_and, Nat.testBit_two_pow, Nat.zero_testBit]
        by_cases e : n = i
        · subst e; rw [ht]; rfl
        · simp [e]
      rw [this]
      rfl
    · have : x &&& 2 ^ n ≠ 0 := fun e => by
        have := congrArg (fun y => y.testBit n) e
        simp [Nat.testBit_and, ht] at this
      have h2 : ((x &&& 2 ^ n : Nat) : Int) ≠ 0 := by omega
      simpa using h2
  have hor : bits .or .u64 (x : Int) (m : Int) = ((x ||| m : Nat) : Int) := u64_or_nat x m hlt hml
  have HM := Lib.hid (And.intro hx hm)
  clear hx hm hml hlt
  go_enter Tryz.func80, Tryz.ntmps80
  go_upto_region 3 with fail
  have hc2 : w.drew.cell? ⟨g, p, none⟩ = some (.int .u64 ((x : Nat) : Int)) := hc
  have hpi : (p : Int) < 24 := by omega
  have hf2 : w.drew.frozen? ⟨g, p, none⟩ = false := hf
  go_region_law (fail)
  go_wp2_with fail
  go_ret
  obtain ⟨rfl, rfl⟩ := HM.out
  have hset := (HS.out w rfl).set (p := p) hn
  have ho : Only g (g + 1) w (w.setCell ⟨g, p, none⟩ (.int .u64 ((T.getD p 0 ||| 2 ^ n : Nat) : Int))) := (Only.refl g (g + 1) w).setCell ⟨Nat.le_refl g, Nat.lt_succ_self g⟩ _
  exact ⟨rfl, hset, ho.trans (Only.of_below (bdrewN (Below.refl _ _) 1))⟩

end Go.Proofs.YtfjmnjemmfmoaaaGreat
/-
  A table of facts is filled: constantsNumber, addAll.
-/
namespace Go.Proofs.YtfjmnjemmfmoaaaGreat
open Go.RowKit

/-- The number of which constants are the digits. -/
def numF (xs : List Int) : Nat := xs.foldl (fun n c => n * 6 + c.toNat) 0
theorem numF_take {xs : List Int} {k : Nat} (h : k < xs.length) : numF (xs.take (k + 1)) = numF (xs.take k) * 6 + xs[k].toNat := by
  unfold numF
  rw [take_snoc xs k h, List.foldl_append]
  rfl
theorem numF_lt {xs : List Int} (hc : xs.all constOk = true) : ∀ k, k ≤ xs.length → numF (xs.take k) < 6 ^ k
  | 0, _ => by simp [numF]
  | k + 1, hk => by
    have ih := numF_lt hc k (by omega)
    rw [numF_take (by omega), Nat.pow_succ]
    have : 0 ≤ xs[k] ∧ xs[k] ≤ 5 := by simpa [constOk] using List.all_eq_true.1 hc _ (List.getElem_mem (show k < xs.length by omega))
    omega

set_option maxHeartbeats 1000000 in
set_option maxRecDepth 100000 in
theorem constantsNumber_any (v : Value) (xs : List Int) (B : Nat) (w : World) (h : RdInts w B v xs) (hc : xs.all constOk = true) (hl : xs.length ≤ 2) :
    Calls Tryz.prog 82 #[v] w fun e w' => e = .returned (.int .i64 (numF xs : Nat)) ∧ w = w' := by
  obtain ⟨A, c, rfl, hcc, ha⟩ := h
  have HC := Lib.hid hc
  clear hc
  go_enter Tryz.func82, Tryz.ntmps82
  go_wp2_with fail
  go_loopw [3, 8] (fun m i wr => ∃ (k n : Nat), k ≤ xs.length ∧ i = .int .i64 k ∧ m = .int .i64 n ∧ n = numF (xs.take k) ∧ wr = w) (fun _ i _ => xs.length - (intOf i).toNat)
  case atStart => exact ⟨0, 0, by simp [numF]⟩
  case round =>
    obtain ⟨k, n, hk, rfl, rfl, hn, rfl⟩ := hrel
    by_cases hlt : k < xs.length
    · obtain ⟨b, o, rfl, hbB, hx⟩ := ha (by omega)
      have hck : wr.cell? ⟨b, o + k, none⟩ = some (.int .i64 xs[k]) := hx k hlt
      have hb : 0 ≤ xs[k] ∧ xs[k] ≤ 5 := by simpa [constOk] using List.all_eq_true.1 HC.out _ (List.getElem_mem hlt)
      have hn6 : n < 36 := by
        have := numF_lt HC.out k hk
        have h2 : (6 : Nat) ^ k ≤ 6 ^ 2 := Nat.pow_le_pow_right (by decide) (by omega)
        rw [hn]
        omega
      obtain ⟨x, hx2⟩ : ∃ x : Nat, xs[k] = (x : Int) := ⟨xs[k].toNat, by omega⟩
      have HN := Lib.hid (show numF (xs.take (k + 1)) = n * 6 + x by rw [numF_take hlt, hn, hx2]; rfl)
      have hxl : x ≤ 5 := by omega
      rw [hx2] at hck
      clear hx hx2 hb hn
      go_wp2_with fail
      go_roundw
      case rel => exact ⟨k + 1, n * 6 + x, by omega, by go_num, by go_num, HN.out.symm, by first | trivial | rfl⟩
      case measure => simp [intOf]; omega
    · have HE := Lib.hid (show n = numF xs by rw [hn, show k = xs.length by omega, List.take_length])
      clear hn ha
      go_wp2_with fail
      go_ret
      exact ⟨ret_int (by rw [HE.out]), rfl⟩

set_option maxHeartbeats 1000000 in
set_option maxRecDepth 100000 in
theorem number_any (v : Value) (bs xs : List Int) (hb : bindOk bs = true) (ht : xs.all termOk = true) (B : Nat) (w : World) (h : RdInts w B v xs) (hc : (xs.map (termVal bs)).all constOk = true) (hl : xs.length ≤ 2) :
    Calls Tryz.prog 81 #[.int .u32 (encB bs : Nat), v] w fun e w' => e = .returned (.int .i64 (numF (xs.map (termVal bs)) : Nat)) ∧ w = w' := by
  obtain ⟨A, c, rfl, hcc, ha⟩ := h
  obtain ⟨ys, hys⟩ : ∃ ys, ys = xs.map (termVal bs) := ⟨_, rfl⟩
  rw [← hys] at hc ⊢
  have hyl : ys.length = xs.length := by rw [hys]; simp
  have HYL := Lib.hid hyl
  have HC := Lib.hid hc
  have HY := Lib.hid hys
  have HT := Lib.hid ht
  have HV := Lib.hid (fun t ht => value_any bs hb t ht)
  generalize encB bs = m at HV
  clear hc hys ht hyl
  go_enter Tryz.func81, Tryz.ntmps81
  go_wp2_with fail
  go_loopw [5, 10] (fun m i wr => ∃ (k n : Nat), k ≤ xs.length ∧ i = .int .i64 k ∧ m = .int .i64 n ∧ n = numF (ys.take k) ∧ wr = w) (fun _ i _ => xs.length - (intOf i).toNat)
  case atStart => exact ⟨0, 0, by simp [numF]⟩
  case round =>
    obtain ⟨k, n, hk, rfl, rfl, hn, rfl⟩ := hrel
    by_cases hlt : k < xs.length
    · obtain ⟨b, o, rfl, hbB, hx⟩ := ha (by omega)
      have hck : wr.cell? ⟨b, o + k, none⟩ = some (.int .i64 xs[k]) := hx k hlt
      have hlt2 : k < ys.length := by rw [HYL.out]; exact hlt
      have hb2 : 0 ≤ ys[k] ∧ ys[k] ≤ 5 := by simpa [constOk] using List.all_eq_true.1 HC.out _ (List.getElem_mem hlt2)
      have hn6 : n < 36 := by
        have := numF_lt HC.out k (by omega)
        have h2 : (6 : Nat) ^ k ≤ 6 ^ 2 := Nat.pow_le_pow_right (by decide) (by omega)
        rw [hn]
        omega
      obtain ⟨x, hx2⟩ : ∃ x : Nat, ys[k] = (x : Int) := ⟨ys[k].toNat, by omega⟩
      have HN := Lib.hid (show numF (ys.take (k + 1)) = n * 6 + x by rw [numF_take hlt2, hn, hx2]; rfl)
      have hxl : x ≤ 5 := by omega
      have HV2 := Lib.hid (HV.out xs[k] (List.all_eq_true.1 HT.out _ (List.getElem_mem hlt)))
      have hvx : termVal bs xs[k] = (x : Int) := by rw [← hx2]; simp only [HY.out, List.getElem_map]
      rw [hvx] at HV2
      clear hx hx2 hb2 hn hvx
      go_wp2_with (go_at_call 118; refine (HV2.out _).mono ?_; rintro e w' ⟨rfl, rfl⟩)
      go_roundw
      case rel => exact ⟨k + 1, n * 6 + x, by omega, by go_num, by go_num, HN.out.symm, by first | trivial | rfl⟩
      case measure => simp [intOf]; omega
    · have HE := Lib.hid (show n = numF ys by rw [hn, show k = ys.length by have := HYL.out; omega, List.take_length])
      clear hn ha
      go_wp2_with fail
      go_ret
      exact ⟨ret_int (by rw [HE.out]), rfl⟩

/-- The facts of a table's predicates. -/
def TabFact (f : LFact) : Prop := 0 ≤ f.1 ∧ f.1 < 24 ∧ f.2.all constOk = true ∧ f.2.length ≤ 2
def tabWith (T : List Nat) (fs : List LFact) : List Nat := fs.foldl (fun T f => setBit T f.1.toNat (numF f.2)) T
theorem tabWith_take {T : List Nat} {fs : List LFact} {k : Nat} (h : k < fs.length) : tabWith T (fs.take (k + 1)) = setBit (tabWith T (fs.take k)) fs[k].1.toNat (numF fs[k].2) := by
  unfold tabWith
  rw [take_snoc fs k h, List.foldl_append]
  rfl
theorem TabAt.below {w w' : World} {g B : Nat} {T : List Nat} (h : TabAt w g T) (hb : Below B w w') (hg : g < B) : TabAt w' g T := ⟨h.1.below hb hg, h.2⟩
theorem TabAt.only {w w' : World} {g lo hi : Nat} {T : List Nat} (h : TabAt w g T) (ho : Only lo hi w w') (hg : g < lo ∨ hi ≤ g) : TabAt w' g T := ⟨h.1.only ho hg, h.2⟩
theorem numF_64 {xs : List Int} (hc : xs.all constOk = true) (hl : xs.length ≤ 2) : numF xs < 64 := by
  have := numF_lt hc xs.length (Nat.le_refl _)
  rw [List.take_length] at this
  have h2 : (6 : Nat) ^ xs.length ≤ 6 ^ 2 := Nat.pow_le_pow_right (by decide) hl
  omega

set_option maxHeartbeats 4000000 in
set_option maxRecDepth 100000 in
theorem addAll_any (g B : Nat) (T0 : List Nat) (v : Value) (fs : List LFact) (w : World) (h : TabAt w g T0) (hr : RdFacts w B v fs) (hB : B ≤ g) (hf : ∀ f ∈ fs, TabFact f) (hn : fs.length ≤ 1048576) :
    Calls Tryz.prog 44 #[.pointer (some ⟨g, 0, none⟩), v] w fun e w' =>
      e = .returned (.tuple #[]) ∧ TabAt w' g (tabWith T0 fs) ∧ Only g (g + 1) w w' := by
  have H := Lib.hid hr
  have HT := Lib.hid h
  have HF := Lib.hid hf
  have hgw := h.1.lt
  obtain ⟨A, c, rfl, hc, _⟩ := hr
  clear h hf
  go_enter Tryz.func44, Tryz.ntmps44
  go_wp2_with fail
  go_loopw [8] (fun i wr => ∃ k : Nat, k ≤ fs.length ∧ i = .int .i64 k ∧ TabAt wr g (tabWith T0 (fs.take k)) ∧ Only g (g + 1) w wr) (fun i _ => fs.length - (intOf i).toNat)
  case atStart => exact ⟨0, Nat.zero_le _, rfl, by simpa [tabWith] using HT.out, Only.refl _ _ _⟩
  case round =>
    obtain ⟨k, hk, rfl, hat, hon⟩ := hrel
    by_cases hlt : k < fs.length
    · have hsz := hon.size
      have hbe : Below B w wr := hon.below hB (by omega)
      obtain ⟨b, o, A3, c3, rfl, hbB, k1, k2, k3⟩ := (H.out.below hbe (Nat.le_refl _)).get hlt
      have HCF := Lib.hid (HF.out _ (List.getElem_mem hlt))
      have HTK := Lib.hid (tabWith_take (T := T0) hlt)
      obtain ⟨f, hfe⟩ : ∃ f, f = fs[k] := ⟨_, rfl⟩
      rw [← hfe] at HCF k1 k2 k3 HTK
      obtain ⟨T, hTe⟩ : ∃ T, T = tabWith T0 (fs.take k) := ⟨_, rfl⟩
      rw [← hTe] at hat HTK
      obtain ⟨p, hpe⟩ : ∃ p : Nat, f.1 = (p : Int) := ⟨f.1.toNat, by have := HCF.out.1; omega⟩
      have hp24 : p < 24 := by have := HCF.out.2.1; omega
      obtain ⟨n, hne⟩ : ∃ n, n = numF f.2 := ⟨_, rfl⟩
      have hn64 : n < 64 := by rw [hne]; exact numF_64 HCF.out.2.2.1 HCF.out.2.2.2
      have HTK2 := Lib.hid (show tabWith T0 (fs.take (k + 1)) = setBit T p n by rw [HTK.out, hpe, hne]; rfl)
      have HNE := Lib.hid hne
      rw [hpe] at k1
      clear hfe hTe hpe hne HTK
      go_upto_region 3 with fail
      obtain ⟨wv, hwv⟩ : ∃ wv, wv = wr.alloc (Obj.cells #[Value.int IntKind.i64 (p : Int), Value.slice A3 f.2.length c3] 67) := ⟨_, rfl⟩
      have bv : Below wr.heap.size wr wv := by rw [hwv]; exact below1 _ _
      have z7 : Blk wv wr.heap.size 67 #[.int .i64 p, .slice A3 f.2.length c3] := by rw [hwv]; exact Blk.new _ _ _
      have hvl : wr.heap.size < wv.heap.size := by rw [hwv]; simp
      rw [← hwv]
      clear hwv k1 k2
      have RF := Lib.hid (show RdInts wv wr.heap.size (.slice A3 f.2.length c3) f.2 from (k3.below bv (by omega)).more (by omega))
      have htv : TabAt wv g T := hat.below bv hat.1.lt
      have HTV := Lib.hid (show TabAt wv.drew g T from htv)
      have q0 : wv.cell? ⟨wr.heap.size, 0, none⟩ = some (.int .i64 p) := z7.cell 0
      have q1 : wv.cell? ⟨wr.heap.size, 1, none⟩ = some (.slice A3 f.2.length c3) := z7.cell 1
      have HON := Lib.hid (show Only g (g + 1) w wv.drew from (hon.trans (Only.of_below bv)).trans (Only.of_below (bdrewN (Below.refl _ _) 1)))
      clear hat hon k3 z7 htv
      obtain ⟨SS, hSS⟩ : ∃ SS : World → Prop, SS = (fun W => Below wv.heap.size wv W ∧ W.cell? ⟨wr.heap.size, 0, none⟩ = some (.int .i64 p) ∧ W.cell? ⟨wr.heap.size, 1, none⟩ = some (.slice A3 f.2.length c3)) := ⟨_, rfl⟩
      have HB := Lib.hid (show ∀ W, SS W → (Below wv.heap.size wv W ∧ W.cell? ⟨wr.heap.size, 0, none⟩ = some (.int .i64 p) ∧ W.cell? ⟨wr.heap.size, 1, none⟩ = some (.slice A3 f.2.length c3)) from by rw [hSS]; exact fun W hW => hW)
      have HS := Lib.hid (show ∀ W, Below wv.heap.size wv W → SS W from by
        rw [hSS]
        exact fun W hW => ⟨hW, (hW.cell (World.block_lt_of_cell? _ _ q0)).trans q0, (hW.cell (World.block_lt_of_cell? _ _ q1)).trans q1⟩)
      clear hSS
      have BB : Below wv.heap.size wv wv.drew := (Below.refl _ _).drew
      have SB := HS.out _ BB
      refine wp_region_rel SS 6 7 (by kernel_rfl) rfl ?_
      refine wpAnyR_pure (i := 0) (oi := _) ?v0 rfl rfl (by kernel_rfl) (by decide) (fun _ _ _ h => h) rfl ?hy0 (fun _ => SB) ?rest0
      case hy0 => (intro W; go_simp; (try with_reducible rfl))
      try simp only [List.setIfInBounds_toArray, List.set_cons_zero, List.set_cons_succ]
      refine wpAnyR_pure (i := 1) (oi := _) ?v1 rfl rfl (by kernel_rfl) (by decide) (fun _ _ _ h => h) rfl ?hy1 (fun _ => SB) ?rest1
      case hy1 => (intro W; go_simp; (try with_reducible rfl))
      try simp only [List.setIfInBounds_toArray, List.set_cons_zero, List.set_cons_succ]
      refine wpAnyR_take (i := 2) (oi := _) ?v2 rfl rfl (by kernel_rfl) (fun _ _ _ h => h) rfl ?hy2 SB ?rest2
      case hy2 => (intro W hW; obtain ⟨_, e0, e1⟩ := HB.out W hW; go_simp; (try with_reducible rfl))
      try simp only [List.setIfInBounds_toArray, List.set_cons_zero, List.set_cons_succ]
      refine wpAnyR_pure (i := 3) (oi := _) ?v3 rfl rfl (by kernel_rfl) (by decide) (fun _ _ _ h => h) rfl ?hy3 (fun _ => SB) ?rest3
      case hy3 => (intro W; go_simp; (try with_reducible rfl))
      try simp only [List.setIfInBounds_toArray, List.set_cons_zero, List.set_cons_succ]
      refine wpAnyR_take (i := 4) (oi := _) ?v4 rfl rfl (by kernel_rfl) (fun _ _ _ h => h) rfl ?hy4 SB ?rest4
      case hy4 => (intro W hW; obtain ⟨_, e0, e1⟩ := HB.out W hW; go_simp; (try with_reducible rfl))
      try simp only [List.setIfInBounds_toArray, List.set_cons_zero, List.set_cons_succ]
      refine wpAnyR_one (i := 5) (by kernel_rfl) rfl (fun K hK => ?_)
      try rw [if_pos (show Region.wanted _ _ = true from rfl)]
      go_simp
      refine (constantsNumber_any (.slice A3 f.2.length c3) f.2 wr.heap.size _ (RF.out.below BB (Nat.le_of_lt hvl)) HCF.out.2.2.1 HCF.out.2.2.2).mono ?_
      rw [← HNE.out]
      rintro e W5 ⟨rfl, rfl⟩
      refine hK.out _ _ (fun _ => SB) ?_
      clear hK K
      try simp only [List.setIfInBounds_toArray, List.set_cons_zero, List.set_cons_succ, Act.put]
      refine wpAnyR_one (i := 6) (by kernel_rfl) rfl (fun K hK => ?_)
      try rw [if_pos (show Region.wanted _ _ = true from rfl)]
      go_simp
      refine (add_any g p n T _ HTV.out hp24 hn64).mono ?_
      rintro e W6 ⟨rfl, ht6, ho6⟩
      have H6 := Lib.hid (And.intro ht6 ho6)
      clear ht6 ho6
      refine hK.out _ _ (fun hf => absurd hf (by decide)) ?_
      clear hK K
      try simp only [List.setIfInBounds_toArray, List.set_cons_zero, List.set_cons_succ, Act.put]
      refine wpAnyR_done (by kernel_rfl) ?_
      have HFIN := Lib.hid (show TabAt W6 g (tabWith T0 (fs.take (k + 1))) ∧ Only g (g + 1) w W6 from by
        rw [HTK2.out]
        exact ⟨H6.out.1, HON.out.trans H6.out.2⟩)
      clear SB HB HS BB
      go_wp2_with fail
      go_roundw
      case rel => exact ⟨k + 1, by omega, by go_num, HFIN.out.1, HFIN.out.2⟩
      case measure => simp [intOf]; omega
    · have HFIN := Lib.hid (show TabAt wr g (tabWith T0 fs) ∧ Only g (g + 1) w wr from by
        rw [show k = fs.length by omega, List.take_length] at hat
        exact ⟨hat, hon⟩)
      clear hat hon
      go_wp2_with fail
      go_end0
      exact ⟨rfl, HFIN.out.1, HFIN.out.2⟩

end Go.Proofs.YtfjmnjemmfmoaaaGreat
/-
  The walk of Solutions.
-/
namespace Go.Proofs.YtfjmnjemmfmoaaaGreat
open Go.RowKit

/-- A row of slices that make laid and a loop fills: k of them stand. -/
structure FillS (g n : Nat) (wr : World) (xss : List (List Int)) (av : List Value) : Prop where
  args : OwnArgs wr (g + 1) wr.heap.size av xss
  row : ∃ cur, wr.heap[g]? = some (.cells cur 22 (0, 0)) ∧ cur.size = n ∧ cur.toList.take xss.length = av
theorem FillS.start (w : World) (cs : Array Value) (n : Nat) (h : cs.size = n) : FillS w.heap.size n (w.alloc (.cells cs 22)) [] [] :=
  ⟨OwnArgs.nil, cs, heap_alloc_new w _, h, by simp⟩
theorem FillS.lt {g n : Nat} {wr : World} {xss : List (List Int)} {av : List Value} (h : FillS g n wr xss av) : g < wr.heap.size := by
  obtain ⟨_, cur, hg, _⟩ := h
  exact Blk.lt hg
theorem FillS.on {g n : Nat} {wr w4 : World} {xss : List (List Int)} {av : List Value} (h : FillS g n wr xss av) (hb : Below wr.heap.size wr w4) : FillS g n w4 xss av := by
  have hlt := h.lt
  obtain ⟨ha, cur, hg, h1, h2⟩ := h
  exact ⟨(ha.below hb (Nat.le_refl _)).mono (Nat.le_refl _) hb.size, cur, (hb.block g hlt).trans hg, h1, h2⟩
theorem FillS.free {g n : Nat} {wr : World} {xss : List (List Int)} {av : List Value} (h : FillS g n wr xss av) {k : Nat} (hk : k < n) : (∃ x, wr.cell? ⟨g, k, none⟩ = some x) ∧ wr.frozen? ⟨g, k, none⟩ = false := by
  obtain ⟨_, cur, hg, h1, _⟩ := h
  exact ⟨⟨cur[k]'(by omega), by rw [Blk.cell hg, Array.getElem?_eq_getElem]⟩, Blk.frozen hg k⟩
theorem FillS.step {g n k : Nat} {wr w4 : World} {xss : List (List Int)} {xs : List Int} {av : List Value} {u : Value} (h : FillS g n wr xss av) (hk : xss.length = k) (hkn : k < n) (hb : Below wr.heap.size wr w4) (hu : OwnInts w4 wr.heap.size w4.heap.size u xs) :
    FillS g n (w4.setCell ⟨g, k, none⟩ u) (xss ++ [xs]) (av ++ [u]) := by
  have hlt := h.lt
  have hl := h.args.len
  have h4 := (h.args.below hb (Nat.le_refl _)).snoc hu (by omega) hb.size
  obtain ⟨_, cur, hg, h1, h2⟩ := h
  have hg4 : Blk w4 g 22 cur := (hb.block g hlt).trans hg
  refine ⟨by simpa using h4.set (p := ⟨g, k, none⟩) (.inl (Nat.lt_succ_self g)) u, _, hg4.set_ k u, by simpa using h1, ?_⟩
  have hlen : (xss ++ [xs]).length = k + 1 := by simp [hk]
  rw [hlen, Array.toList_setIfInBounds]
  rw [hk] at h2
  apply List.ext_getElem?
  intro j
  by_cases hj : j < k
  · rw [List.getElem?_take_of_lt (by omega), List.getElem?_set_ne (by omega), List.getElem?_append_left (by omega), ← h2, List.getElem?_take_of_lt hj]
  · by_cases hj2 : j = k
    · subst hj2
      rw [List.getElem?_take_of_lt (by omega), List.getElem?_set_self (by simp; omega), List.getElem?_append_right (by omega)]
      simp [hl, hk]
    · rw [List.getElem?_eq_none (by simp; omega), List.getElem?_eq_none (by simp; omega)]
theorem FillS.done {g n : Nat} {wr : World} {xss : List (List Int)} {av : List Value} (h : FillS g n wr xss av) (hn : xss.length = n) (hm : n ≤ maxLen) : OwnRows wr g wr.heap.size (.slice (some ⟨g, 0, none⟩) xss.length n) xss := by
  have hlt := h.lt
  have hl := h.args.len
  obtain ⟨ha, cur, hg, h1, h2⟩ := h
  exact ⟨av, ha.mono (by omega) (Nat.le_refl _), ⟨by omega, .inr ⟨g, n, cur, rfl, Nat.le_refl _, hg, by omega, hm, by omega, by rw [Nat.mul_one]; exact h2⟩⟩, fun g' hg' => by simp [Value.ownBlock] at hg'; omega⟩

theorem OwnRows.nil (w : World) (lo hi : Nat) : OwnRows w lo hi (.slice none 0 0) [] := ⟨[], OwnArgs.nil, World.ownsRow_nil _ _ _ _, fun g hg => by cases hg⟩

set_option maxHeartbeats 4000000 in
set_option maxRecDepth 100000 in
theorem solutionsIn_any (v v2 : Value) (fs : List LFact) (ls : List LLit) (hsf : bodySafe ls = true) (hcf : constsL fs = true) (w : World) (h : RdFacts w w.heap.size v fs) (h2 : RdLits w w.heap.size v2 ls) (hn : fs.length ≤ 1048576) (ht : tot fs ≤ 1048576) (hl : ls.length + totL ls ≤ 1048576) :
    Calls Tryz.prog 49 #[v, v2] w fun e w' => ∃ (A : Option Addr) (c lo hi : Nat) (S : List (List Int)), e = .returned (.slice A S.length c) ∧ S = solsL fs ls ∧ w.heap.size ≤ lo ∧ hi ≤ w'.heap.size ∧ OwnW w' lo hi (.slice A S.length c) S ∧ (∀ b ∈ S, bindOk b = true) ∧ S.length ≤ 65536 ∧ Below w.heap.size w w' := by
  have H := Lib.hid h
  have H2 := Lib.hid h2
  obtain ⟨A, c, rfl, hc, _⟩ := h
  obtain ⟨A2, c2, rfl, hc2, _⟩ := h2
  have HSF := Lib.hid hsf
  have HCF := Lib.hid hcf
  have hS := SafeB.of HSF.out
  have hC := consts_of HCF.out
  have CQ := Lib.hid (questionsOf_any (.slice A fs.length c) (.slice A2 ls.length c2) fs ls w H.out H2.out (by omega))
  have HQL := Lib.hid (show (questL fs ls).length = ls.length by simp [questL])
  have HQK := Lib.hid (hS.qok hC hn ht (by omega))
  have HSQ := Lib.hid (hS.quests fs)
  clear hS hC hsf hcf
  go_enter Tryz.func49, Tryz.ntmps49
  go_wp2_with (first
    | (go_at_call 79; refine CQ.out.mono ?_; rintro e w3 ⟨g, us, rfl, hg, at3, rd3, hb3⟩
       have HB3 := Lib.hid hb3
       have CS := solve_any g ls.length w.heap.size us (questL fs ls) w3 at3 rd3 hg (by rw [HQL.out]; omega) HQK.out HSQ.out
       rw [HQL.out] at CS
       have HCS := Lib.hid CS
       have HG := Lib.hid hg
       clear CS hg at3 rd3 hb3)
    | (go_at_call 78; refine HCS.out.mono ?_; rintro e w4 ⟨A4, c4, S, rfl, own4, on4, is4⟩
       have HSO := Lib.hid (sortW_any w3.heap.size w4.heap.size (.slice A4 S.length c4) S w4 own4 (Nat.le_trans (binds_len is4.1 is4.ok) (by decide)))
       have H4 := Lib.hid (And.intro on4 is4)
       clear own4 on4 is4)
    | (go_at_call 85; refine HSO.out.mono ?_; rintro e w5 ⟨rfl, S', hp, hup, own5, only5⟩
       have H5 := Lib.hid (And.intro hp (And.intro hup (And.intro own5 only5)))
       clear hp hup own5 only5))
  go_ret
  obtain ⟨on4, is4⟩ := H4.out
  obtain ⟨hp, hup, own5, only5⟩ := H5.out
  obtain ⟨hub, is5⟩ := is4.up hp hup
  have hRS : S' = solsL fs ls := solsL_is HSF.out HCF.out hub is5
  have hlenS : S.length = S'.length := hp.length_eq.symm
  have hz3 := HB3.out.size
  have hzg := HG.out
  have hz4 := on4.size
  have hz5 := only5.size
  have B5 : Below w.heap.size w w5 := Only.then_ (Only.then_ HB3.out on4 (by omega)) only5 (by omega)
  rw [hlenS] at own5 ⊢
  exact ⟨A4, c4, w3.heap.size, w4.heap.size, S', rfl, hRS, hz3, hz5, own5, is5.ok, binds_len is5.1 is5.ok, B5⟩

set_option maxHeartbeats 4000000 in
set_option maxRecDepth 100000 in
theorem implSolutions_any (v v2 : Value) (fs : List LFact) (ls : List LLit) (R : List (List Int)) (hR : R = solsL fs ls) (w : World) (h : RdFacts w w.heap.size v fs) (h2 : RdLits w w.heap.size v2 ls) (hn : fs.length ≤ 1048576) (ht : tot fs ≤ 1048576) (hl : ls.length + totL ls ≤ 1048576) :
    Calls Tryz.prog 24 #[v, v2] w fun e w' => ∃ A c, e = .returned (.slice A R.length c) ∧ OwnRows w' w.heap.size w'.heap.size (.slice A R.length c) R ∧ Below w.heap.size w w' := by
  have H := Lib.hid h
  have H2 := Lib.hid h2
  have HR := Lib.hid hR
  obtain ⟨A, c, rfl, hc, _⟩ := h
  obtain ⟨A2, c2, rfl, hc2, _⟩ := h2
  clear hR
  obtain ⟨sf, hsf⟩ : ∃ sf, sf = bodySafe ls := ⟨_, rfl⟩
  obtain ⟨cf, hcf⟩ : ∃ cf, cf = constsL fs := ⟨_, rfl⟩
  have CB := Lib.hid (implBodySafe_any (.slice A2 ls.length c2) ls w H2.out hl)
  rw [← hsf] at CB
  have CH := Lib.hid (fun W (hW : Below w.heap.size w W) => haveConstants_any (.slice A fs.length c) fs cf hcf.symm W (H.out.on hW) hn ht)
  have HSF := Lib.hid hsf
  have HCF := Lib.hid hcf
  clear hsf hcf
  cases sf
  · have HE := Lib.hid (show R = [] by rw [HR.out]; unfold solsL; rw [← HSF.out]; rfl)
    go_enter Tryz.func24, Tryz.ntmps24
    go_wp2_with (go_at_call 61; refine CB.out.mono ?_; rintro e w1 ⟨rfl, hb1⟩; have HB1 := Lib.hid hb1; clear hb1)
    go_ret
    rw [HE.out]
    exact ⟨none, 0, rfl, OwnRows.nil _ _ _, HB1.out⟩
  · cases cf
    · have HE := Lib.hid (show R = [] by rw [HR.out]; unfold solsL; rw [← HSF.out, ← HCF.out]; rfl)
      go_enter Tryz.func24, Tryz.ntmps24
      go_wp2_with (first
        | (go_at_call 61; refine CB.out.mono ?_; rintro e w1 ⟨rfl, hb1⟩; have HB1 := Lib.hid hb1; clear hb1)
        | (go_at_call 62; refine (CH.out _ HB1.out).mono ?_; rintro e w2 ⟨rfl, hb2⟩; have HB2 := Lib.hid (bthen HB1.out hb2); clear hb2))
      go_ret
      rw [HE.out]
      exact ⟨none, 0, rfl, OwnRows.nil _ _ _, HB2.out⟩
    · have CQ := Lib.hid (fun W (hW : Below w.heap.size w W) => solutionsIn_any (.slice A fs.length c) (.slice A2 ls.length c2) fs ls HSF.out.symm HCF.out.symm W (H.out.on hW) (H2.out.on hW) hn ht hl)
      go_enter Tryz.func24, Tryz.ntmps24
      go_upto_region 4 with (first
        | (go_at_call 61; refine CB.out.mono ?_; rintro e w1 ⟨rfl, hb1⟩; have HB1 := Lib.hid hb1; clear hb1)
        | (go_at_call 62; refine (CH.out _ HB1.out).mono ?_; rintro e w2 ⟨rfl, hb2⟩; have HB2 := Lib.hid (bthen HB1.out hb2); clear hb2)
        | (go_at_call 49; refine (CQ.out _ HB2.out).mono ?_; rintro e w5 ⟨A4, c4, lo5, hi5, S', rfl, hRS, hlo5, hz45, own5, hok5, hSn, b5⟩
           have H5 := Lib.hid (And.intro hRS (And.intro own5 (And.intro hok5 b5)))
           clear hRS own5 hok5 b5))
      obtain ⟨hRS, own5, hok5, b5⟩ := H5.out
      have B5 : Below w.heap.size w w5 := bthen HB2.out b5
      have HOK := Lib.hid hok5
      have HRS := Lib.hid (show S' = R by rw [hRS, HR.out])
      have HRD := Lib.hid own5.rd
      have HB5 := Lib.hid B5
      clear own5 hok5 b5 hRS B5 H5 CQ CH CB hlo5
      obtain ⟨i0, hi0, hz0, hz1, hzb⟩ := info_parts Tryz.infoIntS
      have hmk := fun W => run_make_rowN (P := Tryz.prog) 47 22 i0 (.slice none 0 0) Tryz.underlying47 hi0 hz0 .i64 .i64 S'.length S'.length (Nat.le_refl _) (by rw [hzb]; omega) (by omega) W
      rw [hz1] at hmk
      simp only [Value.cells, Nat.mul_one] at hmk
      obtain ⟨cs, hcs⟩ : ∃ cs, cs = madeCells #[Value.slice none 0 0] S'.length := ⟨_, rfl⟩
      have hcsz : cs.size = S'.length := by rw [hcs]; simp [madeCells]
      have HF0 := Lib.hid (FillS.start w5 cs S'.length hcsz)
      rw [← hcs] at hmk
      clear hcs hcsz
      go_wp2_with fail
      obtain ⟨w6, hw6⟩ : ∃ w6, w6 = w5.alloc (Obj.cells cs 22) := ⟨_, rfl⟩
      have hB6 := Lib.hid (show Below w5.heap.size w5 w6 by rw [hw6]; exact below1 _ _)
      rw [← hw6] at HF0 ⊢
      clear hw6 hmk
      go_loopw [25] (fun i wr => ∃ (k : Nat) (av : List Value), k ≤ S'.length ∧ i = .int .i64 k ∧ FillS w5.heap.size S'.length wr (S'.take k) av ∧ Below w5.heap.size w5 wr) (fun i _ => S'.length - (intOf i).toNat)
      case atStart => exact ⟨0, [], Nat.zero_le _, rfl, HF0.out, hB6.out⟩
      case round =>
        obtain ⟨k, av, hk, rfl, hfi, hbe⟩ := hrel
        by_cases hlt : k < S'.length
        · have hrd := HRD.out.below hbe hz45
          obtain ⟨A7, c7, e7, _, hx⟩ := hrd
          injection e7 with e7 _ e8
          subst e7 e8
          obtain ⟨b, o, rfl, _, hx⟩ := hx (by omega)
          have hck : wr.cell? ⟨b, o + k, none⟩ = some (.int .u32 ((encB S'[k] : Nat) : Int)) := hx k hlt
          have hbk := HOK.out _ (List.getElem_mem hlt)
          have CN := Lib.hid (numbers_any S'[k] hbk wr)
          have HFI := Lib.hid hfi
          have HBE := Lib.hid hbe
          have HTK := Lib.hid (take_snoc S' k hlt)
          have hgl := hfi.lt
          clear hx hfi hbe hbk
          go_upto_region 8 with fail
          go_wp2_with (first
            | (go_at_call 63; refine CN.out.mono ?_; rintro e w7 ⟨A8, c8, rfl, o8, b8⟩
               have f7 := (HFI.out.on b8).free hlt
               obtain ⟨⟨x7, hx7⟩, hf7⟩ := f7
               have HST := Lib.hid (HFI.out.step (by simp; omega) hlt b8 o8)
               have HB7 := Lib.hid (bthen HBE.out b8)
               clear o8 b8))
          go_roundw
          case rel => exact ⟨k + 1, _, by omega, by go_num, by rw [HTK.out]; exact HST.out, HB7.out.setCell (Nat.le_refl _) _⟩
          case measure => simp [intOf]; omega
        · have hkn : k = S'.length := by omega
          have HFI := Lib.hid (show FillS w5.heap.size S'.length wr S' av by rw [hkn, List.take_length] at hfi; exact hfi)
          have HBE := Lib.hid hbe
          clear hkn hfi hbe
          go_wp2_with fail
          go_ret
          have hd := HFI.out.done rfl (by unfold maxLen; omega)
          have hb := HB5.out
          rw [← HRS.out]
          exact ⟨_, _, rfl, hd.mono hb.size (Nat.le_refl _), bthen hb HBE.out⟩

end Go.Proofs.YtfjmnjemmfmoaaaGreat
/-
  The walk of headsIn.
-/
namespace Go.Proofs.YtfjmnjemmfmoaaaGreat
open Go.RowKit

def zeroT : List Nat := List.replicate 24 0
def hdOf (r : LRule) (b : List Int) : LFact := (r.1.1, r.1.2.map (termVal b))
theorem tabWith_snoc (T : List Nat) (fs : List LFact) (f : LFact) : tabWith T (fs ++ [f]) = setBit (tabWith T fs) f.1.toNat (numF f.2) := by
  unfold tabWith
  rw [List.foldl_append]
  rfl
theorem TabAt.zero (w : World) : TabAt (w.alloc (Obj.cells (tabCells zeroT) 71)) w.heap.size zeroT :=
  ⟨Blk.new _ _ _, by simp [zeroT], fun x hx => by
    obtain ⟨_, rfl⟩ := List.mem_replicate.1 hx
    decide⟩

set_option maxHeartbeats 8000000 in
set_option maxRecDepth 100000 in
theorem headsIn_any (v v2 : Value) (ar : List Int) (rs : List LRule) (fs : List LFact) (w : World) (h : RdRules w w.heap.size v rs) (h2 : RdFacts w w.heap.size v2 fs) (har : arityOk ar = true) (hfit : ∀ r ∈ rs, ruleFits ar r = true) (hsz : totR rs ≤ 1048576) (hrl : rs.length ≤ 1048576)
    (hn : fs.length ≤ 1048576) (ht : tot fs ≤ 1048576) (hc : ∀ f ∈ fs, f.2.all constOk = true) (hnd : fs.Nodup) :
    Calls Tryz.prog 43 #[v, v2] w fun e w' => ∃ F, e = .returned (.agg (tabCells (tabWith zeroT F))) ∧ (∀ f, f ∈ F ↔ f ∈ headsAll rs fs) ∧ Below w.heap.size w w' := by
  have H := Lib.hid h
  have H2 := Lib.hid h2
  obtain ⟨A, c, rfl, hcA, _⟩ := h
  obtain ⟨A2, c2, rfl, hc2, _⟩ := h2
  have HFIT := Lib.hid hfit
  clear hfit
  go_enter Tryz.func43, Tryz.ntmps43
  go_upto_region 2 with fail
  obtain ⟨w0, hw0⟩ : ∃ w0, w0 = (w.alloc (Obj.cells (tabCells zeroT) 71)).alloc (Obj.cells (tabCells zeroT) 71) := ⟨_, rfl⟩
  obtain ⟨g, hg⟩ : ∃ g, g = w.heap.size + 1 := ⟨_, rfl⟩
  have T0 : TabAt w0 g zeroT := by rw [hw0, hg]; have := TabAt.zero (w.alloc (Obj.cells (tabCells zeroT) 71)); simpa using this
  have R0 : TabAt w0 w.heap.size zeroT := by rw [hw0]; exact (TabAt.zero w).below (below1 _ _) (by simp)
  have B0 : Below w.heap.size w w0 := by rw [hw0]; exact bthen (below1 _ _) (below1 _ _)
  rw [show ((w.alloc (Obj.cells #[Value.int IntKind.u64 0, Value.int IntKind.u64 0, Value.int IntKind.u64 0, Value.int IntKind.u64 0, Value.int IntKind.u64 0, Value.int IntKind.u64 0, Value.int IntKind.u64 0, Value.int IntKind.u64 0, Value.int IntKind.u64 0, Value.int IntKind.u64 0, Value.int IntKind.u64 0, Value.int IntKind.u64 0, Value.int IntKind.u64 0, Value.int IntKind.u64 0, Value.int IntKind.u64 0, Value.int IntKind.u64 0, Value.int IntKind.u64 0, Value.int IntKind.u64 0, Value.int IntKind.u64 0, Value.int IntKind.u64 0, Value.int IntKind.u64 0, Value.int IntKind.u64 0, Value.int IntKind.u64 0, Value.int IntKind.u64 0] 71)).alloc (Obj.cells #[Value.int IntKind.u64 0, Value.int IntKind.u64 0, Value.int IntKind.u64 0, Value.int IntKind.u64 0, Value.int IntKind.u64 0, Value.int IntKind.u64 0, Value.int IntKind.u64 0, Value.int IntKind.u64 0, Value.int IntKind.u64 0, Value.int IntKind.u64 0, Value.int IntKind.u64 0, Value.int IntKind.u64 0, Value.int IntKind.u64 0, Value.int IntKind.u64 0, Value.int IntKind.u64 0, Value.int IntKind.u64 0, Value.int IntKind.u64 0, Value.int IntKind.u64 0, Value.int IntKind.u64 0, Value.int IntKind.u64 0, Value.int IntKind.u64 0, Value.int IntKind.u64 0, Value.int IntKind.u64 0, Value.int IntKind.u64 0] 71)) = w0 from by rw [hw0]; rfl, show w.heap.size + 1 = g from hg.symm]
  have hgs : g < w0.heap.size := T0.1.lt
  have hgw : w.heap.size ≤ g := by omega
  have HT0 := Lib.hid T0
  have HR0 := Lib.hid R0
  have HGE := Lib.hid hg
  clear hw0 T0 R0 hg
  go_wp2_with fail
  go_loopw [12] (fun i wr => ∃ (k : Nat) (F : List LFact), k ≤ rs.length ∧ i = .int .i64 k ∧ TabAt wr g (tabWith zeroT F) ∧ (∀ f, f ∈ F ↔ f ∈ headsAll (rs.take k) fs) ∧ Only g (g + 1) w0 wr) (fun i _ => rs.length - (intOf i).toNat)
  case atStart => exact ⟨0, [], Nat.zero_le _, rfl, HT0.out, fun f => by simp [headsAll, setOf], Only.refl _ _ _⟩
  case round =>
    obtain ⟨k, F, hk, rfl, hat, hmem, hon⟩ := hrel
    have BW : Below w.heap.size w wr := Only.then_ B0 hon hgw
    have HON := Lib.hid hon
    have HMEM := Lib.hid hmem
    have hsz0 := hon.size
    by_cases hlt : k < rs.length
    · obtain ⟨b, o, u0, u1, u2, rfl, hbB, k0, k1, k2, rfl, q1, q2⟩ := (H.out.below BW (Nat.le_refl _)).get hlt
      have hwr : w.heap.size ≤ wr.heap.size := BW.size
      have Q1 := Lib.hid q1
      have Q2 := Lib.hid q2
      obtain ⟨A3, c3, rfl, _⟩ := q1
      obtain ⟨A4, c4, rfl, _⟩ := q2
      have hfk := HFIT.out _ (List.getElem_mem hlt)
      have HW := Lib.hid hfk
      have hparts := hfk
      simp only [ruleFits, atomFits, Bool.and_eq_true, decide_eq_true_eq] at hparts
      have HLE := Lib.hid (place_short har hparts.1.1)
      have HTM := Lib.hid hparts.1.2
      have HPR := Lib.hid (show 0 ≤ rs[k].1.1 ∧ rs[k].1.1 < 24 from by
        have : ar.length ≤ 24 := by simp only [arityOk, Bool.and_eq_true, decide_eq_true_eq] at har; exact har.1
        omega)
      have hsk := sz_le_totR rs k hlt
      unfold szR at hsk
      have HSF := Lib.hid (SafeB.of (fits_body hfk))
      have HQL := Lib.hid (show (questL fs rs[k].2).length = rs[k].2.length by simp [questL])
      have CQ := Lib.hid (fun W (hW : Below wr.heap.size wr W) => questionsOf_any (.slice A2 fs.length c2) (.slice A4 rs[k].2.length c4) fs rs[k].2 W (H2.out.on (bthen BW hW)) ((Q2.out.more hwr).on hW) (by omega))
      clear hparts hfk hon hmem
      go_upto_region 5 with fail
      obtain ⟨wv, hwv⟩ : ∃ wv, wv = wr.alloc (Obj.cells #[Value.int .i64 rs[k].1.1, Value.slice A3 rs[k].1.2.length c3, Value.slice A4 rs[k].2.length c4] 79) := ⟨_, rfl⟩
      have bv : Below wr.heap.size wr wv := by rw [hwv]; exact below1 _ _
      have X : Blk wv wr.heap.size 79 #[.int .i64 rs[k].1.1, .slice A3 rs[k].1.2.length c3, .slice A4 rs[k].2.length c4] := by rw [hwv]; exact Blk.new _ _ _
      rw [← hwv]
      have hvl := X.lt
      clear hwv k0 k1 k2
      have x2 : wv.cell? ⟨wr.heap.size, 2, none⟩ = some (.slice A4 rs[k].2.length c4) := X.cell 2
      have HQK := Lib.hid (HSF.out.qok hc hn ht (by omega))
      go_wp2_with (first
        | (go_at_call 79; refine (CQ.out _ bv).mono ?_; rintro e w3 ⟨g3, us, rfl, hg3, at3, rd3, hb3⟩
           have CS := solve_any g3 rs[k].2.length wv.heap.size us (questL fs rs[k].2) w3 at3 rd3 hg3 (by rw [HQL.out]; omega) HQK.out (HSF.out.quests fs)
           rw [HQL.out] at CS
           have HCS := Lib.hid CS
           have H3 := Lib.hid (And.intro hg3 hb3)
           clear CS hg3 at3 rd3 hb3)
        | (go_at_call 78; refine HCS.out.mono ?_; rintro e w4 ⟨A5, c5, S, rfl, own4, on4, is4⟩
           have H4 := Lib.hid (And.intro own4 (And.intro on4 is4))
           clear own4 on4 is4))
      obtain ⟨hg3, hb3⟩ := H3.out
      obtain ⟨own4, on4, is4⟩ := H4.out
      have hs3 := hb3.size
      have b34 : Below wv.heap.size wv w4 := Only.then_ hb3 on4 hg3
      have hl4 : S.length ≤ 65536 := binds_len is4.1 is4.ok
      have X4 := Lib.hid (X.below b34 hvl)
      have hgr : g + 1 ≤ wr.heap.size := hat.1.lt
      have T4 := Lib.hid (hat.below (bthen bv b34) hat.1.lt)
      have ON4 := Lib.hid (HON.out.trans (Only.of_below (bthen bv b34)))
      have OW4 := Lib.hid own4
      have IS4 := Lib.hid is4
      have B4 := Lib.hid (bthen bv b34)
      have hs4 := b34.size
      clear hg3 hb3 own4 on4 is4 H3 H4 HCS CQ x2 X b34 hat HQK
      obtain ⟨wo, rfl⟩ : ∃ wo, wo = wr := ⟨_, rfl⟩
      go_loopw [22] (fun i wr => ∃ q : Nat, q ≤ S.length ∧ i = .int .i64 q ∧ TabAt wr g (tabWith zeroT (F ++ (S.take q).map (hdOf rs[k]))) ∧ Only g (g + 1) w4 wr) (fun i _ => S.length - (intOf i).toNat)
      case atStart => exact ⟨0, Nat.zero_le _, rfl, by simpa using T4.out, Only.refl _ _ _⟩
      case round =>
        obtain ⟨q, hq, rfl, htx, honx⟩ := hrel
        have hsx := honx.size
        have hwx : w.heap.size ≤ wr.heap.size := by omega
        by_cases hltq : q < S.length
        · have hrd := (OW4.out.only honx (.inr (by omega))).rd
          obtain ⟨A7, c7, e7, _, hx⟩ := hrd
          injection e7 with e7 _ e8
          subst e7 e8
          obtain ⟨b7, o7, rfl, _, hx⟩ := hx (by omega)
          have hck : wr.cell? ⟨b7, o7 + q, none⟩ = some (.int .u32 ((encB S[q] : Nat) : Int)) := hx q hltq
          have HBK := Lib.hid (IS4.out.ok _ (List.getElem_mem hltq))
          have HCO := Lib.hid (show (rs[k].1.2.map (termVal S[q])).all constOk = true from by
            have := sols_head HW.out IS4.out _ (List.getElem_mem hltq)
            simp only [headOk, Bool.and_eq_true] at this
            exact this.2)
          have Xx := X4.out.only honx (.inr hgr)
          obtain ⟨p, hpe⟩ : ∃ p : Nat, rs[k].1.1 = (p : Int) := ⟨rs[k].1.1.toNat, by have := HPR.out; omega⟩
          have hp24 : p < 24 := by have := HPR.out; omega
          obtain ⟨n, hne⟩ : ∃ n, n = numF (rs[k].1.2.map (termVal S[q])) := ⟨_, rfl⟩
          have HNE := Lib.hid hne
          have hn64 : n < 64 := by rw [hne]; exact numF_64 HCO.out (by rw [List.length_map]; exact HLE.out)
          obtain ⟨T, hTe⟩ : ∃ T, T = tabWith zeroT (F ++ (S.take q).map (hdOf rs[k])) := ⟨_, rfl⟩
          have HTK := Lib.hid (show tabWith zeroT (F ++ (S.take (q + 1)).map (hdOf rs[k])) = setBit T p n from by
            rw [take_snoc S q hltq, List.map_append, ← List.append_assoc, List.map_singleton, tabWith_snoc, hTe, hne]
            show setBit _ rs[k].1.1.toNat _ = _
            rw [hpe]
            rfl)
          rw [← hTe] at htx
          have HTV := Lib.hid (show TabAt wr.drew g T from htx)
          have q0 : wr.cell? ⟨wo.heap.size, 0, none⟩ = some (.int .i64 p) := by rw [← hpe]; exact Xx.cell 0
          have q1 : wr.cell? ⟨wo.heap.size, 1, none⟩ = some (.slice A3 rs[k].1.2.length c3) := Xx.cell 1
          have RX := Lib.hid (show RdInts wr w.heap.size (.slice A3 rs[k].1.2.length c3) rs[k].1.2 from (Q1.out.below B4.out hwr).below (honx.below hgw (by omega)) (Nat.le_refl _))
          have HONX := Lib.hid (show Only g (g + 1) w4 wr.drew from honx.drew')
          clear hx htx honx hpe hne hTe Xx
          go_upto_region 8 with fail
          obtain ⟨SS, hSS⟩ : ∃ SS : World → Prop, SS = (fun W => Below wr.heap.size wr W ∧ W.cell? ⟨wo.heap.size, 0, none⟩ = some (.int .i64 p) ∧ W.cell? ⟨wo.heap.size, 1, none⟩ = some (.slice A3 rs[k].1.2.length c3)) := ⟨_, rfl⟩
          have HB := Lib.hid (show ∀ W, SS W → (Below wr.heap.size wr W ∧ W.cell? ⟨wo.heap.size, 0, none⟩ = some (.int .i64 p) ∧ W.cell? ⟨wo.heap.size, 1, none⟩ = some (.slice A3 rs[k].1.2.length c3)) from by rw [hSS]; exact fun W hW => hW)
          have HS := Lib.hid (show ∀ W, Below wr.heap.size wr W → SS W from by
            rw [hSS]
            exact fun W hW => ⟨hW, (hW.cell (World.block_lt_of_cell? _ _ q0)).trans q0, (hW.cell (World.block_lt_of_cell? _ _ q1)).trans q1⟩)
          clear hSS
          have BB : Below wr.heap.size wr wr.drew := (Below.refl _ _).drew
          have SB := HS.out _ BB
          refine wp_region_rel SS 8 9 (by kernel_rfl) rfl ?_
          refine wpAnyR_pure (i := 0) (oi := _) ?v0 rfl rfl (by kernel_rfl) (by decide) (fun _ _ _ h => h) rfl ?hy0 (fun _ => SB) ?rest0
          case hy0 => (intro W; go_simp; (try with_reducible rfl))
          try simp only [List.setIfInBounds_toArray, List.set_cons_zero, List.set_cons_succ]
          refine wpAnyR_pure (i := 1) (oi := _) ?v1 rfl rfl (by kernel_rfl) (by decide) (fun _ _ _ h => h) rfl ?hy1 (fun _ => SB) ?rest1
          case hy1 => (intro W; go_simp; (try with_reducible rfl))
          try simp only [List.setIfInBounds_toArray, List.set_cons_zero, List.set_cons_succ]
          refine wpAnyR_take (i := 2) (oi := _) ?v2 rfl rfl (by kernel_rfl) (fun _ _ _ h => h) rfl ?hy2 SB ?rest2
          case hy2 => (intro W hW; obtain ⟨_, e0, e1⟩ := HB.out W hW; go_simp; (try with_reducible rfl))
          try simp only [List.setIfInBounds_toArray, List.set_cons_zero, List.set_cons_succ]
          refine wpAnyR_pure (i := 3) (oi := _) ?v3 rfl rfl (by kernel_rfl) (by decide) (fun _ _ _ h => h) rfl ?hy3 (fun _ => SB) ?rest3
          case hy3 => (intro W; go_simp; (try with_reducible rfl))
          try simp only [List.setIfInBounds_toArray, List.set_cons_zero, List.set_cons_succ]
          refine wpAnyR_pure (i := 4) (oi := _) ?v4 rfl rfl (by kernel_rfl) (by decide) (fun _ _ _ h => h) rfl ?hy4 (fun _ => SB) ?rest4
          case hy4 => (intro W; go_simp; (try with_reducible rfl))
          try simp only [List.setIfInBounds_toArray, List.set_cons_zero, List.set_cons_succ]
          refine wpAnyR_pure (i := 5) (oi := _) ?v5 rfl rfl (by kernel_rfl) (by decide) (fun _ _ _ h => h) rfl ?hy5 (fun _ => SB) ?rest5
          case hy5 => (intro W; go_simp; (try with_reducible rfl))
          try simp only [List.setIfInBounds_toArray, List.set_cons_zero, List.set_cons_succ]
          refine wpAnyR_take (i := 6) (oi := _) ?v6 rfl rfl (by kernel_rfl) (fun _ _ _ h => h) rfl ?hy6 SB ?rest6
          case hy6 => (intro W hW; obtain ⟨_, e0, e1⟩ := HB.out W hW; go_simp; (try with_reducible rfl))
          try simp only [List.setIfInBounds_toArray, List.set_cons_zero, List.set_cons_succ]
          refine wpAnyR_one (i := 7) (by kernel_rfl) rfl (fun K hK => ?_)
          try rw [if_pos (show Region.wanted _ _ = true from rfl)]
          go_simp
          refine (number_any (.slice A3 rs[k].1.2.length c3) S[q] rs[k].1.2 HBK.out HTM.out w.heap.size _ (RX.out.below BB hwx) HCO.out HLE.out).mono ?_
          rw [← HNE.out]
          rintro e W7 ⟨rfl, rfl⟩
          refine hK.out _ _ (fun _ => SB) ?_
          clear hK K
          try simp only [List.setIfInBounds_toArray, List.set_cons_zero, List.set_cons_succ, Act.put]
          refine wpAnyR_one (i := 8) (by kernel_rfl) rfl (fun K hK => ?_)
          try rw [if_pos (show Region.wanted _ _ = true from rfl)]
          go_simp
          refine (add_any g p n T _ HTV.out hp24 hn64).mono ?_
          rintro e W8 ⟨rfl, ht8, ho8⟩
          have H8 := Lib.hid (And.intro ht8 ho8)
          clear ht8 ho8
          refine hK.out _ _ (fun hf => absurd hf (by decide)) ?_
          clear hK K
          try simp only [List.setIfInBounds_toArray, List.set_cons_zero, List.set_cons_succ, Act.put]
          refine wpAnyR_done (by kernel_rfl) ?_
          go_wp2_with fail
          go_roundw
          case rel => exact ⟨q + 1, by omega, by go_num, by rw [HTK.out]; exact H8.out.1, HONX.out.trans H8.out.2⟩
          case measure => simp [intOf]; omega
        · have HQ := Lib.hid (show S.take q = S by rw [show q = S.length by omega, List.take_length])
          have HTX := Lib.hid htx
          have HOX := Lib.hid (ON4.out.trans honx)
          clear htx honx
          go_wp2_with fail
          go_roundw
          case rel =>
            refine ⟨k + 1, F ++ S.map (hdOf rs[k]), by omega, by go_num, by have := HTX.out; rw [HQ.out] at this; exact this, fun f => ?_, HOX.out⟩
            rw [headsAll_snoc rs fs k hlt, setOf_mem, List.mem_append, List.mem_append, HMEM.out f, headsL_mem HW.out IS4.out hc hnd, List.mem_map]
            constructor
            · rintro (h | ⟨b, hb, e⟩)
              · exact .inl h
              · exact .inr ⟨b, hb, e.symm⟩
            · rintro (h | ⟨b, hb, e⟩)
              · exact .inl h
              · exact .inr ⟨b, hb, e.symm⟩
          case measure => simp [intOf]; omega
    · obtain rfl : k = rs.length := by omega
      have HMF := Lib.hid (show ∀ f, f ∈ F ↔ f ∈ headsAll rs fs from by have := HMEM.out; rw [List.take_length] at this; exact this)
      have RR := HR0.out.only hon (.inl (by have := HGE.out; omega))
      obtain ⟨hbk, hln, _⟩ := hat
      obtain ⟨cs, hcs⟩ : ∃ cs, cs = tabCells (tabWith zeroT F) := ⟨_, rfl⟩
      have hcz : cs.size = 24 := by rw [hcs]; simp [tabCells, hln]
      have HONE := Lib.hid (show cs.all (·.oneCell') = true from by
        rw [hcs]
        unfold tabCells
        rw [List.all_toArray, List.all_map, List.all_eq_true]
        intro x _
        rfl)
      rw [← hcs] at hbk
      have hsi : (Tryz.prog.info? 71).map (·.size) = some cs.size := by rw [hcz]; kernel_rfl
      have hold : (tabCells zeroT).size = cs.size := by rw [hcz]; rfl
      have HOLD := Lib.hid hold
      have HCS := Lib.hid hcs
      have HBE := Lib.hid BW
      have HSI := Lib.hid hsi
      have HBK := Lib.hid hbk
      have HRR := Lib.hid RR.1
      clear hcs hcz hon hmem hln hold hsi hbk RR
      go_wp2_with (first
        | (refine wpList_load_row rfl 71 _ rfl g rfl 71 cs (0, 0) _ HBK.out Tryz.underlying71 rfl HSI.out ?_)
        | (refine wpList_store_row rfl 71 _ _ rfl w.heap.size cs rfl rfl 71 (tabCells zeroT) HRR.out HSI.out HOLD.out HONE.out ?_))
      refine bodyPost_ret_by (v := .agg cs) (results_cell_row Tryz.results43 _ _ w.heap.size _ cs (0, 0) _ rfl (setRow_heap _ _ _ cs _ _ HRR.out) Tryz.underlying71 rfl HSI.out) rfl ?_
      exact ⟨F, by rw [HCS.out], HMF.out, below_setRow HBE.out (Nat.le_refl _) _⟩

end Go.Proofs.YtfjmnjemmfmoaaaGreat
/-
  hasAll: a table has all of another one.
-/
namespace Go.Proofs.YtfjmnjemmfmoaaaGreat
open Go.RowKit

def wordIn (T2 T : List Nat) (p : Nat) : Bool := bits .andNot .u64 ((T2.getD p 0 : Nat) : Int) ((T.getD p 0 : Nat) : Int) == 0
def tabIn (T2 T : List Nat) : Bool := (List.range 24).all (wordIn T2 T)

theorem run_index_tab {cs : Array Value} {k : Nat} {v : Value} (hk : k < 24) (hc : cs[k]? = some v) (W : World) :
    (Instr.index 71 (.agg cs) (.int .i64 (k : Int))).run Tryz.prog W = .ok v W := by
  have hks : k < cs.size := by
    rcases Nat.lt_or_ge k cs.size with h | h
    · exact h
    · rw [Array.getElem?_eq_none h] at hc; cases hc
  simp [Instr.index, run_underlying Tryz.underlying71, asIntOf, hc, go_sem]
  intro h
  omega

set_option maxHeartbeats 2000000 in
set_option maxRecDepth 100000 in
theorem hasAll_any (g : Nat) (T T2 : List Nat) (w : World) (h : TabAt w g T) (h2 : T2.length = 24) (R : Bool) (hR : R = tabIn T2 T) :
    Calls Tryz.prog 45 #[.pointer (some ⟨g, 0, none⟩), .agg (tabCells T2)] w fun e w' => e = .returned (.bool R) ∧ Below w.heap.size w w' := by
  have H := Lib.hid h
  have HR := Lib.hid hR
  have hcs : (tabCells T2).size = 24 := by simp [tabCells, h2]
  have HC := Lib.hid (fun p (hp : p < 24) => (show (tabCells T2)[p]? = some (.int .u64 ((T2.getD p 0 : Nat) : Int)) from by
    have : p < T2.length := by rw [h2]; exact hp
    simp [tabCells, this]))
  have hgl := h.1.lt
  clear h hR
  obtain ⟨cs, hcse⟩ : ∃ cs, cs = tabCells T2 := ⟨_, rfl⟩
  rw [← hcse] at hcs HC ⊢
  clear hcse
  have hsz : (Tryz.prog.info? 71).map (·.size) = some cs.size := by rw [hcs]; kernel_rfl
  go_enter Tryz.func45, Tryz.ntmps45
  go_upto_region 1 with fail
  obtain ⟨w1, hw1⟩ : ∃ w1, w1 = w.alloc (Obj.cells cs 71) := ⟨_, rfl⟩
  have X1 : Blk w1 w.heap.size 71 cs := by rw [hw1]; exact Blk.new _ _ _
  have HB1 := Lib.hid (show Below w.heap.size w w1 by rw [hw1]; exact below1 _ _)
  rw [← hw1]
  clear hw1
  go_wp2_with (refine wpList_load_row rfl 71 _ rfl w.heap.size rfl 71 cs (0, 0) _ X1 Tryz.underlying71 rfl hsz ?_)
  clear X1 hsz
  go_loopw [8] (fun i wr => ∃ k : Nat, k ≤ 24 ∧ i = .int .i64 k ∧ (∀ p, p < k → wordIn T2 T p = true) ∧ wr = w1) (fun i _ => 24 - (intOf i).toNat)
  case atStart => exact ⟨0, by omega, rfl, fun p h => absurd h (by omega), by first | rfl | trivial⟩
  case round =>
    obtain ⟨k, hk, rfl, hs, rfl⟩ := hrel
    by_cases hlt : k < 24
    · have hck := HC.out k hlt
      have hTk := (H.out.below HB1.out hgl).cell hlt
      have hki : (k : Int) < 24 := by omega
      obtain ⟨z, hz⟩ : ∃ z, z = bits .andNot .u64 ((T2.getD k 0 : Nat) : Int) ((T.getD k 0 : Nat) : Int) := ⟨_, rfl⟩
      obtain ⟨a, hae⟩ : ∃ a, a = T2.getD k 0 := ⟨_, rfl⟩
      obtain ⟨b, hbe⟩ : ∃ b, b = T.getD k 0 := ⟨_, rfl⟩
      rw [← hae] at hck hz
      rw [← hbe] at hTk hz
      have hix := fun W => run_index_tab hlt hck W
      have HZ := Lib.hid (show wordIn T2 T k = (z == 0) by unfold wordIn; rw [← hae, ← hbe, ← hz])
      have hz' : bits .andNot .u64 ((a : Nat) : Int) ((b : Nat) : Int) = z := hz.symm
      clear hz hae hbe
      have HS := Lib.hid hs
      clear hs
      by_cases h0 : z = 0
      · subst h0
        go_wp2_with fail
        go_roundw
        case rel => exact ⟨k + 1, by omega, by go_num, fun p hp => by
          by_cases e : p = k
          · subst e; rw [HZ.out]; rfl
          · exact HS.out p (by omega), by first | rfl | trivial⟩
        case measure => simp [intOf]; omega
      · have hne : (z != 0) = true := by simpa using h0
        have HE := Lib.hid (show R = false by
          rw [HR.out]
          unfold tabIn
          rw [List.all_eq_false]
          exact ⟨k, List.mem_range.2 hlt, by rw [HZ.out]; simpa using h0⟩)
        go_wp2_with fail
        go_ret
        exact ⟨ret_bool HE.out.symm, HB1.out⟩
    · have HE := Lib.hid (show R = true by
        rw [HR.out]
        unfold tabIn
        rw [List.all_eq_true]
        intro p hp
        exact hs p (by have := List.mem_range.1 hp; omega))
      clear hs
      go_wp2_with fail
      go_ret
      exact ⟨ret_bool HE.out.symm, HB1.out⟩

end Go.Proofs.YtfjmnjemmfmoaaaGreat
