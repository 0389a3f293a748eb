/-
  Texts that the claim's last one imports, laid together: part 8 of 12. No condition of its own.
-/
import Derived.Test.YtniedmhkajnfjaaGreatChecked
import Derived.ProofKit
import Derived.OpenShut
import Derived.ChangeOld
import Derived.WalkKit
import Derived.Deep.Slices
import Derived.Deep.Fields
import Derived.ChangeSame
import Derived.Lib.SmallJoins
import Derived.KernelRfl
import Derived.Deep.RegionHeld3
import Derived.Deep.RegionWith
import Derived.Deep.RegionLaw
import Derived.Laws.BitsAllLaws
import Derived.Deep.DeepCutAuto
import Derived.Laws.CopyOwn
import Derived.Deep.WholeRow
import Derived.Test.YtniedmhkajnfjaaGreatMRf1
import Derived.Test.YtniedmhkajnfjaaGreatMRf2
import Derived.Test.YtniedmhkajnfjaaGreatMRf3
import Derived.Test.YtniedmhkajnfjaaGreatMRf5
import Derived.Test.YtniedmhkajnfjaaGreatMRf6
import Derived.Test.YtniedmhkajnfjaaGreatMRf7
/-
  What comes in, opened: integers.
-/
namespace Go.Proofs.YtniedmhkajnfjaaGreat
open Go.ChangeShapes Go.WideShapes Go.ChangeAt Go.RowKit Go.Joins Go.Deep

theorem Tryz.own : ownKnob Tryz.prog.godebug = none := by kernel_rfl
theorem Tryz.laidOut : laidOutB Tryz.prog = true := by kernel_rfl
theorem Tryz.cells3 : Tryz.prog.cellsOf 3 = 1 := by kernel_rfl
theorem Tryz.cells22 : Tryz.prog.cellsOf 22 = 1 := by kernel_rfl

section
variable {H : Type} {enc : TypeId × Value → H} {W : World}

/-- What is known of a slice of integers that came in. -/
def InInts (W : World) (v : Value) (xs : List Int) : Prop := RdInts W W.heap.size v xs ∧ xs.length ≤ maxLen

/-- The cells of a slice of integers. -/
theorem open_inInts_cells {fuel : Nat} {v : Value} {x : DataW H × List MemPlace} (h : DataW.trod enc Tryz.prog W 0 (fun _ => true) true fuel 22 [v] = some x) : ∃ xs, InInts W v xs := by
  rcases open_ints Tryz.underlying22 Tryz.underlying3 Tryz.cells3 h with ⟨hcs, _⟩ | ⟨a, len, cap, zs, hcs, _, hl, hm, hz, _, hcell, _⟩
  · simp at hcs
    subst hcs
    exact ⟨[], ⟨none, 0, rfl, by simp, fun h => absurd h (by simp)⟩, by simp⟩
  · simp at hcs
    subst hcs
    simp at hz
    refine ⟨zs.take len, ⟨some a, cap, ?_, by simp; omega, fun hn => ?_⟩, by simp; omega⟩
    · congr 1
      simp
      omega
    · have hlen : (zs.take len).length = len := by simp; omega
      obtain ⟨b, o, rfl, hc⟩ := ints_at hcell (by omega)
      refine ⟨b, o, rfl, World.block_lt_of_cell? _ _ (hc 0 (by omega)), fun k hk => ?_⟩
      rw [hc k (by omega)]
      simp [show k < zs.length by omega]

set_option maxRecDepth 100000 in
theorem open_inInts {v : Value} {d : DataW H} {p : List MemPlace} {b0 : Nat} (hv : Value.okWide Tryz.prog W .any b0 22 v) (h : DataW.Trod enc Tryz.prog W 0 (fun _ => true) true 22 v d p) :
    ∃ xs, InInts W v xs := by
  obtain ⟨a, len, cap, rfl⟩ := okWide_slice Tryz.underlying22 hv
  obtain ⟨fuel, hf⟩ := h
  exact open_inInts_cells (by simpa [Value.cells] using hf)

/-- What is known of an int that came in. -/
def InInt (v : Value) (n : Int) : Prop := v = .int .i64 n ∧ -9223372036854775808 ≤ n ∧ n ≤ 9223372036854775807

set_option maxRecDepth 100000 in
theorem open_inInt {v : Value} {d : DataW H} {p : List MemPlace} {b0 : Nat} (hv : Value.okWide Tryz.prog W .any b0 3 v) (h : DataW.Trod enc Tryz.prog W 0 (fun _ => true) true 3 v d p) : ∃ n, InInt v n := by
  obtain ⟨n, rfl, _, _, hw⟩ := open_int Tryz.underlying3 hv h
  exact ⟨n, rfl, bounds_i64 hw⟩
end

end Go.Proofs.YtniedmhkajnfjaaGreat
/-
  What comes in, opened: atoms.
-/
namespace Go.Proofs.YtniedmhkajnfjaaGreat
open Go.ChangeShapes Go.WideShapes Go.ChangeAt Go.RowKit Go.Joins Go.Deep

theorem Tryz.cells71 : Tryz.prog.cellsOf 71 = 2 := by kernel_rfl

section
variable {H : Type} {enc : TypeId × Value → H} {W : World}

def InAtom (W : World) (v : Value) (f : LFact) : Prop := RdFact W W.heap.size v f ∧ f.2.length ≤ maxLen

set_option maxRecDepth 100000 in
theorem open_atom_cells {fuel : Nat} {v0 v1 : Value} {x : DataW H × List MemPlace} (h : DataW.trod enc Tryz.prog W 0 (fun _ => true) true fuel 71 [v0, v1] = some x) : ∃ f : LFact, v0 = .int .i64 f.1 ∧ InInts W v1 f.2 := by
  obtain ⟨y0, y1, n, _, _, h0, h1⟩ := trod_struct2 Tryz.underlying71 h
  rw [Tryz.cells3] at h0
  rw [Tryz.cells22] at h1
  obtain ⟨m, e0, _, _⟩ := DataW.trod_int Tryz.underlying3 h0
  obtain ⟨xs, hx⟩ := open_inInts_cells h1
  simp at e0
  exact ⟨(m, xs), e0, hx⟩

set_option maxRecDepth 100000 in
theorem open_inAtom {v : Value} {d : DataW H} {p : List MemPlace} {b0 : Nat} (hv : Value.okWide Tryz.prog W .any b0 71 v) (h : DataW.Trod enc Tryz.prog W 0 (fun _ => true) true 71 v d p) : ∃ f, InAtom W v f := by
  obtain ⟨cs, rfl, hsz⟩ := okWide_struct Tryz.underlying71 hv
  obtain ⟨c0, c1, rfl⟩ := array2 (hsz.trans Tryz.cells71)
  obtain ⟨fuel, hf⟩ := h
  obtain ⟨f, rfl, h1, h2⟩ := open_atom_cells (v0 := c0) (v1 := c1) (by simpa [Value.cells] using hf)
  exact ⟨f, ⟨c1, rfl, h1⟩, h2⟩
end

end Go.Proofs.YtniedmhkajnfjaaGreat
/-
  What comes in, opened: literals.
-/
namespace Go.Proofs.YtniedmhkajnfjaaGreat
open Go.ChangeShapes Go.WideShapes Go.ChangeAt Go.RowKit Go.Joins Go.Deep

theorem Tryz.cells73 : Tryz.prog.cellsOf 73 = 3 := by kernel_rfl
theorem Tryz.cells45 : Tryz.prog.cellsOf 45 = 1 := by kernel_rfl

section
variable {H : Type} {enc : TypeId × Value → H} {W : World}

def InLit (W : World) (v : Value) (l : LLit) : Prop := RdLit W W.heap.size v l ∧ l.2.2.length ≤ maxLen

def bodyFits (ls : List LLit) : Prop := ls.length ≤ maxLen ∧ ∀ k (h : k < ls.length), ls[k].2.2.length ≤ maxLen

set_option maxRecDepth 100000 in
theorem open_lit_cells {fuel : Nat} {v0 v1 v2 : Value} {x : DataW H × List MemPlace} (h : DataW.trod enc Tryz.prog W 0 (fun _ => true) true fuel 73 [v0, v1, v2] = some x) :
    ∃ l : LLit, QLit W W.heap.size v0 v1 v2 l ∧ l.2.2.length ≤ maxLen := by
  obtain ⟨y0, y1, n, _, _, h0, h1⟩ := trod_struct2 Tryz.underlying73 h
  rw [Tryz.cells3] at h0
  rw [Tryz.cells71] at h1
  obtain ⟨m, e0, _, _⟩ := DataW.trod_int Tryz.underlying3 h0
  obtain ⟨f, e1, hx⟩ := open_atom_cells (v0 := v1) (v1 := v2) h1
  simp at e0
  exact ⟨(m, f), ⟨e0, e1, hx.1⟩, hx.2⟩

/-- A slice of elements of three cells. -/
theorem open_row_cells {α : Type} [Inhabited α] {t e : TypeId} {Q : World → Nat → Value → Value → Value → α → Prop} {N : α → Prop} (ht : Tryz.prog.underlying t = some (.slice e)) (hc : Tryz.prog.cellsOf e = 3)
    (hQ : ∀ {fuel : Nat} {v0 v1 v2 : Value} {x : DataW H × List MemPlace}, DataW.trod enc Tryz.prog W 0 (fun _ => true) true fuel e [v0, v1, v2] = some x → ∃ y : α, Q W W.heap.size v0 v1 v2 y ∧ N y)
    {fuel : Nat} {v : Value} {x : DataW H × List MemPlace} (h : DataW.trod enc Tryz.prog W 0 (fun _ => true) true fuel t [v] = some x) :
    ∃ xs : List α, RdRow Q W W.heap.size v xs ∧ xs.length ≤ maxLen ∧ ∀ k (h : k < xs.length), N xs[k] := by
  rcases open_slice ht h with ⟨hcs, _⟩ | ⟨a, len, cap, m, n, D, Pl, hcs, _, hl, hm, hmm, _, hx⟩
  · simp at hcs
    subst hcs
    exact ⟨[], ⟨none, 0, rfl, by simp, fun h => absurd h (by simp)⟩, by simp, fun k h => absurd h (by simp)⟩
  · simp at hcs
    subst hcs
    simp at hmm
    subst hmm
    rw [hc] at hx
    obtain ⟨F, hF⟩ := choose_lt (α := Value × Value × Value × α) (n := m) (p := fun i q => W.cell? (a.add (i * 3)) = some q.1 ∧ W.cell? (a.add (i * 3 + 1)) = some q.2.1 ∧ W.cell? (a.add (i * 3 + 2)) = some q.2.2.1 ∧ Q W W.heap.size q.1 q.2.1 q.2.2.1 q.2.2.2 ∧ N q.2.2.2) (fun i hi => by
      obtain ⟨cs', h1, h2⟩ := hx i hi
      obtain ⟨_, hlen, hcell⟩ := World.cells?_some h1
      match cs', hlen with
      | [v0, v1, v2], _ =>
        have e0 := hcell 0 (by omega)
        have e1 := hcell 1 (by omega)
        have e2 := hcell 2 (by omega)
        rw [add_add] at e0 e1 e2
        obtain ⟨y, hy, hn⟩ := hQ h2
        exact ⟨(v0, v1, v2, y), by simpa using e0, by simpa using e1, by simpa using e2, hy, hn⟩)
    refine ⟨(List.range len).map fun i => (F i).2.2.2, ⟨some a, m, by simp, by simpa using hl, fun hn => ?_⟩, by simp; omega, fun k hk => ?_⟩
    · simp at hn
      obtain ⟨b, off, spot⟩ := a
      have hspot : spot = none := by simpa [Addr.add] using World.cell?_spot (hF 0 (by omega)).1
      subst hspot
      have hb : b < W.heap.size := by simpa [Addr.add] using World.block_lt_of_cell? _ _ (hF 0 (by omega)).1
      refine ⟨b, off, rfl, hb, fun k hk => ?_⟩
      simp at hk
      obtain ⟨c0, c1, c2, hq, _⟩ := hF k (by omega)
      rw [Go.WideShapes.add_plain] at c0 c1 c2
      exact ⟨_, _, _, by simpa using c0, by simpa [Nat.add_assoc] using c1, by simpa [Nat.add_assoc] using c2, by simpa using hq⟩
    · simp at hk ⊢
      exact (hF k (by omega)).2.2.2.2

set_option maxRecDepth 100000 in
theorem open_lits_cells {fuel : Nat} {v : Value} {x : DataW H × List MemPlace} (h : DataW.trod enc Tryz.prog W 0 (fun _ => true) true fuel 45 [v] = some x) : ∃ ls : List LLit, RdLits W W.heap.size v ls ∧ bodyFits ls :=
  open_row_cells (N := fun l : LLit => l.2.2.length ≤ maxLen) Tryz.underlying45 Tryz.cells73 (fun h => open_lit_cells h) h

def InLits (W : World) (v : Value) (ls : List LLit) : Prop := RdLits W W.heap.size v ls ∧ bodyFits ls
set_option maxRecDepth 100000 in
theorem open_inLits {v : Value} {d : DataW H} {p : List MemPlace} {b0 : Nat} (hv : Value.okWide Tryz.prog W .any b0 45 v) (h : DataW.Trod enc Tryz.prog W 0 (fun _ => true) true 45 v d p) :
    ∃ ls, InLits W v ls := by
  obtain ⟨a, len, cap, rfl⟩ := okWide_slice Tryz.underlying45 hv
  obtain ⟨fuel, hf⟩ := h
  exact open_lits_cells (by simpa [Value.cells] using hf)

set_option maxRecDepth 100000 in
theorem open_inLit {v : Value} {d : DataW H} {p : List MemPlace} {b0 : Nat} (hv : Value.okWide Tryz.prog W .any b0 73 v) (h : DataW.Trod enc Tryz.prog W 0 (fun _ => true) true 73 v d p) : ∃ l, InLit W v l := by
  obtain ⟨cs, rfl, hsz⟩ := okWide_struct Tryz.underlying73 hv
  obtain ⟨c0, c1, c2, rfl⟩ := array3 (hsz.trans Tryz.cells73)
  obtain ⟨fuel, hf⟩ := h
  obtain ⟨l, ⟨rfl, rfl, h1⟩, h2⟩ := open_lit_cells (v0 := c0) (v1 := c1) (v2 := c2) (by simpa [Value.cells] using hf)
  exact ⟨l, ⟨c2, rfl, h1⟩, h2⟩
end

end Go.Proofs.YtniedmhkajnfjaaGreat
/-
  What comes in, opened: rules.
-/
namespace Go.Proofs.YtniedmhkajnfjaaGreat
open Go.ChangeShapes Go.WideShapes Go.ChangeAt Go.RowKit Go.Joins Go.Deep

theorem Tryz.cells95 : Tryz.prog.cellsOf 95 = 3 := by kernel_rfl

section
variable {H : Type} {enc : TypeId × Value → H} {W : World}

def ruleFitsIn (r : LRule) : Prop := r.1.2.length ≤ maxLen ∧ bodyFits r.2

def InRule (W : World) (v : Value) (r : LRule) : Prop := RdRule W W.heap.size v r ∧ ruleFitsIn r

set_option maxRecDepth 100000 in
theorem open_rule_cells {fuel : Nat} {v0 v1 v2 : Value} {x : DataW H × List MemPlace} (h : DataW.trod enc Tryz.prog W 0 (fun _ => true) true fuel 95 [v0, v1, v2] = some x) :
    ∃ r : LRule, QRule W W.heap.size v0 v1 v2 r ∧ ruleFitsIn r := by
  obtain ⟨y0, y1, n, _, _, h0, h1⟩ := trod_struct2 Tryz.underlying95 h
  rw [Tryz.cells71] at h0
  rw [Tryz.cells45] at h1
  obtain ⟨f, e1, hx⟩ := open_atom_cells (v0 := v0) (v1 := v1) h0
  obtain ⟨ls, hl, hb⟩ := open_lits_cells (v := v2) h1
  exact ⟨(f, ls), ⟨e1, hx.1, hl⟩, hx.2, hb⟩

set_option maxRecDepth 100000 in
theorem open_inRule {v : Value} {d : DataW H} {p : List MemPlace} {b0 : Nat} (hv : Value.okWide Tryz.prog W .any b0 95 v) (h : DataW.Trod enc Tryz.prog W 0 (fun _ => true) true 95 v d p) : ∃ r, InRule W v r := by
  obtain ⟨cs, rfl, hsz⟩ := okWide_struct Tryz.underlying95 hv
  obtain ⟨c0, c1, c2, rfl⟩ := array3 (hsz.trans Tryz.cells95)
  obtain ⟨fuel, hf⟩ := h
  obtain ⟨r, ⟨rfl, h1, h3⟩, h2⟩ := open_rule_cells (v0 := c0) (v1 := c1) (v2 := c2) (by simpa [Value.cells] using hf)
  exact ⟨r, ⟨c1, c2, rfl, h1, h3⟩, h2⟩
end

end Go.Proofs.YtniedmhkajnfjaaGreat
/-
  What comes in, opened: integers, atoms, literals, rules, programs.
-/
namespace Go.Proofs.YtniedmhkajnfjaaGreat
open Go.ChangeShapes Go.WideShapes Go.ChangeAt Go.RowKit Go.Joins Go.Deep

theorem Tryz.cells25 : Tryz.prog.cellsOf 25 = 2 := by kernel_rfl
theorem Tryz.cells23 : Tryz.prog.cellsOf 23 = 1 := by kernel_rfl

/-- A program: its predicates' places, its rules. -/
abbrev LProg := List Int × List LRule
def RdProg (w : World) (B : Nat) (v : Value) (p : LProg) : Prop := ∃ a b, v = .agg #[a, b] ∧ RdInts w B a p.1 ∧ RdRules w B b p.2
theorem RdProg.on {w w' : World} {v : Value} {p : LProg} (h : RdProg w w.heap.size v p) (hb : Below w.heap.size w w') : RdProg w' w'.heap.size v p := by
  obtain ⟨a, b, rfl, h1, h2⟩ := h
  exact ⟨a, b, rfl, h1.on hb, h2.on hb⟩

section
variable {H : Type} {enc : TypeId × Value → H} {W : World}

def InProg (W : World) (v : Value) (p : LProg) : Prop := RdProg W W.heap.size v p ∧ p.1.length ≤ maxLen ∧ p.2.length ≤ maxLen ∧ ∀ k (h : k < p.2.length), ruleFitsIn p.2[k]

set_option maxRecDepth 100000 in
theorem open_rules_cells {fuel : Nat} {v : Value} {x : DataW H × List MemPlace} (h : DataW.trod enc Tryz.prog W 0 (fun _ => true) true fuel 23 [v] = some x) : ∃ rs : List LRule, RdRules W W.heap.size v rs ∧ rs.length ≤ maxLen ∧ ∀ k (h : k < rs.length), ruleFitsIn rs[k] :=
  open_row_cells (N := ruleFitsIn) Tryz.underlying23 Tryz.cells95 (fun h => open_rule_cells h) h

set_option maxRecDepth 100000 in
theorem open_inProg {v : Value} {d : DataW H} {p : List MemPlace} {b0 : Nat} (hv : Value.okWide Tryz.prog W .any b0 25 v) (h : DataW.Trod enc Tryz.prog W 0 (fun _ => true) true 25 v d p) : ∃ q, InProg W v q := by
  obtain ⟨cs, rfl, hsz⟩ := okWide_struct Tryz.underlying25 hv
  obtain ⟨c0, c1, rfl⟩ := array2 (hsz.trans Tryz.cells25)
  obtain ⟨fuel, hf⟩ := h
  obtain ⟨y0, y1, n, _, _, h0, h1⟩ := trod_struct2 Tryz.underlying25 hf
  rw [Tryz.cells22] at h0
  rw [Tryz.cells23] at h1
  obtain ⟨xs, hx⟩ := open_inInts_cells (v := c0) (by simpa [Value.cells] using h0)
  obtain ⟨rs, hr, hn, hk⟩ := open_rules_cells (v := c1) (by simpa [Value.cells] using h1)
  exact ⟨(xs, rs), ⟨c0, c1, rfl, hx.1, hr⟩, hx.2, hn, hk⟩
end

end Go.Proofs.YtniedmhkajnfjaaGreat
/-
  The walks over lists of rules and programs: szRuleS, toRuleS, eqRuleS, szProgram, toProgram, eqProgram.
-/
namespace Go.Proofs.YtniedmhkajnfjaaGreat
open Go.RowKit

theorem Tryz.infoRule : (Tryz.prog.info? 100).map (fun i => (i.zero, i.size, i.bytes)) = some (some (.agg #[.int .i64 0, .slice none 0 0, .slice none 0 0]), 3, 56) := by kernel_rfl

set_option maxHeartbeats 400000 in
theorem toRuleS_any (v : Value) (ls : List LRule) (w : World) (h : RdRules w w.heap.size v ls) (hl : ls.length ≤ 1048576) (hn : totR ls ≤ 1048576) :
    Calls Tryz.prog 31 #[v] w fun e w' => ∃ A' c', e = .returned (.slice A' ls.length c') ∧ OwnRules w' w.heap.size w'.heap.size (.slice A' ls.length c') ls ∧ Below w.heap.size w w' := by
  obtain ⟨i0, hi0, hz0, hz1, hz2⟩ := info_parts Tryz.infoRule
  have hmk := fun W => run_make_rowN (P := Tryz.prog) 33 100 i0 (.agg #[.int .i64 0, .slice none 0 0, .slice none 0 0]) Tryz.underlying33 hi0 hz0 .i64 .i64 ls.length ls.length (Nat.le_refl _) (by rw [hz2]; omega) (by omega) W
  rw [hz1] at hmk
  simp only [Value.cells] at hmk
  have H := Lib.hid h
  obtain ⟨A, c, rfl, hc, _⟩ := h
  go_enter Tryz.func31, Tryz.ntmps31
  go_wp2_with (fail)
  go_loopw [4] (fun i wr => ∃ (k : Nat), k ≤ ls.length ∧ i = .int .i64 k ∧ ToRow 100 (.int .i64 0) (.slice none 0 0) (.slice none 0 0) ORule w wr ls k) (fun i _ => ls.length - (intOf i).toNat)
  case atStart => exact ⟨0, Nat.zero_le _, rfl, ToRow.start w ls⟩
  case round =>
    obtain ⟨k, hk, rfl, hr⟩ := hrel
    by_cases hlt : k < ls.length
    · obtain ⟨b, o, u0, u1, u2, rfl, hbB, k0, k1, k2, rfl, k3, k4⟩ := (H.out.on hr.below).get hlt
      have HA := Lib.hid k3
      have HB := Lib.hid k4
      obtain ⟨A3, c3, rfl, hc4, _⟩ := k3
      obtain ⟨A5, c5, rfl, hc5, _⟩ := k4
      have hln := sz_le_totR ls k hlt
      go_wp2_with (fail)
      refine (toRule_any _ ls[k] _ ⟨_, _, rfl, HA.out, HB.out⟩ (by omega)).mono ?_
      rintro e w4 ⟨A4, c4, A6, c6, rfl, ho4, hl4, hb4⟩
      obtain ⟨r1, r2, r3, r4, r5, r6⟩ := hr.room hlt hb4
      have hstep := hr.step (O := ORule) ORule.keep ORule.mono hlt hb4 (u0 := .int .i64 ls[k].1.1) ⟨rfl, ho4, hl4⟩
      go_wp2_with (fail)
      go_roundw
      case rel => exact ⟨k + 1, by omega, by go_num, hstep⟩
      case measure => simp [intOf]; omega
    · have hkn : k = ls.length := by omega
      have HO := Lib.hid (show OwnRules wr w.heap.size wr.heap.size (.slice (some ⟨w.heap.size, 0, none⟩) ls.length ls.length) ls from ToRow.done (O := ORule) ORule.mono (by have h' := hr; rw [hkn] at h'; exact h'))
      have hbe := hr.below
      clear hkn hr
      go_wp2_with (fail)
      go_ret
      exact ⟨_, _, rfl, HO.out, hbe⟩

set_option maxHeartbeats 400000 in
set_option maxRecDepth 100000 in
theorem eqRuleS_any (va vb : Value) (xs ys : List LRule) (w : World) (ha : RdRules w w.heap.size va xs) (hb : RdRules w w.heap.size vb ys) (hx : xs.length ≤ 1048576) (hy : ys.length ≤ 1048576) (htx : totR xs ≤ 1048576) (hty : totR ys ≤ 1048576) :
    Calls Tryz.prog 35 #[va, vb] w fun e w' => e = .returned (.bool (decide (xs = ys))) ∧ Below w.heap.size w w' := by
  have HX := Lib.hid ha
  have HY := Lib.hid hb
  obtain ⟨A, c, rfl, hc, _⟩ := ha
  obtain ⟨A2, c2, rfl, hc2, _⟩ := hb
  by_cases hl : xs.length = ys.length
  · have hl1 : ((xs.length : Int) != (ys.length : Int)) = false := by simp [hl]
    have HL := Lib.hid hl
    clear hl
    go_enter Tryz.func35, Tryz.ntmps35
    go_wp2_with (fail)
    go_loopw [5] (fun i wr => ∃ k : Nat, k ≤ xs.length ∧ i = .int .i64 k ∧ TSame xs ys k ∧ Below w.heap.size w wr) (fun i _ => xs.length - (intOf i).toNat)
    case atStart => exact ⟨0, Nat.zero_le _, rfl, rfl, Below.refl _ _⟩
    case round =>
      obtain ⟨k, hk, rfl, hs, hbe⟩ := hrel
      by_cases hlt : k < xs.length
      · have hlt2 : k < ys.length := by have := HL.out; omega
        obtain ⟨b, o, u0, u1, u2, rfl, hbB, k0, k1, k2, rfl, p3, p4⟩ := (HX.out.on hbe).get hlt
        obtain ⟨b2, o2, v0, v1, v2, rfl, hbB2, m0, m1, m2, rfl, q3, q4⟩ := (HY.out.on hbe).get hlt2
        have hln := sz_le_totR xs k hlt
        have hln2 := sz_le_totR ys k hlt2
        have HA := Lib.hid p3
        have HA2 := Lib.hid q3
        have HB := Lib.hid p4
        have HB2 := Lib.hid q4
        obtain ⟨A3, c3, rfl, hc3, _⟩ := p3
        obtain ⟨A4, c4, rfl, hc4, _⟩ := q3
        obtain ⟨A5, c5, rfl, hc5, _⟩ := p4
        obtain ⟨A6, c6, rfl, hc6, _⟩ := q4
        go_wp2_with (fail)
        go_still_tail 8, (by kernel_rfl)
        change wpList _ _ _ _ _ wr.drew
        obtain ⟨w2, hw2⟩ : ∃ w2, w2 = wr.drew := ⟨_, rfl⟩
        rw [← hw2]
        have hbe2 : Below wr.heap.size wr w2 := by rw [hw2]; exact (Below.refl _ _).drew
        clear hw2
        go_wp2_with (fail)
        refine (eqRule_any _ _ xs[k] ys[k] _ ⟨_, _, rfl, HA.out.on hbe2, HB.out.on hbe2⟩ ⟨_, _, rfl, HA2.out.on hbe2, HB2.out.on hbe2⟩ (by omega) (by omega)).mono ?_
        rintro e w4 ⟨rfl, hb4⟩
        have hB4 := bthen hbe (bthen hbe2 hb4)
        by_cases he : xs[k] = ys[k]
        · have hdb : decide (xs[k] = ys[k]) = true := by simp [he]
          have HS := Lib.hid (hs.step hlt hlt2 he)
          clear he hs
          go_wp2_with (fail)
          go_roundw
          case rel => exact ⟨k + 1, by omega, by go_num, HS.out, hB4⟩
          case measure => simp [intOf]; omega
        · have hdb : decide (xs[k] = ys[k]) = false := by simp [he]
          have HE := Lib.hid (show xs ≠ ys from fun e => he (by subst e; rfl))
          clear he hs
          go_wp2_with (fail)
          go_ret
          exact ⟨ret_bool (by simp [HE.out]), hB4⟩
      · have hkn : k = xs.length := by omega
        have HE := Lib.hid (show xs = ys from TSame.eq (by rw [← hkn]; exact hs) HL.out)
        clear hkn hs
        go_wp2_with (fail)
        go_ret
        exact ⟨ret_bool (by simp [HE.out]), hbe⟩
  · have hl1 : ((xs.length : Int) != (ys.length : Int)) = true := by simp; omega
    have HE := Lib.hid (show xs ≠ ys from fun e => hl (by rw [e]))
    clear hl
    go_enter Tryz.func35, Tryz.ntmps35
    go_wp2_with (fail)
    go_ret
    exact ⟨ret_bool (by simp [HE.out]), Below.refl _ _⟩

set_option maxHeartbeats 400000 in
theorem szRuleS_any (v : Value) (ls : List LRule) (left : Int) (w : World) (h : RdRules w w.heap.size v ls) (h0 : 0 ≤ left) (hl : left ≤ 1048576) (hn : ls.length ≤ 9223372036854775807) (hm : ∀ k (h : k < ls.length), ruleLens ls[k]) :
    Calls Tryz.prog 27 #[v, .int .i64 left] w fun e w' => ∃ r, e = .returned (.int .i64 r) ∧ SzRes r left (ls.length + totR ls) ∧ Below w.heap.size w w' := by
  have H := Lib.hid h
  obtain ⟨A, c, rfl, hc, _⟩ := h
  by_cases hneg : left - (ls.length : Int) < 0
  · go_enter Tryz.func27, Tryz.ntmps27
    go_wp2_with (fail)
    go_ret
    exact ⟨_, rfl, .inl rfl, Below.refl _ _⟩
  · go_enter Tryz.func27, Tryz.ntmps27
    go_wp2_with (fail)
    go_loopw [1, 5] (fun l i wr => ∃ (k : Nat) (r : Int), k ≤ ls.length ∧ i = .int .i64 k ∧ l = .int .i64 r ∧ SzTo r left ls.length (totR (ls.take k)) ∧ Below w.heap.size w wr) (fun _ i _ => ls.length - (intOf i).toNat)
    case atStart => exact ⟨0, _, Nat.zero_le _, rfl, rfl, ⟨by omega, by simp [totR]⟩, Below.refl _ _⟩
    case round =>
      obtain ⟨k, r, hk, rfl, rfl, hs, hbe⟩ := hrel
      by_cases hlt : k < ls.length
      · obtain ⟨b, o, u0, u1, u2, rfl, hbB, k0, k1, k2, rfl, p3, p4⟩ := (H.out.on hbe).get hlt
        have HA := Lib.hid p3
        have HB := Lib.hid p4
        obtain ⟨A3, c3, rfl, hc3, _⟩ := p3
        obtain ⟨A5, c5, rfl, hc5, _⟩ := p4
        have hmk := hm k hlt
        have htk := totR_take ls k hlt
        have hr0 := hs.1
        have hr1 := hs.2
        have HT := Lib.hid (And.intro htk hr1)
        clear htk hr1
        go_wp2_with (fail)
        refine (szRule_any _ ls[k] r _ ⟨_, _, rfl, HA.out, HB.out⟩ hr0 (by have := HT.out; omega) hmk).mono ?_
        rintro e w4 ⟨z, rfl, hz, hb4⟩
        have hB4 := bthen hbe hb4
        rcases hz with rfl | ⟨z0, z1⟩
        · go_wp2_with (fail)
          go_ret
          exact ⟨_, rfl, .inl rfl, hB4⟩
        · have h1 : ¬ z < 0 := by omega
          have HS := Lib.hid (show SzTo z left ls.length (totR (ls.take (k + 1))) from ⟨z0, by have := HT.out; omega⟩)
          clear z1
          go_wp2_with (fail)
          go_roundw
          case rel => exact ⟨k + 1, _, by omega, by go_num, rfl, HS.out, hB4⟩
          case measure => simp [intOf]; omega
      · have hkn : k = ls.length := by omega
        have HE := Lib.hid (show SzRes r left (ls.length + totR ls) from .inr ⟨hs.1, by have := hs.2; rw [hkn, List.take_length] at this; omega⟩)
        clear hkn hs
        go_wp2_with (fail)
        go_ret
        exact ⟨_, rfl, HE.out, hbe⟩

/-- What szProgram counts. -/
def szP (p : LProg) : Nat := p.1.length + (p.2.length + totR p.2)
def progLens (p : LProg) : Prop := p.1.length ≤ 9223372036854775807 ∧ p.2.length ≤ 9223372036854775807 ∧ ∀ k (h : k < p.2.length), ruleLens p.2[k]

set_option maxHeartbeats 400000 in
theorem szProgram_any (v : Value) (p : LProg) (left : Int) (w : World) (h : RdProg w w.heap.size v p) (h0 : 0 ≤ left) (hl : left ≤ 1048576) (hn : progLens p) :
    Calls Tryz.prog 5 #[v, .int .i64 left] w fun e w' => ∃ z, e = .returned (.int .i64 z) ∧ SzRes z left (szP p) ∧ Below w.heap.size w w' := by
  obtain ⟨a, b, rfl, h, h2⟩ := h
  obtain ⟨hn1, hn2, hn3⟩ := hn
  have H := Lib.hid h
  have H2 := Lib.hid h2
  obtain ⟨A, c, rfl, hc, _⟩ := h
  obtain ⟨A2, c2, rfl, hcc, _⟩ := h2
  have hcs := szV_cases left p.1.length
  go_enter Tryz.func5, Tryz.ntmps5
  go_wp2_with (fail)
  obtain ⟨w1, hw1⟩ : ∃ w1, w1 = w.alloc (Obj.cells #[Value.slice A p.1.length c, Value.slice A2 p.2.length c2] 25) := ⟨_, rfl⟩
  have B1 : Below w.heap.size w w1 := by rw [hw1]; exact below1 _ _
  have x1 : Blk w1 w.heap.size 25 #[.slice A p.1.length c, .slice A2 p.2.length c2] := by rw [hw1]; exact Blk.new w _ _
  have hx2 : w1.cell? ⟨w.heap.size, 1, none⟩ = some (.slice A2 p.2.length c2) := x1.cell 1
  rw [← hw1]
  clear hw1
  refine (szIntS_any _ _ _ _ _ h0 hl hn1).mono ?_
  rintro e w' ⟨rfl, rfl⟩
  rcases hcs with ⟨e1, e2⟩ | ⟨e1, e2⟩
  · rw [e1]
    have HV := Lib.hid e1
    clear e1
    go_wp2_with (fail)
    go_ret
    exact ⟨_, rfl, .inl rfl, B1⟩
  · have h1 : ¬ szV left p.1.length < 0 := by omega
    go_wp2_with (fail)
    refine (szRuleS_any _ p.2 _ _ (H2.out.on B1) e1 (by omega) hn2 hn3).mono ?_
    rintro e w2 ⟨z, rfl, hz, hb2⟩
    have hB2 := bthen B1 hb2
    rcases hz with rfl | ⟨z0, z1⟩
    · go_wp2_with (fail)
      go_ret
      exact ⟨_, rfl, .inl rfl, hB2⟩
    · have hz : ¬ z < 0 := by omega
      have HZ := Lib.hid (show SzRes z left (szP p) from .inr ⟨z0, by unfold szP; omega⟩)
      clear z0 z1 e1 e2
      go_wp2_with (fail)
      go_ret
      exact ⟨_, rfl, HZ.out, hB2⟩

theorem OwnRules.below {w w' : World} {lo hi B : Nat} {v : Value} {rs : List LRule} (h : OwnRules w lo hi v rs) (hb : Below B w w') (hB : hi ≤ B) : OwnRules w' lo hi v rs := h.keep fun g _ h2 => hb.block g (by omega)
theorem OwnRules.far {w : World} {lo hi : Nat} {v : Value} {rs : List LRule} (h : OwnRules w lo hi v rs) {p : Addr} (hp : p.block < lo) (u : Value) : OwnRules (w.setCell p u) lo hi v rs :=
  h.keep fun g h1 _ => Below.heap_setCell _ _ _ _ (by omega)

set_option maxHeartbeats 1000000 in
theorem toProgram_any (v : Value) (p : LProg) (w : World) (h : RdProg w w.heap.size v p) (hn : szP p ≤ 1048576) :
    Calls Tryz.prog 9 #[v] w fun e w' => ∃ A' c' A2' c2', e = .returned (.agg #[.slice A' p.1.length c', .slice A2' p.2.length c2']) ∧ OwnInts w' w.heap.size w'.heap.size (.slice A' p.1.length c') p.1 ∧ OwnRules w' w.heap.size w'.heap.size (.slice A2' p.2.length c2') p.2 ∧ Below w.heap.size w w' := by
  obtain ⟨a, b, rfl, h, h2⟩ := h
  unfold szP at hn
  have H := Lib.hid h
  have H2 := Lib.hid h2
  obtain ⟨A, c, rfl, hc, _⟩ := h
  obtain ⟨A2, c2, rfl, hcc, _⟩ := h2
  go_enter Tryz.func9, Tryz.ntmps9
  go_wp2_with (fail)
  obtain ⟨w3, hw3⟩ : ∃ w3, w3 = ((w.alloc (Obj.cells #[Value.slice A p.1.length c, Value.slice A2 p.2.length c2] 25)).alloc (Obj.cells #[.slice none 0 0, .slice none 0 0] 35)).alloc (Obj.cells #[.slice none 0 0, .slice none 0 0] 35) := ⟨_, rfl⟩
  have B3 : Below w.heap.size w w3 := by rw [hw3]; exact below3 _ _ _ _
  have s3 : w3.heap.size = w.heap.size + 3 := by rw [hw3]; simp
  have x0 : Blk w3 w.heap.size 25 #[.slice A p.1.length c, .slice A2 p.2.length c2] := by rw [hw3]; exact ((Blk.new w _ _).alloc _).alloc _
  have x1 : Blk w3 (w.heap.size + 1) 35 #[.slice none 0 0, .slice none 0 0] := by
    rw [hw3]
    simpa using (Blk.new (w.alloc (Obj.cells #[Value.slice A p.1.length c, Value.slice A2 p.2.length c2] 25)) _ _).alloc _
  have x2 : Blk w3 (w.heap.size + 2) 35 #[.slice none 0 0, .slice none 0 0] := by
    rw [hw3]
    simpa using Blk.new ((w.alloc (Obj.cells #[Value.slice A p.1.length c, Value.slice A2 p.2.length c2] 25)).alloc (Obj.cells #[.slice none 0 0, .slice none 0 0] 35)) _ _
  rw [← hw3]
  clear hw3
  refine (toIntS_any _ p.1 _ (H.out.on B3) (by omega)).mono ?_
  rintro e w4 ⟨A4, c4, rfl, ho, hb⟩
  have y0 := x0.below hb x0.lt
  have y1 := x1.below hb x1.lt
  have y2 := x2.below hb x2.lt
  have z2c0 : w4.cell? ⟨w.heap.size + 2, 0, none⟩ = some (.slice none 0 0) := y2.cell 0
  have z2f0 := y2.frozen 0
  have z0c2 : w4.cell? ⟨w.heap.size, 1, none⟩ = some (.slice A2 p.2.length c2) := y0.cell 1
  go_wp2_with (fail)
  obtain ⟨w5, hw5⟩ : ∃ w5, w5 = w4.setCell ⟨w.heap.size + 2, 0, none⟩ (.slice A4 p.1.length c4) := ⟨_, rfl⟩
  have s5 : w5.heap.size = w4.heap.size := by rw [hw5]; simp
  have s4 := hb.size
  have u2 : Blk w5 (w.heap.size + 2) 35 #[.slice A4 p.1.length c4, .slice none 0 0] := by
    rw [hw5]
    simpa using y2.set_ 0 (.slice A4 p.1.length c4)
  have u1 : Blk w5 (w.heap.size + 1) 35 #[.slice none 0 0, .slice none 0 0] := by rw [hw5]; exact y1.far (by simp) _
  have B5 : Below w.heap.size w w5 := by rw [hw5]; exact (bthen B3 hb).setCell (by simp) _
  have O5 : OwnInts w5 w3.heap.size w4.heap.size (.slice A4 p.1.length c4) p.1 := by rw [hw5]; exact ho.far (by simp [s3]) _
  rw [← hw5]
  clear hw5 z2c0 z2f0 z0c2
  refine (toRuleS_any _ p.2 _ (H2.out.on B5) (by omega) (by omega)).mono ?_
  rintro e w6 ⟨A6, c6, rfl, ho6, hb6⟩
  have v1 := u1.below hb6 u1.lt
  have v2 := u2.below hb6 u2.lt
  have B6 := bthen B5 hb6
  have O6 := O5.below hb6 (by omega)
  have s6 := hb6.size
  have b1c0 : w6.cell? ⟨w.heap.size + 1, 0, none⟩ = some (.slice none 0 0) := v1.cell 0
  have b1c1 : w6.cell? ⟨w.heap.size + 1, 1, none⟩ = some (.slice none 0 0) := v1.cell 1
  have b2c0 : w6.cell? ⟨w.heap.size + 2, 0, none⟩ = some (.slice A4 p.1.length c4) := v2.cell 0
  have b2c1 : w6.cell? ⟨w.heap.size + 2, 1, none⟩ = some (.slice none 0 0) := v2.cell 1
  have b1f0 := v1.frozen 0
  have b1f1 := v1.frozen 1
  have b2f1 := v2.frozen 1
  clear y0 y1 y2 x0 x1 x2
  go_wp2_with (fail)
  refine bodyPost_ret (v := .agg #[.slice A4 p.1.length c4, .slice A6 p.2.length c6]) (by simp [results, Tryz.results9, go_sem, b1c0, b1c1]) rfl ⟨_, _, _, _, rfl, ?_, ?_, ?_⟩
  · refine OwnInts.mono (lo := w3.heap.size) (hi := w4.heap.size) ?_ (by omega) (by simp; omega)
    repeat (first | exact O6 | refine OwnInts.far ?_ (by simp [s3]) _)
  · refine OwnRules.mono (lo := w5.heap.size) (hi := w6.heap.size) ?_ (by omega) (by simp)
    repeat (first | exact ho6 | refine OwnRules.far ?_ (by simp; omega) _)
  · repeat (first | exact B6 | refine Below.setCell ?_ (by first | (simp; done) | (simp; omega)) _)

set_option maxHeartbeats 1000000 in
theorem eqProgram_any (v v2 : Value) (f g : LProg) (w : World) (h : RdProg w w.heap.size v f) (h2 : RdProg w w.heap.size v2 g) (hn : szP f ≤ 1048576) (hn2 : szP g ≤ 1048576) :
    Calls Tryz.prog 13 #[v, v2] w fun e w' => e = .returned (.bool (decide (f = g))) ∧ Below w.heap.size w w' := by
  obtain ⟨a, b, rfl, h, h3⟩ := h
  obtain ⟨a2, b2, rfl, h2, h4⟩ := h2
  unfold szP at hn hn2
  have H := Lib.hid h
  have H2 := Lib.hid h2
  have H3 := Lib.hid h3
  have H4 := Lib.hid h4
  obtain ⟨A, c, rfl, hc, _⟩ := h
  obtain ⟨A2, c2, rfl, hc2, _⟩ := h2
  obtain ⟨A3, c3, rfl, hc3, _⟩ := h3
  obtain ⟨A4, c4, rfl, hc4, _⟩ := h4
  go_enter Tryz.func13, Tryz.ntmps13
  go_wp2_with (fail)
  obtain ⟨w2, hw2⟩ : ∃ w2, w2 = (w.alloc (Obj.cells #[Value.slice A f.1.length c, Value.slice A3 f.2.length c3] 35)).alloc (Obj.cells #[Value.slice A2 g.1.length c2, Value.slice A4 g.2.length c4] 35) := ⟨_, rfl⟩
  have B2 : Below w.heap.size w w2 := by rw [hw2]; exact below2 _ _ _
  have x0 : Blk w2 w.heap.size 35 #[.slice A f.1.length c, .slice A3 f.2.length c3] := by rw [hw2]; exact (Blk.new w _ _).alloc _
  have x1 : Blk w2 (w.heap.size + 1) 35 #[.slice A2 g.1.length c2, .slice A4 g.2.length c4] := by
    rw [hw2]
    simpa using Blk.new (w.alloc (Obj.cells #[Value.slice A f.1.length c, Value.slice A3 f.2.length c3] 35)) _ _
  rw [← hw2]
  clear hw2
  refine (eqIntS_any _ _ f.1 g.1 _ (H.out.on B2) (H2.out.on B2) (by omega) (by omega)).mono ?_
  rintro e w4 ⟨rfl, hb⟩
  have y0 := x0.below hb x0.lt
  have y1 := x1.below hb x1.lt
  have B4 := bthen B2 hb
  have z0 : w4.cell? ⟨w.heap.size, 1, none⟩ = some (.slice A3 f.2.length c3) := y0.cell 1
  have z1 : w4.cell? ⟨w.heap.size + 1, 1, none⟩ = some (.slice A4 g.2.length c4) := y1.cell 1
  by_cases hp : f.1 = g.1
  · have hpb : decide (f.1 = g.1) = true := by simp [hp]
    have HE := Lib.hid (show decide (f = g) = decide (f.2 = g.2) from decide_eq_decide.2 ⟨fun e => by rw [e], fun e => Prod.ext hp e⟩)
    clear hp
    go_wp2_with (fail)
    refine (eqRuleS_any _ _ f.2 g.2 _ (H3.out.on B4) (H4.out.on B4) (by omega) (by omega) (by omega) (by omega)).mono ?_
    rintro e w5 ⟨rfl, hb5⟩
    have B5 := bthen B4 hb5
    by_cases hd : f.2 = g.2
    · have hdb : decide (f.2 = g.2) = true := by simp [hd]
      have HD := Lib.hid hdb
      clear hd
      go_wp2_with (fail)
      go_ret
      exact ⟨ret_bool (by rw [HE.out, HD.out]), B5⟩
    · have hdb : decide (f.2 = g.2) = false := by simp [hd]
      have HD := Lib.hid hdb
      clear hd
      go_wp2_with (fail)
      go_ret
      exact ⟨ret_bool (by rw [HE.out, HD.out]), B5⟩
  · have hpb : decide (f.1 = g.1) = false := by simp [hp]
    have HE := Lib.hid (show decide (f = g) = false from decide_eq_false fun e => hp (by rw [e]))
    clear hp
    go_wp2_with (fail)
    go_ret
    exact ⟨ret_bool HE.out.symm, B4⟩

end Go.Proofs.YtniedmhkajnfjaaGreat
/-
  The walks of both ProgramOk, of l2Has, and of both Positive.
-/
namespace Go.Proofs.YtniedmhkajnfjaaGreat
open Go.RowKit

def progOk (p : LProg) : Bool := arityOk p.1 && (decide (p.2.length ≤ 60) && p.2.all (ruleFits p.1))
theorem progOk_spec (p : LProg) : progOk p = (p.2.all (ruleOk p.1) && (arityOk p.1 && decide (p.2.length ≤ 60))) := by
  unfold progOk
  by_cases ha : arityOk p.1 = true
  · have : p.2.all (ruleOk p.1) = p.2.all (ruleFits p.1) := by
      congr 1
      funext r
      unfold ruleOk
      rw [ha, Bool.true_and]
    rw [this, ha]
    cases p.2.all (ruleFits p.1) <;> cases decide (p.2.length ≤ 60) <;> rfl
  · have ha' : arityOk p.1 = false := by simpa using ha
    rw [ha']
    simp

set_option maxHeartbeats 1000000 in
set_option maxRecDepth 100000 in
theorem implProgramOk_any (v : Value) (p : LProg) (w : World) (h : RdProg w w.heap.size v p) (hs : szP p ≤ 1048576) :
    Calls Tryz.prog 91 #[v] w fun e w' => e = .returned (.bool (progOk p)) ∧ Below w.heap.size w w' := by
  unfold szP at hs
  obtain ⟨a, b, rfl, h, h2⟩ := h
  have H := Lib.hid h
  have H2 := Lib.hid h2
  obtain ⟨A, c, rfl, hc, _⟩ := h
  obtain ⟨A2, c2, rfl, hc2, _⟩ := h2
  go_enter Tryz.func91, Tryz.ntmps91
  go_wp2_with (fail)
  refine (arityOk_any _ p.1 _ (H.out.on (below1 _ _)) (by omega)).mono ?_
  rintro e w2 ⟨rfl, hb2⟩
  have B2 := bthen (below1 _ _) hb2
  have x2 : Blk w2 w.heap.size 35 #[.slice A p.1.length c, .slice A2 p.2.length c2] := (Blk.new w _ _).below hb2 (by simp)
  have q1 : w2.cell? ⟨w.heap.size, 1, none⟩ = some (.slice A2 p.2.length c2) := x2.cell 1
  by_cases hf : arityOk p.1 = true
  · rw [hf]
    have HF := Lib.hid hf
    clear hf hb2
    by_cases hl : p.2.length ≤ 60
    · have hd : decide ((60 : Int) < (p.2.length : Int)) = false := by simp; omega
      have HL := Lib.hid (show progOk p = p.2.all (ruleFits p.1) by simp [progOk, HF.out, hl])
      go_wp2_with (fail)
      go_loopw [18] (fun i wr => ∃ k : Nat, k ≤ p.2.length ∧ i = .int .i64 k ∧ AllTo (ruleFits p.1) p.2 k ∧ Below w2.heap.size w2 wr) (fun i _ => p.2.length - (intOf i).toNat)
      case atStart => exact ⟨0, Nat.zero_le _, rfl, AllTo.start, Below.refl _ _⟩
      case round =>
        obtain ⟨k, hk, rfl, hs, hbe⟩ := hrel
        have BW := bthen B2 hbe
        have xr := x2.below hbe x2.lt
        clear q1
        by_cases hlt : k < p.2.length
        · obtain ⟨b, o, u0, u1, u2, rfl, hbB, k0, k1, k2, rfl, p3, p4⟩ := (H2.out.on BW).get hlt
          have HA := Lib.hid p3
          have HB := Lib.hid p4
          obtain ⟨A4, c4, rfl, hc4, _⟩ := p3
          obtain ⟨A5, c5, rfl, hc5, _⟩ := p4
          have hle := sz_le_totR p.2 k hlt
          have q0 : ∀ O, (wr.alloc O).cell? ⟨w.heap.size, 0, none⟩ = some (.slice A p.1.length c) := fun O => (xr.alloc O).cell 0
          go_wp2_with (fail)
          refine (ruleFits_any _ _ p.1 p.2[k] _ ((H.out.on BW).on (below1 _ _)) ⟨_, _, rfl, HA.out.on (below1 _ _), HB.out.on (below1 _ _)⟩ (by omega)).mono ?_
          rintro e w4 ⟨rfl, hb4⟩
          have B4 := bthen hbe (bthen (below1 _ _) hb4)
          by_cases he : ruleFits p.1 p.2[k] = true
          · rw [he]
            have HS := Lib.hid (hs.step hlt he)
            clear hs he
            go_wp2_with (fail)
            go_roundw
            case rel => exact ⟨k + 1, by omega, by go_num, HS.out, B4⟩
            case measure => simp [intOf]; omega
          · have he' : ruleFits p.1 p.2[k] = false := by simpa using he
            rw [he']
            have HE := Lib.hid (show progOk p = false by rw [HL.out, all_not hlt he'])
            clear hs he he'
            go_wp2_with (fail)
            go_ret
            exact ⟨ret_bool HE.out.symm, bthen B2 B4⟩
        · have HE := Lib.hid (show progOk p = true by rw [HL.out, hs.done (by omega)])
          clear hs
          go_wp2_with (fail)
          go_ret
          exact ⟨ret_bool HE.out.symm, BW⟩
    · have hd : decide ((60 : Int) < (p.2.length : Int)) = true := by simp; omega
      have HE := Lib.hid (show progOk p = false by simp [progOk, hl])
      go_wp2_with (fail)
      go_ret
      exact ⟨ret_bool HE.out.symm, B2⟩
  · have hf' : arityOk p.1 = false := by simpa using hf
    rw [hf']
    have HE := Lib.hid (show progOk p = false by simp [progOk, hf'])
    clear hf hf'
    go_wp2_with (fail)
    go_ret
    exact ⟨ret_bool HE.out.symm, B2⟩

set_option maxHeartbeats 1000000 in
set_option maxRecDepth 100000 in
theorem specProgramOk_any (v : Value) (p : LProg) (w : World) (h : RdProg w w.heap.size v p) (hs : szP p ≤ 1048576) :
    Calls Tryz.prog 133 #[v] w fun e w' => e = .returned (.bool (progOk p)) ∧ Below w.heap.size w w' := by
  unfold szP at hs
  obtain ⟨a, b, rfl, h, h2⟩ := h
  have H := Lib.hid h
  have H2 := Lib.hid h2
  have HP := Lib.hid (progOk_spec p)
  obtain ⟨A, c, rfl, hc, _⟩ := h
  obtain ⟨A2, c2, rfl, hc2, _⟩ := h2
  go_enter Tryz.func133, Tryz.ntmps133
  go_wp2_with (fail)
  obtain ⟨w2, hw2⟩ : ∃ w2, w2 = w.alloc (Obj.cells #[Value.slice A p.1.length c, Value.slice A2 p.2.length c2] 35) := ⟨_, rfl⟩
  have B2 : Below w.heap.size w w2 := by rw [hw2]; exact below1 _ _
  have x2 : Blk w2 w.heap.size 35 #[.slice A p.1.length c, .slice A2 p.2.length c2] := by rw [hw2]; exact Blk.new _ _ _
  rw [← hw2]
  clear hw2
  go_loopw [3] (fun i wr => ∃ k : Nat, k ≤ p.2.length ∧ i = .int .i64 k ∧ AllTo (ruleOk p.1) p.2 k ∧ Below w2.heap.size w2 wr) (fun i _ => p.2.length - (intOf i).toNat)
  case atStart => exact ⟨0, Nat.zero_le _, rfl, AllTo.start, Below.refl _ _⟩
  case round =>
    obtain ⟨k, hk, rfl, hs, hbe⟩ := hrel
    have BW := bthen B2 hbe
    have xr := x2.below hbe x2.lt
    have q0 : wr.cell? ⟨w.heap.size, 0, none⟩ = some (.slice A p.1.length c) := xr.cell 0
    have q1 : wr.cell? ⟨w.heap.size, 1, none⟩ = some (.slice A2 p.2.length c2) := xr.cell 1
    by_cases hlt : k < p.2.length
    · obtain ⟨b, o, u0, u1, u2, rfl, hbB, k0, k1, k2, rfl, p3, p4⟩ := (H2.out.on BW).get hlt
      have HA := Lib.hid p3
      have HB := Lib.hid p4
      obtain ⟨A4, c4, rfl, hc4, _⟩ := p3
      obtain ⟨A5, c5, rfl, hc5, _⟩ := p4
      have hle := sz_le_totR p.2 k hlt
      have L0 := later_cell k0
      have L1 := later_cell k1
      have L2 := later_cell k2
      have L3 := later_cell q0
      have L4 := later_cell q1
      by_cases he : ruleOk p.1 p.2[k] = true
      · have CF := Lib.hid (fun x : Later wr => (specRuleOk_any (.slice A p.1.length c) (.agg #[.int .i64 p.2[k].1.1, .slice A4 p.2[k].1.2.length c4, .slice A5 p.2[k].2.length c5]) p.1 p.2[k] x.val ((H.out.on BW).on x.2) ⟨_, _, rfl, HA.out.on x.2, HB.out.on x.2⟩ (by omega) (by omega)).mono fun e w' (hh : e = .returned (.bool (ruleOk p.1 p.2[k])) ∧ Below x.val.heap.size x.val w') => (⟨by rw [hh.1, he], hh.2⟩ : e = .returned (.bool true) ∧ Below x.val.heap.size x.val w'))
        have HS := Lib.hid (hs.step hlt he)
        clear hs he
        go_wp2_with (fail)
        clear k0 k1 k2 q0 q1
        refine wp_region_later (by kernel_rfl) (by kernel_rfl) ?_
        repeat (go_big_quiet_step ((go_at_call 174; exact later_of (CF.out _))))
        refine wpQuiet_nil ?_
        rintro _ ⟨xq, rfl⟩
        go_wp2_with (fail)
        go_roundw
        case rel => exact ⟨k + 1, by omega, by go_num, HS.out, bthen hbe xq.2⟩
        case measure => simp [intOf]; omega
      · have he' : ruleOk p.1 p.2[k] = false := by simpa using he
        have CF := Lib.hid (fun x : Later wr => (specRuleOk_any (.slice A p.1.length c) (.agg #[.int .i64 p.2[k].1.1, .slice A4 p.2[k].1.2.length c4, .slice A5 p.2[k].2.length c5]) p.1 p.2[k] x.val ((H.out.on BW).on x.2) ⟨_, _, rfl, HA.out.on x.2, HB.out.on x.2⟩ (by omega) (by omega)).mono fun e w' (hh : e = .returned (.bool (ruleOk p.1 p.2[k])) ∧ Below x.val.heap.size x.val w') => (⟨by rw [hh.1, he'], hh.2⟩ : e = .returned (.bool false) ∧ Below x.val.heap.size x.val w'))
        have HE := Lib.hid (show progOk p = false by rw [HP.out, all_not hlt he']; rfl)
        clear hs he he'
        go_wp2_with (fail)
        clear k0 k1 k2 q0 q1
        refine wp_region_later (by kernel_rfl) (by kernel_rfl) ?_
        repeat (go_big_quiet_step ((go_at_call 174; exact later_of (CF.out _))))
        refine wpQuiet_nil ?_
        rintro _ ⟨xq, rfl⟩
        go_wp2_with (fail)
        go_ret
        exact ⟨ret_bool HE.out.symm, bthen BW xq.2⟩
    · have HE := Lib.hid (show progOk p = (arityOk p.1 && decide (p.2.length ≤ 60)) by rw [HP.out, hs.done (by omega), Bool.true_and])
      clear hs
      go_wp2_with (fail)
      refine (specArityOk_any _ p.1 _ (H.out.on BW) (by omega)).mono ?_
      rintro e w' ⟨rfl, rfl⟩
      by_cases hf : arityOk p.1 = true
      · rw [hf]
        by_cases hl : p.2.length ≤ 60
        · have hd : decide ((p.2.length : Int) ≤ 60) = true := by simp; omega
          have HE2 := Lib.hid (show progOk p = true by rw [HE.out, hf]; simp [hl])
          clear hf
          go_wp2_with (fail)
          go_ret
          exact ⟨ret_bool (by rw [HE2.out]), BW⟩
        · have hd : decide ((p.2.length : Int) ≤ 60) = false := by simp; omega
          have HE2 := Lib.hid (show progOk p = false by rw [HE.out]; simp [hl])
          clear hf
          go_wp2_with (fail)
          go_ret
          exact ⟨ret_bool (by rw [HE2.out]), BW⟩
      · have hf' : arityOk p.1 = false := by simpa using hf
        rw [hf']
        have HE2 := Lib.hid (show progOk p = false by rw [HE.out, hf']; rfl)
        clear hf hf'
        go_wp2_with (fail)
        go_ret
        exact ⟨ret_bool HE2.out.symm, BW⟩

end Go.Proofs.YtniedmhkajnfjaaGreat
/-
  The walk of the specification's FactOk.
-/
namespace Go.Proofs.YtniedmhkajnfjaaGreat
open Go.RowKit

set_option maxHeartbeats 400000 in
set_option maxRecDepth 100000 in
theorem specFactOk_any (v v2 : Value) (ar : List Int) (f : LFact) (w : World) (h : RdInts w w.heap.size v ar) (h2 : RdFact w w.heap.size v2 f) (hr : ar.length ≤ 1048576) (hn : f.2.length ≤ 1048576) :
    Calls Tryz.prog 134 #[v, v2] w fun e w' => e = .returned (.bool (factOk ar f)) ∧ Below w.heap.size w w' := by
  have H := Lib.hid h
  have H2 := Lib.hid h2
  obtain ⟨pp, xs⟩ := f
  obtain ⟨A, c, rfl, hc, h⟩ := h
  obtain ⟨a, rfl, A2, c2, rfl, hc2, h2⟩ := h2
  by_cases ha : arityOk ar = true
  · have CA : ∀ W, Below w.heap.size w W → Calls Tryz.prog 135 #[.slice A ar.length c] W fun e w' => e = .returned (.bool true) ∧ w' = W := fun W hW =>
      (specArityOk_any _ ar W (H.out.on hW) (by omega)).mono fun e w' ⟨he, hw⟩ => ⟨by rw [he, ha], hw.symm⟩
    have HCA := Lib.hid CA
    have HA := Lib.hid ha
    clear CA ha
    by_cases hp : 0 ≤ pp ∧ pp ≤ (ar.length : Int) - 1
    · have HCL := Lib.hid (l1In_yes hp)
      obtain ⟨p, rfl⟩ := Int.eq_ofNat_of_zero_le hp.1
      have hlt : p < ar.length := by omega
      have hltI : (p : Int) < (ar.length : Int) := by omega
      obtain ⟨b, o, rfl, hbB, hx⟩ := h (by omega)
      have hck : ∀ O, (w.alloc O).cell? ⟨b, o + p, none⟩ = some (.int .i64 ar[p]) := fun O => (World.cell?_alloc_lt w O ⟨b, o + p, none⟩ hbB).trans (hx p hlt)
      clear hp
      by_cases h3 : (xs.length : Int) = ar[p]
      · have hd3 : ((xs.length : Int) != ar[p]) = false := by simp [h3]
        have H3 := Lib.hid (show factOk ar ((p : Int), xs) = xs.all constOk by simp [factOk, HA.out, factFits, hlt, h3])
        clear h3 hx h
        go_enter Tryz.func134, Tryz.ntmps134
        go_wp2_with (fail)
        go_quiet (first | (go_at_call 135; exact Calls.quiet_of_same (HCA.out _ (bdrewN (below1 _ _) _))) | (go_at_call 67; exact quiet_left (HCL.out _)))
        go_wp2_with (fail)
        obtain ⟨w1, hw1⟩ : ∃ w1, w1 = (w.alloc (Obj.cells #[Value.int IntKind.i64 ↑p, Value.slice A2 xs.length c2] 39)).drewN nq := ⟨_, rfl⟩
        rw [← hw1]
        have hbe : Below w.heap.size w w1 := by rw [hw1]; exact bdrewN (below1 _ _) _
        have hblk : Blk w1 w.heap.size 39 #[.int .i64 p, .slice A2 xs.length c2] := by rw [hw1]; exact (Blk.new w _ _).drewN _
        have hc1 : w1.cell? ⟨w.heap.size, 1, none⟩ = some (.slice A2 xs.length c2) := hblk.cell 1
        clear hw1 hck
        go_loop [5] (fun i => ∃ k : Nat, k ≤ xs.length ∧ i = .int .i64 k ∧ ConstsTo xs k) (fun i => xs.length - (intOf i).toNat)
        case atStart => exact ⟨0, Nat.zero_le _, rfl, fun j hj => absurd hj (by omega)⟩
        case round =>
          obtain ⟨k, hk, rfl, hs⟩ := hrel
          by_cases hlk : k < xs.length
          · obtain ⟨b2, o2, rfl, hbB2, hx2⟩ := h2 (by show 0 < xs.length; omega)
            have hck2 : w1.cell? ⟨b2, o2 + k, none⟩ = some (.int .i64 xs[k]) := (hbe.cell (p := ⟨b2, o2 + k, none⟩) hbB2).trans (hx2 k hlk)
            clear hx2 h2
            by_cases he : 0 ≤ xs[k] ∧ xs[k] ≤ 5
            · have HS := Lib.hid (hs.step (by simpa [hlk, constOk] using he))
              have HK := Lib.hid (l1In_yes he)
              clear hs he
              go_wp2_with (go_at_call 67; refine (HK.out _).mono ?_; rintro e w' ⟨rfl, rfl⟩)
              go_round
              case rel => exact ⟨k + 1, by omega, by go_num, HS.out⟩
              case measure => simp [intOf]; omega
            · have HE := Lib.hid (consts_not hlk (by simpa [constOk] using he))
              have HK := Lib.hid (l1In_no he)
              clear hs he
              go_wp2_with (go_at_call 67; refine (HK.out _).mono ?_; rintro e w' ⟨rfl, rfl⟩)
              go_ret
              exact ⟨ret_bool (by rw [H3.out, HE.out]), hbe⟩
          · have hkn : k = xs.length := by omega
            have HE := Lib.hid (show xs.all constOk = true from ConstsTo.all (by rw [← hkn]; exact hs))
            clear hkn hs h2
            go_wp2_with (fail)
            go_ret
            exact ⟨ret_bool (by rw [H3.out, HE.out]), hbe⟩
      · have hd3 : ((xs.length : Int) != ar[p]) = true := by simp [h3]
        have HE := Lib.hid (show factOk ar ((p : Int), xs) = false by simp [factOk, factFits, hlt, h3])
        clear h3 hx h
        go_enter Tryz.func134, Tryz.ntmps134
        go_wp2_with (fail)
        go_quiet (first | (go_at_call 135; exact Calls.quiet_of_same (HCA.out _ (bdrewN (below1 _ _) _))) | (go_at_call 67; exact quiet_left (HCL.out _)))
        go_wp2_with (fail)
        go_ret
        exact ⟨ret_bool HE.out.symm, bdrewN (below1 _ _) _⟩
    · have HCL := Lib.hid (l1In_no hp)
      have HE := Lib.hid (show factOk ar (pp, xs) = false by simp [factOk, factFits]; omega)
      clear hp
      go_enter Tryz.func134, Tryz.ntmps134
      go_wp2_with (fail)
      go_quiet (first | (go_at_call 135; exact Calls.quiet_of_same (HCA.out _ (bdrewN (below1 _ _) _))) | (go_at_call 67; exact quiet_left (HCL.out _)))
      go_wp2_with (fail)
      go_ret
      exact ⟨ret_bool HE.out.symm, bdrewN (below1 _ _) _⟩
  · have CA : ∀ W, Below w.heap.size w W → Calls Tryz.prog 135 #[.slice A ar.length c] W fun e w' => e = .returned (.bool false) ∧ w' = W := fun W hW =>
      (specArityOk_any _ ar W (H.out.on hW) (by omega)).mono fun e w' ⟨he, hw⟩ => ⟨by rw [he, show arityOk ar = false by simpa using ha], hw.symm⟩
    have HCA := Lib.hid CA
    have HE := Lib.hid (show factOk ar (pp, xs) = false by simp [factOk, ha])
    clear CA ha
    go_enter Tryz.func134, Tryz.ntmps134
    go_wp2_with (fail)
    go_quiet (first | (go_at_call 135; exact Calls.quiet_of_same (HCA.out _ (bdrewN (below1 _ _) _))))
    go_wp2_with (fail)
    go_ret
    exact ⟨ret_bool HE.out.symm, bdrewN (below1 _ _) _⟩

end Go.Proofs.YtniedmhkajnfjaaGreat
/-
  The walks of FactsOk: the program's and the specification's.
-/
namespace Go.Proofs.YtniedmhkajnfjaaGreat
open Go.RowKit

def roundOk (ar : List Int) (fs : List LFact) (k : Nat) : Bool := factFits ar (fs.getD k (0, [])) && (decide (k = 0) || decide (factOrder (fs.getD (k - 1) (0, [])) (fs.getD k (0, [])) < 0))
def factsOk (ar : List Int) (fs : List LFact) : Bool := arityOk ar && (List.range fs.length).all (roundOk ar fs)
def OkTo (ar : List Int) (fs : List LFact) (k : Nat) : Prop := (List.range k).all (roundOk ar fs) = true
theorem OkTo.step {ar : List Int} {fs : List LFact} {k : Nat} (h : OkTo ar fs k) (e : roundOk ar fs k = true) : OkTo ar fs (k + 1) := by
  unfold OkTo at h ⊢
  rw [List.range_succ, List.all_append, h]
  simp [e]
theorem round_not {ar : List Int} {fs : List LFact} {k : Nat} (hk : k < fs.length) (e : roundOk ar fs k = false) : factsOk ar fs = false := by
  unfold factsOk
  have : (List.range fs.length).all (roundOk ar fs) = false := by
    rw [List.all_eq_false]
    exact ⟨k, List.mem_range.2 hk, by simp [e]⟩
  rw [this, Bool.and_false]
theorem getD_at {α : Type} {l : List α} {k : Nat} (h : k < l.length) {d : α} : l.getD k d = l[k] := by simp [h]
theorem round_first {ar : List Int} {fs : List LFact} {k : Nat} (hk : k < fs.length) (h : factFits ar fs[k] = true) (h0 : k = 0) : roundOk ar fs k = true := by
  unfold roundOk
  rw [getD_at hk, h]
  simp [h0]
theorem round_next {ar : List Int} {fs : List LFact} {j : Nat} (hk : j + 1 < fs.length) (hj : j < fs.length) (h : factFits ar fs[j + 1] = true) : roundOk ar fs (j + 1) = decide (factOrder fs[j] fs[j + 1] < 0) := by
  unfold roundOk
  rw [getD_at hk, h, Nat.add_sub_cancel, getD_at hj]
  simp
theorem round_unfit {ar : List Int} {fs : List LFact} {k : Nat} (hk : k < fs.length) (h : factFits ar fs[k] = false) : roundOk ar fs k = false := by
  unfold roundOk
  rw [getD_at hk, h]
  simp
theorem later_fact {w0 : World} {v : Value} {f : LFact} (h : RdFact w0 w0.heap.size v f) (x : Later w0) : RdFact x.val x.val.heap.size v f := h.on x.2
theorem later_ints {w0 : World} {v : Value} {f : List Int} (h : RdInts w0 w0.heap.size v f) (x : Later w0) : RdInts x.val x.val.heap.size v f := h.on x.2

set_option maxHeartbeats 1000000 in
set_option maxRecDepth 100000 in
theorem specFactsOk_any (v v2 : Value) (ar : List Int) (fs : List LFact) (w : World) (h : RdInts w w.heap.size v ar) (h2 : RdFacts w w.heap.size v2 fs) (hr : ar.length ≤ 1048576) (hn : fs.length ≤ 1048576) (ht : tot fs ≤ 1048576) :
    Calls Tryz.prog 88 #[v, v2] w fun e w' => e = .returned (.bool (factsOk ar fs)) ∧ Below w.heap.size w w' := by
  have H := Lib.hid h
  have H2 := Lib.hid h2
  obtain ⟨A, c, rfl, hc, _⟩ := h
  obtain ⟨A2, c2, rfl, hc2, _⟩ := h2
  go_enter Tryz.func88, Tryz.ntmps88
  go_wp2_with (fail)
  go_loopw [5] (fun i wr => ∃ k : Nat, k ≤ fs.length ∧ i = .int .i64 k ∧ OkTo ar fs k ∧ Below w.heap.size w wr) (fun i _ => fs.length - (intOf i).toNat)
  case atStart => exact ⟨0, Nat.zero_le _, rfl, by simp [OkTo], Below.refl _ _⟩
  case round =>
    obtain ⟨k, hk, rfl, hs, hbe⟩ := hrel
    by_cases hlt : k < fs.length
    · obtain ⟨b, o, A3, c3, rfl, hbB, k1, k2, k3⟩ := (H2.out.on hbe).get hlt
      have K3 := Lib.hid (show RdFact wr wr.heap.size (.agg #[.int .i64 fs[k].1, .slice A3 fs[k].2.length c3]) fs[k] from ⟨_, rfl, k3⟩)
      have hln := len_le_tot fs k hlt
      have L1 := later_cell k1
      have L2 := later_cell k2
      clear k1 k2 k3
      by_cases hfo : factOk ar fs[k] = true
      · have CF := Lib.hid (fun x : Later wr => (specFactOk_any _ _ ar fs[k] x.val ((H.out.on hbe).on x.2) (K3.out.on x.2) hr (by omega)).mono fun e w' (hh : e = .returned (.bool (factOk ar fs[k])) ∧ Below x.val.heap.size x.val w') => (⟨by rw [hh.1, hfo], hh.2⟩ : e = .returned (.bool true) ∧ Below x.val.heap.size x.val w'))
        have hff : factFits ar fs[k] = true := by
          unfold factOk at hfo
          exact (Bool.and_eq_true _ _ ▸ hfo).2
        have HA := Lib.hid (show arityOk ar = true by
          unfold factOk at hfo
          exact (Bool.and_eq_true _ _ ▸ hfo).1)
        clear hfo
        rcases Nat.eq_zero_or_pos k with hk0 | hk0
        · have hd : decide (0 < k) = false := by simp [hk0]
          have HS := Lib.hid (hs.step (round_first hlt hff hk0) : OkTo ar fs (k + 1))
          clear hs hk0 hff
          go_wp2_with (fail)
          refine wp_region_later (by kernel_rfl) (by kernel_rfl) ?_
          repeat (go_big_quiet_step ((go_at_call 134; exact later_of (CF.out _))))
          refine wpQuiet_nil ?_
          rintro _ ⟨xq, rfl⟩
          go_wp2_with (fail)
          go_roundw
          case rel => exact ⟨k + 1, by omega, by go_num, HS.out, bthen hbe xq.2⟩
          case measure => simp [intOf]; omega
        · obtain ⟨j, rfl⟩ : ∃ j, k = j + 1 := ⟨k - 1, by omega⟩
          have hltj : j < fs.length := by omega
          obtain ⟨b', o', A4, c4, e4, hbB', m1, m2, m3⟩ := (H2.out.on hbe).get hltj
          simp only [Option.some.injEq, Addr.mk.injEq, and_true] at e4
          obtain ⟨rfl, rfl⟩ := e4
          have K4 := Lib.hid (show RdFact wr wr.heap.size (.agg #[.int .i64 fs[j].1, .slice A4 fs[j].2.length c4]) fs[j] from ⟨_, rfl, m3⟩)
          have hlnj := len_le_tot fs j hltj
          have M1 := later_cell m1
          have M2 := later_cell m2
          have CO := Lib.hid (fun x : Later wr => specFactOrder_any _ _ fs[j] fs[j + 1] x.val (K4.out.on x.2) (K3.out.on x.2) (by omega) (by omega))
          clear m1 m2 m3
          by_cases hlo : factOrder fs[j] fs[j + 1] < 0
          · have hd : decide (0 ≤ factOrder fs[j] fs[j + 1]) = false := by simp; omega
            have HS := Lib.hid (hs.step (by rw [round_next hlt hltj hff]; simp [hlo]) : OkTo ar fs (j + 1 + 1))
            clear hs hff
            go_wp2_with (fail)
            refine wp_region_later (by kernel_rfl) (by kernel_rfl) ?_
            repeat (go_big_quiet_step (first | (go_at_call 134; exact later_of (CF.out _)) | (go_at_call 55; exact later_of (CO.out _))))
            refine wpQuiet_nil ?_
            rintro _ ⟨xq, rfl⟩
            go_wp2_with (fail)
            go_roundw
            case rel => exact ⟨j + 1 + 1, by omega, by go_num, HS.out, bthen hbe xq.2⟩
            case measure => simp [intOf]; omega
          · have hd : decide (0 ≤ factOrder fs[j] fs[j + 1]) = true := by simp; omega
            have HE := Lib.hid (show factsOk ar fs = false from round_not hlt (by rw [round_next hlt hltj hff]; simp [hlo]))
            clear hs hff
            go_wp2_with (fail)
            refine wp_region_later (by kernel_rfl) (by kernel_rfl) ?_
            repeat (go_big_quiet_step (first | (go_at_call 134; exact later_of (CF.out _)) | (go_at_call 55; exact later_of (CO.out _))))
            refine wpQuiet_nil ?_
            rintro _ ⟨xq, rfl⟩
            go_wp2_with (fail)
            go_ret
            exact ⟨ret_bool HE.out.symm, bthen hbe xq.2⟩
      · have CF := Lib.hid (fun x : Later wr => (specFactOk_any _ _ ar fs[k] x.val ((H.out.on hbe).on x.2) (K3.out.on x.2) hr (by omega)).mono fun e w' (hh : e = .returned (.bool (factOk ar fs[k])) ∧ Below x.val.heap.size x.val w') => (⟨by rw [hh.1, show factOk ar fs[k] = false by simpa using hfo], hh.2⟩ : e = .returned (.bool false) ∧ Below x.val.heap.size x.val w'))
        have HE := Lib.hid (show factsOk ar fs = false by
          by_cases ha : arityOk ar = true
          · exact round_not hlt (round_unfit hlt (by simpa [factOk, ha] using hfo))
          · simp [factsOk, ha])
        clear hs hfo
        go_wp2_with (fail)
        refine wp_region_later (by kernel_rfl) (by kernel_rfl) ?_
        repeat (go_big_quiet_step ((go_at_call 134; exact later_of (CF.out _))))
        refine wpQuiet_nil ?_
        rintro _ ⟨xq, rfl⟩
        go_wp2_with (fail)
        go_ret
        exact ⟨ret_bool HE.out.symm, bthen hbe xq.2⟩
    · have hkn : k = fs.length := by omega
      have HE := Lib.hid (show factsOk ar fs = arityOk ar by unfold factsOk; unfold OkTo at hs; rw [← hkn, hs, Bool.and_true])
      clear hkn hs
      go_wp2_with (fail)
      refine (specArityOk_any _ ar _ (H.out.on hbe) (by omega)).mono ?_
      rintro e w2 ⟨rfl, rfl⟩
      go_wp2_with (fail)
      go_ret
      exact ⟨ret_bool HE.out.symm, hbe⟩

end Go.Proofs.YtniedmhkajnfjaaGreat
/-
  The specification's l1Pick, FactsBoth and FactsLess.
-/
namespace Go.Proofs.YtniedmhkajnfjaaGreat
open Go.RowKit

theorem filter_tot_le (p : LFact → Bool) : ∀ l : List LFact, tot (l.filter p) ≤ tot l
  | [] => by simp [tot]
  | f :: l => by
    have := filter_tot_le p l
    by_cases h : p f = true <;> simp [h, tot_cons] <;> omega

/-- The facts of a list that another has, or has not. -/
def pickL (xs ys : List LFact) (b : Bool) : List LFact := setOf (xs.filter fun f => factsHas ys f == b)
theorem pickL_bound (xs ys : List LFact) (b : Bool) : (pickL xs ys b).length ≤ xs.length ∧ tot (pickL xs ys b) ≤ tot xs := by
  have h := setOf_bound (xs.filter fun f => factsHas ys f == b)
  have h1 := List.length_filter_le (fun f => factsHas ys f == b) xs
  have h2 := filter_tot_le (fun f => factsHas ys f == b) xs
  unfold pickL
  omega
theorem pickL_yes {xs ys : List LFact} {b : Bool} {k : Nat} (h : k < xs.length) (e : factsHas ys xs[k] = b) : pickL (xs.take (k + 1)) ys b = factsWith (pickL (xs.take k) ys b) xs[k] := by
  unfold pickL
  rw [take_snoc xs k h, List.filter_append, ← setOf_snoc]
  simp [e]
theorem pickL_no {xs ys : List LFact} {b : Bool} {k : Nat} (h : k < xs.length) (e : factsHas ys xs[k] ≠ b) : pickL (xs.take (k + 1)) ys b = pickL (xs.take k) ys b := by
  unfold pickL
  rw [take_snoc xs k h, List.filter_append]
  simp [e]

end Go.Proofs.YtniedmhkajnfjaaGreat
/-
  The specification's Consequences and Closed.
-/
namespace Go.Proofs.YtniedmhkajnfjaaGreat
open Go.RowKit

/-- The heads that follow. -/
def consL (p : LProg) (fs : List LFact) : List LFact := if progOk p && factsOk p.1 fs then headsAll p.2 fs else []
def closedL (p : LProg) (fs : List LFact) : Bool := progOk p && (factsOk p.1 fs && decide ((pickL (headsAll p.2 fs) fs false).length = 0))

theorem factsOk_parts {ar : List Int} {fs : List LFact} (h : factsOk ar fs = true) : arityOk ar = true ∧ (∀ f ∈ fs, factFits ar f = true) ∧ Asc fs := by
  simp only [factsOk, Bool.and_eq_true, List.all_eq_true, List.mem_range] at h
  obtain ⟨h1, h2⟩ := h
  refine ⟨h1, fun f hf => ?_, ?_⟩
  · obtain ⟨k, hk, rfl⟩ := List.getElem_of_mem hf
    have := h2 k hk
    unfold roundOk at this
    rw [getD_at hk, Bool.and_eq_true] at this
    exact this.1
  · have hs : ∀ k (h0 : k + 1 < fs.length), factOrder (fs[k]'(by omega)) fs[k + 1] < 0 := fun k h0 => by
      have := h2 (k + 1) h0
      unfold roundOk at this
      rw [getD_at h0, Nat.add_sub_cancel, getD_at (show k < fs.length by omega), Bool.and_eq_true] at this
      simpa using this.2
    have hd : ∀ d k (h0 : k + d + 1 < fs.length), factOrder (fs[k]'(by omega)) fs[k + d + 1] < 0 := fun d => by
      induction d with
      | zero => intro k h0; exact hs k h0
      | succ d ih =>
        intro k h0
        exact order_less (ih k (by omega)) (hs (k + d + 1) h0)
    unfold Asc
    rw [List.pairwise_iff_getElem]
    intro i j hi hj hij
    obtain ⟨d, rfl⟩ : ∃ d, j = i + d + 1 := ⟨j - i - 1, by omega⟩
    exact hd d i hj
theorem prog_parts {p : LProg} (h : progOk p = true) : arityOk p.1 = true ∧ p.2.length ≤ 60 ∧ ∀ r ∈ p.2, ruleFits p.1 r = true := by
  simp only [progOk, Bool.and_eq_true, decide_eq_true_eq, List.all_eq_true] at h
  exact ⟨h.1, h.2.1, h.2.2⟩

end Go.Proofs.YtniedmhkajnfjaaGreat
/-
  The heads of a rule by its solutions: plain mathematics.
-/
namespace Go.Proofs.YtniedmhkajnfjaaGreat
open Go.RowKit

theorem safeTo_or {a b y : Nat} (h : safeTo (a ||| b) y 4 = true) : safeTo b y 4 = true := by
  rw [safeTo_iff] at h ⊢
  intro v hv hb
  exact h v hv (by rw [Nat.testBit_or, hb, Bool.or_true])
/-- A rule that fits has a body that can be asked. -/
theorem fits_body {ar : List Int} {r : LRule} (h : ruleFits ar r = true) : bodySafe r.2 = true := by
  simp only [ruleFits, Bool.and_eq_true, decide_eq_true_eq] at h
  obtain ⟨_, h4, hl, hs⟩ := h
  unfold bodySafe
  rw [Bool.and_eq_true, Bool.and_eq_true, decide_eq_true_eq, List.all_eq_true]
  refine ⟨⟨fun l hm => ?_, h4⟩, ?_⟩
  · have hf := List.all_eq_true.1 hl l hm
    refine litFine_yes ?_ (lit_terms hf)
    unfold litFits at hf
    split at hf
    · omega
    · split at hf
      · omega
      · cases hf
  · rw [ruleSafe_eq] at hs ⊢
    rw [ruleMask_body]
    exact safeTo_or hs
/-- The variables of the head stand in an atom that is to hold. -/
theorem fits_head {ar : List Int} {r : LRule} (h : ruleFits ar r = true) : ∀ v, v < 4 → (maskOf r.1.2).testBit v = true → ∃ l ∈ r.2, l.1 = 0 ∧ (maskOf l.2.2).testBit v = true := by
  simp only [ruleFits, Bool.and_eq_true, decide_eq_true_eq] at h
  obtain ⟨_, _, _, hs⟩ := h
  rw [ruleSafe_eq, safeTo_iff] at hs
  intro v hv hm
  have := hs v hv (by unfold ruleMask; rw [Nat.testBit_or, hm, Bool.true_or])
  unfold yesMask at this
  rw [yesMask_bit] at this
  simpa using this
/-- A solution makes a head. -/
theorem sols_head {ar : List Int} {r : LRule} {fs : List LFact} {S : List (List Int)} (h : ruleFits ar r = true) (hS : IsSols (questL fs r.2) S) : ∀ b ∈ S, headOk r.1 b = true := by
  intro b hb
  obtain ⟨h1, h2, _⟩ := (hS.2 b).1 hb
  have hf := h
  simp only [ruleFits, atomFits, Bool.and_eq_true, decide_eq_true_eq] at hf
  refine headOk_yes h1 hf.1.2 (List.all_eq_true.2 fun x hx => ?_)
  obtain ⟨t, ht, rfl⟩ := List.mem_map.1 hx
  have htk : termOk t = true := List.all_eq_true.1 hf.1.2 t ht
  have hbd := termVal_bounds h1 htk
  rcases term_cases htk with h' | ⟨v, hv, rfl⟩
  · rw [termVal_const h'.1]
    simp [constOk]
    exact h'
  · have hm : (maskOf r.1.2).testBit v = true := by unfold maskOf; rw [maskFrom_bit hv]; exact .inr ht
    obtain ⟨l, hl, _, hlm⟩ := fits_head h v hv hm
    have hne := (h2 v hv).2 ⟨(l, fs), List.mem_map.2 ⟨l, hl, rfl⟩, hlm⟩
    rw [termVal_v] at hbd ⊢
    unfold constOk
    exact decide_eq_true (by omega)
theorem headsTo_mem (a : LFact) (S : List (List Int)) (f : LFact) : ∀ k, k ≤ S.length → (f ∈ headsTo a S k ↔ ∃ b ∈ S.take k, headOk a b = true ∧ f = headOf a b)
  | 0, _ => by simp [headsTo]
  | k + 1, hk => by
    have ih := headsTo_mem a S f k (by omega)
    have hlt : k < S.length := by omega
    rw [take_snoc S k hlt]
    cases e : headOk a S[k]
    · rw [headsTo_no hlt e, ih]
      constructor
      · rintro ⟨b, hb, h⟩; exact ⟨b, List.mem_append_left _ hb, h⟩
      · rintro ⟨b, hb, h⟩
        rcases List.mem_append.1 hb with hb | hb
        · exact ⟨b, hb, h⟩
        · obtain rfl : b = S[k] := by simpa using hb
          rw [e] at h; cases h.1
    · rw [headsTo_yes hlt e, factsWith_mem, ih]
      constructor
      · rintro (⟨b, hb, h⟩ | rfl)
        · exact ⟨b, List.mem_append_left _ hb, h⟩
        · exact ⟨S[k], List.mem_append_right _ (List.mem_singleton_self _), e, rfl⟩
      · rintro ⟨b, hb, h⟩
        rcases List.mem_append.1 hb with hb | hb
        · exact .inl ⟨b, hb, h⟩
        · obtain rfl : b = S[k] := by simpa using hb
          exact .inr h.2
/-- The heads, by whatever list of the solutions. -/
theorem headsL_mem {ar : List Int} {r : LRule} {fs : List LFact} {S : List (List Int)} (h : ruleFits ar r = true) (hS : IsSols (questL fs r.2) S) (hc : ∀ f ∈ fs, f.2.all constOk = true) (hn : fs.Nodup) (f : LFact) :
    f ∈ headsL r fs ↔ ∃ b ∈ S, f = (r.1.1, r.1.2.map (termVal b)) := by
  obtain ⟨_, h2⟩ := solsOf_is (fs := fs) (gs := fs) (SafeB.of (fits_body h)) hc hn (fun _ => Iff.rfl)
  unfold headsL
  rw [headsTo_mem _ _ _ _ (Nat.le_refl _), List.take_length]
  constructor
  · rintro ⟨b, hb, e, rfl⟩
    exact ⟨b, (hS.2 b).2 ((h2.2 b).1 hb), headOf_yes e⟩
  · rintro ⟨b, hb, rfl⟩
    have e := sols_head h hS b hb
    exact ⟨b, (h2.2 b).2 ((hS.2 b).1 hb), e, (headOf_yes e).symm⟩

end Go.Proofs.YtniedmhkajnfjaaGreat
/-
  Tables of facts: a word for each predicate.
-/
namespace Go.Proofs.YtniedmhkajnfjaaGreat
open Go.RowKit

/-- The words of a table, with one fact more. -/
def setBit (T : List Nat) (p n : Nat) : List Nat := T.set p (T.getD p 0 ||| 2 ^ n)
def tabCells (T : List Nat) : Array Value := (T.map fun x => Value.int .u64 ((x : Nat) : Int)).toArray
/-- A table stands in block g. -/
def TabAt (w : World) (g : Nat) (T : List Nat) : Prop := Blk w g 109 (tabCells T) ∧ T.length = 24 ∧ ∀ x ∈ T, x < 18446744073709551616
theorem TabAt.cell {w : World} {g p : Nat} {T : List Nat} (h : TabAt w g T) (hp : p < 24) : w.cell? ⟨g, p, none⟩ = some (.int .u64 ((T.getD p 0 : Nat) : Int)) := by
  rw [h.1.cell p]
  have : p < T.length := by rw [h.2.1]; exact hp
  simp [tabCells, this]
theorem TabAt.lt {w : World} {g p : Nat} {T : List Nat} (h : TabAt w g T) : T.getD p 0 < 18446744073709551616 := by
  by_cases hp : p < T.length
  · have : T.getD p 0 = T[p] := by simp [hp]
    rw [this]
    exact h.2.2 _ (List.getElem_mem hp)
  · simp [List.getD_eq_getElem?_getD, List.getElem?_eq_none (by omega : T.length ≤ p)]
theorem TabAt.set {w : World} {g p n : Nat} {T : List Nat} (h : TabAt w g T) (hn : n < 64) : TabAt (w.setCell ⟨g, p, none⟩ (.int .u64 ((T.getD p 0 ||| 2 ^ n : Nat) : Int))) g (setBit T p n) := by
  have hlt := h.lt (p := p)
  obtain ⟨h1, h2, h3⟩ := h
  refine ⟨?_, by simp [setBit, h2], fun x hx => ?_⟩
  · have := h1.set_ p (.int .u64 ((T.getD p 0 ||| 2 ^ n : Nat) : Int))
    have e : tabCells (setBit T p n) = (tabCells T).setIfInBounds p (.int .u64 ((T.getD p 0 ||| 2 ^ n : Nat) : Int)) := by
      unfold tabCells setBit
      rw [List.map_set]
      simp
    rw [e]
    exact this
  · rcases List.mem_or_eq_of_mem_set hx with h4 | rfl
    · exact h3 x h4
    · exact Nat.or_lt_two_pow (n := 64) hlt (Nat.pow_lt_pow_right (by decide) hn)

set_option maxHeartbeats 1000000 in
set_option maxRecDepth 100000 in
theorem add_any (g p n : Nat) (T : List Nat) (w : World) (h : TabAt w g T) (hp : p < 24) (hn : n < 64) :
    Calls Tryz.prog 141 #[.pointer (some ⟨g, 0, none⟩), .int .i64 p, .int .i64 n] w fun e w' =>
      e = .returned (.bool (!(T.getD p 0).testBit n)) ∧ TabAt w' g (setBit T p n) ∧ Only g (g + 1) w w' := by
  have hc := h.cell hp
  have hf := h.1.frozen p
  have HS := Lib.hid (show ∀ W, W.heap[g]? = w.heap[g]? → TabAt W g T from fun W hW => ⟨hW.trans h.1, h.2⟩)
  have hlt := h.lt (p := p)
  have HL := Lib.hid h.1.lt
  clear h
  obtain ⟨x, hx⟩ : ∃ x, x = T.getD p 0 := ⟨_, rfl⟩
  obtain ⟨m, hm⟩ : ∃ m, m = 2 ^ n := ⟨_, rfl⟩
  have hml : m < 18446744073709551616 := by rw [hm]; exact Nat.pow_lt_pow_right (by decide) hn
  have hwr : IntKind.u64.wrap (2 ^ n) = (m : Int) := by
    have e : ((2 : Int) ^ n) = ((m : Nat) : Int) := by rw [hm]; simp
    rw [e]
    unfold IntKind.wrap
    simp [IntKind.bits, IntKind.signed] <;> omega
  rw [← hx] at hc hlt ⊢
  have hand : (bits .and .u64 (x : Int) (m : Int) == 0) = !(x.testBit n) := by
    rw [u64_and_nat x m hlt hml, hm]
    cases ht : x.testBit n
    · have : x &&& 2 ^ n = 0 := by
        apply Nat.eq_of_testBit_eq
        intro i
        rw [Nat.testBit_and, Nat.testBit_two_pow, Nat.zero_testBit]
        by_cases e : n = i
        · subst e; rw [ht]; rfl
        · simp [e]
      rw [this]
      rfl
    · have : x &&& 2 ^ n ≠ 0 := fun e => by
        have := congrArg (fun y => y.testBit n) e
        simp [Nat.testBit_and, ht] at this
      have h2 : ((x &&& 2 ^ n : Nat) : Int) ≠ 0 := by omega
      simpa using h2
  have hor : bits .or .u64 (x : Int) (m : Int) = ((x ||| m : Nat) : Int) := u64_or_nat x m hlt hml
  have HM := Lib.hid (And.intro hx hm)
  clear hx hm hml hlt
  go_enter Tryz.func141, Tryz.ntmps141
  go_upto_region 3 with fail
  have hc2 : w.drew.cell? ⟨g, p, none⟩ = some (.int .u64 ((x : Nat) : Int)) := hc
  have hpi : (p : Int) < 24 := by omega
  have hf2 : w.drew.frozen? ⟨g, p, none⟩ = false := hf
  go_region_law (fail)
  go_wp2_with fail
  go_ret
  obtain ⟨rfl, rfl⟩ := HM.out
  have hset := (HS.out w rfl).set (p := p) hn
  have ho : Only g (g + 1) w (w.setCell ⟨g, p, none⟩ (.int .u64 ((T.getD p 0 ||| 2 ^ n : Nat) : Int))) := (Only.refl g (g + 1) w).setCell ⟨Nat.le_refl g, Nat.lt_succ_self g⟩ _
  exact ⟨rfl, hset, ho.trans (Only.of_below (bdrewN (Below.refl _ _) 1))⟩

end Go.Proofs.YtniedmhkajnfjaaGreat
/-
  A table of facts is filled: constantsNumber, addAll.
-/
namespace Go.Proofs.YtniedmhkajnfjaaGreat
open Go.RowKit

/-- The number of which constants are the digits. -/
def numF (xs : List Int) : Nat := xs.foldl (fun n c => n * 6 + c.toNat) 0
theorem numF_take {xs : List Int} {k : Nat} (h : k < xs.length) : numF (xs.take (k + 1)) = numF (xs.take k) * 6 + xs[k].toNat := by
  unfold numF
  rw [take_snoc xs k h, List.foldl_append]
  rfl
theorem numF_lt {xs : List Int} (hc : xs.all constOk = true) : ∀ k, k ≤ xs.length → numF (xs.take k) < 6 ^ k
  | 0, _ => by simp [numF]
  | k + 1, hk => by
    have ih := numF_lt hc k (by omega)
    rw [numF_take (by omega), Nat.pow_succ]
    have : 0 ≤ xs[k] ∧ xs[k] ≤ 5 := by simpa [constOk] using List.all_eq_true.1 hc _ (List.getElem_mem (show k < xs.length by omega))
    omega

set_option maxHeartbeats 1000000 in
set_option maxRecDepth 100000 in
theorem constantsNumber_any (v : Value) (xs : List Int) (B : Nat) (w : World) (h : RdInts w B v xs) (hc : xs.all constOk = true) (hl : xs.length ≤ 2) :
    Calls Tryz.prog 142 #[v] w fun e w' => e = .returned (.int .i64 (numF xs : Nat)) ∧ w = w' := by
  obtain ⟨A, c, rfl, hcc, ha⟩ := h
  have HC := Lib.hid hc
  clear hc
  go_enter Tryz.func142, Tryz.ntmps142
  go_wp2_with fail
  go_loopw [3, 8] (fun m i wr => ∃ (k n : Nat), k ≤ xs.length ∧ i = .int .i64 k ∧ m = .int .i64 n ∧ n = numF (xs.take k) ∧ wr = w) (fun _ i _ => xs.length - (intOf i).toNat)
  case atStart => exact ⟨0, 0, by simp [numF]⟩
  case round =>
    obtain ⟨k, n, hk, rfl, rfl, hn, rfl⟩ := hrel
    by_cases hlt : k < xs.length
    · obtain ⟨b, o, rfl, hbB, hx⟩ := ha (by omega)
      have hck : wr.cell? ⟨b, o + k, none⟩ = some (.int .i64 xs[k]) := hx k hlt
      have hb : 0 ≤ xs[k] ∧ xs[k] ≤ 5 := by simpa [constOk] using List.all_eq_true.1 HC.out _ (List.getElem_mem hlt)
      have hn6 : n < 36 := by
        have := numF_lt HC.out k hk
        have h2 : (6 : Nat) ^ k ≤ 6 ^ 2 := Nat.pow_le_pow_right (by decide) (by omega)
        rw [hn]
        omega
      obtain ⟨x, hx2⟩ : ∃ x : Nat, xs[k] = (x : Int) := ⟨xs[k].toNat, by omega⟩
      have HN := Lib.hid (show numF (xs.take (k + 1)) = n * 6 + x by rw [numF_take hlt, hn, hx2]; rfl)
      have hxl : x ≤ 5 := by omega
      rw [hx2] at hck
      clear hx hx2 hb hn
      go_wp2_with fail
      go_roundw
      case rel => exact ⟨k + 1, n * 6 + x, by omega, by go_num, by go_num, HN.out.symm, by first | trivial | rfl⟩
      case measure => simp [intOf]; omega
    · have HE := Lib.hid (show n = numF xs by rw [hn, show k = xs.length by omega, List.take_length])
      clear hn ha
      go_wp2_with fail
      go_ret
      exact ⟨ret_int (by rw [HE.out]), rfl⟩

set_option maxHeartbeats 1000000 in
set_option maxRecDepth 100000 in
theorem number_any (v : Value) (bs xs : List Int) (hb : bindOk bs = true) (ht : xs.all termOk = true) (B : Nat) (w : World) (h : RdInts w B v xs) (hc : (xs.map (termVal bs)).all constOk = true) (hl : xs.length ≤ 2) :
    Calls Tryz.prog 144 #[.int .u32 (encB bs : Nat), v] w fun e w' => e = .returned (.int .i64 (numF (xs.map (termVal bs)) : Nat)) ∧ w = w' := by
  obtain ⟨A, c, rfl, hcc, ha⟩ := h
  obtain ⟨ys, hys⟩ : ∃ ys, ys = xs.map (termVal bs) := ⟨_, rfl⟩
  rw [← hys] at hc ⊢
  have hyl : ys.length = xs.length := by rw [hys]; simp
  have HYL := Lib.hid hyl
  have HC := Lib.hid hc
  have HY := Lib.hid hys
  have HT := Lib.hid ht
  have HV := Lib.hid (fun t ht => value_any bs hb t ht)
  generalize encB bs = m at HV
  clear hc hys ht hyl
  go_enter Tryz.func144, Tryz.ntmps144
  go_wp2_with fail
  go_loopw [5, 10] (fun m i wr => ∃ (k n : Nat), k ≤ xs.length ∧ i = .int .i64 k ∧ m = .int .i64 n ∧ n = numF (ys.take k) ∧ wr = w) (fun _ i _ => xs.length - (intOf i).toNat)
  case atStart => exact ⟨0, 0, by simp [numF]⟩
  case round =>
    obtain ⟨k, n, hk, rfl, rfl, hn, rfl⟩ := hrel
    by_cases hlt : k < xs.length
    · obtain ⟨b, o, rfl, hbB, hx⟩ := ha (by omega)
      have hck : wr.cell? ⟨b, o + k, none⟩ = some (.int .i64 xs[k]) := hx k hlt
      have hlt2 : k < ys.length := by rw [HYL.out]; exact hlt
      have hb2 : 0 ≤ ys[k] ∧ ys[k] ≤ 5 := by simpa [constOk] using List.all_eq_true.1 HC.out _ (List.getElem_mem hlt2)
      have hn6 : n < 36 := by
        have := numF_lt HC.out k (by omega)
        have h2 : (6 : Nat) ^ k ≤ 6 ^ 2 := Nat.pow_le_pow_right (by decide) (by omega)
        rw [hn]
        omega
      obtain ⟨x, hx2⟩ : ∃ x : Nat, ys[k] = (x : Int) := ⟨ys[k].toNat, by omega⟩
      have HN := Lib.hid (show numF (ys.take (k + 1)) = n * 6 + x by rw [numF_take hlt2, hn, hx2]; rfl)
      have hxl : x ≤ 5 := by omega
      have HV2 := Lib.hid (HV.out xs[k] (List.all_eq_true.1 HT.out _ (List.getElem_mem hlt)))
      have hvx : termVal bs xs[k] = (x : Int) := by rw [← hx2]; simp only [HY.out, List.getElem_map]
      rw [hvx] at HV2
      clear hx hx2 hb2 hn hvx
      go_wp2_with (go_at_call 178; refine (HV2.out _).mono ?_; rintro e w' ⟨rfl, rfl⟩)
      go_roundw
      case rel => exact ⟨k + 1, n * 6 + x, by omega, by go_num, by go_num, HN.out.symm, by first | trivial | rfl⟩
      case measure => simp [intOf]; omega
    · have HE := Lib.hid (show n = numF ys by rw [hn, show k = ys.length by have := HYL.out; omega, List.take_length])
      clear hn ha
      go_wp2_with fail
      go_ret
      exact ⟨ret_int (by rw [HE.out]), rfl⟩

/-- The facts of a table's predicates. -/
def TabFact (f : LFact) : Prop := 0 ≤ f.1 ∧ f.1 < 24 ∧ f.2.all constOk = true ∧ f.2.length ≤ 2
def tabWith (T : List Nat) (fs : List LFact) : List Nat := fs.foldl (fun T f => setBit T f.1.toNat (numF f.2)) T
theorem tabWith_take {T : List Nat} {fs : List LFact} {k : Nat} (h : k < fs.length) : tabWith T (fs.take (k + 1)) = setBit (tabWith T (fs.take k)) fs[k].1.toNat (numF fs[k].2) := by
  unfold tabWith
  rw [take_snoc fs k h, List.foldl_append]
  rfl
theorem TabAt.below {w w' : World} {g B : Nat} {T : List Nat} (h : TabAt w g T) (hb : Below B w w') (hg : g < B) : TabAt w' g T := ⟨h.1.below hb hg, h.2⟩
theorem TabAt.only {w w' : World} {g lo hi : Nat} {T : List Nat} (h : TabAt w g T) (ho : Only lo hi w w') (hg : g < lo ∨ hi ≤ g) : TabAt w' g T := ⟨h.1.only ho hg, h.2⟩
theorem numF_64 {xs : List Int} (hc : xs.all constOk = true) (hl : xs.length ≤ 2) : numF xs < 64 := by
  have := numF_lt hc xs.length (Nat.le_refl _)
  rw [List.take_length] at this
  have h2 : (6 : Nat) ^ xs.length ≤ 6 ^ 2 := Nat.pow_le_pow_right (by decide) hl
  omega

end Go.Proofs.YtniedmhkajnfjaaGreat
/-
  The walk of Solutions.
-/
namespace Go.Proofs.YtniedmhkajnfjaaGreat
open Go.RowKit

/-- A row of slices that make laid and a loop fills: k of them stand. -/
structure FillS (g n : Nat) (wr : World) (xss : List (List Int)) (av : List Value) : Prop where
  args : OwnArgs wr (g + 1) wr.heap.size av xss
  row : ∃ cur, wr.heap[g]? = some (.cells cur 22 (0, 0)) ∧ cur.size = n ∧ cur.toList.take xss.length = av
theorem FillS.start (w : World) (cs : Array Value) (n : Nat) (h : cs.size = n) : FillS w.heap.size n (w.alloc (.cells cs 22)) [] [] :=
  ⟨OwnArgs.nil, cs, heap_alloc_new w _, h, by simp⟩
theorem FillS.lt {g n : Nat} {wr : World} {xss : List (List Int)} {av : List Value} (h : FillS g n wr xss av) : g < wr.heap.size := by
  obtain ⟨_, cur, hg, _⟩ := h
  exact Blk.lt hg
theorem FillS.on {g n : Nat} {wr w4 : World} {xss : List (List Int)} {av : List Value} (h : FillS g n wr xss av) (hb : Below wr.heap.size wr w4) : FillS g n w4 xss av := by
  have hlt := h.lt
  obtain ⟨ha, cur, hg, h1, h2⟩ := h
  exact ⟨(ha.below hb (Nat.le_refl _)).mono (Nat.le_refl _) hb.size, cur, (hb.block g hlt).trans hg, h1, h2⟩
theorem FillS.free {g n : Nat} {wr : World} {xss : List (List Int)} {av : List Value} (h : FillS g n wr xss av) {k : Nat} (hk : k < n) : (∃ x, wr.cell? ⟨g, k, none⟩ = some x) ∧ wr.frozen? ⟨g, k, none⟩ = false := by
  obtain ⟨_, cur, hg, h1, _⟩ := h
  exact ⟨⟨cur[k]'(by omega), by rw [Blk.cell hg, Array.getElem?_eq_getElem]⟩, Blk.frozen hg k⟩
theorem FillS.step {g n k : Nat} {wr w4 : World} {xss : List (List Int)} {xs : List Int} {av : List Value} {u : Value} (h : FillS g n wr xss av) (hk : xss.length = k) (hkn : k < n) (hb : Below wr.heap.size wr w4) (hu : OwnInts w4 wr.heap.size w4.heap.size u xs) :
    FillS g n (w4.setCell ⟨g, k, none⟩ u) (xss ++ [xs]) (av ++ [u]) := by
  have hlt := h.lt
  have hl := h.args.len
  have h4 := (h.args.below hb (Nat.le_refl _)).snoc hu (by omega) hb.size
  obtain ⟨_, cur, hg, h1, h2⟩ := h
  have hg4 : Blk w4 g 22 cur := (hb.block g hlt).trans hg
  refine ⟨by simpa using h4.set (p := ⟨g, k, none⟩) (.inl (Nat.lt_succ_self g)) u, _, hg4.set_ k u, by simpa using h1, ?_⟩
  have hlen : (xss ++ [xs]).length = k + 1 := by simp [hk]
  rw [hlen, Array.toList_setIfInBounds]
  rw [hk] at h2
  apply List.ext_getElem?
  intro j
  by_cases hj : j < k
  · rw [List.getElem?_take_of_lt (by omega), List.getElem?_set_ne (by omega), List.getElem?_append_left (by omega), ← h2, List.getElem?_take_of_lt hj]
  · by_cases hj2 : j = k
    · subst hj2
      rw [List.getElem?_take_of_lt (by omega), List.getElem?_set_self (by simp; omega), List.getElem?_append_right (by omega)]
      simp [hl, hk]
    · rw [List.getElem?_eq_none (by simp; omega), List.getElem?_eq_none (by simp; omega)]
theorem FillS.done {g n : Nat} {wr : World} {xss : List (List Int)} {av : List Value} (h : FillS g n wr xss av) (hn : xss.length = n) (hm : n ≤ maxLen) : OwnRows wr g wr.heap.size (.slice (some ⟨g, 0, none⟩) xss.length n) xss := by
  have hlt := h.lt
  have hl := h.args.len
  obtain ⟨ha, cur, hg, h1, h2⟩ := h
  exact ⟨av, ha.mono (by omega) (Nat.le_refl _), ⟨by omega, .inr ⟨g, n, cur, rfl, Nat.le_refl _, hg, by omega, hm, by omega, by rw [Nat.mul_one]; exact h2⟩⟩, fun g' hg' => by simp [Value.ownBlock] at hg'; omega⟩

theorem OwnRows.nil (w : World) (lo hi : Nat) : OwnRows w lo hi (.slice none 0 0) [] := ⟨[], OwnArgs.nil, World.ownsRow_nil _ _ _ _, fun g hg => by cases hg⟩

end Go.Proofs.YtniedmhkajnfjaaGreat
/-
  The walk of headsIn.
-/
namespace Go.Proofs.YtniedmhkajnfjaaGreat
open Go.RowKit

def zeroT : List Nat := List.replicate 24 0
def hdOf (r : LRule) (b : List Int) : LFact := (r.1.1, r.1.2.map (termVal b))
theorem tabWith_snoc (T : List Nat) (fs : List LFact) (f : LFact) : tabWith T (fs ++ [f]) = setBit (tabWith T fs) f.1.toNat (numF f.2) := by
  unfold tabWith
  rw [List.foldl_append]
  rfl
theorem TabAt.zero (w : World) : TabAt (w.alloc (Obj.cells (tabCells zeroT) 109)) w.heap.size zeroT :=
  ⟨Blk.new _ _ _, by simp [zeroT], fun x hx => by
    obtain ⟨_, rfl⟩ := List.mem_replicate.1 hx
    decide⟩

end Go.Proofs.YtniedmhkajnfjaaGreat
/-
  hasAll: a table has all of another one.
-/
namespace Go.Proofs.YtniedmhkajnfjaaGreat
open Go.RowKit

def wordIn (T2 T : List Nat) (p : Nat) : Bool := bits .andNot .u64 ((T2.getD p 0 : Nat) : Int) ((T.getD p 0 : Nat) : Int) == 0
def tabIn (T2 T : List Nat) : Bool := (List.range 24).all (wordIn T2 T)

theorem run_index_tab {cs : Array Value} {k : Nat} {v : Value} (hk : k < 24) (hc : cs[k]? = some v) (W : World) :
    (Instr.index 109 (.agg cs) (.int .i64 (k : Int))).run Tryz.prog W = .ok v W := by
  have hks : k < cs.size := by
    rcases Nat.lt_or_ge k cs.size with h | h
    · exact h
    · rw [Array.getElem?_eq_none h] at hc; cases hc
  simp [Instr.index, run_underlying Tryz.underlying109, asIntOf, hc, go_sem]
  intro h
  omega

end Go.Proofs.YtniedmhkajnfjaaGreat
/-
  The walk of the program's FactsOk.
-/
namespace Go.Proofs.YtniedmhkajnfjaaGreat
open Go.RowKit

set_option maxHeartbeats 1000000 in
set_option maxRecDepth 100000 in
theorem implFactsOk_any (v v2 : Value) (ar : List Int) (fs : List LFact) (w : World) (h : RdInts w w.heap.size v ar) (h2 : RdFacts w w.heap.size v2 fs) (hr : ar.length ≤ 1048576) (hn : fs.length ≤ 1048576) (ht : tot fs ≤ 1048576) :
    Calls Tryz.prog 58 #[v, v2] w fun e w' => e = .returned (.bool (factsOk ar fs)) ∧ Below w.heap.size w w' := by
  have H := Lib.hid h
  have H2 := Lib.hid h2
  obtain ⟨A, c, rfl, hc, _⟩ := h
  obtain ⟨A2, c2, rfl, hc2, _⟩ := h2
  go_enter Tryz.func58, Tryz.ntmps58
  go_wp2_with (fail)
  refine (arityOk_any _ ar _ H.out (by omega)).mono ?_
  rintro e w1 ⟨rfl, hb1⟩
  by_cases ha : arityOk ar = true
  · rw [ha]
    have HA := Lib.hid ha
    clear ha
    go_wp2_with (fail)
    go_loopw [5, 6, 12] (fun _ _ i wr => ∃ k : Nat, k ≤ fs.length ∧ i = .int .i64 k ∧ OkTo ar fs k ∧ Below w.heap.size w wr) (fun _ _ i _ => fs.length - (intOf i).toNat)
    case atStart => exact ⟨0, Nat.zero_le _, rfl, by simp [OkTo], hb1⟩
    case round =>
      obtain ⟨k, hk, rfl, hs, hbe⟩ := hrel
      by_cases hlt : k < fs.length
      · obtain ⟨b, o, A3, c3, rfl, hbB, k1, k2, k3⟩ := (H2.out.on hbe).get hlt
        have K3 := Lib.hid (show RdFact wr wr.heap.size (.agg #[.int .i64 fs[k].1, .slice A3 fs[k].2.length c3]) fs[k] from ⟨_, rfl, k3⟩)
        have hln := len_le_tot fs k hlt
        clear k3
        go_wp2_with (fail)
        obtain ⟨w2, hw2⟩ : ∃ w2, w2 = wr.alloc (Obj.cells #[Value.int IntKind.i64 fs[k].1, Value.slice A3 fs[k].2.length c3] 39) := ⟨_, rfl⟩
        have B2 : Below wr.heap.size wr w2 := by rw [hw2]; exact below1 _ _
        have x2 : Blk w2 wr.heap.size 39 #[.int .i64 fs[k].1, .slice A3 fs[k].2.length c3] := by rw [hw2]; exact Blk.new _ _ _
        rw [← hw2]
        clear hw2
        refine (factFits_any _ _ ar fs[k] _ ((H.out.on hbe).on B2) (K3.out.on B2) (by omega)).mono ?_
        rintro e w3 ⟨rfl, hb3⟩
        have B3 := bthen B2 hb3
        have BW3 := bthen hbe B3
        have x3 := x2.below hb3 x2.lt
        by_cases hff : factFits ar fs[k] = true
        · rw [hff]
          rcases Nat.eq_zero_or_pos k with hk0 | hk0
          · have hd : decide (0 < k) = false := by simp [hk0]
            have HS := Lib.hid (hs.step (round_first hlt hff hk0) : OkTo ar fs (k + 1))
            clear hs hk0 hff
            go_wp2_with (fail)
            refine wp_region_later (by kernel_rfl) (by kernel_rfl) ?_
            repeat (go_big_quiet_step (fail))
            refine wpQuiet_nil ?_
            rintro _ ⟨xq, rfl⟩
            go_wp2_with (fail)
            go_roundw
            case rel => exact ⟨k + 1, by omega, by go_num, HS.out, bthen BW3 xq.2⟩
            case measure => simp [intOf]; omega
          · obtain ⟨j, rfl⟩ : ∃ j, k = j + 1 := ⟨k - 1, by omega⟩
            have hltj : j < fs.length := by omega
            obtain ⟨b', o', A4, c4, e4, hbB', m1, m2, m3⟩ := (H2.out.on BW3).get hltj
            simp only [Option.some.injEq, Addr.mk.injEq, and_true] at e4
            obtain ⟨rfl, rfl⟩ := e4
            have K4 := Lib.hid (show RdFact w3 w3.heap.size (.agg #[.int .i64 fs[j].1, .slice A4 fs[j].2.length c4]) fs[j] from ⟨_, rfl, m3⟩)
            have hlnj := len_le_tot fs j hltj
            have M1 := later_cell m1
            have M2 := later_cell m2
            have X0 := later_cell (x3.cell 0 : w3.cell? ⟨wr.heap.size, 0, none⟩ = some (.int .i64 fs[j + 1].1))
            have X1 := later_cell (x3.cell 1 : w3.cell? ⟨wr.heap.size, 1, none⟩ = some (.slice A3 fs[j + 1].2.length c3))
            have CO := Lib.hid (fun x : Later w3 => implFactOrder_any _ _ fs[j] fs[j + 1] x.val (K4.out.on x.2) ((K3.out.on B3).on x.2) (by omega) (by omega))
            clear m1 m2 m3 k1 k2
            by_cases hlo : factOrder fs[j] fs[j + 1] < 0
            · have hd : decide (0 ≤ factOrder fs[j] fs[j + 1]) = false := by simp; omega
              have HS := Lib.hid (hs.step (by rw [round_next hlt hltj hff]; simp [hlo]) : OkTo ar fs (j + 1 + 1))
              clear hs hff
              go_wp2_with (fail)
              refine wp_region_later (by kernel_rfl) (by kernel_rfl) ?_
              repeat (go_big_quiet_step ((go_at_call 94; exact later_of (CO.out _))))
              refine wpQuiet_nil ?_
              rintro _ ⟨xq, rfl⟩
              go_wp2_with (fail)
              go_roundw
              case rel => exact ⟨j + 1 + 1, by omega, by go_num, HS.out, bthen BW3 xq.2⟩
              case measure => simp [intOf]; omega
            · have hd : decide (0 ≤ factOrder fs[j] fs[j + 1]) = true := by simp; omega
              have HE := Lib.hid (show factsOk ar fs = false from round_not hlt (by rw [round_next hlt hltj hff]; simp [hlo]))
              clear hs hff
              go_wp2_with (fail)
              refine wp_region_later (by kernel_rfl) (by kernel_rfl) ?_
              repeat (go_big_quiet_step ((go_at_call 94; exact later_of (CO.out _))))
              refine wpQuiet_nil ?_
              rintro _ ⟨xq, rfl⟩
              go_wp2_with (fail)
              go_ret
              exact ⟨ret_bool HE.out.symm, bthen BW3 xq.2⟩
        · have HE := Lib.hid (show factsOk ar fs = false from round_not hlt (round_unfit hlt (by simpa using hff)))
          rw [show factFits ar fs[k] = false by simpa using hff]
          clear hs hff
          go_wp2_with (fail)
          go_ret
          exact ⟨ret_bool HE.out.symm, BW3⟩
      · have hkn : k = fs.length := by omega
        have HE := Lib.hid (show factsOk ar fs = true by unfold factsOk; unfold OkTo at hs; rw [← hkn, hs, HA.out]; rfl)
        clear hkn hs
        go_wp2_with (fail)
        go_ret
        exact ⟨ret_bool HE.out.symm, hbe⟩
  · have HE := Lib.hid (show factsOk ar fs = false by simp [factsOk, ha])
    rw [show arityOk ar = false by simpa using ha]
    clear ha
    go_wp2_with (fail)
    go_ret
    exact ⟨ret_bool HE.out.symm, hb1⟩

end Go.Proofs.YtniedmhkajnfjaaGreat
/-
  The program's Closed, by its tables.
-/
namespace Go.Proofs.YtniedmhkajnfjaaGreat
open Go.RowKit

/-- What the program's Closed answers. -/
def ClosedT (p : LProg) (fs : List LFact) (R : Bool) : Prop := ((progOk p && factsOk p.1 fs) = false ∧ R = false) ∨ ((progOk p && factsOk p.1 fs) = true ∧ ∃ F, (∀ f, f ∈ F ↔ f ∈ headsAll p.2 fs) ∧ R = tabIn (tabWith zeroT F) (tabWith zeroT fs))

theorem tabWith_len (T : List Nat) (fs : List LFact) : (tabWith T fs).length = T.length := by
  induction fs generalizing T with
  | nil => rfl
  | cons f fs ih =>
    show (tabWith (setBit T f.1.toNat (numF f.2)) fs).length = _
    rw [ih]
    simp [setBit]
theorem tabCells_one (T : List Nat) : (tabCells T).all (·.oneCell') = true := by
  unfold tabCells
  rw [List.all_toArray, List.all_map, List.all_eq_true]
  intro x _
  rfl

end Go.Proofs.YtniedmhkajnfjaaGreat
/-
  Tables by their bits: one table stands in another as its facts do.
-/
namespace Go.Proofs.YtniedmhkajnfjaaGreat
open Go.RowKit

theorem setBit_bit {T : List Nat} {p q m n : Nat} (hp : p < T.length) : ((setBit T q m).getD p 0).testBit n = true ↔ (T.getD p 0).testBit n = true ∨ (q = p ∧ m = n) := by
  unfold setBit
  by_cases e : q = p
  · subst e
    have h1 : (T.set q (T.getD q 0 ||| 2 ^ m)).getD q 0 = T.getD q 0 ||| 2 ^ m := by simp [List.getD_eq_getElem?_getD, hp]
    rw [h1, Nat.testBit_or, Bool.or_eq_true, Nat.testBit_two_pow, decide_eq_true_eq]
    simp
  · have h1 : (T.set q (T.getD q 0 ||| 2 ^ m)).getD p 0 = T.getD p 0 := by simp [List.getD_eq_getElem?_getD, List.getElem?_set_ne e]
    rw [h1]
    simp [e]
theorem tabWith_bit {p n : Nat} : ∀ (fs : List LFact) (T : List Nat), p < T.length → (((tabWith T fs).getD p 0).testBit n = true ↔ (T.getD p 0).testBit n = true ∨ ∃ f ∈ fs, f.1.toNat = p ∧ numF f.2 = n)
  | [], T, _ => by simp [tabWith]
  | f :: fs, T, hp => by
    have e : tabWith T (f :: fs) = tabWith (setBit T f.1.toNat (numF f.2)) fs := rfl
    rw [e, tabWith_bit fs _ (by simpa [setBit] using hp), setBit_bit hp]
    constructor
    · rintro ((h | h) | ⟨g, hg, h⟩)
      · exact .inl h
      · exact .inr ⟨f, List.mem_cons_self .., h⟩
      · exact .inr ⟨g, List.mem_cons_of_mem _ hg, h⟩
    · rintro (h | ⟨g, hg, h⟩)
      · exact .inl (.inl h)
      · rcases List.mem_cons.1 hg with rfl | hg
        · exact .inl (.inr h)
        · exact .inr ⟨g, hg, h⟩
theorem zero_bit {p n : Nat} : (zeroT.getD p 0).testBit n = false := by
  have : zeroT.getD p 0 = 0 := by
    by_cases hp : p < zeroT.length
    · rw [getD_at hp]
      exact (List.mem_replicate.1 (List.getElem_mem hp)).2
    · simp [List.getD_eq_getElem?_getD, List.getElem?_eq_none (by omega : zeroT.length ≤ p)]
  rw [this, Nat.zero_testBit]
theorem numF_inj {xs ys : List Int} (hx : xs.all constOk = true) (hy : ys.all constOk = true) (hl : xs.length = ys.length) (h2 : xs.length ≤ 2) (e : numF xs = numF ys) : xs = ys := by
  rcases xs with _ | ⟨x, _ | ⟨y, _ | ⟨z, xs⟩⟩⟩ <;> rcases ys with _ | ⟨x', _ | ⟨y', _ | ⟨z', ys⟩⟩⟩ <;> (try (simp at hl; done)) <;> (try (simp at h2; done))
  · rfl
  · simp only [List.all_cons, List.all_nil, Bool.and_true] at hx hy
    have := const_range hx
    have := const_range hy
    simp [numF] at e
    simp; omega
  · simp only [List.all_cons, List.all_nil, Bool.and_true, Bool.and_eq_true] at hx hy
    have := const_range hx.1
    have := const_range hx.2
    have := const_range hy.1
    have := const_range hy.2
    simp [numF] at e
    simp; omega
/-- A fact's bit tells the fact. -/
theorem fact_of_bit {ar : List Int} {f g : LFact} (ha : arityOk ar = true) (hf : factFits ar f = true) (hg : factFits ar g = true) (e1 : f.1.toNat = g.1.toNat) (e2 : numF f.2 = numF g.2) : f = g := by
  obtain ⟨⟨h0, _, hl⟩, hc⟩ := fits_parts hf
  obtain ⟨⟨h0', _, hl'⟩, hc'⟩ := fits_parts hg
  have e : f.1 = g.1 := by omega
  rw [← e] at hl'
  exact Prod.ext e (numF_inj hc hc' (by omega) (fits_short ha hf) e2)

end Go.Proofs.YtniedmhkajnfjaaGreat
/-
  What the program's Closed answers by its tables is what the specification's answers.
-/
namespace Go.Proofs.YtniedmhkajnfjaaGreat
open Go.RowKit

theorem word_in {a b : Nat} (ha : a < 18446744073709551616) (hb : b < 18446744073709551616) : (bits .andNot .u64 (a : Int) (b : Int) == 0) = true ↔ ∀ n, a.testBit n = true → b.testBit n = true := by
  have e : (18446744073709551615 - b : Nat) = 2 ^ 64 - (b + 1) := by omega
  have hb' : b < 2 ^ 64 := hb
  rw [u64_andNot_nat a b ha hb, beq_iff_eq, e]
  constructor
  · intro h n hn
    have h0 : a &&& (2 ^ 64 - (b + 1)) = 0 := by exact_mod_cast h
    have h1 := congrArg (fun y => y.testBit n) h0
    simp only [Nat.testBit_and, Nat.zero_testBit, hn, Bool.true_and, Nat.testBit_two_pow_sub_succ hb'] at h1
    have hlt : n < 64 := by
      apply Classical.byContradiction
      intro h64
      have h2 := Nat.ge_two_pow_of_testBit hn
      have h3 : (2 : Nat) ^ 64 ≤ 2 ^ n := Nat.pow_le_pow_right (by decide) (by omega)
      omega
    simpa [hlt] using h1
  · intro h
    have h0 : a &&& (2 ^ 64 - (b + 1)) = 0 := by
      apply Nat.eq_of_testBit_eq
      intro n
      rw [Nat.testBit_and, Nat.zero_testBit, Nat.testBit_two_pow_sub_succ hb']
      cases hn : a.testBit n
      · rfl
      · rw [h n hn]
        simp
    rw [h0]
    rfl
theorem setBit_lt {T : List Nat} {p n : Nat} (h : ∀ x ∈ T, x < 18446744073709551616) (hn : n < 64) : ∀ x ∈ setBit T p n, x < 18446744073709551616 := by
  intro x hx
  rcases List.mem_or_eq_of_mem_set hx with h4 | rfl
  · exact h x h4
  · refine Nat.or_lt_two_pow (n := 64) ?_ (Nat.pow_lt_pow_right (by decide) hn)
    by_cases hp : p < T.length
    · rw [getD_at hp]
      exact h _ (List.getElem_mem hp)
    · simp [List.getD_eq_getElem?_getD, List.getElem?_eq_none (by omega : T.length ≤ p)]
theorem tabWith_lt : ∀ (fs : List LFact) (T : List Nat), (∀ x ∈ T, x < 18446744073709551616) → (∀ f ∈ fs, numF f.2 < 64) → ∀ x ∈ tabWith T fs, x < 18446744073709551616
  | [], _, h, _ => h
  | f :: fs, T, h, hf => tabWith_lt fs (setBit T f.1.toNat (numF f.2)) (setBit_lt h (hf f (List.mem_cons_self ..))) (fun g hg => hf g (List.mem_cons_of_mem _ hg))
theorem word_lt {T : List Nat} {p : Nat} (h : ∀ x ∈ T, x < 18446744073709551616) : T.getD p 0 < 18446744073709551616 := by
  by_cases hp : p < T.length
  · rw [getD_at hp]
    exact h _ (List.getElem_mem hp)
  · simp [List.getD_eq_getElem?_getD, List.getElem?_eq_none (by omega : T.length ≤ p)]
theorem zeroT_lt : ∀ x ∈ zeroT, x < 18446744073709551616 := fun x hx => by
  obtain ⟨_, rfl⟩ := List.mem_replicate.1 hx
  decide

theorem pickL_in (a b : List LFact) (t : Bool) (f : LFact) : f ∈ pickL a b t ↔ f ∈ a ∧ decide (f ∈ b) = t := by
  unfold pickL
  rw [setOf_mem, List.mem_filter, factsHas_in]
  simp

/-- One table of facts stands in another as its facts do. -/
theorem tabIn_facts {ar : List Int} (ha : arityOk ar = true) {F fs : List LFact} (hF : ∀ f ∈ F, factFits ar f = true) (hf : ∀ f ∈ fs, factFits ar f = true) : tabIn (tabWith zeroT F) (tabWith zeroT fs) = true ↔ ∀ f ∈ F, f ∈ fs := by
  have hl : ar.length ≤ 24 := by simp only [arityOk, Bool.and_eq_true, decide_eq_true_eq] at ha; exact ha.1
  have h64 : ∀ f, factFits ar f = true → numF f.2 < 64 := fun f h => numF_64 (fits_parts h).2 (fits_short ha h)
  have hz : ∀ p : Nat, p < 24 → p < zeroT.length := fun p hp => by simpa [zeroT] using hp
  unfold tabIn
  rw [List.all_eq_true]
  have hw : ∀ p, p < 24 → (wordIn (tabWith zeroT F) (tabWith zeroT fs) p = true ↔ ∀ n, (∃ f ∈ F, f.1.toNat = p ∧ numF f.2 = n) → ∃ f ∈ fs, f.1.toNat = p ∧ numF f.2 = n) := fun p hp => by
    unfold wordIn
    rw [word_in (word_lt (tabWith_lt F _ zeroT_lt fun f h => h64 f (hF f h))) (word_lt (tabWith_lt fs _ zeroT_lt fun f h => h64 f (hf f h)))]
    simp only [tabWith_bit _ _ (hz p hp), zero_bit, Bool.false_eq_true, false_or]
  constructor
  · intro h f hm
    have hp := (fits_parts (hF f hm)).1
    have h1 := (hw f.1.toNat (by omega)).1 (h _ (List.mem_range.2 (by omega))) (numF f.2) ⟨f, hm, rfl, rfl⟩
    obtain ⟨g, hg, e1, e2⟩ := h1
    rw [fact_of_bit ha (hF f hm) (hf g hg) e1.symm e2.symm]
    exact hg
  · intro h p hp
    rw [hw p (List.mem_range.1 hp)]
    rintro n ⟨f, hm, e⟩
    exact ⟨f, h f hm, e⟩

theorem closedT_eq {p : LProg} {fs : List LFact} {R : Bool} (h : ClosedT p fs R) : R = closedL p fs := by
  rcases h with ⟨h1, rfl⟩ | ⟨h1, F, hF, rfl⟩
  · unfold closedL
    rw [← Bool.and_assoc, h1, Bool.false_and]
  · rw [Bool.and_eq_true] at h1
    obtain ⟨har, _, hfit⟩ := prog_parts h1.1
    obtain ⟨_, hff, _⟩ := factsOk_parts h1.2
    unfold closedL
    rw [h1.1, h1.2, Bool.true_and, Bool.true_and, Bool.eq_iff_iff, tabIn_facts har (fun f h => headsAll_fits fs hfit f ((hF f).1 h)) hff, decide_eq_true_eq, List.length_eq_zero_iff, List.eq_nil_iff_forall_not_mem]
    constructor
    · intro h f hm
      rw [pickL_in] at hm
      have := h f ((hF f).2 hm.1)
      simp [this] at hm
    · intro h f hm
      apply Classical.byContradiction
      intro hn
      exact h f ((pickL_in _ _ _ _).2 ⟨(hF f).1 hm, by simpa using hn⟩)

end Go.Proofs.YtniedmhkajnfjaaGreat
