/-
  The law FnExactSupported: for every input the call returns true, and each argument reads behind it as it read before. Conditions: none but the row's own.
-/
import Derived.Test.YtcceololijefiaaGreatChecked
import Derived.Deep.SlicePairs
import Derived.ProofKit
import Derived.OpenShut
import Derived.ChangeOld
import Derived.WalkKit
import Derived.Deep.Slices
import Derived.Deep.Fields
import Derived.ChangeSame
import Derived.Lib.SmallJoins
import Derived.KernelRfl
import Derived.Deep.RegionHeld3
import Derived.Deep.DeepCutAuto
import Derived.Deep.RegionWith
import Derived.Test.YtcceololijefiaaGreatRows
import Derived.Test.YtcceololijefiaaGreatMSu1
import Derived.Test.YtcceololijefiaaGreatMSu5
import Derived.Test.YtcceololijefiaaGreatMSu7
import Derived.Test.YtcceololijefiaaGreatMSu8
/-
  Marks on what is not read again: a store of a number over a number keeps the shape of all that lies there. The words, and the walks of markIntS, markAtom, markLitS, markRule, markRuleS, markProgram.
-/
namespace Go.Proofs.YtcceololijefiaaGreat
open Go.RowKit

/-- Blocks outside [lo, hi) are as they were; within, numbers may have become others. -/
structure Marked (lo hi : Nat) (w w' : World) : Prop where
  only : Only lo hi w w'
  cell : ∀ p : Addr, p.block < w.heap.size → w'.cell? p = w.cell? p ∨ ∃ x y, w.cell? p = some (.int .i64 x) ∧ w'.cell? p = some (.int .i64 y)
  frozen : ∀ p : Addr, p.block < w.heap.size → w'.frozen? p = w.frozen? p

section
variable {lo hi : Nat} {w w1 w' : World}
theorem Marked.refl (lo hi : Nat) (w : World) : Marked lo hi w w := ⟨Only.refl _ _ _, fun _ _ => .inl rfl, fun _ _ => rfl⟩
theorem Marked.trans (h : Marked lo hi w w1) (k : Marked lo hi w1 w') : Marked lo hi w w' := by
  refine ⟨h.only.trans k.only, fun p hp => ?_, fun p hp => (k.frozen p (Nat.lt_of_lt_of_le hp h.only.size)).trans (h.frozen p hp)⟩
  rcases h.cell p hp with e | ⟨x, y, e1, e2⟩
  · rcases k.cell p (Nat.lt_of_lt_of_le hp h.only.size) with e' | ⟨x', y', e1', e2'⟩
    · exact .inl (e'.trans e)
    · exact .inr ⟨x', y', e ▸ e1', e2'⟩
  · rcases k.cell p (Nat.lt_of_lt_of_le hp h.only.size) with e' | ⟨x', y', e1', e2'⟩
    · exact .inr ⟨x, y, e1, e'.trans e2⟩
    · exact .inr ⟨x, y', e1, e2'⟩
theorem Marked.of_below (h : Below w.heap.size w w') : Marked lo hi w w' := ⟨Only.of_below h, fun _ hp => .inl (h.cell hp), fun _ hp => h.frozen hp⟩
theorem Marked.store {p : Addr} {x : Int} (hp : lo ≤ p.block ∧ p.block < hi) (hc : w.cell? p = some (.int .i64 x)) (y : Int) : Marked lo hi w (w.setCell p (.int .i64 y)) := by
  refine ⟨(Only.refl _ _ _).setCell hp _, fun q _ => ?_, fun q _ => ?_⟩
  · by_cases e : q = p
    · subst e
      exact .inr ⟨x, y, hc, World.cell?_setCell_same _ _ _ hc⟩
    · exact .inl (World.cell?_setCell_other _ _ _ _ (fun e' => e e'.symm))
  · unfold World.frozen? World.setCell
    rw [Array.getElem?_modify]
    by_cases e : p.block = q.block
    · rw [if_pos e]
      cases hq : w.heap[q.block]? with
      | none => rfl
      | some o => cases o <;> rfl
    · rw [if_neg e]

/-- A slice of n numbers, of blocks from lo on and below hi, that may be written. -/
def WrInts (w : World) (lo hi : Nat) (v : Value) (n : Nat) : Prop :=
  ∃ A c, v = .slice A n c ∧ (0 < n → ∃ b o, A = some ⟨b, o, none⟩ ∧ lo ≤ b ∧ b < hi ∧ ∀ k, k < n → w.frozen? ⟨b, o + k, none⟩ = false ∧ ∃ x, w.cell? ⟨b, o + k, none⟩ = some (.int .i64 x))
theorem Marked.int (h : Marked lo hi w w') {p : Addr} {x : Int} (hc : w.cell? p = some (.int .i64 x)) : ∃ y, w'.cell? p = some (.int .i64 y) := by
  rcases h.cell p (World.block_lt_of_cell? _ _ hc) with e | ⟨_, y, _, e⟩
  · exact ⟨x, e.trans hc⟩
  · exact ⟨y, e⟩
theorem Marked.slice (h : Marked lo hi w w') {p : Addr} {A : Option Addr} {n c : Nat} (hc : w.cell? p = some (.slice A n c)) : w'.cell? p = some (.slice A n c) := by
  rcases h.cell p (World.block_lt_of_cell? _ _ hc) with e | ⟨x, y, e, _⟩
  · exact e.trans hc
  · rw [hc] at e
    cases e
theorem WrInts.marked {v : Value} {n : Nat} (h : WrInts w lo hi v n) (hm : Marked lo hi w w') : WrInts w' lo hi v n := by
  obtain ⟨A, c, rfl, h⟩ := h
  refine ⟨A, c, rfl, fun hn => ?_⟩
  obtain ⟨b, o, rfl, h1, h2, hx⟩ := h hn
  refine ⟨b, o, rfl, h1, h2, fun k hk => ?_⟩
  obtain ⟨hf, x, hc⟩ := hx k hk
  exact ⟨(hm.frozen _ (World.block_lt_of_cell? _ _ hc)).trans hf, hm.int hc⟩
theorem OwnInts.wr {v : Value} {xs : List Int} (h : OwnInts w lo hi v xs) : WrInts w lo hi v xs.length := by
  have hrd := h.rd
  obtain ⟨⟨hlen, h⟩, hlt⟩ := h
  rcases h with ⟨rfl, h0⟩ | ⟨g, cap, cur, rfl, hbg, hg, hn, hm, hs, ht⟩
  · exact ⟨none, 0, by rw [h0], fun hn => absurd hn (by omega)⟩
  · refine ⟨_, cap, rfl, fun hn0 => ⟨g, 0, rfl, hbg, hlt g rfl, fun k hk => ⟨by simp [World.frozen?, hg], ?_⟩⟩⟩
    obtain ⟨A', c', e, _, hx⟩ := hrd
    injection e with e1 _ _
    obtain ⟨b, o, e2, _, hx⟩ := hx hn0
    rw [← e1] at e2
    injection e2 with e2
    injection e2 with e2 e3 _
    subst e2
    subst e3
    exact ⟨_, hx k hk⟩

def WLit (w : World) (lo hi : Nat) (u0 u1 u2 : Value) (l : LLit) : Prop := (∃ x, u0 = .int .i64 x) ∧ (∃ y, u1 = .int .i64 y) ∧ WrInts w lo hi u2 l.2.2.length
def WrLits (w : World) (lo hi : Nat) (v : Value) (ls : List LLit) : Prop := OwnRow WLit w lo hi v ls
theorem OwnLits.wr {v : Value} {ls : List LLit} (h : OwnLits w lo hi v ls) : WrLits w lo hi v ls := by
  obtain ⟨A, c, rfl, hc, h⟩ := h
  refine ⟨A, c, rfl, hc, fun hn => ?_⟩
  obtain ⟨b, o, rfl, h1, h2, hx⟩ := h hn
  refine ⟨b, o, rfl, h1, h2, fun k hk => ?_⟩
  obtain ⟨hf, u0, u1, u2, c0, c1, c2, rfl, rfl, hI⟩ := hx k hk
  exact ⟨hf, _, _, _, c0, c1, c2, ⟨_, rfl⟩, ⟨_, rfl⟩, hI.wr⟩
theorem WrLits.marked {v : Value} {ls : List LLit} (h : WrLits w lo hi v ls) (hm : Marked lo hi w w') : WrLits w' lo hi v ls := by
  obtain ⟨A, c, rfl, hc, h⟩ := h
  refine ⟨A, c, rfl, hc, fun hn => ?_⟩
  obtain ⟨b, o, rfl, h1, h2, hx⟩ := h hn
  refine ⟨b, o, rfl, h1, h2, fun k hk => ?_⟩
  obtain ⟨⟨f0, f1⟩, u0, u1, u2, c0, c1, c2, ⟨x, rfl⟩, ⟨y, rfl⟩, hI⟩ := hx k hk
  obtain ⟨x', d0⟩ := hm.int c0
  obtain ⟨y', d1⟩ := hm.int c1
  obtain ⟨A2, c2', rfl, hi⟩ := hI
  exact ⟨⟨(hm.frozen _ (World.block_lt_of_cell? _ _ c0)).trans f0, (hm.frozen _ (World.block_lt_of_cell? _ _ c1)).trans f1⟩, _, _, _, d0, d1, hm.slice c2, ⟨_, rfl⟩, ⟨_, rfl⟩, WrInts.marked ⟨A2, c2', rfl, hi⟩ hm⟩

def WRule (w : World) (lo hi : Nat) (u0 u1 u2 : Value) (r : LRule) : Prop := (∃ x, u0 = .int .i64 x) ∧ WrInts w lo hi u1 r.1.2.length ∧ WrLits w lo hi u2 r.2
def WrRules (w : World) (lo hi : Nat) (v : Value) (rs : List LRule) : Prop := OwnRow WRule w lo hi v rs
theorem OwnRules.wr {v : Value} {rs : List LRule} (h : OwnRules w lo hi v rs) : WrRules w lo hi v rs := by
  obtain ⟨A, c, rfl, hc, h⟩ := h
  refine ⟨A, c, rfl, hc, fun hn => ?_⟩
  obtain ⟨b, o, rfl, h1, h2, hx⟩ := h hn
  refine ⟨b, o, rfl, h1, h2, fun k hk => ?_⟩
  obtain ⟨hf, u0, u1, u2, c0, c1, c2, rfl, hI, hL⟩ := hx k hk
  exact ⟨hf, _, _, _, c0, c1, c2, ⟨_, rfl⟩, hI.wr, hL.wr⟩
theorem WrRules.marked {v : Value} {rs : List LRule} (h : WrRules w lo hi v rs) (hm : Marked lo hi w w') : WrRules w' lo hi v rs := by
  obtain ⟨A, c, rfl, hc, h⟩ := h
  refine ⟨A, c, rfl, hc, fun hn => ?_⟩
  obtain ⟨b, o, rfl, h1, h2, hx⟩ := h hn
  refine ⟨b, o, rfl, h1, h2, fun k hk => ?_⟩
  obtain ⟨⟨f0, f1⟩, u0, u1, u2, c0, c1, c2, ⟨x, rfl⟩, hI, hL⟩ := hx k hk
  obtain ⟨x', d0⟩ := hm.int c0
  have f1' := (hm.frozen _ (World.block_lt_of_cell? _ _ c1)).trans f1
  obtain ⟨A1, n1, rfl, hi1⟩ := hI
  obtain ⟨A2, n2, rfl, hc2, hi2⟩ := hL
  exact ⟨⟨(hm.frozen _ (World.block_lt_of_cell? _ _ c0)).trans f0, f1'⟩, _, _, _, d0, hm.slice c1, hm.slice c2, ⟨_, rfl⟩, WrInts.marked ⟨A1, n1, rfl, hi1⟩ hm, WrLits.marked ⟨A2, n2, rfl, hc2, hi2⟩ hm⟩
end

/-- How far the marks of literals, of a rule, of rules go. -/
def endL (k : Int) (ls : List LLit) : Int := k + 2 * (ls.length : Int) + (totL ls : Int)

def endR (k : Int) (r : LRule) : Int := endL (k + (r.1.2.length : Int)) r.2

end Go.Proofs.YtcceololijefiaaGreat
/-
  Marks on rules and programs that are not read again: markRuleS, markProgram.
-/
namespace Go.Proofs.YtcceololijefiaaGreat
open Go.RowKit

theorem endR_le (k : Int) (r : LRule) : k ≤ endR k r ∧ endR k r ≤ k + 2 * (szR r : Int) := by
  unfold endR endL szR
  omega
theorem totR_take_le (rs : List LRule) (j : Nat) : totR (rs.take j) ≤ totR rs := by
  have := congrArg (fun l => (l.map szR).sum) (List.take_append_drop j rs)
  simp only [List.map_append, List.sum_append] at this
  unfold totR
  omega

end Go.Proofs.YtcceololijefiaaGreat
/-
  What comes in, its lengths.
-/
namespace Go.Proofs.YtcceololijefiaaGreat
open Go.RowKit

theorem ruleLens_in {r : LRule} (h : ruleFitsIn r) : ruleLens r := by
  obtain ⟨h1, h2, h3⟩ := h
  unfold maxLen at *
  exact ⟨by omega, by omega, fun k hk => by have := h3 k hk; omega⟩
theorem progLens_in {p : LProg} (h : p.1.length ≤ maxLen ∧ p.2.length ≤ maxLen ∧ ∀ k (h : k < p.2.length), ruleFitsIn p.2[k]) : progLens p := by
  obtain ⟨h1, h2, h3⟩ := h
  refine ⟨?_, ?_, fun k hk => ruleLens_in (h3 k hk)⟩ <;> (unfold maxLen at *; omega)

end Go.Proofs.YtcceololijefiaaGreat
/-
  Programs that a call has made, and their sizes and marks, in the one form that the laws' walks ask.
-/
namespace Go.Proofs.YtcceololijefiaaGreat
open Go.RowKit

/-- A program whose two rows stand in blocks from lo on and below hi. -/
def OwnProg (w : World) (lo hi : Nat) (v : Value) (p : LProg) : Prop := ∃ a b, v = .agg #[a, b] ∧ OwnInts w lo hi a p.1 ∧ OwnRules w lo hi b p.2
theorem RdProg.more {w : World} {B B' : Nat} {v : Value} {p : LProg} (h : RdProg w B v p) (hB : B ≤ B') : RdProg w B' v p := by
  obtain ⟨a, b, rfl, h1, h2⟩ := h
  exact ⟨a, b, rfl, h1.more hB, h2.more hB⟩
theorem OwnProg.below {w w' : World} {lo hi B : Nat} {v : Value} {p : LProg} (h : OwnProg w lo hi v p) (hb : Below B w w') (hB : hi ≤ B) : OwnProg w' lo hi v p := by
  obtain ⟨a, b, rfl, h1, h2⟩ := h
  exact ⟨a, b, rfl, h1.below hb hB, h2.below hb hB⟩
theorem OwnProg.only {w w' : World} {lo hi lo' hi' : Nat} {v : Value} {p : LProg} (h : OwnProg w lo hi v p) (ho : Only lo' hi' w w') (hd : hi ≤ lo' ∨ hi' ≤ lo) (hh : hi ≤ w.heap.size) : OwnProg w' lo hi v p := by
  obtain ⟨a, b, rfl, h1, h2⟩ := h
  exact ⟨a, b, rfl, h1.only ho hd, h2.keep fun g h3 h4 => ho.block g (by omega) (by omega)⟩
theorem OwnProg.rd {w : World} {lo hi : Nat} {v : Value} {p : LProg} (h : OwnProg w lo hi v p) : RdProg w hi v p := by
  obtain ⟨a, b, rfl, h1, h2⟩ := h
  exact ⟨a, b, rfl, h1.rd, h2.rd⟩

theorem toProgram_own (v : Value) (p : LProg) (w : World) (h : RdProg w w.heap.size v p) (hn : szP p ≤ 1048576) :
    Calls Tryz.prog 8 #[v] w fun e w' => ∃ A c A2 c2, e = .returned (.agg #[.slice A p.1.length c, .slice A2 p.2.length c2]) ∧ OwnProg w' w.heap.size w'.heap.size (.agg #[.slice A p.1.length c, .slice A2 p.2.length c2]) p ∧ Below w.heap.size w w' :=
  (toProgram_any v p w h hn).mono fun _ _ ⟨A, c, A2, c2, he, h1, h2, hb⟩ => ⟨A, c, A2, c2, he, ⟨_, _, rfl, h1, h2⟩, hb⟩

theorem us_prog {v : Value} {p : LProg} {left : Int} {w : World} (h : RdProg w w.heap.size v p) (h0 : 0 ≤ left) (hl : left ≤ 1048576) (hn : progLens p) :
    Calls Tryz.prog 5 #[v, .int .i64 left] w fun e w' => ∃ z, e = .returned (.int .i64 z) ∧ (z = -1 ∨ (0 ≤ z ∧ z + szP p = left)) ∧ Below w.heap.size w w' :=
  szProgram_any v p left w h h0 hl hn

end Go.Proofs.YtcceololijefiaaGreat
/-
  Marks and sizes of lists of facts, in the one form that the laws' walks ask.
-/
namespace Go.Proofs.YtcceololijefiaaGreat
open Go.RowKit

def szF (fs : List LFact) : Nat := fs.length + tot fs
/-- The marks from k on stand in a row of facts, and end at z. -/
def HdFacts (w : World) (lo hi : Nat) (v : Value) (fs : List LFact) (k z : Int) : Prop := OwnFacts w lo hi v (markF k fs) ∧ z = endF k fs ∧ 0 ≤ k ∧ k ≤ 4294967296 ∧ szF fs ≤ 1073741824
theorem HdFacts.below {w w' : World} {lo hi B : Nat} {v : Value} {fs : List LFact} {k z : Int} (h : HdFacts w lo hi v fs k z) (hb : Below B w w') (hB : hi ≤ B) : HdFacts w' lo hi v fs k z := ⟨h.1.below hb hB, h.2⟩
theorem HdFacts.only {w w' : World} {lo hi lo' hi' : Nat} {v : Value} {fs : List LFact} {k z : Int} (h : HdFacts w lo hi v fs k z) (ho : Only lo' hi' w w') (hd : hi ≤ lo' ∨ hi' ≤ lo) : HdFacts w' lo hi v fs k z := ⟨h.1.only ho hd, h.2⟩

theorem us_facts {v : Value} {fs : List LFact} {left : Int} {w : World} (h : RdFacts w w.heap.size v fs) (h0 : 0 ≤ left) (hl : left ≤ 1048576) (hn : fs.length ≤ maxLen) (hm : ∀ k (h : k < fs.length), fs[k].2.length ≤ maxLen) :
    Calls Tryz.prog 6 #[v, .int .i64 left] w fun e w' => ∃ z, e = .returned (.int .i64 z) ∧ (z = -1 ∨ (0 ≤ z ∧ z + szF fs = left)) ∧ Below w.heap.size w w' :=
  (szFactS_any v fs left w h h0 hl (by unfold maxLen at hn; omega) (fun k hk => by have := hm k hk; unfold maxLen at this; omega)).mono fun _ _ ⟨r, he, hr, hb⟩ => ⟨r, he, hr.imp id fun ⟨a, b⟩ => ⟨a, by unfold szF; omega⟩, hb⟩

end Go.Proofs.YtcceololijefiaaGreat
/-
  What comes in, opened into the words of the Base text.
-/
namespace Go.Proofs.YtcceololijefiaaGreat
open Go.ChangeShapes Go.WideShapes Go.ChangeAt Go.RowKit Go.Joins Go.Deep

section
variable {H : Type} {enc : TypeId × Value → H} {W : World}

def InFact (W : World) (v : Value) (f : LFact) : Prop := RdFact W W.heap.size v f ∧ f.2.length ≤ maxLen
def InFacts (W : World) (v : Value) (fs : List LFact) : Prop := RdFacts W W.heap.size v fs ∧ fs.length ≤ maxLen ∧ ∀ k (h : k < fs.length), fs[k].2.length ≤ maxLen

theorem Tryz.cells45 : Tryz.prog.cellsOf 45 = 2 := by kernel_rfl
set_option maxRecDepth 100000 in
theorem open_inFact {v : Value} {d : DataW H} {p : List MemPlace} {b0 : Nat} (hv : Value.okWide Tryz.prog W .any b0 45 v) (h : DataW.Trod enc Tryz.prog W 0 (fun _ => true) true 45 v d p) :
    ∃ f, InFact W v f := by
  obtain ⟨v0, v1, y0, y1, n, rfl, _, _, h0, h1⟩ := open_agg2 Tryz.underlying45 (by kernel_rfl) Tryz.cells45 hv h
  obtain ⟨m, e0, _, _⟩ := DataW.trod_int Tryz.underlying3 h0
  simp at e0
  subst e0
  obtain ⟨xs, hx⟩ := open_inInts_cells h1
  exact ⟨(m, xs), ⟨v1, rfl, hx.1⟩, hx.2⟩

set_option maxRecDepth 100000 in
theorem open_inFacts {v : Value} {d : DataW H} {p : List MemPlace} {b0 : Nat} (hv : Value.okWide Tryz.prog W .any b0 26 v) (h : DataW.Trod enc Tryz.prog W 0 (fun _ => true) true 26 v d p) :
    ∃ fs, InFacts W v fs := by
  obtain ⟨a, len, cap, rfl⟩ := okWide_slice Tryz.underlying26 hv
  obtain ⟨fuel, hf⟩ := h
  rcases open_slice_pairs Tryz.underlying26 Tryz.underlying45 Tryz.cells45 rfl rfl Tryz.cells3 Tryz.cells22 hf with ⟨hcs, _⟩ | ⟨a', len', cap', m, n, V0, V1, D0, D1, P0, P1, hcs, _, hl, hm, hmm, _, hx⟩
  · simp [Value.cells] at hcs
    obtain ⟨rfl, rfl, rfl⟩ := hcs
    exact ⟨[], ⟨none, 0, rfl, by simp, fun h => absurd h (by simp)⟩, by simp, fun k h => absurd h (by simp)⟩
  · simp [Value.cells] at hcs
    obtain ⟨rfl, rfl, rfl⟩ := hcs
    simp at hmm
    subst hmm
    obtain ⟨F, hF⟩ := choose_lt (α := LFact) (n := len) (p := fun i f => V0 i = .int .i64 f.1 ∧ InInts W (V1 i) f.2) (fun i hi => by
      obtain ⟨_, _, h0, h1⟩ := hx i (by omega)
      obtain ⟨q, e0, _, _⟩ := DataW.trod_int Tryz.underlying3 h0
      obtain ⟨xs, hxs⟩ := open_inInts_cells h1
      simp at e0
      exact ⟨(q, xs), e0, hxs⟩)
    refine ⟨(List.range len).map F, ⟨some a', m, by simp, by simpa using hl, fun hn => ?_⟩, by simp; omega, fun k hk => ?_⟩
    · simp at hn
      obtain ⟨b, off, spot⟩ := a'
      have hspot : spot = none := by simpa [Addr.add] using World.cell?_spot (hx 0 (by omega)).1
      subst hspot
      have hb : b < W.heap.size := by simpa [Addr.add] using World.block_lt_of_cell? _ _ (hx 0 (by omega)).1
      refine ⟨b, off, rfl, hb, fun k hk => ?_⟩
      simp at hk
      obtain ⟨c0, c1, _, _⟩ := hx k (by omega)
      obtain ⟨e0, e1⟩ := hF k hk
      rw [Go.WideShapes.add_plain, e0] at c0
      rw [Go.WideShapes.add_plain] at c1
      exact ⟨V1 k, by simpa using c0, by simpa [Nat.add_assoc] using c1, by simpa using e1.1⟩
    · simp at hk ⊢
      exact (hF k hk).2.2
end

end Go.Proofs.YtcceololijefiaaGreat
/-
  The walk of the law on Supported (written by wip/genlaw.py).
-/
namespace Go.Proofs.YtcceololijefiaaGreat
open Go.RowKit

set_option maxHeartbeats 4000000 in
set_option maxRecDepth 100000 in
theorem lawSupported_any (v0 : Value) (v1 : Value) (v2 : Value) (p : LProg) (db : List LFact) (fs : List LFact) (w : World) (h0 : RdProg w w.heap.size v0 p) (h1 : RdFacts w w.heap.size v1 db) (h2 : RdFacts w w.heap.size v2 fs) (n0 : progLens p) (n1 : db.length ≤ maxLen) (m1 : ∀ k (h : k < db.length), db[k].2.length ≤ maxLen) (n2 : fs.length ≤ maxLen) (m2 : ∀ k (h : k < fs.length), fs[k].2.length ≤ maxLen) :
    Calls Tryz.prog 4 #[v0, v1, v2] w fun e w' => e = .returned (.bool true) ∧ Below w.heap.size w w' := by
  have H0 := Lib.hid h0
  obtain ⟨_, _, rfl, ⟨A0, c0, rfl, hc0, _⟩, ⟨A0b, c0b, rfl, hc0b, _⟩⟩ := h0
  have H1 := Lib.hid h1
  obtain ⟨A1, c1, rfl, hc1, _⟩ := h1
  have H2 := Lib.hid h2
  obtain ⟨A2, c2, rfl, hc2, _⟩ := h2
  go_enter Tryz.func4, Tryz.ntmps4
  go_wp2_with (fail)
  obtain ⟨w1, hw_w1⟩ : ∃ W', W' = w.alloc (Obj.cells #[Value.slice A0 p.1.length c0, Value.slice A0b p.2.length c0b] 25) := ⟨_, rfl⟩
  rw [← hw_w1]
  have B_w1 : Below w.heap.size w w1 := by rw [hw_w1]; exact below1 _ _
  have bx0 : Blk w1 (w.heap.size + 0) 25 #[.slice A0 p.1.length c0, .slice A0b p.2.length c0b] := by
    rw [hw_w1]
    have := (Blk.new w 25 #[.slice A0 p.1.length c0, .slice A0b p.2.length c0b])
    simpa using this
  have bx0_l := bx0.lt
  rw [Nat.add_zero] at bx0 bx0_l
  have s_w1 := B_w1.size
  clear hw_w1
  refine (us_prog (H0.out.on B_w1) (by omega) (by omega) n0).mono ?_
  rintro e w2 ⟨z0, rfl, hz0, hbz0⟩
  have s_w2 := hbz0.size
  have bx0_1 := bx0.below hbz0 (by first | exact bx0.lt | omega)
  clear bx0
  have bx0_1_l := bx0_1.lt
  have B_w2 := bthen B_w1 hbz0
  rcases hz0 with rfl | ⟨zp0, zs0⟩
  · go_wp2_with (fail)
    go_ret
    exact ⟨rfl, B_w2⟩
  have zn0 : ¬ z0 < 0 := by omega
  have r0 : szP p ≤ 1048576 := by omega
  have zl0 : z0 ≤ 1048576 := by omega
  have ZS0 := Lib.hid zs0
  clear zs0
  have q1 : w2.cell? ⟨w.heap.size, 0, none⟩ = some (.slice A0 p.1.length c0) := bx0_1.cell 0
  have q2 : w2.cell? ⟨w.heap.size, 1, none⟩ = some (.slice A0b p.2.length c0b) := bx0_1.cell 1
  go_wp2_with (fail)
  clear q1 q2
  refine (us_facts (H1.out.on B_w2) (by omega) (by omega) n1 m1).mono ?_
  rintro e w3 ⟨z1, rfl, hz1, hbz1⟩
  have s_w3 := hbz1.size
  have bx0_2 := bx0_1.below hbz1 (by first | exact bx0_1.lt | omega)
  clear bx0_1
  have bx0_2_l := bx0_2.lt
  have B_w3 := bthen B_w2 hbz1
  rcases hz1 with rfl | ⟨zp1, zs1⟩
  · go_wp2_with (fail)
    go_ret
    exact ⟨rfl, B_w3⟩
  have zn1 : ¬ z1 < 0 := by omega
  have r1 : szF db ≤ 1048576 := by omega
  have zl1 : z1 ≤ 1048576 := by omega
  have ZS1 := Lib.hid zs1
  clear zs1
  have q3 : w3.cell? ⟨w.heap.size, 0, none⟩ = some (.slice A0 p.1.length c0) := bx0_2.cell 0
  have q4 : w3.cell? ⟨w.heap.size, 1, none⟩ = some (.slice A0b p.2.length c0b) := bx0_2.cell 1
  go_wp2_with (fail)
  clear q3 q4
  refine (us_facts (H2.out.on B_w3) (by omega) (by omega) n2 m2).mono ?_
  rintro e w4 ⟨z2, rfl, hz2, hbz2⟩
  have s_w4 := hbz2.size
  have bx0_3 := bx0_2.below hbz2 (by first | exact bx0_2.lt | omega)
  clear bx0_2
  have bx0_3_l := bx0_3.lt
  have B_w4 := bthen B_w3 hbz2
  rcases hz2 with rfl | ⟨zp2, zs2⟩
  · go_wp2_with (fail)
    go_ret
    exact ⟨rfl, B_w4⟩
  have zn2 : ¬ z2 < 0 := by omega
  have r2 : szF fs ≤ 1048576 := by omega
  have zl2 : z2 ≤ 1048576 := by omega
  have ZS2 := Lib.hid zs2
  clear zs2 zn2
  have zn2 : ¬ z2 < 0 := by omega
  obtain ⟨R0, hR0⟩ : ∃ R, R = supL p db fs := ⟨_, rfl⟩
  have HR0 := Lib.hid hR0
  clear hR0
  have gb0 : (R0 != R0) = false := by simp
  have q5 : w4.cell? ⟨w.heap.size, 0, none⟩ = some (.slice A0 p.1.length c0) := bx0_3.cell 0
  have q6 : w4.cell? ⟨w.heap.size, 1, none⟩ = some (.slice A0b p.2.length c0b) := bx0_3.cell 1
  go_wp2_with (fail)
  clear q5 q6
  refine (toProgram_own _ p _ (H0.out.on B_w4) (by omega)).mono ?_
  rintro e w5 ⟨P1, d1, P1b, d1b, rfl, o1, hb1⟩
  have s_w5 := hb1.size
  have bx0_4 := bx0_3.below hb1 (by first | exact bx0_3.lt | omega)
  clear bx0_3
  have bx0_4_l := bx0_4.lt
  have B_w5 := bthen B_w4 hb1
  have q7 : w5.cell? ⟨w.heap.size, 0, none⟩ = some (.slice A0 p.1.length c0) := bx0_4.cell 0
  have q8 : w5.cell? ⟨w.heap.size, 1, none⟩ = some (.slice A0b p.2.length c0b) := bx0_4.cell 1
  go_wp2_with (fail)
  clear q7 q8
  refine (toFactS_any _ db _ (H1.out.on B_w5) (by unfold szF at *; omega) (by unfold szF at *; omega)).mono ?_
  rintro e w6 ⟨P2, d2, rfl, o2, hb2⟩
  have s_w6 := hb2.size
  have bx0_5 := bx0_4.below hb2 (by first | exact bx0_4.lt | omega)
  clear bx0_4
  have bx0_5_l := bx0_5.lt
  have tw0_5 := o1.below hb2 (by omega)
  clear o1
  have B_w6 := bthen B_w5 hb2
  have q9 : w6.cell? ⟨w.heap.size, 0, none⟩ = some (.slice A0 p.1.length c0) := bx0_5.cell 0
  have q10 : w6.cell? ⟨w.heap.size, 1, none⟩ = some (.slice A0b p.2.length c0b) := bx0_5.cell 1
  go_wp2_with (fail)
  clear q9 q10
  refine (toFactS_any _ fs _ (H2.out.on B_w6) (by unfold szF at *; omega) (by unfold szF at *; omega)).mono ?_
  rintro e w7 ⟨P3, d3, rfl, o3, hb3⟩
  have s_w7 := hb3.size
  have bx0_6 := bx0_5.below hb3 (by first | exact bx0_5.lt | omega)
  clear bx0_5
  have bx0_6_l := bx0_6.lt
  have tw0_6 := tw0_5.below hb3 (by omega)
  clear tw0_5
  have tw1_6 := o2.below hb3 (by omega)
  clear o2
  have B_w7 := bthen B_w6 hb3
  have q11 : w7.cell? ⟨w.heap.size, 0, none⟩ = some (.slice A0 p.1.length c0) := bx0_6.cell 0
  have q12 : w7.cell? ⟨w.heap.size, 1, none⟩ = some (.slice A0b p.2.length c0b) := bx0_6.cell 1
  go_wp2_with (fail)
  clear q11 q12
  refine (specSupported_any _ _ _ p db fs _ (tw0_6.rd.more (by omega)) (tw1_6.rd.more (by omega)) (o3.rd.more (by omega)) (by omega) (by unfold szF at r2; omega) (by unfold szF at r2; omega) (by unfold szF at r1; omega) (by unfold szF at r1; omega)).mono ?_
  try rw [← HR0.out]
  rintro e w8 ⟨rfl, hb4⟩
  have s_w8 := hb4.size
  have bx0_7 := bx0_6.below hb4 (by first | exact bx0_6.lt | omega)
  clear bx0_6
  have bx0_7_l := bx0_7.lt
  have tw0_7 := tw0_6.below hb4 (by omega)
  clear tw0_6
  have tw1_7 := tw1_6.below hb4 (by omega)
  clear tw1_6
  have tw2_7 := o3.below hb4 (by omega)
  clear o3
  have B_w8 := bthen B_w7 hb4
  have q13 : w8.cell? ⟨w.heap.size, 0, none⟩ = some (.slice A0 p.1.length c0) := bx0_7.cell 0
  have q14 : w8.cell? ⟨w.heap.size, 1, none⟩ = some (.slice A0b p.2.length c0b) := bx0_7.cell 1
  go_wp2_with (fail)
  clear q13 q14
  refine (toProgram_own _ p _ (H0.out.on B_w8) (by omega)).mono ?_
  rintro e w9 ⟨P5, d5, P5b, d5b, rfl, o5, hb5⟩
  have s_w9 := hb5.size
  have bx0_8 := bx0_7.below hb5 (by first | exact bx0_7.lt | omega)
  clear bx0_7
  have bx0_8_l := bx0_8.lt
  have B_w9 := bthen B_w8 hb5
  have q15 : w9.cell? ⟨w.heap.size, 0, none⟩ = some (.slice A0 p.1.length c0) := bx0_8.cell 0
  have q16 : w9.cell? ⟨w.heap.size, 1, none⟩ = some (.slice A0b p.2.length c0b) := bx0_8.cell 1
  go_wp2_with (fail)
  clear q15 q16
  obtain ⟨w10, hw_w10⟩ : ∃ W', W' = w9.alloc (Obj.cells #[Value.slice P5 p.1.length d5, Value.slice P5b p.2.length d5b] 32) := ⟨_, rfl⟩
  rw [← hw_w10]
  have hb_w10 : Below w9.heap.size w9 w10 := by rw [hw_w10]; exact below1 _ _
  have bxx0_n : Blk w10 w9.heap.size 32 #[.slice P5 p.1.length d5, .slice P5b p.2.length d5b] := by rw [hw_w10]; exact Blk.new _ _ _
  have bxx0_nl := bxx0_n.lt
  clear hw_w10
  have s_w10 := hb_w10.size
  have bx0_9 := bx0_8.below hb_w10 (by first | exact bx0_8.lt | omega)
  clear bx0_8
  have bx0_9_l := bx0_9.lt
  have x0_9 := o5.below hb_w10 (by omega)
  clear o5
  have B_w10 := bthen B_w9 hb_w10
  refine (toFactS_any _ db _ (H1.out.on B_w10) (by unfold szF at *; omega) (by unfold szF at *; omega)).mono ?_
  rintro e w11 ⟨P6, d6, rfl, o6, hb6⟩
  have s_w11 := hb6.size
  have bx0_10 := bx0_9.below hb6 (by first | exact bx0_9.lt | omega)
  clear bx0_9
  have bx0_10_l := bx0_10.lt
  have x0_10 := x0_9.below hb6 (by omega)
  clear x0_9
  have bxx0_10 := bxx0_n.below hb6 (by first | exact bxx0_n.lt | omega)
  clear bxx0_n
  have bxx0_10_l := bxx0_10.lt
  have B_w11 := bthen B_w10 hb6
  have q17 : w11.cell? ⟨w.heap.size, 0, none⟩ = some (.slice A0 p.1.length c0) := bx0_10.cell 0
  have q18 : w11.cell? ⟨w.heap.size, 1, none⟩ = some (.slice A0b p.2.length c0b) := bx0_10.cell 1
  have q19 : w11.cell? ⟨w9.heap.size, 0, none⟩ = some (.slice P5 p.1.length d5) := bxx0_10.cell 0
  have q20 : w11.cell? ⟨w9.heap.size, 1, none⟩ = some (.slice P5b p.2.length d5b) := bxx0_10.cell 1
  go_wp2_with (fail)
  clear q17 q18 q19 q20
  refine (toFactS_any _ fs _ (H2.out.on B_w11) (by unfold szF at *; omega) (by unfold szF at *; omega)).mono ?_
  rintro e w12 ⟨P7, d7, rfl, o7, hb7⟩
  have s_w12 := hb7.size
  have bx0_11 := bx0_10.below hb7 (by first | exact bx0_10.lt | omega)
  clear bx0_10
  have bx0_11_l := bx0_11.lt
  have x0_11 := x0_10.below hb7 (by omega)
  clear x0_10
  have bxx0_11 := bxx0_10.below hb7 (by first | exact bxx0_10.lt | omega)
  clear bxx0_10
  have bxx0_11_l := bxx0_11.lt
  have x1_11 := o6.below hb7 (by omega)
  clear o6
  have B_w12 := bthen B_w11 hb7
  have q21 : w12.cell? ⟨w.heap.size, 0, none⟩ = some (.slice A0 p.1.length c0) := bx0_11.cell 0
  have q22 : w12.cell? ⟨w.heap.size, 1, none⟩ = some (.slice A0b p.2.length c0b) := bx0_11.cell 1
  have q23 : w12.cell? ⟨w9.heap.size, 0, none⟩ = some (.slice P5 p.1.length d5) := bxx0_11.cell 0
  have q24 : w12.cell? ⟨w9.heap.size, 1, none⟩ = some (.slice P5b p.2.length d5b) := bxx0_11.cell 1
  go_wp2_with (fail)
  clear q21 q22 q23 q24
  refine (implSupported_any _ _ _ p db fs _ (x0_11.rd.more (by omega)) (x1_11.rd.more (by omega)) (o7.rd.more (by omega)) (by omega) (by unfold szF at r2; omega) (by unfold szF at r2; omega) (by unfold szF at r1; omega) (by unfold szF at r1; omega)).mono ?_
  try rw [← HR0.out]
  rintro e w13 ⟨rfl, hb8⟩
  have s_w13 := hb8.size
  have bx0_12 := bx0_11.below hb8 (by first | exact bx0_11.lt | omega)
  clear bx0_11
  have bx0_12_l := bx0_12.lt
  have x0_12 := x0_11.below hb8 (by omega)
  clear x0_11
  have bxx0_12 := bxx0_11.below hb8 (by first | exact bxx0_11.lt | omega)
  clear bxx0_11
  have bxx0_12_l := bxx0_12.lt
  have x1_12 := x1_11.below hb8 (by omega)
  clear x1_11
  have x2_12 := o7.below hb8 (by omega)
  clear o7
  have B_w13 := bthen B_w12 hb8
  have q25 : w13.cell? ⟨w.heap.size, 0, none⟩ = some (.slice A0 p.1.length c0) := bx0_12.cell 0
  have q26 : w13.cell? ⟨w.heap.size, 1, none⟩ = some (.slice A0b p.2.length c0b) := bx0_12.cell 1
  have q27 : w13.cell? ⟨w9.heap.size, 0, none⟩ = some (.slice P5 p.1.length d5) := bxx0_12.cell 0
  have q28 : w13.cell? ⟨w9.heap.size, 1, none⟩ = some (.slice P5b p.2.length d5b) := bxx0_12.cell 1
  go_upto_region 18 with fail
  clear q25 q26 q27 q28
  have HS_w13 := Lib.hid (show ∀ W, Below w13.heap.size w13 W → (Below w13.heap.size w13 W ∧ W.cell? ⟨w.heap.size, 0, none⟩ = some (.slice A0 p.1.length c0) ∧ W.cell? ⟨w.heap.size, 1, none⟩ = some (.slice A0b p.2.length c0b) ∧ W.cell? ⟨w9.heap.size, 0, none⟩ = some (.slice P5 p.1.length d5) ∧ W.cell? ⟨w9.heap.size, 1, none⟩ = some (.slice P5b p.2.length d5b)) from fun W hW => ⟨hW, (bx0_12.below hW bx0_12_l).cell 0, (bx0_12.below hW bx0_12_l).cell 1, (bxx0_12.below hW bxx0_12_l).cell 0, (bxx0_12.below hW bxx0_12_l).cell 1⟩)
  have RX_w13 := Lib.hid (show RdProg w13 w13.heap.size (.agg #[.slice P5 p.1.length d5, .slice P5b p.2.length d5b]) p from x0_12.rd.more (by omega))
  go_cut [52] (fun s wx => s = .bool false ∧ Below w13.heap.size w13 wx)
  case first =>
    go_region_held3 (fun W => Below w13.heap.size w13 W ∧ W.cell? ⟨w.heap.size, 0, none⟩ = some (.slice A0 p.1.length c0) ∧ W.cell? ⟨w.heap.size, 1, none⟩ = some (.slice A0b p.2.length c0b) ∧ W.cell? ⟨w9.heap.size, 0, none⟩ = some (.slice P5 p.1.length d5) ∧ W.cell? ⟨w9.heap.size, 1, none⟩ = some (.slice P5b p.2.length d5b))
      (first | exact HS_w13.out _ (Below.refl _ _) | exact HS_w13.out _ (Below.refl _ _).drew | exact HS_w13.out _ (bthen (And.left (by assumption)) (by assumption)))
      (first
        | (go_at_call 8; refine (toProgram_own _ p _ ?_ (by omega)).mono ?_; exact H0.out.on (bthen B_w13 (And.left (by assumption))); rintro e wf ⟨Af, cf, Ag, cg, rfl, hof, hbf⟩)
        | (go_at_call 11; refine (eqProgram_any _ _ p p _ ?_ ?_ (by omega) (by omega)).mono ?_; exact (RX_w13.out.on (And.left (by assumption))); exact hof.rd; rw [show decide (p = p) = true by simp]; rintro e wg ⟨rfl, hbg⟩))
    all_goals (go_wp2_with fail; go_meet; exact ⟨rfl, And.left (by assumption)⟩)
  case rest =>
    obtain ⟨rfl, hb9⟩ := hcut
    clear HS_w13 RX_w13
    generalize wc = w14 at *
    have s_w14 := hb9.size
    have bx0_13 := bx0_12.below hb9 (by first | exact bx0_12.lt | omega)
    clear bx0_12
    have bx0_13_l := bx0_13.lt
    have x0_13 := x0_12.below hb9 (by omega)
    clear x0_12
    have bxx0_13 := bxx0_12.below hb9 (by first | exact bxx0_12.lt | omega)
    clear bxx0_12
    have bxx0_13_l := bxx0_13.lt
    have x1_13 := x1_12.below hb9 (by omega)
    clear x1_12
    have x2_13 := x2_12.below hb9 (by omega)
    clear x2_12
    have B_w14 := bthen B_w13 hb9
    have q29 : w14.cell? ⟨w.heap.size, 0, none⟩ = some (.slice A0 p.1.length c0) := bx0_13.cell 0
    have q30 : w14.cell? ⟨w.heap.size, 1, none⟩ = some (.slice A0b p.2.length c0b) := bx0_13.cell 1
    have q31 : w14.cell? ⟨w9.heap.size, 0, none⟩ = some (.slice P5 p.1.length d5) := bxx0_13.cell 0
    have q32 : w14.cell? ⟨w9.heap.size, 1, none⟩ = some (.slice P5b p.2.length d5b) := bxx0_13.cell 1
    go_wp2_with (fail)
    clear q29 q30 q31 q32
    refine (toFactS_any _ db _ (H1.out.on B_w14) (by unfold szF at *; omega) (by unfold szF at *; omega)).mono ?_
    rintro e w15 ⟨P10, d10, rfl, o10, hb10⟩
    have s_w15 := hb10.size
    have bx0_14 := bx0_13.below hb10 (by first | exact bx0_13.lt | omega)
    clear bx0_13
    have bx0_14_l := bx0_14.lt
    have x0_14 := x0_13.below hb10 (by omega)
    clear x0_13
    have bxx0_14 := bxx0_13.below hb10 (by first | exact bxx0_13.lt | omega)
    clear bxx0_13
    have bxx0_14_l := bxx0_14.lt
    have x1_14 := x1_13.below hb10 (by omega)
    clear x1_13
    have x2_14 := x2_13.below hb10 (by omega)
    clear x2_13
    have B_w15 := bthen B_w14 hb10
    have q33 : w15.cell? ⟨w.heap.size, 0, none⟩ = some (.slice A0 p.1.length c0) := bx0_14.cell 0
    have q34 : w15.cell? ⟨w.heap.size, 1, none⟩ = some (.slice A0b p.2.length c0b) := bx0_14.cell 1
    have q35 : w15.cell? ⟨w9.heap.size, 0, none⟩ = some (.slice P5 p.1.length d5) := bxx0_14.cell 0
    have q36 : w15.cell? ⟨w9.heap.size, 1, none⟩ = some (.slice P5b p.2.length d5b) := bxx0_14.cell 1
    go_wp2_with (fail)
    clear q33 q34 q35 q36
    refine (eqFactS_any _ _ db db _ (x1_14.rd.more (by omega)) (o10.rd.more (by omega)) (by unfold szF at *; omega) (by unfold szF at *; omega) (by unfold szF at *; omega) (by unfold szF at *; omega)).mono ?_
    rintro e w16 ⟨rfl, hb11⟩
    rw [show decide (db = db) = true by simp]
    have s_w16 := hb11.size
    have bx0_15 := bx0_14.below hb11 (by first | exact bx0_14.lt | omega)
    clear bx0_14
    have bx0_15_l := bx0_15.lt
    have x0_15 := x0_14.below hb11 (by omega)
    clear x0_14
    have bxx0_15 := bxx0_14.below hb11 (by first | exact bxx0_14.lt | omega)
    clear bxx0_14
    have bxx0_15_l := bxx0_15.lt
    have x1_15 := x1_14.below hb11 (by omega)
    clear x1_14
    have x2_15 := x2_14.below hb11 (by omega)
    clear x2_14
    have B_w16 := bthen B_w15 hb11
    have q37 : w16.cell? ⟨w.heap.size, 0, none⟩ = some (.slice A0 p.1.length c0) := bx0_15.cell 0
    have q38 : w16.cell? ⟨w.heap.size, 1, none⟩ = some (.slice A0b p.2.length c0b) := bx0_15.cell 1
    have q39 : w16.cell? ⟨w9.heap.size, 0, none⟩ = some (.slice P5 p.1.length d5) := bxx0_15.cell 0
    have q40 : w16.cell? ⟨w9.heap.size, 1, none⟩ = some (.slice P5b p.2.length d5b) := bxx0_15.cell 1
    go_wp2_with (fail)
    clear q37 q38 q39 q40
    refine (toFactS_any _ fs _ (H2.out.on B_w16) (by unfold szF at *; omega) (by unfold szF at *; omega)).mono ?_
    rintro e w17 ⟨P12, d12, rfl, o12, hb12⟩
    have s_w17 := hb12.size
    have bx0_16 := bx0_15.below hb12 (by first | exact bx0_15.lt | omega)
    clear bx0_15
    have bx0_16_l := bx0_16.lt
    have x0_16 := x0_15.below hb12 (by omega)
    clear x0_15
    have bxx0_16 := bxx0_15.below hb12 (by first | exact bxx0_15.lt | omega)
    clear bxx0_15
    have bxx0_16_l := bxx0_16.lt
    have x1_16 := x1_15.below hb12 (by omega)
    clear x1_15
    have x2_16 := x2_15.below hb12 (by omega)
    clear x2_15
    have B_w17 := bthen B_w16 hb12
    have q41 : w17.cell? ⟨w.heap.size, 0, none⟩ = some (.slice A0 p.1.length c0) := bx0_16.cell 0
    have q42 : w17.cell? ⟨w.heap.size, 1, none⟩ = some (.slice A0b p.2.length c0b) := bx0_16.cell 1
    have q43 : w17.cell? ⟨w9.heap.size, 0, none⟩ = some (.slice P5 p.1.length d5) := bxx0_16.cell 0
    have q44 : w17.cell? ⟨w9.heap.size, 1, none⟩ = some (.slice P5b p.2.length d5b) := bxx0_16.cell 1
    go_wp2_with (fail)
    clear q41 q42 q43 q44
    refine (eqFactS_any _ _ fs fs _ (x2_16.rd.more (by omega)) (o12.rd.more (by omega)) (by unfold szF at *; omega) (by unfold szF at *; omega) (by unfold szF at *; omega) (by unfold szF at *; omega)).mono ?_
    rintro e w18 ⟨rfl, hb13⟩
    rw [show decide (fs = fs) = true by simp]
    have s_w18 := hb13.size
    have bx0_17 := bx0_16.below hb13 (by first | exact bx0_16.lt | omega)
    clear bx0_16
    have bx0_17_l := bx0_17.lt
    have x0_17 := x0_16.below hb13 (by omega)
    clear x0_16
    have bxx0_17 := bxx0_16.below hb13 (by first | exact bxx0_16.lt | omega)
    clear bxx0_16
    have bxx0_17_l := bxx0_17.lt
    have x1_17 := x1_16.below hb13 (by omega)
    clear x1_16
    have x2_17 := x2_16.below hb13 (by omega)
    clear x2_16
    have B_w18 := bthen B_w17 hb13
    have q45 : w18.cell? ⟨w.heap.size, 0, none⟩ = some (.slice A0 p.1.length c0) := bx0_17.cell 0
    have q46 : w18.cell? ⟨w.heap.size, 1, none⟩ = some (.slice A0b p.2.length c0b) := bx0_17.cell 1
    have q47 : w18.cell? ⟨w9.heap.size, 0, none⟩ = some (.slice P5 p.1.length d5) := bxx0_17.cell 0
    have q48 : w18.cell? ⟨w9.heap.size, 1, none⟩ = some (.slice P5b p.2.length d5b) := bxx0_17.cell 1
    go_wp2_with (fail)
    clear q45 q46 q47 q48
    go_ret
    exact ⟨rfl, B_w18⟩

theorem lawSupported_in (v0 : Value) (v1 : Value) (v2 : Value) (p : LProg) (db : List LFact) (fs : List LFact) (w : World) (h0 : InProg w v0 p) (h1 : InFacts w v1 db) (h2 : InFacts w v2 fs) : Calls Tryz.prog 4 #[v0, v1, v2] w fun e w' => e = .returned (.bool true) ∧ Below w.heap.size w w' :=
  lawSupported_any v0 v1 v2 p db fs w h0.1 h1.1 h2.1 (progLens_in h0.2) h1.2.1 h1.2.2 h2.2.1 h2.2.2

end Go.Proofs.YtcceololijefiaaGreat
namespace Go.Proofs.YtcceololijefiaaGreat
open Go.ChangeShapes Go.WideShapes Go.ChangeAt Go.RowKit

set_option maxRecDepth 100000 in
theorem fnExactSupported_lifted (os : Os) (started : os.Started) (H : Type) (enc : TypeId × Value → H) :
    ReturnsInHanded {} Tryz.checked os 4 .any (Rows.fnExactSupportedSpec.pre6 enc Tryz.prog Tryz.f4 Rows.fnExactSupportedRow.domain false) (Rows.fnExactSupportedSpec.post enc Tryz.prog Tryz.f4 false true false false) := by
  refine returnsInHanded_of_change (C := Tryz.checked) Tryz.own started (by kernel_rfl) Tryz.func4
    (ChangeSpec.witness6 (enc := enc) (C := Tryz.checked) false ⟨#[], #[.agg #[.slice none 0 0, .slice none 0 0], .slice none 0 0, .slice none 0 0], []⟩ 8 (by kernel_rfl) (by kernel_rfl) (by kernel_rfl) (by kernel_rfl)) ?_
  intro W base args ds gs before hval0 hW hcnd _
  have hval : ∀ (j : Nat) t v, Tryz.f4.params[j]? = some t → args[j]? = some v → Value.okWide Tryz.prog W .any base t v := hval0
  have hW' := hW
  obtain ⟨p, q, hA0, hV, rfl, hfz, hnd⟩ := hW
  have hA : DataW.TrodAll enc Tryz.prog W 0 (fun _ => true) true Tryz.f4.params.toList args.toList ds p := hA0
  rw [Tryz.params4] at hA hval
  obtain ⟨v0, vs0, d0, ds0, p0, q0, hargs, rfl, rfl, h0, r0⟩ := trodAll_cons hA
  obtain ⟨v1, vs1, d1, ds1, p1, q1, rfl, rfl, rfl, h1, r1⟩ := trodAll_cons r0
  obtain ⟨v2, vs2, d2, ds2, p2, q2, rfl, rfl, rfl, h2, r2⟩ := trodAll_cons r1
  obtain ⟨rfl, rfl, rfl⟩ := trodAll_nil r2
  obtain rfl : args = #[v0, v1, v2] := by cases args; simp_all
  obtain ⟨rfl, rfl⟩ := trodVars_none hV
  have lt0 : ∀ x ∈ p0, x.block < W.heap.size := by obtain ⟨m, hm⟩ := h0; exact DataW.trod_lt m _ _ _ hm
  obtain ⟨x0, w0⟩ := open_inProg (hval 0 25 v0 rfl rfl) h0
  have lt1 : ∀ x ∈ p1, x.block < W.heap.size := by obtain ⟨m, hm⟩ := h1; exact DataW.trod_lt m _ _ _ hm
  obtain ⟨x1, w1⟩ := open_inFacts (hval 1 26 v1 rfl rfl) h1
  have lt2 : ∀ x ∈ p2, x.block < W.heap.size := by obtain ⟨m, hm⟩ := h2; exact DataW.trod_lt m _ _ _ hm
  obtain ⟨x2, w2⟩ := open_inFacts (hval 2 26 v2 rfl rfl) h2
  clear hA0 hval0
  refine (lawSupported_in v0 v1 v2 x0 x1 x2 W w0 w1 w2).mono fun e W' ⟨he, bel⟩ => ?_
  subst he
  exact ⟨_, rfl, _, _, _, [], _, [], hW', trodAll_mk1 (shut_bool Tryz.underlying4 _), (trodAll_cons_mk (Below.trod Tryz.laidOut (by kernel_rfl) (of_decide_eq_true (by kernel_rfl)) h0 bel lt0) (trodAll_cons_mk (Below.trod Tryz.laidOut (by kernel_rfl) (of_decide_eq_true (by kernel_rfl)) h1 bel lt1) (trodAll_cons_mk (Below.trod Tryz.laidOut (by kernel_rfl) (of_decide_eq_true (by kernel_rfl)) h2 bel lt2) trodAll_mk0))), rfl, bel.frame _, fun h => by cases h⟩

theorem fnExactSupported_holds : Rows.FnExactSupportedSaid :=
  OpenClaim.holds_of_wide 4 Tryz.f4 rfl rfl rfl rfl rfl rfl rfl ⟨rfl, rfl, rfl, rfl, rfl⟩ rfl rfl rfl rfl rfl (by kernel_rfl) Tryz.func4 (by kernel_rfl)
    (of_decide_eq_true (by kernel_rfl)) (by unfold Func.isWrapper; rw [if_neg (of_decide_eq_false (by kernel_rfl))]; exact ⟨rfl, rfl⟩)
    (fun os started H enc _ => fnExactSupported_lifted os started H enc)

end Go.Proofs.YtcceololijefiaaGreat
