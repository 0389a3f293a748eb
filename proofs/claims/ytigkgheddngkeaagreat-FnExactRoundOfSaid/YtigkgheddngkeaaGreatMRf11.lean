/-
  Texts that the claim's last one imports, laid together: part 11 of 12. No condition of its own.
-/
import Derived.Maps.AppendAt
import Derived.Deep.AppendLies
import Derived.Shelf.Spec.TrailingZeros
import Derived.Laws.Bits64b
import Derived.Sort.Grow
import Derived.Test.YtigkgheddngkeaaGreatChecked
import Derived.Deep.SlicePairs
import Derived.ProofKit
import Derived.OpenShut
import Derived.ChangeOld
import Derived.WalkKit
import Derived.Deep.Slices
import Derived.Deep.Fields
import Derived.ChangeSame
import Derived.Lib.SmallJoins
import Derived.KernelRfl
import Derived.Test.YtigkgheddngkeaaGreatMRf1
import Derived.Test.YtigkgheddngkeaaGreatMRf2
import Derived.Test.YtigkgheddngkeaaGreatMRf5
import Derived.Test.YtigkgheddngkeaaGreatMRf7
import Derived.Test.YtigkgheddngkeaaGreatMRf8
import Derived.Test.YtigkgheddngkeaaGreatMRf9
import Derived.Test.YtigkgheddngkeaaGreatMRf10
/-
  growthFrom: the facts that are given, as those of one round.
-/
namespace Go.Proofs.YtigkgheddngkeaaGreat
open Go.RowKit

def nilV : Value := .slice none 0 0
def grZ : List Value := [nilV, nilV] ++ List.replicate 24 (wdN 0) ++ (List.range 24).flatMap fun _ => [nilV, inN 0, inN 0]
theorem Tryz.grZero : Tryz.zeroCells83 = grZ.toArray := by kernel_rfl
theorem grZ_tab : ∀ p, p < 24 → grZ[2 + p]? = some (wdN (zeroT.getD p 0))
  | 0, _ => rfl
  | 1, _ => rfl
  | 2, _ => rfl
  | 3, _ => rfl
  | 4, _ => rfl
  | 5, _ => rfl
  | 6, _ => rfl
  | 7, _ => rfl
  | 8, _ => rfl
  | 9, _ => rfl
  | 10, _ => rfl
  | 11, _ => rfl
  | 12, _ => rfl
  | 13, _ => rfl
  | 14, _ => rfl
  | 15, _ => rfl
  | 16, _ => rfl
  | 17, _ => rfl
  | 18, _ => rfl
  | 19, _ => rfl
  | 20, _ => rfl
  | 21, _ => rfl
  | 22, _ => rfl
  | 23, _ => rfl
  | _ + 24, h => absurd h (by omega)
theorem grZ_pred : ∀ p, p < 24 → grZ[26 + p * 3]? = some nilV
  | 0, _ => rfl
  | 1, _ => rfl
  | 2, _ => rfl
  | 3, _ => rfl
  | 4, _ => rfl
  | 5, _ => rfl
  | 6, _ => rfl
  | 7, _ => rfl
  | 8, _ => rfl
  | 9, _ => rfl
  | 10, _ => rfl
  | 11, _ => rfl
  | 12, _ => rfl
  | 13, _ => rfl
  | 14, _ => rfl
  | 15, _ => rfl
  | 16, _ => rfl
  | 17, _ => rfl
  | 18, _ => rfl
  | 19, _ => rfl
  | 20, _ => rfl
  | 21, _ => rfl
  | 22, _ => rfl
  | 23, _ => rfl
  | _ + 24, h => absurd h (by omega)
theorem grZ_old : ∀ p, p < 24 → grZ[26 + p * 3 + 1]? = some (inN 0)
  | 0, _ => rfl
  | 1, _ => rfl
  | 2, _ => rfl
  | 3, _ => rfl
  | 4, _ => rfl
  | 5, _ => rfl
  | 6, _ => rfl
  | 7, _ => rfl
  | 8, _ => rfl
  | 9, _ => rfl
  | 10, _ => rfl
  | 11, _ => rfl
  | 12, _ => rfl
  | 13, _ => rfl
  | 14, _ => rfl
  | 15, _ => rfl
  | 16, _ => rfl
  | 17, _ => rfl
  | 18, _ => rfl
  | 19, _ => rfl
  | 20, _ => rfl
  | 21, _ => rfl
  | 22, _ => rfl
  | 23, _ => rfl
  | _ + 24, h => absurd h (by omega)
theorem grZ_lat : ∀ p, p < 24 → grZ[26 + p * 3 + 2]? = some (inN 0)
  | 0, _ => rfl
  | 1, _ => rfl
  | 2, _ => rfl
  | 3, _ => rfl
  | 4, _ => rfl
  | 5, _ => rfl
  | 6, _ => rfl
  | 7, _ => rfl
  | 8, _ => rfl
  | 9, _ => rfl
  | 10, _ => rfl
  | 11, _ => rfl
  | 12, _ => rfl
  | 13, _ => rfl
  | 14, _ => rfl
  | 15, _ => rfl
  | 16, _ => rfl
  | 17, _ => rfl
  | 18, _ => rfl
  | 19, _ => rfl
  | 20, _ => rfl
  | 21, _ => rfl
  | 22, _ => rfl
  | 23, _ => rfl
  | _ + 24, h => absurd h (by omega)
theorem grZ_cells : GrCells grZ.toArray (fun _ => nilV) zeroT (fun _ => 0) (fun _ => 0) where
  size := rfl
  list := rfl
  ends := rfl
  tab p hp := by rw [List.getElem?_toArray]; exact grZ_tab p hp
  pred p hp := by rw [List.getElem?_toArray]; exact grZ_pred p hp
  old p hp := by rw [List.getElem?_toArray]; exact grZ_old p hp
  lat p hp := by rw [List.getElem?_toArray]; exact grZ_lat p hp
theorem cntX_nil (n : Nat) : cntX [] n = fun _ => 0 := by
  funext p
  simp [cntX, factsX, ofP]
theorem ofX_nil : ofX [] = fun _ => [] := by
  funext p
  simp [ofX]
theorem GrAt.zero (w : World) : GrAt (w.alloc (Obj.cells Tryz.zeroCells83 83)) w.heap.size [] [] 0 0 (fun _ => nilV) := by
  refine ⟨?_, Nat.le_refl _, Nat.le_refl _⟩
  rw [cntX_nil, ofX_nil]
  refine ⟨⟨_, Blk.new _ _ _, by rw [Tryz.grZero]; exact grZ_cells⟩, by simp [tabWith, factsX, zeroT], by rw [show tabWith zeroT (factsX []) = zeroT from rfl]; exact zeroT_lt, World.ownsRow_nil _ _ _ _, World.ownsRow_nil _ _ _ _, fun _ _ => World.ownsRow_nil _ _ _ _, (fun _ _ _ _ _ b hb => by cases hb), (fun x hx => by cases hx), (fun _ _ x hx => by cases hx)⟩

set_option maxHeartbeats 4000000 in
set_option maxRecDepth 100000 in
theorem growthFrom_any (ar : List Int) (har : arityOk ar = true) (v : Value) (fs : List LFact) (w : World) (hr : RdFacts w w.heap.size v fs) (hf : ∀ f ∈ fs, factFits ar f = true) (hn : fs.length ≤ 1048576) :
    Calls Tryz.prog 32 #[v] w fun e' w' =>
      ∃ X R, e' = .returned (.pointer (some ⟨w.heap.size, 0, none⟩)) ∧ GrAt w' w.heap.size X [X.length] 0 X.length R ∧ Below w.heap.size w w' ∧ FitL ar (factsX X) ∧ ∀ f, f ∈ factsX X ↔ f ∈ fs := by
  obtain ⟨g, hg⟩ : ∃ g, g = w.heap.size := ⟨_, rfl⟩
  obtain ⟨w1, hw1⟩ : ∃ w1, w1 = w.alloc (Obj.cells Tryz.zeroCells83 83) := ⟨_, rfl⟩
  have HAR := Lib.hid har
  have HF := Lib.hid hf
  have HX0 := Lib.hid (show FitL ar (factsX []) from ⟨List.nodup_nil, fun f hf => by cases hf⟩)
  have B1 := Lib.hid (show Below g w w1 by rw [hw1, hg]; exact below1 _ _)
  have H1 := Lib.hid (show GrAt w1 g [] [] 0 0 (fun _ => nilV) by rw [hw1, hg]; exact GrAt.zero w)
  have CB := Lib.hid (bring_any g ar har [] [] 0 0 (fun _ => nilV) v fs w1 H1.out HX0.out (by
    have h1 := hr.below (show Below w.heap.size w w1 by rw [hw1]; exact below1 _ _) (Nat.le_refl _)
    rw [hg]; exact h1) hf hn)
  have HW1 := Lib.hid hw1
  rw [← hg]
  clear hr hf har hw1
  go_enter Tryz.func32, Tryz.ntmps32
  go_upto_region 2 with fail
  rw [← HW1.out]
  rw [show (w.heap.size : Nat) = g from hg.symm]
  have HG := Lib.hid hg
  clear hg
  go_wp2_with (first
    | (go_at_call 52; refine CB.out.mono ?_; rintro e2 w2 ⟨rfl, X, R, h2, k2, br2⟩
       have H2 := Lib.hid (And.intro h2 (And.intro k2 br2))
       have HFX := Lib.hid (br2.fit HX0.out HF.out)
       have hfew := h2.few HAR.out HFX.out
       have CE := Lib.hid (endRound_any g X [] 0 0 R w2 h2 (by omega) (by simp))
       clear h2 k2 br2)
    | (go_at_call 53; refine CE.out.mono ?_; rintro e3 w3 ⟨rfl, R3, h3, k3⟩
       have H3 := Lib.hid (And.intro h3 k3)
       clear h3 k3))
  go_ret
  exact ⟨X, R3, rfl, H3.out.1, B1.out.trans (H2.out.2.1.below.trans H3.out.2.below), HFX.out, fun f => by rw [H2.out.2.2.2.2 f]; simp [factsX]⟩

end Go.Proofs.YtigkgheddngkeaaGreat
/-
  Marks on integers (the words and the walks lie in MarkInts).
-/
namespace Go.Proofs.YtigkgheddngkeaaGreat
open Go.RowKit

end Go.Proofs.YtigkgheddngkeaaGreat
/-
  Marks on what is not read again: a store of a number over a number keeps the shape of all that lies there. The words, and the walks of markIntS, markAtom, markLitS, markRule, markRuleS, markProgram.
-/
namespace Go.Proofs.YtigkgheddngkeaaGreat
open Go.RowKit

/-- Blocks outside [lo, hi) are as they were; within, numbers may have become others. -/
structure Marked (lo hi : Nat) (w w' : World) : Prop where
  only : Only lo hi w w'
  cell : ∀ p : Addr, p.block < w.heap.size → w'.cell? p = w.cell? p ∨ ∃ x y, w.cell? p = some (.int .i64 x) ∧ w'.cell? p = some (.int .i64 y)
  frozen : ∀ p : Addr, p.block < w.heap.size → w'.frozen? p = w.frozen? p

section
variable {lo hi : Nat} {w w1 w' : World}
theorem Marked.refl (lo hi : Nat) (w : World) : Marked lo hi w w := ⟨Only.refl _ _ _, fun _ _ => .inl rfl, fun _ _ => rfl⟩
theorem Marked.trans (h : Marked lo hi w w1) (k : Marked lo hi w1 w') : Marked lo hi w w' := by
  refine ⟨h.only.trans k.only, fun p hp => ?_, fun p hp => (k.frozen p (Nat.lt_of_lt_of_le hp h.only.size)).trans (h.frozen p hp)⟩
  rcases h.cell p hp with e | ⟨x, y, e1, e2⟩
  · rcases k.cell p (Nat.lt_of_lt_of_le hp h.only.size) with e' | ⟨x', y', e1', e2'⟩
    · exact .inl (e'.trans e)
    · exact .inr ⟨x', y', e ▸ e1', e2'⟩
  · rcases k.cell p (Nat.lt_of_lt_of_le hp h.only.size) with e' | ⟨x', y', e1', e2'⟩
    · exact .inr ⟨x, y, e1, e'.trans e2⟩
    · exact .inr ⟨x, y', e1, e2'⟩
theorem Marked.of_below (h : Below w.heap.size w w') : Marked lo hi w w' := ⟨Only.of_below h, fun _ hp => .inl (h.cell hp), fun _ hp => h.frozen hp⟩
theorem Marked.store {p : Addr} {x : Int} (hp : lo ≤ p.block ∧ p.block < hi) (hc : w.cell? p = some (.int .i64 x)) (y : Int) : Marked lo hi w (w.setCell p (.int .i64 y)) := by
  refine ⟨(Only.refl _ _ _).setCell hp _, fun q _ => ?_, fun q _ => ?_⟩
  · by_cases e : q = p
    · subst e
      exact .inr ⟨x, y, hc, World.cell?_setCell_same _ _ _ hc⟩
    · exact .inl (World.cell?_setCell_other _ _ _ _ (fun e' => e e'.symm))
  · unfold World.frozen? World.setCell
    rw [Array.getElem?_modify]
    by_cases e : p.block = q.block
    · rw [if_pos e]
      cases hq : w.heap[q.block]? with
      | none => rfl
      | some o => cases o <;> rfl
    · rw [if_neg e]

/-- A slice of n numbers, of blocks from lo on and below hi, that may be written. -/
def WrInts (w : World) (lo hi : Nat) (v : Value) (n : Nat) : Prop :=
  ∃ A c, v = .slice A n c ∧ (0 < n → ∃ b o, A = some ⟨b, o, none⟩ ∧ lo ≤ b ∧ b < hi ∧ ∀ k, k < n → w.frozen? ⟨b, o + k, none⟩ = false ∧ ∃ x, w.cell? ⟨b, o + k, none⟩ = some (.int .i64 x))
theorem Marked.int (h : Marked lo hi w w') {p : Addr} {x : Int} (hc : w.cell? p = some (.int .i64 x)) : ∃ y, w'.cell? p = some (.int .i64 y) := by
  rcases h.cell p (World.block_lt_of_cell? _ _ hc) with e | ⟨_, y, _, e⟩
  · exact ⟨x, e.trans hc⟩
  · exact ⟨y, e⟩
theorem Marked.slice (h : Marked lo hi w w') {p : Addr} {A : Option Addr} {n c : Nat} (hc : w.cell? p = some (.slice A n c)) : w'.cell? p = some (.slice A n c) := by
  rcases h.cell p (World.block_lt_of_cell? _ _ hc) with e | ⟨x, y, e, _⟩
  · exact e.trans hc
  · rw [hc] at e
    cases e
theorem WrInts.marked {v : Value} {n : Nat} (h : WrInts w lo hi v n) (hm : Marked lo hi w w') : WrInts w' lo hi v n := by
  obtain ⟨A, c, rfl, h⟩ := h
  refine ⟨A, c, rfl, fun hn => ?_⟩
  obtain ⟨b, o, rfl, h1, h2, hx⟩ := h hn
  refine ⟨b, o, rfl, h1, h2, fun k hk => ?_⟩
  obtain ⟨hf, x, hc⟩ := hx k hk
  exact ⟨(hm.frozen _ (World.block_lt_of_cell? _ _ hc)).trans hf, hm.int hc⟩
theorem OwnInts.wr {v : Value} {xs : List Int} (h : OwnInts w lo hi v xs) : WrInts w lo hi v xs.length := by
  have hrd := h.rd
  obtain ⟨⟨hlen, h⟩, hlt⟩ := h
  rcases h with ⟨rfl, h0⟩ | ⟨g, cap, cur, rfl, hbg, hg, hn, hm, hs, ht⟩
  · exact ⟨none, 0, by rw [h0], fun hn => absurd hn (by omega)⟩
  · refine ⟨_, cap, rfl, fun hn0 => ⟨g, 0, rfl, hbg, hlt g rfl, fun k hk => ⟨by simp [World.frozen?, hg], ?_⟩⟩⟩
    obtain ⟨A', c', e, _, hx⟩ := hrd
    injection e with e1 _ _
    obtain ⟨b, o, e2, _, hx⟩ := hx hn0
    rw [← e1] at e2
    injection e2 with e2
    injection e2 with e2 e3 _
    subst e2
    subst e3
    exact ⟨_, hx k hk⟩

def WLit (w : World) (lo hi : Nat) (u0 u1 u2 : Value) (l : LLit) : Prop := (∃ x, u0 = .int .i64 x) ∧ (∃ y, u1 = .int .i64 y) ∧ WrInts w lo hi u2 l.2.2.length
def WrLits (w : World) (lo hi : Nat) (v : Value) (ls : List LLit) : Prop := OwnRow WLit w lo hi v ls
theorem OwnLits.wr {v : Value} {ls : List LLit} (h : OwnLits w lo hi v ls) : WrLits w lo hi v ls := by
  obtain ⟨A, c, rfl, hc, h⟩ := h
  refine ⟨A, c, rfl, hc, fun hn => ?_⟩
  obtain ⟨b, o, rfl, h1, h2, hx⟩ := h hn
  refine ⟨b, o, rfl, h1, h2, fun k hk => ?_⟩
  obtain ⟨hf, u0, u1, u2, c0, c1, c2, rfl, rfl, hI⟩ := hx k hk
  exact ⟨hf, _, _, _, c0, c1, c2, ⟨_, rfl⟩, ⟨_, rfl⟩, hI.wr⟩
theorem WrLits.marked {v : Value} {ls : List LLit} (h : WrLits w lo hi v ls) (hm : Marked lo hi w w') : WrLits w' lo hi v ls := by
  obtain ⟨A, c, rfl, hc, h⟩ := h
  refine ⟨A, c, rfl, hc, fun hn => ?_⟩
  obtain ⟨b, o, rfl, h1, h2, hx⟩ := h hn
  refine ⟨b, o, rfl, h1, h2, fun k hk => ?_⟩
  obtain ⟨⟨f0, f1⟩, u0, u1, u2, c0, c1, c2, ⟨x, rfl⟩, ⟨y, rfl⟩, hI⟩ := hx k hk
  obtain ⟨x', d0⟩ := hm.int c0
  obtain ⟨y', d1⟩ := hm.int c1
  obtain ⟨A2, c2', rfl, hi⟩ := hI
  exact ⟨⟨(hm.frozen _ (World.block_lt_of_cell? _ _ c0)).trans f0, (hm.frozen _ (World.block_lt_of_cell? _ _ c1)).trans f1⟩, _, _, _, d0, d1, hm.slice c2, ⟨_, rfl⟩, ⟨_, rfl⟩, WrInts.marked ⟨A2, c2', rfl, hi⟩ hm⟩

def WRule (w : World) (lo hi : Nat) (u0 u1 u2 : Value) (r : LRule) : Prop := (∃ x, u0 = .int .i64 x) ∧ WrInts w lo hi u1 r.1.2.length ∧ WrLits w lo hi u2 r.2
def WrRules (w : World) (lo hi : Nat) (v : Value) (rs : List LRule) : Prop := OwnRow WRule w lo hi v rs
theorem OwnRules.wr {v : Value} {rs : List LRule} (h : OwnRules w lo hi v rs) : WrRules w lo hi v rs := by
  obtain ⟨A, c, rfl, hc, h⟩ := h
  refine ⟨A, c, rfl, hc, fun hn => ?_⟩
  obtain ⟨b, o, rfl, h1, h2, hx⟩ := h hn
  refine ⟨b, o, rfl, h1, h2, fun k hk => ?_⟩
  obtain ⟨hf, u0, u1, u2, c0, c1, c2, rfl, hI, hL⟩ := hx k hk
  exact ⟨hf, _, _, _, c0, c1, c2, ⟨_, rfl⟩, hI.wr, hL.wr⟩
theorem WrRules.marked {v : Value} {rs : List LRule} (h : WrRules w lo hi v rs) (hm : Marked lo hi w w') : WrRules w' lo hi v rs := by
  obtain ⟨A, c, rfl, hc, h⟩ := h
  refine ⟨A, c, rfl, hc, fun hn => ?_⟩
  obtain ⟨b, o, rfl, h1, h2, hx⟩ := h hn
  refine ⟨b, o, rfl, h1, h2, fun k hk => ?_⟩
  obtain ⟨⟨f0, f1⟩, u0, u1, u2, c0, c1, c2, ⟨x, rfl⟩, hI, hL⟩ := hx k hk
  obtain ⟨x', d0⟩ := hm.int c0
  have f1' := (hm.frozen _ (World.block_lt_of_cell? _ _ c1)).trans f1
  obtain ⟨A1, n1, rfl, hi1⟩ := hI
  obtain ⟨A2, n2, rfl, hc2, hi2⟩ := hL
  exact ⟨⟨(hm.frozen _ (World.block_lt_of_cell? _ _ c0)).trans f0, f1'⟩, _, _, _, d0, hm.slice c1, hm.slice c2, ⟨_, rfl⟩, WrInts.marked ⟨A1, n1, rfl, hi1⟩ hm, WrLits.marked ⟨A2, n2, rfl, hc2, hi2⟩ hm⟩
end

/-- How far the marks of literals, of a rule, of rules go. -/
def endL (k : Int) (ls : List LLit) : Int := k + 2 * (ls.length : Int) + (totL ls : Int)

def endR (k : Int) (r : LRule) : Int := endL (k + (r.1.2.length : Int)) r.2

end Go.Proofs.YtigkgheddngkeaaGreat
/-
  The loop that collects integers; the walk of the specification's RulesOf.
-/
namespace Go.Proofs.YtigkgheddngkeaaGreat
open Go.RowKit

/-- The indexes of rules, of the first k, whose head has a predicate. -/
def rulesTo (rs : List LRule) (pred : Int) (k : Nat) : List Int := ((List.range k).filter fun i => (rs.getD i ((0, []), [])).1.1 == pred).map fun i : Nat => (i : Int)
def rulesOf (p : LProg) (pred : Int) : List Int := rulesTo p.2 pred p.2.length
theorem rulesTo_yes {rs : List LRule} {pred : Int} {k : Nat} (h : k < rs.length) (e : rs[k].1.1 = pred) : rulesTo rs pred (k + 1) = rulesTo rs pred k ++ [(k : Int)] := by
  unfold rulesTo
  rw [List.range_succ, List.filter_append, List.map_append]
  congr 1
  simp [h, e]
theorem rulesTo_no {rs : List LRule} {pred : Int} {k : Nat} (h : k < rs.length) (e : rs[k].1.1 ≠ pred) : rulesTo rs pred (k + 1) = rulesTo rs pred k := by
  unfold rulesTo
  rw [List.range_succ, List.filter_append, List.map_append]
  simp [h, e]
theorem rulesTo_length (rs : List LRule) (pred : Int) (k : Nat) : (rulesTo rs pred k).length ≤ k := by
  unfold rulesTo
  rw [List.length_map]
  exact Nat.le_trans (List.length_filter_le _ _) (by simp)

end Go.Proofs.YtigkgheddngkeaaGreat
/-
  The numbers of the bits of a word: the words; the walks of TrailingZeros64, TrailingZeros, bitNumbers.
-/
namespace Go.Proofs.YtigkgheddngkeaaGreat
open Go.RowKit

/-- The numbers of the bits of x, ascending. -/
def bitsOf (x : Nat) : List Int := ((List.range 64).filter fun j => x.testBit j).map fun j : Nat => (j : Int)
theorem bitsOf_zero : bitsOf 0 = [] := by simp [bitsOf]
theorem bitsOf_length (x : Nat) : (bitsOf x).length ≤ 64 := by
  unfold bitsOf
  rw [List.length_map]
  exact Nat.le_trans (List.length_filter_le _ _) (by simp)

theorem testBit_odd {k m j : Nat} : (2 ^ k * (2 * m + 1)).testBit j = (decide (k ≤ j) && (2 * m + 1).testBit (j - k)) := by
  rw [Nat.mul_comm, Nat.testBit_mul_two_pow]
theorem testBit_even {k m j : Nat} : (2 ^ k * (2 * m)).testBit j = (decide (k ≤ j) && (2 * m).testBit (j - k)) := by
  rw [Nat.mul_comm, Nat.testBit_mul_two_pow]
theorem filter_step (k m : Nat) (hk : k < 64) : (List.range 64).filter (fun j => (2 ^ k * (2 * m + 1)).testBit j) = k :: (List.range 64).filter (fun j => (2 ^ k * (2 * m)).testBit j) := by
  obtain ⟨d, hd⟩ : ∃ d, 64 = k + (1 + d) := ⟨63 - k, by omega⟩
  rw [hd, List.range_add, List.filter_append, List.filter_append, List.range_add, List.map_append, List.filter_append, List.filter_append]
  have h1 : (List.range k).filter (fun j => (2 ^ k * (2 * m + 1)).testBit j) = [] := by
    rw [List.filter_eq_nil_iff]
    intro j hj
    have hj := List.mem_range.1 hj
    rw [testBit_odd]
    simp
    omega
  have h2 : (List.range k).filter (fun j => (2 ^ k * (2 * m)).testBit j) = [] := by
    rw [List.filter_eq_nil_iff]
    intro j hj
    have hj := List.mem_range.1 hj
    rw [testBit_even]
    simp
    omega
  have h3 : ((List.range 1).map (k + ·)).filter (fun j => (2 ^ k * (2 * m + 1)).testBit j) = [k] := by
    have : (2 ^ k * (2 * m + 1)).testBit k = true := by rw [testBit_odd]; simp [Nat.testBit_zero]
    simp [this]
  have h4 : ((List.range 1).map (k + ·)).filter (fun j => (2 ^ k * (2 * m)).testBit j) = [] := by
    have : (2 ^ k * (2 * m)).testBit k = false := by rw [testBit_even]; simp [Nat.testBit_zero]
    simp [this]
  rw [h1, h2, h3, h4, List.nil_append, List.nil_append, List.nil_append, List.singleton_append]
  congr 1
  apply List.filter_congr
  intro j hj
  simp only [List.mem_map, List.mem_range] at hj
  obtain ⟨a, ⟨b, hb, rfl⟩, rfl⟩ := hj
  rw [testBit_odd, testBit_even]
  have e : k + (1 + b) - k = b + 1 := by omega
  rw [e, Nat.testBit_succ, Nat.testBit_succ]
  congr 2
  omega
/-- The lowest bit, and the others. -/
theorem bitsOf_step {x : Nat} (h0 : x ≠ 0) (hx : x < 2 ^ 64) : bitsOf x = (Lib.ctz 64 x : Int) :: bitsOf (x &&& (x - 1)) ∧ x &&& (x - 1) < x := by
  obtain ⟨m, hm, hk⟩ := Lib.ctzFrom_spec 64 x (by omega) hx
  have hc : Lib.ctz 64 x = Lib.ctzFrom 64 x := by unfold Lib.ctz; rw [if_neg h0]
  rw [hc]
  generalize Lib.ctzFrom 64 x = k at hm hk
  have hp : 0 < 2 ^ k := Nat.two_pow_pos k
  have hand : x &&& (x - 1) = 2 ^ k * (2 * m) := by
    apply Nat.eq_of_testBit_eq
    intro j
    rw [Nat.testBit_and]
    have e1 : x - 1 = 2 ^ k * (2 * m) + (2 ^ k - 1) := by
      rw [hm, Nat.mul_add, Nat.mul_one]
      omega
    rw [e1, Nat.testBit_two_pow_mul_add _ (by omega), testBit_even, hm, testBit_odd]
    by_cases hj : j < k
    · have hkj : decide (k ≤ j) = false := by simp; omega
      rw [hkj]
      simp
    · rw [if_neg hj]
      have : k ≤ j := by omega
      simp only [this, decide_true, Bool.true_and]
      by_cases e : j = k
      · subst e
        simp [Nat.testBit_zero]
      · obtain ⟨i, rfl⟩ : ∃ i, j = k + (i + 1) := ⟨j - k - 1, by omega⟩
        have e3 : k + (i + 1) - k = i + 1 := by omega
        rw [e3, Nat.testBit_succ, Nat.testBit_succ]
        have d1 : (2 * m + 1) / 2 = m := by omega
        have d2 : 2 * m / 2 = m := by omega
        rw [d1, d2, Bool.and_self]
  refine ⟨?_, ?_⟩
  · rw [hand, hm]
    unfold bitsOf
    rw [filter_step k m hk]
    simp
  · rw [hand, hm, Nat.mul_add, Nat.mul_one]
    omega

end Go.Proofs.YtigkgheddngkeaaGreat
/-
  The walk of the program's constantDigits, and AllFacts' plain mathematics.
-/
namespace Go.Proofs.YtigkgheddngkeaaGreat
open Go.RowKit

/-- The digits of n in base six, so many places. -/
def digits (n p : Nat) : List Int := (List.range p).map fun j : Nat => ((n / 6 ^ (p - 1 - j) % 6 : Nat) : Int)
theorem digits_length (n p : Nat) : (digits n p).length = p := by simp [digits]
theorem div_pow (n k : Nat) : n / 6 ^ k / 6 = n / 6 ^ (k + 1) := by rw [Nat.div_div_eq_div_mul, Nat.pow_succ]
def digitCell (n p m j : Nat) : Value := if m ≤ j then .int .i64 ((n / 6 ^ (p - 1 - j) % 6 : Nat) : Int) else .int .i64 0

theorem pow6 : (6 : Nat) ^ 0 = 1 ∧ (6 : Nat) ^ 1 = 6 ∧ (6 : Nat) ^ 2 = 36 := by decide
/-- All facts of a predicate with so many places. -/
def allOk (p q : Int) : Bool := decide (0 ≤ p ∧ p ≤ 23) && decide (0 ≤ q ∧ q ≤ 2)
def allTo (p : Int) (q : Nat) (m : Nat) : List LFact := (List.range m).map fun i => (p, digits i q)
def allFacts (p q : Int) : List LFact := if allOk p q then allTo p q.toNat (6 ^ q.toNat) else []
theorem allTo_length (p : Int) (q m : Nat) : (allTo p q m).length = m := by simp [allTo]
theorem allTo_snoc (p : Int) (q m : Nat) : allTo p q (m + 1) = allTo p q m ++ [(p, digits m q)] := by simp [allTo, List.range_succ]
theorem allTo_tot (p : Int) (q : Nat) : ∀ m, tot (allTo p q m) = m * q
  | 0 => by simp [allTo, tot]
  | m + 1 => by rw [allTo_snoc, tot_append, allTo_tot p q m, tot_cons]; simp [tot, digits_length, Nat.add_mul]

end Go.Proofs.YtigkgheddngkeaaGreat
/-
  The facts of a table, ascending: plain mathematics.
-/
namespace Go.Proofs.YtigkgheddngkeaaGreat
open Go.RowKit

/-- The facts of a table's word; the facts of a table. -/
def wordFacts (p x q : Nat) : List LFact := (bitsOf x).map fun j => ((p : Int), digits j.toNat q)
def tabFacts (T : List Nat) (ar : List Int) : List LFact := (List.range ar.length).flatMap fun p => wordFacts p (T.getD p 0) (ar.getD p 0).toNat

theorem bitsOf_mem {x : Nat} {i : Int} : i ∈ bitsOf x ↔ ∃ j : Nat, j < 64 ∧ x.testBit j = true ∧ (j : Int) = i := by
  unfold bitsOf
  rw [List.mem_map]
  constructor
  · rintro ⟨j, hj, e⟩
    rw [List.mem_filter, List.mem_range] at hj
    exact ⟨j, hj.1, hj.2, e⟩
  · rintro ⟨j, h1, h2, e⟩
    exact ⟨j, List.mem_filter.2 ⟨List.mem_range.2 h1, h2⟩, e⟩
theorem bitsOf_up (x : Nat) : (bitsOf x).Pairwise (· < ·) := by
  unfold bitsOf
  rw [List.pairwise_map]
  exact (List.pairwise_lt_range.filter _).imp fun h => by omega
theorem digits_numF {xs : List Int} (hc : xs.all constOk = true) (hl : xs.length ≤ 2) : digits (numF xs) xs.length = xs := by
  rcases xs with _ | ⟨x, _ | ⟨y, _ | ⟨z, xs⟩⟩⟩
  · rfl
  · simp only [List.all_cons, List.all_nil, Bool.and_true] at hc
    have := const_range hc
    simp [digits, numF, List.range_succ]
    omega
  · simp only [List.all_cons, List.all_nil, Bool.and_true, Bool.and_eq_true] at hc
    have := const_range hc.1
    have := const_range hc.2
    simp [digits, numF, List.range_succ]
    omega
  · simp at hl
theorem digits_up1 : ∀ i j : Fin 6, i < j → cmpL (digits i 1) (digits j 1) < 0 := by decide +kernel
theorem digits_up2 : ∀ i j : Fin 36, i < j → cmpL (digits i 2) (digits j 2) < 0 := by decide +kernel
theorem digits_up {i j q : Nat} (hq : q ≤ 2) (hj : j < 6 ^ q) (h : i < j) : cmpL (digits i q) (digits j q) < 0 := by
  match q, hq with
  | 0, _ => simp at hj; omega
  | 1, _ => exact digits_up1 ⟨i, by omega⟩ ⟨j, by omega⟩ h
  | 2, _ => exact digits_up2 ⟨i, by omega⟩ ⟨j, by omega⟩ h
theorem tabFacts_mem {T : List Nat} {ar : List Int} {f : LFact} : f ∈ tabFacts T ar ↔ ∃ p j : Nat, p < ar.length ∧ j < 64 ∧ (T.getD p 0).testBit j = true ∧ f = ((p : Int), digits j (ar.getD p 0).toNat) := by
  unfold tabFacts wordFacts
  simp only [List.mem_flatMap, List.mem_map, List.mem_range, bitsOf_mem]
  constructor
  · rintro ⟨p, hp, i, ⟨j, h1, h2, rfl⟩, rfl⟩
    exact ⟨p, j, hp, h1, h2, rfl⟩
  · rintro ⟨p, j, hp, h1, h2, rfl⟩
    exact ⟨p, hp, (j : Int), ⟨j, h1, h2, rfl⟩, rfl⟩
theorem tabFacts_asc {T : List Nat} {ar : List Int} (ha : arityOk ar = true) (hb : ∀ p j : Nat, p < ar.length → (T.getD p 0).testBit j = true → j < 6 ^ (ar.getD p 0).toNat) : Asc (tabFacts T ar) := by
  unfold Asc tabFacts
  rw [List.pairwise_flatMap]
  have hq : ∀ p, p < ar.length → (ar.getD p 0).toNat ≤ 2 := fun p hp => by
    have h1 := ha
    simp only [arityOk, Bool.and_eq_true, decide_eq_true_eq, List.all_eq_true] at h1
    have h2 : placeOk ar[p] = true := h1.2 _ (List.getElem_mem hp)
    rw [getD_at hp]
    simp [placeOk] at h2
    omega
  refine ⟨fun p hp => ?_, ?_⟩
  · rw [List.mem_range] at hp
    unfold wordFacts
    rw [List.pairwise_map]
    refine List.Pairwise.imp_of_mem (fun {a b} ha hb' hab => ?_) (bitsOf_up _)
    obtain ⟨i, _, _, rfl⟩ := bitsOf_mem.1 ha
    obtain ⟨j, _, h2, rfl⟩ := bitsOf_mem.1 hb'
    simp only [factOrder, if_true, Int.toNat_natCast]
    exact digits_up (hq p hp) (hb p j hp h2) (by omega)
  · refine List.pairwise_lt_range.imp fun {p p'} hpp x hx y hy => ?_
    unfold wordFacts at hx hy
    obtain ⟨_, _, rfl⟩ := List.mem_map.1 hx
    obtain ⟨_, _, rfl⟩ := List.mem_map.1 hy
    have h1 : ¬ ((p : Int) = (p' : Int)) := by omega
    have h2 : ((p : Int) < (p' : Int)) := by omega
    simp [factOrder, h1, cmpI, h2]

/-- A table of facts has just these. -/
theorem tabFacts_with {ar : List Int} (ha : arityOk ar = true) {F : List LFact} (hF : ∀ f ∈ F, factFits ar f = true) : Asc (tabFacts (tabWith zeroT F) ar) ∧ ∀ f, f ∈ tabFacts (tabWith zeroT F) ar ↔ f ∈ F := by
  have hl : ar.length ≤ 24 := by simp only [arityOk, Bool.and_eq_true, decide_eq_true_eq] at ha; exact ha.1
  have hz : ∀ p : Nat, p < ar.length → p < zeroT.length := fun p hp => by simp [zeroT]; omega
  have hbit : ∀ p j : Nat, p < ar.length → (((tabWith zeroT F).getD p 0).testBit j = true ↔ ∃ f ∈ F, f.1.toNat = p ∧ numF f.2 = j) := fun p j hp => by
    simp only [tabWith_bit _ _ (hz p hp), zero_bit, Bool.false_eq_true, false_or]
  have hone : ∀ f ∈ F, f.1 = ((f.1.toNat : Nat) : Int) ∧ f.1.toNat < ar.length ∧ f.2.length = (ar.getD f.1.toNat 0).toNat ∧ digits (numF f.2) (ar.getD f.1.toNat 0).toNat = f.2 ∧ numF f.2 < 6 ^ (ar.getD f.1.toNat 0).toNat := fun f hf => by
    obtain ⟨⟨h0, h1, h2⟩, h3⟩ := fits_parts (hF f hf)
    have h4 := fits_short ha (hF f hf)
    have h5 : f.2.length = (ar.getD f.1.toNat 0).toNat := by omega
    refine ⟨by omega, by omega, h5, ?_, ?_⟩
    · rw [← h5]
      exact digits_numF h3 h4
    · rw [← h5]
      have := numF_lt h3 f.2.length (Nat.le_refl _)
      rwa [List.take_length] at this
  refine ⟨tabFacts_asc ha fun p j hp h => ?_, fun f => ?_⟩
  · obtain ⟨f, hf, rfl, rfl⟩ := (hbit p j hp).1 h
    exact (hone f hf).2.2.2.2
  · rw [tabFacts_mem]
    constructor
    · rintro ⟨p, j, hp, _, h, rfl⟩
      obtain ⟨g, hg, rfl, rfl⟩ := (hbit p j hp).1 h
      obtain ⟨e1, _, _, e2, _⟩ := hone g hg
      rw [e2, ← e1]
      exact hg
    · intro hf
      obtain ⟨e1, e2, _, e3, e4⟩ := hone f hf
      exact ⟨f.1.toNat, numF f.2, e2, numF_64 (fits_parts (hF f hf)).2 (fits_short ha (hF f hf)), (hbit _ _ e2).2 ⟨f, hf, rfl, rfl⟩, by rw [e3, ← e1]⟩

end Go.Proofs.YtigkgheddngkeaaGreat
/-
  The walk of (*factTable).facts: a table's facts, ascending, in memory of the call's own.
-/
namespace Go.Proofs.YtigkgheddngkeaaGreat
open Go.RowKit

def tabTo (T : List Nat) (ar : List Int) (k : Nat) : List LFact := (List.range k).flatMap fun p => wordFacts p (T.getD p 0) (ar.getD p 0).toNat
theorem tabTo_snoc (T : List Nat) (ar : List Int) (k : Nat) : tabTo T ar (k + 1) = tabTo T ar k ++ wordFacts k (T.getD k 0) (ar.getD k 0).toNat := by simp [tabTo, List.range_succ]
theorem wordFacts_len (p x q : Nat) : (wordFacts p x q).length ≤ 64 := by
  unfold wordFacts
  rw [List.length_map]
  exact bitsOf_length x
theorem tabTo_len (T : List Nat) (ar : List Int) : ∀ k, (tabTo T ar k).length ≤ k * 64
  | 0 => by simp [tabTo]
  | k + 1 => by
    rw [tabTo_snoc, List.length_append]
    have := tabTo_len T ar k
    have := wordFacts_len k (T.getD k 0) (ar.getD k 0).toNat
    omega

end Go.Proofs.YtigkgheddngkeaaGreat
/-
  The facts of the table within what has grown.
-/
namespace Go.Proofs.YtigkgheddngkeaaGreat
open Go.RowKit

/-- A table stands at places 2 to 25 of block g. -/
structure TabG (w : World) (g : Nat) (T : List Nat) : Prop where
  cell : ∀ {p : Nat}, p < 24 → w.cell? ⟨g, 2 + p, none⟩ = some (.int .u64 ((T.getD p 0 : Nat) : Int))
  word : ∀ p, T.getD p 0 < 18446744073709551616
  lt : g < w.heap.size
theorem TabG.below {w w' : World} {g B : Nat} {T : List Nat} (h : TabG w g T) (hb : Below B w w') (hg : g < B) : TabG w' g T := ⟨fun {p} hp => (hb.cell (p := ⟨g, 2 + p, none⟩) hg).trans (h.cell hp), h.word, Nat.lt_of_lt_of_le h.lt hb.size⟩
theorem GrAt.tab {w : World} {g o e : Nat} {X : List FV} {E : List Nat} {R : Nat → Value} (h : GrAt w g X E o e R) : TabG w g (tabWith zeroT (factsX X)) := ⟨fun {p} hp => h.raw.cellTab hp, fun p => h.raw.word, h.lt⟩

end Go.Proofs.YtigkgheddngkeaaGreat
/-
  Consequences: the specification's and the program's.
-/
namespace Go.Proofs.YtigkgheddngkeaaGreat
open Go.RowKit

end Go.Proofs.YtigkgheddngkeaaGreat
/-
  Least: the specification's and the program's.
-/
namespace Go.Proofs.YtigkgheddngkeaaGreat
open Go.RowKit

def lokB (p : LProg) (fs : List LFact) : Bool := positive p && factsOk p.1 fs
def leastL (p : LProg) (fs : List LFact) : List LFact := if lokB p fs then leastFrom p.2 (setOf fs) else []
theorem lok_parts {p : LProg} {fs : List LFact} (h : lokB p fs = true) : arityOk p.1 = true ∧ (∀ r ∈ p.2, ruleFits p.1 r = true) ∧ (∀ f ∈ fs, factFits p.1 f = true) ∧ p.2.length ≤ 60 := by
  simp only [lokB, positive, Bool.and_eq_true] at h
  obtain ⟨h1, h2, h3⟩ := prog_parts h.1.1
  exact ⟨h1, h3, (factsOk_parts h.2).2.1, h2⟩
theorem iterL_asc {rs : List LRule} {F : List LFact} (h : Asc F) : ∀ n, Asc (iterL rs F n)
  | 0 => h
  | _ + 1 => setOf_asc _
theorem leastL_few (p : LProg) (fs : List LFact) : (leastL p fs).length ≤ 1536 ∧ tot (leastL p fs) ≤ 3072 := by
  unfold leastL
  cases h : lokB p fs
  · simp [tot]
  · obtain ⟨h1, h2, h3, _⟩ := lok_parts h
    rw [if_pos rfl]
    exact iter_few h1 h2 (FitL.set h3) _

set_option maxHeartbeats 2000000 in
set_option maxRecDepth 100000 in
theorem l4Ok_any (v v2 : Value) (p : LProg) (fs : List LFact) (w : World) (h : RdProg w w.heap.size v p) (h2 : RdFacts w w.heap.size v2 fs) (hs : szP p ≤ 1048576) (hn : fs.length ≤ 1048576) (ht : tot fs ≤ 1048576) :
    Calls Tryz.prog 26 #[v, v2] w fun e w' => e = .returned (.bool (lokB p fs)) ∧ Below w.heap.size w w' := by
  have HP := Lib.hid h
  have H2 := Lib.hid h2
  have hs' := hs
  unfold szP at hs'
  obtain ⟨a, b, rfl, hA, hR⟩ := h
  have HA := Lib.hid hA
  obtain ⟨A, c, rfl, hcA, _⟩ := hA
  obtain ⟨A2, c2, rfl, hcR, _⟩ := hR
  obtain ⟨A3, c3, rfl, hcF, _⟩ := h2
  obtain ⟨po, hpo⟩ : ∃ po, po = positive p := ⟨_, rfl⟩
  obtain ⟨fo, hfo⟩ : ∃ fo, fo = factsOk p.1 fs := ⟨_, rfl⟩
  obtain ⟨R, hRR⟩ : ∃ R, R = lokB p fs := ⟨_, rfl⟩
  have HRR := Lib.hid (show R = (po && fo) by rw [hRR, hpo, hfo]; rfl)
  rw [← hRR]
  clear hRR
  go_enter Tryz.func26, Tryz.ntmps26
  go_upto_region 1 with fail
  obtain ⟨w1, hw1⟩ : ∃ w1, w1 = w.alloc (Obj.cells #[Value.slice A p.1.length c, Value.slice A2 p.2.length c2] 35) := ⟨_, rfl⟩
  have X1 : Blk w1 w.heap.size 35 #[.slice A p.1.length c, .slice A2 p.2.length c2] := by rw [hw1]; exact Blk.new _ _ _
  have B1 : Below w.heap.size w w1 := by rw [hw1]; exact below1 _ _
  rw [← hw1]
  clear hw1
  have x0 : w1.cell? ⟨w.heap.size, 0, none⟩ = some (.slice A p.1.length c) := X1.cell 0
  have x1 : w1.cell? ⟨w.heap.size, 1, none⟩ = some (.slice A2 p.2.length c2) := X1.cell 1
  have CP := Lib.hid ((specPositive_any _ p w1 (HP.out.on B1) hs).mono fun e w' (hh : e = .returned (.bool (positive p)) ∧ Below w1.heap.size w1 w') => (⟨by rw [hh.1, hpo], hh.2⟩ : e = .returned (.bool po) ∧ Below w1.heap.size w1 w'))
  have CF := Lib.hid (fun W (hW : Below w.heap.size w W) => (specFactsOk_any _ _ p.1 fs W (HA.out.on hW) (H2.out.on hW) (by omega) (by omega) (by omega)).mono fun e w' (hh : e = .returned (.bool (factsOk p.1 fs)) ∧ Below W.heap.size W w') => (⟨by rw [hh.1, hfo], hh.2⟩ : e = .returned (.bool fo) ∧ Below W.heap.size W w'))
  have HX1 := Lib.hid X1
  clear hpo hfo X1
  cases po
  · go_wp2_with (go_at_call 41; refine CP.out.mono ?_; rintro e w2 ⟨rfl, b2⟩; have B2 := Lib.hid (bthen B1 b2); clear b2)
    go_ret
    exact ⟨ret_bool (by rw [HRR.out]; rfl), B2.out⟩
  · go_wp2_with (first
      | (go_at_call 41; refine CP.out.mono ?_; rintro e w2 ⟨rfl, b2⟩; have B2 := Lib.hid (bthen B1 b2)
         have x20 : w2.cell? ⟨w.heap.size, 0, none⟩ = some (.slice A p.1.length c) := (HX1.out.below b2 HX1.out.lt).cell 0
         clear b2)
      | (go_at_call 42; refine (CF.out _ B2.out).mono ?_; rintro e w3 ⟨rfl, b3⟩; have B3 := Lib.hid (bthen B2.out b3); clear b3))
    go_ret
    exact ⟨ret_bool (by rw [HRR.out]; rfl), B3.out⟩

/-- What growthOf hands back: a growth that has come to its end. -/
structure Grown (w : World) (g : Nat) (p : LProg) (fs : List LFact) (X : List FV) (E : List Nat) (o : Nat) (R : Nat → Value) (m : Nat) : Prop where
  at_ : GrAt w g X E o X.length R
  fit : FitL p.1 (factsX X)
  rounds : RoundsM p.2 (setOf fs) m
  now : ∀ f, f ∈ factsX X ↔ f ∈ iterL p.2 (setOf fs) m
  up : E.Pairwise (· < ·)
  len : E.length = m + 1
  ends : ∀ k, k ≤ m → E.getD k 0 ≤ X.length ∧ ∀ f, f ∈ (factsX X).take (E.getD k 0) ↔ f ∈ iterL p.2 (setOf fs) k
theorem Grown.of {w : World} {g n : Nat} {p : LProg} {fs : List LFact} {X : List FV} {L1 : List LFact} {E : List Nat} {o : Nat} {R : Nat → Value} {m : Nat} (h : GrAt w g X E o X.length R) (h1 : ∀ f, f ∈ L1 ↔ f ∈ fs) (hn : n = L1.length) (hb : GrewBy p.1 p.2 L1 [n] (factsX X) E m) : Grown w g p fs X E o R m := by
  have he : setOf L1 = setOf fs := (setOf_asc _).unique (setOf_asc _) fun f => by rw [setOf_mem, setOf_mem, h1]
  obtain ⟨M, e1, e2, e3⟩ := hb.ends
  obtain ⟨N, e4⟩ := hb.pre
  have hr := hb.rounds
  have hnow := hb.now
  rw [he] at hr hnow e3
  refine ⟨h, hb.fit, hr, hnow, hb.up, by rw [e1]; simp [e2]; (try omega), fun k hk => ?_⟩
  rcases k with _ | k
  · rw [e1]
    show n ≤ X.length ∧ ∀ f, f ∈ (factsX X).take n ↔ f ∈ setOf fs
    rw [e4, hn, List.take_left']
    · refine ⟨?_, fun f => by rw [h1, setOf_mem]⟩
      rw [← factsX_len X, e4, List.length_append]
      omega
    · rfl
  · have e5 : E.getD (k + 1) 0 = M.getD k 0 := by rw [e1]; rfl
    rw [e5]
    obtain ⟨g1, g2⟩ := e3 k (by omega)
    rw [factsX_len] at g1
    exact ⟨g1, g2⟩

set_option maxHeartbeats 4000000 in
set_option maxRecDepth 100000 in
theorem growthOf_any (v v2 : Value) (p : LProg) (fs : List LFact) (w : World) (h : RdProg w w.heap.size v p) (h2 : RdFacts w w.heap.size v2 fs) (hs : szP p ≤ 1048576) (hn : fs.length ≤ 1048576) (ht : tot fs ≤ 1048576) :
    Calls Tryz.prog 21 #[v, v2] w fun e w' => ((lokB p fs = false ∧ e = .returned (.tuple #[.pointer none, .bool false])) ∨ (lokB p fs = true ∧ ∃ g X E o R m, e = .returned (.tuple #[.pointer (some ⟨g, 0, none⟩), .bool true]) ∧ w.heap.size ≤ g ∧ Grown w' g p fs X E o R m)) ∧ Below w.heap.size w w' := by
  have HP := Lib.hid h
  have H2 := Lib.hid h2
  have hs' := hs
  unfold szP at hs'
  obtain ⟨a, b, rfl, hA, hR⟩ := h
  have HA := Lib.hid hA
  have HR := Lib.hid hR
  obtain ⟨A, c, rfl, hcA, _⟩ := hA
  obtain ⟨A2, c2, rfl, hcR, _⟩ := hR
  obtain ⟨A3, c3, rfl, hcF, _⟩ := h2
  obtain ⟨po, hpo⟩ : ∃ po, po = positive p := ⟨_, rfl⟩
  obtain ⟨fo, hfo⟩ : ∃ fo, fo = factsOk p.1 fs := ⟨_, rfl⟩
  have HRR := Lib.hid (show lokB p fs = (po && fo) by rw [hpo, hfo]; rfl)
  go_enter Tryz.func21, Tryz.ntmps21
  go_upto_region 1 with fail
  obtain ⟨w1, hw1⟩ : ∃ w1, w1 = w.alloc (Obj.cells #[Value.slice A p.1.length c, Value.slice A2 p.2.length c2] 35) := ⟨_, rfl⟩
  have X1 : Blk w1 w.heap.size 35 #[.slice A p.1.length c, .slice A2 p.2.length c2] := by rw [hw1]; exact Blk.new _ _ _
  have B1 : Below w.heap.size w w1 := by rw [hw1]; exact below1 _ _
  rw [← hw1]
  clear hw1
  have x0 : w1.cell? ⟨w.heap.size, 0, none⟩ = some (.slice A p.1.length c) := X1.cell 0
  have x1 : w1.cell? ⟨w.heap.size, 1, none⟩ = some (.slice A2 p.2.length c2) := X1.cell 1
  have CP := Lib.hid ((implPositive_any _ p w1 (HP.out.on B1) hs).mono fun e w' (hh : e = .returned (.bool (positive p)) ∧ Below w1.heap.size w1 w') => (⟨by rw [hh.1, hpo], hh.2⟩ : e = .returned (.bool po) ∧ Below w1.heap.size w1 w'))
  have CF := Lib.hid (fun W (hW : Below w.heap.size w W) => (implFactsOk_any _ _ p.1 fs W (HA.out.on hW) (H2.out.on hW) (by omega) (by omega) (by omega)).mono fun e w' (hh : e = .returned (.bool (factsOk p.1 fs)) ∧ Below W.heap.size W w') => (⟨by rw [hh.1, hfo], hh.2⟩ : e = .returned (.bool fo) ∧ Below W.heap.size W w'))
  have HX1 := Lib.hid X1
  clear hpo hfo X1
  cases po
  · go_wp2_with (go_at_call 30; refine CP.out.mono ?_; rintro e w2 ⟨rfl, b2⟩; have B2 := Lib.hid (bthen B1 b2); clear b2)
    refine bodyPost_ret (v := .tuple #[.pointer none, .bool false]) (by simp [results, Tryz.results21, go_sem]) rfl ?_
    exact ⟨.inl ⟨by rw [HRR.out]; rfl, rfl⟩, B2.out⟩
  · cases fo
    · go_wp2_with (first
        | (go_at_call 30; refine CP.out.mono ?_; rintro e w2 ⟨rfl, b2⟩; have B2 := Lib.hid (bthen B1 b2)
           have x20 : w2.cell? ⟨w.heap.size, 0, none⟩ = some (.slice A p.1.length c) := (HX1.out.below b2 HX1.out.lt).cell 0
           clear b2)
        | (go_at_call 31; refine (CF.out _ B2.out).mono ?_; rintro e w3 ⟨rfl, b3⟩; have B3 := Lib.hid (bthen B2.out b3); clear b3))
      refine bodyPost_ret (v := .tuple #[.pointer none, .bool false]) (by simp [results, Tryz.results21, go_sem]) rfl ?_
      exact ⟨.inl ⟨by rw [HRR.out]; rfl, rfl⟩, B3.out⟩
    · have hlok : lokB p fs = true := by rw [HRR.out]; rfl
      obtain ⟨har, hfit, hff, hrl⟩ := lok_parts hlok
      have HLOK := Lib.hid hlok
      have HHH := Lib.hid (And.intro har (And.intro hfit hff))
      clear hlok har hfit hff
      go_wp2_with (first
        | (go_at_call 30; refine CP.out.mono ?_; rintro e w2 ⟨rfl, b2⟩; have B2 := Lib.hid (bthen B1 b2)
           have HX2 := Lib.hid (HX1.out.below b2 HX1.out.lt)
           have x20 : w2.cell? ⟨w.heap.size, 0, none⟩ = some (.slice A p.1.length c) := HX2.out.cell 0
           clear b2)
        | (go_at_call 31; refine (CF.out _ B2.out).mono ?_; rintro e w3 ⟨rfl, b3⟩; have B3 := Lib.hid (bthen B2.out b3)
           have HX3 := Lib.hid (HX2.out.below b3 HX2.out.lt)
           clear b3
           have CG := Lib.hid (growthFrom_any p.1 HHH.out.1 (.slice A3 fs.length c3) fs w3 (H2.out.on B3.out) HHH.out.2.2 hn))
        | (go_at_call 32; refine CG.out.mono ?_; rintro e w4 ⟨X, R, rfl, g4, b4, f4, m4⟩
           have x41 : w4.cell? ⟨w.heap.size, 1, none⟩ = some (.slice A2 p.2.length c2) := (HX3.out.below b4 HX3.out.lt).cell 1
           have HG4 := Lib.hid (And.intro g4 (And.intro b4 (And.intro f4 m4)))
           have CB := Lib.hid (growBy_any w3.heap.size p.1 HHH.out.1 p.2 HHH.out.2.1 (by omega) (by omega) X [X.length] 0 R (.slice A2 p.2.length c2) w4 g4 f4 ((HR.out.on B3.out).below b4 (Nat.le_refl _)) (by simp) (by simp) (by simp) (by simp))
           clear g4 b4 f4 m4)
        | (go_at_call 33; refine CB.out.mono ?_; rintro e w5 ⟨rfl, X5, E5, o5, R5, m5, g5, k5, gr5⟩
           have HG5 := Lib.hid (And.intro g5 (And.intro k5 gr5))
           clear g5 k5 gr5))
      refine bodyPost_ret (v := .tuple #[.pointer (some ⟨w3.heap.size, 0, none⟩), .bool true]) (by simp [results, Tryz.results21, go_sem]) rfl ?_
      exact ⟨.inr ⟨HLOK.out, w3.heap.size, X5, E5, o5, R5, m5, rfl, B3.out.size, Grown.of HG5.out.1 HG4.out.2.2.2 (factsX_len X).symm HG5.out.2.2⟩, (bthen B3.out HG4.out.2.1).trans (HG5.out.2.1.below.mono B3.out.size)⟩

end Go.Proofs.YtigkgheddngkeaaGreat
/-
  broughtIn: the facts of one round.
-/
namespace Go.Proofs.YtigkgheddngkeaaGreat
open Go.RowKit

theorem GrAt.endsAt {w : World} {g o e : Nat} {X : List FV} {E : List Nat} {R : Nat → Value} (h : GrAt w g X E o e R) (hm : 0 < E.length) : ∃ b c, R 1 = .slice (some ⟨b, 0, none⟩) E.length c ∧ (∀ k, k < E.length → w.cell? ⟨b, k, none⟩ = some (.int .i64 ((E.getD k 0 : Nat) : Int))) ∧ E.length ≤ c := by
  have hcells := @World.ownsRow.cells w (g + 1) 3 1 _ E.length (E.map inN) h.raw.ends
  rcases h.raw.ends.2 with ⟨e1, e0⟩ | ⟨b, cap, cur, e1, hb, hg, hc, _⟩
  · omega
  · refine ⟨b, cap, e1, fun k hk => ?_, by omega⟩
    have hget : (E.map inN)[k]? = some (.int .i64 ((E.getD k 0 : Nat) : Int)) := by
      rw [List.getElem?_map, List.getElem?_eq_getElem hk]
      simp [inN, hk]
    have := hcells (g := b) (by rw [e1]; rfl) k _ hget
    rw [Go.WideShapes.add_plain, Nat.zero_add] at this
    exact this

end Go.Proofs.YtigkgheddngkeaaGreat
/-
  Rows of lists of facts that are made at once and filled one by one.
-/
namespace Go.Proofs.YtigkgheddngkeaaGreat
open Go.RowKit

section
variable {w w' : World} {lo hi b : Nat} {v : Value} {hv : List Value} {FF : List (List LFact)} {F : List LFact} {P Q : Nat → Nat}
theorem OwnFacts.none (w : World) (p q : Nat) : OwnFacts w p q (.slice none 0 0) [] := ⟨_, .nil, World.ownsRow_nil _ _ _ _, fun g hg => by cases hg⟩
theorem FFAt.nils {n : Nat} (h : w.ownsRow lo 37 1 v n (List.replicate n (.slice none 0 0))) (hl : ∀ g, v.ownBlock = some g → g < hi) (hlo : lo ≤ hi) :
    FFAt w lo hi v (List.replicate n (.slice none 0 0)) (List.replicate n []) (fun _ => hi) (fun _ => hi) where
  row := by rw [List.length_replicate]; exact h
  lt := hl
  own i h1 h2 := by
    rw [List.getElem_replicate, List.getElem_replicate]
    exact ⟨hlo, ⟨Nat.le_refl _, Nat.le_refl _⟩, OwnFacts.none _ _ _, fun g hg => .inl (hl g hg)⟩
  ord _ _ _ _ := Nat.le_refl _
theorem OwnFF.none (w : World) (p q : Nat) : OwnFF w p q (.slice none 0 0) [] := ⟨[], fun _ => 0, fun _ => 0, ⟨World.ownsRow_nil _ _ _ _, fun g hg => (by cases hg), fun i h1 => absurd h1 (by simp), fun i j _ h1 => absurd h1 (by simp)⟩⟩
/-- A block that lies in no list changes. -/
theorem FFAt.only (h : FFAt w lo hi v hv FF P Q) (ho : Only b (b + 1) w w') (hne : ∀ g, v.ownBlock = some g → g ≠ b) (hP : ∀ i, i < FF.length → b < P i) : FFAt w' lo hi v hv FF P Q where
  row := ownsRow_only h.row fun g hg => ho.block g (h.row.lt g hg).2 (by have := hne g hg; omega)
  lt := h.lt
  own i h1 h2 := by
    obtain ⟨g1, g2, g3, g4⟩ := h.own i h1 h2
    exact ⟨g1, g2, g3.only ho (.inr (hP i h1)), g4⟩
  ord := h.ord
/-- List j, empty as all behind it, is filled. -/
theorem FFAt.put {g c n j a m : Nat} {u : Value} (h : FFAt w lo hi (.slice (some ⟨g, 0, none⟩) n c) hv FF P Q) (hn : FF.length = n) (hj : j < n) (hz : ∀ i, j ≤ i → i < n → hv[i]? = some (.slice none 0 0) ∧ FF[i]? = some [])
    (hu : OwnFacts w a m u F) (ha : hi ≤ a) (ham : a ≤ m) (hm : m ≤ w.heap.size) :
    FFAt (w.setCell ⟨g, j, none⟩ u) lo m (.slice (some ⟨g, 0, none⟩) n c) (hv.set j u) (FF.set j F) (fun i => if i < j then P i else if i = j then a else m) (fun i => if i < j then Q i else m) := by
  subst hn
  have hlen := h.len
  have hgl : g < hi := h.lt g rfl
  have hgw := h.row.lt g rfl
  have hst := h.row.stored j u
  have keep : ∀ {p q : Nat} {x : Value} {G : List LFact}, OwnFacts w p q x G → (g < p ∨ q ≤ g) → OwnFacts (w.setCell ⟨g, j, none⟩ u) p q x G := fun {p q x G} h0 hne => by
    have ho : Only g (g + 1) w (w.setCell ⟨g, j, none⟩ u) := Only.setCell (Only.refl g (g + 1) w) (p := ⟨g, j, none⟩) ⟨Nat.le_refl g, Nat.lt_succ_self g⟩ u
    exact h0.only ho (by omega)
  refine ⟨by rw [List.length_set]; exact hst.1, fun g2 hg2 => by have := h.lt g2 hg2; omega, fun i h1 h2 => ?_, fun i k hik hk => ?_⟩
  · rw [List.length_set] at h1 h2
    obtain ⟨g1, g2, g3, g4⟩ := h.own i h1 h2
    by_cases e1 : i < j
    · simp only [if_pos e1]
      rw [List.getElem_set_ne (by omega), List.getElem_set_ne (by omega)]
      exact ⟨g1, ⟨g2.1, by omega⟩, keep g3 (by have := g4 g rfl; omega), g4⟩
    · by_cases e2 : i = j
      · subst e2
        simp only [if_neg e1, if_true]
        rw [List.getElem_set_self, List.getElem_set_self]
        exact ⟨by omega, ⟨ham, Nat.le_refl _⟩, keep hu (by omega), fun g2 hg2 => by have := h.lt g2 hg2; omega⟩
      · simp only [if_neg e1, if_neg e2]
        rw [List.getElem_set_ne (by omega), List.getElem_set_ne (by omega)]
        obtain ⟨z1, z2⟩ := hz i (by omega) h1
        rw [List.getElem?_eq_getElem h2] at z1
        rw [List.getElem?_eq_getElem h1] at z2
        injection z1 with z1
        injection z2 with z2
        rw [z1, z2]
        exact ⟨by omega, ⟨Nat.le_refl _, Nat.le_refl _⟩, OwnFacts.none _ _ _, fun g2 hg2 => by have := h.lt g2 hg2; omega⟩
  · rw [List.length_set] at hk
    by_cases e1 : k < j
    · simp only [if_pos e1, if_pos (show i < j by omega)]
      exact h.ord i k hik hk
    · by_cases e2 : i < j
      · simp only [if_pos e2, if_neg e1]
        have hi2 := (h.own i (by omega) (by omega)).2.1
        split <;> omega
      · simp only [if_neg e2, if_neg e1, if_neg (show ¬ k = j by omega)]
        omega
end
/-- The rows of the first k, and no more. -/
def firstFF (RS : List (List LFact)) (k : Nat) : List (List LFact) := RS.take k ++ List.replicate (RS.length - k) []
theorem firstFF_len (RS : List (List LFact)) {k : Nat} (h : k ≤ RS.length) : (firstFF RS k).length = RS.length := by simp [firstFF]; omega
theorem firstFF_zero (RS : List (List LFact)) : firstFF RS 0 = List.replicate RS.length [] := by simp [firstFF]
theorem firstFF_all (RS : List (List LFact)) : firstFF RS RS.length = RS := by simp [firstFF]
theorem firstFF_nil (RS : List (List LFact)) {k i : Nat} (hi : k ≤ i) (h : i < RS.length) : (firstFF RS k)[i]? = some [] := by
  unfold firstFF
  rw [List.getElem?_append_right (by simp; omega), List.getElem?_replicate, if_pos (by simp; omega)]
theorem firstFF_set (RS : List (List LFact)) {k : Nat} (h : k < RS.length) : (firstFF RS k).set k RS[k] = firstFF RS (k + 1) := by
  apply List.ext_getElem?
  intro i
  by_cases e : i = k
  · subst e
    rw [List.getElem?_set_self (by rw [firstFF_len _ (by omega)]; exact h)]
    unfold firstFF
    rw [List.getElem?_append_left (by simp; omega), List.getElem?_take_of_lt (by omega), List.getElem?_eq_getElem h]
  · rw [List.getElem?_set_ne (by omega)]
    by_cases e2 : i < k
    · unfold firstFF
      rw [List.getElem?_append_left (by simp; omega), List.getElem?_append_left (by simp; omega), List.getElem?_take_of_lt e2, List.getElem?_take_of_lt (by omega)]
    · by_cases e3 : i < RS.length
      · rw [firstFF_nil RS (by omega) e3, firstFF_nil RS (by omega) e3]
      · rw [List.getElem?_eq_none (by rw [firstFF_len _ (by omega)]; omega), List.getElem?_eq_none (by rw [firstFF_len _ (by omega)]; omega)]

end Go.Proofs.YtigkgheddngkeaaGreat
/-
  Rounds: the program's.
-/
namespace Go.Proofs.YtigkgheddngkeaaGreat
open Go.RowKit

def roundsL (p : LProg) (fs : List LFact) : List (List LFact) := if lokB p fs then roundsFrom p.2 (setOf fs) else []
/-- Where the facts before round k end. -/
def bndE (E : List Nat) (k : Nat) : Nat := if k = 0 then 0 else E.getD (k - 1) 0
theorem Grown.len_ {w : World} {g o m : Nat} {p : LProg} {fs : List LFact} {X : List FV} {E : List Nat} {R : Nat → Value} (h : Grown w g p fs X E o R m) (hl : lokB p fs = true) : (roundsL p fs).length = E.length ∧ E.length ≤ 2001 := by
  obtain ⟨h1, h2, h3, _⟩ := lok_parts hl
  have hm := roundsM_is h1 h2 (FitL.set h3) h.rounds
  have h4 : roundsM p.2 (setOf fs) ≤ 2000 := firstM_le p.2 (setOf fs) 2000 0
  refine ⟨?_, by rw [h.len]; omega⟩
  unfold roundsL
  rw [if_pos hl, h.len]
  simp [roundsFrom, hm]
theorem Grown.at_k {w : World} {g o m : Nat} {p : LProg} {fs : List LFact} {X : List FV} {E : List Nat} {R : Nat → Value} (h : Grown w g p fs X E o R m) (hl : lokB p fs = true) {k : Nat} (hk : k < E.length) (hk2 : k < (roundsL p fs).length) :
    bndE E k ≤ E.getD k 0 ∧ E.getD k 0 ≤ X.length ∧ bndE E (k + 1) = E.getD k 0 ∧ tabFacts (tabWith zeroT ((factsX X).take (E.getD k 0))) p.1 = (roundsL p fs)[k] := by
  obtain ⟨h1, h2, h3, _⟩ := lok_parts hl
  have hm := roundsM_is h1 h2 (FitL.set h3) h.rounds
  have hkm : k ≤ m := by have := h.len; omega
  obtain ⟨e1, e2⟩ := h.ends k hkm
  refine ⟨?_, e1, by simp [bndE], ?_⟩
  · unfold bndE
    split
    · omega
    · have hp := h.up
      have h5 := List.pairwise_iff_getElem.1 hp (k - 1) k (by omega) hk (by omega)
      simp [List.getD_eq_getElem?_getD, hk, show k - 1 < E.length by omega]
      omega
  · have ht := tabFacts_with h1 (F := (factsX X).take (E.getD k 0)) fun f hf => h.fit.fits f (List.mem_of_mem_take hf)
    have he : (roundsL p fs)[k] = iterL p.2 (setOf fs) k := by
      simp [roundsL, hl, roundsFrom]
    rw [he]
    exact ht.1.unique (iterL_asc (setOf_asc _) k) fun f => (ht.2 f).trans (e2 f)
theorem tabWith_mid {L : List LFact} {a b : Nat} (h : a ≤ b) : tabWith (tabWith zeroT (L.take a)) ((L.take b).drop a) = tabWith zeroT (L.take b) := by
  conv => rhs; rw [take_mid h]
  simp [tabWith, List.foldl_append]

end Go.Proofs.YtigkgheddngkeaaGreat
/-
  Rows of slices of facts as results of laws: compared, marked, held.
-/
namespace Go.Proofs.YtigkgheddngkeaaGreat
open Go.RowKit

section
variable {w w' : World} {lo hi j B : Nat} {v : Value} {hv : List Value} {FF : List (List LFact)} {F' : List LFact} {P Q : Nat → Nat}
theorem FFAt.set (h : FFAt w lo hi v hv FF P Q) (hj : j < FF.length) (hj' : j < hv.length) (hu : OwnFacts w' (P j) (Q j) hv[j] F') (ho : Only (P j) (Q j) w w') : FFAt w' lo hi v hv (FF.set j F') P Q := by
  obtain ⟨k1, k2, k3, k4⟩ := h.own j hj hj'
  refine ⟨by rw [List.length_set]; exact ownsRow_only h.row fun b hb => ho.block b (h.row.lt b hb).2 (by have := k4 b hb; omega), h.lt, fun i a b => ?_, fun i m hi hm => h.ord i m hi (by simpa using hm)⟩
  by_cases e : i = j
  · subst e
    rw [List.getElem_set_self]
    exact ⟨k1, k2, hu, k4⟩
  · rw [List.length_set] at a
    rw [List.getElem_set_ne (Ne.symm e)]
    obtain ⟨g1, g2, g3, g4⟩ := h.own i a b
    refine ⟨g1, g2, g3.only ho ?_, g4⟩
    rcases Nat.lt_or_gt_of_ne e with h1 | h1
    · exact .inl (h.ord i j h1 hj)
    · exact .inr (h.ord j i h1 a)
end
def totFF (FF : List (List LFact)) : Nat := (FF.map szF).sum
def szFF (FF : List (List LFact)) : Nat := FF.length + totFF FF
theorem totFF_at : ∀ (FF : List (List LFact)) (k : Nat) (h : k < FF.length), szF FF[k] ≤ totFF FF
  | F :: FF, 0, _ => by simp [totFF]
  | F :: FF, k + 1, h => by
    have := totFF_at FF k (by simpa using h)
    simp only [totFF, List.map_cons, List.sum_cons, List.getElem_cons_succ] at this ⊢
    omega
theorem totFF_few {FF : List (List LFact)} {n m : Nat} (hn : FF.length ≤ n) (hm : ∀ F ∈ FF, szF F ≤ m) : totFF FF ≤ n * m := by
  have key : ∀ (l : List (List LFact)), (∀ x ∈ l, szF x ≤ m) → totFF l ≤ l.length * m := by
    intro l
    induction l with
    | nil => intro _; simp [totFF]
    | cons x l ih =>
      intro h
      have h1 := h x List.mem_cons_self
      have h2 := ih fun y hy => h y (List.mem_cons_of_mem _ hy)
      simp only [totFF, List.map_cons, List.sum_cons, List.length_cons, Nat.add_mul] at h2 ⊢
      omega
  exact Nat.le_trans (key FF hm) (Nat.mul_le_mul_right m hn)
def endFF (k : Int) (FF : List (List LFact)) : Int := FF.foldl endF k
def markFF : Int → List (List LFact) → List (List LFact)
  | _, [] => []
  | k, F :: FF => markF k F :: markFF (endF k F) FF
theorem markFF_length : ∀ (k : Int) (FF : List (List LFact)), (markFF k FF).length = FF.length
  | _, [] => rfl
  | k, F :: FF => by simp [markFF, markFF_length _ FF]
theorem endFF_snoc (k : Int) (FF : List (List LFact)) (F : List LFact) : endFF k (FF ++ [F]) = endF (endFF k FF) F := by simp [endFF]
theorem markFF_snoc : ∀ (k : Int) (FF : List (List LFact)) (F : List LFact), markFF k (FF ++ [F]) = markFF k FF ++ [markF (endFF k FF) F]
  | k, [], F => by simp [markFF, endFF]
  | k, G :: FF, F => by
    have h := markFF_snoc (endF k G) FF F
    show markF k G :: markFF (endF k G) (FF ++ [F]) = _
    rw [h]
    rfl
theorem markFF_at {FF : List (List LFact)} {k : Int} {j : Nat} (h : j < FF.length) (h' : j < (markFF k FF).length) : (markFF k FF)[j] = markF (endFF k (FF.take j)) FF[j] := by
  have hp : ∀ (xs ys : List (List LFact)) (k : Int), ∃ zs, markFF k (xs ++ ys) = markFF k xs ++ zs := by
    intro xs
    induction xs with
    | nil => intro ys k; exact ⟨_, rfl⟩
    | cons x xs ih =>
      intro ys k
      obtain ⟨zs, hz⟩ := ih ys (endF k x)
      exact ⟨zs, by simp [markFF, hz]⟩
  have e : FF = FF.take (j + 1) ++ FF.drop (j + 1) := (List.take_append_drop _ _).symm
  have hl : (markFF k (FF.take j)).length = j := by rw [markFF_length]; simp; omega
  obtain ⟨zs, hz⟩ := hp (FF.take (j + 1)) (FF.drop (j + 1)) k
  rw [← e, take_snoc FF j h, markFF_snoc] at hz
  have : (markFF k FF)[j]? = some (markF (endFF k (FF.take j)) FF[j]) := by
    rw [hz, List.append_assoc, List.getElem?_append_right (by omega), hl]
    simp
  rw [List.getElem?_eq_getElem h'] at this
  exact Option.some.inj this
def markedFF (FF : List (List LFact)) (k : Int) (j : Nat) : List (List LFact) := markFF k (FF.take j) ++ FF.drop j
theorem markedFF_step {FF : List (List LFact)} {k : Int} {j : Nat} (h : j < FF.length) : (markedFF FF k j).set j (markF (endFF k (FF.take j)) FF[j]) = markedFF FF k (j + 1) := by
  have hl : (markFF k (FF.take j)).length = j := by rw [markFF_length]; simp; omega
  unfold markedFF
  rw [List.drop_eq_getElem_cons h, List.set_append_right _ _ (by omega), hl, Nat.sub_self, List.set_cons_zero, take_snoc FF j h, markFF_snoc]
  simp
theorem markedFF_at {FF : List (List LFact)} {k : Int} {j : Nat} (h : j < FF.length) (h' : j < (markedFF FF k j).length) : (markedFF FF k j)[j] = FF[j] := by
  have hl : (markFF k (FF.take j)).length = j := by rw [markFF_length]; simp; omega
  have e : (markedFF FF k j)[j]? = some FF[j] := by
    unfold markedFF
    rw [List.getElem?_append_right (by omega), hl]
    simp [h]
  rw [List.getElem?_eq_getElem h'] at e
  exact Option.some.inj e
theorem markedFF_length {FF : List (List LFact)} {k : Int} {j : Nat} (h : j ≤ FF.length) : (markedFF FF k j).length = FF.length := by simp [markedFF, markFF_length]; omega
theorem endFF_bounds : ∀ (FF : List (List LFact)) (k : Int), k ≤ endFF k FF ∧ endFF k FF ≤ k + totFF FF
  | [], k => by simp [endFF, totFF]
  | F :: FF, k => by
    have h := endFF_bounds FF (endF k F)
    have h1 : k ≤ endF k F ∧ endF k F ≤ k + szF F := by unfold endF szF; omega
    have e : endFF k (F :: FF) = endFF (endF k F) FF := rfl
    have e2 : totFF (F :: FF) = szF F + totFF FF := by simp [totFF]
    rw [e, e2]
    omega
theorem totFF_take : ∀ (FF : List (List LFact)) (k : Nat), totFF (FF.take k) ≤ totFF FF
  | [], k => by simp
  | x :: FF, 0 => by simp [totFF]
  | x :: FF, k + 1 => by
    have := totFF_take FF k
    simp only [totFF, List.take_succ_cons, List.map_cons, List.sum_cons] at this ⊢
    omega

/-- The marks from k on stand in a row of lists of facts, and end at z. -/
def HdFF (w : World) (lo hi : Nat) (v : Value) (FF : List (List LFact)) (k z : Int) : Prop := OwnFF w lo hi v (markFF k FF) ∧ z = endFF k FF ∧ 0 ≤ k ∧ k ≤ 2147483648 ∧ szFF FF ≤ 1073741824
theorem HdFF.below {w w' : World} {lo hi B : Nat} {v : Value} {FF : List (List LFact)} {k z : Int} (h : HdFF w lo hi v FF k z) (hb : Below B w w') (hB : hi ≤ B) : HdFF w' lo hi v FF k z := ⟨h.1.below hb hB, h.2⟩

end Go.Proofs.YtigkgheddngkeaaGreat
/-
  Rounds: the specification's, and bounds.
-/
namespace Go.Proofs.YtigkgheddngkeaaGreat
open Go.RowKit

theorem OwnFF.only {w w' : World} {lo hi a b : Nat} {v : Value} {FF : List (List LFact)} (h : OwnFF w lo hi v FF) (ho : Only a b w w') (hd : hi ≤ a ∨ b ≤ lo) : OwnFF w' lo hi v FF := by
  obtain ⟨hv, P, Q, h⟩ := h
  refine ⟨hv, P, Q, ownsRow_only h.row fun g hg => ho.block g (h.row.lt g hg).2 (by have := h.lt g hg; have := (h.row.lt g hg).1; omega), h.lt, fun i h1 h2 => ?_, h.ord⟩
  obtain ⟨g1, g2, g3, g4⟩ := h.own i h1 h2
  exact ⟨g1, g2, g3.only ho (by omega), g4⟩
theorem roundsL_few (p : LProg) (fs : List LFact) : szFF (roundsL p fs) ≤ 1073741824 ∧ ∀ F ∈ roundsL p fs, szF F ≤ 1048576 := by
  have hF : ∀ F ∈ roundsL p fs, szF F ≤ 4608 := fun F hF => by
    unfold roundsL at hF
    cases h : lokB p fs
    · rw [h] at hF
      simp at hF
    · obtain ⟨h1, h2, h3, _⟩ := lok_parts h
      rw [h] at hF
      simp only [if_true, roundsFrom, List.mem_map] at hF
      obtain ⟨k, _, rfl⟩ := hF
      have := iter_few h1 h2 (FitL.set h3) k
      unfold szF
      omega
  have hn : (roundsL p fs).length ≤ 2001 := by
    unfold roundsL
    split
    · have h4 : roundsM p.2 (setOf fs) ≤ 2000 := firstM_le p.2 (setOf fs) 2000 0
      simp [roundsFrom]
      omega
    · simp
  have := totFF_few hn hF
  exact ⟨by unfold szFF; omega, fun F h => by have := hF F h; omega⟩

set_option maxHeartbeats 2000000 in
set_option maxRecDepth 100000 in
theorem specRounds_any (v v2 : Value) (p : LProg) (fs : List LFact) (w : World) (h : RdProg w w.heap.size v p) (h2 : RdFacts w w.heap.size v2 fs) (hs : szP p ≤ 1048576) (hn : fs.length ≤ 1048576) (ht : tot fs ≤ 1048576) :
    Calls Tryz.prog 17 #[v, v2] w fun e w' => ∃ A' c', e = .returned (.slice A' (roundsL p fs).length c') ∧ OwnFF w' w.heap.size w'.heap.size (.slice A' (roundsL p fs).length c') (roundsL p fs) ∧ Below w.heap.size w w' := by
  have HP := Lib.hid h
  have H2 := Lib.hid h2
  have hs' := hs
  unfold szP at hs'
  obtain ⟨a, b, rfl, hA, hR⟩ := h
  have HR := Lib.hid hR
  obtain ⟨A, c, rfl, hcA, _⟩ := hA
  obtain ⟨A2, c2, rfl, hcR, _⟩ := hR
  obtain ⟨A3, c3, rfl, hcF, _⟩ := h2
  obtain ⟨po, hpo⟩ : ∃ po, po = lokB p fs := ⟨_, rfl⟩
  obtain ⟨R, hRR⟩ : ∃ R, R = roundsL p fs := ⟨_, rfl⟩
  have HRR := Lib.hid (show R = if po then roundsFrom p.2 (setOf fs) else [] by rw [hRR, hpo]; rfl)
  rw [← hRR]
  clear hRR
  go_enter Tryz.func17, Tryz.ntmps17
  go_upto_region 1 with fail
  obtain ⟨w1, hw1⟩ : ∃ w1, w1 = w.alloc (Obj.cells #[Value.slice A p.1.length c, Value.slice A2 p.2.length c2] 35) := ⟨_, rfl⟩
  have X1 : Blk w1 w.heap.size 35 #[.slice A p.1.length c, .slice A2 p.2.length c2] := by rw [hw1]; exact Blk.new _ _ _
  have B1 : Below w.heap.size w w1 := by rw [hw1]; exact below1 _ _
  rw [← hw1]
  clear hw1
  have x0 : w1.cell? ⟨w.heap.size, 0, none⟩ = some (.slice A p.1.length c) := X1.cell 0
  have x1 : w1.cell? ⟨w.heap.size, 1, none⟩ = some (.slice A2 p.2.length c2) := X1.cell 1
  have CP := Lib.hid ((l4Ok_any _ _ p fs w1 (HP.out.on B1) (H2.out.on B1) hs hn ht).mono fun e w' (hh : e = .returned (.bool (lokB p fs)) ∧ Below w1.heap.size w1 w') => (⟨by rw [hh.1, hpo], hh.2⟩ : e = .returned (.bool po) ∧ Below w1.heap.size w1 w'))
  have HPO := Lib.hid hpo
  have HX1 := Lib.hid X1
  clear hpo X1
  cases po
  · go_wp2_with (go_at_call 26; refine CP.out.mono ?_; rintro e w2 ⟨rfl, b2⟩; have B2 := Lib.hid (bthen B1 b2); clear b2)
    go_ret
    have e : R = [] := by rw [HRR.out]; rfl
    rw [e]
    exact ⟨none, 0, rfl, OwnFF.none _ _ _, B2.out⟩
  · obtain ⟨har, hfit, hff, hrl⟩ := lok_parts HPO.out.symm
    have CA := Lib.hid (fun W (hW : Below w.heap.size w W) => l4Rounds_any p.1 har p.2 hfit (by omega) (by omega) (.slice A2 p.2.length c2) (.slice A3 fs.length c3) fs W (HR.out.on hW) (H2.out.on hW) hff hn ht)
    have HRE := Lib.hid (show R = roundsFrom p.2 (setOf fs) by rw [HRR.out]; rfl)
    rw [← HRE.out] at CA
    clear har hfit hff hrl
    go_wp2_with (first
      | (go_at_call 26; refine CP.out.mono ?_; rintro e w2 ⟨rfl, b2⟩; have B2 := Lib.hid (bthen B1 b2)
         have x21 : w2.cell? ⟨w.heap.size, 1, none⟩ = some (.slice A2 p.2.length c2) := (HX1.out.below b2 HX1.out.lt).cell 1
         clear b2)
      | (go_at_call 27; refine (CA.out _ B2.out).mono ?_; rintro e w4 ⟨A4, c4, rfl, o4, b4⟩; have B4 := Lib.hid (bthen B2.out b4)
         have O4 := Lib.hid (o4.mono B2.out.size (Nat.le_refl _))
         clear o4 b4))
    go_ret
    exact ⟨A4, c4, rfl, O4.out, B4.out⟩

end Go.Proofs.YtigkgheddngkeaaGreat
/-
  FactOrder's contract with its worlds written out: draws on, and blocks behind.
-/
namespace Go.Proofs.YtigkgheddngkeaaGreat
open Go.RowKit Go.Sort

/-- W is w some draws on, with blocks laid behind it. -/
def Gr (w W : World) : Prop := ∃ q os, W = grow (w.drewN q) os
theorem Gr.refl (w : World) : Gr w w := ⟨0, #[], by simp [grow, World.drewN]⟩
theorem Gr.alloc {w W : World} (h : Gr w W) (o : Obj) : Gr w (W.alloc o) := by
  obtain ⟨q, os, rfl⟩ := h
  exact ⟨q, os.push o, by simp [grow, World.alloc]⟩
theorem Gr.drew {w W : World} (h : Gr w W) : Gr w W.drew := by
  obtain ⟨q, os, rfl⟩ := h
  exact ⟨q + 1, os, rfl⟩
theorem Gr.drewN {w W : World} (h : Gr w W) (n : Nat) : Gr w (W.drewN n) := by
  obtain ⟨q, os, rfl⟩ := h
  exact ⟨q + n, os, by simp [grow, World.drewN, Nat.add_assoc]⟩
theorem Gr.trans {w w1 W : World} (h : Gr w w1) (k : Gr w1 W) : Gr w W := by
  obtain ⟨q, os, rfl⟩ := h
  obtain ⟨q', os', rfl⟩ := k
  exact ⟨q + q', os ++ os', by simp [grow, World.drewN, Nat.add_assoc, Array.append_assoc]⟩
theorem Gr.below {w W : World} (h : Gr w W) : Below w.heap.size w W := by
  obtain ⟨q, os, rfl⟩ := h
  exact ⟨rfl, rfl, rfl, by simp [grow, World.drewN], fun k hk => by simp [grow, World.drewN, Array.getElem?_append, hk]⟩

set_option maxHeartbeats 400000 in
set_option maxRecDepth 100000 in
theorem implFactOrder_grow (v v2 : Value) (f g : LFact) (w : World) (h : RdFact w w.heap.size v f) (h2 : RdFact w w.heap.size v2 g) (hn : f.2.length ≤ 1048576) (hn2 : g.2.length ≤ 1048576) :
    Calls Tryz.prog 51 #[v, v2] w fun e w' => e = .returned (.int .i64 (factOrder f g)) ∧ Gr w w' := by
  obtain ⟨a, rfl, h⟩ := h
  have H := Lib.hid h
  obtain ⟨A, c, rfl, hc, _⟩ := h
  obtain ⟨a, rfl, h2⟩ := h2
  have H2 := Lib.hid h2
  obtain ⟨A2, c2, rfl, hc2, _⟩ := h2
  have HF := Lib.hid (factOrder_or f g)
  go_enter Tryz.func51, Tryz.ntmps51
  go_wp2_with (fail)
  obtain ⟨w1, hw1⟩ : ∃ w1, w1 = ((w.alloc (Obj.cells #[Value.int IntKind.i64 f.1, Value.slice A f.2.length c] 39)).alloc (Obj.cells #[Value.int IntKind.i64 g.1, Value.slice A2 g.2.length c2] 39)) := ⟨_, rfl⟩
  have B1 : Gr w w1 := by rw [hw1]; exact ((Gr.refl _).alloc _).alloc _
  have k0 : Blk w1 w.heap.size 39 #[.int .i64 f.1, .slice A f.2.length c] := by rw [hw1]; exact (Blk.new w _ _).alloc _
  have k1 : Blk w1 (w.heap.size + 1) 39 #[.int .i64 g.1, .slice A2 g.2.length c2] := by rw [hw1]; simpa using Blk.new (w.alloc (Obj.cells #[Value.int IntKind.i64 f.1, Value.slice A f.2.length c] 39)) 39 #[.int .i64 g.1, .slice A2 g.2.length c2]
  rw [← hw1]
  clear hw1
  have HS0 := Lib.hid (show ∀ W, Gr w1 W → (Gr w1 W ∧ W.cell? ⟨w.heap.size, 0, none⟩ = some (.int .i64 f.1) ∧ W.cell? ⟨w.heap.size, 1, none⟩ = some (.slice A f.2.length c) ∧ W.cell? ⟨w.heap.size + 1, 0, none⟩ = some (.int .i64 g.1) ∧ W.cell? ⟨w.heap.size + 1, 1, none⟩ = some (.slice A2 g.2.length c2)) from
    fun W hW => ⟨hW, (k0.below hW.below k0.lt).cell 0, (k0.below hW.below k0.lt).cell 1, (k1.below hW.below k1.lt).cell 0, (k1.below hW.below k1.lt).cell 1⟩)
  go_region_held3 (fun W => Gr w1 W ∧ W.cell? ⟨w.heap.size, 0, none⟩ = some (.int .i64 f.1) ∧ W.cell? ⟨w.heap.size, 1, none⟩ = some (.slice A f.2.length c) ∧ W.cell? ⟨w.heap.size + 1, 0, none⟩ = some (.int .i64 g.1) ∧ W.cell? ⟨w.heap.size + 1, 1, none⟩ = some (.slice A2 g.2.length c2))
    (first | assumption | exact HS0.out _ (Gr.refl _) | exact HS0.out _ ((Gr.refl _).alloc _).drew | exact HS0.out _ (Gr.refl _).drew | exact HS0.out _ ((And.left (by assumption) : Gr w1 _).alloc _) | exact HS0.out _ (And.left (by assumption) : Gr w1 _).drew | (refine HS0.out _ ?_; go_goals; fail))
    (first
      | (go_at_call 73; refine (cmpCompare_any _ _ _).mono ?_; rintro e w' ⟨rfl, rfl⟩)
      | (go_at_call 74; refine (slicesCompare_any _ _ f.2 g.2 _ ?_ ?_ (by omega) (by omega)).mono ?_; exact H.out.on (bthen B1.below (And.left (by assumption) : Gr w1 _).below); exact H2.out.on (bthen B1.below (And.left (by assumption) : Gr w1 _).below); rintro e w' ⟨rfl, rfl⟩)
      | (go_at_call 72; refine (cmpOr_any _ (cmpI f.1 g.1) (cmpL f.2 g.2) _ ?_).mono ?_; exact rdInts_pair _ _ _; rintro e w' ⟨rfl, rfl⟩))
  all_goals
    go_wp2_with (fail)
    go_ret
    exact ⟨ret_int HF.out, B1.trans (And.left (by assumption))⟩

end Go.Proofs.YtigkgheddngkeaaGreat
/-
  sameFact.
-/
namespace Go.Proofs.YtigkgheddngkeaaGreat
open Go.RowKit Go.Sort

set_option maxHeartbeats 400000 in
set_option maxRecDepth 100000 in
theorem sameFact_grow (v v2 : Value) (f g : LFact) (w : World) (h : RdFact w w.heap.size v f) (h2 : RdFact w w.heap.size v2 g) (hn : f.2.length ≤ 1048576) (hn2 : g.2.length ≤ 1048576) :
    Calls Tryz.prog 36 #[v, v2] w fun e w' => e = .returned (.bool (factOrder f g == 0)) ∧ Gr w w' := by
  obtain ⟨a, rfl, h⟩ := h
  have H := Lib.hid h
  obtain ⟨A, c, rfl, hc, _⟩ := h
  obtain ⟨a, rfl, h2⟩ := h2
  have H2 := Lib.hid h2
  obtain ⟨A2, c2, rfl, hc2, _⟩ := h2
  go_enter Tryz.func36, Tryz.ntmps36
  go_wp2_with (fail)
  refine (implFactOrder_grow _ _ f g _ ⟨_, rfl, H.out.on (below2 _ _ _)⟩ ⟨_, rfl, H2.out.on (below2 _ _ _)⟩ hn hn2).mono ?_
  rintro e w1 ⟨rfl, hg1⟩
  have HG := Lib.hid ((((Gr.refl w).alloc _).alloc _).trans hg1)
  clear hg1
  go_wp2_with (fail)
  go_ret
  exact ⟨rfl, HG.out⟩

end Go.Proofs.YtigkgheddngkeaaGreat
/-
  roundOf's closure, and slices.IndexFunc by it: where a fact stands first.
-/
namespace Go.Proofs.YtigkgheddngkeaaGreat
open Go.RowKit

theorem sameF_iff (f g : LFact) : (factOrder f g == 0) = decide (f = g) := by
  by_cases h : f = g
  · subst h
    simp [order_refl]
  · rw [decide_eq_false h]
    simpa using fun e => h (order_eq e)

set_option maxHeartbeats 1000000 in
set_option maxRecDepth 100000 in
theorem sameAs_any (b0 : Nat) (f h : LFact) (A A2 : Option Addr) (c c2 : Nat) (w : World) (hf : RdInts w w.heap.size (.slice A f.2.length c) f.2) (hb : Blk w b0 39 #[.int .i64 h.1, .slice A2 h.2.length c2]) (hh : RdInts w w.heap.size (.slice A2 h.2.length c2) h.2) (hn : f.2.length ≤ 1048576) (hn2 : h.2.length ≤ 1048576) :
    Calls Tryz.prog 35 #[.agg #[.int .i64 f.1, .slice A f.2.length c], .pointer (some ⟨b0, 0, none⟩)] w fun e w' => e = .returned (.bool (decide (f = h))) ∧ Below w.heap.size w w' := by
  have HF := Lib.hid hf
  have HH := Lib.hid hh
  have HB := Lib.hid hb
  have hbl := hb.lt
  clear hf hh hb
  go_enter Tryz.func35, Tryz.ntmps35
  go_upto_region 1 with fail
  obtain ⟨w1, hw1⟩ : ∃ w1, w1 = w.alloc (Obj.cells #[Value.int IntKind.i64 f.1, Value.slice A f.2.length c] 39) := ⟨_, rfl⟩
  have X1 : Blk w1 w.heap.size 39 #[.int .i64 f.1, .slice A f.2.length c] := by rw [hw1]; exact Blk.new _ _ _
  have B1 : Below w.heap.size w w1 := by rw [hw1]; exact below1 _ _
  rw [← hw1]
  clear hw1
  have Y1 := HB.out.below B1 hbl
  have y0 : w1.cell? ⟨b0, 0, none⟩ = some (.int .i64 h.1) := Y1.cell 0
  have y1 : w1.cell? ⟨b0, 1, none⟩ = some (.slice A2 h.2.length c2) := Y1.cell 1
  have x0 : w1.cell? ⟨w.heap.size, 0, none⟩ = some (.int .i64 f.1) := X1.cell 0
  have x1 : w1.cell? ⟨w.heap.size, 1, none⟩ = some (.slice A f.2.length c) := X1.cell 1
  have CS := Lib.hid ((sameFact_grow (.agg #[.int .i64 f.1, .slice A f.2.length c]) (.agg #[.int .i64 h.1, .slice A2 h.2.length c2]) f h w1 ⟨_, rfl, HF.out.on B1⟩ ⟨_, rfl, HH.out.on B1⟩ hn hn2).mono fun e w' (hx : e = .returned (.bool (factOrder f h == 0)) ∧ Gr w1 w') => (⟨by rw [hx.1, sameF_iff], hx.2.below⟩ : e = .returned (.bool (decide (f = h))) ∧ Below w1.heap.size w1 w'))
  have HB1 := Lib.hid B1
  clear X1 Y1 B1
  go_wp2_with (go_at_call 36; refine CS.out.mono ?_; rintro e w2 ⟨rfl, b2⟩; have HB2 := Lib.hid (bthen HB1.out b2); clear b2)
  go_ret
  exact ⟨rfl, HB2.out⟩

set_option maxHeartbeats 2000000 in
set_option maxRecDepth 100000 in
theorem indexFact_any (v : Value) (fs : List LFact) (b0 : Nat) (h : LFact) (A2 : Option Addr) (c2 : Nat) (w : World) (hr : RdFacts w w.heap.size v fs) (hb : Blk w b0 39 #[.int .i64 h.1, .slice A2 h.2.length c2]) (hh : RdInts w w.heap.size (.slice A2 h.2.length c2) h.2) (hn : fs.length ≤ 1048576) (hn1 : ∀ f ∈ fs, f.2.length ≤ 1048576) (hn2 : h.2.length ≤ 1048576) :
    Calls Tryz.prog 34 #[v, .func (.func 35) #[] #[.pointer (some ⟨b0, 0, none⟩)]] w fun e w' =>
      ((e = .returned (.int .i64 (-1)) ∧ h ∉ fs) ∨ ∃ k : Nat, e = .returned (.int .i64 k) ∧ (∃ hk : k < fs.length, fs[k] = h)) ∧ Below w.heap.size w w' := by
  have H := Lib.hid hr
  have HB := Lib.hid hb
  have HH := Lib.hid hh
  have HL := Lib.hid hn1
  have hbl := hb.lt
  obtain ⟨A, c, rfl, hc, _⟩ := hr
  clear hb hh hn1
  go_enter Tryz.func34, Tryz.ntmps34
  go_wp2_with fail
  go_loopw [8] (fun i wr => ∃ k : Nat, k ≤ fs.length ∧ i = .int .i64 k ∧ (∀ j (hj : j < fs.length), j < k → fs[j] ≠ h) ∧ Below w.heap.size w wr) (fun i _ => fs.length - (intOf i).toNat)
  case atStart => exact ⟨0, Nat.zero_le _, rfl, fun j _ h => absurd h (by omega), Below.refl _ _⟩
  case round =>
    obtain ⟨k, hk, rfl, hs, hbe⟩ := hrel
    by_cases hlt : k < fs.length
    · obtain ⟨b, o, A3, c3, rfl, hbB, k1, k2, k3⟩ := (H.out.below hbe (Nat.le_refl _)).get hlt
      have hsz := hbe.size
      have CI := Lib.hid (sameAs_any b0 fs[k] h A3 A2 c3 c2 wr (k3.more (by omega)) (HB.out.below hbe hbl) (HH.out.on hbe) (HL.out _ (List.getElem_mem hlt)) hn2)
      obtain ⟨f, hfe⟩ : ∃ f, f = fs[k] := ⟨_, rfl⟩
      rw [← hfe] at CI k1 k2
      have HFE := Lib.hid hfe
      have HS := Lib.hid hs
      have HBE := Lib.hid hbe
      clear k3 hs hbe hfe
      by_cases h0 : f = h
      · rw [decide_eq_true h0] at CI
        have H0 := Lib.hid h0
        clear h0
        go_wp2_with (go_at_call 35; refine CI.out.mono ?_; rintro e w2 ⟨rfl, hb2⟩; have HB2 := Lib.hid (bthen HBE.out hb2); clear hb2)
        go_ret
        exact ⟨.inr ⟨k, rfl, hlt, by rw [← HFE.out]; exact H0.out⟩, HB2.out⟩
      · rw [decide_eq_false h0] at CI
        have H0 := Lib.hid h0
        clear h0
        go_wp2_with (go_at_call 35; refine CI.out.mono ?_; rintro e w2 ⟨rfl, hb2⟩; have HB2 := Lib.hid (bthen HBE.out hb2); clear hb2)
        go_roundw
        case rel => exact ⟨k + 1, by omega, by go_num, fun j hj hjk => by
          by_cases e : j = k
          · subst e
            have := H0.out
            rw [HFE.out] at this
            exact this
          · exact HS.out j hj (by omega), HB2.out⟩
        case measure => simp [intOf]; omega
    · have HBE := Lib.hid hbe
      have HNO := Lib.hid (show h ∉ fs from fun hm => by
        obtain ⟨j, hj, e⟩ := List.getElem_of_mem hm
        exact hs j hj (by omega) e)
      clear hs hbe
      go_wp2_with fail
      go_ret
      exact ⟨.inl ⟨rfl, HNO.out⟩, HBE.out⟩

end Go.Proofs.YtigkgheddngkeaaGreat
/-
  slices.BinarySearch at integers.
-/
namespace Go.Proofs.YtigkgheddngkeaaGreat
open Go.RowKit

theorem cmpLessI_any (x y : Int) (w : World) :
    Calls Tryz.prog 58 #[.int .i64 x, .int .i64 y] w fun e w' => e = .returned (.bool (decide (x < y))) ∧ w' = w := by
  go_enter Tryz.func58, Tryz.ntmps58
  go_wp2
  go_ret
  simp
theorem cmpLessI_is {x y : Int} {b : Bool} (h : decide (x < y) = b) (w : World) :
    Calls Tryz.prog 58 #[.int .i64 x, .int .i64 y] w fun e w' => e = .returned (.bool b) ∧ w' = w := h ▸ cmpLessI_any x y w
def LessI (T : List Int) (m : Int) (i : Nat) : Prop := ∀ k (h : k < T.length), k < i → T[k] < m
def FromI (T : List Int) (m : Int) (j : Nat) : Prop := ∀ k (h : k < T.length), j ≤ k → m ≤ T[k]
theorem lessI_mid {T : List Int} {m : Int} {h : Nat} (hup : T.Pairwise (· ≤ ·)) (hh : h < T.length) (e : T[h] < m) : LessI T m (h + 1) := fun k hk hlt => by
  by_cases e2 : k = h
  · subst e2
    exact e
  · have := List.pairwise_iff_getElem.1 hup k h hk hh (by omega)
    omega
theorem fromI_mid {T : List Int} {m : Int} {h : Nat} (hup : T.Pairwise (· ≤ ·)) (hh : h < T.length) (e : ¬ T[h] < m) : FromI T m h := fun k hk hle => by
  by_cases e2 : k = h
  · subst e2
    omega
  · have := List.pairwise_iff_getElem.1 hup h k hh hk (by omega)
    omega

set_option maxHeartbeats 2000000 in
set_option maxRecDepth 100000 in
theorem searchI_any (v : Value) (T : List Int) (m : Int) (B : Nat) (w : World) (h : RdInts w B v T) (hup : T.Pairwise (· ≤ ·)) (hn : T.length ≤ 1048576) :
    Calls Tryz.prog 37 #[v, .int .i64 m] w fun e w' =>
      (∃ (i : Nat) (R : Bool), e = .returned (.tuple #[.int .i64 i, .bool R]) ∧ i ≤ T.length ∧ LessI T m i ∧ FromI T m i) ∧ w' = w := by
  have HU := Lib.hid hup
  have H := Lib.hid h
  obtain ⟨A, c, rfl, hc, hcell⟩ := h
  have HC := Lib.hid hcell
  clear hup hcell
  go_enter Tryz.func37, Tryz.ntmps37
  go_wp2_with fail
  go_loopg [7, 8] T.length (fun q vi vj wr => ∃ i j : Nat, vi = .int .i64 i ∧ vj = .int .i64 j ∧ i ≤ j ∧ j ≤ T.length ∧ j - i ≤ q ∧ wr = w ∧ Hid (LessI T m i ∧ FromI T m j))
  case atStart => exact ⟨0, T.length, rfl, rfl, Nat.zero_le _, Nat.le_refl _, Nat.sub_le _ _, rfl, fun k _ hk => absurd hk (by omega), fun k hk hle => absurd hk (by omega)⟩
  case round =>
    obtain ⟨i, j, rfl, rfl, hij, hj, hq, rfl, HI⟩ := hrel
    by_cases hlt : i < j
    · obtain ⟨p, hp⟩ : ∃ p, p = (i + j) / 2 := ⟨_, rfl⟩
      have hp1 : i ≤ p := by omega
      have hp2 : p < j := by omega
      have hpl : p < T.length := by omega
      have HM := Lib.hid (show ((i : Int) + (j : Int)) / 2 = (p : Int) by omega)
      obtain ⟨b, o, rfl, hbB, kk⟩ := HC.out (by omega)
      have k1 := kk p hpl
      obtain ⟨K, hK⟩ : ∃ K, K = T[p] := ⟨_, rfl⟩
      rw [← hK] at k1
      have HK := Lib.hid hK
      clear hK hp kk
      go_upto_region 5 with fail
      rw [HM.out]
      by_cases hl : K < m
      · have hl2 : decide (K < m) = true := decide_eq_true hl
        have HN := Lib.hid (lessI_mid HU.out hpl (by rw [← HK.out]; exact hl))
        have HL := Lib.hid hl2
        clear hl2 hl
        go_wp2_with (go_at_call 58; refine (cmpLessI_is HL.out _).mono ?_; rintro e w' ⟨rfl, rfl⟩)
        go_roundg (j - (p + 1))
        case measure => omega
        case rel => exact ⟨p + 1, j, by go_num, rfl, by omega, hj, Nat.le_refl _, rfl, HN.out, HI.out.2⟩
      · have hl2 : decide (K < m) = false := decide_eq_false hl
        have HN := Lib.hid (fromI_mid HU.out hpl (by rw [← HK.out]; exact hl))
        have HL := Lib.hid hl2
        clear hl2 hl
        go_wp2_with (go_at_call 58; refine (cmpLessI_is HL.out _).mono ?_; rintro e w' ⟨rfl, rfl⟩)
        go_roundg (p - i)
        case measure => omega
        case rel => exact ⟨i, p, rfl, rfl, hp1, by omega, Nat.le_refl _, rfl, HI.out.1, HN.out⟩
    · obtain rfl : i = j := by omega
      have HNN : ∀ W (x : Int), Calls Tryz.prog 59 #[.int .i64 x] W fun e w' => e = .returned (.bool false) ∧ w' = W := by
        intro W x
        go_enter Tryz.func59, Tryz.ntmps59
        go_wp2
        go_ret
        exact ⟨rfl, rfl⟩
      by_cases hpl : i < T.length
      · obtain ⟨b, o, rfl, hbB, kk⟩ := HC.out (by omega)
        have k1 := kk i hpl
        obtain ⟨K, hK⟩ : ∃ K, K = T[i] := ⟨_, rfl⟩
        rw [← hK] at k1
        clear hK kk
        by_cases e : K = m
        · subst e
          go_wp2_with (go_at_call 59; refine (HNN _ _).mono ?_; rintro e w' ⟨rfl, rfl⟩)
          go_ret2
          exact ⟨⟨i, _, rfl, hj, HI.out.1, HI.out.2⟩, rfl⟩
        · have hne : (K == m) = false := by simpa using e
          go_wp2_with (go_at_call 59; refine (HNN _ _).mono ?_; rintro e w' ⟨rfl, rfl⟩)
          go_ret2
          exact ⟨⟨i, _, rfl, hj, HI.out.1, HI.out.2⟩, rfl⟩
      · go_wp2_with (go_at_call 59; refine (HNN _ _).mono ?_; rintro e w' ⟨rfl, rfl⟩)
        go_ret2
        exact ⟨⟨i, _, rfl, hj, HI.out.1, HI.out.2⟩, rfl⟩

end Go.Proofs.YtigkgheddngkeaaGreat
/-
  roundOf: the round that brings a fact.
-/
namespace Go.Proofs.YtigkgheddngkeaaGreat
open Go.RowKit

theorem GrAt.rdEnds {w : World} {g o e : Nat} {X : List FV} {E : List Nat} {R : Nat → Value} (h : GrAt w g X E o e R) (hm : 0 < E.length) : ∃ b c, R 1 = .slice (some ⟨b, 0, none⟩) E.length c ∧ RdInts w w.heap.size (.slice (some ⟨b, 0, none⟩) E.length c) (E.map fun (n : Nat) => (n : Int)) := by
  obtain ⟨b, c, h1, h2, h3⟩ := h.endsAt hm
  have hlt := (h.raw.rowLt (r := 1) (by omega) (b := b) (by rw [h1]; rfl)).2
  refine ⟨b, c, h1, _, c, by rw [List.length_map], by rw [List.length_map]; exact h3, fun _ => ⟨b, 0, rfl, hlt, fun k hk => ?_⟩⟩
  rw [List.length_map] at hk
  have := h2 k hk
  rw [Nat.zero_add, this]
  simp [hk]

set_option maxHeartbeats 4000000 in
set_option maxRecDepth 100000 in
theorem roundOf_any (g : Nat) (X : List FV) (E : List Nat) (o e : Nat) (R : Nat → Value) (f : LFact) (A2 : Option Addr) (c2 : Nat) (w : World) (h : GrAt w g X E o e R) (hf : RdInts w w.heap.size (.slice A2 f.2.length c2) f.2) (hX : X.length ≤ 1048576) (hXs : ∀ x ∈ factsX X, x.2.length ≤ 1048576) (hfn : f.2.length ≤ 1048576) (hE : 0 < E.length) (hE2 : E.length ≤ 1048576) (hup : E.Pairwise (· < ·)) :
    Calls Tryz.prog 22 #[.pointer (some ⟨g, 0, none⟩), .agg #[.int .i64 f.1, .slice A2 f.2.length c2]] w fun e' w' =>
      ((e' = .returned (.int .i64 (-1)) ∧ f ∉ factsX X) ∨ ∃ r k : Nat, e' = .returned (.int .i64 r) ∧ (∃ hk : k < (factsX X).length, (factsX X)[k] = f) ∧ r ≤ E.length ∧ (∀ i, i < r → i < E.length → E.getD i 0 ≤ k) ∧ ∀ i, r ≤ i → i < E.length → k < E.getD i 0) ∧ Below w.heap.size w w' := by
  have HG := Lib.hid h
  have HF := Lib.hid hf
  have HUP := Lib.hid (show (E.map fun (n : Nat) => (n : Int)).Pairwise (· ≤ ·) from by
    rw [List.pairwise_map]
    exact hup.imp fun h => by omega)
  obtain ⟨A0, c0, hv0⟩ := h.raw.formL
  have hgl := h.lt
  clear h hf hup
  go_enter Tryz.func22, Tryz.ntmps22
  go_upto_region 1 with fail
  obtain ⟨w1, hw1⟩ : ∃ w1, w1 = w.alloc (Obj.cells #[Value.int IntKind.i64 f.1, Value.slice A2 f.2.length c2] 39) := ⟨_, rfl⟩
  have X1 : Blk w1 w.heap.size 39 #[.int .i64 f.1, .slice A2 f.2.length c2] := by rw [hw1]; exact Blk.new _ _ _
  have B1 : Below w.heap.size w w1 := by rw [hw1]; exact below1 _ _
  rw [← hw1]
  clear hw1
  have G1 := HG.out.on B1
  have HG1 := Lib.hid G1
  have q0 : w1.cell? ⟨g, 0, none⟩ = some (.slice A0 X.length c0) := by rw [← hv0]; exact G1.raw.cellList
  have hXc : X.length ≤ c0 := by
    rcases G1.raw.list.2 with ⟨e1, e0⟩ | ⟨b', cap, cur, e1, _, _, h2, _⟩
    · rw [hv0] at e1; injection e1 with _ e2 e3; omega
    · rw [hv0] at e1; injection e1 with _ e2 e3; omega
  have hl := factsX_len X
  have HRD := Lib.hid (rdX G1.raw.list G1.raw.argsL (Nat.le_refl _) hv0 (c' := c0) hXc)
  rw [show (factsX X).take X.length = factsX X from List.take_of_length_le (by rw [hl]; exact Nat.le_refl _)] at HRD
  have CI := Lib.hid (indexFact_any (.slice A0 X.length c0) (factsX X) w.heap.size f A2 c2 w1 HRD.out X1 (HF.out.on B1) (by omega) hXs hfn)
  have HL := Lib.hid hl
  have HB1 := Lib.hid B1
  clear X1 B1 G1 hv0 hl
  go_upto_region 2 with (go_at_call 34; refine CI.out.mono ?_; rintro e2 w2 ⟨hcase, b2⟩; rcases hcase with ⟨rfl, hno⟩ | ⟨k, rfl, hk⟩)
  · have HB2 := Lib.hid (bthen HB1.out b2)
    have HNO := Lib.hid hno
    clear hno b2 q0
    go_wp2_with fail
    go_ret
    exact ⟨.inl ⟨rfl, HNO.out⟩, HB2.out⟩
  · have HB2 := Lib.hid (bthen HB1.out b2)
    have G2 := HG1.out.on b2
    obtain ⟨b1, c1, hv1, hrd⟩ := G2.rdEnds hE
    have q1 : w2.cell? ⟨g, 1, none⟩ = some (.slice (some ⟨b1, 0, none⟩) E.length c1) := by rw [← hv1]; exact G2.raw.cellEnds
    have HK := Lib.hid hk
    have hk0 : ¬ (k : Int) < 0 := by omega
    have hk1 : k < X.length := by rw [← HL.out]; exact hk.1
    have CS := Lib.hid (searchI_any (.slice (some ⟨b1, 0, none⟩) E.length c1) (E.map fun (n : Nat) => (n : Int)) ((k : Int) + 1) w2.heap.size w2 hrd HUP.out (by rw [List.length_map]; exact hE2))
    clear hk b2 q0 G2 hv1 hrd
    go_wp2_with (go_at_call 37; refine CS.out.mono ?_; rintro e3 w3 ⟨⟨i, Rb, rfl, hi, hless, hfrom⟩, rfl⟩; have HI := Lib.hid (And.intro hi (And.intro hless hfrom)); clear hi hless hfrom)
    go_ret
    obtain ⟨hi, hless, hfrom⟩ := HI.out
    rw [List.length_map] at hi
    refine ⟨.inr ⟨i, k, rfl, HK.out, hi, fun j h1 h2 => ?_, fun j h1 h2 => ?_⟩, HB2.out⟩
    · have := hless j (by rw [List.length_map]; exact h2) h1
      simp [List.getD_eq_getElem?_getD, h2] at this ⊢
      omega
    · have := hfrom j (by rw [List.length_map]; exact h2) h1
      simp [List.getD_eq_getElem?_getD, h2] at this ⊢
      omega

end Go.Proofs.YtigkgheddngkeaaGreat
/-
  In which round a fact comes, plain mathematics.
-/
namespace Go.Proofs.YtigkgheddngkeaaGreat
open Go.RowKit

def firstIx (f : LFact) : List (List LFact) → Nat → Int
  | [], _ => -1
  | F :: FF, k => if f ∈ F then (k : Int) else firstIx f FF (k + 1)
theorem firstIx_none {f : LFact} : ∀ {FF : List (List LFact)} {k : Nat}, (∀ F ∈ FF, f ∉ F) → firstIx f FF k = -1
  | [], _, _ => rfl
  | F :: FF, k, h => by
    rw [firstIx, if_neg (h F List.mem_cons_self)]
    exact firstIx_none fun G hG => h G (List.mem_cons_of_mem _ hG)
theorem firstIx_at {f : LFact} : ∀ {FF : List (List LFact)} {k r : Nat} (hr : r < FF.length), f ∈ FF[r] → (∀ i (h : i < FF.length), i < r → f ∉ FF[i]) → firstIx f FF k = (k : Int) + r
  | [], _, _, hr, _, _ => absurd hr (by simp)
  | F :: FF, k, 0, _, h, _ => by
    rw [firstIx, if_pos (show f ∈ F from h)]
    simp
  | F :: FF, k, r + 1, hr, h, hn => by
    rw [firstIx, if_neg (show f ∉ F from hn 0 (by simp) (by omega)), firstIx_at (FF := FF) (k := k + 1) (r := r) (by simpa using hr) h fun i hi hir => hn (i + 1) (by simpa using hi) (by omega)]
    omega
def roundOfL (p : LProg) (fs : List LFact) (f : LFact) : Int := firstIx f (roundsL p fs) 0
theorem firstIx_ge (f : LFact) : ∀ (FF : List (List LFact)) (k : Nat), -1 ≤ firstIx f FF k ∧ firstIx f FF k ≤ (k : Int) + FF.length
  | [], k => by simp [firstIx]
  | F :: FF, k => by
    have := firstIx_ge f FF (k + 1)
    rw [firstIx, List.length_cons]
    split <;> omega
theorem mem_take_ix {L : List LFact} {f : LFact} {k n : Nat} (hn : L.Nodup) (hk : k < L.length) (e : L[k] = f) : f ∈ L.take n ↔ k < n := by
  rw [List.mem_take_iff_getElem]
  constructor
  · rintro ⟨i, hi, e2⟩
    have : i = k := (List.getElem_inj hn).1 (e2.trans e.symm)
    omega
  · intro h
    exact ⟨k, by omega, e⟩
/-- What roundOf hands back is the round. -/
theorem Grown.ix {w : World} {g o m : Nat} {p : LProg} {fs : List LFact} {X : List FV} {E : List Nat} {R : Nat → Value} (h : Grown w g p fs X E o R m) (hl : lokB p fs = true) (f : LFact) :
    (f ∉ factsX X → roundOfL p fs f = -1) ∧ ∀ r k : Nat, (∃ hk : k < (factsX X).length, (factsX X)[k] = f) → r ≤ E.length → (∀ i, i < r → i < E.length → E.getD i 0 ≤ k) → (∀ i, r ≤ i → i < E.length → k < E.getD i 0) → roundOfL p fs f = (r : Int) := by
  obtain ⟨hlen, _⟩ := h.len_ hl
  have hat : ∀ i (hi : i < (roundsL p fs).length), f ∈ (roundsL p fs)[i] ↔ f ∈ (factsX X).take (E.getD i 0) := fun i hi => by
    have him : i ≤ m := by have := h.len; omega
    have he : (roundsL p fs)[i] = iterL p.2 (setOf fs) i := by
      obtain ⟨h1, h2, h3, _⟩ := lok_parts hl
      simp [roundsL, hl, roundsFrom]
    rw [he]
    exact ((h.ends i him).2 f).symm
  refine ⟨fun hn => firstIx_none fun F hF => ?_, fun r k ⟨hk, e⟩ hr h1 h2 => ?_⟩
  · obtain ⟨i, hi, rfl⟩ := List.getElem_of_mem hF
    rw [hat i hi]
    exact fun hm => hn (List.mem_of_mem_take hm)
  · have hlm := h.len
    have hr2 : r < E.length := by
      apply Classical.byContradiction
      intro hc
      have h3 := h1 m (by omega) (by omega)
      have h4 : f ∈ factsX X := by rw [← e]; exact List.getElem_mem hk
      rw [h.now, ← (h.ends m (Nat.le_refl _)).2, mem_take_ix h.fit.nodup hk e] at h4
      omega
    unfold roundOfL
    rw [firstIx_at (r := r) (by omega) ((hat r (by omega)).2 ((mem_take_ix h.fit.nodup hk e).2 (h2 r (Nat.le_refl _) hr2))) fun i hi hir => by
      rw [hat i hi, mem_take_ix h.fit.nodup hk e]
      have := h1 i hir (by omega)
      omega]
    simp

end Go.Proofs.YtigkgheddngkeaaGreat
/-
  RoundOf: the specification's and the program's.
-/
namespace Go.Proofs.YtigkgheddngkeaaGreat
open Go.RowKit

theorem Grown.shorts {w : World} {g o m : Nat} {p : LProg} {fs : List LFact} {X : List FV} {E : List Nat} {R : Nat → Value} (h : Grown w g p fs X E o R m) (hl : lokB p fs = true) : X.length ≤ 1536 ∧ (∀ x ∈ factsX X, x.2.length ≤ 1048576) ∧ 0 < E.length := by
  obtain ⟨h1, _⟩ := lok_parts hl
  refine ⟨h.at_.few h1 h.fit, fun x hx => ?_, by have := h.len; omega⟩
  have := fits_short h1 (h.fit.fits x hx)
  omega

set_option maxHeartbeats 4000000 in
set_option maxRecDepth 100000 in
theorem implRoundOf_any (v v2 v3 : Value) (p : LProg) (fs : List LFact) (f : LFact) (w : World) (h : RdProg w w.heap.size v p) (h2 : RdFacts w w.heap.size v2 fs) (h3 : RdFact w w.heap.size v3 f) (hs : szP p ≤ 1048576) (hn : fs.length ≤ 1048576) (ht : tot fs ≤ 1048576) (hf : f.2.length ≤ 1048576) :
    Calls Tryz.prog 11 #[v, v2, v3] w fun e w' => e = .returned (.int .i64 (roundOfL p fs f)) ∧ Below w.heap.size w w' := by
  have HP := Lib.hid h
  have H2 := Lib.hid h2
  obtain ⟨a, b, rfl, hA, hR⟩ := h
  obtain ⟨A, c, rfl, hcA, _⟩ := hA
  obtain ⟨A2, c2, rfl, hcR, _⟩ := hR
  obtain ⟨A3, c3, rfl, hcF, _⟩ := h2
  obtain ⟨a3, rfl, ha3⟩ := h3
  have H3 := Lib.hid ha3
  obtain ⟨A4, c4, rfl, hc4, _⟩ := ha3
  obtain ⟨R, hRR⟩ : ∃ R, R = roundOfL p fs f := ⟨_, rfl⟩
  have HRR := Lib.hid hRR
  rw [← hRR]
  clear hRR
  go_enter Tryz.func11, Tryz.ntmps11
  go_upto_region 1 with fail
  obtain ⟨w1, hw1⟩ : ∃ w1, w1 = w.alloc (Obj.cells #[Value.slice A p.1.length c, Value.slice A2 p.2.length c2] 35) := ⟨_, rfl⟩
  have X1 : Blk w1 w.heap.size 35 #[.slice A p.1.length c, .slice A2 p.2.length c2] := by rw [hw1]; exact Blk.new _ _ _
  have B1 : Below w.heap.size w w1 := by rw [hw1]; exact below1 _ _
  have hs1 : w1.heap.size = w.heap.size + 1 := by rw [hw1]; simp
  rw [← hw1]
  clear hw1
  obtain ⟨w2, hw2⟩ : ∃ w2, w2 = w1.alloc (Obj.cells #[Value.int IntKind.i64 f.1, Value.slice A4 f.2.length c4] 39) := ⟨_, rfl⟩
  have Y2 : Blk w2 (w.heap.size + 1) 39 #[.int .i64 f.1, .slice A4 f.2.length c4] := by rw [hw2, ← hs1]; exact Blk.new _ _ _
  have b2 : Below w1.heap.size w1 w2 := by rw [hw2]; exact below1 _ _
  rw [← hw2]
  clear hw2
  have X2 := X1.below b2 X1.lt
  have B2 := bthen B1 b2
  have x0 : w2.cell? ⟨w.heap.size, 0, none⟩ = some (.slice A p.1.length c) := X2.cell 0
  have x1 : w2.cell? ⟨w.heap.size, 1, none⟩ = some (.slice A2 p.2.length c2) := X2.cell 1
  have CG := Lib.hid (growthOf_any _ _ p fs w2 (HP.out.on B2) (H2.out.on B2) hs hn ht)
  have HY2 := Lib.hid Y2
  have HB2 := Lib.hid B2
  clear X1 X2 Y2 B1 B2 b2 hs1
  go_upto_region 2 with (go_at_call 21; refine CG.out.mono ?_; rintro e w3 ⟨hcase, b3⟩; rcases hcase with ⟨hno, rfl⟩ | ⟨hyes, g, X, E, o, Rg, m, rfl, hg, hgr⟩)
  · have HNO := Lib.hid hno
    have HB3 := Lib.hid (bthen HB2.out b3)
    clear hno b3 x0 x1
    go_wp2_with fail
    go_ret
    exact ⟨by rw [HRR.out]; unfold roundOfL roundsL; rw [HNO.out]; rfl, HB3.out⟩
  · have HGR := Lib.hid hgr
    have HY := Lib.hid hyes
    have hB3 := bthen HB2.out b3
    have HB3 := Lib.hid hB3
    have Y3 := HY2.out.below b3 HY2.out.lt
    have y0 : w3.cell? ⟨w.heap.size + 1, 0, none⟩ = some (.int .i64 f.1) := Y3.cell 0
    have y1 : w3.cell? ⟨w.heap.size + 1, 1, none⟩ = some (.slice A4 f.2.length c4) := Y3.cell 1
    obtain ⟨s1, s2, s3⟩ := hgr.shorts hyes
    have CR := Lib.hid (roundOf_any g X E o X.length Rg f A4 c4 w3 hgr.at_ (H3.out.on hB3) (by omega) s2 hf s3 (by have := (hgr.len_ hyes).2; omega) hgr.up)
    clear hgr hyes b3 x0 x1 hB3 Y3 s1 s2 s3
    go_wp2_with (go_at_call 22; refine CR.out.mono ?_; rintro e w4 ⟨hcase, b4⟩; have HC := Lib.hid hcase; have HB4 := Lib.hid (bthen HB3.out b4); clear b4; rcases hcase with ⟨rfl, hno⟩ | ⟨r, k, rfl, hrk⟩)
    · have HNO := Lib.hid hno
      clear hno HC
      go_wp2_with fail
      go_ret
      exact ⟨ret_int (by rw [HRR.out, (HGR.out.ix HY.out f).1 HNO.out]), HB4.out⟩
    · have HRK := Lib.hid hrk
      clear hrk HC
      go_wp2_with fail
      go_ret
      exact ⟨ret_int (by rw [HRR.out, (HGR.out.ix HY.out f).2 r k HRK.out.1 HRK.out.2.1 HRK.out.2.2.1 HRK.out.2.2.2]), HB4.out⟩

set_option maxHeartbeats 4000000 in
set_option maxRecDepth 100000 in
theorem specRoundOf_any (v v2 v3 : Value) (p : LProg) (fs : List LFact) (f : LFact) (w : World) (h : RdProg w w.heap.size v p) (h2 : RdFacts w w.heap.size v2 fs) (h3 : RdFact w w.heap.size v3 f) (hs : szP p ≤ 1048576) (hn : fs.length ≤ 1048576) (ht : tot fs ≤ 1048576) (hf : f.2.length ≤ 1048576) :
    Calls Tryz.prog 7 #[v, v2, v3] w fun e w' => e = .returned (.int .i64 (roundOfL p fs f)) ∧ Below w.heap.size w w' := by
  have HP := Lib.hid h
  have H2 := Lib.hid h2
  obtain ⟨a, b, rfl, hA, hR⟩ := h
  obtain ⟨A, c, rfl, hcA, _⟩ := hA
  obtain ⟨A2, c2, rfl, hcR, _⟩ := hR
  obtain ⟨A3, c3, rfl, hcF, _⟩ := h2
  obtain ⟨a3, rfl, ha3⟩ := h3
  have H3 := Lib.hid ha3
  obtain ⟨A4, c4, rfl, hc4, _⟩ := ha3
  obtain ⟨R, hRR⟩ : ∃ R, R = roundOfL p fs f := ⟨_, rfl⟩
  obtain ⟨RS, hRS⟩ : ∃ RS, RS = roundsL p fs := ⟨_, rfl⟩
  have HRR := Lib.hid (show R = firstIx f RS 0 by rw [hRR, hRS]; rfl)
  have HFW := Lib.hid (show RS.length ≤ 2001 ∧ ∀ F ∈ RS, szF F ≤ 1048576 from by
    rw [hRS]
    refine ⟨?_, fun F hF => (roundsL_few p fs).2 F hF⟩
    unfold roundsL
    split
    · have h4 : roundsM p.2 (setOf fs) ≤ 2000 := firstM_le p.2 (setOf fs) 2000 0
      simp [roundsFrom]
      omega
    · simp)
  have HRS := Lib.hid hRS
  rw [← hRR]
  clear hRR hRS
  go_enter Tryz.func7, Tryz.ntmps7
  go_upto_region 1 with fail
  obtain ⟨w1, hw1⟩ : ∃ w1, w1 = w.alloc (Obj.cells #[Value.slice A p.1.length c, Value.slice A2 p.2.length c2] 35) := ⟨_, rfl⟩
  have X1 : Blk w1 w.heap.size 35 #[.slice A p.1.length c, .slice A2 p.2.length c2] := by rw [hw1]; exact Blk.new _ _ _
  have B1 : Below w.heap.size w w1 := by rw [hw1]; exact below1 _ _
  have hs1 : w1.heap.size = w.heap.size + 1 := by rw [hw1]; simp
  rw [← hw1]
  clear hw1
  obtain ⟨w2, hw2⟩ : ∃ w2, w2 = w1.alloc (Obj.cells #[Value.int IntKind.i64 f.1, Value.slice A4 f.2.length c4] 39) := ⟨_, rfl⟩
  have Y2 : Blk w2 (w.heap.size + 1) 39 #[.int .i64 f.1, .slice A4 f.2.length c4] := by rw [hw2, ← hs1]; exact Blk.new _ _ _
  have b2 : Below w1.heap.size w1 w2 := by rw [hw2]; exact below1 _ _
  rw [← hw2]
  clear hw2
  have X2 := X1.below b2 X1.lt
  have B2 := bthen B1 b2
  have x0 : w2.cell? ⟨w.heap.size, 0, none⟩ = some (.slice A p.1.length c) := X2.cell 0
  have x1 : w2.cell? ⟨w.heap.size, 1, none⟩ = some (.slice A2 p.2.length c2) := X2.cell 1
  have CG := Lib.hid (specRounds_any _ _ p fs w2 (HP.out.on B2) (H2.out.on B2) hs hn ht)
  rw [← HRS.out] at CG
  have HY2 := Lib.hid Y2
  have HB2 := Lib.hid B2
  clear X1 X2 Y2 B1 B2 b2 hs1
  go_upto_region 2 with (go_at_call 17; refine CG.out.mono ?_; rintro e w3 ⟨A5, c5, rfl, o5, b3⟩; have HO := Lib.hid (And.intro o5 b3); clear o5 b3)
  clear x0 x1
  have HB3 := Lib.hid (bthen HB2.out HO.out.2)
  have HY3 := Lib.hid (HY2.out.below HO.out.2 HY2.out.lt)
  have hn5 : RS.length ≤ 2001 := HFW.out.1
  go_wp2_with fail
  go_loopw [8] (fun i wr => ∃ k : Nat, k ≤ RS.length ∧ i = .int .i64 k ∧ (∀ j (hj : j < RS.length), j < k → f ∉ RS[j]) ∧ Below w3.heap.size w3 wr) (fun i _ => RS.length - (intOf i).toNat)
  case atStart => exact ⟨0, Nat.zero_le _, rfl, fun j _ h => absurd h (by omega), Below.refl _ _⟩
  case round =>
    obtain ⟨k, hk, rfl, hs2, hbe⟩ := hrel
    by_cases hlt : k < RS.length
    · obtain ⟨hv, P, Q, hff⟩ := HO.out.1.below hbe (Nat.le_refl _)
      obtain ⟨gr, A6, c6, rfl, hgr, hlo, k0, o0, _, _⟩ := hff.get hlt
      have HR0 := Lib.hid o0.rdS
      have Y4 := HY3.out.below hbe HY3.out.lt
      have HYR := Lib.hid Y4
      have HS2 := Lib.hid hs2
      have HBE := Lib.hid hbe
      have hfl := HFW.out.2 _ (List.getElem_mem hlt)
      obtain ⟨F, hFe⟩ : ∃ F, F = RS[k] := ⟨_, rfl⟩
      rw [← hFe] at k0 HR0 hfl
      have HFE := Lib.hid hFe
      unfold szF at hfl
      clear hff o0 hs2 hbe Y4 hFe
      go_upto_region 5 with fail
      obtain ⟨wo, rfl⟩ : ∃ wo, wo = wr := ⟨_, rfl⟩
      obtain ⟨SS, hSS⟩ : ∃ SS : World → Prop, SS = (fun W => W.cell? ⟨gr, k, none⟩ = some (.slice A6 F.length c6) ∧ W.cell? ⟨w.heap.size + 1, 0, none⟩ = some (.int .i64 f.1) ∧ W.cell? ⟨w.heap.size + 1, 1, none⟩ = some (.slice A4 f.2.length c4)) := ⟨_, rfl⟩
      have HB := Lib.hid (show ∀ W, SS W → (W.cell? ⟨gr, k, none⟩ = some (.slice A6 F.length c6) ∧ W.cell? ⟨w.heap.size + 1, 0, none⟩ = some (.int .i64 f.1) ∧ W.cell? ⟨w.heap.size + 1, 1, none⟩ = some (.slice A4 f.2.length c4)) from by rw [hSS]; exact fun W hW => hW)
      have SB : SS wo.drew := by
        rw [hSS]
        exact ⟨k0, HYR.out.cell 0, HYR.out.cell 1⟩
      have BB : Below wo.heap.size wo wo.drew := (Below.refl _ _).drew
      have HBB := Lib.hid (bthen HBE.out BB)
      have CH := Lib.hid (specFactsHas_any (.slice A6 F.length c6) (.agg #[.int .i64 f.1, .slice A4 f.2.length c4]) F f wo.drew (HR0.out.on BB) ⟨_, rfl, H3.out.on (HB3.out.trans (HBB.out.mono HB3.out.size))⟩ (by omega) (by omega) hf)
      rw [factsHas_in] at CH
      have hki : (k : Int) < (RS.length : Int) := by omega
      clear hSS k0
      by_cases hm : f ∈ F
      · rw [decide_eq_true hm] at CH
        have HM := Lib.hid hm
        clear hm
        refine wp_region_rel SS 5 6 (by kernel_rfl) rfl ?_
        refine wpAnyR_pure (i := 0) (oi := _) ?va0 rfl rfl (by kernel_rfl) (by decide) (fun _ _ _ h => h) rfl ?hya0 (fun _ => SB) ?resta0
        case hya0 => (intro W; go_simp; (try with_reducible rfl))
        try simp only [List.setIfInBounds_toArray, List.set_cons_zero, List.set_cons_succ]
        refine wpAnyR_pure (i := 1) (oi := _) ?va1 rfl rfl (by kernel_rfl) (by decide) (fun _ _ _ h => h) rfl ?hya1 (fun _ => SB) ?resta1
        case hya1 => (intro W; go_simp; (try with_reducible rfl))
        try simp only [List.setIfInBounds_toArray, List.set_cons_zero, List.set_cons_succ]
        refine wpAnyR_pure (i := 2) (oi := _) ?va2 rfl rfl (by kernel_rfl) (by decide) (fun _ _ _ h => h) rfl ?hya2 (fun _ => SB) ?resta2
        case hya2 => (intro W; go_simp; (try with_reducible rfl))
        try simp only [List.setIfInBounds_toArray, List.set_cons_zero, List.set_cons_succ]
        refine wpAnyR_take (i := 3) (oi := _) ?va3 rfl rfl (by kernel_rfl) (fun _ _ _ h => h) rfl ?hya3 SB ?resta3
        case hya3 => (intro W hW; obtain ⟨E0, _, _⟩ := HB.out W hW; go_simp; (try with_reducible rfl))
        try simp only [List.setIfInBounds_toArray, List.set_cons_zero, List.set_cons_succ]
        refine wpAnyR_take (i := 4) (oi := _) ?va4 rfl rfl (by kernel_rfl) (fun _ _ _ h => h) rfl ?hya4 SB ?resta4
        case hya4 => (intro W hW; obtain ⟨_, E0, E1⟩ := HB.out W hW; go_simp; (try with_reducible rfl))
        try simp only [List.setIfInBounds_toArray, List.set_cons_zero, List.set_cons_succ]
        refine wpAnyR_one (i := 5) (by kernel_rfl) rfl (fun K hK => ?_)
        try rw [if_pos (show Region.wanted _ _ = true from rfl)]
        go_simp
        refine CH.out.mono ?_
        rintro e6 w6 ⟨rfl, b6⟩
        have H6 := Lib.hid b6
        clear b6
        refine hK.out _ _ (fun hf => absurd hf (by decide)) ?_
        clear hK K
        try simp only [List.setIfInBounds_toArray, List.set_cons_zero, List.set_cons_succ, Act.put]
        refine wpAnyR_done (by kernel_rfl) ?_
        go_wp2_with fail
        go_ret
        refine ⟨ret_int ?_, HB3.out.trans ((bthen HBB.out H6.out).mono HB3.out.size)⟩
        rw [HRR.out, firstIx_at (r := k) hlt (by rw [← HFE.out]; exact HM.out) fun i hi hik => HS2.out i hi hik]
        simp
      · rw [decide_eq_false hm] at CH
        have HM := Lib.hid hm
        clear hm
        refine wp_region_rel SS 5 6 (by kernel_rfl) rfl ?_
        refine wpAnyR_pure (i := 0) (oi := _) ?vb0 rfl rfl (by kernel_rfl) (by decide) (fun _ _ _ h => h) rfl ?hyb0 (fun _ => SB) ?restb0
        case hyb0 => (intro W; go_simp; (try with_reducible rfl))
        try simp only [List.setIfInBounds_toArray, List.set_cons_zero, List.set_cons_succ]
        refine wpAnyR_pure (i := 1) (oi := _) ?vb1 rfl rfl (by kernel_rfl) (by decide) (fun _ _ _ h => h) rfl ?hyb1 (fun _ => SB) ?restb1
        case hyb1 => (intro W; go_simp; (try with_reducible rfl))
        try simp only [List.setIfInBounds_toArray, List.set_cons_zero, List.set_cons_succ]
        refine wpAnyR_pure (i := 2) (oi := _) ?vb2 rfl rfl (by kernel_rfl) (by decide) (fun _ _ _ h => h) rfl ?hyb2 (fun _ => SB) ?restb2
        case hyb2 => (intro W; go_simp; (try with_reducible rfl))
        try simp only [List.setIfInBounds_toArray, List.set_cons_zero, List.set_cons_succ]
        refine wpAnyR_take (i := 3) (oi := _) ?vb3 rfl rfl (by kernel_rfl) (fun _ _ _ h => h) rfl ?hyb3 SB ?restb3
        case hyb3 => (intro W hW; obtain ⟨E0, _, _⟩ := HB.out W hW; go_simp; (try with_reducible rfl))
        try simp only [List.setIfInBounds_toArray, List.set_cons_zero, List.set_cons_succ]
        refine wpAnyR_take (i := 4) (oi := _) ?vb4 rfl rfl (by kernel_rfl) (fun _ _ _ h => h) rfl ?hyb4 SB ?restb4
        case hyb4 => (intro W hW; obtain ⟨_, E0, E1⟩ := HB.out W hW; go_simp; (try with_reducible rfl))
        try simp only [List.setIfInBounds_toArray, List.set_cons_zero, List.set_cons_succ]
        refine wpAnyR_one (i := 5) (by kernel_rfl) rfl (fun K hK => ?_)
        try rw [if_pos (show Region.wanted _ _ = true from rfl)]
        go_simp
        refine CH.out.mono ?_
        rintro e6 w6 ⟨rfl, b6⟩
        have H6 := Lib.hid b6
        clear b6
        refine hK.out _ _ (fun hf => absurd hf (by decide)) ?_
        clear hK K
        try simp only [List.setIfInBounds_toArray, List.set_cons_zero, List.set_cons_succ, Act.put]
        refine wpAnyR_done (by kernel_rfl) ?_
        clear SB HB
        go_wp2_with fail
        go_roundw
        case rel => exact ⟨k + 1, by omega, by go_num, fun j hj hjk => by
          by_cases e : j = k
          · subst e
            rw [← HFE.out]
            exact HM.out
          · exact HS2.out j hj (by omega), bthen HBB.out H6.out⟩
        case measure => simp [intOf]; omega
    · have HBE := Lib.hid hbe
      have HNO := Lib.hid (show ∀ F ∈ RS, f ∉ F from fun F hF => by
        obtain ⟨j, hj, rfl⟩ := List.getElem_of_mem hF
        exact hs2 j hj (by omega))
      clear hs2 hbe
      go_wp2_with fail
      go_ret
      exact ⟨ret_int (by rw [HRR.out, firstIx_none HNO.out]), HB3.out.trans (HBE.out.mono HB3.out.size)⟩

end Go.Proofs.YtigkgheddngkeaaGreat
/-
  Marks on rules and programs that are not read again: markRuleS, markProgram.
-/
namespace Go.Proofs.YtigkgheddngkeaaGreat
open Go.RowKit

theorem endR_le (k : Int) (r : LRule) : k ≤ endR k r ∧ endR k r ≤ k + 2 * (szR r : Int) := by
  unfold endR endL szR
  omega
theorem totR_take_le (rs : List LRule) (j : Nat) : totR (rs.take j) ≤ totR rs := by
  have := congrArg (fun l => (l.map szR).sum) (List.take_append_drop j rs)
  simp only [List.map_append, List.sum_append] at this
  unfold totR
  omega

end Go.Proofs.YtigkgheddngkeaaGreat
/-
  What comes in, its lengths.
-/
namespace Go.Proofs.YtigkgheddngkeaaGreat
open Go.RowKit

theorem ruleLens_in {r : LRule} (h : ruleFitsIn r) : ruleLens r := by
  obtain ⟨h1, h2, h3⟩ := h
  unfold maxLen at *
  exact ⟨by omega, by omega, fun k hk => by have := h3 k hk; omega⟩
theorem progLens_in {p : LProg} (h : p.1.length ≤ maxLen ∧ p.2.length ≤ maxLen ∧ ∀ k (h : k < p.2.length), ruleFitsIn p.2[k]) : progLens p := by
  obtain ⟨h1, h2, h3⟩ := h
  refine ⟨?_, ?_, fun k hk => ruleLens_in (h3 k hk)⟩ <;> (unfold maxLen at *; omega)

end Go.Proofs.YtigkgheddngkeaaGreat
/-
  Programs that a call has made, and their sizes and marks, in the one form that the laws' walks ask.
-/
namespace Go.Proofs.YtigkgheddngkeaaGreat
open Go.RowKit

/-- A program whose two rows stand in blocks from lo on and below hi. -/
def OwnProg (w : World) (lo hi : Nat) (v : Value) (p : LProg) : Prop := ∃ a b, v = .agg #[a, b] ∧ OwnInts w lo hi a p.1 ∧ OwnRules w lo hi b p.2
theorem RdProg.more {w : World} {B B' : Nat} {v : Value} {p : LProg} (h : RdProg w B v p) (hB : B ≤ B') : RdProg w B' v p := by
  obtain ⟨a, b, rfl, h1, h2⟩ := h
  exact ⟨a, b, rfl, h1.more hB, h2.more hB⟩
theorem OwnProg.below {w w' : World} {lo hi B : Nat} {v : Value} {p : LProg} (h : OwnProg w lo hi v p) (hb : Below B w w') (hB : hi ≤ B) : OwnProg w' lo hi v p := by
  obtain ⟨a, b, rfl, h1, h2⟩ := h
  exact ⟨a, b, rfl, h1.below hb hB, h2.below hb hB⟩
theorem OwnProg.only {w w' : World} {lo hi lo' hi' : Nat} {v : Value} {p : LProg} (h : OwnProg w lo hi v p) (ho : Only lo' hi' w w') (hd : hi ≤ lo' ∨ hi' ≤ lo) (hh : hi ≤ w.heap.size) : OwnProg w' lo hi v p := by
  obtain ⟨a, b, rfl, h1, h2⟩ := h
  exact ⟨a, b, rfl, h1.only ho hd, h2.keep fun g h3 h4 => ho.block g (by omega) (by omega)⟩
theorem OwnProg.rd {w : World} {lo hi : Nat} {v : Value} {p : LProg} (h : OwnProg w lo hi v p) : RdProg w hi v p := by
  obtain ⟨a, b, rfl, h1, h2⟩ := h
  exact ⟨a, b, rfl, h1.rd, h2.rd⟩

theorem toProgram_own (v : Value) (p : LProg) (w : World) (h : RdProg w w.heap.size v p) (hn : szP p ≤ 1048576) :
    Calls Tryz.prog 8 #[v] w fun e w' => ∃ A c A2 c2, e = .returned (.agg #[.slice A p.1.length c, .slice A2 p.2.length c2]) ∧ OwnProg w' w.heap.size w'.heap.size (.agg #[.slice A p.1.length c, .slice A2 p.2.length c2]) p ∧ Below w.heap.size w w' :=
  (toProgram_any v p w h hn).mono fun _ _ ⟨A, c, A2, c2, he, h1, h2, hb⟩ => ⟨A, c, A2, c2, he, ⟨_, _, rfl, h1, h2⟩, hb⟩

theorem us_prog {v : Value} {p : LProg} {left : Int} {w : World} (h : RdProg w w.heap.size v p) (h0 : 0 ≤ left) (hl : left ≤ 1048576) (hn : progLens p) :
    Calls Tryz.prog 4 #[v, .int .i64 left] w fun e w' => ∃ z, e = .returned (.int .i64 z) ∧ (z = -1 ∨ (0 ≤ z ∧ z + szP p = left)) ∧ Below w.heap.size w w' :=
  szProgram_any v p left w h h0 hl hn

end Go.Proofs.YtigkgheddngkeaaGreat
/-
  Marks on integers, in the one form that the laws' walks ask.
-/
namespace Go.Proofs.YtigkgheddngkeaaGreat
open Go.RowKit

/-- The marks from k on stand in a row of integers, and end at z. -/
def HdInts (w : World) (lo hi : Nat) (v : Value) (xs : List Int) (k z : Int) : Prop := OwnInts w lo hi v (seqI k xs.length) ∧ z = k + xs.length ∧ 0 ≤ k ∧ k ≤ 4294967296 ∧ xs.length ≤ 1073741824
theorem HdInts.below {w w' : World} {lo hi B : Nat} {v : Value} {xs : List Int} {k z : Int} (h : HdInts w lo hi v xs k z) (hb : Below B w w') (hB : hi ≤ B) : HdInts w' lo hi v xs k z := ⟨h.1.below hb hB, h.2⟩
theorem HdInts.only {w w' : World} {lo hi lo' hi' : Nat} {v : Value} {xs : List Int} {k z : Int} (h : HdInts w lo hi v xs k z) (ho : Only lo' hi' w w') (hd : hi ≤ lo' ∨ hi' ≤ lo) : HdInts w' lo hi v xs k z := ⟨h.1.only ho hd, h.2⟩

end Go.Proofs.YtigkgheddngkeaaGreat
/-
  Marks and sizes of a fact, in the one form that the laws' walks ask.
-/
namespace Go.Proofs.YtigkgheddngkeaaGreat
open Go.RowKit

theorem us_fact {v : Value} {f : LFact} {left : Int} {w : World} (h : RdFact w w.heap.size v f) (h0 : 0 ≤ left) (hl : left ≤ 1048576) (hn : f.2.length ≤ maxLen) :
    Calls Tryz.prog 6 #[v, .int .i64 left] w fun e w' => ∃ z, e = .returned (.int .i64 z) ∧ (z = -1 ∨ (0 ≤ z ∧ z + f.2.length = left)) ∧ Below w.heap.size w w' :=
  (szFact_any v f left w h h0 hl (by unfold maxLen at hn; omega)).mono fun _ _ ⟨he, hb⟩ => ⟨_, he, (szV_cases left f.2.length).imp And.left id, hb⟩

end Go.Proofs.YtigkgheddngkeaaGreat
/-
  What comes in, opened into the words of the Base text.
-/
namespace Go.Proofs.YtigkgheddngkeaaGreat
open Go.ChangeShapes Go.WideShapes Go.ChangeAt Go.RowKit Go.Joins Go.Deep

section
variable {H : Type} {enc : TypeId × Value → H} {W : World}

def InFact (W : World) (v : Value) (f : LFact) : Prop := RdFact W W.heap.size v f ∧ f.2.length ≤ maxLen
def InFacts (W : World) (v : Value) (fs : List LFact) : Prop := RdFacts W W.heap.size v fs ∧ fs.length ≤ maxLen ∧ ∀ k (h : k < fs.length), fs[k].2.length ≤ maxLen

theorem Tryz.cells28 : Tryz.prog.cellsOf 28 = 2 := by kernel_rfl
set_option maxRecDepth 100000 in
theorem open_inFact {v : Value} {d : DataW H} {p : List MemPlace} {b0 : Nat} (hv : Value.okWide Tryz.prog W .any b0 28 v) (h : DataW.Trod enc Tryz.prog W 0 (fun _ => true) true 28 v d p) :
    ∃ f, InFact W v f := by
  obtain ⟨v0, v1, y0, y1, n, rfl, _, _, h0, h1⟩ := open_agg2 Tryz.underlying28 (by kernel_rfl) Tryz.cells28 hv h
  obtain ⟨m, e0, _, _⟩ := DataW.trod_int Tryz.underlying3 h0
  simp at e0
  subst e0
  obtain ⟨xs, hx⟩ := open_inInts_cells h1
  exact ⟨(m, xs), ⟨v1, rfl, hx.1⟩, hx.2⟩

set_option maxRecDepth 100000 in
theorem open_inFacts {v : Value} {d : DataW H} {p : List MemPlace} {b0 : Nat} (hv : Value.okWide Tryz.prog W .any b0 26 v) (h : DataW.Trod enc Tryz.prog W 0 (fun _ => true) true 26 v d p) :
    ∃ fs, InFacts W v fs := by
  obtain ⟨a, len, cap, rfl⟩ := okWide_slice Tryz.underlying26 hv
  obtain ⟨fuel, hf⟩ := h
  rcases open_slice_pairs Tryz.underlying26 Tryz.underlying28 Tryz.cells28 rfl rfl Tryz.cells3 Tryz.cells22 hf with ⟨hcs, _⟩ | ⟨a', len', cap', m, n, V0, V1, D0, D1, P0, P1, hcs, _, hl, hm, hmm, _, hx⟩
  · simp [Value.cells] at hcs
    obtain ⟨rfl, rfl, rfl⟩ := hcs
    exact ⟨[], ⟨none, 0, rfl, by simp, fun h => absurd h (by simp)⟩, by simp, fun k h => absurd h (by simp)⟩
  · simp [Value.cells] at hcs
    obtain ⟨rfl, rfl, rfl⟩ := hcs
    simp at hmm
    subst hmm
    obtain ⟨F, hF⟩ := choose_lt (α := LFact) (n := len) (p := fun i f => V0 i = .int .i64 f.1 ∧ InInts W (V1 i) f.2) (fun i hi => by
      obtain ⟨_, _, h0, h1⟩ := hx i (by omega)
      obtain ⟨q, e0, _, _⟩ := DataW.trod_int Tryz.underlying3 h0
      obtain ⟨xs, hxs⟩ := open_inInts_cells h1
      simp at e0
      exact ⟨(q, xs), e0, hxs⟩)
    refine ⟨(List.range len).map F, ⟨some a', m, by simp, by simpa using hl, fun hn => ?_⟩, by simp; omega, fun k hk => ?_⟩
    · simp at hn
      obtain ⟨b, off, spot⟩ := a'
      have hspot : spot = none := by simpa [Addr.add] using World.cell?_spot (hx 0 (by omega)).1
      subst hspot
      have hb : b < W.heap.size := by simpa [Addr.add] using World.block_lt_of_cell? _ _ (hx 0 (by omega)).1
      refine ⟨b, off, rfl, hb, fun k hk => ?_⟩
      simp at hk
      obtain ⟨c0, c1, _, _⟩ := hx k (by omega)
      obtain ⟨e0, e1⟩ := hF k hk
      rw [Go.WideShapes.add_plain, e0] at c0
      rw [Go.WideShapes.add_plain] at c1
      exact ⟨V1 k, by simpa using c0, by simpa [Nat.add_assoc] using c1, by simpa using e1.1⟩
    · simp at hk ⊢
      exact (hF k hk).2.2
end

end Go.Proofs.YtigkgheddngkeaaGreat
