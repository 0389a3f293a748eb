/-
  Texts that the claim's last one imports, laid together: part 2 of 13. No condition of its own.
-/
import Derived.Maps.AppendAt
import Derived.Deep.AppendLies
import Derived.StillTailTactics
import Derived.Deep.QuietTactic
import Derived.BigQuiet
import Derived.Deep.Quiet
import Derived.Laws.BitsAllLaws
import Derived.Shelf.Spec.TrailingZeros
import Derived.Laws.Bits64b
import Derived.Test.YtigkgheddngkeaaGreatDoorRows
import Derived.Stop.LaidErr
import Derived.Lib.LaidTab
import Derived.MakeChecks
import Derived.Deep.RegionHeld3
import Derived.Deep.DeepCutAuto
import Derived.Test.YtigkgheddngkeaaGreatDoorMLe1
/-
  Marks on what is not read again: a store of a number over a number keeps the shape of all that lies there. The words, and the walks of markIntS, markAtom, markLitS, markRule, markRuleS, markProgram.
-/
namespace Go.Proofs.YtigkgheddngkeaaGreatDoor
open Go.RowKit

/-- Blocks outside [lo, hi) are as they were; within, numbers may have become others. -/
structure Marked (lo hi : Nat) (w w' : World) : Prop where
  only : Only lo hi w w'
  cell : ∀ p : Addr, p.block < w.heap.size → w'.cell? p = w.cell? p ∨ ∃ x y, w.cell? p = some (.int .i64 x) ∧ w'.cell? p = some (.int .i64 y)
  frozen : ∀ p : Addr, p.block < w.heap.size → w'.frozen? p = w.frozen? p

section
variable {lo hi : Nat} {w w1 w' : World}
theorem Marked.refl (lo hi : Nat) (w : World) : Marked lo hi w w := ⟨Only.refl _ _ _, fun _ _ => .inl rfl, fun _ _ => rfl⟩
theorem Marked.trans (h : Marked lo hi w w1) (k : Marked lo hi w1 w') : Marked lo hi w w' := by
  refine ⟨h.only.trans k.only, fun p hp => ?_, fun p hp => (k.frozen p (Nat.lt_of_lt_of_le hp h.only.size)).trans (h.frozen p hp)⟩
  rcases h.cell p hp with e | ⟨x, y, e1, e2⟩
  · rcases k.cell p (Nat.lt_of_lt_of_le hp h.only.size) with e' | ⟨x', y', e1', e2'⟩
    · exact .inl (e'.trans e)
    · exact .inr ⟨x', y', e ▸ e1', e2'⟩
  · rcases k.cell p (Nat.lt_of_lt_of_le hp h.only.size) with e' | ⟨x', y', e1', e2'⟩
    · exact .inr ⟨x, y, e1, e'.trans e2⟩
    · exact .inr ⟨x, y', e1, e2'⟩
theorem Marked.of_below (h : Below w.heap.size w w') : Marked lo hi w w' := ⟨Only.of_below h, fun _ hp => .inl (h.cell hp), fun _ hp => h.frozen hp⟩
theorem Marked.store {p : Addr} {x : Int} (hp : lo ≤ p.block ∧ p.block < hi) (hc : w.cell? p = some (.int .i64 x)) (y : Int) : Marked lo hi w (w.setCell p (.int .i64 y)) := by
  refine ⟨(Only.refl _ _ _).setCell hp _, fun q _ => ?_, fun q _ => ?_⟩
  · by_cases e : q = p
    · subst e
      exact .inr ⟨x, y, hc, World.cell?_setCell_same _ _ _ hc⟩
    · exact .inl (World.cell?_setCell_other _ _ _ _ (fun e' => e e'.symm))
  · unfold World.frozen? World.setCell
    rw [Array.getElem?_modify]
    by_cases e : p.block = q.block
    · rw [if_pos e]
      cases hq : w.heap[q.block]? with
      | none => rfl
      | some o => cases o <;> rfl
    · rw [if_neg e]

/-- A slice of n numbers, of blocks from lo on and below hi, that may be written. -/
def WrInts (w : World) (lo hi : Nat) (v : Value) (n : Nat) : Prop :=
  ∃ A c, v = .slice A n c ∧ (0 < n → ∃ b o, A = some ⟨b, o, none⟩ ∧ lo ≤ b ∧ b < hi ∧ ∀ k, k < n → w.frozen? ⟨b, o + k, none⟩ = false ∧ ∃ x, w.cell? ⟨b, o + k, none⟩ = some (.int .i64 x))
theorem Marked.int (h : Marked lo hi w w') {p : Addr} {x : Int} (hc : w.cell? p = some (.int .i64 x)) : ∃ y, w'.cell? p = some (.int .i64 y) := by
  rcases h.cell p (World.block_lt_of_cell? _ _ hc) with e | ⟨_, y, _, e⟩
  · exact ⟨x, e.trans hc⟩
  · exact ⟨y, e⟩
theorem Marked.slice (h : Marked lo hi w w') {p : Addr} {A : Option Addr} {n c : Nat} (hc : w.cell? p = some (.slice A n c)) : w'.cell? p = some (.slice A n c) := by
  rcases h.cell p (World.block_lt_of_cell? _ _ hc) with e | ⟨x, y, e, _⟩
  · exact e.trans hc
  · rw [hc] at e
    cases e
theorem WrInts.marked {v : Value} {n : Nat} (h : WrInts w lo hi v n) (hm : Marked lo hi w w') : WrInts w' lo hi v n := by
  obtain ⟨A, c, rfl, h⟩ := h
  refine ⟨A, c, rfl, fun hn => ?_⟩
  obtain ⟨b, o, rfl, h1, h2, hx⟩ := h hn
  refine ⟨b, o, rfl, h1, h2, fun k hk => ?_⟩
  obtain ⟨hf, x, hc⟩ := hx k hk
  exact ⟨(hm.frozen _ (World.block_lt_of_cell? _ _ hc)).trans hf, hm.int hc⟩
theorem OwnInts.wr {v : Value} {xs : List Int} (h : OwnInts w lo hi v xs) : WrInts w lo hi v xs.length := by
  have hrd := h.rd
  obtain ⟨⟨hlen, h⟩, hlt⟩ := h
  rcases h with ⟨rfl, h0⟩ | ⟨g, cap, cur, rfl, hbg, hg, hn, hm, hs, ht⟩
  · exact ⟨none, 0, by rw [h0], fun hn => absurd hn (by omega)⟩
  · refine ⟨_, cap, rfl, fun hn0 => ⟨g, 0, rfl, hbg, hlt g rfl, fun k hk => ⟨by simp [World.frozen?, hg], ?_⟩⟩⟩
    obtain ⟨A', c', e, _, hx⟩ := hrd
    injection e with e1 _ _
    obtain ⟨b, o, e2, _, hx⟩ := hx hn0
    rw [← e1] at e2
    injection e2 with e2
    injection e2 with e2 e3 _
    subst e2
    subst e3
    exact ⟨_, hx k hk⟩

def WLit (w : World) (lo hi : Nat) (u0 u1 u2 : Value) (l : LLit) : Prop := (∃ x, u0 = .int .i64 x) ∧ (∃ y, u1 = .int .i64 y) ∧ WrInts w lo hi u2 l.2.2.length
def WrLits (w : World) (lo hi : Nat) (v : Value) (ls : List LLit) : Prop := OwnRow WLit w lo hi v ls
theorem OwnLits.wr {v : Value} {ls : List LLit} (h : OwnLits w lo hi v ls) : WrLits w lo hi v ls := by
  obtain ⟨A, c, rfl, hc, h⟩ := h
  refine ⟨A, c, rfl, hc, fun hn => ?_⟩
  obtain ⟨b, o, rfl, h1, h2, hx⟩ := h hn
  refine ⟨b, o, rfl, h1, h2, fun k hk => ?_⟩
  obtain ⟨hf, u0, u1, u2, c0, c1, c2, rfl, rfl, hI⟩ := hx k hk
  exact ⟨hf, _, _, _, c0, c1, c2, ⟨_, rfl⟩, ⟨_, rfl⟩, hI.wr⟩
theorem WrLits.marked {v : Value} {ls : List LLit} (h : WrLits w lo hi v ls) (hm : Marked lo hi w w') : WrLits w' lo hi v ls := by
  obtain ⟨A, c, rfl, hc, h⟩ := h
  refine ⟨A, c, rfl, hc, fun hn => ?_⟩
  obtain ⟨b, o, rfl, h1, h2, hx⟩ := h hn
  refine ⟨b, o, rfl, h1, h2, fun k hk => ?_⟩
  obtain ⟨⟨f0, f1⟩, u0, u1, u2, c0, c1, c2, ⟨x, rfl⟩, ⟨y, rfl⟩, hI⟩ := hx k hk
  obtain ⟨x', d0⟩ := hm.int c0
  obtain ⟨y', d1⟩ := hm.int c1
  obtain ⟨A2, c2', rfl, hi⟩ := hI
  exact ⟨⟨(hm.frozen _ (World.block_lt_of_cell? _ _ c0)).trans f0, (hm.frozen _ (World.block_lt_of_cell? _ _ c1)).trans f1⟩, _, _, _, d0, d1, hm.slice c2, ⟨_, rfl⟩, ⟨_, rfl⟩, WrInts.marked ⟨A2, c2', rfl, hi⟩ hm⟩

def WRule (w : World) (lo hi : Nat) (u0 u1 u2 : Value) (r : LRule) : Prop := (∃ x, u0 = .int .i64 x) ∧ WrInts w lo hi u1 r.1.2.length ∧ WrLits w lo hi u2 r.2
def WrRules (w : World) (lo hi : Nat) (v : Value) (rs : List LRule) : Prop := OwnRow WRule w lo hi v rs
theorem OwnRules.wr {v : Value} {rs : List LRule} (h : OwnRules w lo hi v rs) : WrRules w lo hi v rs := by
  obtain ⟨A, c, rfl, hc, h⟩ := h
  refine ⟨A, c, rfl, hc, fun hn => ?_⟩
  obtain ⟨b, o, rfl, h1, h2, hx⟩ := h hn
  refine ⟨b, o, rfl, h1, h2, fun k hk => ?_⟩
  obtain ⟨hf, u0, u1, u2, c0, c1, c2, rfl, hI, hL⟩ := hx k hk
  exact ⟨hf, _, _, _, c0, c1, c2, ⟨_, rfl⟩, hI.wr, hL.wr⟩
theorem WrRules.marked {v : Value} {rs : List LRule} (h : WrRules w lo hi v rs) (hm : Marked lo hi w w') : WrRules w' lo hi v rs := by
  obtain ⟨A, c, rfl, hc, h⟩ := h
  refine ⟨A, c, rfl, hc, fun hn => ?_⟩
  obtain ⟨b, o, rfl, h1, h2, hx⟩ := h hn
  refine ⟨b, o, rfl, h1, h2, fun k hk => ?_⟩
  obtain ⟨⟨f0, f1⟩, u0, u1, u2, c0, c1, c2, ⟨x, rfl⟩, hI, hL⟩ := hx k hk
  obtain ⟨x', d0⟩ := hm.int c0
  have f1' := (hm.frozen _ (World.block_lt_of_cell? _ _ c1)).trans f1
  obtain ⟨A1, n1, rfl, hi1⟩ := hI
  obtain ⟨A2, n2, rfl, hc2, hi2⟩ := hL
  exact ⟨⟨(hm.frozen _ (World.block_lt_of_cell? _ _ c0)).trans f0, f1'⟩, _, _, _, d0, hm.slice c1, hm.slice c2, ⟨_, rfl⟩, WrInts.marked ⟨A1, n1, rfl, hi1⟩ hm, WrLits.marked ⟨A2, n2, rfl, hc2, hi2⟩ hm⟩
end

set_option maxHeartbeats 400000 in
theorem wmarkIntS_any (v : Value) (n : Nat) (k : Int) (lo hi : Nat) (w : World) (h : WrInts w lo hi v n) (hk0 : 0 ≤ k) (hk : k + n ≤ 4611686018427387904) :
    Calls Tryz.prog 37 #[v, .int .i64 k] w fun e w' => e = .returned (.int .i64 (k + n)) ∧ Marked lo hi w w' := by
  have H := Lib.hid h
  obtain ⟨A, c, rfl, _⟩ := h
  go_enter Tryz.func37, Tryz.ntmps37
  go_wp2_with (fail)
  go_loopw [1, 5] (fun m i wr => ∃ j : Nat, j ≤ n ∧ i = .int .i64 j ∧ m = .int .i64 (k + j) ∧ Marked lo hi w wr) (fun _ i _ => n - (intOf i).toNat)
  case atStart => exact ⟨0, Nat.zero_le _, rfl, by simp, Marked.refl _ _ _⟩
  case round =>
    obtain ⟨j, hj, rfl, rfl, hm⟩ := hrel
    by_cases hlt : j < n
    · obtain ⟨A', c', e, hx⟩ := H.out.marked hm
      injection e with e1 _ _
      subst e1
      obtain ⟨b, o, rfl, h1, h2, hx⟩ := hx (by omega)
      obtain ⟨hf, x, hc⟩ := hx j hlt
      have HM := Lib.hid (hm.trans (Marked.store (p := ⟨b, o + j, none⟩) ⟨h1, h2⟩ hc (k + j)))
      clear hx
      go_wp2_with (fail)
      go_roundw
      case rel => exact ⟨j + 1, by omega, by go_num, by go_num, HM.out⟩
      case measure => simp [intOf]; omega
    · have hkn : j = n := by omega
      have HK := Lib.hid (show k + (j : Int) = k + n by rw [hkn])
      clear hkn
      go_wp2_with (fail)
      go_ret
      exact ⟨ret_int HK.out, hm⟩

/-- How far the marks of literals, of a rule, of rules go. -/
def endL (k : Int) (ls : List LLit) : Int := k + 2 * (ls.length : Int) + (totL ls : Int)

set_option maxHeartbeats 400000 in
theorem wmarkAtom_any (p : Int) (a : Value) (n : Nat) (k : Int) (lo hi : Nat) (w : World) (h : WrInts w lo hi a n) (hk0 : 0 ≤ k) (hk : k + n ≤ 4611686018427387904) :
    Calls Tryz.prog 43 #[.agg #[.int .i64 p, a], .int .i64 k] w fun e w' => e = .returned (.int .i64 (k + n)) ∧ Marked lo hi w w' := by
  have H := Lib.hid h
  obtain ⟨A, c, rfl, _⟩ := h
  go_enter Tryz.func43, Tryz.ntmps43
  go_wp2_with (fail)
  refine (wmarkIntS_any _ n k lo hi _ (H.out.marked (Marked.of_below (below1 _ _))) hk0 hk).mono ?_
  rintro e w2 ⟨rfl, hm⟩
  have HM := (Marked.of_below (lo := lo) (hi := hi) (below1 w _)).trans hm
  go_wp2_with (fail)
  go_ret
  exact ⟨rfl, HM⟩

set_option maxHeartbeats 1000000 in
set_option maxRecDepth 100000 in
theorem wmarkLitS_any (v : Value) (ls : List LLit) (k : Int) (lo hi : Nat) (w : World) (h : WrLits w lo hi v ls) (hk0 : 0 ≤ k) (hk : k ≤ 4294967296) (hn : ls.length ≤ 1073741824) (ht : totL ls ≤ 1073741824) :
    Calls Tryz.prog 108 #[v, .int .i64 k] w fun e w' => e = .returned (.int .i64 (endL k ls)) ∧ Marked lo hi w w' := by
  have H := Lib.hid h
  obtain ⟨A, c, rfl, _⟩ := h
  go_enter Tryz.func108, Tryz.ntmps108
  go_wp2_with (fail)
  go_loopw [1, 5] (fun m i wr => ∃ (j : Nat) (q : Int), j ≤ ls.length ∧ i = .int .i64 j ∧ m = .int .i64 q ∧ q = k + 2 * (j : Int) + (totL (ls.take j) : Int) ∧ Marked lo hi w wr) (fun _ i _ => ls.length - (intOf i).toNat)
  case atStart => exact ⟨0, k, Nat.zero_le _, rfl, rfl, by simp [totL], Marked.refl _ _ _⟩
  case round =>
    obtain ⟨j, q, hj, rfl, rfl, hq, hm⟩ := hrel
    by_cases hlt : j < ls.length
    · obtain ⟨A', c', e, _, hx⟩ := H.out.marked hm
      injection e with e1 _ e3
      subst e1
      subst e3
      obtain ⟨b, o, rfl, h1, h2, hx⟩ := hx (by omega)
      obtain ⟨⟨f0, f1⟩, u0, u1, u2, c0, c1, c2, ⟨x, rfl⟩, ⟨y, rfl⟩, hI⟩ := hx j hlt
      have m0 := Marked.store (p := ⟨b, o + j * 3, none⟩) ⟨h1, h2⟩ c0 q
      obtain ⟨y', c1'⟩ := m0.int c1
      have f1' := (m0.frozen ⟨b, o + j * 3 + 1, none⟩ (World.block_lt_of_cell? _ _ c1)).trans f1
      have m1 := Marked.store (p := ⟨b, o + j * 3 + 1, none⟩) ⟨h1, h2⟩ c1' (q + 1)
      have hI2 := hI.marked (m0.trans m1)
      obtain ⟨A3, c3, rfl, _⟩ := hI
      have c2' := (m0.trans m1).slice c2
      have htk := totL_take ls j hlt
      have hle := sum_at (fun l : LLit => l.2.2.length) ls j hlt
      have htl : totL (ls.take j) ≤ totL ls := by
        have := congrArg (fun l => (l.map (fun l : LLit => l.2.2.length)).sum) (List.take_append_drop j ls)
        simp only [List.map_append, List.sum_append] at this
        unfold totL
        omega
      have hle2 : ls[j].2.2.length ≤ totL ls := hle
      clear hle
      have hq0 : 0 ≤ q := by omega
      have hq1 : q ≤ 8589934592 := by omega
      have HI := Lib.hid hI2
      have HM := Lib.hid (hm.trans (m0.trans m1))
      have HQ := Lib.hid (show q + 1 + 1 + (ls[j].2.2.length : Int) = k + 2 * ((j + 1 : Nat) : Int) + (totL (ls.take (j + 1)) : Int) by rw [htk]; omega)
      clear hx m0 m1 hI2 htk htl hq
      go_wp2_with (fail)
      refine (wmarkIntS_any _ _ (q + 1 + 1) lo hi _ HI.out (by omega) (by omega)).mono ?_
      rintro e w3 ⟨rfl, hm3⟩
      have HM3 := Lib.hid (HM.out.trans hm3)
      go_wp2_with (fail)
      go_roundw
      case rel => exact ⟨j + 1, _, by omega, by go_num, rfl, HQ.out, HM3.out⟩
      case measure => simp [intOf]; omega
    · have hkn : j = ls.length := by omega
      have HK := Lib.hid (show q = endL k ls by rw [hq, hkn, List.take_length]; rfl)
      clear hkn hq
      go_wp2_with (fail)
      go_ret
      exact ⟨ret_int HK.out, hm⟩

def endR (k : Int) (r : LRule) : Int := endL (k + (r.1.2.length : Int)) r.2

end Go.Proofs.YtigkgheddngkeaaGreatDoor
/-
  The loop that collects integers; the walk of the specification's RulesOf.
-/
namespace Go.Proofs.YtigkgheddngkeaaGreatDoor
open Go.RowKit

/-- The indexes of rules, of the first k, whose head has a predicate. -/
def rulesTo (rs : List LRule) (pred : Int) (k : Nat) : List Int := ((List.range k).filter fun i => (rs.getD i ((0, []), [])).1.1 == pred).map fun i : Nat => (i : Int)
def rulesOf (p : LProg) (pred : Int) : List Int := rulesTo p.2 pred p.2.length
theorem rulesTo_yes {rs : List LRule} {pred : Int} {k : Nat} (h : k < rs.length) (e : rs[k].1.1 = pred) : rulesTo rs pred (k + 1) = rulesTo rs pred k ++ [(k : Int)] := by
  unfold rulesTo
  rw [List.range_succ, List.filter_append, List.map_append]
  congr 1
  simp [h, e]
theorem rulesTo_no {rs : List LRule} {pred : Int} {k : Nat} (h : k < rs.length) (e : rs[k].1.1 ≠ pred) : rulesTo rs pred (k + 1) = rulesTo rs pred k := by
  unfold rulesTo
  rw [List.range_succ, List.filter_append, List.map_append]
  simp [h, e]
theorem rulesTo_length (rs : List LRule) (pred : Int) (k : Nat) : (rulesTo rs pred k).length ≤ k := by
  unfold rulesTo
  rw [List.length_map]
  exact Nat.le_trans (List.length_filter_le _ _) (by simp)

end Go.Proofs.YtigkgheddngkeaaGreatDoor
/-
  Terms and variables: the words, and the walks of varTerm, varNumber, isVar.
-/
namespace Go.Proofs.YtigkgheddngkeaaGreatDoor
open Go.RowKit

def termOk (x : Int) : Bool := decide (-4 ≤ x ∧ x ≤ 5)
def isVarB (x : Int) : Bool := decide (-4 ≤ x ∧ x ≤ -1)

/-- 'the first k are so', kept from the walk. -/
def AllTo {α : Type} (p : α → Bool) (xs : List α) (k : Nat) : Prop := (xs.take k).all p = true
theorem AllTo.start {α : Type} {p : α → Bool} {xs : List α} : AllTo p xs 0 := by simp [AllTo]
theorem AllTo.step {α : Type} {p : α → Bool} {xs : List α} {k : Nat} (h : AllTo p xs k) (hk : k < xs.length) (e : p xs[k] = true) : AllTo p xs (k + 1) := by
  unfold AllTo at h ⊢
  rw [take_snoc xs k hk, List.all_append, h]
  simp [e]
theorem AllTo.done {α : Type} {p : α → Bool} {xs : List α} {k : Nat} (h : AllTo p xs k) (hk : k = xs.length) : xs.all p = true := by
  unfold AllTo at h
  rwa [hk, List.take_length] at h
theorem all_not {α : Type} {p : α → Bool} {xs : List α} {k : Nat} (hk : k < xs.length) (e : p xs[k] = false) : xs.all p = false := by
  rw [List.all_eq_false]
  exact ⟨xs[k], List.getElem_mem hk, by simp [e]⟩

theorem varTerm_any (n : Int) (h0 : 0 ≤ n) (h1 : n ≤ 1000) (w : World) : Calls Tryz.prog 239 #[.int .i64 n] w fun e w' => e = .returned (.int .i64 (-1 - n)) ∧ w = w' := by
  go_enter Tryz.func239, Tryz.ntmps239
  go_wp2
  go_ret
  exact ⟨rfl, rfl⟩
theorem varNumber_any (n : Int) (h0 : -4 ≤ n) (h1 : n ≤ -1) (w : World) : Calls Tryz.prog 176 #[.int .i64 n] w fun e w' => e = .returned (.int .i64 (-1 - n)) ∧ w = w' := by
  go_enter Tryz.func176, Tryz.ntmps176
  go_wp2
  go_ret
  exact ⟨rfl, rfl⟩

theorem isVar_any (n : Int) (w : World) : Calls Tryz.prog 212 #[.int .i64 n] w fun e w' => e = .returned (.bool (isVarB n)) ∧ w = w' := by
  by_cases h1 : n < 0
  · have hd : decide (n < 0) = true := by simpa using h1
    by_cases h2 : -4 ≤ n
    · have HE := Lib.hid (show isVarB n = true by simp [isVarB]; omega)
      go_enter Tryz.func212, Tryz.ntmps212
      go_wp2_with (go_at_call 239; refine (varTerm_any 3 (by omega) (by omega) _).mono ?_; rintro e w' ⟨rfl, rfl⟩)
      go_ret
      exact ⟨ret_bool HE.out.symm, rfl⟩
    · have HE := Lib.hid (show isVarB n = false by simp [isVarB]; omega)
      go_enter Tryz.func212, Tryz.ntmps212
      go_wp2_with (go_at_call 239; refine (varTerm_any 3 (by omega) (by omega) _).mono ?_; rintro e w' ⟨rfl, rfl⟩)
      go_ret
      exact ⟨ret_bool (by rw [HE.out]; simp; omega), rfl⟩
  · have hd : decide (n < 0) = false := by simpa using h1
    have HE := Lib.hid (show isVarB n = false by simp [isVarB]; omega)
    go_enter Tryz.func212, Tryz.ntmps212
    go_wp2_with (fail)
    go_ret
    exact ⟨ret_bool HE.out.symm, rfl⟩

theorem isVar_is {n : Int} {b : Bool} (h : isVarB n = b) (w : World) : Calls Tryz.prog 212 #[.int .i64 n] w fun e w' => e = .returned (.bool b) ∧ w = w' := h ▸ isVar_any n w

end Go.Proofs.YtigkgheddngkeaaGreatDoor
/-
  Regions that draw their order and whose callees return plain values and keep all that was there: one walk of the text's order serves every order. The class of worlds: those that keep what was there.
-/
namespace Go.Proofs.YtigkgheddngkeaaGreatDoor
open Go.RowKit

/-- A world that keeps all that was there in w0. -/
def Later (w0 : World) : Type := { W : World // Below w0.heap.size w0 W }

instance (w0 : World) : Nonempty (Later w0) := ⟨⟨w0, Below.refl _ _⟩⟩

theorem wp_region_later {P : Program} {id : Nat} {Q : Exit → Act → World → Prop} {a : Act} {w0 : World} {l : List Oper} (hm : P.follows .mixedOrders = true) (hB : Region.lexB .any l.toArray = true)
    (h : wpQuiet P l.toArray (fun w' => ∃ x : Later w0, w' = x.val) (fun a' => ∀ w', (∃ x : Later w0, w' = x.val) → Q .normal a' w') l a) : (Code.region id l.toArray true).wp P Q a w0 :=
  wp_region_quiet (C := fun w' => ∃ x : Later w0, w' = x.val) hm hB ⟨⟨_, (Below.refl _ _).drew⟩, rfl⟩ (by simpa using h)

theorem later_cell {w0 : World} {a : Addr} {v : Value} (h : w0.cell? a = some v) (x : Later w0) : x.val.cell? a = some v := (x.2.cell (World.block_lt_of_cell? _ _ h)).trans h
/-- A callee's contract, met in a later world. -/
theorem later_of {P : Program} {f : FuncId} {args : Array Value} {w0 : World} {x : Later w0} {v : Value} (h : Calls P f args x.val fun e w' => e = .returned v ∧ Below x.val.heap.size x.val w') :
    Calls P f args x.val fun e w'' => e = .returned v ∧ ∃ y : Later w0, w'' = y.val :=
  h.mono fun _ w' ⟨he, hb⟩ => ⟨he, ⟨w', bthen x.2 hb⟩, rfl⟩
theorem later_same {P : Program} {f : FuncId} {args : Array Value} {w0 : World} {x : Later w0} {v : Value} (h : Calls P f args x.val fun e w' => e = .returned v ∧ x.val = w') :
    Calls P f args x.val fun e w'' => e = .returned v ∧ ∃ y : Later w0, w'' = y.val :=
  h.mono fun _ _ ⟨he, hb⟩ => ⟨he, x, hb.symm⟩

end Go.Proofs.YtigkgheddngkeaaGreatDoor
/-
  Sets of variables: as words of four bits (the program's), as rows of four bools (the specification's). The words, and the walks of argVars, bodyVars, ruleVars.
-/
namespace Go.Proofs.YtigkgheddngkeaaGreatDoor
open Go.RowKit

/-- One more term's variable. -/
def orV (m : Nat) (t : Int) : Nat := if isVarB t then m ||| 2 ^ (-1 - t).toNat else m
def maskFrom (m : Nat) (xs : List Int) : Nat := xs.foldl orV m
def maskOf (xs : List Int) : Nat := maskFrom 0 xs
def bodyMask (ls : List LLit) : Nat := ls.foldl (fun m l => m ||| maskOf l.2.2) 0
def yesMask (ls : List LLit) : Nat := ls.foldl (fun m l => if l.1 = 0 then m ||| maskOf l.2.2 else m) 0
def ruleMask (r : LRule) : Nat := maskOf r.1.2 ||| bodyMask r.2

theorem orV_or (a b : Nat) (t : Int) : orV (a ||| b) t = a ||| orV b t := by
  unfold orV
  split
  · rw [Nat.or_assoc]
  · rfl
theorem maskFrom_or (a b : Nat) : ∀ xs : List Int, maskFrom (a ||| b) xs = a ||| maskFrom b xs
  | [] => rfl
  | t :: xs => by
    show maskFrom (orV (a ||| b) t) xs = a ||| maskFrom (orV b t) xs
    rw [orV_or, maskFrom_or a (orV b t) xs]
theorem maskFrom_eq (a : Nat) (xs : List Int) : maskFrom a xs = a ||| maskOf xs := by
  have := maskFrom_or a 0 xs
  rwa [Nat.or_zero] at this
theorem or_lt16 {a b : Nat} (ha : a < 16) (hb : b < 16) : a ||| b < 16 := Nat.or_lt_two_pow (n := 4) ha hb
theorem pow_var_lt {t : Int} (h : isVarB t = true) : 2 ^ (-1 - t).toNat < 16 := by
  have h4 : (-1 - t).toNat < 4 := by simp [isVarB] at h; omega
  exact Nat.pow_lt_pow_right (by omega) h4
theorem orV_lt {m : Nat} {t : Int} (hm : m < 16) : orV m t < 16 := by
  unfold orV
  split
  · rename_i h
    exact or_lt16 hm (pow_var_lt h)
  · exact hm
theorem maskFrom_lt : ∀ (xs : List Int) {m : Nat}, m < 16 → maskFrom m xs < 16
  | [], _, h => h
  | _ :: xs, _, h => maskFrom_lt xs (orV_lt h)
theorem maskOf_lt (xs : List Int) : maskOf xs < 16 := maskFrom_lt xs (by omega)
theorem maskOf_take {xs : List Int} {k : Nat} (h : k < xs.length) : maskOf (xs.take (k + 1)) = orV (maskOf (xs.take k)) xs[k] := by
  unfold maskOf maskFrom
  rw [take_snoc xs k h, List.foldl_append]
  rfl
theorem bodyMask_take {ls : List LLit} {k : Nat} (h : k < ls.length) : bodyMask (ls.take (k + 1)) = bodyMask (ls.take k) ||| maskOf ls[k].2.2 := by
  unfold bodyMask
  rw [take_snoc ls k h, List.foldl_append]
  rfl
theorem yesMask_take {ls : List LLit} {k : Nat} (h : k < ls.length) : yesMask (ls.take (k + 1)) = if ls[k].1 = 0 then yesMask (ls.take k) ||| maskOf ls[k].2.2 else yesMask (ls.take k) := by
  unfold yesMask
  rw [take_snoc ls k h, List.foldl_append]
  rfl
theorem bodyMask_lt : ∀ (n : Nat) (ls : List LLit), n ≤ ls.length → bodyMask (ls.take n) < 16
  | 0, _, _ => by simp [bodyMask]
  | n + 1, ls, h => by
    rw [bodyMask_take (by omega)]
    exact or_lt16 (bodyMask_lt n ls (by omega)) (maskOf_lt _)
theorem yesMask_lt : ∀ (n : Nat) (ls : List LLit), n ≤ ls.length → yesMask (ls.take n) < 16
  | 0, _, _ => by simp [yesMask]
  | n + 1, ls, h => by
    rw [yesMask_take (by omega)]
    split
    · exact or_lt16 (yesMask_lt n ls (by omega)) (maskOf_lt _)
    · exact yesMask_lt n ls (by omega)
theorem bodyMask_lt' (ls : List LLit) : bodyMask ls < 16 := by
  have := bodyMask_lt ls.length ls (Nat.le_refl _)
  rwa [List.take_length] at this
theorem yesMask_lt' (ls : List LLit) : yesMask ls < 16 := by
  have := yesMask_lt ls.length ls (Nat.le_refl _)
  rwa [List.take_length] at this
theorem ruleMask_lt (r : LRule) : ruleMask r < 16 := or_lt16 (maskOf_lt _) (bodyMask_lt' _)

theorem or_word {a b : Nat} (ha : a < 16) (hb : b < 16) : bits .or .u64 (a : Int) (b : Int) = ((a ||| b : Nat) : Int) := u64_or_nat a b (by omega) (by omega)
/-- The walk's word for one more variable. -/
theorem orV_word {m : Nat} {t : Int} (hm : m < 16) (h : isVarB t = true) : bits .or .u64 (m : Int) (IntKind.u64.wrap (1 * 2 ^ (-1 - t).toNat)) = ((orV m t : Nat) : Int) := by
  have h4 : (-1 - t).toNat < 4 := by simp [isVarB] at h; omega
  have hw : IntKind.u64.wrap (1 * 2 ^ (-1 - t).toNat) = ((2 ^ (-1 - t).toNat : Nat) : Int) := by
    generalize (-1 - t).toNat = n at h4
    match n, h4 with
    | 0, _ => rfl
    | 1, _ => rfl
    | 2, _ => rfl
    | 3, _ => rfl
  rw [hw, or_word hm (pow_var_lt h)]
  simp [orV, h]

set_option maxHeartbeats 400000 in
theorem argVars_any (v : Value) (xs : List Int) (B : Nat) (w : World) (h : RdInts w B v xs) (hr : xs.length ≤ 1048576) :
    Calls Tryz.prog 228 #[v] w fun e w' => e = .returned (.int .u64 (maskOf xs : Nat)) ∧ w = w' := by
  obtain ⟨A, c, rfl, hc, ha⟩ := h
  go_enter Tryz.func228, Tryz.ntmps228
  go_wp2_with (fail)
  go_loop [3, 5, 8] (fun m _ i => ∃ (k : Nat) (z : Int), k ≤ xs.length ∧ i = .int .i64 k ∧ m = .int .u64 z ∧ z = (maskOf (xs.take k) : Nat)) (fun _ _ i => xs.length - (intOf i).toNat)
  case atStart => exact ⟨0, 0, Nat.zero_le _, rfl, rfl, rfl⟩
  case round =>
    obtain ⟨k, z, hk, rfl, rfl, hz⟩ := hrel
    by_cases hlt : k < xs.length
    · obtain ⟨b, o, rfl, hbB, hx⟩ := ha (by omega)
      have hck : w.cell? ⟨b, o + k, none⟩ = some (.int .i64 xs[k]) := hx k hlt
      have hml := maskOf_lt (xs.take k)
      clear hx ha
      by_cases he : isVarB xs[k] = true
      · have HK := Lib.hid (isVar_is he)
        have HV := Lib.hid (show -4 ≤ xs[k] ∧ xs[k] ≤ -1 by simpa [isVarB] using he)
        have h0 : 0 ≤ -1 - xs[k] := by have := HV.out; omega
        have h64 : -1 - xs[k] ≤ 64 := by have := HV.out; omega
        have HZ := Lib.hid (show bits .or .u64 z (IntKind.u64.wrap (2 ^ (-1 - xs[k]).toNat)) = (maskOf (xs.take (k + 1)) : Nat) by have hw := orV_word hml he; rw [Int.one_mul] at hw; rw [hz, hw, maskOf_take hlt])
        clear hz he hml
        go_wp2_with (first | (go_at_call 212; refine (HK.out _).mono ?_; rintro e w' ⟨rfl, rfl⟩) | (go_at_call 176; refine (varNumber_any _ HV.out.1 HV.out.2 _).mono ?_; rintro e w' ⟨rfl, rfl⟩))
        go_round
        case rel => exact ⟨k + 1, _, by omega, by go_num, rfl, HZ.out⟩
        case measure => simp [intOf]; omega
      · have he' : isVarB xs[k] = false := by simpa using he
        have HK := Lib.hid (isVar_is he')
        have HZ := Lib.hid (show z = (maskOf (xs.take (k + 1)) : Nat) by rw [hz, maskOf_take hlt]; simp [orV, he'])
        clear hz he
        go_wp2_with (go_at_call 212; refine (HK.out _).mono ?_; rintro e w' ⟨rfl, rfl⟩)
        go_round
        case rel => exact ⟨k + 1, _, by omega, by go_num, rfl, HZ.out⟩
        case measure => simp [intOf]; omega
    · have HE := Lib.hid (show z = (maskOf xs : Nat) by rw [hz, show k = xs.length by omega, List.take_length])
      clear hz ha
      go_wp2_with (fail)
      go_ret
      exact ⟨ret_int HE.out, rfl⟩

set_option maxHeartbeats 400000 in
theorem bodyVars_any (v : Value) (ls : List LLit) (w : World) (h : RdLits w w.heap.size v ls) (hr : ls.length ≤ 1048576) (ht : totL ls ≤ 1048576) :
    Calls Tryz.prog 253 #[v] w fun e w' => e = .returned (.int .u64 (bodyMask ls : Nat)) ∧ Below w.heap.size w w' := by
  have H := Lib.hid h
  obtain ⟨A, c, rfl, hc, _⟩ := h
  go_enter Tryz.func253, Tryz.ntmps253
  go_wp2_with (fail)
  go_loopw [3, 5, 8] (fun m _ i wr => ∃ (k : Nat) (z : Int), k ≤ ls.length ∧ i = .int .i64 k ∧ m = .int .u64 z ∧ z = (bodyMask (ls.take k) : Nat) ∧ Below w.heap.size w wr) (fun _ _ i _ => ls.length - (intOf i).toNat)
  case atStart => exact ⟨0, 0, Nat.zero_le _, rfl, rfl, rfl, Below.refl _ _⟩
  case round =>
    obtain ⟨k, z, hk, rfl, rfl, hz, hbe⟩ := hrel
    by_cases hlt : k < ls.length
    · obtain ⟨b, o, u0, u1, u2, rfl, hbB, k0, k1, k2, rfl, rfl, p3⟩ := (H.out.on hbe).get hlt
      have HA := Lib.hid p3
      obtain ⟨A3, c3, rfl, hc3, _⟩ := p3
      have hle := len_le_totL ls k hlt
      have hml := bodyMask_lt k ls hk
      have HZ := Lib.hid (show bits .or .u64 z ((maskOf ls[k].2.2 : Nat) : Int) = (bodyMask (ls.take (k + 1)) : Nat) by rw [hz, or_word hml (maskOf_lt _), bodyMask_take hlt])
      clear hz hml
      go_wp2_with (go_at_call 228; refine (argVars_any _ ls[k].2.2 _ _ (HA.out.on (below1 _ _)) (by omega)).mono ?_; rintro e w' ⟨rfl, rfl⟩)
      go_roundw
      case rel => exact ⟨k + 1, _, by omega, by go_num, rfl, HZ.out, bthen hbe (below1 _ _)⟩
      case measure => simp [intOf]; omega
    · have HE := Lib.hid (show z = (bodyMask ls : Nat) by rw [hz, show k = ls.length by omega, List.take_length])
      clear hz
      go_wp2_with (fail)
      go_ret
      exact ⟨ret_int HE.out, hbe⟩

theorem later_int {P : Program} {f : FuncId} {args : Array Value} {w0 : World} {x : Later w0} {u v : Value} (h : Calls P f args x.val fun e w' => e = .returned u ∧ Below x.val.heap.size x.val w') (e : u = v) :
    Calls P f args x.val fun e w'' => e = .returned v ∧ ∃ y : Later w0, w'' = y.val := later_of (e ▸ h)

end Go.Proofs.YtigkgheddngkeaaGreatDoor
/-
  The numbers of the bits of a word: the words; the walks of TrailingZeros64, TrailingZeros, bitNumbers.
-/
namespace Go.Proofs.YtigkgheddngkeaaGreatDoor
open Go.RowKit

/-- The numbers of the bits of x, ascending. -/
def bitsOf (x : Nat) : List Int := ((List.range 64).filter fun j => x.testBit j).map fun j : Nat => (j : Int)
theorem bitsOf_zero : bitsOf 0 = [] := by simp [bitsOf]
theorem bitsOf_length (x : Nat) : (bitsOf x).length ≤ 64 := by
  unfold bitsOf
  rw [List.length_map]
  exact Nat.le_trans (List.length_filter_le _ _) (by simp)

theorem testBit_odd {k m j : Nat} : (2 ^ k * (2 * m + 1)).testBit j = (decide (k ≤ j) && (2 * m + 1).testBit (j - k)) := by
  rw [Nat.mul_comm, Nat.testBit_mul_two_pow]
theorem testBit_even {k m j : Nat} : (2 ^ k * (2 * m)).testBit j = (decide (k ≤ j) && (2 * m).testBit (j - k)) := by
  rw [Nat.mul_comm, Nat.testBit_mul_two_pow]
theorem filter_step (k m : Nat) (hk : k < 64) : (List.range 64).filter (fun j => (2 ^ k * (2 * m + 1)).testBit j) = k :: (List.range 64).filter (fun j => (2 ^ k * (2 * m)).testBit j) := by
  obtain ⟨d, hd⟩ : ∃ d, 64 = k + (1 + d) := ⟨63 - k, by omega⟩
  rw [hd, List.range_add, List.filter_append, List.filter_append, List.range_add, List.map_append, List.filter_append, List.filter_append]
  have h1 : (List.range k).filter (fun j => (2 ^ k * (2 * m + 1)).testBit j) = [] := by
    rw [List.filter_eq_nil_iff]
    intro j hj
    have hj := List.mem_range.1 hj
    rw [testBit_odd]
    simp
    omega
  have h2 : (List.range k).filter (fun j => (2 ^ k * (2 * m)).testBit j) = [] := by
    rw [List.filter_eq_nil_iff]
    intro j hj
    have hj := List.mem_range.1 hj
    rw [testBit_even]
    simp
    omega
  have h3 : ((List.range 1).map (k + ·)).filter (fun j => (2 ^ k * (2 * m + 1)).testBit j) = [k] := by
    have : (2 ^ k * (2 * m + 1)).testBit k = true := by rw [testBit_odd]; simp [Nat.testBit_zero]
    simp [this]
  have h4 : ((List.range 1).map (k + ·)).filter (fun j => (2 ^ k * (2 * m)).testBit j) = [] := by
    have : (2 ^ k * (2 * m)).testBit k = false := by rw [testBit_even]; simp [Nat.testBit_zero]
    simp [this]
  rw [h1, h2, h3, h4, List.nil_append, List.nil_append, List.nil_append, List.singleton_append]
  congr 1
  apply List.filter_congr
  intro j hj
  simp only [List.mem_map, List.mem_range] at hj
  obtain ⟨a, ⟨b, hb, rfl⟩, rfl⟩ := hj
  rw [testBit_odd, testBit_even]
  have e : k + (1 + b) - k = b + 1 := by omega
  rw [e, Nat.testBit_succ, Nat.testBit_succ]
  congr 2
  omega
/-- The lowest bit, and the others. -/
theorem bitsOf_step {x : Nat} (h0 : x ≠ 0) (hx : x < 2 ^ 64) : bitsOf x = (Lib.ctz 64 x : Int) :: bitsOf (x &&& (x - 1)) ∧ x &&& (x - 1) < x := by
  obtain ⟨m, hm, hk⟩ := Lib.ctzFrom_spec 64 x (by omega) hx
  have hc : Lib.ctz 64 x = Lib.ctzFrom 64 x := by unfold Lib.ctz; rw [if_neg h0]
  rw [hc]
  generalize Lib.ctzFrom 64 x = k at hm hk
  have hp : 0 < 2 ^ k := Nat.two_pow_pos k
  have hand : x &&& (x - 1) = 2 ^ k * (2 * m) := by
    apply Nat.eq_of_testBit_eq
    intro j
    rw [Nat.testBit_and]
    have e1 : x - 1 = 2 ^ k * (2 * m) + (2 ^ k - 1) := by
      rw [hm, Nat.mul_add, Nat.mul_one]
      omega
    rw [e1, Nat.testBit_two_pow_mul_add _ (by omega), testBit_even, hm, testBit_odd]
    by_cases hj : j < k
    · have hkj : decide (k ≤ j) = false := by simp; omega
      rw [hkj]
      simp
    · rw [if_neg hj]
      have : k ≤ j := by omega
      simp only [this, decide_true, Bool.true_and]
      by_cases e : j = k
      · subst e
        simp [Nat.testBit_zero]
      · obtain ⟨i, rfl⟩ : ∃ i, j = k + (i + 1) := ⟨j - k - 1, by omega⟩
        have e3 : k + (i + 1) - k = i + 1 := by omega
        rw [e3, Nat.testBit_succ, Nat.testBit_succ]
        have d1 : (2 * m + 1) / 2 = m := by omega
        have d2 : 2 * m / 2 = m := by omega
        rw [d1, d2, Bool.and_self]
  refine ⟨?_, ?_⟩
  · rw [hand, hm]
    unfold bitsOf
    rw [filter_step k m hk]
    simp
  · rw [hand, hm, Nat.mul_add, Nat.mul_one]
    omega

/-- The table behind TrailingZeros64 lies in its variable. -/
def Tab (w : World) : Prop := _root_.Go.Proofs.TabAt 0 Lib.deBruijn64tab w ∧ 0 < w.heap.size
theorem Tab.below {w w' : World} (h : Tab w) (hb : Below w.heap.size w w') : Tab w' := ⟨fun j hj => (hb.cell (p := ⟨0, j, none⟩) h.2).trans (h.1 j hj), Nat.lt_of_lt_of_le h.2 hb.size⟩

set_option maxHeartbeats 1000000 in
theorem tz64_core (x k idx : Nat) (w : World) (hx0 : ((x : Int) == 0) = false)
    (key : IntKind.u64.wrap (bits BinOp.and IntKind.u64 (x : Int) (IntKind.u64.wrap (-(x : Int))) * 285870213051353865) / 288230376151711744 = (idx : Int))
    (hi : idx < 64) (hk : k < 64) (hcell : w.cell? ⟨0, idx, none⟩ = some (.int .u8 k)) :
    Calls Tryz.prog 106 #[.int .u64 x] w fun e w' => e = .returned (.int .i64 k) ∧ w = w' := by
  go_enter Tryz.func106, Tryz.ntmps106
  go_wp2_with (simp only [key])
  go_ret
  exact ⟨rfl, rfl⟩

theorem tz64_any (x : Nat) (hx : x < 18446744073709551616) (h0 : x ≠ 0) (w : World) (hT : Tab w) :
    Calls Tryz.prog 106 #[.int .u64 x] w fun e w' => e = .returned (.int .i64 (Lib.ctz 64 x)) ∧ w = w' := by
  obtain ⟨hlow, hk⟩ := Lib.lowest_bit 64 x h0 hx
  obtain ⟨hi, htab⟩ := Lib.deBruijn64_at _ hk
  have hc := hT.1 _ hi
  rw [htab] at hc
  exact tz64_core x _ _ w (by simpa using h0) (tz64_key x _ hx h0 hlow) hi hk hc

theorem tz_any (x : Nat) (hx : x < 18446744073709551616) (h0 : x ≠ 0) (w : World) (hT : Tab w) :
    Calls Tryz.prog 163 #[.int .u64 x] w fun e w' => e = .returned (.int .i64 (Lib.ctz 64 x)) ∧ w = w' := by
  go_enter Tryz.func163, Tryz.ntmps163
  go_wp2_with (go_at_call 106; refine (tz64_any x hx h0 _ hT).mono ?_; rintro e w' ⟨rfl, rfl⟩)
  go_ret
  exact ⟨rfl, rfl⟩

set_option maxHeartbeats 1000000 in
set_option maxRecDepth 100000 in
theorem bitNumbers_any (x : Nat) (hx : x < 18446744073709551616) (w : World) (hT : Tab w) :
    Calls Tryz.prog 114 #[.int .u64 x] w fun e w' => ∃ A' c', e = .returned (.slice A' (bitsOf x).length c') ∧ OwnInts w' w.heap.size w'.heap.size (.slice A' (bitsOf x).length c') (bitsOf x) ∧ Below w.heap.size w w' := by
  obtain ⟨i0, hi0, hz0, hz1, hz2⟩ := info_parts Tryz.infoInt
  have HX := Lib.hid hx
  clear hx
  go_enter Tryz.func114, Tryz.ntmps114
  go_wp2_with (fail)
  go_loopw [0, 3] (fun z o wr => ∃ (y : Nat) (ys : List Int) (A' : Option Addr) (c' : Nat), z = .int .u64 y ∧ o = .slice A' ys.length c' ∧ ys ++ bitsOf y = bitsOf x ∧ y < 2 ^ 64 ∧ ColI w wr ys A' c') (fun z _ _ => (intOf z).toNat)
  case atStart => exact ⟨x, [], none, 0, rfl, rfl, rfl, HX.out, ColI.nil (Below.refl _ _)⟩
  case round =>
    obtain ⟨y, ys, A', c', rfl, rfl, hys, hy, hr⟩ := hrel
    have hyl : ys.length ≤ 64 := by
      have := congrArg List.length hys
      rw [List.length_append] at this
      have := bitsOf_length x
      omega
    by_cases h0 : y = 0
    · subst h0
      rw [bitsOf_zero, List.append_nil] at hys
      have HO := Lib.hid (And.intro hys hr)
      clear hys hr
      go_wp2_with (fail)
      go_ret
      obtain ⟨e, hr⟩ := HO.out
      rw [← e]
      exact ⟨_, _, rfl, hr.own, hr.below⟩
    · obtain ⟨hst, hlt⟩ := bitsOf_step h0 hy
      have ht : ((y : Int) != 0) = true := by simpa using h0
      have HY := Lib.hid (And.intro hy (And.intro h0 hlt))
      have HB := Lib.hid (show (ys ++ [(Lib.ctz 64 y : Int)]) ++ bitsOf (y &&& (y - 1)) = bitsOf x by rw [List.append_assoc, List.singleton_append, ← hst]; exact hys)
      have hk : Lib.ctz 64 y < 64 := (Lib.lowest_bit 64 y h0 hy).2
      have HA := Lib.hid (show bits BinOp.and IntKind.u64 (y : Int) (IntKind.u64.wrap ((y : Int) - 1)) = ((y &&& (y - 1) : Nat) : Int) by
        have e1 : IntKind.u64.wrap ((y : Int) - 1) = ((y - 1 : Nat) : Int) := by rw [IntKind.wrap_u64]; omega
        rw [e1, bits_and_u64_nat y (y - 1) (by simpa using hy) (by omega)])
      have HP := Lib.hid hr
      have HT := Lib.hid (hT.below hr.below)
      have HCC := Lib.hid (fun (w : World) (hw : Tab w) => tz_any y (by simpa using hy) h0 w hw)
      generalize Lib.ctz 64 y = kk at hst HB hk HCC
      clear hst hlt hy h0 hys hr
      go_wp2_with (fail)
      refine (HCC.out _ HT.out).mono ?_
      rintro e w' ⟨rfl, rfl⟩
      go_wp2_with (at_builtin; refine wpList_append_lies _ rfl (.tmp 10) (.tmp 13) 22 rfl w.heap.size 3 i0 (.int .i64 0) 1 8 Tryz.underlying22 hi0 hz0 hz1 hz2 rfl (by decide) (.slice A' ys.length c') ys.length (ys.map (Value.int .i64)) rfl ?c1 ⟨_, 0, none⟩ 1 1 [.int .i64 kk] rfl rfl (news1s _ _ _ _ (by simp)) ?c2 (by omega) (by unfold maxLen; omega) (by omega) ?c3 _ rfl ?_)
      case c1 => exact HP.out.own.1.alloc _
      case c2 => intro u hu; simp at hu; subst hu; rfl
      case c3 => have := HP.out.below.size; simp; omega
      intro g cap w4 hown hg _ _
      have hcol := HP.out.push (Below.refl _ _) hg hown
      have hlen : ys.length + 1 = (ys ++ [(kk : Int)]).length := by simp
      rw [hlen]
      have HC := Lib.hid hcol
      clear hcol hlen hown hg
      go_wp2_with (fail)
      go_roundw
      case rel => exact ⟨y &&& (y - 1), _, _, _, by rw [HA.out], rfl, HB.out, Nat.lt_trans HY.out.2.2 HY.out.1, HC.out⟩
      case measure =>
        rw [HA.out]
        simp only [intOf]
        have := HY.out.2.2
        omega

end Go.Proofs.YtigkgheddngkeaaGreatDoor
/-
  What the row's condition on the listed tables gives the walks: the table behind TrailingZeros64.
-/
namespace Go.Proofs.YtigkgheddngkeaaGreatDoor
open Go.RowKit

/-- Two tables are listed (1 and 0). -/
def laidTabs : List (String × DataW Unit) := [("math/bits.deBruijn32tab", Rows.laid_math_bits_deBruijn32tab), ("math/bits.deBruijn64tab", Rows.laid_math_bits_deBruijn64tab)]
theorem Tryz.tabGlobal : Tryz.prog.globalNamed "math/bits.deBruijn64tab" = some 0 := by kernel_rfl
theorem Tryz.tabType : (Tryz.prog.globals[0]?).map (·.type) = some 187 := by kernel_rfl
theorem Tryz.tabUnder : Tryz.prog.underlying 187 = some (.array 64 5) := by kernel_rfl
theorem Tryz.tabCells : Tryz.prog.cellsOf 187 = 64 := by kernel_rfl
theorem Tryz.byteUnder : Tryz.prog.underlying 5 = some (.int .u8) := by kernel_rfl
theorem Tryz.byteCells : Tryz.prog.cellsOf 5 = 1 := by kernel_rfl

/-- In a seat that lists both (1). -/
theorem tab_of_laid {W : World} (hL : laidMetH Tryz.prog laidTabs W) : Tab W := by
  have h : laidMet Tryz.prog laidTabs W := by rw [MakeChecks.laidMetH_plain _ _ _ (by kernel_rfl)] at hL; exact hL
  have h2 : laidMet Tryz.prog [("math/bits.deBruijn64tab", Lib.tabData .u8 (Lib.deBruijn64tab.map fun n : Nat => (n : Int)))] W := h.tail
  have h3 := Lib.tabIs_of_head Tryz.tabGlobal Tryz.tabType Tryz.tabUnder Tryz.byteUnder Tryz.byteCells Tryz.tabCells h2
  have hat : _root_.Go.Proofs.TabAt 0 Lib.deBruijn64tab W := fun j hj => by
    have := h3.cell Tryz.tabGlobal j (by simpa using hj)
    simpa [hj] using this
  exact ⟨hat, World.block_lt_of_cell? _ _ (hat 0 (by decide))⟩

def laidTabs1 : List (String × DataW Unit) := [("math/bits.deBruijn64tab", Rows.laid_math_bits_deBruijn64tab)]
theorem tab_of_laid1 {W : World} (hL : laidMetH Tryz.prog laidTabs1 W) : Tab W := by
  have h : laidMet Tryz.prog laidTabs1 W := by rw [MakeChecks.laidMetH_plain _ _ _ (by kernel_rfl)] at hL; exact hL
  have h2 : laidMet Tryz.prog [("math/bits.deBruijn64tab", Lib.tabData .u8 (Lib.deBruijn64tab.map fun n : Nat => (n : Int)))] W := h
  have h3 := Lib.tabIs_of_head Tryz.tabGlobal Tryz.tabType Tryz.tabUnder Tryz.byteUnder Tryz.byteCells Tryz.tabCells h2
  have hat : _root_.Go.Proofs.TabAt 0 Lib.deBruijn64tab W := fun j hj => by
    have := h3.cell Tryz.tabGlobal j (by simpa using hj)
    simpa [hj] using this
  exact ⟨hat, World.block_lt_of_cell? _ _ (hat 0 (by decide))⟩

end Go.Proofs.YtigkgheddngkeaaGreatDoor
/-
  Words for facts (a number and a list of integers), and the walks of toFact, eqFact, szFact.
-/
namespace Go.Proofs.YtigkgheddngkeaaGreatDoor
open Go.RowKit

set_option maxHeartbeats 400000 in
theorem szFact_any (v : Value) (f : LFact) (left : Int) (w : World) (h : RdFact w w.heap.size v f) (h0 : 0 ≤ left) (hl : left ≤ 1048576) (hn : f.2.length ≤ 9223372036854775807) :
    Calls Tryz.prog 48 #[v, .int .i64 left] w fun e w' => e = .returned (.int .i64 (szV left f.2.length)) ∧ Below w.heap.size w w' := by
  obtain ⟨a, rfl, A, c, rfl, hc, _⟩ := h
  have hcs := szV_cases left f.2.length
  go_enter Tryz.func48, Tryz.ntmps48
  go_wp2_with (fail)
  refine (szIntS_any _ _ _ _ _ h0 hl hn).mono ?_
  rintro e w1 ⟨rfl, rfl⟩
  rcases hcs with ⟨e1, _⟩ | ⟨e1, _⟩
  · rw [e1]
    have HV := Lib.hid e1
    clear e1
    go_wp2_with (fail)
    go_ret
    exact ⟨ret_int HV.out.symm, (Below.refl _ _).alloc (Nat.le_refl _) _⟩
  · have h1 : ¬ szV left f.2.length < 0 := by omega
    go_wp2_with (fail)
    go_ret
    exact ⟨rfl, (Below.refl _ _).alloc (Nat.le_refl _) _⟩

set_option maxHeartbeats 400000 in
theorem toFact_any (v : Value) (f : LFact) (w : World) (h : RdFact w w.heap.size v f) (hn : f.2.length * 8 ≤ 140737488351232) :
    Calls Tryz.prog 50 #[v] w fun e w' => ∃ A' c', e = .returned (.agg #[.int .i64 f.1, .slice A' f.2.length c']) ∧ OwnInts w' w.heap.size w'.heap.size (.slice A' f.2.length c') f.2 ∧ Below w.heap.size w w' := by
  obtain ⟨a, rfl, h⟩ := h
  have H := Lib.hid h
  obtain ⟨A, c, rfl, hc, _⟩ := h
  go_enter Tryz.func50, Tryz.ntmps50
  go_wp2_with (fail)
  refine (toIntS_any _ f.2 _ (H.out.on (below3 _ _ _ _)) hn).mono ?_
  rintro e w4 ⟨A4, c4, rfl, ho, hb⟩
  have hB := bthen (below3 _ _ _ _) hb
  have b1 : Blk w4 (w.heap.size + 1) 68 #[.int .i64 0, .slice none 0 0] := ((by simpa using (Blk.new (w.alloc (Obj.cells #[Value.int IntKind.i64 f.fst, Value.slice A f.snd.length c] 65)) _ _).alloc _ : Blk _ _ _ _)).below hb (by simp)
  have b2 : Blk w4 (w.heap.size + 2) 68 #[.int .i64 f.1, .slice none 0 0] := ((by simpa using Blk.new ((w.alloc (Obj.cells #[Value.int IntKind.i64 f.fst, Value.slice A f.snd.length c] 65)).alloc (Obj.cells #[.int .i64 0, .slice none 0 0] 68)) _ _ : Blk _ _ _ _)).below hb (by simp)
  have b1c0 : w4.cell? ⟨w.heap.size + 1, 0, none⟩ = some (.int .i64 0) := b1.cell 0
  have b1c1 : w4.cell? ⟨w.heap.size + 1, 1, none⟩ = some (.slice none 0 0) := b1.cell 1
  have b2c0 : w4.cell? ⟨w.heap.size + 2, 0, none⟩ = some (.int .i64 f.1) := b2.cell 0
  have b2c1 : w4.cell? ⟨w.heap.size + 2, 1, none⟩ = some (.slice none 0 0) := b2.cell 1
  have b1f0 := b1.frozen 0
  have b1f1 := b1.frozen 1
  have b2f0 := b2.frozen 0
  have b2f1 := b2.frozen 1
  go_wp2_with (fail)
  refine bodyPost_ret (v := .agg #[.int .i64 f.1, .slice A4 f.2.length c4]) (by simp [results, Tryz.results50, go_sem, b1c0, b1c1]) rfl ⟨_, _, rfl, ?_, ?_⟩
  · exact (((ho.set (.inl (by simp)) _).set (.inl (by simp)) _).set (.inl (by simp)) _).mono (by simp; omega) (by simp)
  · exact ((hB.setCell (by simp <;> omega) _).setCell (by simp <;> omega) _).setCell (by simp <;> omega) _

set_option maxHeartbeats 400000 in
theorem eqFact_any (v v2 : Value) (f g : LFact) (w : World) (h : RdFact w w.heap.size v f) (h2 : RdFact w w.heap.size v2 g) (hn : f.2.length * 8 ≤ 140737488351232) (hn2 : g.2.length * 8 ≤ 140737488351232) :
    Calls Tryz.prog 52 #[v, v2] w fun e w' => e = .returned (.bool (decide (f = g))) ∧ Below w.heap.size w w' := by
  obtain ⟨a, rfl, h⟩ := h
  have H := Lib.hid h
  obtain ⟨A, c, rfl, hc, _⟩ := h
  obtain ⟨a, rfl, h2⟩ := h2
  have H2 := Lib.hid h2
  obtain ⟨A2, c2, rfl, hc2, _⟩ := h2
  by_cases hp : f.1 = g.1
  · have hpb : (f.1 != g.1) = false := by simp [hp]
    have HE := Lib.hid (show decide (f = g) = decide (f.2 = g.2) by simp [Prod.ext_iff, hp])
    clear hp
    go_enter Tryz.func52, Tryz.ntmps52
    go_wp2_with (fail)
    refine (eqIntS_any _ _ f.2 g.2 _ (H.out.on (below2 _ _ _)) (H2.out.on (below2 _ _ _)) hn hn2).mono ?_
    rintro e w4 ⟨rfl, hb⟩
    have hB := bthen (below2 _ _ _) hb
    by_cases hd : f.2 = g.2
    · have hdb : decide (f.2 = g.2) = true := by simp [hd]
      have HD := Lib.hid hdb
      clear hd
      go_wp2_with (fail)
      go_ret
      exact ⟨ret_bool (by rw [HE.out, HD.out]), hB⟩
    · have hdb : decide (f.2 = g.2) = false := by simp [hd]
      have HD := Lib.hid hdb
      clear hd
      go_wp2_with (fail)
      go_ret
      exact ⟨ret_bool (by rw [HE.out, HD.out]), hB⟩
  · have hpb : (f.1 != g.1) = true := by simp [hp]
    have HE := Lib.hid (show decide (f = g) = false by simp [Prod.ext_iff, hp])
    clear hp
    go_enter Tryz.func52, Tryz.ntmps52
    go_wp2_with (fail)
    go_ret
    exact ⟨ret_bool HE.out.symm, below2 _ _ _⟩

end Go.Proofs.YtigkgheddngkeaaGreatDoor
/-
  Words for lists of facts: what a slice of facts reads as, and a row of facts of the call's own. No walk.
-/
namespace Go.Proofs.YtigkgheddngkeaaGreatDoor
open Go.RowKit

/-- The slice value v reads as the facts fs, in blocks below B. -/
def RdFacts (w : World) (B : Nat) (v : Value) (fs : List LFact) : Prop :=
  ∃ A c, v = .slice A fs.length c ∧ fs.length ≤ c ∧ (0 < fs.length → ∃ b o, A = some ⟨b, o, none⟩ ∧ b < B ∧ ∀ k (h : k < fs.length), ∃ a,
    w.cell? ⟨b, o + k * 2, none⟩ = some (.int .i64 fs[k].1) ∧ w.cell? ⟨b, o + k * 2 + 1, none⟩ = some a ∧ RdInts w B a fs[k].2)

theorem RdFacts.below {w w' : World} {B B' : Nat} {v : Value} {fs : List LFact} (h : RdFacts w B v fs) (hb : Below B' w w') (hB : B ≤ B') : RdFacts w' B v fs := by
  obtain ⟨A, c, rfl, hc, h⟩ := h
  refine ⟨A, c, rfl, hc, fun hn => ?_⟩
  obtain ⟨b, o, rfl, hlt, hk⟩ := h hn
  refine ⟨b, o, rfl, hlt, fun k hkl => ?_⟩
  obtain ⟨a, h1, h2, h3⟩ := hk k hkl
  exact ⟨a, (hb.cell (p := ⟨b, o + k * 2, none⟩) (by show b < B'; omega)).trans h1, (hb.cell (p := ⟨b, o + k * 2 + 1, none⟩) (by show b < B'; omega)).trans h2, h3.below hb hB⟩
theorem RdFacts.more {w : World} {B B' : Nat} {v : Value} {fs : List LFact} (h : RdFacts w B v fs) (hB : B ≤ B') : RdFacts w B' v fs := by
  obtain ⟨A, c, rfl, hc, h⟩ := h
  refine ⟨A, c, rfl, hc, fun hn => ?_⟩
  obtain ⟨b, o, rfl, hlt, hk⟩ := h hn
  refine ⟨b, o, rfl, by omega, fun k hkl => ?_⟩
  obtain ⟨a, h1, h2, h3⟩ := hk k hkl
  exact ⟨a, h1, h2, h3.more hB⟩
theorem RdFacts.on {w w' : World} {v : Value} {fs : List LFact} (h : RdFacts w w.heap.size v fs) (hb : Below w.heap.size w w') : RdFacts w' w'.heap.size v fs := (h.below hb (Nat.le_refl _)).more hb.size

/-- The cells of facts, a fact's two behind each other. -/
def flat : List LFact → List Value → List Value
  | f :: fs, a :: av => .int .i64 f.1 :: a :: flat fs av
  | _, _ => []

theorem flat_length : ∀ (fs : List LFact) (av : List Value), av.length = fs.length → (flat fs av).length = fs.length * 2
  | [], _, _ => by simp [flat]
  | f :: fs, [], h => by simp at h
  | f :: fs, a :: av, h => by
    have := flat_length fs av (by simpa using h)
    simp only [flat, List.length_cons, this]
    omega
theorem flat_at : ∀ (fs : List LFact) (av : List Value) (_ : av.length = fs.length) (k : Nat) (hk : k < fs.length) (hk' : k < av.length),
    (flat fs av)[k * 2]? = some (.int .i64 fs[k].1) ∧ (flat fs av)[k * 2 + 1]? = some av[k]
  | [], _, _, k, hk, _ => absurd hk (by simp)
  | f :: fs, [], h, _, _, _ => by simp at h
  | f :: fs, a :: av, h, 0, _, _ => by simp [flat]
  | f :: fs, a :: av, h, k + 1, hk, hk' => by
    have := flat_at fs av (by simpa using h) k (by simpa using hk) (by simpa using hk')
    simpa [flat, Nat.add_mul] using this
theorem flat_snoc : ∀ (fs : List LFact) (av : List Value) (_ : av.length = fs.length) (f : LFact) (a : Value), flat (fs ++ [f]) (av ++ [a]) = flat fs av ++ [.int .i64 f.1, a]
  | [], [], _, f, a => by simp [flat]
  | [], a' :: av, h, _, _ => by simp at h
  | f :: fs, [], h, _, _ => by simp at h
  | f :: fs, a :: av, h, g, b => by simp [flat, flat_snoc fs av (by simpa using h) g b]

/-- Rows of integers of the call's own, no two in one block. -/
structure OwnArgs (w : World) (lo hi : Nat) (av : List Value) (xss : List (List Int)) : Prop where
  len : av.length = xss.length
  own : ∀ i (h : i < xss.length) (h' : i < av.length), OwnInts w lo hi av[i] xss[i]
  apart : av.Pairwise fun a b => ∀ g, a.ownBlock = some g → b.ownBlock ≠ some g

section
variable {w w' : World} {lo hi lo' hi' B : Nat} {av : List Value} {xss : List (List Int)}
theorem OwnArgs.nil : OwnArgs w lo hi [] [] := ⟨rfl, fun i h => absurd h (by simp), .nil⟩
theorem OwnArgs.below (h : OwnArgs w lo hi av xss) (hb : Below B w w') (hB : hi ≤ B) : OwnArgs w' lo hi av xss := ⟨h.len, fun i h1 h2 => (h.own i h1 h2).below hb hB, h.apart⟩
theorem OwnArgs.mono (h : OwnArgs w lo hi av xss) (h1 : lo' ≤ lo) (h2 : hi ≤ hi') : OwnArgs w lo' hi' av xss := ⟨h.len, fun i h3 h4 => (h.own i h3 h4).mono h1 h2, h.apart⟩
theorem OwnArgs.set (h : OwnArgs w lo hi av xss) {p : Addr} (hp : p.block < lo ∨ hi ≤ p.block) (u : Value) : OwnArgs (w.setCell p u) lo hi av xss := ⟨h.len, fun i h3 h4 => (h.own i h3 h4).set hp u, h.apart⟩
theorem OwnInts.block {v : Value} {xs : List Int} (h : OwnInts w lo hi v xs) {g : Nat} (hg : v.ownBlock = some g) : lo ≤ g ∧ g < hi := ⟨(h.1.lt g hg).1, h.2 g hg⟩
/-- One more, in later blocks. -/
theorem OwnArgs.snoc (h : OwnArgs w lo hi av xss) {v : Value} {xs : List Int} (hv : OwnInts w hi hi' v xs) (hl : lo ≤ hi) (hh : hi ≤ hi') : OwnArgs w lo hi' (av ++ [v]) (xss ++ [xs]) := by
  have hlen := h.len
  refine ⟨by simp [hlen], fun i h1 h2 => ?_, ?_⟩
  · by_cases e : i < xss.length
    · rw [List.getElem_append_left (by omega), List.getElem_append_left e]
      exact (h.own i e (by omega)).mono (Nat.le_refl _) hh
    · have e2 : i = xss.length := by simp at h1; omega
      subst e2
      simp [← hlen]
      exact hv.mono hl (Nat.le_refl _)
  · rw [List.pairwise_append]
    refine ⟨h.apart, by simp, fun a ha b hb g hg hg' => ?_⟩
    simp at hb
    subst hb
    obtain ⟨i, hi', rfl⟩ := List.getElem_of_mem ha
    have h1 := (h.own i (by omega) hi').block hg
    have h2 := hv.block hg'
    omega
end

/-- A row of facts of the call's own, with its rows of integers, in blocks from lo on and below hi. -/
def OwnFacts (w : World) (lo hi : Nat) (v : Value) (fs : List LFact) : Prop :=
  ∃ av, OwnArgs w lo hi av (fs.map (·.2)) ∧ w.ownsRow lo 68 2 v fs.length (flat fs av) ∧ ∀ g, v.ownBlock = some g → g < hi

section
variable {w w' : World} {lo hi lo' hi' B : Nat} {v : Value} {fs : List LFact}
theorem ownsRow_below {e : TypeId} {size n : Nat} {xs : List Value} (h : w.ownsRow lo e size v n xs) (hlt : ∀ g, v.ownBlock = some g → g < hi) (hb : Below B w w') (hB : hi ≤ B) : w'.ownsRow lo e size v n xs := by
  obtain ⟨hlen, h⟩ := h
  refine ⟨hlen, ?_⟩
  rcases h with h | ⟨g, cap, cur, rfl, hbg, hg, r⟩
  · exact .inl h
  · exact .inr ⟨g, cap, cur, rfl, hbg, by rw [hb.block g (by have := hlt g rfl; omega)]; exact hg, r⟩
theorem ownsRow_mono {e : TypeId} {size n : Nat} {xs : List Value} (h : w.ownsRow lo e size v n xs) (h1 : lo' ≤ lo) : w.ownsRow lo' e size v n xs := by
  obtain ⟨hlen, h⟩ := h
  refine ⟨hlen, ?_⟩
  rcases h with h | ⟨g, cap, cur, rfl, hbg, r⟩
  · exact .inl h
  · exact .inr ⟨g, cap, cur, rfl, by omega, r⟩
theorem OwnFacts.below (h : OwnFacts w lo hi v fs) (hb : Below B w w') (hB : hi ≤ B) : OwnFacts w' lo hi v fs := by
  obtain ⟨av, h1, h2, h3⟩ := h
  exact ⟨av, h1.below hb hB, ownsRow_below h2 h3 hb hB, h3⟩
theorem OwnFacts.mono (h : OwnFacts w lo hi v fs) (h1 : lo' ≤ lo) (h2 : hi ≤ hi') : OwnFacts w lo' hi' v fs := by
  obtain ⟨av, ha, hr, hlt⟩ := h
  exact ⟨av, ha.mono h1 h2, ownsRow_mono hr h1, fun g hg => by have := hlt g hg; omega⟩

theorem OwnFacts.rd (h : OwnFacts w lo hi v fs) : RdFacts w hi v fs := by
  obtain ⟨av, ha, hr, hlt⟩ := h
  have hcells := @World.ownsRow.cells w lo 68 2 v fs.length (flat fs av) hr
  obtain ⟨hlen, hr⟩ := hr
  have hl : av.length = fs.length := by simpa using ha.len
  rcases hr with ⟨rfl, h0⟩ | ⟨g, cap, cur, rfl, hb, hg, hn, hm, hs, ht⟩
  · have : fs = [] := List.eq_nil_of_length_eq_zero h0
    subst this
    exact ⟨none, 0, rfl, by simp, fun h => absurd h (by simp)⟩
  · refine ⟨_, cap, rfl, hn, fun _ => ⟨g, 0, rfl, hlt g rfl, fun k hk => ⟨av[k]'(by omega), ?_, ?_, ?_⟩⟩⟩
    · have := hcells (g := g) rfl _ _ (flat_at fs av hl k hk (by omega)).1
      rwa [Go.WideShapes.add_plain] at this
    · have := hcells (g := g) rfl _ _ (flat_at fs av hl k hk (by omega)).2
      rwa [Go.WideShapes.add_plain, ← Nat.add_assoc] at this
    · have := ha.own k (by simpa using hk) (by omega)
      simpa using this.rd
end

/-- n facts' cells as make lays them. -/
def zeroCells : Nat → List Value
  | 0 => []
  | n + 1 => .int .i64 0 :: .slice none 0 0 :: zeroCells n
theorem zeroCells_length : ∀ n, (zeroCells n).length = n * 2
  | 0 => rfl
  | n + 1 => by simp [zeroCells, zeroCells_length n]; omega
theorem zeroCells_at : ∀ (n j : Nat), j < n * 2 → (zeroCells n)[j]? = some (if j % 2 = 0 then .int .i64 0 else .slice none 0 0)
  | 0, j, h => by omega
  | n + 1, 0, _ => by simp [zeroCells]
  | n + 1, 1, _ => by simp [zeroCells]
  | n + 1, j + 2, h => by
    have := zeroCells_at n j (by omega)
    simp only [zeroCells, List.getElem?_cons_succ, this]
    congr 2
    simp
theorem madeCells_facts (n : Nat) : (madeCells #[.int .i64 0, .slice none 0 0] (n * 2)).toList = zeroCells n := by
  apply List.ext_getElem?
  intro j
  by_cases h : j < n * 2
  · rw [zeroCells_at n j h]
    have h2 : j % 2 = 0 ∨ j % 2 = 1 := by omega
    rcases h2 with h2 | h2 <;> simp [madeCells, h, h2]
  · rw [List.getElem?_eq_none (by simp [madeCells]; omega), List.getElem?_eq_none (by rw [zeroCells_length]; omega)]

/-- How many integers facts have together. -/
def tot (fs : List LFact) : Nat := (fs.map fun f => f.2.length).sum

theorem len_le_tot : ∀ (fs : List LFact) (k : Nat) (h : k < fs.length), fs[k].2.length ≤ tot fs
  | [], _, h => absurd h (by simp)
  | f :: fs, 0, _ => by simp [tot]
  | f :: fs, k + 1, h => by
    have := len_le_tot fs k (by simpa using h)
    simp only [tot, List.map_cons, List.sum_cons, List.getElem_cons_succ] at this ⊢
    omega
theorem tot_take : ∀ (fs : List LFact) (k : Nat) (h : k < fs.length), tot (fs.take (k + 1)) = tot (fs.take k) + fs[k].2.length
  | [], _, h => absurd h (by simp)
  | f :: fs, 0, _ => by simp [tot]
  | f :: fs, k + 1, h => by
    have := tot_take fs k (by simpa using h)
    simp only [tot, List.take_succ_cons, List.map_cons, List.sum_cons, List.getElem_cons_succ] at this ⊢
    omega
end Go.Proofs.YtigkgheddngkeaaGreatDoor
/-
  The walks over lists of facts: toFactS, eqFactS, szFactS.
-/
namespace Go.Proofs.YtigkgheddngkeaaGreatDoor
open Go.RowKit

theorem Tryz.infoFact : (Tryz.prog.info? 68).map (fun i => (i.zero, i.size, i.bytes)) = some (some (.agg #[.int .i64 0, .slice none 0 0]), 2, 32) := by kernel_rfl

/-- What holds at toFactS's loop: k facts are copied. -/
structure ToRel (w wr : World) (fs : List LFact) (k : Nat) (av : List Value) : Prop where
  own : OwnArgs wr (w.heap.size + 1) wr.heap.size av ((fs.take k).map (·.2))
  row : ∃ cur : Array Value, Blk wr w.heap.size 68 cur ∧ cur.toList = flat (fs.take k) av ++ zeroCells (fs.length - k)
  below : Below w.heap.size w wr
  size : w.heap.size + 1 ≤ wr.heap.size

theorem ToRel.start (w : World) (fs : List LFact) : ToRel w (w.alloc (.cells (madeCells #[.int .i64 0, .slice none 0 0] (fs.length * 2)) 68)) fs 0 [] :=
  ⟨by simpa using OwnArgs.nil, ⟨_, Blk.new _ _ _, by simp [madeCells_facts, flat]⟩, below1 _ _, by simp⟩

/-- The cells that the next fact will take. -/
theorem ToRel.room {w wr : World} {fs : List LFact} {k : Nat} {av : List Value} (hr : ToRel w wr fs k av) (hlt : k < fs.length) {w4 : World} (hb : Below wr.heap.size wr w4) :
    w4.cell? ⟨w.heap.size, k * 2, none⟩ = some (.int .i64 0) ∧ w4.cell? ⟨w.heap.size, k * 2 + 1, none⟩ = some (.slice none 0 0) ∧ w4.frozen? ⟨w.heap.size, k * 2, none⟩ = false ∧ w4.frozen? ⟨w.heap.size, k * 2 + 1, none⟩ = false := by
  obtain ⟨ho, ⟨cur, hB, hcur⟩, hbe, hsz⟩ := hr
  have hB4 := hB.below hb (by omega)
  have hl : (flat (fs.take k) av).length = k * 2 := by
    rw [flat_length _ _ (by simpa using ho.len)]
    simp
    omega
  have hz : ∀ j, j < 2 → cur[k * 2 + j]? = some (if j % 2 = 0 then .int .i64 0 else .slice none 0 0) := fun j hj => by
    rw [← Array.getElem?_toList, hcur, List.getElem?_append_right (by omega), hl, show k * 2 + j - k * 2 = j by omega]
    exact zeroCells_at _ _ (by omega)
  exact ⟨(hB4.cell _).trans (hz 0 (by omega)), (hB4.cell _).trans (hz 1 (by omega)), hB4.frozen _, hB4.frozen _⟩

theorem ToRel.step {w wr : World} {fs : List LFact} {k : Nat} {av : List Value} (hr : ToRel w wr fs k av) (hlt : k < fs.length) {w4 : World} (hb : Below wr.heap.size wr w4) {a : Value}
    (ha : OwnInts w4 wr.heap.size w4.heap.size a fs[k].2) : ToRel w ((w4.setCell ⟨w.heap.size, k * 2, none⟩ (.int .i64 fs[k].1)).setCell ⟨w.heap.size, k * 2 + 1, none⟩ a) fs (k + 1) (av ++ [a]) := by
  obtain ⟨ho, ⟨cur, hB, hcur⟩, hbe, hsz⟩ := hr
  have hB4 := hB.below hb (by omega)
  have hl : (flat (fs.take k) av).length = k * 2 := by
    rw [flat_length _ _ (by simpa using ho.len)]
    simp
    omega
  have hs4 := hb.size
  refine ⟨?_, ⟨_, (hB4.set_ _ _).set_ _ _, ?_⟩, ((hbe.trans (hb.mono hbe.size)).setCell (Nat.le_refl _) _).setCell (Nat.le_refl _) _, by simp; omega⟩
  · have h1 := ((ho.below hb (Nat.le_refl _)).snoc ha (by omega) hs4)
    have h2 := (h1.set (p := ⟨w.heap.size, k * 2, none⟩) (.inl (by simp)) (.int .i64 fs[k].1)).set (p := ⟨w.heap.size, k * 2 + 1, none⟩) (.inl (by simp)) a
    have hs : ((w4.setCell ⟨w.heap.size, k * 2, none⟩ (.int .i64 fs[k].1)).setCell ⟨w.heap.size, k * 2 + 1, none⟩ a).heap.size = w4.heap.size := by simp
    rw [take_snoc fs k hlt, List.map_append, hs]
    exact h2
  · rw [take_snoc fs k hlt, flat_snoc _ _ (by simpa using ho.len)]
    obtain ⟨m, hm⟩ : ∃ m, fs.length - k = m + 1 := ⟨fs.length - k - 1, by omega⟩
    rw [show fs.length - (k + 1) = m by omega]
    simp [Array.toList_setIfInBounds, hcur, hm, zeroCells, List.set_append_right, hl]

theorem ToRel.done {w wr : World} {fs : List LFact} {av : List Value} (hr : ToRel w wr fs fs.length av) (hm : fs.length ≤ maxLen) : OwnFacts wr w.heap.size wr.heap.size (.slice (some ⟨w.heap.size, 0, none⟩) fs.length fs.length) fs := by
  obtain ⟨ho, ⟨cur, hB, hcur⟩, hbe, hsz⟩ := hr
  simp only [List.take_length, Nat.sub_self, zeroCells, List.append_nil] at ho hcur
  have hl := flat_length fs av (by simpa using ho.len)
  have hcl : cur.size = fs.length * 2 := by rw [← Array.length_toList, hcur, hl]
  refine ⟨av, ho.mono (by omega) (Nat.le_refl _), ⟨hl, .inr ⟨w.heap.size, fs.length, cur, rfl, Nat.le_refl _, hB, Nat.le_refl _, hm, hcl, ?_⟩⟩, fun g hg => ?_⟩
  · rw [hcur, ← hl, List.take_length]
  · simp [Value.ownBlock] at hg
    omega

set_option maxHeartbeats 400000 in
theorem toFactS_any (v : Value) (fs : List LFact) (w : World) (h : RdFacts w w.heap.size v fs) (hl : fs.length ≤ 1048576) (hn : tot fs ≤ 1048576) :
    Calls Tryz.prog 17 #[v] w fun e w' => ∃ A' c', e = .returned (.slice A' fs.length c') ∧ OwnFacts w' w.heap.size w'.heap.size (.slice A' fs.length c') fs ∧ Below w.heap.size w w' := by
  obtain ⟨i0, hi0, hz0, hz1, hz2⟩ := info_parts Tryz.infoFact
  have hmk := fun W => run_make_rowN (P := Tryz.prog) 35 68 i0 (.agg #[.int .i64 0, .slice none 0 0]) Tryz.underlying35 hi0 hz0 .i64 .i64 fs.length fs.length (Nat.le_refl _) (by rw [hz2]; omega) (by omega) W
  rw [hz1] at hmk
  simp only [Value.cells] at hmk
  have H := Lib.hid h
  obtain ⟨A, c, rfl, hc, hcell⟩ := h
  go_enter Tryz.func17, Tryz.ntmps17
  go_wp2_with (fail)
  go_loopw [4] (fun i wr => ∃ (k : Nat) (av : List Value), k ≤ fs.length ∧ i = .int .i64 k ∧ ToRel w wr fs k av) (fun i _ => fs.length - (intOf i).toNat)
  case atStart => exact ⟨0, [], Nat.zero_le _, rfl, ToRel.start w fs⟩
  case round =>
    obtain ⟨k, av, hk, rfl, hr⟩ := hrel
    by_cases hlt : k < fs.length
    · obtain ⟨b, o, rfl, hbB, hx⟩ := hcell (by omega)
      obtain ⟨a, hc1, hc2, hc3⟩ := hx k hlt
      have hk1 : wr.cell? ⟨b, o + k * 2, none⟩ = some (.int .i64 fs[k].1) := (hr.below.cell (p := ⟨b, o + k * 2, none⟩) hbB).trans hc1
      have hk2 : wr.cell? ⟨b, o + k * 2 + 1, none⟩ = some a := (hr.below.cell (p := ⟨b, o + k * 2 + 1, none⟩) hbB).trans hc2
      have HA := Lib.hid hc3
      obtain ⟨A3, c3, rfl, hc4, _⟩ := hc3
      clear hx hc1 hc2 hcell
      have hln := len_le_tot fs k hlt
      go_wp2_with (fail)
      refine (toFact_any _ fs[k] _ ⟨_, rfl, (HA.out.below hr.below (Nat.le_refl _)).more hr.below.size⟩ (by omega)).mono ?_
      rintro e w4 ⟨A4, c4, rfl, ho4, hb4⟩
      obtain ⟨r1, r2, r3, r4⟩ := hr.room hlt hb4
      have hstep := hr.step hlt hb4 ho4
      go_wp2_with (fail)
      go_roundw
      case rel => exact ⟨k + 1, _, by omega, by go_num, hstep⟩
      case measure => simp [intOf]; omega
    · have hkn : k = fs.length := by omega
      have HO := Lib.hid (show OwnFacts wr w.heap.size wr.heap.size (.slice (some ⟨w.heap.size, 0, none⟩) fs.length fs.length) fs from ToRel.done (by rw [← hkn]; exact hr) (by unfold maxLen; omega))
      have hbe := hr.below
      clear hkn hr hcell
      go_wp2_with (fail)
      go_ret
      exact ⟨_, _, rfl, HO.out, hbe⟩

/-- 'the first k of both are the same', kept from the walk. -/
def FSameTo (xs ys : List LFact) (k : Nat) : Prop := xs.take k = ys.take k
theorem FSameTo.step {xs ys : List LFact} {k : Nat} (h : FSameTo xs ys k) (h1 : k < xs.length) (h2 : k < ys.length) (e : xs[k] = ys[k]) : FSameTo xs ys (k + 1) := by
  unfold FSameTo at h ⊢
  rw [take_snoc xs k h1, take_snoc ys k h2, h, e]
theorem FSameTo.eq {xs ys : List LFact} (h : FSameTo xs ys xs.length) (hl : xs.length = ys.length) : xs = ys := by
  unfold FSameTo at h
  rwa [List.take_length, hl, List.take_length] at h

set_option maxHeartbeats 400000 in
set_option maxRecDepth 100000 in
theorem eqFactS_any (va vb : Value) (xs ys : List LFact) (w : World) (ha : RdFacts w w.heap.size va xs) (hb : RdFacts w w.heap.size vb ys) (hx : xs.length ≤ 1048576) (hy : ys.length ≤ 1048576) (htx : tot xs ≤ 1048576) (hty : tot ys ≤ 1048576) :
    Calls Tryz.prog 21 #[va, vb] w fun e w' => e = .returned (.bool (decide (xs = ys))) ∧ Below w.heap.size w w' := by
  obtain ⟨A, c, rfl, hc, ha⟩ := ha
  obtain ⟨A2, c2, rfl, hc2, hb⟩ := hb
  by_cases hl : xs.length = ys.length
  · have hl1 : ((xs.length : Int) != (ys.length : Int)) = false := by simp [hl]
    have HL := Lib.hid hl
    clear hl
    go_enter Tryz.func21, Tryz.ntmps21
    go_wp2_with (fail)
    go_loopw [5] (fun i wr => ∃ k : Nat, k ≤ xs.length ∧ i = .int .i64 k ∧ FSameTo xs ys k ∧ Below w.heap.size w wr) (fun i _ => xs.length - (intOf i).toNat)
    case atStart => exact ⟨0, Nat.zero_le _, rfl, rfl, Below.refl _ _⟩
    case round =>
      obtain ⟨k, hk, rfl, hs, hbe⟩ := hrel
      by_cases hlt : k < xs.length
      · have hlt2 : k < ys.length := by have := HL.out; omega
        obtain ⟨b, o, rfl, hbB, hxx⟩ := ha (by omega)
        obtain ⟨b2, o2, rfl, hbB2, hyy⟩ := hb (by omega)
        obtain ⟨a, p1, p2, p3⟩ := hxx k hlt
        obtain ⟨a', q1, q2, q3⟩ := hyy k hlt2
        have k1 : wr.cell? ⟨b, o + k * 2, none⟩ = some (.int .i64 xs[k].1) := (hbe.cell (p := ⟨b, o + k * 2, none⟩) hbB).trans p1
        have k2 : wr.cell? ⟨b, o + k * 2 + 1, none⟩ = some a := (hbe.cell (p := ⟨b, o + k * 2 + 1, none⟩) hbB).trans p2
        have k3 : wr.cell? ⟨b2, o2 + k * 2, none⟩ = some (.int .i64 ys[k].1) := (hbe.cell (p := ⟨b2, o2 + k * 2, none⟩) hbB2).trans q1
        have k4 : wr.cell? ⟨b2, o2 + k * 2 + 1, none⟩ = some a' := (hbe.cell (p := ⟨b2, o2 + k * 2 + 1, none⟩) hbB2).trans q2
        have hln := len_le_tot xs k hlt
        have hln2 := len_le_tot ys k hlt2
        have HA := Lib.hid p3
        have HA2 := Lib.hid q3
        obtain ⟨A3, c3, rfl, hc3, _⟩ := p3
        obtain ⟨A4, c4, rfl, hc4, _⟩ := q3
        clear hxx hyy ha hb p1 p2 q1 q2
        go_wp2_with (fail)
        go_still_tail 8, (by kernel_rfl)
        change wpList _ _ _ _ _ wr.drew
        obtain ⟨w2, hw2⟩ : ∃ w2, w2 = wr.drew := ⟨_, rfl⟩
        rw [← hw2]
        have hbe2 : Below w.heap.size w w2 := by rw [hw2]; exact hbe.drew
        clear hw2
        go_wp2_with (fail)
        refine (eqFact_any _ _ xs[k] ys[k] _ ⟨_, rfl, (HA.out.below hbe2 (Nat.le_refl _)).more hbe2.size⟩ ⟨_, rfl, (HA2.out.below hbe2 (Nat.le_refl _)).more hbe2.size⟩ (by omega) (by omega)).mono ?_
        rintro e w4 ⟨rfl, hb4⟩
        have hB4 := hbe2.trans (hb4.mono hbe2.size)
        by_cases he : xs[k] = ys[k]
        · have hdb : decide (xs[k] = ys[k]) = true := by simp [he]
          have HS := Lib.hid (hs.step hlt hlt2 he)
          clear he hs
          go_wp2_with (fail)
          go_roundw
          case rel => exact ⟨k + 1, by omega, by go_num, HS.out, hB4⟩
          case measure => simp [intOf]; omega
        · have hdb : decide (xs[k] = ys[k]) = false := by simp [he]
          have HE := Lib.hid (show xs ≠ ys from fun e => he (by subst e; rfl))
          clear he hs
          go_wp2_with (fail)
          go_ret
          exact ⟨ret_bool (by simp [HE.out]), hB4⟩
      · have hkn : k = xs.length := by omega
        have HE := Lib.hid (show xs = ys from FSameTo.eq (by rw [← hkn]; exact hs) HL.out)
        clear hkn hs ha hb
        go_wp2_with (fail)
        go_ret
        exact ⟨ret_bool (by simp [HE.out]), hbe⟩
  · have hl1 : ((xs.length : Int) != (ys.length : Int)) = true := by simp; omega
    have HE := Lib.hid (show xs ≠ ys from fun e => hl (by rw [e]))
    clear ha hb hl
    go_enter Tryz.func21, Tryz.ntmps21
    go_wp2_with (fail)
    go_ret
    exact ⟨ret_bool (by simp [HE.out]), Below.refl _ _⟩

/-- What szFactS answers: -1, or what is left when the facts and all their integers are taken. -/
def SzResF (r left : Int) (fs : List LFact) : Prop := r = -1 ∨ (0 ≤ r ∧ r + fs.length + tot fs = left)
def SzToF (r left : Int) (fs : List LFact) (k : Nat) : Prop := 0 ≤ r ∧ r + fs.length + tot (fs.take k) = left

set_option maxHeartbeats 400000 in
theorem szFactS_any (v : Value) (fs : List LFact) (left : Int) (w : World) (h : RdFacts w w.heap.size v fs) (h0 : 0 ≤ left) (hl : left ≤ 1048576) (hn : fs.length ≤ 9223372036854775807) (hm : ∀ k (h : k < fs.length), fs[k].2.length ≤ 9223372036854775807) :
    Calls Tryz.prog 14 #[v, .int .i64 left] w fun e w' => ∃ r, e = .returned (.int .i64 r) ∧ SzResF r left fs ∧ Below w.heap.size w w' := by
  obtain ⟨A, c, rfl, hc, hcell⟩ := h
  by_cases hneg : left - (fs.length : Int) < 0
  · go_enter Tryz.func14, Tryz.ntmps14
    go_wp2_with (fail)
    go_ret
    exact ⟨_, rfl, .inl rfl, Below.refl _ _⟩
  · go_enter Tryz.func14, Tryz.ntmps14
    go_wp2_with (fail)
    go_loopw [1, 5] (fun l i wr => ∃ (k : Nat) (r : Int), k ≤ fs.length ∧ i = .int .i64 k ∧ l = .int .i64 r ∧ SzToF r left fs k ∧ Below w.heap.size w wr) (fun _ i _ => fs.length - (intOf i).toNat)
    case atStart => exact ⟨0, _, Nat.zero_le _, rfl, rfl, ⟨by omega, by simp [tot]⟩, Below.refl _ _⟩
    case round =>
      obtain ⟨k, r, hk, rfl, rfl, hs, hbe⟩ := hrel
      by_cases hlt : k < fs.length
      · obtain ⟨b, o, rfl, hbB, hx⟩ := hcell (by omega)
        obtain ⟨a, p1, p2, p3⟩ := hx k hlt
        have k1 : wr.cell? ⟨b, o + k * 2, none⟩ = some (.int .i64 fs[k].1) := (hbe.cell (p := ⟨b, o + k * 2, none⟩) hbB).trans p1
        have k2 : wr.cell? ⟨b, o + k * 2 + 1, none⟩ = some a := (hbe.cell (p := ⟨b, o + k * 2 + 1, none⟩) hbB).trans p2
        have HA := Lib.hid p3
        obtain ⟨A3, c3, rfl, hc3, _⟩ := p3
        have hmk := hm k hlt
        have htk := tot_take fs k hlt
        have hcs := szV_cases r fs[k].2.length
        have hr0 := hs.1
        have hr1 := hs.2
        have HT := Lib.hid (And.intro htk hr1)
        clear htk hr1 hx p1 p2 hcell
        go_wp2_with (fail)
        refine (szFact_any _ fs[k] r _ ⟨_, rfl, (HA.out.below hbe (Nat.le_refl _)).more hbe.size⟩ hr0 (by have := HT.out; omega) hmk).mono ?_
        rintro e w4 ⟨rfl, hb4⟩
        have hB4 := hbe.trans (hb4.mono hbe.size)
        rcases hcs with ⟨e1, _⟩ | ⟨e1, e2⟩
        · rw [e1]
          clear e1
          go_wp2_with (fail)
          go_ret
          exact ⟨_, rfl, .inl rfl, hB4⟩
        · have h1 : ¬ szV r fs[k].2.length < 0 := by omega
          have HS := Lib.hid (show SzToF (szV r fs[k].2.length) left fs (k + 1) from ⟨e1, by have := HT.out; omega⟩)
          clear e2
          go_wp2_with (fail)
          go_roundw
          case rel => exact ⟨k + 1, _, by omega, by go_num, rfl, HS.out, hB4⟩
          case measure => simp [intOf]; omega
      · have hkn : k = fs.length := by omega
        have HE := Lib.hid (show SzResF r left fs from .inr ⟨hs.1, by have := hs.2; rw [hkn, List.take_length] at this; exact this⟩)
        clear hkn hs hcell
        go_wp2_with (fail)
        go_ret
        exact ⟨_, rfl, HE.out, hbe⟩

end Go.Proofs.YtigkgheddngkeaaGreatDoor
/-
  Marks: what markIntS, markFactS leave and heldIntS, heldFactS find. The words, and the walks over integers.
-/
namespace Go.Proofs.YtigkgheddngkeaaGreatDoor
open Go.RowKit

section
variable {lo hi lo' hi' : Nat} {w w1 w' : World}
theorem OwnFacts.only {v : Value} {fs : List LFact} (h : OwnFacts w lo hi v fs) (ho : Only lo' hi' w w') (hd : hi ≤ lo' ∨ hi' ≤ lo) : OwnFacts w' lo hi v fs := by
  obtain ⟨av, ha, hr, hlt⟩ := h
  exact ⟨av, ⟨ha.len, fun i h1 h2 => (ha.own i h1 h2).only ho hd, ha.apart⟩, ownsRow_only hr (fun g hg => ho.block g (hr.lt g hg).2 (by have := hr.lt g hg; have := hlt g hg; omega)), hlt⟩

end

end Go.Proofs.YtigkgheddngkeaaGreatDoor
/-
  The walk of l1In.
-/
namespace Go.Proofs.YtigkgheddngkeaaGreatDoor
open Go.RowKit

theorem l1In_any (n lo hi : Int) (w : World) : Calls Tryz.prog 126 #[.int .i64 n, .int .i64 lo, .int .i64 hi] w fun e w' => e = .returned (.bool (decide (lo ≤ n ∧ n ≤ hi))) ∧ w = w' := by
  by_cases h1 : lo ≤ n
  · by_cases h2 : n ≤ hi
    all_goals
      go_enter Tryz.func126, Tryz.ntmps126
      go_wp2
      go_ret
      exact ⟨ret_bool (by simp [*]), rfl⟩
  · have hd : decide (lo ≤ n) = false := by simpa using h1
    go_enter Tryz.func126, Tryz.ntmps126
    go_wp2
    go_ret
    exact ⟨ret_bool (by simp [*]), rfl⟩

theorem l1In_yes {n lo hi : Int} (h : lo ≤ n ∧ n ≤ hi) (w : World) : Calls Tryz.prog 126 #[.int .i64 n, .int .i64 lo, .int .i64 hi] w fun e w' => e = .returned (.bool true) ∧ w = w' :=
  (l1In_any n lo hi w).mono fun _ _ ⟨he, hw⟩ => ⟨by rw [he, decide_eq_true h], hw⟩
theorem l1In_no {n lo hi : Int} (h : ¬ (lo ≤ n ∧ n ≤ hi)) (w : World) : Calls Tryz.prog 126 #[.int .i64 n, .int .i64 lo, .int .i64 hi] w fun e w' => e = .returned (.bool false) ∧ w = w' :=
  (l1In_any n lo hi w).mono fun _ _ ⟨he, hw⟩ => ⟨by rw [he, decide_eq_false h], hw⟩

end Go.Proofs.YtigkgheddngkeaaGreatDoor
/-
  The walks of ArityOk: the program's and the specification's.
-/
namespace Go.Proofs.YtigkgheddngkeaaGreatDoor
open Go.RowKit

def placeOk (x : Int) : Bool := decide (0 ≤ x ∧ x ≤ 2)
def arityOk (xs : List Int) : Bool := decide (xs.length ≤ 24) && xs.all placeOk
/-- 'the first k are places', kept from the walk. -/
def PlacesTo (xs : List Int) (k : Nat) : Prop := ∀ j, j < k → placeOk (xs.getD j 0) = true
theorem PlacesTo.step {xs : List Int} {k : Nat} (h : PlacesTo xs k) (e : placeOk (xs.getD k 0) = true) : PlacesTo xs (k + 1) := fun j hj => by
  by_cases h2 : j = k
  · subst h2; exact e
  · exact h j (by omega)
theorem PlacesTo.all {xs : List Int} (h : PlacesTo xs xs.length) : xs.all placeOk = true := by
  rw [List.all_eq_true]
  intro x hx
  obtain ⟨j, hj, rfl⟩ := List.getElem_of_mem hx
  have := h j hj
  simpa [hj] using this
theorem places_not {xs : List Int} {k : Nat} (hk : k < xs.length) (e : placeOk xs[k] = false) : xs.all placeOk = false := by
  rw [List.all_eq_false]
  exact ⟨xs[k], List.getElem_mem hk, by simp [e]⟩

set_option maxHeartbeats 400000 in
theorem specArityOk_any (v : Value) (xs : List Int) (w : World) (h : RdInts w w.heap.size v xs) (hr : xs.length * 8 ≤ 140737488351232) :
    Calls Tryz.prog 123 #[v] w fun e w' => e = .returned (.bool (arityOk xs)) ∧ w = w' := by
  obtain ⟨A, c, rfl, hc, ha⟩ := h
  go_enter Tryz.func123, Tryz.ntmps123
  go_wp2_with (fail)
  go_loop [3] (fun i => ∃ k : Nat, k ≤ xs.length ∧ i = .int .i64 k ∧ PlacesTo xs k) (fun i => xs.length - (intOf i).toNat)
  case atStart => exact ⟨0, Nat.zero_le _, rfl, fun j hj => absurd hj (by omega)⟩
  case round =>
    obtain ⟨k, hk, rfl, hs⟩ := hrel
    by_cases hlt : k < xs.length
    · obtain ⟨b, o, rfl, hbB, hx⟩ := ha (by omega)
      have hck : w.cell? ⟨b, o + k, none⟩ = some (.int .i64 xs[k]) := hx k hlt
      clear hx ha
      by_cases he : 0 ≤ xs[k] ∧ xs[k] ≤ 2
      · have HS := Lib.hid (hs.step (by simpa [hlt, placeOk] using he))
        clear hs
        go_wp2_with (go_at_call 126; refine (l1In_any _ _ _ _).mono ?_; rintro e w' ⟨rfl, rfl⟩)
        go_round
        case rel => exact ⟨k + 1, by omega, by go_num, HS.out⟩
        case measure => simp [intOf]; omega
      · have hd : decide (0 ≤ xs[k] ∧ xs[k] ≤ 2) = false := by simpa using he
        have HE := Lib.hid (places_not hlt (by simpa [placeOk] using he))
        clear hs he
        go_wp2_with (go_at_call 126; refine (l1In_any _ _ _ _).mono ?_; rintro e w' ⟨rfl, rfl⟩)
        go_ret
        exact ⟨ret_bool (by simp [arityOk, HE.out]), rfl⟩
    · have hkn : k = xs.length := by omega
      have HE := Lib.hid (show xs.all placeOk = true from PlacesTo.all (by rw [← hkn]; exact hs))
      clear hkn hs ha
      go_wp2_with (fail)
      go_ret
      exact ⟨ret_bool (by unfold arityOk; rw [HE.out]; simp; try omega), rfl⟩

set_option maxHeartbeats 400000 in
theorem arityOk_any (v : Value) (xs : List Int) (w : World) (h : RdInts w w.heap.size v xs) (hr : xs.length * 8 ≤ 140737488351232) :
    Calls Tryz.prog 131 #[v] w fun e w' => e = .returned (.bool (arityOk xs)) ∧ Below w.heap.size w w' := by
  obtain ⟨A, c, rfl, hc, ha⟩ := h
  by_cases hl : xs.length ≤ 24
  · go_enter Tryz.func131, Tryz.ntmps131
    go_wp2
    go_loopw [4, 10] (fun _ i wr => ∃ k : Nat, k ≤ xs.length ∧ i = .int .i64 k ∧ PlacesTo xs k ∧ Below w.heap.size w wr) (fun _ i _ => xs.length - (intOf i).toNat)
    case atStart => exact ⟨0, Nat.zero_le _, rfl, fun j hj => absurd hj (by omega), Below.refl _ _⟩
    case round =>
      obtain ⟨k, hk, rfl, hs, hbe⟩ := hrel
      by_cases hlt : k < xs.length
      · obtain ⟨b, o, rfl, hbB, hx⟩ := ha (by omega)
        have hck : wr.cell? ⟨b, o + k, none⟩ = some (.int .i64 xs[k]) := (hbe.cell (p := ⟨b, o + k, none⟩) hbB).trans (hx k hlt)
        clear hx ha
        by_cases h0 : xs[k] < 0
        · have HE := Lib.hid (places_not hlt (by simp [placeOk]; omega))
          clear hs
          go_wp2
          go_ret
          exact ⟨ret_bool (by simp [arityOk, HE.out]), hbe⟩
        · have hd : decide (xs[k] < 0) = false := by simpa using h0
          by_cases h2 : 2 < xs[k]
          · have HE := Lib.hid (places_not hlt (by simp [placeOk]; omega))
            clear hs
            go_wp2
            go_ret
            exact ⟨ret_bool (by simp [arityOk, HE.out]), hbe⟩
          · have HS := Lib.hid (hs.step (by simp [hlt, placeOk]; omega))
            clear hs
            go_wp2
            go_roundw
            case rel => exact ⟨k + 1, by omega, by go_num, HS.out, hbe⟩
            case measure => simp [intOf]; omega
      · have hkn : k = xs.length := by omega
        have HE := Lib.hid (show xs.all placeOk = true from PlacesTo.all (by rw [← hkn]; exact hs))
        have HL := Lib.hid hl
        clear hkn hs ha
        go_wp2
        go_ret
        exact ⟨ret_bool (by unfold arityOk; rw [HE.out]; simp [HL.out]), hbe⟩
  · have HL := Lib.hid hl
    have hg : (24 : Int) < xs.length := by omega
    clear ha
    go_enter Tryz.func131, Tryz.ntmps131
    go_wp2
    go_ret
    exact ⟨ret_bool (by simp [arityOk, HL.out]), Below.refl _ _⟩

end Go.Proofs.YtigkgheddngkeaaGreatDoor
/-
  The order of facts: its plain mathematics, and the walks of cmp.Compare, cmp.Or, slices.Compare, the specification's l1Way.
-/
namespace Go.Proofs.YtigkgheddngkeaaGreatDoor
open Go.RowKit

def cmpI (a b : Int) : Int := if a < b then -1 else if b < a then 1 else 0
def cmpL : List Int → List Int → Int
  | [], [] => 0
  | [], _ :: _ => -1
  | _ :: _, [] => 1
  | x :: xs, y :: ys => if x = y then cmpL xs ys else cmpI x y
def factOrder (f g : LFact) : Int := if f.1 = g.1 then cmpL f.2 g.2 else cmpI f.1 g.1

theorem cmpL_at {xs ys : List Int} {k : Nat} (h1 : k < xs.length) (h2 : k < ys.length) : cmpL (xs.drop k) (ys.drop k) = if xs[k] = ys[k] then cmpL (xs.drop (k + 1)) (ys.drop (k + 1)) else cmpI xs[k] ys[k] := by
  rw [List.drop_eq_getElem_cons h1, List.drop_eq_getElem_cons h2]
  rfl
theorem cmpL_long {xs ys : List Int} {k : Nat} (h1 : k < xs.length) (h2 : ys.length ≤ k) : cmpL (xs.drop k) (ys.drop k) = 1 := by
  rw [List.drop_eq_getElem_cons h1, List.drop_eq_nil_of_le h2]
  rfl
theorem cmpL_short {xs ys : List Int} {k : Nat} (h1 : xs.length ≤ k) (h2 : k < ys.length) : cmpL (xs.drop k) (ys.drop k) = -1 := by
  rw [List.drop_eq_nil_of_le h1, List.drop_eq_getElem_cons h2]
  rfl
theorem cmpL_end {xs ys : List Int} {k : Nat} (h1 : xs.length ≤ k) (h2 : ys.length ≤ k) : cmpL (xs.drop k) (ys.drop k) = 0 := by
  rw [List.drop_eq_nil_of_le h1, List.drop_eq_nil_of_le h2]
  rfl
theorem cmpI_ne {a b : Int} (h : a ≠ b) : cmpI a b ≠ 0 := by
  unfold cmpI
  split
  · omega
  · split <;> omega
theorem cmpI_zero {a b : Int} (h : cmpI a b = 0) : a = b := by
  unfold cmpI at h
  split at h
  · omega
  · split at h <;> omega
theorem cmpI_self (a : Int) : cmpI a a = 0 := by simp [cmpI]
/-- 'the first k of both are the same', as the order has it. -/
def CmpTo (xs ys : List Int) (k : Nat) : Prop := cmpL xs ys = cmpL (xs.drop k) (ys.drop k)

theorem isNaN_any (a : Int) (w : World) : Calls Tryz.prog 208 #[.int .i64 a] w fun e w' => e = .returned (.bool false) ∧ w = w' := by
  have h : (a != a) = false := by simp
  go_enter Tryz.func208, Tryz.ntmps208
  go_wp2_with (fail)
  go_ret
  exact ⟨rfl, rfl⟩

set_option maxHeartbeats 400000 in
theorem cmpCompare_any (a b : Int) (w : World) : Calls Tryz.prog 180 #[.int .i64 a, .int .i64 b] w fun e w' => e = .returned (.int .i64 (cmpI a b)) ∧ w = w' := by
  by_cases h1 : a < b
  · have HE := Lib.hid (show cmpI a b = -1 by simp [cmpI, h1])
    go_enter Tryz.func180, Tryz.ntmps180
    go_wp2_with (go_at_call 208; refine (isNaN_any _ _).mono ?_; rintro e w' ⟨rfl, rfl⟩)
    go_ret
    exact ⟨ret_int HE.out.symm, rfl⟩
  · by_cases h2 : b < a
    · have HE := Lib.hid (show cmpI a b = 1 by simp [cmpI, h1, h2])
      go_enter Tryz.func180, Tryz.ntmps180
      go_wp2_with (go_at_call 208; refine (isNaN_any _ _).mono ?_; rintro e w' ⟨rfl, rfl⟩)
      go_ret
      exact ⟨ret_int HE.out.symm, rfl⟩
    · have HE := Lib.hid (show cmpI a b = 0 by simp [cmpI, h1, h2])
      go_enter Tryz.func180, Tryz.ntmps180
      go_wp2_with (go_at_call 208; refine (isNaN_any _ _).mono ?_; rintro e w' ⟨rfl, rfl⟩)
      go_ret
      exact ⟨ret_int HE.out.symm, rfl⟩

theorem l1Way_any (a b : Int) (w : World) : Calls Tryz.prog 168 #[.int .i64 a, .int .i64 b] w fun e w' => e = .returned (.int .i64 (cmpI a b)) ∧ w = w' := by
  by_cases h1 : a < b
  · have HE := Lib.hid (show cmpI a b = -1 by simp [cmpI, h1])
    go_enter Tryz.func168, Tryz.ntmps168
    go_wp2_with (fail)
    go_ret
    exact ⟨ret_int HE.out.symm, rfl⟩
  · by_cases h2 : b < a
    · have HE := Lib.hid (show cmpI a b = 1 by simp [cmpI, h1, h2])
      go_enter Tryz.func168, Tryz.ntmps168
      go_wp2_with (fail)
      go_ret
      exact ⟨ret_int HE.out.symm, rfl⟩
    · have HE := Lib.hid (show cmpI a b = 0 by simp [cmpI, h1, h2])
      go_enter Tryz.func168, Tryz.ntmps168
      go_wp2_with (fail)
      go_ret
      exact ⟨ret_int HE.out.symm, rfl⟩

set_option maxHeartbeats 400000 in
theorem slicesCompare_any (va vb : Value) (xs ys : List Int) (w : World) (ha : RdInts w w.heap.size va xs) (hb : RdInts w w.heap.size vb ys) (hr : xs.length * 8 ≤ 140737488351232) (hr2 : ys.length * 8 ≤ 140737488351232) :
    Calls Tryz.prog 181 #[va, vb] w fun e w' => e = .returned (.int .i64 (cmpL xs ys)) ∧ w = w' := by
  obtain ⟨A, c, rfl, hc, ha⟩ := ha
  obtain ⟨A2, c2, rfl, hc2, hb⟩ := hb
  go_enter Tryz.func181, Tryz.ntmps181
  go_wp2_with (fail)
  go_loop [5, 6, 7, 8, 11] (fun _ _ _ _ i => ∃ k : Nat, k ≤ xs.length ∧ i = .int .i64 k ∧ (0 < k → k ≤ ys.length) ∧ CmpTo xs ys k) (fun _ _ _ _ i => xs.length - (intOf i).toNat)
  case atStart => exact ⟨0, Nat.zero_le _, rfl, fun h => absurd h (by omega), rfl⟩
  case round =>
    obtain ⟨k, hk, rfl, hky, hs⟩ := hrel
    by_cases hlt : k < xs.length
    · obtain ⟨b, o, rfl, hbB, hx⟩ := ha (by omega)
      have hck := hx k hlt
      by_cases hlt2 : k < ys.length
      · obtain ⟨b2, o2, rfl, hbB2, hx2⟩ := hb (by omega)
        have hck2 := hx2 k hlt2
        have hge : ¬ ys.length ≤ k := by omega
        clear hx hx2 ha hb
        by_cases he : xs[k] = ys[k]
        · have HS := Lib.hid (show CmpTo xs ys (k + 1) by unfold CmpTo at hs ⊢; rw [hs, cmpL_at hlt hlt2, if_pos he])
          have h0 : (cmpI xs[k] ys[k] != 0) = false := by rw [he, cmpI_self]; rfl
          clear he hs hky
          go_wp2_with (go_at_call 180; refine (cmpCompare_any _ _ _).mono ?_; rintro e w' ⟨rfl, rfl⟩)
          go_round
          case rel => exact ⟨k + 1, by omega, by go_num, fun _ => by omega, HS.out⟩
          case measure => simp [intOf]; omega
        · have HS := Lib.hid (show cmpL xs ys = cmpI xs[k] ys[k] by unfold CmpTo at hs; rw [hs, cmpL_at hlt hlt2, if_neg he])
          have h0 : (cmpI xs[k] ys[k] != 0) = true := by simp [cmpI_ne he]
          clear he hs hky
          go_wp2_with (go_at_call 180; refine (cmpCompare_any _ _ _).mono ?_; rintro e w' ⟨rfl, rfl⟩)
          go_ret
          exact ⟨ret_int HS.out.symm, rfl⟩
      · have HS := Lib.hid (show cmpL xs ys = 1 by unfold CmpTo at hs; rw [hs, cmpL_long hlt (by omega)])
        have hge : ys.length ≤ k := by omega
        clear hs hky hx ha hb
        go_wp2_with (fail)
        go_ret
        exact ⟨ret_int HS.out.symm, rfl⟩
    · have hkn : xs.length = k := by omega
      by_cases hlt2 : xs.length < ys.length
      · have HS := Lib.hid (show cmpL xs ys = -1 by unfold CmpTo at hs; rw [hs, cmpL_short (by omega) (by omega)])
        clear hs hky hkn ha hb
        go_wp2_with (fail)
        go_ret
        exact ⟨ret_int HS.out.symm, rfl⟩
      · have HS := Lib.hid (show cmpL xs ys = 0 by
          unfold CmpTo at hs
          rcases Nat.eq_zero_or_pos k with h0 | h0
          · rw [hs, cmpL_end (by omega) (by omega)]
          · rw [hs, cmpL_end (by omega) (by have := hky h0; omega)])
        clear hs hky hkn ha hb
        go_wp2_with (fail)
        go_ret
        exact ⟨ret_int HS.out.symm, rfl⟩

end Go.Proofs.YtigkgheddngkeaaGreatDoor
/-
  The walks of FactOrder: the program's (with cmp.Or) and the specification's.
-/
namespace Go.Proofs.YtigkgheddngkeaaGreatDoor
open Go.RowKit

def orI (a b : Int) : Int := if a = 0 then b else a

set_option maxHeartbeats 400000 in
theorem cmpOr_any (v : Value) (a b : Int) (w : World) (h : RdInts w w.heap.size v [a, b]) :
    Calls Tryz.prog 179 #[v] w fun e w' => e = .returned (.int .i64 (orI a b)) ∧ w = w' := by
  obtain ⟨A, c, rfl, hc, ha⟩ := h
  obtain ⟨bb, o, rfl, hbB, hx⟩ := ha (by simp)
  have h0 : w.cell? ⟨bb, o, none⟩ = some (.int .i64 a) := by simpa using hx 0 (by simp)
  have h1 : w.cell? ⟨bb, o + 1, none⟩ = some (.int .i64 b) := by simpa using hx 1 (by simp)
  clear hx ha
  have hll : ([a, b] : List Int).length = 2 := rfl
  rw [hll]
  go_enter Tryz.func179, Tryz.ntmps179
  go_wp2_with (fail)
  go_loop [5, 8] (fun _ i => ∃ k : Nat, k ≤ 2 ∧ i = .int .i64 k ∧ (0 < k → a = 0) ∧ (1 < k → b = 0)) (fun _ i => 2 - (intOf i).toNat)
  case atStart => exact ⟨0, by omega, rfl, fun h => absurd h (by omega), fun h => absurd h (by omega)⟩
  case round =>
    obtain ⟨k, hk, rfl, hk0, hk1⟩ := hrel
    match k, hk with
    | 0, _ =>
      clear hk0 hk1
      by_cases ha0 : a = 0
      · subst ha0
        go_wp2_with (fail)
        go_round
        case rel => exact ⟨1, by omega, rfl, by simp, fun h => absurd h (by omega)⟩
        case measure => simp [intOf]
      · have hb : (a != 0) = true := by simpa using ha0
        have HE := Lib.hid (show orI a b = a by simp [orI, ha0])
        clear ha0
        go_wp2_with (fail)
        go_ret
        exact ⟨ret_int HE.out.symm, rfl⟩
    | 1, _ =>
      have ha0 := hk0 (by omega)
      clear hk0 hk1
      subst ha0
      by_cases hb0 : b = 0
      · subst hb0
        go_wp2_with (fail)
        go_round
        case rel => exact ⟨2, by omega, rfl, by simp, by simp⟩
        case measure => simp [intOf]
      · have hb : (b != 0) = true := by simpa using hb0
        have HE := Lib.hid (show orI 0 b = b by simp [orI])
        clear hb0
        go_wp2_with (fail)
        go_ret
        exact ⟨ret_int HE.out.symm, rfl⟩
    | 2, _ =>
      have ha0 := hk0 (by omega)
      have hb0 := hk1 (by omega)
      clear hk0 hk1
      subst ha0
      subst hb0
      go_wp2_with (fail)
      go_ret
      exact ⟨ret_int rfl, rfl⟩

theorem factOrder_or (f g : LFact) : orI (cmpI f.1 g.1) (cmpL f.2 g.2) = factOrder f g := by
  unfold orI factOrder
  by_cases h : f.1 = g.1
  · rw [if_pos h, h, cmpI_self, if_pos rfl]
  · rw [if_neg h, if_neg (cmpI_ne h)]

set_option maxHeartbeats 400000 in
set_option maxRecDepth 100000 in
theorem implFactOrder_any (v v2 : Value) (f g : LFact) (w : World) (h : RdFact w w.heap.size v f) (h2 : RdFact w w.heap.size v2 g) (hn : f.2.length ≤ 1048576) (hn2 : g.2.length ≤ 1048576) :
    Calls Tryz.prog 139 #[v, v2] w fun e w' => e = .returned (.int .i64 (factOrder f g)) ∧ Below w.heap.size w w' := by
  obtain ⟨a, rfl, h⟩ := h
  have H := Lib.hid h
  obtain ⟨A, c, rfl, hc, _⟩ := h
  obtain ⟨a, rfl, h2⟩ := h2
  have H2 := Lib.hid h2
  obtain ⟨A2, c2, rfl, hc2, _⟩ := h2
  have HF := Lib.hid (factOrder_or f g)
  go_enter Tryz.func139, Tryz.ntmps139
  go_wp2_with (fail)
  obtain ⟨w1, hw1⟩ : ∃ w1, w1 = ((w.alloc (Obj.cells #[Value.int IntKind.i64 f.1, Value.slice A f.2.length c] 68)).alloc (Obj.cells #[Value.int IntKind.i64 g.1, Value.slice A2 g.2.length c2] 68)) := ⟨_, rfl⟩
  have B1 : Below w.heap.size w w1 := by rw [hw1]; exact below2 _ _ _
  have k0 : Blk w1 w.heap.size 68 #[.int .i64 f.1, .slice A f.2.length c] := by rw [hw1]; exact (Blk.new w _ _).alloc _
  have k1 : Blk w1 (w.heap.size + 1) 68 #[.int .i64 g.1, .slice A2 g.2.length c2] := by rw [hw1]; simpa using Blk.new (w.alloc (Obj.cells #[Value.int IntKind.i64 f.1, Value.slice A f.2.length c] 68)) 68 #[.int .i64 g.1, .slice A2 g.2.length c2]
  rw [← hw1]
  clear hw1
  have HS0 := Lib.hid (show ∀ W, Below w1.heap.size w1 W → (Below w1.heap.size w1 W ∧ W.cell? ⟨w.heap.size, 0, none⟩ = some (.int .i64 f.1) ∧ W.cell? ⟨w.heap.size, 1, none⟩ = some (.slice A f.2.length c) ∧ W.cell? ⟨w.heap.size + 1, 0, none⟩ = some (.int .i64 g.1) ∧ W.cell? ⟨w.heap.size + 1, 1, none⟩ = some (.slice A2 g.2.length c2)) from
    fun W hW => ⟨hW, (k0.below hW k0.lt).cell 0, (k0.below hW k0.lt).cell 1, (k1.below hW k1.lt).cell 0, (k1.below hW k1.lt).cell 1⟩)
  go_region_held3 (fun W => Below w1.heap.size w1 W ∧ W.cell? ⟨w.heap.size, 0, none⟩ = some (.int .i64 f.1) ∧ W.cell? ⟨w.heap.size, 1, none⟩ = some (.slice A f.2.length c) ∧ W.cell? ⟨w.heap.size + 1, 0, none⟩ = some (.int .i64 g.1) ∧ W.cell? ⟨w.heap.size + 1, 1, none⟩ = some (.slice A2 g.2.length c2))
    (first | assumption | exact HS0.out _ (Below.refl _ _) | exact HS0.out _ (below1 _ _).drew | exact HS0.out _ (Below.refl _ _).drew | exact HS0.out _ (bthen (And.left (by assumption)) (by assumption)) | (refine HS0.out _ ?_; go_goals; fail))
    (first
      | (go_at_call 180; refine (cmpCompare_any _ _ _).mono ?_; rintro e w' ⟨rfl, rfl⟩)
      | (go_at_call 181; refine (slicesCompare_any _ _ f.2 g.2 _ ?_ ?_ (by omega) (by omega)).mono ?_; exact H.out.on (bthen B1 (And.left (by assumption))); exact H2.out.on (bthen B1 (And.left (by assumption))); rintro e w' ⟨rfl, rfl⟩)
      | (go_at_call 179; refine (cmpOr_any _ (cmpI f.1 g.1) (cmpL f.2 g.2) _ ?_).mono ?_; exact rdInts_pair _ _ _; rintro e w' ⟨rfl, rfl⟩))
  all_goals
    go_wp2_with (fail)
    go_ret
    exact ⟨ret_int HF.out, bthen B1 (And.left (by assumption))⟩

end Go.Proofs.YtigkgheddngkeaaGreatDoor
/-
  The walk of the specification's FactOrder.
-/
namespace Go.Proofs.YtigkgheddngkeaaGreatDoor
open Go.RowKit

set_option maxHeartbeats 1000000 in
set_option maxRecDepth 100000 in
theorem specFactOrder_any (v v2 : Value) (f g : LFact) (w : World) (h : RdFact w w.heap.size v f) (h2 : RdFact w w.heap.size v2 g) (hn : f.2.length ≤ 1048576) (hn2 : g.2.length ≤ 1048576) :
    Calls Tryz.prog 122 #[v, v2] w fun e w' => e = .returned (.int .i64 (factOrder f g)) ∧ Below w.heap.size w w' := by
  obtain ⟨p, xs⟩ := f
  obtain ⟨q, ys⟩ := g
  obtain ⟨a, rfl, A, c, rfl, hc, ha⟩ := h
  obtain ⟨a, rfl, A2, c2, rfl, hc2, hb⟩ := h2
  simp only at ha hb hn hn2 hc hc2
  by_cases hp : p = q
  · subst hp
    have hpb : (p != p) = false := by simp
    have HE := Lib.hid (show factOrder (p, xs) (p, ys) = cmpL xs ys by simp [factOrder])
    go_enter Tryz.func122, Tryz.ntmps122
    go_wp2_with (fail)
    obtain ⟨w1, hw1⟩ : ∃ w1, w1 = ((w.alloc (Obj.cells #[Value.int IntKind.i64 p, Value.slice A xs.length c] 68)).alloc (Obj.cells #[Value.int IntKind.i64 p, Value.slice A2 ys.length c2] 68)) := ⟨_, rfl⟩
    have B1 : Below w.heap.size w w1 := by rw [hw1]; exact below2 _ _ _
    have k0 : Blk w1 w.heap.size 68 #[.int .i64 p, .slice A xs.length c] := by rw [hw1]; exact (Blk.new w _ _).alloc _
    have k1 : Blk w1 (w.heap.size + 1) 68 #[.int .i64 p, .slice A2 ys.length c2] := by rw [hw1]; simpa using Blk.new (w.alloc (Obj.cells #[Value.int IntKind.i64 p, Value.slice A xs.length c] 68)) 68 #[.int .i64 p, .slice A2 ys.length c2]
    rw [← hw1]
    clear hw1
    go_loopw [5] (fun i wr => ∃ k : Nat, k ≤ xs.length ∧ k ≤ ys.length ∧ i = .int .i64 k ∧ CmpTo xs ys k ∧ Below w1.heap.size w1 wr) (fun i _ => xs.length - (intOf i).toNat)
    case atStart => exact ⟨0, Nat.zero_le _, Nat.zero_le _, rfl, rfl, Below.refl _ _⟩
    case round =>
      obtain ⟨k, hk, hk2, rfl, hs, hbe⟩ := hrel
      have c0 : wr.cell? ⟨w.heap.size, 1, none⟩ = some (.slice A xs.length c) := (k0.below hbe k0.lt).cell 1
      have c1 : wr.cell? ⟨w.heap.size + 1, 1, none⟩ = some (.slice A2 ys.length c2) := (k1.below hbe k1.lt).cell 1
      by_cases hlt : k < xs.length
      · have hd : decide ((k : Int) < (xs.length : Int)) = true := by simp; omega
        by_cases hlt2 : k < ys.length
        · obtain ⟨b, o, rfl, hbB, hx⟩ := ha (by omega)
          obtain ⟨b2, o2, rfl, hbB2, hx2⟩ := hb (by omega)
          have hB := bthen B1 hbe
          have hck : wr.cell? ⟨b, o + k, none⟩ = some (.int .i64 xs[k]) := (hB.cell (p := ⟨b, o + k, none⟩) hbB).trans (hx k hlt)
          have hck2 : wr.cell? ⟨b2, o2 + k, none⟩ = some (.int .i64 ys[k]) := (hB.cell (p := ⟨b2, o2 + k, none⟩) hbB2).trans (hx2 k hlt2)
          clear hx hx2 ha hb hB
          by_cases he : xs[k] = ys[k]
          · have HS := Lib.hid (show CmpTo xs ys (k + 1) by unfold CmpTo at hs ⊢; rw [hs, cmpL_at hlt hlt2, if_pos he])
            have h0 : (xs[k] != ys[k]) = false := by simp [he]
            clear he hs
            go_wp2_with (fail)
            go_quiet (fail)
            go_wp2_with (fail)
            go_roundw
            case rel => exact ⟨k + 1, by omega, by omega, by go_num, HS.out, bdrewN hbe _⟩
            case measure => simp [intOf]; omega
          · have HS := Lib.hid (show cmpL xs ys = cmpI xs[k] ys[k] by unfold CmpTo at hs; rw [hs, cmpL_at hlt hlt2, if_neg he])
            have h0 : (xs[k] != ys[k]) = true := by simp [he]
            clear he hs
            go_wp2_with (fail)
            go_quiet (fail)
            go_wp2_with (fail)
            go_quiet ((go_at_call 168; exact quiet_add_left (l1Way_any _ _ _)))
            go_wp2_with (fail)
            go_ret
            exact ⟨ret_int (by rw [HE.out, HS.out]), bthen B1 (bdrewN (bdrewN hbe _) _)⟩
        · have HS := Lib.hid (show cmpL xs ys = cmpI xs.length ys.length by
            unfold CmpTo at hs
            rw [hs, cmpL_long hlt (by omega), cmpI, if_neg (by omega), if_pos (by omega)])
          clear hs ha hb
          go_wp2_with (go_at_call 168; refine (l1Way_any _ _ _).mono ?_; rintro e w' ⟨rfl, rfl⟩)
          go_ret
          exact ⟨ret_int (by rw [HE.out, HS.out]), bthen B1 hbe⟩
      · have hd : decide ((k : Int) < (xs.length : Int)) = false := by simp; omega
        have HS := Lib.hid (show cmpL xs ys = cmpI xs.length ys.length by
          unfold CmpTo at hs
          by_cases h3 : xs.length < ys.length
          · rw [hs, cmpL_short (by omega) (by omega), cmpI, if_pos (by omega)]
          · rw [hs, cmpL_end (by omega) (by omega), cmpI, if_neg (by omega), if_neg (by omega)])
        clear hs ha hb
        go_wp2_with (go_at_call 168; refine (l1Way_any _ _ _).mono ?_; rintro e w' ⟨rfl, rfl⟩)
        go_ret
        exact ⟨ret_int (by rw [HE.out, HS.out]), bthen B1 hbe⟩
  · have hpb : (p != q) = true := by simp [hp]
    have HE := Lib.hid (show factOrder (p, xs) (q, ys) = cmpI p q by simp [factOrder, hp])
    clear hp ha hb
    go_enter Tryz.func122, Tryz.ntmps122
    go_wp2_with (go_at_call 168; refine (l1Way_any _ _ _).mono ?_; rintro e w' ⟨rfl, rfl⟩)
    go_ret
    exact ⟨ret_int HE.out.symm, below2 _ _ _⟩

end Go.Proofs.YtigkgheddngkeaaGreatDoor
/-
  The walks of FactsHas: the program's and the specification's.
-/
namespace Go.Proofs.YtigkgheddngkeaaGreatDoor
open Go.RowKit

/-- One fact of a list, as a walk reads it. -/
theorem RdFacts.get {w : World} {B c : Nat} {A : Option Addr} {fs : List LFact} (h : RdFacts w B (.slice A fs.length c) fs) {k : Nat} (hk : k < fs.length) : ∃ b o A3 c3, A = some ⟨b, o, none⟩ ∧ b < B ∧
    w.cell? ⟨b, o + k * 2, none⟩ = some (.int .i64 fs[k].1) ∧ w.cell? ⟨b, o + k * 2 + 1, none⟩ = some (.slice A3 fs[k].2.length c3) ∧ RdInts w B (.slice A3 fs[k].2.length c3) fs[k].2 := by
  obtain ⟨A', c', e, hc, h⟩ := h
  injection e with e1 e2 e3
  subst e1
  obtain ⟨b, o, rfl, hb, hx⟩ := h (by omega)
  obtain ⟨a, h1, h2, h3⟩ := hx k hk
  have h4 := h3
  obtain ⟨A3, c3, rfl, _⟩ := h3
  exact ⟨b, o, A3, c3, rfl, hb, h1, h2, h4⟩

def factsHas (fs : List LFact) (f : LFact) : Bool := fs.any fun g => factOrder g f == 0
/-- 'none of the first k is the same'. -/
def HasNot (fs : List LFact) (f : LFact) (k : Nat) : Prop := factsHas (fs.take k) f = false
theorem HasNot.step {fs : List LFact} {f : LFact} {k : Nat} (h : HasNot fs f k) (hk : k < fs.length) (e : factOrder fs[k] f ≠ 0) : HasNot fs f (k + 1) := by
  unfold HasNot factsHas at h ⊢
  rw [take_snoc fs k hk, List.any_append, h]
  simp [e]
theorem HasNot.done {fs : List LFact} {f : LFact} (h : HasNot fs f fs.length) : factsHas fs f = false := by
  unfold HasNot at h
  rwa [List.take_length] at h
theorem has_yes {fs : List LFact} {f : LFact} {k : Nat} (hk : k < fs.length) (e : factOrder fs[k] f = 0) : factsHas fs f = true := by
  unfold factsHas
  rw [List.any_eq_true]
  exact ⟨fs[k], List.getElem_mem hk, by simp [e]⟩

set_option maxHeartbeats 1000000 in
set_option maxRecDepth 100000 in
theorem specFactsHas_any (v v2 : Value) (fs : List LFact) (f : LFact) (w : World) (h : RdFacts w w.heap.size v fs) (h2 : RdFact w w.heap.size v2 f) (hn : fs.length ≤ 1048576) (ht : tot fs ≤ 1048576) (hf : f.2.length ≤ 1048576) :
    Calls Tryz.prog 88 #[v, v2] w fun e w' => e = .returned (.bool (factsHas fs f)) ∧ Below w.heap.size w w' := by
  have H := Lib.hid h
  have H2 := Lib.hid h2
  obtain ⟨A, c, rfl, hc, _⟩ := h
  obtain ⟨a, rfl, A2, c2, rfl, hc2, _⟩ := h2
  go_enter Tryz.func88, Tryz.ntmps88
  go_wp2_with (fail)
  obtain ⟨w1, hw1⟩ : ∃ w1, w1 = (w.alloc (Obj.cells #[Value.int IntKind.i64 f.1, Value.slice A2 f.2.length c2] 68)) := ⟨_, rfl⟩
  have B1 : Below w.heap.size w w1 := by rw [hw1]; exact below1 _ _
  have k0 : Blk w1 w.heap.size 68 #[.int .i64 f.1, .slice A2 f.2.length c2] := by rw [hw1]; exact Blk.new w _ _
  rw [← hw1]
  clear hw1
  go_loopw [5] (fun i wr => ∃ k : Nat, k ≤ fs.length ∧ i = .int .i64 k ∧ HasNot fs f k ∧ Below w1.heap.size w1 wr) (fun i _ => fs.length - (intOf i).toNat)
  case atStart => exact ⟨0, Nat.zero_le _, rfl, by simp [HasNot, factsHas], Below.refl _ _⟩
  case round =>
    obtain ⟨k, hk, rfl, hs, hbe⟩ := hrel
    by_cases hlt : k < fs.length
    · have hB := bthen B1 hbe
      obtain ⟨b, o, A3, c3, rfl, hbB, k1, k2, k3⟩ := (H.out.on hB).get hlt
      have q0 : wr.cell? ⟨w.heap.size, 0, none⟩ = some (.int .i64 f.1) := (k0.below hbe k0.lt).cell 0
      have q1 : wr.cell? ⟨w.heap.size, 1, none⟩ = some (.slice A2 f.2.length c2) := (k0.below hbe k0.lt).cell 1
      have K3 := Lib.hid k3
      have hln := len_le_tot fs k hlt
      clear k3
      go_wp2_with (fail)
      go_still_tail 5, (by kernel_rfl)
      change wpList _ _ _ _ _ wr.drew
      obtain ⟨w2, hw2⟩ : ∃ w2, w2 = wr.drew := ⟨_, rfl⟩
      rw [← hw2]
      have hb2 : Below wr.heap.size wr w2 := by rw [hw2]; exact (Below.refl _ _).drew
      clear hw2
      go_wp2_with (fail)
      refine (specFactOrder_any _ _ fs[k] f _ ⟨_, rfl, K3.out.on hb2⟩ (H2.out.on (bthen hB hb2)) (by omega) hf).mono ?_
      rintro e w3 ⟨rfl, hb3⟩
      have hB3 := bthen (bthen hbe hb2) hb3
      by_cases he : factOrder fs[k] f = 0
      · have hz : (factOrder fs[k] f == 0) = true := by simp [he]
        have HS := Lib.hid (has_yes hlt he)
        clear he hs
        go_wp2_with (fail)
        go_ret
        exact ⟨ret_bool HS.out.symm, bthen B1 hB3⟩
      · have hz : (factOrder fs[k] f == 0) = false := by simp [he]
        have HS := Lib.hid (hs.step hlt he)
        clear he hs
        go_wp2_with (fail)
        go_roundw
        case rel => exact ⟨k + 1, by omega, by go_num, HS.out, hB3⟩
        case measure => simp [intOf]; omega
    · have hkn : k = fs.length := by omega
      have HS := Lib.hid (show factsHas fs f = false from HasNot.done (by rw [← hkn]; exact hs))
      clear hkn hs
      go_wp2_with (fail)
      go_ret
      exact ⟨ret_bool HS.out.symm, bthen B1 hbe⟩

end Go.Proofs.YtigkgheddngkeaaGreatDoor
/-
  Marks on lists of facts: the words, and the walks of markFactS, markFact, heldFactS.
-/
namespace Go.Proofs.YtigkgheddngkeaaGreatDoor
open Go.RowKit

/-- The facts that marks from k on leave. -/
def markF : Int → List LFact → List LFact
  | _, [] => []
  | k, f :: fs => (k, seqI (k + 1) f.2.length) :: markF (k + 1 + (f.2.length : Int)) fs
/-- The mark behind the last one. -/
def endF (k : Int) (fs : List LFact) : Int := k + (fs.length : Int) + (tot fs : Int)

theorem tot_cons (f : LFact) (fs : List LFact) : tot (f :: fs) = f.2.length + tot fs := by simp [tot]
theorem tot_append (xs ys : List LFact) : tot (xs ++ ys) = tot xs + tot ys := by simp [tot]
theorem markF_length : ∀ (k : Int) (fs : List LFact), (markF k fs).length = fs.length
  | _, [] => rfl
  | k, f :: fs => by simp [markF, markF_length _ fs]
theorem markF_tot : ∀ (k : Int) (fs : List LFact), tot (markF k fs) = tot fs
  | _, [] => rfl
  | k, f :: fs => by simp [markF, tot_cons, seqI_length, markF_tot _ fs]
theorem markF_snoc : ∀ (k : Int) (fs : List LFact) (f : LFact), markF k (fs ++ [f]) = markF k fs ++ [(endF k fs, seqI (endF k fs + 1) f.2.length)]
  | k, [], f => by simp [markF, endF, tot]
  | k, g :: fs, f => by
    have h := markF_snoc (k + 1 + (g.2.length : Int)) fs f
    have e : endF (k + 1 + (g.2.length : Int)) fs = endF k (g :: fs) := by simp [endF, tot_cons]; omega
    rw [e] at h
    simp [markF, h]
def markedF (fs : List LFact) (k : Int) (j : Nat) : List LFact := markF k (fs.take j) ++ fs.drop j
theorem markedF_length {fs : List LFact} {k : Int} {j : Nat} (h : j ≤ fs.length) : (markedF fs k j).length = fs.length := by simp [markedF, markF_length]; omega
theorem markedF_at {fs : List LFact} {k : Int} {j : Nat} (h : j < fs.length) (h' : j < (markedF fs k j).length) : (markedF fs k j)[j] = fs[j] := by
  have hl : (markF k (fs.take j)).length = j := by rw [markF_length]; simp; omega
  have e : (markedF fs k j)[j]? = some fs[j] := by
    unfold markedF
    rw [List.getElem?_append_right (by omega), hl]
    simp [h]
  rw [List.getElem?_eq_getElem h'] at e
  exact Option.some.inj e
theorem markedF_step {fs : List LFact} {k : Int} {j : Nat} (h : j < fs.length) : (markedF fs k j).set j (endF k (fs.take j), seqI (endF k (fs.take j) + 1) fs[j].2.length) = markedF fs k (j + 1) := by
  have hl : (markF k (fs.take j)).length = j := by rw [markF_length]; simp; omega
  unfold markedF
  rw [List.drop_eq_getElem_cons h, List.set_append_right _ _ (by omega), hl, Nat.sub_self, List.set_cons_zero, take_snoc fs j h, markF_snoc]
  simp
theorem markedF_zero (fs : List LFact) (k : Int) : markedF fs k 0 = fs := by simp [markedF, markF]
theorem markedF_all (fs : List LFact) (k : Int) : markedF fs k fs.length = markF k fs := by simp [markedF]
theorem markF_at {fs : List LFact} {k : Int} {j : Nat} (h : j < fs.length) (h' : j < (markF k fs).length) : (markF k fs)[j] = (endF k (fs.take j), seqI (endF k (fs.take j) + 1) fs[j].2.length) := by
  have e : fs = fs.take (j + 1) ++ fs.drop (j + 1) := (List.take_append_drop _ _).symm
  have hl : (markF k (fs.take j)).length = j := by rw [markF_length]; simp; omega
  have hp : ∀ (xs ys : List LFact) (k : Int), ∃ zs, markF k (xs ++ ys) = markF k xs ++ zs := by
    intro xs
    induction xs with
    | nil => intro ys k; exact ⟨_, rfl⟩
    | cons x xs ih =>
      intro ys k
      obtain ⟨zs, hz⟩ := ih ys (k + 1 + (x.2.length : Int))
      exact ⟨zs, by simp [markF, hz]⟩
  obtain ⟨zs, hz⟩ := hp (fs.take (j + 1)) (fs.drop (j + 1)) k
  rw [← e, take_snoc fs j h, markF_snoc] at hz
  have : (markF k fs)[j]? = some (endF k (fs.take j), seqI (endF k (fs.take j) + 1) fs[j].2.length) := by
    rw [hz, List.append_assoc, List.getElem?_append_right (by omega), hl]
    simp
  rw [List.getElem?_eq_getElem h'] at this
  exact Option.some.inj this
theorem endF_zero (k : Int) (fs : List LFact) : endF k (fs.take 0) = k := by simp [endF, tot]
theorem endF_step {fs : List LFact} {k : Int} {j : Nat} (h : j < fs.length) : endF k (fs.take (j + 1)) = endF k (fs.take j) + 1 + (fs[j].2.length : Int) := by
  have := tot_take fs j h
  simp only [endF, List.length_take, this]
  omega
theorem tot_take_le (fs : List LFact) (j : Nat) : tot (fs.take j) ≤ tot fs := by
  have := tot_append (fs.take j) (fs.drop j)
  rw [List.take_append_drop] at this
  omega

/-- A row of facts of the call's own, its rows of integers named. -/
structure OwnFA (w : World) (lo hi : Nat) (v : Value) (fs : List LFact) (av : List Value) : Prop where
  args : OwnArgs w lo hi av (fs.map (·.2))
  row : w.ownsRow lo 68 2 v fs.length (flat fs av)
  lt : ∀ g, v.ownBlock = some g → g < hi
theorem OwnFA.own {w : World} {lo hi : Nat} {v : Value} {fs : List LFact} {av : List Value} (h : OwnFA w lo hi v fs av) : OwnFacts w lo hi v fs := ⟨av, h.args, h.row, h.lt⟩

theorem flat_set : ∀ (fs : List LFact) (av : List Value) (j : Nat) (f : LFact), av.length = fs.length → flat (fs.set j f) av = (flat fs av).set (j * 2) (.int .i64 f.1)
  | [], [], _, _, _ => rfl
  | [], a :: av, _, _, h => by simp at h
  | g :: fs, [], _, _, h => by simp at h
  | g :: fs, a :: av, 0, f, _ => by simp [flat]
  | g :: fs, a :: av, j + 1, f, h => by
    have := flat_set fs av j f (by simpa using h)
    simp [flat, Nat.add_mul, this]

/-- The block of a row of integers is no block of a row of facts. -/
theorem types_ne {w : World} {lo hi lo' g : Nat} {n : Nat} {v a : Value} {zs : List Value} {xs : List Int} (hr : w.ownsRow lo' 68 2 v n zs) (hv : v.ownBlock = some g) (ha : OwnInts w lo hi a xs) : a.ownBlock ≠ some g := by
  rcases hr.2 with ⟨rfl, _⟩ | ⟨g1, c1, cur1, rfl, _, h1, _⟩
  · cases hv
  · have e : g1 = g := by simpa [Value.ownBlock] using hv
    subst e
    rcases ha.1.2 with ⟨rfl, _⟩ | ⟨g2, c2, cur2, rfl, _, h2, _⟩
    · simp [Value.ownBlock]
    · intro e
      have e : g2 = g1 := by simpa [Value.ownBlock] using e
      subst e
      rw [h1] at h2
      injection h2 with h2
      injection h2 with _ h2
      exact absurd h2 (by decide)

theorem OwnFA.step {w w3 : World} {lo hi g j c : Nat} {fs : List LFact} {av : List Value} {p : Int} {ys : List Int} (h : OwnFA w lo hi (.slice (some ⟨g, 0, none⟩) fs.length c) fs av) (hj : j < fs.length) (hja : j < av.length)
    (hI : OwnInts w3 lo hi av[j] ys) (hg : (w.setCell ⟨g, j * 2, none⟩ (.int .i64 p)).grownBy w3 av[j].ownBlock) : OwnFA w3 lo hi (.slice (some ⟨g, 0, none⟩) fs.length c) (fs.set j (p, ys)) av := by
  obtain ⟨ha, hr, hlt⟩ := h
  have hlen : av.length = fs.length := by simpa using ha.len
  have hapart : ∀ i i' (hi' : i < av.length) (hi'' : i' < av.length), i ≠ i' → ∀ b, av[i].ownBlock = some b → av[i'].ownBlock ≠ some b := by
    intro i i' h1 h2 hne b hb hb'
    have hp := List.pairwise_iff_getElem.1 ha.apart
    rcases Nat.lt_or_gt_of_ne hne with hl | hl
    · exact hp i i' h1 h2 hl b hb hb'
    · exact hp i' i h2 h1 hl b hb' hb
  have hown : ∀ i (h1 : i < (fs.map (·.2)).length) (h2 : i < av.length), OwnInts w lo hi av[i] (fs.map (·.2))[i] := ha.own
  refine ⟨⟨by simp [hlen], fun i h1 h2 => ?_, ha.apart⟩, ?_, hlt⟩
  · by_cases e : i = j
    · subst e
      simpa using hI
    · have h0 := hown i (by simpa using h1) h2
      have hz : ((fs.set j (p, ys)).map (·.2))[i] = (fs.map (·.2))[i]'(by simpa using h1) := by
        simp [Ne.symm e]
      rw [hz]
      refine h0.kept fun b hb => ?_
      have hbg := types_ne hr rfl h0
      have hne : b ≠ g := fun e => hbg (by rw [hb, e])
      have hbl := h0.lt hb
      rw [hg.block b (by simpa using hbl.2.2) (fun e2 => hapart i j h2 hja e b hb e2.symm)]
      exact Below.heap_setCell _ _ _ _ hne
  · obtain ⟨hfl, hr2⟩ := hr
    have hgj := types_ne ⟨hfl, hr2⟩ rfl (hown j (by simpa using hj) hja)
    rcases hr2 with ⟨e, _⟩ | ⟨g', cap, cur, e, hbg, hgg, hn, hm, hs, ht⟩
    · cases e
    · injection e with e1 e2 e3
      injection e1 with e1
      injection e1 with e1 _ _
      subst e1
      subst e3
      have hgs := (Array.getElem?_eq_some_iff.1 hgg).1
      refine ⟨by rw [flat_set _ _ _ _ hlen]; simpa using hfl, .inr ⟨g, c, cur.setIfInBounds (j * 2) (.int .i64 p), by simp, hbg, ?_, by simpa using hn, hm, by simpa using hs, ?_⟩⟩
      · rw [hg.block g (by simpa using hgs) (fun e2 => hgj e2.symm)]
        simp [World.setCell, Array.getElem?_modify, hgg]
      · rw [flat_set _ _ _ _ hlen, List.length_set, Array.toList_setIfInBounds, List.take_set, ht]

theorem OwnFA.form {w : World} {lo hi : Nat} {v : Value} {fs : List LFact} {av : List Value} (h : OwnFA w lo hi v fs av) : ∃ A c, v = .slice A fs.length c ∧ (0 < fs.length → ∃ g, A = some ⟨g, 0, none⟩ ∧ lo ≤ g ∧ g < hi) := by
  rcases h.row.2 with ⟨rfl, h0⟩ | ⟨g, cap, _, rfl, hb, _⟩
  · exact ⟨none, 0, by rw [h0], fun hn => by omega⟩
  · exact ⟨_, _, rfl, fun _ => ⟨g, rfl, hb, h.lt g rfl⟩⟩
theorem OwnFacts.form {w : World} {lo hi : Nat} {v : Value} {fs : List LFact} (h : OwnFacts w lo hi v fs) : ∃ A c, v = .slice A fs.length c := by
  obtain ⟨av, h1, h2, h3⟩ := h
  obtain ⟨A, c, e, _⟩ := (OwnFA.mk h1 h2 h3).form
  exact ⟨A, c, e⟩
/-- What the walk reads of fact j. -/
theorem OwnFA.get {w : World} {lo hi g c j : Nat} {fs : List LFact} {av : List Value} (h : OwnFA w lo hi (.slice (some ⟨g, 0, none⟩) fs.length c) fs av) (hj : j < fs.length) (hja : j < av.length) :
    w.cell? ⟨g, j * 2, none⟩ = some (.int .i64 fs[j].1) ∧ w.frozen? ⟨g, j * 2, none⟩ = false ∧ w.cell? ⟨g, j * 2 + 1, none⟩ = some av[j] := by
  have hl : av.length = fs.length := by simpa using h.args.len
  have hcells := @World.ownsRow.cells w lo 68 2 _ fs.length (flat fs av) h.row g rfl
  have h1 := hcells _ _ (flat_at fs av hl j hj hja).1
  have h2 := hcells _ _ (flat_at fs av hl j hj hja).2
  rw [Go.WideShapes.add_plain, Nat.zero_add] at h1 h2
  refine ⟨h1, ?_, h2⟩
  rcases h.row.2 with ⟨e, _⟩ | ⟨g', cap, cur, e, _, hgg, _⟩
  · cases e
  · injection e with e1 _ _
    injection e1 with e1
    injection e1 with e1 _ _
    subst e1
    simp [World.frozen?, hgg]

set_option maxHeartbeats 1000000 in
set_option maxRecDepth 100000 in
theorem markFactS_any (v : Value) (fs : List LFact) (k : Int) (lo hi : Nat) (w : World) (h : OwnFacts w lo hi v fs) (hk0 : 0 ≤ k) (hk : k ≤ 4294967296) (hn : fs.length ≤ 1073741824) (ht : tot fs ≤ 1073741824) :
    Calls Tryz.prog 23 #[v, .int .i64 k] w fun e w' => e = .returned (.int .i64 (endF k fs)) ∧ OwnFacts w' lo hi v (markF k fs) ∧ Only lo hi w w' := by
  obtain ⟨av, h1, h2, h3⟩ := h
  have h : OwnFA w lo hi v fs av := ⟨h1, h2, h3⟩
  clear h1 h2 h3
  obtain ⟨A, c, hv, hform⟩ := h.form
  subst hv
  have hla : av.length = fs.length := by simpa using h.args.len
  have HLA := Lib.hid hla
  clear hla
  have H := Lib.hid h
  clear h
  go_enter Tryz.func23, Tryz.ntmps23
  go_wp2_with (fail)
  go_loopw [1, 5] (fun m i wr => ∃ (j : Nat) (q : Int), j ≤ fs.length ∧ i = .int .i64 j ∧ m = .int .i64 q ∧ q = endF k (fs.take j) ∧ OwnFA wr lo hi (.slice A fs.length c) (markedF fs k j) av ∧ Only lo hi w wr) (fun _ i _ => fs.length - (intOf i).toNat)
  case atStart => exact ⟨0, k, Nat.zero_le _, rfl, rfl, by rw [endF_zero], by rw [markedF_zero]; exact H.out, Only.refl _ _ _⟩
  case round =>
    obtain ⟨j, q, hj, rfl, rfl, hq, ho, hon⟩ := hrel
    by_cases hlt : j < fs.length
    · obtain ⟨g, rfl, hg1, hg2⟩ := hform (by omega)
      have hml := markedF_length (k := k) (Nat.le_of_lt hlt)
      have hja : j < av.length := by rw [HLA.out]; exact hlt
      have ho' : OwnFA wr lo hi (.slice (some ⟨g, 0, none⟩) (markedF fs k j).length c) (markedF fs k j) av := by rw [hml]; exact ho
      obtain ⟨c1, f1, c2⟩ := ho'.get (j := j) (by omega) hja
      have hI0 := ho.args.own j (by rw [List.length_map]; omega) hja
      have hat := markedF_at (k := k) hlt (by omega)
      rw [List.getElem_map, hat] at hI0
      rw [hat] at c1
      obtain ⟨A3, c3, hav⟩ := hI0.form
      rw [hav] at c2
      have hI1 := hI0.kept (w' := wr.setCell ⟨g, j * 2, none⟩ (.int .i64 q)) (fun b hb => Below.heap_setCell _ _ _ _ (fun e => types_ne ho'.row rfl hI0 (by rw [hb, e])))
      rw [hav] at hI1
      have hqb : 0 ≤ q ∧ q ≤ 8589934592 := by
        have h1 := tot_take_le fs j
        have h2 : (fs.take j).length ≤ fs.length := by rw [List.length_take]; omega
        subst hq
        simp only [endF] at *
        omega
      obtain ⟨hq0, hq1⟩ := hqb
      have hln := len_le_tot fs j hlt
      have HI := Lib.hid hI1
      have HO := Lib.hid (And.intro ho' (And.intro hml (And.intro hav hq)))
      clear hI0 hI1 ho ho' hml hat hq
      go_wp2_with (fail)
      refine (markIntS_any _ fs[j].2 (q + 1) lo hi _ HI.out (by omega) (by omega)).mono ?_
      rintro e w3 ⟨rfl, ho3, hg3⟩
      obtain ⟨hOF, hml, hav, hq⟩ := HO.out
      have hst := hOF.step (j := j) (by omega) hja (by rw [hav]; exact ho3) (by rw [hav]; exact hg3)
      rw [hml, hq, markedF_step hlt] at hst
      have hE := endF_step (k := k) hlt
      have hon3 : Only lo hi w w3 := (hon.setCell (p := ⟨g, j * 2, none⟩) ⟨hg1, hg2⟩ _).trans (Only.of_grown hg3 (fun b hb => by have := HI.out.lt hb; omega))
      have HS := Lib.hid (And.intro hst (show q + 1 + (fs[j].2.length : Int) = endF k (fs.take (j + 1)) by rw [hE, hq]))
      clear hst hOF hml hav hq hE
      go_wp2_with (fail)
      go_roundw
      case rel => exact ⟨j + 1, _, by omega, by go_num, rfl, HS.out.2, HS.out.1, hon3⟩
      case measure => simp [intOf]; omega
    · have hkn : j = fs.length := by omega
      have HO := Lib.hid (show OwnFacts wr lo hi (.slice A fs.length c) (markF k fs) by rw [← markedF_all, ← hkn]; rw [← hkn] at ho; exact ho.own)
      have HK := Lib.hid (show q = endF k fs by rw [hq, hkn, List.take_length])
      clear hkn ho hq
      go_wp2_with (fail)
      go_ret
      exact ⟨ret_int HK.out, HO.out, hon⟩

theorem endF_bound {fs : List LFact} {k : Int} (j : Nat) (hk0 : 0 ≤ k) (hk : k ≤ 4294967296) (hn : fs.length ≤ 1073741824) (ht : tot fs ≤ 1073741824) : 0 ≤ endF k (fs.take j) ∧ endF k (fs.take j) ≤ 8589934592 := by
  have h1 := tot_take_le fs j
  have h2 : (fs.take j).length ≤ fs.length := by rw [List.length_take]; omega
  simp only [endF]
  omega

set_option maxHeartbeats 1000000 in
set_option maxRecDepth 100000 in
theorem heldFactS_any (v : Value) (fs : List LFact) (k : Int) (w : World) (h : RdFacts w w.heap.size v (markF k fs)) (hk0 : 0 ≤ k) (hk : k ≤ 4294967296) (hn : fs.length ≤ 1073741824) (ht : tot fs ≤ 1073741824) :
    Calls Tryz.prog 28 #[v, .int .i64 k] w fun e w' => e = .returned (.int .i64 (endF k fs)) ∧ w = w' := by
  obtain ⟨A, c, rfl, hc, hcell⟩ := h
  rw [markF_length] at hc ⊢
  go_enter Tryz.func28, Tryz.ntmps28
  go_wp2_with (fail)
  go_loop [1, 5] (fun m i => ∃ (j : Nat) (q : Int), j ≤ fs.length ∧ i = .int .i64 j ∧ m = .int .i64 q ∧ q = endF k (fs.take j)) (fun _ i => fs.length - (intOf i).toNat)
  case atStart => exact ⟨0, k, Nat.zero_le _, rfl, rfl, by rw [endF_zero]⟩
  case round =>
    obtain ⟨j, q, hj, rfl, rfl, hq⟩ := hrel
    by_cases hlt : j < fs.length
    · obtain ⟨b, o, rfl, hbB, hx⟩ := hcell (by rw [markF_length]; omega)
      have hlm : j < (markF k fs).length := by rw [markF_length]; exact hlt
      obtain ⟨a, p1, p2, p3⟩ := hx j hlm
      rw [markF_at hlt hlm, ← hq] at p1 p3
      have h4 := p3
      obtain ⟨A3, c3, rfl, hc3, _⟩ := p3
      have h5 := (h4.more (Nat.le_refl _) : RdInts w w.heap.size _ (seqI (q + 1) fs[j].2.length))
      rw [seqI_length] at h5 p2
      have HR := Lib.hid h5
      have hqq := endF_bound (k := k) j hk0 hk hn ht
      rw [← hq] at hqq
      obtain ⟨hq0, hq1⟩ := hqq
      have hln := len_le_tot fs j hlt
      have hne : (q != q) = false := by simp
      have HE := Lib.hid (show q + 1 + (fs[j].2.length : Int) = endF k (fs.take (j + 1)) by rw [endF_step hlt, hq])
      clear hx hcell h4 h5 hq hc3 hlm
      go_wp2_with (fail)
      refine (heldIntS_any _ fs[j].2.length (q + 1) _ HR.out (by omega) (by omega)).mono ?_
      rintro e w3 ⟨rfl, rfl⟩
      have hneg : ¬ q + 1 + (fs[j].2.length : Int) < 0 := by omega
      go_wp2_with (fail)
      go_round
      case rel => exact ⟨j + 1, _, by omega, by go_num, rfl, HE.out⟩
      case measure => simp [intOf]; omega
    · have hkn : j = fs.length := by omega
      have HK := Lib.hid (show q = endF k fs by rw [hq, hkn, List.take_length])
      clear hkn hq hcell
      go_wp2_with (fail)
      go_ret
      exact ⟨ret_int HK.out, rfl⟩

end Go.Proofs.YtigkgheddngkeaaGreatDoor
