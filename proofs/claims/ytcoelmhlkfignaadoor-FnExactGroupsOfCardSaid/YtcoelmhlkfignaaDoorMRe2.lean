/-
  Texts that the claim's last one imports, laid together: part 2 of 6. No condition of its own.
-/
import Derived.Maps.AppendAt
import Derived.Deep.AppendLies
import Derived.StillTailTactics
import Derived.Deep.QuietTactic
import Derived.BigQuiet
import Derived.Deep.Quiet
import Derived.Laws.BitsAllLaws
import Derived.Shelf.Spec.TrailingZeros
import Derived.Laws.Bits64b
import Derived.Test.YtcoelmhlkfignaaDoorRows
import Derived.Stop.LaidErr
import Derived.Lib.LaidTab
import Derived.MakeChecks
import Derived.Test.YtcoelmhlkfignaaDoorMRe1
/-
  Marks on what is not read again: a store of a number over a number keeps the shape of all that lies there. The words, and the walks of markIntS, markAtom, markLitS, markRule, markRuleS, markProgram.
-/
namespace Go.Proofs.YtcoelmhlkfignaaDoor
open Go.RowKit

/-- Blocks outside [lo, hi) are as they were; within, numbers may have become others. -/
structure Marked (lo hi : Nat) (w w' : World) : Prop where
  only : Only lo hi w w'
  cell : ∀ p : Addr, p.block < w.heap.size → w'.cell? p = w.cell? p ∨ ∃ x y, w.cell? p = some (.int .i64 x) ∧ w'.cell? p = some (.int .i64 y)
  frozen : ∀ p : Addr, p.block < w.heap.size → w'.frozen? p = w.frozen? p

section
variable {lo hi : Nat} {w w1 w' : World}
theorem Marked.refl (lo hi : Nat) (w : World) : Marked lo hi w w := ⟨Only.refl _ _ _, fun _ _ => .inl rfl, fun _ _ => rfl⟩
theorem Marked.trans (h : Marked lo hi w w1) (k : Marked lo hi w1 w') : Marked lo hi w w' := by
  refine ⟨h.only.trans k.only, fun p hp => ?_, fun p hp => (k.frozen p (Nat.lt_of_lt_of_le hp h.only.size)).trans (h.frozen p hp)⟩
  rcases h.cell p hp with e | ⟨x, y, e1, e2⟩
  · rcases k.cell p (Nat.lt_of_lt_of_le hp h.only.size) with e' | ⟨x', y', e1', e2'⟩
    · exact .inl (e'.trans e)
    · exact .inr ⟨x', y', e ▸ e1', e2'⟩
  · rcases k.cell p (Nat.lt_of_lt_of_le hp h.only.size) with e' | ⟨x', y', e1', e2'⟩
    · exact .inr ⟨x, y, e1, e'.trans e2⟩
    · exact .inr ⟨x, y', e1, e2'⟩
theorem Marked.of_below (h : Below w.heap.size w w') : Marked lo hi w w' := ⟨Only.of_below h, fun _ hp => .inl (h.cell hp), fun _ hp => h.frozen hp⟩
theorem Marked.store {p : Addr} {x : Int} (hp : lo ≤ p.block ∧ p.block < hi) (hc : w.cell? p = some (.int .i64 x)) (y : Int) : Marked lo hi w (w.setCell p (.int .i64 y)) := by
  refine ⟨(Only.refl _ _ _).setCell hp _, fun q _ => ?_, fun q _ => ?_⟩
  · by_cases e : q = p
    · subst e
      exact .inr ⟨x, y, hc, World.cell?_setCell_same _ _ _ hc⟩
    · exact .inl (World.cell?_setCell_other _ _ _ _ (fun e' => e e'.symm))
  · unfold World.frozen? World.setCell
    rw [Array.getElem?_modify]
    by_cases e : p.block = q.block
    · rw [if_pos e]
      cases hq : w.heap[q.block]? with
      | none => rfl
      | some o => cases o <;> rfl
    · rw [if_neg e]

/-- A slice of n numbers, of blocks from lo on and below hi, that may be written. -/
def WrInts (w : World) (lo hi : Nat) (v : Value) (n : Nat) : Prop :=
  ∃ A c, v = .slice A n c ∧ (0 < n → ∃ b o, A = some ⟨b, o, none⟩ ∧ lo ≤ b ∧ b < hi ∧ ∀ k, k < n → w.frozen? ⟨b, o + k, none⟩ = false ∧ ∃ x, w.cell? ⟨b, o + k, none⟩ = some (.int .i64 x))
theorem Marked.int (h : Marked lo hi w w') {p : Addr} {x : Int} (hc : w.cell? p = some (.int .i64 x)) : ∃ y, w'.cell? p = some (.int .i64 y) := by
  rcases h.cell p (World.block_lt_of_cell? _ _ hc) with e | ⟨_, y, _, e⟩
  · exact ⟨x, e.trans hc⟩
  · exact ⟨y, e⟩
theorem Marked.slice (h : Marked lo hi w w') {p : Addr} {A : Option Addr} {n c : Nat} (hc : w.cell? p = some (.slice A n c)) : w'.cell? p = some (.slice A n c) := by
  rcases h.cell p (World.block_lt_of_cell? _ _ hc) with e | ⟨x, y, e, _⟩
  · exact e.trans hc
  · rw [hc] at e
    cases e
theorem WrInts.marked {v : Value} {n : Nat} (h : WrInts w lo hi v n) (hm : Marked lo hi w w') : WrInts w' lo hi v n := by
  obtain ⟨A, c, rfl, h⟩ := h
  refine ⟨A, c, rfl, fun hn => ?_⟩
  obtain ⟨b, o, rfl, h1, h2, hx⟩ := h hn
  refine ⟨b, o, rfl, h1, h2, fun k hk => ?_⟩
  obtain ⟨hf, x, hc⟩ := hx k hk
  exact ⟨(hm.frozen _ (World.block_lt_of_cell? _ _ hc)).trans hf, hm.int hc⟩
theorem OwnInts.wr {v : Value} {xs : List Int} (h : OwnInts w lo hi v xs) : WrInts w lo hi v xs.length := by
  have hrd := h.rd
  obtain ⟨⟨hlen, h⟩, hlt⟩ := h
  rcases h with ⟨rfl, h0⟩ | ⟨g, cap, cur, rfl, hbg, hg, hn, hm, hs, ht⟩
  · exact ⟨none, 0, by rw [h0], fun hn => absurd hn (by omega)⟩
  · refine ⟨_, cap, rfl, fun hn0 => ⟨g, 0, rfl, hbg, hlt g rfl, fun k hk => ⟨by simp [World.frozen?, hg], ?_⟩⟩⟩
    obtain ⟨A', c', e, _, hx⟩ := hrd
    injection e with e1 _ _
    obtain ⟨b, o, e2, _, hx⟩ := hx hn0
    rw [← e1] at e2
    injection e2 with e2
    injection e2 with e2 e3 _
    subst e2
    subst e3
    exact ⟨_, hx k hk⟩

def WLit (w : World) (lo hi : Nat) (u0 u1 u2 : Value) (l : LLit) : Prop := (∃ x, u0 = .int .i64 x) ∧ (∃ y, u1 = .int .i64 y) ∧ WrInts w lo hi u2 l.2.2.length
def WrLits (w : World) (lo hi : Nat) (v : Value) (ls : List LLit) : Prop := OwnRow WLit w lo hi v ls
theorem OwnLits.wr {v : Value} {ls : List LLit} (h : OwnLits w lo hi v ls) : WrLits w lo hi v ls := by
  obtain ⟨A, c, rfl, hc, h⟩ := h
  refine ⟨A, c, rfl, hc, fun hn => ?_⟩
  obtain ⟨b, o, rfl, h1, h2, hx⟩ := h hn
  refine ⟨b, o, rfl, h1, h2, fun k hk => ?_⟩
  obtain ⟨hf, u0, u1, u2, c0, c1, c2, rfl, rfl, hI⟩ := hx k hk
  exact ⟨hf, _, _, _, c0, c1, c2, ⟨_, rfl⟩, ⟨_, rfl⟩, hI.wr⟩
theorem WrLits.marked {v : Value} {ls : List LLit} (h : WrLits w lo hi v ls) (hm : Marked lo hi w w') : WrLits w' lo hi v ls := by
  obtain ⟨A, c, rfl, hc, h⟩ := h
  refine ⟨A, c, rfl, hc, fun hn => ?_⟩
  obtain ⟨b, o, rfl, h1, h2, hx⟩ := h hn
  refine ⟨b, o, rfl, h1, h2, fun k hk => ?_⟩
  obtain ⟨⟨f0, f1⟩, u0, u1, u2, c0, c1, c2, ⟨x, rfl⟩, ⟨y, rfl⟩, hI⟩ := hx k hk
  obtain ⟨x', d0⟩ := hm.int c0
  obtain ⟨y', d1⟩ := hm.int c1
  obtain ⟨A2, c2', rfl, hi⟩ := hI
  exact ⟨⟨(hm.frozen _ (World.block_lt_of_cell? _ _ c0)).trans f0, (hm.frozen _ (World.block_lt_of_cell? _ _ c1)).trans f1⟩, _, _, _, d0, d1, hm.slice c2, ⟨_, rfl⟩, ⟨_, rfl⟩, WrInts.marked ⟨A2, c2', rfl, hi⟩ hm⟩

def WRule (w : World) (lo hi : Nat) (u0 u1 u2 : Value) (r : LRule) : Prop := (∃ x, u0 = .int .i64 x) ∧ WrInts w lo hi u1 r.1.2.length ∧ WrLits w lo hi u2 r.2
def WrRules (w : World) (lo hi : Nat) (v : Value) (rs : List LRule) : Prop := OwnRow WRule w lo hi v rs
theorem OwnRules.wr {v : Value} {rs : List LRule} (h : OwnRules w lo hi v rs) : WrRules w lo hi v rs := by
  obtain ⟨A, c, rfl, hc, h⟩ := h
  refine ⟨A, c, rfl, hc, fun hn => ?_⟩
  obtain ⟨b, o, rfl, h1, h2, hx⟩ := h hn
  refine ⟨b, o, rfl, h1, h2, fun k hk => ?_⟩
  obtain ⟨hf, u0, u1, u2, c0, c1, c2, rfl, hI, hL⟩ := hx k hk
  exact ⟨hf, _, _, _, c0, c1, c2, ⟨_, rfl⟩, hI.wr, hL.wr⟩
theorem WrRules.marked {v : Value} {rs : List LRule} (h : WrRules w lo hi v rs) (hm : Marked lo hi w w') : WrRules w' lo hi v rs := by
  obtain ⟨A, c, rfl, hc, h⟩ := h
  refine ⟨A, c, rfl, hc, fun hn => ?_⟩
  obtain ⟨b, o, rfl, h1, h2, hx⟩ := h hn
  refine ⟨b, o, rfl, h1, h2, fun k hk => ?_⟩
  obtain ⟨⟨f0, f1⟩, u0, u1, u2, c0, c1, c2, ⟨x, rfl⟩, hI, hL⟩ := hx k hk
  obtain ⟨x', d0⟩ := hm.int c0
  have f1' := (hm.frozen _ (World.block_lt_of_cell? _ _ c1)).trans f1
  obtain ⟨A1, n1, rfl, hi1⟩ := hI
  obtain ⟨A2, n2, rfl, hc2, hi2⟩ := hL
  exact ⟨⟨(hm.frozen _ (World.block_lt_of_cell? _ _ c0)).trans f0, f1'⟩, _, _, _, d0, hm.slice c1, hm.slice c2, ⟨_, rfl⟩, WrInts.marked ⟨A1, n1, rfl, hi1⟩ hm, WrLits.marked ⟨A2, n2, rfl, hc2, hi2⟩ hm⟩
end

set_option maxHeartbeats 400000 in
theorem wmarkIntS_any (v : Value) (n : Nat) (k : Int) (lo hi : Nat) (w : World) (h : WrInts w lo hi v n) (hk0 : 0 ≤ k) (hk : k + n ≤ 4611686018427387904) :
    Calls Tryd.prog 23 #[v, .int .i64 k] w fun e w' => e = .returned (.int .i64 (k + n)) ∧ Marked lo hi w w' := by
  have H := Lib.hid h
  obtain ⟨A, c, rfl, _⟩ := h
  go_enter Tryd.func23, Tryd.ntmps23
  go_wp2_with (fail)
  go_loopw [1, 5] (fun m i wr => ∃ j : Nat, j ≤ n ∧ i = .int .i64 j ∧ m = .int .i64 (k + j) ∧ Marked lo hi w wr) (fun _ i _ => n - (intOf i).toNat)
  case atStart => exact ⟨0, Nat.zero_le _, rfl, by simp, Marked.refl _ _ _⟩
  case round =>
    obtain ⟨j, hj, rfl, rfl, hm⟩ := hrel
    by_cases hlt : j < n
    · obtain ⟨A', c', e, hx⟩ := H.out.marked hm
      injection e with e1 _ _
      subst e1
      obtain ⟨b, o, rfl, h1, h2, hx⟩ := hx (by omega)
      obtain ⟨hf, x, hc⟩ := hx j hlt
      have HM := Lib.hid (hm.trans (Marked.store (p := ⟨b, o + j, none⟩) ⟨h1, h2⟩ hc (k + j)))
      clear hx
      go_wp2_with (fail)
      go_roundw
      case rel => exact ⟨j + 1, by omega, by go_num, by go_num, HM.out⟩
      case measure => simp [intOf]; omega
    · have hkn : j = n := by omega
      have HK := Lib.hid (show k + (j : Int) = k + n by rw [hkn])
      clear hkn
      go_wp2_with (fail)
      go_ret
      exact ⟨ret_int HK.out, hm⟩

/-- How far the marks of literals, of a rule, of rules go. -/
def endL (k : Int) (ls : List LLit) : Int := k + 2 * (ls.length : Int) + (totL ls : Int)

set_option maxHeartbeats 1000000 in
set_option maxRecDepth 100000 in
theorem wmarkLitS_any (v : Value) (ls : List LLit) (k : Int) (lo hi : Nat) (w : World) (h : WrLits w lo hi v ls) (hk0 : 0 ≤ k) (hk : k ≤ 4294967296) (hn : ls.length ≤ 1073741824) (ht : totL ls ≤ 1073741824) :
    Calls Tryd.prog 53 #[v, .int .i64 k] w fun e w' => e = .returned (.int .i64 (endL k ls)) ∧ Marked lo hi w w' := by
  have H := Lib.hid h
  obtain ⟨A, c, rfl, _⟩ := h
  go_enter Tryd.func53, Tryd.ntmps53
  go_wp2_with (fail)
  go_loopw [1, 5] (fun m i wr => ∃ (j : Nat) (q : Int), j ≤ ls.length ∧ i = .int .i64 j ∧ m = .int .i64 q ∧ q = k + 2 * (j : Int) + (totL (ls.take j) : Int) ∧ Marked lo hi w wr) (fun _ i _ => ls.length - (intOf i).toNat)
  case atStart => exact ⟨0, k, Nat.zero_le _, rfl, rfl, by simp [totL], Marked.refl _ _ _⟩
  case round =>
    obtain ⟨j, q, hj, rfl, rfl, hq, hm⟩ := hrel
    by_cases hlt : j < ls.length
    · obtain ⟨A', c', e, _, hx⟩ := H.out.marked hm
      injection e with e1 _ e3
      subst e1
      subst e3
      obtain ⟨b, o, rfl, h1, h2, hx⟩ := hx (by omega)
      obtain ⟨⟨f0, f1⟩, u0, u1, u2, c0, c1, c2, ⟨x, rfl⟩, ⟨y, rfl⟩, hI⟩ := hx j hlt
      have m0 := Marked.store (p := ⟨b, o + j * 3, none⟩) ⟨h1, h2⟩ c0 q
      obtain ⟨y', c1'⟩ := m0.int c1
      have f1' := (m0.frozen ⟨b, o + j * 3 + 1, none⟩ (World.block_lt_of_cell? _ _ c1)).trans f1
      have m1 := Marked.store (p := ⟨b, o + j * 3 + 1, none⟩) ⟨h1, h2⟩ c1' (q + 1)
      have hI2 := hI.marked (m0.trans m1)
      obtain ⟨A3, c3, rfl, _⟩ := hI
      have c2' := (m0.trans m1).slice c2
      have htk := totL_take ls j hlt
      have hle := sum_at (fun l : LLit => l.2.2.length) ls j hlt
      have htl : totL (ls.take j) ≤ totL ls := by
        have := congrArg (fun l => (l.map (fun l : LLit => l.2.2.length)).sum) (List.take_append_drop j ls)
        simp only [List.map_append, List.sum_append] at this
        unfold totL
        omega
      have hle2 : ls[j].2.2.length ≤ totL ls := hle
      clear hle
      have hq0 : 0 ≤ q := by omega
      have hq1 : q ≤ 8589934592 := by omega
      have HI := Lib.hid hI2
      have HM := Lib.hid (hm.trans (m0.trans m1))
      have HQ := Lib.hid (show q + 1 + 1 + (ls[j].2.2.length : Int) = k + 2 * ((j + 1 : Nat) : Int) + (totL (ls.take (j + 1)) : Int) by rw [htk]; omega)
      clear hx m0 m1 hI2 htk htl hq
      go_wp2_with (fail)
      refine (wmarkIntS_any _ _ (q + 1 + 1) lo hi _ HI.out (by omega) (by omega)).mono ?_
      rintro e w3 ⟨rfl, hm3⟩
      have HM3 := Lib.hid (HM.out.trans hm3)
      go_wp2_with (fail)
      go_roundw
      case rel => exact ⟨j + 1, _, by omega, by go_num, rfl, HQ.out, HM3.out⟩
      case measure => simp [intOf]; omega
    · have hkn : j = ls.length := by omega
      have HK := Lib.hid (show q = endL k ls by rw [hq, hkn, List.take_length]; rfl)
      clear hkn hq
      go_wp2_with (fail)
      go_ret
      exact ⟨ret_int HK.out, hm⟩

def endR (k : Int) (r : LRule) : Int := endL (k + (r.1.2.length : Int)) r.2

end Go.Proofs.YtcoelmhlkfignaaDoor
/-
  The loop that collects integers; the walk of the specification's RulesOf.
-/
namespace Go.Proofs.YtcoelmhlkfignaaDoor
open Go.RowKit

/-- The indexes of rules, of the first k, whose head has a predicate. -/
def rulesTo (rs : List LRule) (pred : Int) (k : Nat) : List Int := ((List.range k).filter fun i => (rs.getD i ((0, []), [])).1.1 == pred).map fun i : Nat => (i : Int)
def rulesOf (p : LProg) (pred : Int) : List Int := rulesTo p.2 pred p.2.length
theorem rulesTo_yes {rs : List LRule} {pred : Int} {k : Nat} (h : k < rs.length) (e : rs[k].1.1 = pred) : rulesTo rs pred (k + 1) = rulesTo rs pred k ++ [(k : Int)] := by
  unfold rulesTo
  rw [List.range_succ, List.filter_append, List.map_append]
  congr 1
  simp [h, e]
theorem rulesTo_no {rs : List LRule} {pred : Int} {k : Nat} (h : k < rs.length) (e : rs[k].1.1 ≠ pred) : rulesTo rs pred (k + 1) = rulesTo rs pred k := by
  unfold rulesTo
  rw [List.range_succ, List.filter_append, List.map_append]
  simp [h, e]
theorem rulesTo_length (rs : List LRule) (pred : Int) (k : Nat) : (rulesTo rs pred k).length ≤ k := by
  unfold rulesTo
  rw [List.length_map]
  exact Nat.le_trans (List.length_filter_le _ _) (by simp)

end Go.Proofs.YtcoelmhlkfignaaDoor
/-
  Terms and variables: the words, and the walks of varTerm, varNumber, isVar.
-/
namespace Go.Proofs.YtcoelmhlkfignaaDoor
open Go.RowKit

def termOk (x : Int) : Bool := decide (-4 ≤ x ∧ x ≤ 5)
def isVarB (x : Int) : Bool := decide (-4 ≤ x ∧ x ≤ -1)

/-- 'the first k are so', kept from the walk. -/
def AllTo {α : Type} (p : α → Bool) (xs : List α) (k : Nat) : Prop := (xs.take k).all p = true
theorem AllTo.start {α : Type} {p : α → Bool} {xs : List α} : AllTo p xs 0 := by simp [AllTo]
theorem AllTo.step {α : Type} {p : α → Bool} {xs : List α} {k : Nat} (h : AllTo p xs k) (hk : k < xs.length) (e : p xs[k] = true) : AllTo p xs (k + 1) := by
  unfold AllTo at h ⊢
  rw [take_snoc xs k hk, List.all_append, h]
  simp [e]
theorem AllTo.done {α : Type} {p : α → Bool} {xs : List α} {k : Nat} (h : AllTo p xs k) (hk : k = xs.length) : xs.all p = true := by
  unfold AllTo at h
  rwa [hk, List.take_length] at h
theorem all_not {α : Type} {p : α → Bool} {xs : List α} {k : Nat} (hk : k < xs.length) (e : p xs[k] = false) : xs.all p = false := by
  rw [List.all_eq_false]
  exact ⟨xs[k], List.getElem_mem hk, by simp [e]⟩

theorem varTerm_any (n : Int) (h0 : 0 ≤ n) (h1 : n ≤ 1000) (w : World) : Calls Tryd.prog 91 #[.int .i64 n] w fun e w' => e = .returned (.int .i64 (-1 - n)) ∧ w = w' := by
  go_enter Tryd.func91, Tryd.ntmps91
  go_wp2
  go_ret
  exact ⟨rfl, rfl⟩
theorem varNumber_any (n : Int) (h0 : -4 ≤ n) (h1 : n ≤ -1) (w : World) : Calls Tryd.prog 90 #[.int .i64 n] w fun e w' => e = .returned (.int .i64 (-1 - n)) ∧ w = w' := by
  go_enter Tryd.func90, Tryd.ntmps90
  go_wp2
  go_ret
  exact ⟨rfl, rfl⟩

theorem isVar_any (n : Int) (w : World) : Calls Tryd.prog 89 #[.int .i64 n] w fun e w' => e = .returned (.bool (isVarB n)) ∧ w = w' := by
  by_cases h1 : n < 0
  · have hd : decide (n < 0) = true := by simpa using h1
    by_cases h2 : -4 ≤ n
    · have HE := Lib.hid (show isVarB n = true by simp [isVarB]; omega)
      go_enter Tryd.func89, Tryd.ntmps89
      go_wp2_with (go_at_call 91; refine (varTerm_any 3 (by omega) (by omega) _).mono ?_; rintro e w' ⟨rfl, rfl⟩)
      go_ret
      exact ⟨ret_bool HE.out.symm, rfl⟩
    · have HE := Lib.hid (show isVarB n = false by simp [isVarB]; omega)
      go_enter Tryd.func89, Tryd.ntmps89
      go_wp2_with (go_at_call 91; refine (varTerm_any 3 (by omega) (by omega) _).mono ?_; rintro e w' ⟨rfl, rfl⟩)
      go_ret
      exact ⟨ret_bool (by rw [HE.out]; simp; omega), rfl⟩
  · have hd : decide (n < 0) = false := by simpa using h1
    have HE := Lib.hid (show isVarB n = false by simp [isVarB]; omega)
    go_enter Tryd.func89, Tryd.ntmps89
    go_wp2_with (fail)
    go_ret
    exact ⟨ret_bool HE.out.symm, rfl⟩

theorem isVar_is {n : Int} {b : Bool} (h : isVarB n = b) (w : World) : Calls Tryd.prog 89 #[.int .i64 n] w fun e w' => e = .returned (.bool b) ∧ w = w' := h ▸ isVar_any n w

end Go.Proofs.YtcoelmhlkfignaaDoor
/-
  Regions that draw their order and whose callees return plain values and keep all that was there: one walk of the text's order serves every order. The class of worlds: those that keep what was there.
-/
namespace Go.Proofs.YtcoelmhlkfignaaDoor
open Go.RowKit

/-- A world that keeps all that was there in w0. -/
def Later (w0 : World) : Type := { W : World // Below w0.heap.size w0 W }

instance (w0 : World) : Nonempty (Later w0) := ⟨⟨w0, Below.refl _ _⟩⟩

theorem wp_region_later {P : Program} {id : Nat} {Q : Exit → Act → World → Prop} {a : Act} {w0 : World} {l : List Oper} (hm : P.follows .mixedOrders = true) (hB : Region.lexB .any l.toArray = true)
    (h : wpQuiet P l.toArray (fun w' => ∃ x : Later w0, w' = x.val) (fun a' => ∀ w', (∃ x : Later w0, w' = x.val) → Q .normal a' w') l a) : (Code.region id l.toArray true).wp P Q a w0 :=
  wp_region_quiet (C := fun w' => ∃ x : Later w0, w' = x.val) hm hB ⟨⟨_, (Below.refl _ _).drew⟩, rfl⟩ (by simpa using h)

theorem later_cell {w0 : World} {a : Addr} {v : Value} (h : w0.cell? a = some v) (x : Later w0) : x.val.cell? a = some v := (x.2.cell (World.block_lt_of_cell? _ _ h)).trans h
/-- A callee's contract, met in a later world. -/
theorem later_of {P : Program} {f : FuncId} {args : Array Value} {w0 : World} {x : Later w0} {v : Value} (h : Calls P f args x.val fun e w' => e = .returned v ∧ Below x.val.heap.size x.val w') :
    Calls P f args x.val fun e w'' => e = .returned v ∧ ∃ y : Later w0, w'' = y.val :=
  h.mono fun _ w' ⟨he, hb⟩ => ⟨he, ⟨w', bthen x.2 hb⟩, rfl⟩
theorem later_same {P : Program} {f : FuncId} {args : Array Value} {w0 : World} {x : Later w0} {v : Value} (h : Calls P f args x.val fun e w' => e = .returned v ∧ x.val = w') :
    Calls P f args x.val fun e w'' => e = .returned v ∧ ∃ y : Later w0, w'' = y.val :=
  h.mono fun _ _ ⟨he, hb⟩ => ⟨he, x, hb.symm⟩

end Go.Proofs.YtcoelmhlkfignaaDoor
/-
  Sets of variables: as words of four bits (the program's), as rows of four bools (the specification's). The words, and the walks of argVars, bodyVars, ruleVars.
-/
namespace Go.Proofs.YtcoelmhlkfignaaDoor
open Go.RowKit

/-- One more term's variable. -/
def orV (m : Nat) (t : Int) : Nat := if isVarB t then m ||| 2 ^ (-1 - t).toNat else m
def maskFrom (m : Nat) (xs : List Int) : Nat := xs.foldl orV m
def maskOf (xs : List Int) : Nat := maskFrom 0 xs
def bodyMask (ls : List LLit) : Nat := ls.foldl (fun m l => m ||| maskOf l.2.2) 0
def yesMask (ls : List LLit) : Nat := ls.foldl (fun m l => if l.1 = 0 then m ||| maskOf l.2.2 else m) 0
def ruleMask (r : LRule) : Nat := maskOf r.1.2 ||| bodyMask r.2

theorem orV_or (a b : Nat) (t : Int) : orV (a ||| b) t = a ||| orV b t := by
  unfold orV
  split
  · rw [Nat.or_assoc]
  · rfl
theorem maskFrom_or (a b : Nat) : ∀ xs : List Int, maskFrom (a ||| b) xs = a ||| maskFrom b xs
  | [] => rfl
  | t :: xs => by
    show maskFrom (orV (a ||| b) t) xs = a ||| maskFrom (orV b t) xs
    rw [orV_or, maskFrom_or a (orV b t) xs]
theorem maskFrom_eq (a : Nat) (xs : List Int) : maskFrom a xs = a ||| maskOf xs := by
  have := maskFrom_or a 0 xs
  rwa [Nat.or_zero] at this
theorem or_lt16 {a b : Nat} (ha : a < 16) (hb : b < 16) : a ||| b < 16 := Nat.or_lt_two_pow (n := 4) ha hb
theorem pow_var_lt {t : Int} (h : isVarB t = true) : 2 ^ (-1 - t).toNat < 16 := by
  have h4 : (-1 - t).toNat < 4 := by simp [isVarB] at h; omega
  exact Nat.pow_lt_pow_right (by omega) h4
theorem orV_lt {m : Nat} {t : Int} (hm : m < 16) : orV m t < 16 := by
  unfold orV
  split
  · rename_i h
    exact or_lt16 hm (pow_var_lt h)
  · exact hm
theorem maskFrom_lt : ∀ (xs : List Int) {m : Nat}, m < 16 → maskFrom m xs < 16
  | [], _, h => h
  | _ :: xs, _, h => maskFrom_lt xs (orV_lt h)
theorem maskOf_lt (xs : List Int) : maskOf xs < 16 := maskFrom_lt xs (by omega)
theorem maskOf_take {xs : List Int} {k : Nat} (h : k < xs.length) : maskOf (xs.take (k + 1)) = orV (maskOf (xs.take k)) xs[k] := by
  unfold maskOf maskFrom
  rw [take_snoc xs k h, List.foldl_append]
  rfl
theorem bodyMask_take {ls : List LLit} {k : Nat} (h : k < ls.length) : bodyMask (ls.take (k + 1)) = bodyMask (ls.take k) ||| maskOf ls[k].2.2 := by
  unfold bodyMask
  rw [take_snoc ls k h, List.foldl_append]
  rfl
theorem yesMask_take {ls : List LLit} {k : Nat} (h : k < ls.length) : yesMask (ls.take (k + 1)) = if ls[k].1 = 0 then yesMask (ls.take k) ||| maskOf ls[k].2.2 else yesMask (ls.take k) := by
  unfold yesMask
  rw [take_snoc ls k h, List.foldl_append]
  rfl
theorem bodyMask_lt : ∀ (n : Nat) (ls : List LLit), n ≤ ls.length → bodyMask (ls.take n) < 16
  | 0, _, _ => by simp [bodyMask]
  | n + 1, ls, h => by
    rw [bodyMask_take (by omega)]
    exact or_lt16 (bodyMask_lt n ls (by omega)) (maskOf_lt _)
theorem yesMask_lt : ∀ (n : Nat) (ls : List LLit), n ≤ ls.length → yesMask (ls.take n) < 16
  | 0, _, _ => by simp [yesMask]
  | n + 1, ls, h => by
    rw [yesMask_take (by omega)]
    split
    · exact or_lt16 (yesMask_lt n ls (by omega)) (maskOf_lt _)
    · exact yesMask_lt n ls (by omega)
theorem bodyMask_lt' (ls : List LLit) : bodyMask ls < 16 := by
  have := bodyMask_lt ls.length ls (Nat.le_refl _)
  rwa [List.take_length] at this
theorem yesMask_lt' (ls : List LLit) : yesMask ls < 16 := by
  have := yesMask_lt ls.length ls (Nat.le_refl _)
  rwa [List.take_length] at this
theorem ruleMask_lt (r : LRule) : ruleMask r < 16 := or_lt16 (maskOf_lt _) (bodyMask_lt' _)

theorem or_word {a b : Nat} (ha : a < 16) (hb : b < 16) : bits .or .u64 (a : Int) (b : Int) = ((a ||| b : Nat) : Int) := u64_or_nat a b (by omega) (by omega)
/-- The walk's word for one more variable. -/
theorem orV_word {m : Nat} {t : Int} (hm : m < 16) (h : isVarB t = true) : bits .or .u64 (m : Int) (IntKind.u64.wrap (1 * 2 ^ (-1 - t).toNat)) = ((orV m t : Nat) : Int) := by
  have h4 : (-1 - t).toNat < 4 := by simp [isVarB] at h; omega
  have hw : IntKind.u64.wrap (1 * 2 ^ (-1 - t).toNat) = ((2 ^ (-1 - t).toNat : Nat) : Int) := by
    generalize (-1 - t).toNat = n at h4
    match n, h4 with
    | 0, _ => rfl
    | 1, _ => rfl
    | 2, _ => rfl
    | 3, _ => rfl
  rw [hw, or_word hm (pow_var_lt h)]
  simp [orV, h]

set_option maxHeartbeats 400000 in
theorem argVars_any (v : Value) (xs : List Int) (B : Nat) (w : World) (h : RdInts w B v xs) (hr : xs.length ≤ 1048576) :
    Calls Tryd.prog 87 #[v] w fun e w' => e = .returned (.int .u64 (maskOf xs : Nat)) ∧ w = w' := by
  obtain ⟨A, c, rfl, hc, ha⟩ := h
  go_enter Tryd.func87, Tryd.ntmps87
  go_wp2_with (fail)
  go_loop [3, 5, 8] (fun m _ i => ∃ (k : Nat) (z : Int), k ≤ xs.length ∧ i = .int .i64 k ∧ m = .int .u64 z ∧ z = (maskOf (xs.take k) : Nat)) (fun _ _ i => xs.length - (intOf i).toNat)
  case atStart => exact ⟨0, 0, Nat.zero_le _, rfl, rfl, rfl⟩
  case round =>
    obtain ⟨k, z, hk, rfl, rfl, hz⟩ := hrel
    by_cases hlt : k < xs.length
    · obtain ⟨b, o, rfl, hbB, hx⟩ := ha (by omega)
      have hck : w.cell? ⟨b, o + k, none⟩ = some (.int .i64 xs[k]) := hx k hlt
      have hml := maskOf_lt (xs.take k)
      clear hx ha
      by_cases he : isVarB xs[k] = true
      · have HK := Lib.hid (isVar_is he)
        have HV := Lib.hid (show -4 ≤ xs[k] ∧ xs[k] ≤ -1 by simpa [isVarB] using he)
        have h0 : 0 ≤ -1 - xs[k] := by have := HV.out; omega
        have h64 : -1 - xs[k] ≤ 64 := by have := HV.out; omega
        have HZ := Lib.hid (show bits .or .u64 z (IntKind.u64.wrap (2 ^ (-1 - xs[k]).toNat)) = (maskOf (xs.take (k + 1)) : Nat) by have hw := orV_word hml he; rw [Int.one_mul] at hw; rw [hz, hw, maskOf_take hlt])
        clear hz he hml
        go_wp2_with (first | (go_at_call 89; refine (HK.out _).mono ?_; rintro e w' ⟨rfl, rfl⟩) | (go_at_call 90; refine (varNumber_any _ HV.out.1 HV.out.2 _).mono ?_; rintro e w' ⟨rfl, rfl⟩))
        go_round
        case rel => exact ⟨k + 1, _, by omega, by go_num, rfl, HZ.out⟩
        case measure => simp [intOf]; omega
      · have he' : isVarB xs[k] = false := by simpa using he
        have HK := Lib.hid (isVar_is he')
        have HZ := Lib.hid (show z = (maskOf (xs.take (k + 1)) : Nat) by rw [hz, maskOf_take hlt]; simp [orV, he'])
        clear hz he
        go_wp2_with (go_at_call 89; refine (HK.out _).mono ?_; rintro e w' ⟨rfl, rfl⟩)
        go_round
        case rel => exact ⟨k + 1, _, by omega, by go_num, rfl, HZ.out⟩
        case measure => simp [intOf]; omega
    · have HE := Lib.hid (show z = (maskOf xs : Nat) by rw [hz, show k = xs.length by omega, List.take_length])
      clear hz ha
      go_wp2_with (fail)
      go_ret
      exact ⟨ret_int HE.out, rfl⟩

set_option maxHeartbeats 400000 in
theorem bodyVars_any (v : Value) (ls : List LLit) (w : World) (h : RdLits w w.heap.size v ls) (hr : ls.length ≤ 1048576) (ht : totL ls ≤ 1048576) :
    Calls Tryd.prog 88 #[v] w fun e w' => e = .returned (.int .u64 (bodyMask ls : Nat)) ∧ Below w.heap.size w w' := by
  have H := Lib.hid h
  obtain ⟨A, c, rfl, hc, _⟩ := h
  go_enter Tryd.func88, Tryd.ntmps88
  go_wp2_with (fail)
  go_loopw [3, 5, 8] (fun m _ i wr => ∃ (k : Nat) (z : Int), k ≤ ls.length ∧ i = .int .i64 k ∧ m = .int .u64 z ∧ z = (bodyMask (ls.take k) : Nat) ∧ Below w.heap.size w wr) (fun _ _ i _ => ls.length - (intOf i).toNat)
  case atStart => exact ⟨0, 0, Nat.zero_le _, rfl, rfl, rfl, Below.refl _ _⟩
  case round =>
    obtain ⟨k, z, hk, rfl, rfl, hz, hbe⟩ := hrel
    by_cases hlt : k < ls.length
    · obtain ⟨b, o, u0, u1, u2, rfl, hbB, k0, k1, k2, rfl, rfl, p3⟩ := (H.out.on hbe).get hlt
      have HA := Lib.hid p3
      obtain ⟨A3, c3, rfl, hc3, _⟩ := p3
      have hle := len_le_totL ls k hlt
      have hml := bodyMask_lt k ls hk
      have HZ := Lib.hid (show bits .or .u64 z ((maskOf ls[k].2.2 : Nat) : Int) = (bodyMask (ls.take (k + 1)) : Nat) by rw [hz, or_word hml (maskOf_lt _), bodyMask_take hlt])
      clear hz hml
      go_wp2_with (go_at_call 87; refine (argVars_any _ ls[k].2.2 _ _ (HA.out.on (below1 _ _)) (by omega)).mono ?_; rintro e w' ⟨rfl, rfl⟩)
      go_roundw
      case rel => exact ⟨k + 1, _, by omega, by go_num, rfl, HZ.out, bthen hbe (below1 _ _)⟩
      case measure => simp [intOf]; omega
    · have HE := Lib.hid (show z = (bodyMask ls : Nat) by rw [hz, show k = ls.length by omega, List.take_length])
      clear hz
      go_wp2_with (fail)
      go_ret
      exact ⟨ret_int HE.out, hbe⟩

theorem later_int {P : Program} {f : FuncId} {args : Array Value} {w0 : World} {x : Later w0} {u v : Value} (h : Calls P f args x.val fun e w' => e = .returned u ∧ Below x.val.heap.size x.val w') (e : u = v) :
    Calls P f args x.val fun e w'' => e = .returned v ∧ ∃ y : Later w0, w'' = y.val := later_of (e ▸ h)

end Go.Proofs.YtcoelmhlkfignaaDoor
/-
  The numbers of the bits of a word: the words; the walks of TrailingZeros64, TrailingZeros, bitNumbers.
-/
namespace Go.Proofs.YtcoelmhlkfignaaDoor
open Go.RowKit

/-- The numbers of the bits of x, ascending. -/
def bitsOf (x : Nat) : List Int := ((List.range 64).filter fun j => x.testBit j).map fun j : Nat => (j : Int)
theorem bitsOf_zero : bitsOf 0 = [] := by simp [bitsOf]
theorem bitsOf_length (x : Nat) : (bitsOf x).length ≤ 64 := by
  unfold bitsOf
  rw [List.length_map]
  exact Nat.le_trans (List.length_filter_le _ _) (by simp)

theorem testBit_odd {k m j : Nat} : (2 ^ k * (2 * m + 1)).testBit j = (decide (k ≤ j) && (2 * m + 1).testBit (j - k)) := by
  rw [Nat.mul_comm, Nat.testBit_mul_two_pow]
theorem testBit_even {k m j : Nat} : (2 ^ k * (2 * m)).testBit j = (decide (k ≤ j) && (2 * m).testBit (j - k)) := by
  rw [Nat.mul_comm, Nat.testBit_mul_two_pow]
theorem filter_step (k m : Nat) (hk : k < 64) : (List.range 64).filter (fun j => (2 ^ k * (2 * m + 1)).testBit j) = k :: (List.range 64).filter (fun j => (2 ^ k * (2 * m)).testBit j) := by
  obtain ⟨d, hd⟩ : ∃ d, 64 = k + (1 + d) := ⟨63 - k, by omega⟩
  rw [hd, List.range_add, List.filter_append, List.filter_append, List.range_add, List.map_append, List.filter_append, List.filter_append]
  have h1 : (List.range k).filter (fun j => (2 ^ k * (2 * m + 1)).testBit j) = [] := by
    rw [List.filter_eq_nil_iff]
    intro j hj
    have hj := List.mem_range.1 hj
    rw [testBit_odd]
    simp
    omega
  have h2 : (List.range k).filter (fun j => (2 ^ k * (2 * m)).testBit j) = [] := by
    rw [List.filter_eq_nil_iff]
    intro j hj
    have hj := List.mem_range.1 hj
    rw [testBit_even]
    simp
    omega
  have h3 : ((List.range 1).map (k + ·)).filter (fun j => (2 ^ k * (2 * m + 1)).testBit j) = [k] := by
    have : (2 ^ k * (2 * m + 1)).testBit k = true := by rw [testBit_odd]; simp [Nat.testBit_zero]
    simp [this]
  have h4 : ((List.range 1).map (k + ·)).filter (fun j => (2 ^ k * (2 * m)).testBit j) = [] := by
    have : (2 ^ k * (2 * m)).testBit k = false := by rw [testBit_even]; simp [Nat.testBit_zero]
    simp [this]
  rw [h1, h2, h3, h4, List.nil_append, List.nil_append, List.nil_append, List.singleton_append]
  congr 1
  apply List.filter_congr
  intro j hj
  simp only [List.mem_map, List.mem_range] at hj
  obtain ⟨a, ⟨b, hb, rfl⟩, rfl⟩ := hj
  rw [testBit_odd, testBit_even]
  have e : k + (1 + b) - k = b + 1 := by omega
  rw [e, Nat.testBit_succ, Nat.testBit_succ]
  congr 2
  omega
/-- The lowest bit, and the others. -/
theorem bitsOf_step {x : Nat} (h0 : x ≠ 0) (hx : x < 2 ^ 64) : bitsOf x = (Lib.ctz 64 x : Int) :: bitsOf (x &&& (x - 1)) ∧ x &&& (x - 1) < x := by
  obtain ⟨m, hm, hk⟩ := Lib.ctzFrom_spec 64 x (by omega) hx
  have hc : Lib.ctz 64 x = Lib.ctzFrom 64 x := by unfold Lib.ctz; rw [if_neg h0]
  rw [hc]
  generalize Lib.ctzFrom 64 x = k at hm hk
  have hp : 0 < 2 ^ k := Nat.two_pow_pos k
  have hand : x &&& (x - 1) = 2 ^ k * (2 * m) := by
    apply Nat.eq_of_testBit_eq
    intro j
    rw [Nat.testBit_and]
    have e1 : x - 1 = 2 ^ k * (2 * m) + (2 ^ k - 1) := by
      rw [hm, Nat.mul_add, Nat.mul_one]
      omega
    rw [e1, Nat.testBit_two_pow_mul_add _ (by omega), testBit_even, hm, testBit_odd]
    by_cases hj : j < k
    · have hkj : decide (k ≤ j) = false := by simp; omega
      rw [hkj]
      simp
    · rw [if_neg hj]
      have : k ≤ j := by omega
      simp only [this, decide_true, Bool.true_and]
      by_cases e : j = k
      · subst e
        simp [Nat.testBit_zero]
      · obtain ⟨i, rfl⟩ : ∃ i, j = k + (i + 1) := ⟨j - k - 1, by omega⟩
        have e3 : k + (i + 1) - k = i + 1 := by omega
        rw [e3, Nat.testBit_succ, Nat.testBit_succ]
        have d1 : (2 * m + 1) / 2 = m := by omega
        have d2 : 2 * m / 2 = m := by omega
        rw [d1, d2, Bool.and_self]
  refine ⟨?_, ?_⟩
  · rw [hand, hm]
    unfold bitsOf
    rw [filter_step k m hk]
    simp
  · rw [hand, hm, Nat.mul_add, Nat.mul_one]
    omega

/-- The table behind TrailingZeros64 lies in its variable. -/
def Tab (w : World) : Prop := _root_.Go.Proofs.TabAt 1 Lib.deBruijn64tab w ∧ 1 < w.heap.size
theorem Tab.below {w w' : World} (h : Tab w) (hb : Below w.heap.size w w') : Tab w' := ⟨fun j hj => (hb.cell (p := ⟨1, j, none⟩) h.2).trans (h.1 j hj), Nat.lt_of_lt_of_le h.2 hb.size⟩

set_option maxHeartbeats 1000000 in
theorem tz64_core (x k idx : Nat) (w : World) (hx0 : ((x : Int) == 0) = false)
    (key : IntKind.u64.wrap (bits BinOp.and IntKind.u64 (x : Int) (IntKind.u64.wrap (-(x : Int))) * 285870213051353865) / 288230376151711744 = (idx : Int))
    (hi : idx < 64) (hk : k < 64) (hcell : w.cell? ⟨1, idx, none⟩ = some (.int .u8 k)) :
    Calls Tryd.prog 70 #[.int .u64 x] w fun e w' => e = .returned (.int .i64 k) ∧ w = w' := by
  go_enter Tryd.func70, Tryd.ntmps70
  go_wp2_with (simp only [key])
  go_ret
  exact ⟨rfl, rfl⟩

theorem tz64_any (x : Nat) (hx : x < 18446744073709551616) (h0 : x ≠ 0) (w : World) (hT : Tab w) :
    Calls Tryd.prog 70 #[.int .u64 x] w fun e w' => e = .returned (.int .i64 (Lib.ctz 64 x)) ∧ w = w' := by
  obtain ⟨hlow, hk⟩ := Lib.lowest_bit 64 x h0 hx
  obtain ⟨hi, htab⟩ := Lib.deBruijn64_at _ hk
  have hc := hT.1 _ hi
  rw [htab] at hc
  exact tz64_core x _ _ w (by simpa using h0) (tz64_key x _ hx h0 hlow) hi hk hc

theorem tz_any (x : Nat) (hx : x < 18446744073709551616) (h0 : x ≠ 0) (w : World) (hT : Tab w) :
    Calls Tryd.prog 51 #[.int .u64 x] w fun e w' => e = .returned (.int .i64 (Lib.ctz 64 x)) ∧ w = w' := by
  go_enter Tryd.func51, Tryd.ntmps51
  go_wp2_with (go_at_call 70; refine (tz64_any x hx h0 _ hT).mono ?_; rintro e w' ⟨rfl, rfl⟩)
  go_ret
  exact ⟨rfl, rfl⟩

set_option maxHeartbeats 1000000 in
set_option maxRecDepth 100000 in
theorem bitNumbers_any (x : Nat) (hx : x < 18446744073709551616) (w : World) (hT : Tab w) :
    Calls Tryd.prog 32 #[.int .u64 x] w fun e w' => ∃ A' c', e = .returned (.slice A' (bitsOf x).length c') ∧ OwnInts w' w.heap.size w'.heap.size (.slice A' (bitsOf x).length c') (bitsOf x) ∧ Below w.heap.size w w' := by
  obtain ⟨i0, hi0, hz0, hz1, hz2⟩ := info_parts Tryd.infoInt
  have HX := Lib.hid hx
  clear hx
  go_enter Tryd.func32, Tryd.ntmps32
  go_wp2_with (fail)
  go_loopw [0, 3] (fun z o wr => ∃ (y : Nat) (ys : List Int) (A' : Option Addr) (c' : Nat), z = .int .u64 y ∧ o = .slice A' ys.length c' ∧ ys ++ bitsOf y = bitsOf x ∧ y < 2 ^ 64 ∧ ColI w wr ys A' c') (fun z _ _ => (intOf z).toNat)
  case atStart => exact ⟨x, [], none, 0, rfl, rfl, rfl, HX.out, ColI.nil (Below.refl _ _)⟩
  case round =>
    obtain ⟨y, ys, A', c', rfl, rfl, hys, hy, hr⟩ := hrel
    have hyl : ys.length ≤ 64 := by
      have := congrArg List.length hys
      rw [List.length_append] at this
      have := bitsOf_length x
      omega
    by_cases h0 : y = 0
    · subst h0
      rw [bitsOf_zero, List.append_nil] at hys
      have HO := Lib.hid (And.intro hys hr)
      clear hys hr
      go_wp2_with (fail)
      go_ret
      obtain ⟨e, hr⟩ := HO.out
      rw [← e]
      exact ⟨_, _, rfl, hr.own, hr.below⟩
    · obtain ⟨hst, hlt⟩ := bitsOf_step h0 hy
      have ht : ((y : Int) != 0) = true := by simpa using h0
      have HY := Lib.hid (And.intro hy (And.intro h0 hlt))
      have HB := Lib.hid (show (ys ++ [(Lib.ctz 64 y : Int)]) ++ bitsOf (y &&& (y - 1)) = bitsOf x by rw [List.append_assoc, List.singleton_append, ← hst]; exact hys)
      have hk : Lib.ctz 64 y < 64 := (Lib.lowest_bit 64 y h0 hy).2
      have HA := Lib.hid (show bits BinOp.and IntKind.u64 (y : Int) (IntKind.u64.wrap ((y : Int) - 1)) = ((y &&& (y - 1) : Nat) : Int) by
        have e1 : IntKind.u64.wrap ((y : Int) - 1) = ((y - 1 : Nat) : Int) := by rw [IntKind.wrap_u64]; omega
        rw [e1, bits_and_u64_nat y (y - 1) (by simpa using hy) (by omega)])
      have HP := Lib.hid hr
      have HT := Lib.hid (hT.below hr.below)
      have HCC := Lib.hid (fun (w : World) (hw : Tab w) => tz_any y (by simpa using hy) h0 w hw)
      generalize Lib.ctz 64 y = kk at hst HB hk HCC
      clear hst hlt hy h0 hys hr
      go_wp2_with (fail)
      refine (HCC.out _ HT.out).mono ?_
      rintro e w' ⟨rfl, rfl⟩
      go_wp2_with (at_builtin; refine wpList_append_lies _ rfl (.tmp 10) (.tmp 13) 22 rfl w.heap.size 3 i0 (.int .i64 0) 1 8 Tryd.underlying22 hi0 hz0 hz1 hz2 rfl (by decide) (.slice A' ys.length c') ys.length (ys.map (Value.int .i64)) rfl ?c1 ⟨_, 0, none⟩ 1 1 [.int .i64 kk] rfl rfl (news1s _ _ _ _ (by simp)) ?c2 (by omega) (by unfold maxLen; omega) (by omega) ?c3 _ rfl ?_)
      case c1 => exact HP.out.own.1.alloc _
      case c2 => intro u hu; simp at hu; subst hu; rfl
      case c3 => have := HP.out.below.size; simp; omega
      intro g cap w4 hown hg _ _
      have hcol := HP.out.push (Below.refl _ _) hg hown
      have hlen : ys.length + 1 = (ys ++ [(kk : Int)]).length := by simp
      rw [hlen]
      have HC := Lib.hid hcol
      clear hcol hlen hown hg
      go_wp2_with (fail)
      go_roundw
      case rel => exact ⟨y &&& (y - 1), _, _, _, by rw [HA.out], rfl, HB.out, Nat.lt_trans HY.out.2.2 HY.out.1, HC.out⟩
      case measure =>
        rw [HA.out]
        simp only [intOf]
        have := HY.out.2.2
        omega

end Go.Proofs.YtcoelmhlkfignaaDoor
/-
  What the row's condition on the listed tables gives the walks: the table behind TrailingZeros64.
-/
namespace Go.Proofs.YtcoelmhlkfignaaDoor
open Go.RowKit

/-- Two tables are listed (0 and 1). -/
def laidTabs : List (String × DataW Unit) := [("math/bits.deBruijn32tab", Rows.laid_math_bits_deBruijn32tab), ("math/bits.deBruijn64tab", Rows.laid_math_bits_deBruijn64tab)]
theorem Tryd.tabGlobal : Tryd.prog.globalNamed "math/bits.deBruijn64tab" = some 1 := by kernel_rfl
theorem Tryd.tabType : (Tryd.prog.globals[1]?).map (·.type) = some 116 := by kernel_rfl
theorem Tryd.tabUnder : Tryd.prog.underlying 116 = some (.array 64 5) := by kernel_rfl
theorem Tryd.tabCells : Tryd.prog.cellsOf 116 = 64 := by kernel_rfl
theorem Tryd.byteUnder : Tryd.prog.underlying 5 = some (.int .u8) := by kernel_rfl
theorem Tryd.byteCells : Tryd.prog.cellsOf 5 = 1 := by kernel_rfl

/-- In a seat that lists both (0). -/
theorem tab_of_laid {W : World} (hL : laidMetH Tryd.prog laidTabs W) : Tab W := by
  have h : laidMet Tryd.prog laidTabs W := by rw [MakeChecks.laidMetH_plain _ _ _ (by kernel_rfl)] at hL; exact hL
  have h2 : laidMet Tryd.prog [("math/bits.deBruijn64tab", Lib.tabData .u8 (Lib.deBruijn64tab.map fun n : Nat => (n : Int)))] W := h.tail
  have h3 := Lib.tabIs_of_head Tryd.tabGlobal Tryd.tabType Tryd.tabUnder Tryd.byteUnder Tryd.byteCells Tryd.tabCells h2
  have hat : _root_.Go.Proofs.TabAt 1 Lib.deBruijn64tab W := fun j hj => by
    have := h3.cell Tryd.tabGlobal j (by simpa using hj)
    simpa [hj] using this
  exact ⟨hat, World.block_lt_of_cell? _ _ (hat 0 (by decide))⟩

def laidTabs1 : List (String × DataW Unit) := [("math/bits.deBruijn64tab", Rows.laid_math_bits_deBruijn64tab)]
theorem tab_of_laid1 {W : World} (hL : laidMetH Tryd.prog laidTabs1 W) : Tab W := by
  have h : laidMet Tryd.prog laidTabs1 W := by rw [MakeChecks.laidMetH_plain _ _ _ (by kernel_rfl)] at hL; exact hL
  have h2 : laidMet Tryd.prog [("math/bits.deBruijn64tab", Lib.tabData .u8 (Lib.deBruijn64tab.map fun n : Nat => (n : Int)))] W := h
  have h3 := Lib.tabIs_of_head Tryd.tabGlobal Tryd.tabType Tryd.tabUnder Tryd.byteUnder Tryd.byteCells Tryd.tabCells h2
  have hat : _root_.Go.Proofs.TabAt 1 Lib.deBruijn64tab W := fun j hj => by
    have := h3.cell Tryd.tabGlobal j (by simpa using hj)
    simpa [hj] using this
  exact ⟨hat, World.block_lt_of_cell? _ _ (hat 0 (by decide))⟩

end Go.Proofs.YtcoelmhlkfignaaDoor
/-
  Groups of what asks each other, found depth-first with a stack of parts: plain mathematics.
-/
namespace Go.Proofs.YtcoelmhlkfignaaDoor

/-- One asks another, over others or at once. -/
inductive Rch (ask : Nat → Nat) : Nat → Nat → Prop
  | one {u v} : (ask u).testBit v = true → Rch ask u v
  | step {u v q} : (ask u).testBit v = true → Rch ask v q → Rch ask u q
theorem Rch.trans {ask : Nat → Nat} {u v q : Nat} (h : Rch ask u v) (k : Rch ask v q) : Rch ask u q := by
  induction h with
  | one e => exact .step e k
  | step e _ ih => exact .step e (ih k)
/-- The same, or reached. -/
def Ra (ask : Nat → Nat) (u v : Nat) : Prop := u = v ∨ Rch ask u v
theorem Ra.trans {ask : Nat → Nat} {u v q : Nat} (h : Ra ask u v) (k : Ra ask v q) : Ra ask u q := by
  rcases h with rfl | h
  · exact k
  · rcases k with rfl | k
    · exact .inr h
    · exact .inr (h.trans k)
theorem Ra.rch {ask : Nat → Nat} {u v q : Nat} (h : Ra ask u v) (k : Rch ask v q) : Rch ask u q := by
  rcases h with rfl | h
  · exact k
  · exact h.trans k

/-- What the walk over predicates holds: the stack's top comes first. -/
structure GW where
  met : Nat
  done : Nat
  stk : List Nat
  groups : List Nat
  group : List Nat
  reach : List Nat

/-- Parts from the top on become one, as far as that which has a predicate. -/
def joinR (to : Nat) : List Nat → List Nat
  | [] => []
  | [a] => [a]
  | a :: b :: r => if a.testBit to then a :: b :: r else joinR to ((b ||| a) :: r)
termination_by l => l.length

def has (x n : Nat) : Prop := x.testBit n = true
instance (x n : Nat) : Decidable (has x n) := by unfold has; infer_instance
theorem has_or {x y n : Nat} : has (x ||| y) n ↔ has x n ∨ has y n := by simp [has, Nat.testBit_or]
theorem has_pow {m n : Nat} : has (2 ^ m) n ↔ m = n := by simp [has, Nat.testBit_two_pow]
def Apart (x y : Nat) : Prop := ∀ n, has x n → has y n → False

/-- What joinR gives. -/
theorem joinR_spec (to : Nat) : ∀ (l : List Nat) (g : Nat), g ∈ l → has g to → ∃ t pre y rest, joinR to l = t :: rest ∧ l = pre ++ y :: rest ∧ has y to ∧ ∀ n, has t n ↔ has y n ∨ ∃ x ∈ pre, has x n := by
  intro l
  induction h : l.length using Nat.strongRecOn generalizing l with
  | _ m ih =>
    intro g hg ht
    match l, h with
    | [], _ => cases hg
    | [a], _ =>
      have e : g = a := by simpa using hg
      subst e
      exact ⟨g, [], g, [], by simp [joinR], rfl, ht, fun n => by simp⟩
    | a :: b :: r, h =>
      by_cases e : a.testBit to = true
      · exact ⟨a, [], a, b :: r, by rw [joinR, if_pos e], rfl, e, fun n => by simp⟩
      · have hg2 : g = b ∨ g ∈ r := by
          rcases List.mem_cons.1 hg with rfl | h2
          · exact absurd ht e
          · exact List.mem_cons.1 h2
        have hm : ∃ g' ∈ (b ||| a) :: r, has g' to := by
          rcases hg2 with rfl | h2
          · exact ⟨_, List.mem_cons_self .., has_or.2 (.inl ht)⟩
          · exact ⟨g, List.mem_cons_of_mem _ h2, ht⟩
        obtain ⟨g', hg', ht'⟩ := hm
        obtain ⟨t, pre, y, rest, e1, e2, e3, e4⟩ := ih _ (by rw [← h]; simp) ((b ||| a) :: r) rfl g' hg' ht'
        rcases pre with _ | ⟨x, pre'⟩
        · rw [List.nil_append, List.cons.injEq] at e2
          obtain ⟨rfl, rfl⟩ := e2
          refine ⟨t, [a], b, r, by rw [joinR, if_neg e]; exact e1, rfl, (has_or.1 e3).resolve_right e, fun n => ?_⟩
          rw [e4 n]
          simp [has_or]
        · rw [List.cons_append, List.cons.injEq] at e2
          obtain ⟨rfl, rfl⟩ := e2
          refine ⟨t, a :: b :: pre', y, rest, by rw [joinR, if_neg e]; exact e1, rfl, e3, fun n => ?_⟩
          rw [e4 n]
          simp only [List.mem_cons, exists_eq_or_imp, has_or]
          constructor
          · rintro (h | (h | h) | h)
            · exact .inl h
            · exact .inr (.inr (.inl h))
            · exact .inr (.inl h)
            · exact .inr (.inr (.inr h))
          · rintro (h | h | h | h)
            · exact .inl h
            · exact .inr (.inl (.inr h))
            · exact .inr (.inl (.inl h))
            · exact .inr (.inr h)

/-- A part: all in it reach each other. -/
def Tied (ask : Nat → Nat) (g : Nat) : Prop := ∀ u v, has g u → has g v → Ra ask u v
/-- All in one reach all in another. -/
def Leads (ask : Nat → Nat) (a b : Nat) : Prop := ∀ u v, has a u → has b v → Rch ask u v

/-- What the stack keeps. -/
structure Stk (ask : Nat → Nat) (s : GW) : Prop where
  sub : ∀ q, has s.met q ↔ has s.done q ∨ ∃ g ∈ s.stk, has g q
  off : ∀ g ∈ s.stk, Apart s.done g
  apart : s.stk.Pairwise Apart
  tied : ∀ g ∈ s.stk, Tied ask g
  some : ∀ g ∈ s.stk, ∃ q, has g q
  leads : s.stk.Pairwise fun a b => Leads ask b a
  closed : ∀ u v, has s.done u → has (ask u) v → has s.done v

theorem apart_sym {x y : Nat} (h : Apart x y) : Apart y x := fun n a b => h n b a

/-- Parts joined. -/
theorem Stk.join {ask : Nat → Nat} {s : GW} (h : Stk ask s) {t : Nat} {pre rest : List Nat} (hs : s.stk = pre ++ rest) (ht : ∀ n, has t n ↔ ∃ x ∈ pre, has x n) (hp : pre ≠ [])
    (hb : ∀ a b, a ∈ pre → b ∈ pre → ∀ u v, has a u → has b v → Ra ask u v) : Stk ask { s with stk := t :: rest } := by
  have hap := h.apart
  have hld := h.leads
  rw [hs, List.pairwise_append] at hap hld
  refine ⟨fun q => ?_, fun g hg => ?_, ?_, fun g hg => ?_, fun g hg => ?_, ?_, h.closed⟩
  · rw [h.sub q, hs]
    simp only [List.mem_append, List.mem_cons, exists_eq_or_imp, ht]
    constructor
    · rintro (h1 | ⟨g, h1 | h1, h2⟩)
      · exact .inl h1
      · exact .inr (.inl ⟨g, h1, h2⟩)
      · exact .inr (.inr ⟨g, h1, h2⟩)
    · rintro (h1 | ⟨g, h1, h2⟩ | ⟨g, h1, h2⟩)
      · exact .inl h1
      · exact .inr ⟨g, .inl h1, h2⟩
      · exact .inr ⟨g, .inr h1, h2⟩
  · rcases List.mem_cons.1 hg with rfl | hg
    · intro n h1 h2
      obtain ⟨x, hx, h3⟩ := (ht n).1 h2
      exact h.off x (by rw [hs]; exact List.mem_append_left _ hx) n h1 h3
    · exact h.off g (by rw [hs]; exact List.mem_append_right _ hg)
  · refine List.pairwise_cons.2 ⟨fun g hg n h1 h2 => ?_, hap.2.1⟩
    obtain ⟨x, hx, h3⟩ := (ht n).1 h1
    exact hap.2.2 x hx g hg n h3 h2
  · rcases List.mem_cons.1 hg with rfl | hg
    · intro u v hu hv
      obtain ⟨x, hx, h3⟩ := (ht u).1 hu
      obtain ⟨y, hy, h4⟩ := (ht v).1 hv
      exact hb x y hx hy u v h3 h4
    · exact h.tied g (by rw [hs]; exact List.mem_append_right _ hg)
  · rcases List.mem_cons.1 hg with rfl | hg
    · obtain ⟨x, pre', rfl⟩ := List.exists_cons_of_ne_nil hp
      obtain ⟨q, hq⟩ := h.some x (by rw [hs]; simp)
      exact ⟨q, (ht q).2 ⟨x, by simp, hq⟩⟩
    · exact h.some g (by rw [hs]; exact List.mem_append_right _ hg)
  · refine List.pairwise_cons.2 ⟨fun g hg u v hu hv => ?_, hld.2.1⟩
    obtain ⟨x, hx, h3⟩ := (ht v).1 hv
    exact hld.2.2 x hx g hg u v hu h3

/-- The numbers of a word's bits. -/
def bitsN (x : Nat) : List Nat := (List.range 64).filter fun j => x.testBit j
theorem bitsN_mem {x n : Nat} : n ∈ bitsN x ↔ n < 64 ∧ has x n := by simp [bitsN, has]
/-- A word without another one's bits. -/
def lessN (a b : Nat) : Nat := a ^^^ (a &&& b)
theorem has_less {a b n : Nat} : has (lessN a b) n ↔ has a n ∧ ¬ has b n := by
  unfold has lessN
  rw [Nat.testBit_xor, Nat.testBit_and]
  cases a.testBit n <;> cases b.testBit n <;> simp
def setAll (l : List Nat) (ps : List Nat) (x : Nat) : List Nat := ps.foldl (fun l p => l.set p x) l
theorem setAll_len (x : Nat) : ∀ (ps l : List Nat), (setAll l ps x).length = l.length
  | [], _ => rfl
  | p :: ps, l => by
    show (setAll (l.set p x) ps x).length = _
    rw [setAll_len x ps, List.length_set]
theorem setAll_at (x q : Nat) : ∀ (ps l : List Nat), q < l.length → (setAll l ps x).getD q 0 = if q ∈ ps then x else l.getD q 0
  | [], l, _ => by simp [setAll]
  | p :: ps, l, h => by
    show (setAll (l.set p x) ps x).getD q 0 = _
    rw [setAll_at x q ps _ (by simpa using h)]
    by_cases e : q ∈ ps
    · simp [e]
    · by_cases e2 : q = p
      · subst e2
        simp [e, List.getD_eq_getElem?_getD, h]
      · simp [e, e2, List.getD_eq_getElem?_getD, List.getElem?_set_ne (fun h : p = q => e2 h.symm)]
/-- All that a part asks at once, and over others that are done. -/
def reachF (ask : Nat → Nat) (reach : List Nat) (g : Nat) : Nat :=
  (bitsN (lessN ((bitsN g).foldl (fun r p => r ||| ask p) 0) g)).foldl (fun r t => r ||| reach.getD t 0) ((bitsN g).foldl (fun r p => r ||| ask p) 0)
theorem has_fold (h : Nat → Nat) (n : Nat) : ∀ (l : List Nat) (r : Nat), has (l.foldl (fun r p => r ||| h p) r) n ↔ has r n ∨ ∃ p ∈ l, has (h p) n
  | [], r => by simp
  | p :: l, r => by
    rw [List.foldl_cons, has_fold h n l, has_or]
    simp [or_assoc]
def finishF (ask : Nat → Nat) (g : Nat) (s : GW) : GW :=
  { s with done := s.done ||| g, groups := s.groups ++ [g], group := setAll s.group (bitsN g) g, reach := setAll s.reach (bitsN g) (reachF ask s.reach g) }
def stepF (rec : Nat → GW → GW) (s : GW) (to : Nat) : GW := if s.met.testBit to then (if s.done.testBit to then s else { s with stk := joinR to s.stk }) else rec to s
def leaveF (ask : Nat → Nat) (n : Nat) (s : GW) : GW := if n < s.stk.length then { finishF ask (s.stk.headD 0) s with stk := s.stk.tail } else s
def beginF (v : Nat) (s : GW) : GW := { s with met := s.met ||| 2 ^ v, stk := 2 ^ v :: s.stk }
/-- The visit of a predicate. -/
def visitF (ask : Nat → Nat) : Nat → Nat → GW → GW
  | 0, _, s => s
  | f + 1, v, s => leaveF ask s.stk.length ((bitsN (ask v)).foldl (stepF (visitF ask f)) (beginF v s))

/-- What holds between visits. -/
structure Inv (ask : Nat → Nat) (n : Nat) (s : GW) : Prop extends Stk ask s where
  lim : ∀ q, has s.met q → q < n
  rch : ∀ p q, has s.done p → (has (s.reach.getD p 0) q ↔ Rch ask p q)
  grp : ∀ p q, has s.done p → (has (s.group.getD p 0) q ↔ q = p ∨ (Rch ask p q ∧ Rch ask q p))
  len : s.group.length = 24 ∧ s.reach.length = 24
  told : ∀ q, has s.done q ↔ ∃ g ∈ s.groups, has g q
  own : ∀ g ∈ s.groups, (∃ q, has g q) ∧ ∀ q, has g q → s.group.getD q 0 = g
  apartG : s.groups.Pairwise Apart
  order : ∀ i (h : i < s.groups.length) u x, has s.groups[i] u → has (ask u) x → ∃ j, ∃ h : j < s.groups.length, j ≤ i ∧ has s.groups[j] x

/-- What is asked lies behind, or in the same part. -/
def Seen (ask : Nat → Nat) (s : GW) (u : Nat) : Prop := ∀ x, has (ask u) x → has s.done x ∨ ∃ g ∈ s.stk, has g u ∧ has g x
/-- Parts stay, or become one. -/
def Merged (a b : List Nat) (v : Nat) : Prop := ∃ t pre rest, a = pre ++ rest ∧ pre ≠ [] ∧ b = t :: rest ∧ has t v ∧ ∀ g ∈ pre, ∀ q, has g q → has t q
structure Post (ask : Nat → Nat) (n v : Nat) (s s' : GW) : Prop where
  inv : Inv ask n s'
  met : ∀ q, has s.met q → has s'.met q
  me : has s'.met v
  done : ∀ q, has s.done q → has s'.done q
  seen : ∀ u, has s'.met u → ¬ has s.met u → Seen ask s' u
  stk : s'.stk = s.stk ∨ Merged s.stk s'.stk v

theorem Merged.keep {a b : List Nat} {v : Nat} (h : Merged a b v) : ∀ g ∈ a, ∃ g' ∈ b, ∀ q, has g q → has g' q := by
  obtain ⟨t, pre, rest, rfl, _, rfl, _, h3⟩ := h
  intro g hg
  rcases List.mem_append.1 hg with h1 | h1
  · exact ⟨t, List.mem_cons_self .., h3 g h1⟩
  · exact ⟨g, List.mem_cons_of_mem _ h1, fun _ h => h⟩
theorem Seen.keep {ask : Nat → Nat} {s s' : GW} {u : Nat} (h : Seen ask s u) (hd : ∀ q, has s.done q → has s'.done q) (hk : ∀ g ∈ s.stk, (∃ g' ∈ s'.stk, ∀ q, has g q → has g' q) ∨ ∀ q, has g q → has s'.done q) : Seen ask s' u := by
  intro x hx
  rcases h x hx with h1 | ⟨g, hg, h1, h2⟩
  · exact .inl (hd x h1)
  · rcases hk g hg with ⟨g', hg', h3⟩ | h3
    · exact .inr ⟨g', hg', h3 u h1, h3 x h2⟩
    · exact .inl (h3 x h2)

/-- What holds while a predicate's links are followed: X are the ones that have been. -/
structure Mid (ask : Nat → Nat) (n v : Nat) (s s' : GW) (X : List Nat) : Prop where
  inv : Inv ask n s'
  met : ∀ q, has s.met q → has s'.met q
  me : has s'.met v
  done : ∀ q, has s.done q → has s'.done q
  seen : ∀ u, has s'.met u → ¬ has s.met u → u ≠ v → Seen ask s' u
  stk : ∃ t pre rest, s.stk = pre ++ rest ∧ s'.stk = t :: rest ∧ has t v ∧ (∀ g ∈ pre, ∀ q, has g q → has t q) ∧ ∀ x ∈ X, has s'.done x ∨ has t x

def cntU (n met : Nat) : Nat := ((List.range n).filter fun q => !met.testBit q).length
theorem cntU_mono {n a b : Nat} (h : ∀ q, has a q → has b q) : cntU n b ≤ cntU n a := by
  unfold cntU
  apply List.Sublist.length_le
  have : (List.range n).filter (fun q => !b.testBit q) = ((List.range n).filter (fun q => !a.testBit q)).filter (fun q => !b.testBit q) := by
    rw [List.filter_filter]
    apply List.filter_congr
    intro q _
    have h1 := h q
    unfold has at h1
    cases ha : a.testBit q <;> cases hb : b.testBit q <;> simp_all
  rw [this]
  exact List.filter_sublist
theorem cntU_less {n v a b : Nat} (h : ∀ q, has a q → has b q) (hv : v < n) (h1 : ¬ has a v) (h2 : has b v) : cntU n b < cntU n a := by
  have h3 : cntU n b ≤ cntU n (a ||| 2 ^ v) := cntU_mono fun q hq => (has_or.1 hq).elim (h q) fun e => by rw [has_pow] at e; exact e ▸ h2
  refine Nat.lt_of_le_of_lt h3 ?_
  unfold cntU
  rw [← List.countP_eq_length_filter, ← List.countP_eq_length_filter]
  have e : List.range n = List.range v ++ (v :: (List.range (n - v - 1)).map (· + (v + 1))) := by
    have : n = v + (1 + (n - v - 1)) := by omega
    conv => lhs; rw [this]
    rw [List.range_add, List.range_add, List.map_append, List.map_map]
    simp [Function.comp_def, Nat.add_comm, Nat.add_left_comm]
  have hle : ∀ l : List Nat, List.countP (fun q => !(a ||| 2 ^ v).testBit q) l ≤ List.countP (fun q => !a.testBit q) l := fun l => by
    apply List.countP_mono_left
    intro q _ hq
    simp [Nat.testBit_or] at hq ⊢
    exact hq.1
  rw [e, List.countP_append, List.countP_append, List.countP_cons, List.countP_cons]
  have l1 := hle (List.range v)
  have l2 := hle ((List.range (n - v - 1)).map (· + (v + 1)))
  have e1 : (!(a ||| 2 ^ v).testBit v) = false := by simp [Nat.testBit_or]
  have e2 : (!a.testBit v) = true := by simpa [has] using h1
  rw [e1, e2]
  simp only [if_true, Bool.false_eq_true, if_false]
  omega

/-- A predicate is begun. -/
theorem Mid.begin {ask : Nat → Nat} {n v : Nat} {s : GW} (h : Inv ask n s) (hv : v < n) (hm : ¬ has s.met v) (hl : ∀ g ∈ s.stk, ∀ u, has g u → Rch ask u v) : Mid ask n v s (beginF v s) [] := by
  have h1 : ∀ q, has (s.met ||| 2 ^ v) q ↔ has s.met q ∨ v = q := fun q => by rw [has_or, has_pow]
  refine ⟨⟨⟨?_, ?_, ?_, ?_, ?_, ?_, h.closed⟩, ?_, h.rch, h.grp, h.len, h.told, h.own, h.apartG, h.order⟩, fun q hq => (h1 q).2 (.inl hq), (h1 v).2 (.inr rfl), fun _ h => h, ?_, ?_⟩
  · intro q
    show has (s.met ||| 2 ^ v) q ↔ has s.done q ∨ ∃ g ∈ 2 ^ v :: s.stk, has g q
    rw [h1, h.sub q]
    simp only [List.mem_cons, exists_eq_or_imp, has_pow]
    constructor
    · rintro ((h | h) | h)
      · exact .inl h
      · exact .inr (.inr h)
      · exact .inr (.inl h)
    · rintro (h | h | h)
      · exact .inl (.inl h)
      · exact .inr h
      · exact .inl (.inr h)
  · intro g hg n' hd hn
    rcases List.mem_cons.1 hg with rfl | hg
    · rw [has_pow] at hn
      exact hm ((h.sub v).2 (.inl (hn ▸ hd)))
    · exact h.off g hg n' hd hn
  · refine List.pairwise_cons.2 ⟨fun g hg n' a b => ?_, h.apart⟩
    rw [has_pow] at a
    exact hm ((h.sub v).2 (.inr ⟨g, hg, a ▸ b⟩))
  · intro g hg
    rcases List.mem_cons.1 hg with rfl | hg
    · intro a b ha hb
      rw [has_pow] at ha hb
      exact .inl (ha ▸ hb)
    · exact h.tied g hg
  · intro g hg
    rcases List.mem_cons.1 hg with rfl | hg
    · exact ⟨v, has_pow.2 rfl⟩
    · exact h.some g hg
  · refine List.pairwise_cons.2 ⟨fun g hg u v' hu hv' => ?_, h.leads⟩
    rw [has_pow] at hv'
    exact hv' ▸ hl g hg u hu
  · intro q hq
    rcases (h1 q).1 hq with h2 | rfl
    · exact h.lim q h2
    · exact hv
  · intro u hu hn hne
    rcases (h1 u).1 hu with h2 | rfl
    · exact absurd h2 hn
    · exact absurd rfl hne
  · exact ⟨2 ^ v, [], s.stk, rfl, rfl, has_pow.2 rfl, by simp, by simp⟩

/-- Two parts of the stack lead from the lower to the upper one; one part leads within. -/
theorem Stk.up {ask : Nat → Nat} {s : GW} (h : Stk ask s) {t : Nat} {rest : List Nat} (hs : s.stk = t :: rest) {g : Nat} (hg : g ∈ s.stk) : ∀ u v, has g u → has t v → Ra ask u v := by
  intro u v hu hv
  rw [hs] at hg
  rcases List.mem_cons.1 hg with rfl | hg
  · exact h.tied g (by rw [hs]; simp) u v hu hv
  · have := h.leads
    rw [hs, List.pairwise_cons] at this
    exact .inr (this.1 g hg u v hu hv)

theorem Mid.step {ask : Nat → Nat} {n v f to : Nat} {s s' : GW} {X : List Nat} {rec : Nat → GW → GW} (hask : ∀ u x, has (ask u) x → x < n) (h : Mid ask n v s s' X) (hto : has (ask v) to) (hc : cntU n s'.met ≤ f)
    (hrec : ∀ to s2, Inv ask n s2 → to < n → ¬ has s2.met to → (∀ g ∈ s2.stk, ∀ u, has g u → Rch ask u to) → cntU n s2.met ≤ f → Post ask n to s2 (rec to s2)) : Mid ask n v s (stepF rec s' to) (to :: X) := by
  obtain ⟨t, pre, rest, e1, e2, e3, e4, e5⟩ := h.stk
  have hlead : ∀ g ∈ s'.stk, ∀ u, has g u → Rch ask u to := fun g hg u hu => (h.inv.toStk.up e2 hg u v hu e3).rch (.one hto)
  unfold stepF
  by_cases hm : s'.met.testBit to = true
  · rw [if_pos hm]
    by_cases hd : s'.done.testBit to = true
    · rw [if_pos hd]
      exact ⟨h.inv, h.met, h.me, h.done, h.seen, t, pre, rest, e1, e2, e3, e4, fun x hx => by
        rcases List.mem_cons.1 hx with rfl | hx
        · exact .inl hd
        · exact e5 x hx⟩
    · rw [if_neg hd]
      rcases (h.inv.sub to).1 hm with hd' | ⟨g, hg, ht⟩
      · exact absurd hd' hd
      obtain ⟨t', pre', y, rest', j1, j2, j3, j4⟩ := joinR_spec to s'.stk g hg ht
      have j2' : s'.stk = (pre' ++ [y]) ++ rest' := by rw [j2]; simp
      have hmem : ∀ x ∈ pre' ++ [y], x ∈ s'.stk := fun x hx => by rw [j2']; exact List.mem_append_left _ hx
      have j4' : ∀ n, has t' n ↔ ∃ x ∈ pre' ++ [y], has x n := fun n => by
        rw [j4]
        simp only [List.mem_append, List.mem_singleton]
        constructor
        · rintro (h | ⟨x, h1, h2⟩)
          · exact ⟨y, .inr rfl, h⟩
          · exact ⟨x, .inl h1, h2⟩
        · rintro ⟨x, h1 | rfl, h2⟩
          · exact .inr ⟨x, h1, h2⟩
          · exact .inl h2
      -- what is joined is reached from what is asked
      have hback : ∀ a ∈ pre' ++ [y], ∀ u, has a u → Ra ask v u := by
        intro a ha u hu
        refine .inr ?_
        have hs : Ra ask to u := by
          rcases List.mem_append.1 ha with h1 | h1
          · have hl := h.inv.leads
            rw [j2, List.pairwise_append] at hl
            exact .inr (hl.2.2 a h1 y (List.mem_cons_self ..) to u j3 hu)
          · rw [List.mem_singleton] at h1
            subst h1
            exact h.inv.tied a (hmem a ha) to u j3 hu
        rcases hs with rfl | hs
        · exact .one hto
        · exact .step hto hs
      have hst := h.inv.toStk.join j2' j4' (by simp) (fun a b ha hb u u' hu hu' => (h.inv.toStk.up e2 (hmem a ha) u v hu e3).trans (hback b hb u' hu'))
      -- the top is among what is joined
      have htin : ∃ z, pre' ++ [y] = t :: z ∧ rest = z ++ rest' := by
        cases hp : pre' ++ [y] with
        | nil => simp at hp
        | cons x z =>
          rw [e2, hp, List.cons_append, List.cons.injEq] at j2'
          exact ⟨z, by rw [j2'.1], j2'.2⟩
      obtain ⟨z, hz1, hz2⟩ := htin
      have hsub : ∀ x ∈ t :: z, ∀ q, has x q → has t' q := fun x hx q hq => (j4' q).2 ⟨x, by rw [hz1]; exact hx, hq⟩
      have hkeep : ∀ g ∈ s'.stk, ∃ g' ∈ joinR to s'.stk, ∀ q, has g q → has g' q := fun g hg => by
        rw [j1]
        rw [j2', List.mem_append, hz1] at hg
        rcases hg with h1 | h1
        · exact ⟨t', List.mem_cons_self .., hsub g h1⟩
        · exact ⟨g, List.mem_cons_of_mem _ h1, fun _ h => h⟩
      rw [← j1] at hst
      refine ⟨⟨hst, h.inv.lim, h.inv.rch, h.inv.grp, h.inv.len, h.inv.told, h.inv.own, h.inv.apartG, h.inv.order⟩, h.met, h.me, h.done, fun u hu hn hne => (h.seen u hu hn hne).keep (fun _ h => h) (fun g hg => .inl (hkeep g hg)), t', pre ++ z, rest', ?_, j1, hsub t (List.mem_cons_self ..) v e3, ?_, ?_⟩
      · rw [e1, hz2, List.append_assoc]
      · intro x hx q hq
        rcases List.mem_append.1 hx with h1 | h1
        · exact hsub t (List.mem_cons_self ..) q (e4 x h1 q hq)
        · exact hsub x (List.mem_cons_of_mem _ h1) q hq
      · intro x hx
        rcases List.mem_cons.1 hx with rfl | hx
        · exact .inr ((j4 x).2 (.inl j3))
        · exact (e5 x hx).imp id fun h1 => hsub t (List.mem_cons_self ..) x h1
  · rw [if_neg hm]
    have hp := hrec to s' h.inv (hask v to hto) hm hlead hc
    have hkeep : ∀ g ∈ s'.stk, ∃ g' ∈ (rec to s').stk, ∀ q, has g q → has g' q := fun g hg => by
      rcases hp.stk with e | hmg
      · exact ⟨g, by rw [e]; exact hg, fun _ h => h⟩
      · exact hmg.keep g hg
    refine ⟨hp.inv, fun q hq => hp.met q (h.met q hq), hp.met v h.me, fun q hq => hp.done q (h.done q hq), fun u hu hn hne => ?_, ?_⟩
    · by_cases hu' : has s'.met u
      · exact (h.seen u hu' hn hne).keep hp.done (fun g hg => .inl (hkeep g hg))
      · exact hp.seen u hu hu'
    · rcases hp.stk with e | ⟨t', pre', rest', m1, m2, m3, m4, m5⟩
      · refine ⟨t, pre, rest, e1, by rw [e, e2], e3, e4, fun x hx => ?_⟩
        rcases List.mem_cons.1 hx with rfl | hx
        · rcases (hp.inv.sub x).1 hp.me with h1 | ⟨g, hg, h1⟩
          · exact .inl h1
          · rw [e] at hg
            exact absurd ((h.inv.sub x).2 (.inr ⟨g, hg, h1⟩)) hm
        · exact (e5 x hx).imp (hp.done x) id
      · obtain ⟨z, rfl, hz⟩ : ∃ z, pre' = t :: z ∧ rest = z ++ rest' := by
          cases pre' with
          | nil => exact absurd rfl m2
          | cons x z =>
            rw [e2, List.cons_append, List.cons.injEq] at m1
            exact ⟨z, by rw [m1.1], m1.2⟩
        refine ⟨t', pre ++ z, rest', by rw [e1, hz, List.append_assoc], m3, m5 t (List.mem_cons_self ..) v e3, ?_, ?_⟩
        · intro x hx q hq
          rcases List.mem_append.1 hx with h1 | h1
          · exact m5 t (List.mem_cons_self ..) q (e4 x h1 q hq)
          · exact m5 x (List.mem_cons_of_mem _ h1) q hq
        · intro x hx
          rcases List.mem_cons.1 hx with rfl | hx
          · exact .inr m4
          · exact (e5 x hx).imp (hp.done x) fun h1 => m5 t (List.mem_cons_self ..) x h1

theorem has_reachF {ask : Nat → Nat} {reach : List Nat} {g q : Nat} (hg : ∀ x, has g x → x < 64) (ha : ∀ u x, has (ask u) x → x < 64) :
    has (reachF ask reach g) q ↔ (∃ u, has g u ∧ has (ask u) q) ∨ ∃ x, (∃ u, has g u ∧ has (ask u) x) ∧ ¬ has g x ∧ has (reach.getD x 0) q := by
  have h0 : ∀ q, has ((bitsN g).foldl (fun r p => r ||| ask p) 0) q ↔ ∃ u, has g u ∧ has (ask u) q := fun q => by
    rw [has_fold]
    constructor
    · rintro (h | ⟨p, hp, h⟩)
      · simp [has] at h
      · exact ⟨p, (bitsN_mem.1 hp).2, h⟩
    · rintro ⟨p, hp, h⟩
      exact .inr ⟨p, bitsN_mem.2 ⟨hg p hp, hp⟩, h⟩
  unfold reachF
  rw [has_fold, h0]
  constructor
  · rintro (h | ⟨x, hx, h⟩)
    · exact .inl h
    · have := (bitsN_mem.1 hx).2
      rw [has_less, h0] at this
      exact .inr ⟨x, this.1, this.2, h⟩
  · rintro (h | ⟨x, ⟨u, h1, h2⟩, h3, h⟩)
    · exact .inl h
    · exact .inr ⟨x, bitsN_mem.2 ⟨ha u x h2, has_less.2 ⟨(h0 x).2 ⟨u, h1, h2⟩, h3⟩⟩, h⟩

/-- A part whose links lead to it or to what is done is a group. -/
theorem part_rch {ask : Nat → Nat} {n : Nat} {s : GW} {t : Nat} (h : Inv ask n s) (hn : n ≤ 24) (hask : ∀ u x, has (ask u) x → x < n) (htm : ∀ u, has t u → has s.met u) (htd : Apart s.done t) (htie : Tied ask t) (hs : ∀ u x, has t u → has (ask u) x → has s.done x ∨ has t x) :
    (∀ u q, has t u → (has (reachF ask s.reach t) q ↔ Rch ask u q)) ∧ ∀ u q, has t u → (has t q ↔ q = u ∨ (Rch ask u q ∧ Rch ask q u)) := by
  have hl : ∀ x, has t x → x < 64 := fun x hx => by have := h.lim x (htm x hx); omega
  have hcl : ∀ u q, Rch ask u q → (has s.done u → has s.done q) := fun u q hr => by
    induction hr with
    | one e => exact fun hd => h.closed _ _ hd e
    | step e _ ih => exact fun hd => ih (h.closed _ _ hd e)
  have hto : ∀ u q, Rch ask u q → has t u → has s.done q ∨ has t q := fun u q hr => by
    induction hr with
    | one e => exact fun hu => hs _ _ hu e
    | step e hr ih =>
      intro hu
      rcases hs _ _ hu e with h1 | h1
      · exact .inl (hcl _ _ hr h1)
      · exact ih h1
  refine ⟨fun u q hu => ?_, fun u q hu => ⟨fun hq => ?_, fun hq => ?_⟩⟩
  · rw [has_reachF hl (fun u x hx => by have := hask u x hx; omega)]
    constructor
    · rintro (⟨u', h1, h2⟩ | ⟨x, ⟨u', h1, h2⟩, h3, h4⟩)
      · exact (htie u u' hu h1).rch (.one h2)
      · have hx : has s.done x := (hs u' x h1 h2).resolve_right h3
        exact (htie u u' hu h1).rch (.step h2 ((h.rch x q hx).1 h4))
    · intro hr
      clear hcl hto
      induction hr with
      | one e => exact .inl ⟨_, hu, e⟩
      | @step u x q e hr ih =>
        rcases hs _ _ hu e with h1 | h1
        · exact .inr ⟨x, ⟨_, hu, e⟩, fun ht => htd x h1 ht, (h.rch x q h1).2 hr⟩
        · exact ih h1
  · rcases htie u q hu hq with rfl | h1
    · exact .inl rfl
    · rcases htie q u hq hu with rfl | h2
      · exact .inl rfl
      · exact .inr ⟨h1, h2⟩
  · rcases hq with rfl | ⟨h1, h2⟩
    · exact hu
    · rcases hto u q h1 hu with h3 | h3
      · exact absurd hu fun hu => htd u (hcl q u h2 h3) hu
      · exact h3

theorem Mid.leave {ask : Nat → Nat} {n v : Nat} {s s' : GW} {X : List Nat} (hn : n ≤ 24) (hask : ∀ u x, has (ask u) x → x < n) (h0 : Inv ask n s) (hv : ¬ has s.met v) (h : Mid ask n v s s' X) (hX : ∀ x, has (ask v) x → x ∈ X) : Post ask n v s (leaveF ask s.stk.length s') := by
  obtain ⟨t, pre, rest, e1, e2, e3, e4, e5⟩ := h.stk
  have htS : t ∈ s'.stk := by rw [e2]; exact List.mem_cons_self ..
  have htm : ∀ u, has t u → has s'.met u := fun u hu => (h.inv.sub u).2 (.inr ⟨t, htS, hu⟩)
  have honly : ∀ g ∈ s'.stk, ∀ u, has t u → has g u → g = t := fun g hg u hu hgu => by
    rw [e2] at hg
    rcases List.mem_cons.1 hg with rfl | hg
    · rfl
    · have := h.inv.apart
      rw [e2, List.pairwise_cons] at this
      exact absurd hgu fun hgu => this.1 g hg u hu hgu
  rcases pre with _ | ⟨g0, pre⟩
  · rw [List.nil_append] at e1
    have hlen : s.stk.length < s'.stk.length := by rw [e2, ← e1]; simp
    have hleave : leaveF ask s.stk.length s' = { finishF ask t s' with stk := s.stk } := by
      unfold leaveF
      rw [if_pos hlen, e2, e1]
      rfl
    rw [hleave]
    have hnew : ∀ u, has t u → ¬ has s.met u := fun u hu hm => by
      rcases (h0.sub u).1 hm with hd | ⟨g, hg, hgu⟩
      · exact h.inv.off t htS u (h.done u hd) hu
      · have := honly g (by rw [e2, ← e1]; exact List.mem_cons_of_mem _ hg) u hu hgu
        subst this
        have h2 := h.inv.apart
        rw [e2, ← e1, List.pairwise_cons] at h2
        exact h2.1 g hg u hu hgu
    have hs : ∀ u x, has t u → has (ask u) x → has s'.done x ∨ has t x := fun u x hu hx => by
      by_cases e : u = v
      · subst e
        exact e5 x (hX x hx)
      · rcases h.seen u (htm u hu) (hnew u hu) e x hx with h1 | ⟨g, hg, h1, h2⟩
        · exact .inl h1
        · exact .inr (honly g hg u hu h1 ▸ h2)
    have htd := h.inv.off t htS
    obtain ⟨P1, P2⟩ := part_rch h.inv hn hask htm htd (h.inv.tied t htS) hs
    have hlim : ∀ u, has s'.met u → u < 24 := fun u hu => by have := h.inv.lim u hu; omega
    have hbt : ∀ u, u ∈ bitsN t ↔ has t u := fun u => bitsN_mem.trans ⟨fun h => h.2, fun hu => ⟨by have := hlim u (htm u hu); omega, hu⟩⟩
    have hdm : ∀ u, has s'.done u → has s'.met u := fun u hu => (h.inv.sub u).2 (.inl hu)
    have hgr : ∀ u, has s'.met u → (setAll s'.group (bitsN t) t).getD u 0 = if has t u then t else s'.group.getD u 0 := fun u hu => by
      rw [setAll_at _ _ _ _ (by rw [h.inv.len.1]; exact hlim u hu)]
      simp only [hbt]
    have hrr : ∀ u, has s'.met u → (setAll s'.reach (bitsN t) (reachF ask s'.reach t)).getD u 0 = if has t u then reachF ask s'.reach t else s'.reach.getD u 0 := fun u hu => by
      rw [setAll_at _ _ _ _ (by rw [h.inv.len.2]; exact hlim u hu)]
      simp only [hbt]
    have hap := h.inv.apart
    rw [e2, ← e1, List.pairwise_cons] at hap
    have hld := h.inv.leads
    rw [e2, ← e1, List.pairwise_cons] at hld
    have hin : ∀ g ∈ s.stk, g ∈ s'.stk := fun g hg => by rw [e2, ← e1]; exact List.mem_cons_of_mem _ hg
    have hdo : ∀ q, has (s'.done ||| t) q ↔ has s'.done q ∨ has t q := fun q => has_or
    refine ⟨⟨⟨fun q => ?_, fun g hg q hd hq => ?_, hap.2, fun g hg => h.inv.tied g (hin g hg), fun g hg => h.inv.some g (hin g hg), hld.2, fun u x hd hx => ?_⟩, h.inv.lim, fun p q hd => ?_, fun p q hd => ?_, ?_, fun q => ?_, fun g hg => ?_, ?_, fun i hi u x hu hx => ?_⟩, h.met, h.me, fun q hq => (hdo q).2 (.inl (h.done q hq)), fun u hu hm => ?_, .inl rfl⟩
    · show has s'.met q ↔ has (s'.done ||| t) q ∨ ∃ g ∈ s.stk, has g q
      rw [h.inv.sub q, hdo, e2, ← e1]
      simp only [List.mem_cons, exists_eq_or_imp, or_assoc]
    · rcases (hdo q).1 hd with h1 | h1
      · exact h.inv.off g (hin g hg) q h1 hq
      · exact hap.1 g hg q h1 hq
    · rcases (hdo u).1 hd with h1 | h1
      · exact (hdo x).2 (.inl (h.inv.closed u x h1 hx))
      · exact (hdo x).2 (hs u x h1 hx)
    · show has ((setAll s'.reach (bitsN t) (reachF ask s'.reach t)).getD p 0) q ↔ _
      rcases (hdo p).1 hd with h1 | h1
      · rw [hrr p (hdm p h1), if_neg (fun ht => htd p h1 ht)]
        exact h.inv.rch p q h1
      · rw [hrr p (htm p h1), if_pos h1]
        exact P1 p q h1
    · show has ((setAll s'.group (bitsN t) t).getD p 0) q ↔ _
      rcases (hdo p).1 hd with h1 | h1
      · rw [hgr p (hdm p h1), if_neg (fun ht => htd p h1 ht)]
        exact h.inv.grp p q h1
      · rw [hgr p (htm p h1), if_pos h1]
        exact P2 p q h1
    · exact ⟨by show (setAll _ _ _).length = 24; rw [setAll_len]; exact h.inv.len.1, by show (setAll _ _ _).length = 24; rw [setAll_len]; exact h.inv.len.2⟩
    · show has (s'.done ||| t) q ↔ ∃ g ∈ s'.groups ++ [t], has g q
      rw [hdo, h.inv.told q]
      simp only [List.mem_append, List.mem_singleton]
      constructor
      · rintro (⟨g, h1, h2⟩ | h1)
        · exact ⟨g, .inl h1, h2⟩
        · exact ⟨t, .inr rfl, h1⟩
      · rintro ⟨g, h1 | rfl, h2⟩
        · exact .inl ⟨g, h1, h2⟩
        · exact .inr h2
    · rcases List.mem_append.1 hg with h1 | h1
      · refine ⟨(h.inv.own g h1).1, fun q hq => ?_⟩
        have hd : has s'.done q := (h.inv.told q).2 ⟨g, h1, hq⟩
        show (setAll s'.group (bitsN t) t).getD q 0 = g
        rw [hgr q (hdm q hd), if_neg (fun ht => htd q hd ht)]
        exact (h.inv.own g h1).2 q hq
      · rw [List.mem_singleton] at h1
        subst h1
        refine ⟨⟨v, e3⟩, fun q hq => ?_⟩
        show (setAll s'.group (bitsN g) g).getD q 0 = g
        rw [hgr q (htm q hq), if_pos hq]
    · show (s'.groups ++ [t]).Pairwise Apart
      rw [List.pairwise_append]
      refine ⟨h.inv.apartG, List.pairwise_singleton _ _, fun g hg t' ht' q h1 h2 => ?_⟩
      rw [List.mem_singleton] at ht'
      subst ht'
      exact htd q ((h.inv.told q).2 ⟨g, hg, h1⟩) h2
    · have hu3 : ∀ hi3 : i < (s'.groups ++ [t]).length, has ((s'.groups ++ [t])[i]'hi3) u := fun _ => hu
      show ∃ j, ∃ h : j < (s'.groups ++ [t]).length, j ≤ i ∧ has (s'.groups ++ [t])[j] x
      have hi2 : i < (s'.groups ++ [t]).length := hi
      have hu2 := hu3 hi2
      rw [List.length_append, List.length_singleton] at hi2
      by_cases hlt : i < s'.groups.length
      · rw [List.getElem_append_left hlt] at hu2
        obtain ⟨j, hj, hji, hx2⟩ := h.inv.order i hlt u x hu2 hx
        exact ⟨j, by simp; omega, hji, by rw [List.getElem_append_left hj]; exact hx2⟩
      · have hie : i = s'.groups.length := by omega
        subst hie
        rw [List.getElem_append_right (Nat.le_refl _)] at hu2
        simp only [Nat.sub_self, List.getElem_cons_zero] at hu2
        rcases hs u x hu2 hx with h1 | h1
        · obtain ⟨g, hg, hx2⟩ := (h.inv.told x).1 h1
          obtain ⟨j, hj, rfl⟩ := List.getElem_of_mem hg
          exact ⟨j, by simp; omega, by omega, by rw [List.getElem_append_left hj]; exact hx2⟩
        · exact ⟨s'.groups.length, by simp, Nat.le_refl _, by rw [List.getElem_append_right (Nat.le_refl _)]; simpa using h1⟩
    · by_cases e : u = v
      · subst e
        exact fun x hx => .inl ((hdo x).2 (e5 x (hX x hx)))
      · refine (h.seen u hu hm e).keep (fun q hq => (hdo q).2 (.inl hq)) fun g hg => ?_
        rw [e2, ← e1] at hg
        rcases List.mem_cons.1 hg with rfl | hg
        · exact .inr fun q hq => (hdo q).2 (.inr hq)
        · exact .inl ⟨g, hg, fun _ h => h⟩
  · have hlen : ¬ s.stk.length < s'.stk.length := by rw [e2, e1]; simp
    have hleave : leaveF ask s.stk.length s' = s' := by
      unfold leaveF
      rw [if_neg hlen]
    rw [hleave]
    refine ⟨h.inv, h.met, h.me, h.done, fun u hu hm => ?_, .inr ⟨t, g0 :: pre, rest, e1, by simp, e2, e3, e4⟩⟩
    by_cases e : u = v
    · subst e
      exact fun x hx => (e5 x (hX x hx)).imp id fun h1 => ⟨t, htS, e3, h1⟩
    · exact h.seen u hu hm e

/-- The stack never grows by a visit. -/
theorem joinR_len (to : Nat) : ∀ l : List Nat, (joinR to l).length ≤ l.length ∧ (l ≠ [] → joinR to l ≠ []) := by
  intro l
  induction h : l.length using Nat.strongRecOn generalizing l with
  | _ m ih =>
    match l, h with
    | [], _ => simp [joinR]
    | [a], h => simp [joinR] at h ⊢; omega
    | a :: b :: r, h =>
      rw [joinR]
      split
      · simp at h ⊢; omega
      · obtain ⟨h1, h2⟩ := ih _ (by rw [← h]; simp) ((b ||| a) :: r) rfl
        exact ⟨by simp at h h1 ⊢; omega, fun _ => h2 (by simp)⟩

/-- What the visits of a row of links keep. -/
theorem Mid.fold {ask : Nat → Nat} {n v f : Nat} {s : GW} (hask : ∀ u x, has (ask u) x → x < n)
    (hrec : ∀ to s2, Inv ask n s2 → to < n → ¬ has s2.met to → (∀ g ∈ s2.stk, ∀ u, has g u → Rch ask u to) → cntU n s2.met ≤ f → Post ask n to s2 (visitF ask f to s2))
    (hv : v < n) (hm : ¬ has s.met v) (hc : cntU n s.met ≤ f + 1) : ∀ (l : List Nat) (s' : GW) (X : List Nat), (∀ x ∈ l, has (ask v) x) → Mid ask n v s s' X → Mid ask n v s (l.foldl (stepF (visitF ask f)) s') (l.reverse ++ X)
  | [], s', X, _, h => by simpa using h
  | x :: l, s', X, hl, h => by
    have hc' : cntU n s'.met ≤ f := by have := cntU_less h.met hv hm h.me; omega
    have := Mid.fold hask hrec hv hm hc l (stepF (visitF ask f) s' x) (x :: X) (fun y hy => hl y (List.mem_cons_of_mem _ hy)) (h.step hask (hl x (List.mem_cons_self ..)) hc' hrec)
    simpa using this

theorem visit_post {ask : Nat → Nat} {n : Nat} (hn : n ≤ 24) (hask : ∀ u x, has (ask u) x → x < n) : ∀ (f v : Nat) (s : GW), Inv ask n s → v < n → ¬ has s.met v → (∀ g ∈ s.stk, ∀ u, has g u → Rch ask u v) → cntU n s.met ≤ f → Post ask n v s (visitF ask f v s)
  | 0, v, s, _, hv, hm, _, hc => by
    have := cntU_less (n := n) (v := v) (a := s.met) (b := s.met ||| 2 ^ v) (fun q hq => has_or.2 (.inl hq)) hv hm (has_or.2 (.inr (has_pow.2 rfl)))
    omega
  | f + 1, v, s, hi, hv, hm, hl, hc => by
    have h1 := Mid.fold hask (fun to s2 => visit_post hn hask f to s2) hv hm hc (bitsN (ask v)) (beginF v s) [] (fun x hx => (bitsN_mem.1 hx).2) (Mid.begin hi hv hm hl)
    exact h1.leave hn hask hi hm fun x hx => by
      simp only [List.append_nil, List.mem_reverse]
      exact bitsN_mem.2 ⟨by have := hask v x hx; omega, hx⟩

/-- The walk over all predicates. -/
def startW : GW := ⟨0, 0, [], [], List.replicate 24 0, List.replicate 24 0⟩
def walkF (ask : Nat → Nat) (n k : Nat) : GW := (List.range k).foldl (fun s p => if s.met.testBit p then s else visitF ask n p s) startW
theorem not_has_zero (q : Nat) : ¬ has 0 q := by simp [has]
theorem walk_inv {ask : Nat → Nat} {n : Nat} (hn : n ≤ 24) (hask : ∀ u x, has (ask u) x → x < n) : ∀ k, k ≤ n → Inv ask n (walkF ask n k) ∧ (walkF ask n k).stk = [] ∧ ∀ p, p < k → has (walkF ask n k).met p
  | 0, _ => by
    refine ⟨⟨⟨fun q => ?_, fun g hg => (by cases hg), List.Pairwise.nil, fun g hg => (by cases hg), fun g hg => (by cases hg), List.Pairwise.nil, fun u v h => absurd h (not_has_zero u)⟩, fun q h => absurd h (not_has_zero q), fun p q h => absurd h (not_has_zero p), fun p q h => absurd h (not_has_zero p), ⟨rfl, rfl⟩, fun q => ?_, fun g hg => (by cases hg), List.Pairwise.nil, fun i h => absurd h (Nat.not_lt_zero _)⟩, rfl, fun p h => absurd h (Nat.not_lt_zero _)⟩
    · exact ⟨fun h => absurd h (not_has_zero q), fun h => by
        rcases h with h | ⟨g, hg, _⟩
        · exact absurd h (not_has_zero q)
        · cases hg⟩
    · exact ⟨fun h => absurd h (not_has_zero q), fun ⟨g, hg, _⟩ => by cases hg⟩
  | k + 1, hk => by
    obtain ⟨h1, h2, h3⟩ := walk_inv hn hask k (by omega)
    have e : walkF ask n (k + 1) = if (walkF ask n k).met.testBit k then walkF ask n k else visitF ask n k (walkF ask n k) := by
      unfold walkF
      rw [List.range_succ, List.foldl_append]
      rfl
    rw [e]
    by_cases hm : (walkF ask n k).met.testBit k = true
    · rw [if_pos hm]
      exact ⟨h1, h2, fun p hp => by
        by_cases e : p = k
        · subst e; exact hm
        · exact h3 p (by omega)⟩
    · rw [if_neg hm]
      have hp := visit_post hn hask n k _ h1 (by omega) hm (fun g hg => by rw [h2] at hg; cases hg) (by unfold cntU; exact Nat.le_trans (List.length_filter_le _ _) (by simp))
      refine ⟨hp.inv, ?_, fun p hp' => ?_⟩
      · rcases hp.stk with e | ⟨t, pre, rest, m1, m2, _⟩
        · rw [e, h2]
        · rw [h2] at m1
          exact absurd (List.append_eq_nil_iff.1 m1.symm).1 m2
      · by_cases e : p = k
        · subst e; exact hp.me
        · exact hp.met p (h3 p (by omega))

/-- What the walk over all predicates finds. -/
theorem walk_all {ask : Nat → Nat} {n : Nat} (hn : n ≤ 24) (hask : ∀ u x, has (ask u) x → x < n) : Inv ask n (walkF ask n n) ∧ (∀ p, p < n → has (walkF ask n n).done p) ∧ (walkF ask n n).stk = [] := by
  obtain ⟨h1, h2, h3⟩ := walk_inv hn hask n (Nat.le_refl _)
  refine ⟨h1, fun p hp => ?_, h2⟩
  rcases (h1.sub p).1 (h3 p hp) with h | ⟨g, hg, _⟩
  · exact h
  · rw [h2] at hg; cases hg

end Go.Proofs.YtcoelmhlkfignaaDoor
/-
  The walk of l1In.
-/
namespace Go.Proofs.YtcoelmhlkfignaaDoor
open Go.RowKit

theorem l1In_any (n lo hi : Int) (w : World) : Calls Tryd.prog 61 #[.int .i64 n, .int .i64 lo, .int .i64 hi] w fun e w' => e = .returned (.bool (decide (lo ≤ n ∧ n ≤ hi))) ∧ w = w' := by
  by_cases h1 : lo ≤ n
  · by_cases h2 : n ≤ hi
    all_goals
      go_enter Tryd.func61, Tryd.ntmps61
      go_wp2
      go_ret
      exact ⟨ret_bool (by simp [*]), rfl⟩
  · have hd : decide (lo ≤ n) = false := by simpa using h1
    go_enter Tryd.func61, Tryd.ntmps61
    go_wp2
    go_ret
    exact ⟨ret_bool (by simp [*]), rfl⟩

theorem l1In_yes {n lo hi : Int} (h : lo ≤ n ∧ n ≤ hi) (w : World) : Calls Tryd.prog 61 #[.int .i64 n, .int .i64 lo, .int .i64 hi] w fun e w' => e = .returned (.bool true) ∧ w = w' :=
  (l1In_any n lo hi w).mono fun _ _ ⟨he, hw⟩ => ⟨by rw [he, decide_eq_true h], hw⟩
theorem l1In_no {n lo hi : Int} (h : ¬ (lo ≤ n ∧ n ≤ hi)) (w : World) : Calls Tryd.prog 61 #[.int .i64 n, .int .i64 lo, .int .i64 hi] w fun e w' => e = .returned (.bool false) ∧ w = w' :=
  (l1In_any n lo hi w).mono fun _ _ ⟨he, hw⟩ => ⟨by rw [he, decide_eq_false h], hw⟩

end Go.Proofs.YtcoelmhlkfignaaDoor
/-
  The walks of isTerm, areTerms, l2Terms.
-/
namespace Go.Proofs.YtcoelmhlkfignaaDoor
open Go.RowKit

theorem isTerm_any (n : Int) (w : World) : Calls Tryd.prog 86 #[.int .i64 n] w fun e w' => e = .returned (.bool (termOk n)) ∧ w = w' := by
  by_cases h1 : isVarB n = true
  · have HE := Lib.hid (show termOk n = true by simp [isVarB] at h1; simp [termOk]; omega)
    go_enter Tryd.func86, Tryd.ntmps86
    go_wp2_with (go_at_call 89; refine (isVar_is h1 _).mono ?_; rintro e w' ⟨rfl, rfl⟩)
    go_ret
    exact ⟨ret_bool HE.out.symm, rfl⟩
  · have h2 : isVarB n = false := by simpa using h1
    by_cases h3 : 0 ≤ n
    · have hd : decide (0 ≤ n) = true := by simpa using h3
      by_cases h4 : n ≤ 5
      · have HE := Lib.hid (show termOk n = true by simp [termOk]; omega)
        go_enter Tryd.func86, Tryd.ntmps86
        go_wp2_with (go_at_call 89; refine (isVar_is h2 _).mono ?_; rintro e w' ⟨rfl, rfl⟩)
        go_ret
        exact ⟨ret_bool HE.out.symm, rfl⟩
      · have HE := Lib.hid (show termOk n = false by simp [termOk]; omega)
        go_enter Tryd.func86, Tryd.ntmps86
        go_wp2_with (go_at_call 89; refine (isVar_is h2 _).mono ?_; rintro e w' ⟨rfl, rfl⟩)
        go_ret
        exact ⟨ret_bool (by rw [HE.out]; simp; omega), rfl⟩
    · have hd : decide (0 ≤ n) = false := by simpa using h3
      have HE := Lib.hid (show termOk n = false by simp [isVarB] at h2; simp [termOk]; omega)
      go_enter Tryd.func86, Tryd.ntmps86
      go_wp2_with (go_at_call 89; refine (isVar_is h2 _).mono ?_; rintro e w' ⟨rfl, rfl⟩)
      go_ret
      exact ⟨ret_bool HE.out.symm, rfl⟩

theorem isTerm_is {n : Int} {b : Bool} (h : termOk n = b) (w : World) : Calls Tryd.prog 86 #[.int .i64 n] w fun e w' => e = .returned (.bool b) ∧ w = w' := h ▸ isTerm_any n w

set_option maxHeartbeats 400000 in
theorem areTerms_any (v : Value) (xs : List Int) (B : Nat) (w : World) (h : RdInts w B v xs) (hr : xs.length ≤ 1048576) :
    Calls Tryd.prog 83 #[v] w fun e w' => e = .returned (.bool (xs.all termOk)) ∧ w = w' := by
  obtain ⟨A, c, rfl, hc, ha⟩ := h
  go_enter Tryd.func83, Tryd.ntmps83
  go_wp2_with (fail)
  go_loop [4, 7] (fun _ i => ∃ k : Nat, k ≤ xs.length ∧ i = .int .i64 k ∧ AllTo termOk xs k) (fun _ i => xs.length - (intOf i).toNat)
  case atStart => exact ⟨0, Nat.zero_le _, rfl, AllTo.start⟩
  case round =>
    obtain ⟨k, hk, rfl, hs⟩ := hrel
    by_cases hlt : k < xs.length
    · obtain ⟨b, o, rfl, hbB, hx⟩ := ha (by omega)
      have hck : w.cell? ⟨b, o + k, none⟩ = some (.int .i64 xs[k]) := hx k hlt
      clear hx ha
      by_cases he : termOk xs[k] = true
      · have HS := Lib.hid (hs.step hlt he)
        clear hs
        go_wp2_with (go_at_call 86; refine (isTerm_is he _).mono ?_; rintro e w' ⟨rfl, rfl⟩)
        go_round
        case rel => exact ⟨k + 1, by omega, by go_num, HS.out⟩
        case measure => simp [intOf]; omega
      · have he' : termOk xs[k] = false := by simpa using he
        have HE := Lib.hid (all_not hlt he')
        clear hs he
        go_wp2_with (go_at_call 86; refine (isTerm_is he' _).mono ?_; rintro e w' ⟨rfl, rfl⟩)
        go_ret
        exact ⟨ret_bool HE.out.symm, rfl⟩
    · have HE := Lib.hid (hs.done (by omega))
      clear hs ha
      go_wp2_with (fail)
      go_ret
      exact ⟨ret_bool HE.out.symm, rfl⟩

set_option maxHeartbeats 400000 in
theorem l2Terms_any (v : Value) (xs : List Int) (B : Nat) (w : World) (h : RdInts w B v xs) (hr : xs.length ≤ 1048576) :
    Calls Tryd.prog 75 #[v] w fun e w' => e = .returned (.bool (xs.all termOk)) ∧ w = w' := by
  obtain ⟨A, c, rfl, hc, ha⟩ := h
  go_enter Tryd.func75, Tryd.ntmps75
  go_wp2_with (fail)
  go_loop [3] (fun i => ∃ k : Nat, k ≤ xs.length ∧ i = .int .i64 k ∧ AllTo termOk xs k) (fun i => xs.length - (intOf i).toNat)
  case atStart => exact ⟨0, Nat.zero_le _, rfl, AllTo.start⟩
  case round =>
    obtain ⟨k, hk, rfl, hs⟩ := hrel
    by_cases hlt : k < xs.length
    · obtain ⟨b, o, rfl, hbB, hx⟩ := ha (by omega)
      have hck : w.cell? ⟨b, o + k, none⟩ = some (.int .i64 xs[k]) := hx k hlt
      clear hx ha
      by_cases he : -4 ≤ xs[k] ∧ xs[k] ≤ 5
      · have HS := Lib.hid (hs.step hlt (by simpa [termOk] using he))
        have HK := Lib.hid (l1In_yes he)
        clear hs he
        go_wp2_with (go_at_call 61; refine (HK.out _).mono ?_; rintro e w' ⟨rfl, rfl⟩)
        go_round
        case rel => exact ⟨k + 1, by omega, by go_num, HS.out⟩
        case measure => simp [intOf]; omega
      · have HE := Lib.hid (all_not hlt (show termOk xs[k] = false by simpa [termOk] using he))
        have HK := Lib.hid (l1In_no he)
        clear hs he
        go_wp2_with (go_at_call 61; refine (HK.out _).mono ?_; rintro e w' ⟨rfl, rfl⟩)
        go_ret
        exact ⟨ret_bool HE.out.symm, rfl⟩
    · have HE := Lib.hid (hs.done (by omega))
      clear hs ha
      go_wp2_with (fail)
      go_ret
      exact ⟨ret_bool HE.out.symm, rfl⟩

end Go.Proofs.YtcoelmhlkfignaaDoor
/-
  The walks of ArityOk: the program's and the specification's.
-/
namespace Go.Proofs.YtcoelmhlkfignaaDoor
open Go.RowKit

def placeOk (x : Int) : Bool := decide (0 ≤ x ∧ x ≤ 2)
def arityOk (xs : List Int) : Bool := decide (xs.length ≤ 24) && xs.all placeOk
/-- 'the first k are places', kept from the walk. -/
def PlacesTo (xs : List Int) (k : Nat) : Prop := ∀ j, j < k → placeOk (xs.getD j 0) = true
theorem PlacesTo.step {xs : List Int} {k : Nat} (h : PlacesTo xs k) (e : placeOk (xs.getD k 0) = true) : PlacesTo xs (k + 1) := fun j hj => by
  by_cases h2 : j = k
  · subst h2; exact e
  · exact h j (by omega)
theorem PlacesTo.all {xs : List Int} (h : PlacesTo xs xs.length) : xs.all placeOk = true := by
  rw [List.all_eq_true]
  intro x hx
  obtain ⟨j, hj, rfl⟩ := List.getElem_of_mem hx
  have := h j hj
  simpa [hj] using this
theorem places_not {xs : List Int} {k : Nat} (hk : k < xs.length) (e : placeOk xs[k] = false) : xs.all placeOk = false := by
  rw [List.all_eq_false]
  exact ⟨xs[k], List.getElem_mem hk, by simp [e]⟩

set_option maxHeartbeats 400000 in
theorem specArityOk_any (v : Value) (xs : List Int) (w : World) (h : RdInts w w.heap.size v xs) (hr : xs.length * 8 ≤ 140737488351232) :
    Calls Tryd.prog 44 #[v] w fun e w' => e = .returned (.bool (arityOk xs)) ∧ w = w' := by
  obtain ⟨A, c, rfl, hc, ha⟩ := h
  go_enter Tryd.func44, Tryd.ntmps44
  go_wp2_with (fail)
  go_loop [3] (fun i => ∃ k : Nat, k ≤ xs.length ∧ i = .int .i64 k ∧ PlacesTo xs k) (fun i => xs.length - (intOf i).toNat)
  case atStart => exact ⟨0, Nat.zero_le _, rfl, fun j hj => absurd hj (by omega)⟩
  case round =>
    obtain ⟨k, hk, rfl, hs⟩ := hrel
    by_cases hlt : k < xs.length
    · obtain ⟨b, o, rfl, hbB, hx⟩ := ha (by omega)
      have hck : w.cell? ⟨b, o + k, none⟩ = some (.int .i64 xs[k]) := hx k hlt
      clear hx ha
      by_cases he : 0 ≤ xs[k] ∧ xs[k] ≤ 2
      · have HS := Lib.hid (hs.step (by simpa [hlt, placeOk] using he))
        clear hs
        go_wp2_with (go_at_call 61; refine (l1In_any _ _ _ _).mono ?_; rintro e w' ⟨rfl, rfl⟩)
        go_round
        case rel => exact ⟨k + 1, by omega, by go_num, HS.out⟩
        case measure => simp [intOf]; omega
      · have hd : decide (0 ≤ xs[k] ∧ xs[k] ≤ 2) = false := by simpa using he
        have HE := Lib.hid (places_not hlt (by simpa [placeOk] using he))
        clear hs he
        go_wp2_with (go_at_call 61; refine (l1In_any _ _ _ _).mono ?_; rintro e w' ⟨rfl, rfl⟩)
        go_ret
        exact ⟨ret_bool (by simp [arityOk, HE.out]), rfl⟩
    · have hkn : k = xs.length := by omega
      have HE := Lib.hid (show xs.all placeOk = true from PlacesTo.all (by rw [← hkn]; exact hs))
      clear hkn hs ha
      go_wp2_with (fail)
      go_ret
      exact ⟨ret_bool (by unfold arityOk; rw [HE.out]; simp; try omega), rfl⟩

set_option maxHeartbeats 400000 in
theorem arityOk_any (v : Value) (xs : List Int) (w : World) (h : RdInts w w.heap.size v xs) (hr : xs.length * 8 ≤ 140737488351232) :
    Calls Tryd.prog 64 #[v] w fun e w' => e = .returned (.bool (arityOk xs)) ∧ Below w.heap.size w w' := by
  obtain ⟨A, c, rfl, hc, ha⟩ := h
  by_cases hl : xs.length ≤ 24
  · go_enter Tryd.func64, Tryd.ntmps64
    go_wp2
    go_loopw [4, 10] (fun _ i wr => ∃ k : Nat, k ≤ xs.length ∧ i = .int .i64 k ∧ PlacesTo xs k ∧ Below w.heap.size w wr) (fun _ i _ => xs.length - (intOf i).toNat)
    case atStart => exact ⟨0, Nat.zero_le _, rfl, fun j hj => absurd hj (by omega), Below.refl _ _⟩
    case round =>
      obtain ⟨k, hk, rfl, hs, hbe⟩ := hrel
      by_cases hlt : k < xs.length
      · obtain ⟨b, o, rfl, hbB, hx⟩ := ha (by omega)
        have hck : wr.cell? ⟨b, o + k, none⟩ = some (.int .i64 xs[k]) := (hbe.cell (p := ⟨b, o + k, none⟩) hbB).trans (hx k hlt)
        clear hx ha
        by_cases h0 : xs[k] < 0
        · have HE := Lib.hid (places_not hlt (by simp [placeOk]; omega))
          clear hs
          go_wp2
          go_ret
          exact ⟨ret_bool (by simp [arityOk, HE.out]), hbe⟩
        · have hd : decide (xs[k] < 0) = false := by simpa using h0
          by_cases h2 : 2 < xs[k]
          · have HE := Lib.hid (places_not hlt (by simp [placeOk]; omega))
            clear hs
            go_wp2
            go_ret
            exact ⟨ret_bool (by simp [arityOk, HE.out]), hbe⟩
          · have HS := Lib.hid (hs.step (by simp [hlt, placeOk]; omega))
            clear hs
            go_wp2
            go_roundw
            case rel => exact ⟨k + 1, by omega, by go_num, HS.out, hbe⟩
            case measure => simp [intOf]; omega
      · have hkn : k = xs.length := by omega
        have HE := Lib.hid (show xs.all placeOk = true from PlacesTo.all (by rw [← hkn]; exact hs))
        have HL := Lib.hid hl
        clear hkn hs ha
        go_wp2
        go_ret
        exact ⟨ret_bool (by unfold arityOk; rw [HE.out]; simp [HL.out]), hbe⟩
  · have HL := Lib.hid hl
    have hg : (24 : Int) < xs.length := by omega
    clear ha
    go_enter Tryd.func64, Tryd.ntmps64
    go_wp2
    go_ret
    exact ⟨ret_bool (by simp [arityOk, HL.out]), Below.refl _ _⟩

end Go.Proofs.YtcoelmhlkfignaaDoor
/-
  The walks of isTerm, areTerms, l2Terms, atomFits, and of both AtomOk.
-/
namespace Go.Proofs.YtcoelmhlkfignaaDoor
open Go.RowKit

def atomFits (ar : List Int) (f : LFact) : Bool := decide (0 ≤ f.1 ∧ f.1 < ar.length ∧ (f.2.length : Int) = ar.getD f.1.toNat 0) && f.2.all termOk
def atomOk (ar : List Int) (f : LFact) : Bool := arityOk ar && atomFits ar f

set_option maxHeartbeats 1000000 in
set_option maxRecDepth 100000 in
theorem atomFits_any (v v2 : Value) (ar : List Int) (f : LFact) (w : World) (h : RdInts w w.heap.size v ar) (h2 : RdFact w w.heap.size v2 f) (hn : f.2.length ≤ 1048576) :
    Calls Tryd.prog 79 #[v, v2] w fun e w' => e = .returned (.bool (atomFits ar f)) ∧ Below w.heap.size w w' := by
  obtain ⟨pp, xs⟩ := f
  obtain ⟨A, c, rfl, hc, h⟩ := h
  obtain ⟨a, rfl, h2⟩ := h2
  have HT := Lib.hid (fun n (O : Obj) => quiet_left (areTerms_any a xs w.heap.size ((w.alloc O).drewN n) ((h2.below (below1 w O) (Nat.le_refl _)).below (bdrewN (Below.refl _ _) _) (Nat.le_refl _)) hn))
  obtain ⟨A2, c2, rfl, hc2, h2⟩ := h2
  by_cases h0 : pp < 0
  · have hd : decide (0 ≤ pp) = false := by simpa using h0
    have HE := Lib.hid (show atomFits ar (pp, xs) = false by simp [atomFits]; omega)
    go_enter Tryd.func79, Tryd.ntmps79
    go_wp2_with (fail)
    go_quiet (fail)
    go_wp2_with (fail)
    go_ret
    exact ⟨ret_bool HE.out.symm, bdrewN (below1 _ _) _⟩
  · have hd : decide (0 ≤ pp) = true := by simpa using h0
    obtain ⟨p, rfl⟩ := Int.eq_ofNat_of_zero_le (Int.not_lt.1 h0)
    by_cases h1 : (ar.length : Int) ≤ p
    · have hd1 : decide (p < ar.length) = false := by simp; omega
      have HE := Lib.hid (show atomFits ar ((p : Int), xs) = false by simp [atomFits]; omega)
      go_enter Tryd.func79, Tryd.ntmps79
      go_wp2_with (fail)
      go_quiet (fail)
      go_wp2_with (fail)
      go_ret
      exact ⟨ret_bool HE.out.symm, bdrewN (below1 _ _) _⟩
    · have hlt : p < ar.length := by omega
      have hltI : (p : Int) < (ar.length : Int) := by omega
      have hd1 : decide ((p : Int) < (ar.length : Int)) = true := by simpa using hltI
      obtain ⟨b, o, rfl, hbB, hx⟩ := h (by omega)
      have hck : ∀ O, (w.alloc O).cell? ⟨b, o + p, none⟩ = some (.int .i64 ar[p]) := fun O => (World.cell?_alloc_lt w O ⟨b, o + p, none⟩ hbB).trans (hx p hlt)
      by_cases h3 : (xs.length : Int) = ar[p]
      · have hd3 : ((xs.length : Int) == ar[p]) = true := by simp [h3]
        have H3 := Lib.hid (show atomFits ar ((p : Int), xs) = xs.all termOk by simp [atomFits, hlt, h3])
        clear h3 hx h
        go_enter Tryd.func79, Tryd.ntmps79
        go_wp2_with (fail)
        go_quiet ((go_at_call 83; exact HT.out _ _))
        go_wp2_with (fail)
        go_ret
        exact ⟨ret_bool H3.out.symm, bdrewN (below1 _ _) _⟩
      · have hd3 : ((xs.length : Int) == ar[p]) = false := by simp [h3]
        have HE := Lib.hid (show atomFits ar ((p : Int), xs) = false by simp [atomFits, hlt, h3])
        clear h3 hx h
        go_enter Tryd.func79, Tryd.ntmps79
        go_wp2_with (fail)
        go_quiet (fail)
        go_wp2_with (fail)
        go_ret
        exact ⟨ret_bool HE.out.symm, bdrewN (below1 _ _) _⟩

set_option maxHeartbeats 1000000 in
set_option maxRecDepth 100000 in
theorem specAtomOk_any (v v2 : Value) (ar : List Int) (f : LFact) (w : World) (h : RdInts w w.heap.size v ar) (h2 : RdFact w w.heap.size v2 f) (hr : ar.length ≤ 1048576) (hn : f.2.length ≤ 1048576) :
    Calls Tryd.prog 59 #[v, v2] w fun e w' => e = .returned (.bool (atomOk ar f)) ∧ Below w.heap.size w w' := by
  have H := Lib.hid h
  obtain ⟨pp, xs⟩ := f
  obtain ⟨A, c, rfl, hc, h⟩ := h
  obtain ⟨a, rfl, h2⟩ := h2
  have HT := Lib.hid (fun n (O : Obj) => quiet_left (l2Terms_any a xs w.heap.size ((w.alloc O).drewN n) ((h2.below (below1 w O) (Nat.le_refl _)).below (bdrewN (Below.refl _ _) _) (Nat.le_refl _)) hn))
  obtain ⟨A2, c2, rfl, hc2, h2⟩ := h2
  by_cases ha : arityOk ar = true
  · have CA : ∀ W, Below w.heap.size w W → Calls Tryd.prog 44 #[.slice A ar.length c] W fun e w' => e = .returned (.bool true) ∧ w' = W := fun W hW =>
      (specArityOk_any _ ar W (H.out.on hW) (by omega)).mono fun e w' ⟨he, hw⟩ => ⟨by rw [he, ha], hw.symm⟩
    have HCA := Lib.hid CA
    have HA := Lib.hid ha
    clear CA ha
    by_cases hp : 0 ≤ pp ∧ pp ≤ (ar.length : Int) - 1
    · have HCL := Lib.hid (l1In_yes hp)
      obtain ⟨p, rfl⟩ := Int.eq_ofNat_of_zero_le hp.1
      have hlt : p < ar.length := by omega
      have hltI : (p : Int) < (ar.length : Int) := by omega
      obtain ⟨b, o, rfl, hbB, hx⟩ := h (by omega)
      have hck : ∀ O, (w.alloc O).cell? ⟨b, o + p, none⟩ = some (.int .i64 ar[p]) := fun O => (World.cell?_alloc_lt w O ⟨b, o + p, none⟩ hbB).trans (hx p hlt)
      clear hp
      by_cases h3 : (xs.length : Int) = ar[p]
      · have hd3 : ((xs.length : Int) == ar[p]) = true := by simp [h3]
        have H3 := Lib.hid (show atomOk ar ((p : Int), xs) = xs.all termOk by simp [atomOk, HA.out, atomFits, hlt, h3])
        clear h3 hx h
        go_enter Tryd.func59, Tryd.ntmps59
        go_wp2_with (fail)
        go_quiet (first | (go_at_call 44; exact Calls.quiet_of_same (HCA.out _ (bdrewN (below1 _ _) _))) | (go_at_call 61; exact quiet_left (HCL.out _)) | (go_at_call 75; exact HT.out _ _))
        go_wp2_with (fail)
        go_ret
        exact ⟨ret_bool H3.out.symm, bdrewN (below1 _ _) _⟩
      · have hd3 : ((xs.length : Int) == ar[p]) = false := by simp [h3]
        have HE := Lib.hid (show atomOk ar ((p : Int), xs) = false by simp [atomOk, atomFits, hlt, h3])
        clear h3 hx h
        go_enter Tryd.func59, Tryd.ntmps59
        go_wp2_with (fail)
        go_quiet (first | (go_at_call 44; exact Calls.quiet_of_same (HCA.out _ (bdrewN (below1 _ _) _))) | (go_at_call 61; exact quiet_left (HCL.out _)))
        go_wp2_with (fail)
        go_ret
        exact ⟨ret_bool HE.out.symm, bdrewN (below1 _ _) _⟩
    · have HCL := Lib.hid (l1In_no hp)
      have HE := Lib.hid (show atomOk ar (pp, xs) = false by simp [atomOk, atomFits]; omega)
      clear hp
      go_enter Tryd.func59, Tryd.ntmps59
      go_wp2_with (fail)
      go_quiet (first | (go_at_call 44; exact Calls.quiet_of_same (HCA.out _ (bdrewN (below1 _ _) _))) | (go_at_call 61; exact quiet_left (HCL.out _)))
      go_wp2_with (fail)
      go_ret
      exact ⟨ret_bool HE.out.symm, bdrewN (below1 _ _) _⟩
  · have CA : ∀ W, Below w.heap.size w W → Calls Tryd.prog 44 #[.slice A ar.length c] W fun e w' => e = .returned (.bool false) ∧ w' = W := fun W hW =>
      (specArityOk_any _ ar W (H.out.on hW) (by omega)).mono fun e w' ⟨he, hw⟩ => ⟨by rw [he, show arityOk ar = false by simpa using ha], hw.symm⟩
    have HCA := Lib.hid CA
    have HE := Lib.hid (show atomOk ar (pp, xs) = false by simp [atomOk, ha])
    clear CA ha
    go_enter Tryd.func59, Tryd.ntmps59
    go_wp2_with (fail)
    go_quiet (first | (go_at_call 44; exact Calls.quiet_of_same (HCA.out _ (bdrewN (below1 _ _) _))))
    go_wp2_with (fail)
    go_ret
    exact ⟨ret_bool HE.out.symm, bdrewN (below1 _ _) _⟩

end Go.Proofs.YtcoelmhlkfignaaDoor
/-
  The walks of litFits and of both LitOk.
-/
namespace Go.Proofs.YtcoelmhlkfignaaDoor
open Go.RowKit

def litFits (ar : List Int) (l : LLit) : Bool :=
  if l.1 = 0 ∨ l.1 = 1 then atomFits ar l.2 else if l.1 = 2 ∨ l.1 = 3 then (decide (l.2.1 = 0) && decide (l.2.2.length = 2) && l.2.2.all termOk) else false
def litOk (ar : List Int) (l : LLit) : Bool := arityOk ar && litFits ar l

set_option maxHeartbeats 1000000 in
set_option maxRecDepth 100000 in
theorem litFits_any (v v2 : Value) (ar : List Int) (l : LLit) (w : World) (h : RdInts w w.heap.size v ar) (h2 : RdLit w w.heap.size v2 l) (hn : l.2.2.length ≤ 1048576) :
    Calls Tryd.prog 80 #[v, v2] w fun e w' => e = .returned (.bool (litFits ar l)) ∧ Below w.heap.size w w' := by
  have H := Lib.hid h
  obtain ⟨kd, pp, xs⟩ := l
  obtain ⟨A, c, rfl, hc, _⟩ := h
  obtain ⟨a, rfl, h2⟩ := h2
  have H2 := Lib.hid (h2.on (below1 w (.cells #[.int .i64 kd, .int .i64 pp, a] 94)))
  obtain ⟨A2, c2, rfl, hc2, _⟩ := h2
  by_cases ka : kd = 0 ∨ kd = 1
  · have HE := Lib.hid (show litFits ar (kd, pp, xs) = atomFits ar (pp, xs) by simp [litFits, ka])
    rcases ka with rfl | rfl
    all_goals
      go_enter Tryd.func80, Tryd.ntmps80
      go_wp2_with (go_at_call 79; refine (atomFits_any _ _ ar (pp, xs) _ (H.out.on (below1 _ _)) ⟨_, rfl, H2.out⟩ hn).mono ?_; rintro e w5 ⟨rfl, hb5⟩)
      go_ret
      exact ⟨ret_bool HE.out.symm, bthen (below1 _ _) hb5⟩
  · have k0 : (kd == 0) = false := by simp; omega
    have k1 : (kd == 1) = false := by simp; omega
    by_cases kb : kd = 2 ∨ kd = 3
    · have HE := Lib.hid (show litFits ar (kd, pp, xs) = (decide (pp = 0) && decide (xs.length = 2) && xs.all termOk) by simp [litFits, ka, kb])
      clear ka k0 k1
      have CT := Lib.hid (areTerms_any _ xs _ _ H2.out hn)
      by_cases hp : pp = 0
      · subst hp
        by_cases hx : xs.length = 2
        · have hx2 : ((xs.length : Int) == 2) = true := by simp; omega
          have HE2 := Lib.hid (show litFits ar (kd, 0, xs) = xs.all termOk by rw [HE.out]; simp [hx])
          clear hx
          rcases kb with rfl | rfl
          all_goals
            go_enter Tryd.func80, Tryd.ntmps80
            go_wp2_with (go_at_call 83; refine CT.out.mono ?_; rintro e w5 ⟨rfl, rfl⟩)
            go_ret
            exact ⟨ret_bool HE2.out.symm, below1 _ _⟩
        · have hx2 : ((xs.length : Int) == 2) = false := by simp; omega
          have HE2 := Lib.hid (show litFits ar (kd, 0, xs) = false by rw [HE.out]; simp [hx])
          clear hx
          rcases kb with rfl | rfl
          all_goals
            go_enter Tryd.func80, Tryd.ntmps80
            go_wp2_with (fail)
            go_ret
            exact ⟨ret_bool HE2.out.symm, below1 _ _⟩
      · have hp2 : (pp == 0) = false := by simpa using hp
        have HE2 := Lib.hid (show litFits ar (kd, pp, xs) = false by rw [HE.out]; simp [hp])
        clear hp
        rcases kb with rfl | rfl
        all_goals
          go_enter Tryd.func80, Tryd.ntmps80
          go_wp2_with (fail)
          go_ret
          exact ⟨ret_bool HE2.out.symm, below1 _ _⟩
    · have k2 : (kd == 2) = false := by simp; omega
      have k3 : (kd == 3) = false := by simp; omega
      have HE := Lib.hid (show litFits ar (kd, pp, xs) = false by simp [litFits, ka, kb])
      clear ka kb
      go_enter Tryd.func80, Tryd.ntmps80
      go_wp2_with (fail)
      go_ret
      exact ⟨ret_bool HE.out.symm, below1 _ _⟩

set_option maxHeartbeats 1000000 in
set_option maxRecDepth 100000 in
theorem specLitOk_any (v v2 : Value) (ar : List Int) (l : LLit) (w : World) (h : RdInts w w.heap.size v ar) (h2 : RdLit w w.heap.size v2 l) (hr : ar.length ≤ 1048576) (hn : l.2.2.length ≤ 1048576) :
    Calls Tryd.prog 58 #[v, v2] w fun e w' => e = .returned (.bool (litOk ar l)) ∧ Below w.heap.size w w' := by
  have H := Lib.hid h
  obtain ⟨kd, pp, xs⟩ := l
  obtain ⟨A, c, rfl, hc, _⟩ := h
  obtain ⟨a, rfl, h2⟩ := h2
  have H2 := Lib.hid (h2.on (below1 w (.cells #[.int .i64 kd, .int .i64 pp, a] 94)))
  obtain ⟨A2, c2, rfl, hc2, _⟩ := h2
  by_cases ka : kd = 0 ∨ kd = 1
  · have HE := Lib.hid (show litOk ar (kd, pp, xs) = atomOk ar (pp, xs) by simp [litOk, atomOk, litFits, ka])
    rcases ka with rfl | rfl
    all_goals
      go_enter Tryd.func58, Tryd.ntmps58
      go_wp2_with (go_at_call 59; refine (specAtomOk_any _ _ ar (pp, xs) _ (H.out.on (below1 _ _)) ⟨_, rfl, H2.out⟩ hr hn).mono ?_; rintro e w5 ⟨rfl, hb5⟩)
      go_ret
      exact ⟨ret_bool HE.out.symm, bthen (below1 _ _) hb5⟩
  · have k0 : (kd == 0) = false := by simp; omega
    have k1 : (kd == 1) = false := by simp; omega
    by_cases ha : arityOk ar = true
    · have CA := Lib.hid ((specArityOk_any _ ar _ (H.out.on (below1 w (.cells #[.int .i64 kd, .int .i64 pp, .slice A2 xs.length c2] 94))) (by omega)).mono fun e w' (hh : e = .returned (.bool (arityOk ar)) ∧ _ = w') => (⟨by rw [hh.1, ha], hh.2⟩ : e = .returned (.bool true) ∧ _ = w'))
      have HA := Lib.hid ha
      clear ha
      by_cases kb : kd = 2 ∨ kd = 3
      · have HE := Lib.hid (show litOk ar (kd, pp, xs) = (decide (pp = 0) && decide (xs.length = 2) && xs.all termOk) by simp [litOk, HA.out, litFits, ka, kb])
        clear ka k0 k1
        have CT := Lib.hid (l2Terms_any _ xs _ _ H2.out hn)
        by_cases hp : pp = 0
        · subst hp
          by_cases hx : xs.length = 2
          · have hx2 : ((xs.length : Int) == 2) = true := by simp; omega
            have HE2 := Lib.hid (show litOk ar (kd, 0, xs) = xs.all termOk by rw [HE.out]; simp [hx])
            clear hx
            rcases kb with rfl | rfl
            all_goals
              go_enter Tryd.func58, Tryd.ntmps58
              go_wp2_with (first | (go_at_call 44; refine CA.out.mono ?_; rintro e w5 ⟨rfl, rfl⟩) | (go_at_call 75; refine CT.out.mono ?_; rintro e w5 ⟨rfl, rfl⟩))
              go_ret
              exact ⟨ret_bool HE2.out.symm, below1 _ _⟩
          · have hx2 : ((xs.length : Int) == 2) = false := by simp; omega
            have HE2 := Lib.hid (show litOk ar (kd, 0, xs) = false by rw [HE.out]; simp [hx])
            clear hx
            rcases kb with rfl | rfl
            all_goals
              go_enter Tryd.func58, Tryd.ntmps58
              go_wp2_with (go_at_call 44; refine CA.out.mono ?_; rintro e w5 ⟨rfl, rfl⟩)
              go_ret
              exact ⟨ret_bool HE2.out.symm, below1 _ _⟩
        · have hp2 : (pp == 0) = false := by simpa using hp
          have HE2 := Lib.hid (show litOk ar (kd, pp, xs) = false by rw [HE.out]; simp [hp])
          clear hp
          rcases kb with rfl | rfl
          all_goals
            go_enter Tryd.func58, Tryd.ntmps58
            go_wp2_with (go_at_call 44; refine CA.out.mono ?_; rintro e w5 ⟨rfl, rfl⟩)
            go_ret
            exact ⟨ret_bool HE2.out.symm, below1 _ _⟩
      · have k2 : (kd == 2) = false := by simp; omega
        have k3 : (kd == 3) = false := by simp; omega
        have HE := Lib.hid (show litOk ar (kd, pp, xs) = false by simp [litOk, litFits, ka, kb])
        clear ka kb
        go_enter Tryd.func58, Tryd.ntmps58
        go_wp2_with (go_at_call 44; refine CA.out.mono ?_; rintro e w5 ⟨rfl, rfl⟩)
        go_ret
        exact ⟨ret_bool HE.out.symm, below1 _ _⟩
    · have CA := Lib.hid ((specArityOk_any _ ar _ (H.out.on (below1 w (.cells #[.int .i64 kd, .int .i64 pp, .slice A2 xs.length c2] 94))) (by omega)).mono fun e w' (hh : e = .returned (.bool (arityOk ar)) ∧ _ = w') => (⟨by rw [hh.1, show arityOk ar = false by simpa using ha], hh.2⟩ : e = .returned (.bool false) ∧ _ = w'))
      have HE := Lib.hid (show litOk ar (kd, pp, xs) = false by simp [litOk, ha])
      clear ha ka
      go_enter Tryd.func58, Tryd.ntmps58
      go_wp2_with (go_at_call 44; refine CA.out.mono ?_; rintro e w5 ⟨rfl, rfl⟩)
      go_ret
      exact ⟨ret_bool HE.out.symm, below1 _ _⟩

end Go.Proofs.YtcoelmhlkfignaaDoor
/-
  The walks of yesVars and of the program's RuleSafe.
-/
namespace Go.Proofs.YtcoelmhlkfignaaDoor
open Go.RowKit

set_option maxHeartbeats 400000 in
theorem yesVars_any (v : Value) (ls : List LLit) (w : World) (h : RdLits w w.heap.size v ls) (hr : ls.length ≤ 1048576) (ht : totL ls ≤ 1048576) :
    Calls Tryd.prog 85 #[v] w fun e w' => e = .returned (.int .u64 (yesMask ls : Nat)) ∧ Below w.heap.size w w' := by
  have H := Lib.hid h
  obtain ⟨A, c, rfl, hc, _⟩ := h
  go_enter Tryd.func85, Tryd.ntmps85
  go_wp2_with (fail)
  go_loopw [3, 5, 8] (fun m _ i wr => ∃ (k : Nat) (z : Int), k ≤ ls.length ∧ i = .int .i64 k ∧ m = .int .u64 z ∧ z = (yesMask (ls.take k) : Nat) ∧ Below w.heap.size w wr) (fun _ _ i _ => ls.length - (intOf i).toNat)
  case atStart => exact ⟨0, 0, Nat.zero_le _, rfl, rfl, rfl, Below.refl _ _⟩
  case round =>
    obtain ⟨k, z, hk, rfl, rfl, hz, hbe⟩ := hrel
    by_cases hlt : k < ls.length
    · obtain ⟨b, o, u0, u1, u2, rfl, hbB, k0, k1, k2, rfl, rfl, p3⟩ := (H.out.on hbe).get hlt
      have HA := Lib.hid p3
      obtain ⟨A3, c3, rfl, hc3, _⟩ := p3
      have hle := len_le_totL ls k hlt
      have hml := yesMask_lt k ls hk
      by_cases h0 : ls[k].1 = 0
      · have hd : (ls[k].1 == 0) = true := by simpa using h0
        have HZ := Lib.hid (show bits .or .u64 z ((maskOf ls[k].2.2 : Nat) : Int) = (yesMask (ls.take (k + 1)) : Nat) by rw [hz, or_word hml (maskOf_lt _), yesMask_take hlt, if_pos h0])
        clear hz hml h0
        go_wp2_with (go_at_call 87; refine (argVars_any _ ls[k].2.2 _ _ (HA.out.on (below1 _ _)) (by omega)).mono ?_; rintro e w' ⟨rfl, rfl⟩)
        go_roundw
        case rel => exact ⟨k + 1, _, by omega, by go_num, rfl, HZ.out, bthen hbe (below1 _ _)⟩
        case measure => simp [intOf]; omega
      · have hd : (ls[k].1 == 0) = false := by simpa using h0
        have HZ := Lib.hid (show z = (yesMask (ls.take (k + 1)) : Nat) by rw [hz, yesMask_take hlt, if_neg h0])
        clear hz hml h0
        go_wp2_with (fail)
        go_roundw
        case rel => exact ⟨k + 1, _, by omega, by go_num, rfl, HZ.out, bthen hbe (below1 _ _)⟩
        case measure => simp [intOf]; omega
    · have HE := Lib.hid (show z = (yesMask ls : Nat) by rw [hz, show k = ls.length by omega, List.take_length])
      clear hz
      go_wp2_with (fail)
      go_ret
      exact ⟨ret_int HE.out, hbe⟩

/-- What RuleSafe answers. -/
def ruleSafe (r : LRule) : Bool := bits .andNot .u64 ((ruleMask r : Nat) : Int) ((yesMask r.2 : Nat) : Int) == 0

end Go.Proofs.YtcoelmhlkfignaaDoor
/-
  The specification's sets of variables: rows of four bools. The walks of l2Mark, l2Marks.
-/
namespace Go.Proofs.YtcoelmhlkfignaaDoor
open Go.RowKit

/-- Block g is the row of the bits of m. -/
def MkRow (w : World) (g m : Nat) : Prop := Blk w g 4 #[.bool (m.testBit 0), .bool (m.testBit 1), .bool (m.testBit 2), .bool (m.testBit 3)]
theorem MkRow.cell {w : World} {g m : Nat} (h : MkRow w g m) {i : Nat} (hi : i < 4) : w.cell? ⟨g, i, none⟩ = some (.bool (m.testBit i)) := by
  rw [Blk.cell h i]
  match i, hi with
  | 0, _ => rfl
  | 1, _ => rfl
  | 2, _ => rfl
  | 3, _ => rfl
theorem MkRow.frozen {w : World} {g m : Nat} (h : MkRow w g m) (i : Nat) : w.frozen? ⟨g, i, none⟩ = false := Blk.frozen h i
theorem MkRow.lt {w : World} {g m : Nat} (h : MkRow w g m) : g < w.heap.size := Blk.lt h
theorem MkRow.below {B : Nat} {w w' : World} {g m : Nat} (h : MkRow w g m) (hb : Below B w w') (hg : g < B) : MkRow w' g m := Blk.below h hb hg
theorem MkRow.set {w : World} {g m : Nat} (h : MkRow w g m) {j : Nat} (hj : j < 4) : MkRow (w.setCell ⟨g, j, none⟩ (.bool true)) g (m ||| 2 ^ j) := by
  have h2 := Blk.set_ h j (.bool true)
  unfold MkRow
  match j, hj with
  | 0, _ => simpa [Nat.testBit_or, show Nat.testBit 1 1 = false from rfl, show Nat.testBit 1 2 = false from rfl, show Nat.testBit 1 3 = false from rfl] using h2
  | 1, _ => simpa [Nat.testBit_or, show Nat.testBit 2 1 = true from rfl, show Nat.testBit 2 2 = false from rfl, show Nat.testBit 2 3 = false from rfl] using h2
  | 2, _ => simpa [Nat.testBit_or, show Nat.testBit 4 1 = false from rfl, show Nat.testBit 4 2 = true from rfl, show Nat.testBit 4 3 = false from rfl] using h2
  | 3, _ => simpa [Nat.testBit_or, show Nat.testBit 8 1 = false from rfl, show Nat.testBit 8 2 = false from rfl, show Nat.testBit 8 3 = true from rfl] using h2
theorem maskFrom_take {xs : List Int} {m k : Nat} (h : k < xs.length) : maskFrom m (xs.take (k + 1)) = orV (maskFrom m (xs.take k)) xs[k] := by
  unfold maskFrom
  rw [take_snoc xs k h, List.foldl_append]
  rfl
theorem MkRow.var {w : World} {g m : Nat} (h : MkRow w g m) {t : Int} {j : Nat} (hj : j < 4) (ht : t = -1 - (j : Int)) : MkRow (w.setCell ⟨g, j, none⟩ (.bool true)) g (orV m t) := by
  have hv : isVarB t = true := by simp [isVarB]; omega
  have hn : (-1 - t).toNat = j := by omega
  unfold orV
  rw [if_pos hv, hn]
  exact h.set hj

set_option maxHeartbeats 400000 in
theorem l2Mark_any (g m : Nat) (v : Value) (xs : List Int) (w : World) (hm : MkRow w g m) (h : RdInts w g v xs) (hr : xs.length ≤ 1048576) :
    Calls Tryd.prog 76 #[.slice (some ⟨g, 0, none⟩) 4 4, v] w fun e w' => e = .returned (.tuple #[]) ∧ MkRow w' g (maskFrom m xs) ∧ Only g (g + 1) w w' := by
  have H := Lib.hid h
  have HM := Lib.hid hm
  clear hm
  obtain ⟨A, c, rfl, hc, _⟩ := h
  go_enter Tryd.func76, Tryd.ntmps76
  go_wp2_with (fail)
  go_loopw [4] (fun i wr => ∃ k : Nat, k ≤ xs.length ∧ i = .int .i64 k ∧ MkRow wr g (maskFrom m (xs.take k)) ∧ Only g (g + 1) w wr) (fun i _ => xs.length - (intOf i).toNat)
  case atStart => exact ⟨0, Nat.zero_le _, rfl, HM.out, Only.refl _ _ _⟩
  case round =>
    obtain ⟨k, hk, rfl, hx, hon⟩ := hrel
    have hg := HM.out.lt
    by_cases hlt : k < xs.length
    · obtain ⟨A', c', e, _, hr2⟩ := H.out.below (hon.below (Nat.le_refl g) (by omega)) (Nat.le_refl g)
      injection e with e1 _ e3
      subst e1
      subst e3
      obtain ⟨b, o, rfl, hbB, hr2⟩ := hr2 (by omega)
      have hck : wr.cell? ⟨b, o + k, none⟩ = some (.int .i64 xs[k]) := hr2 k hlt
      have htk := maskFrom_take (m := m) hlt
      clear hr2
      by_cases he : -4 ≤ xs[k] ∧ xs[k] ≤ -1
      · have hv : xs[k] = -1 - ((0 : Nat) : Int) ∨ xs[k] = -1 - ((1 : Nat) : Int) ∨ xs[k] = -1 - ((2 : Nat) : Int) ∨ xs[k] = -1 - ((3 : Nat) : Int) := by omega
        have c0 := hx.cell (i := 0) (by omega)
        have c1 := hx.cell (i := 1) (by omega)
        have c2 := hx.cell (i := 2) (by omega)
        have c3 := hx.cell (i := 3) (by omega)
        have f0 := hx.frozen 0
        have f1 := hx.frozen 1
        have f2 := hx.frozen 2
        have f3 := hx.frozen 3
        have HK := Lib.hid (l1In_yes he)
        have HX := Lib.hid (And.intro hx (And.intro hon htk))
        clear he hx hon htk
        rcases hv with hv | hv | hv | hv
        all_goals
          have HV := Lib.hid hv
          rw [hv] at hck
          simp at hck
          clear hv
        · go_wp2_with (go_at_call 61; refine (l1In_yes (by omega) _).mono ?_; rintro e w' ⟨rfl, rfl⟩)
          go_roundw
          case rel => exact ⟨k + 1, by omega, by go_num, by rw [HX.out.2.2]; exact HX.out.1.var (by omega) HV.out, HX.out.2.1.setCell (by simp) _⟩
          case measure => simp [intOf]; omega
        · go_wp2_with (go_at_call 61; refine (l1In_yes (by omega) _).mono ?_; rintro e w' ⟨rfl, rfl⟩)
          go_roundw
          case rel => exact ⟨k + 1, by omega, by go_num, by rw [HX.out.2.2]; exact HX.out.1.var (by omega) HV.out, HX.out.2.1.setCell (by simp) _⟩
          case measure => simp [intOf]; omega
        · go_wp2_with (go_at_call 61; refine (l1In_yes (by omega) _).mono ?_; rintro e w' ⟨rfl, rfl⟩)
          go_roundw
          case rel => exact ⟨k + 1, by omega, by go_num, by rw [HX.out.2.2]; exact HX.out.1.var (by omega) HV.out, HX.out.2.1.setCell (by simp) _⟩
          case measure => simp [intOf]; omega
        · go_wp2_with (go_at_call 61; refine (l1In_yes (by omega) _).mono ?_; rintro e w' ⟨rfl, rfl⟩)
          go_roundw
          case rel => exact ⟨k + 1, by omega, by go_num, by rw [HX.out.2.2]; exact HX.out.1.var (by omega) HV.out, HX.out.2.1.setCell (by simp) _⟩
          case measure => simp [intOf]; omega
      · have HK := Lib.hid (l1In_no he)
        have HX := Lib.hid (show MkRow wr g (maskFrom m (xs.take (k + 1))) by rw [htk]; unfold orV; rw [if_neg (by simp [isVarB]; omega)]; exact hx)
        clear he hx htk
        go_wp2_with (go_at_call 61; refine (HK.out _).mono ?_; rintro e w' ⟨rfl, rfl⟩)
        go_roundw
        case rel => exact ⟨k + 1, by omega, by go_num, HX.out, hon⟩
        case measure => simp [intOf]; omega
    · have HX := Lib.hid (show MkRow wr g (maskFrom m xs) by rw [show k = xs.length by omega, List.take_length] at hx; exact hx)
      clear hx
      go_wp2_with (fail)
      go_end0
      exact ⟨rfl, HX.out, hon⟩

theorem MkRow.only {lo hi : Nat} {w w' : World} {g m : Nat} (h : MkRow w g m) (ho : Only lo hi w w') (hg : g < lo ∨ hi ≤ g) : MkRow w' g m := (ho.block g h.lt hg).trans h
theorem made4 : madeCells #[Value.bool false] 4 = #[.bool false, .bool false, .bool false, .bool false] := by
  apply Array.ext
  · simp [madeCells]
  · intro i h1 h2
    simp [madeCells]
    match i, h2 with
    | 0, _ => rfl
    | 1, _ => rfl
    | 2, _ => rfl
    | 3, _ => rfl
theorem MkRow.made (w : World) : MkRow (w.alloc (.cells (madeCells #[.bool false] 4) 4)) w.heap.size 0 := by
  rw [made4]
  exact Blk.new w _ _
theorem Tryd.infoBool : (Tryd.prog.info? 4).map (fun i => (i.zero, i.size, i.bytes)) = some (some (.bool false), 1, 1) := by kernel_rfl

theorem make4 (W : World) : (Instr.makeSlice 53 (.int .i64 4) (.int .i64 4)).run Tryd.prog W = .ok (.slice (some ⟨W.heap.size, 0, none⟩) 4 4) (W.alloc (.cells (madeCells #[.bool false] 4) 4)) := by
  obtain ⟨i0, hi0, hz0, hz1, hz2⟩ := info_parts Tryd.infoBool
  have hmk := run_make_rowN (P := Tryd.prog) 53 4 i0 (.bool false) Tryd.underlying53 hi0 hz0 .i64 .i64 4 4 (Nat.le_refl _) (by rw [hz2]; omega) (by omega) W
  rw [hz1] at hmk
  simp only [Value.cells, Nat.mul_one] at hmk
  exact hmk

set_option maxHeartbeats 1000000 in
set_option maxRecDepth 100000 in
theorem l2Marks_any (v : Value) (r : LRule) (w : World) (h : RdRule w w.heap.size v r) (hr : szR r ≤ 1048576) :
    Calls Tryd.prog 77 #[v] w fun e w' => ∃ g, e = .returned (.slice (some ⟨g, 0, none⟩) 4 4) ∧ MkRow w' g (ruleMask r) ∧ w.heap.size ≤ g ∧ Below w.heap.size w w' := by
  have hmk := make4
  obtain ⟨a, b, rfl, h, h2⟩ := h
  unfold szR at hr
  have H := Lib.hid h
  have H2 := Lib.hid h2
  obtain ⟨A, c, rfl, hc, _⟩ := h
  obtain ⟨A2, c2, rfl, hcc, _⟩ := h2
  go_enter Tryd.func77, Tryd.ntmps77
  go_wp2_with (fail)
  obtain ⟨w1, hw1⟩ : ∃ w1, w1 = w.alloc (Obj.cells #[Value.int IntKind.i64 r.1.1, Value.slice A r.1.2.length c, Value.slice A2 r.2.length c2] 78) := ⟨_, rfl⟩
  have B1 : Below w.heap.size w w1 := by rw [hw1]; exact below1 _ _
  have s1 : w1.heap.size = w.heap.size + 1 := by rw [hw1]; simp
  have x1 : Blk w1 w.heap.size 78 #[.int .i64 r.1.1, .slice A r.1.2.length c, .slice A2 r.2.length c2] := by rw [hw1]; exact Blk.new w _ _
  obtain ⟨w2, hw2⟩ : ∃ w2, w2 = w1.alloc (Obj.cells (madeCells #[Value.bool false] 4) 4) := ⟨_, rfl⟩
  have m2 : MkRow w2 (w.heap.size + 1) 0 := by rw [hw2, ← s1]; exact MkRow.made _
  have b2 : Below w1.heap.size w1 w2 := by rw [hw2]; exact below1 _ _
  have x2 := x1.below b2 x1.lt
  have B2 := bthen B1 b2
  rw [← hw1, ← hw2]
  clear hw1 hw2
  refine (l2Mark_any (w.heap.size + 1) 0 _ r.1.2 _ m2 ((H.out.below B2 (Nat.le_refl _)).more (by omega)) (by omega)).mono ?_
  rintro e w3 ⟨rfl, m3, on3⟩
  have x3 := x2.only on3 (.inl (by omega))
  have B3 : Below w.heap.size w w3 := Only.then_ B2 on3 (by omega)
  have q3 : w3.cell? ⟨w.heap.size, 2, none⟩ = some (.slice A2 r.2.length c2) := x3.cell 2
  rw [maskFrom_eq, Nat.zero_or] at m3
  clear x1 x2 m2
  go_wp2_with (fail)
  go_loopw [4] (fun i wr => ∃ k : Nat, k ≤ r.2.length ∧ i = .int .i64 k ∧ MkRow wr (w.heap.size + 1) (maskOf r.1.2 ||| bodyMask (r.2.take k)) ∧ Only (w.heap.size + 1) (w.heap.size + 2) w3 wr) (fun i _ => r.2.length - (intOf i).toNat)
  case atStart => exact ⟨0, Nat.zero_le _, rfl, by simpa [bodyMask] using m3, Only.refl _ _ _⟩
  case round =>
    obtain ⟨k, hk, rfl, hm, hon⟩ := hrel
    have BW : Below w.heap.size w wr := Only.then_ B3 hon (by omega)
    have xr := x3.only hon (.inl (by omega))
    have q2 : wr.cell? ⟨w.heap.size, 2, none⟩ = some (.slice A2 r.2.length c2) := xr.cell 2
    clear q3
    by_cases hlt : k < r.2.length
    · obtain ⟨b, o, u0, u1, u2, rfl, hbB, k0, k1, k2, rfl, rfl, p3⟩ := (H2.out.below BW (Nat.le_refl _)).get hlt
      have HA := Lib.hid p3
      obtain ⟨A3, c3, rfl, hc3, _⟩ := p3
      have hle := len_le_totL r.2 k hlt
      go_wp2_with (fail)
      refine (l2Mark_any (w.heap.size + 1) _ _ r.2[k].2.2 _ hm (HA.out.more (by omega)) (by omega)).mono ?_
      rintro e w4 ⟨rfl, m4, on4⟩
      rw [maskFrom_eq, Nat.or_assoc, ← bodyMask_take hlt] at m4
      go_wp2_with (fail)
      go_roundw
      case rel => exact ⟨k + 1, by omega, by go_num, m4, hon.trans on4⟩
      case measure => simp [intOf]; omega
    · have HX := Lib.hid (show MkRow wr (w.heap.size + 1) (ruleMask r) by rw [show k = r.2.length by omega, List.take_length] at hm; exact hm)
      clear hm
      go_wp2_with (fail)
      go_ret
      exact ⟨_, rfl, HX.out, by omega, BW⟩

end Go.Proofs.YtcoelmhlkfignaaDoor
