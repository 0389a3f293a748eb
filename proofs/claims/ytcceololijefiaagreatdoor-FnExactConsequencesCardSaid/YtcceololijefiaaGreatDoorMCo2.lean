/-
  Texts that the claim's last one imports, laid together: part 2 of 9. No condition of its own.
-/
import Derived.Maps.AppendAt
import Derived.Deep.AppendLies
import Derived.StillTailTactics
import Derived.Deep.QuietTactic
import Derived.BigQuiet
import Derived.Deep.Quiet
import Derived.Laws.BitsAllLaws
import Derived.Shelf.Spec.TrailingZeros
import Derived.Laws.Bits64b
import Derived.Test.YtcceololijefiaaGreatDoorRows
import Derived.Stop.LaidErr
import Derived.Lib.LaidTab
import Derived.MakeChecks
import Derived.RegionTactic
import Derived.Deep.RegionLaw
import Derived.Deep.RegionHeld3
import Derived.Test.YtcceololijefiaaGreatDoorMCo1
/-
  Marks on what is not read again: a store of a number over a number keeps the shape of all that lies there. The words, and the walks of markIntS, markAtom, markLitS, markRule, markRuleS, markProgram.
-/
namespace Go.Proofs.YtcceololijefiaaGreatDoor
open Go.RowKit

/-- Blocks outside [lo, hi) are as they were; within, numbers may have become others. -/
structure Marked (lo hi : Nat) (w w' : World) : Prop where
  only : Only lo hi w w'
  cell : ∀ p : Addr, p.block < w.heap.size → w'.cell? p = w.cell? p ∨ ∃ x y, w.cell? p = some (.int .i64 x) ∧ w'.cell? p = some (.int .i64 y)
  frozen : ∀ p : Addr, p.block < w.heap.size → w'.frozen? p = w.frozen? p

section
variable {lo hi : Nat} {w w1 w' : World}
theorem Marked.refl (lo hi : Nat) (w : World) : Marked lo hi w w := ⟨Only.refl _ _ _, fun _ _ => .inl rfl, fun _ _ => rfl⟩
theorem Marked.trans (h : Marked lo hi w w1) (k : Marked lo hi w1 w') : Marked lo hi w w' := by
  refine ⟨h.only.trans k.only, fun p hp => ?_, fun p hp => (k.frozen p (Nat.lt_of_lt_of_le hp h.only.size)).trans (h.frozen p hp)⟩
  rcases h.cell p hp with e | ⟨x, y, e1, e2⟩
  · rcases k.cell p (Nat.lt_of_lt_of_le hp h.only.size) with e' | ⟨x', y', e1', e2'⟩
    · exact .inl (e'.trans e)
    · exact .inr ⟨x', y', e ▸ e1', e2'⟩
  · rcases k.cell p (Nat.lt_of_lt_of_le hp h.only.size) with e' | ⟨x', y', e1', e2'⟩
    · exact .inr ⟨x, y, e1, e'.trans e2⟩
    · exact .inr ⟨x, y', e1, e2'⟩
theorem Marked.of_below (h : Below w.heap.size w w') : Marked lo hi w w' := ⟨Only.of_below h, fun _ hp => .inl (h.cell hp), fun _ hp => h.frozen hp⟩
theorem Marked.store {p : Addr} {x : Int} (hp : lo ≤ p.block ∧ p.block < hi) (hc : w.cell? p = some (.int .i64 x)) (y : Int) : Marked lo hi w (w.setCell p (.int .i64 y)) := by
  refine ⟨(Only.refl _ _ _).setCell hp _, fun q _ => ?_, fun q _ => ?_⟩
  · by_cases e : q = p
    · subst e
      exact .inr ⟨x, y, hc, World.cell?_setCell_same _ _ _ hc⟩
    · exact .inl (World.cell?_setCell_other _ _ _ _ (fun e' => e e'.symm))
  · unfold World.frozen? World.setCell
    rw [Array.getElem?_modify]
    by_cases e : p.block = q.block
    · rw [if_pos e]
      cases hq : w.heap[q.block]? with
      | none => rfl
      | some o => cases o <;> rfl
    · rw [if_neg e]

/-- A slice of n numbers, of blocks from lo on and below hi, that may be written. -/
def WrInts (w : World) (lo hi : Nat) (v : Value) (n : Nat) : Prop :=
  ∃ A c, v = .slice A n c ∧ (0 < n → ∃ b o, A = some ⟨b, o, none⟩ ∧ lo ≤ b ∧ b < hi ∧ ∀ k, k < n → w.frozen? ⟨b, o + k, none⟩ = false ∧ ∃ x, w.cell? ⟨b, o + k, none⟩ = some (.int .i64 x))
theorem Marked.int (h : Marked lo hi w w') {p : Addr} {x : Int} (hc : w.cell? p = some (.int .i64 x)) : ∃ y, w'.cell? p = some (.int .i64 y) := by
  rcases h.cell p (World.block_lt_of_cell? _ _ hc) with e | ⟨_, y, _, e⟩
  · exact ⟨x, e.trans hc⟩
  · exact ⟨y, e⟩
theorem Marked.slice (h : Marked lo hi w w') {p : Addr} {A : Option Addr} {n c : Nat} (hc : w.cell? p = some (.slice A n c)) : w'.cell? p = some (.slice A n c) := by
  rcases h.cell p (World.block_lt_of_cell? _ _ hc) with e | ⟨x, y, e, _⟩
  · exact e.trans hc
  · rw [hc] at e
    cases e
theorem WrInts.marked {v : Value} {n : Nat} (h : WrInts w lo hi v n) (hm : Marked lo hi w w') : WrInts w' lo hi v n := by
  obtain ⟨A, c, rfl, h⟩ := h
  refine ⟨A, c, rfl, fun hn => ?_⟩
  obtain ⟨b, o, rfl, h1, h2, hx⟩ := h hn
  refine ⟨b, o, rfl, h1, h2, fun k hk => ?_⟩
  obtain ⟨hf, x, hc⟩ := hx k hk
  exact ⟨(hm.frozen _ (World.block_lt_of_cell? _ _ hc)).trans hf, hm.int hc⟩
theorem OwnInts.wr {v : Value} {xs : List Int} (h : OwnInts w lo hi v xs) : WrInts w lo hi v xs.length := by
  have hrd := h.rd
  obtain ⟨⟨hlen, h⟩, hlt⟩ := h
  rcases h with ⟨rfl, h0⟩ | ⟨g, cap, cur, rfl, hbg, hg, hn, hm, hs, ht⟩
  · exact ⟨none, 0, by rw [h0], fun hn => absurd hn (by omega)⟩
  · refine ⟨_, cap, rfl, fun hn0 => ⟨g, 0, rfl, hbg, hlt g rfl, fun k hk => ⟨by simp [World.frozen?, hg], ?_⟩⟩⟩
    obtain ⟨A', c', e, _, hx⟩ := hrd
    injection e with e1 _ _
    obtain ⟨b, o, e2, _, hx⟩ := hx hn0
    rw [← e1] at e2
    injection e2 with e2
    injection e2 with e2 e3 _
    subst e2
    subst e3
    exact ⟨_, hx k hk⟩

def WLit (w : World) (lo hi : Nat) (u0 u1 u2 : Value) (l : LLit) : Prop := (∃ x, u0 = .int .i64 x) ∧ (∃ y, u1 = .int .i64 y) ∧ WrInts w lo hi u2 l.2.2.length
def WrLits (w : World) (lo hi : Nat) (v : Value) (ls : List LLit) : Prop := OwnRow WLit w lo hi v ls
theorem OwnLits.wr {v : Value} {ls : List LLit} (h : OwnLits w lo hi v ls) : WrLits w lo hi v ls := by
  obtain ⟨A, c, rfl, hc, h⟩ := h
  refine ⟨A, c, rfl, hc, fun hn => ?_⟩
  obtain ⟨b, o, rfl, h1, h2, hx⟩ := h hn
  refine ⟨b, o, rfl, h1, h2, fun k hk => ?_⟩
  obtain ⟨hf, u0, u1, u2, c0, c1, c2, rfl, rfl, hI⟩ := hx k hk
  exact ⟨hf, _, _, _, c0, c1, c2, ⟨_, rfl⟩, ⟨_, rfl⟩, hI.wr⟩
theorem WrLits.marked {v : Value} {ls : List LLit} (h : WrLits w lo hi v ls) (hm : Marked lo hi w w') : WrLits w' lo hi v ls := by
  obtain ⟨A, c, rfl, hc, h⟩ := h
  refine ⟨A, c, rfl, hc, fun hn => ?_⟩
  obtain ⟨b, o, rfl, h1, h2, hx⟩ := h hn
  refine ⟨b, o, rfl, h1, h2, fun k hk => ?_⟩
  obtain ⟨⟨f0, f1⟩, u0, u1, u2, c0, c1, c2, ⟨x, rfl⟩, ⟨y, rfl⟩, hI⟩ := hx k hk
  obtain ⟨x', d0⟩ := hm.int c0
  obtain ⟨y', d1⟩ := hm.int c1
  obtain ⟨A2, c2', rfl, hi⟩ := hI
  exact ⟨⟨(hm.frozen _ (World.block_lt_of_cell? _ _ c0)).trans f0, (hm.frozen _ (World.block_lt_of_cell? _ _ c1)).trans f1⟩, _, _, _, d0, d1, hm.slice c2, ⟨_, rfl⟩, ⟨_, rfl⟩, WrInts.marked ⟨A2, c2', rfl, hi⟩ hm⟩

def WRule (w : World) (lo hi : Nat) (u0 u1 u2 : Value) (r : LRule) : Prop := (∃ x, u0 = .int .i64 x) ∧ WrInts w lo hi u1 r.1.2.length ∧ WrLits w lo hi u2 r.2
def WrRules (w : World) (lo hi : Nat) (v : Value) (rs : List LRule) : Prop := OwnRow WRule w lo hi v rs
theorem OwnRules.wr {v : Value} {rs : List LRule} (h : OwnRules w lo hi v rs) : WrRules w lo hi v rs := by
  obtain ⟨A, c, rfl, hc, h⟩ := h
  refine ⟨A, c, rfl, hc, fun hn => ?_⟩
  obtain ⟨b, o, rfl, h1, h2, hx⟩ := h hn
  refine ⟨b, o, rfl, h1, h2, fun k hk => ?_⟩
  obtain ⟨hf, u0, u1, u2, c0, c1, c2, rfl, hI, hL⟩ := hx k hk
  exact ⟨hf, _, _, _, c0, c1, c2, ⟨_, rfl⟩, hI.wr, hL.wr⟩
theorem WrRules.marked {v : Value} {rs : List LRule} (h : WrRules w lo hi v rs) (hm : Marked lo hi w w') : WrRules w' lo hi v rs := by
  obtain ⟨A, c, rfl, hc, h⟩ := h
  refine ⟨A, c, rfl, hc, fun hn => ?_⟩
  obtain ⟨b, o, rfl, h1, h2, hx⟩ := h hn
  refine ⟨b, o, rfl, h1, h2, fun k hk => ?_⟩
  obtain ⟨⟨f0, f1⟩, u0, u1, u2, c0, c1, c2, ⟨x, rfl⟩, hI, hL⟩ := hx k hk
  obtain ⟨x', d0⟩ := hm.int c0
  have f1' := (hm.frozen _ (World.block_lt_of_cell? _ _ c1)).trans f1
  obtain ⟨A1, n1, rfl, hi1⟩ := hI
  obtain ⟨A2, n2, rfl, hc2, hi2⟩ := hL
  exact ⟨⟨(hm.frozen _ (World.block_lt_of_cell? _ _ c0)).trans f0, f1'⟩, _, _, _, d0, hm.slice c1, hm.slice c2, ⟨_, rfl⟩, WrInts.marked ⟨A1, n1, rfl, hi1⟩ hm, WrLits.marked ⟨A2, n2, rfl, hc2, hi2⟩ hm⟩
end

set_option maxHeartbeats 400000 in
theorem wmarkIntS_any (v : Value) (n : Nat) (k : Int) (lo hi : Nat) (w : World) (h : WrInts w lo hi v n) (hk0 : 0 ≤ k) (hk : k + n ≤ 4611686018427387904) :
    Calls Tryz.prog 31 #[v, .int .i64 k] w fun e w' => e = .returned (.int .i64 (k + n)) ∧ Marked lo hi w w' := by
  have H := Lib.hid h
  obtain ⟨A, c, rfl, _⟩ := h
  go_enter Tryz.func31, Tryz.ntmps31
  go_wp2_with (fail)
  go_loopw [1, 5] (fun m i wr => ∃ j : Nat, j ≤ n ∧ i = .int .i64 j ∧ m = .int .i64 (k + j) ∧ Marked lo hi w wr) (fun _ i _ => n - (intOf i).toNat)
  case atStart => exact ⟨0, Nat.zero_le _, rfl, by simp, Marked.refl _ _ _⟩
  case round =>
    obtain ⟨j, hj, rfl, rfl, hm⟩ := hrel
    by_cases hlt : j < n
    · obtain ⟨A', c', e, hx⟩ := H.out.marked hm
      injection e with e1 _ _
      subst e1
      obtain ⟨b, o, rfl, h1, h2, hx⟩ := hx (by omega)
      obtain ⟨hf, x, hc⟩ := hx j hlt
      have HM := Lib.hid (hm.trans (Marked.store (p := ⟨b, o + j, none⟩) ⟨h1, h2⟩ hc (k + j)))
      clear hx
      go_wp2_with (fail)
      go_roundw
      case rel => exact ⟨j + 1, by omega, by go_num, by go_num, HM.out⟩
      case measure => simp [intOf]; omega
    · have hkn : j = n := by omega
      have HK := Lib.hid (show k + (j : Int) = k + n by rw [hkn])
      clear hkn
      go_wp2_with (fail)
      go_ret
      exact ⟨ret_int HK.out, hm⟩

/-- How far the marks of literals, of a rule, of rules go. -/
def endL (k : Int) (ls : List LLit) : Int := k + 2 * (ls.length : Int) + (totL ls : Int)

set_option maxHeartbeats 1000000 in
set_option maxRecDepth 100000 in
theorem wmarkLitS_any (v : Value) (ls : List LLit) (k : Int) (lo hi : Nat) (w : World) (h : WrLits w lo hi v ls) (hk0 : 0 ≤ k) (hk : k ≤ 4294967296) (hn : ls.length ≤ 1073741824) (ht : totL ls ≤ 1073741824) :
    Calls Tryz.prog 53 #[v, .int .i64 k] w fun e w' => e = .returned (.int .i64 (endL k ls)) ∧ Marked lo hi w w' := by
  have H := Lib.hid h
  obtain ⟨A, c, rfl, _⟩ := h
  go_enter Tryz.func53, Tryz.ntmps53
  go_wp2_with (fail)
  go_loopw [1, 5] (fun m i wr => ∃ (j : Nat) (q : Int), j ≤ ls.length ∧ i = .int .i64 j ∧ m = .int .i64 q ∧ q = k + 2 * (j : Int) + (totL (ls.take j) : Int) ∧ Marked lo hi w wr) (fun _ i _ => ls.length - (intOf i).toNat)
  case atStart => exact ⟨0, k, Nat.zero_le _, rfl, rfl, by simp [totL], Marked.refl _ _ _⟩
  case round =>
    obtain ⟨j, q, hj, rfl, rfl, hq, hm⟩ := hrel
    by_cases hlt : j < ls.length
    · obtain ⟨A', c', e, _, hx⟩ := H.out.marked hm
      injection e with e1 _ e3
      subst e1
      subst e3
      obtain ⟨b, o, rfl, h1, h2, hx⟩ := hx (by omega)
      obtain ⟨⟨f0, f1⟩, u0, u1, u2, c0, c1, c2, ⟨x, rfl⟩, ⟨y, rfl⟩, hI⟩ := hx j hlt
      have m0 := Marked.store (p := ⟨b, o + j * 3, none⟩) ⟨h1, h2⟩ c0 q
      obtain ⟨y', c1'⟩ := m0.int c1
      have f1' := (m0.frozen ⟨b, o + j * 3 + 1, none⟩ (World.block_lt_of_cell? _ _ c1)).trans f1
      have m1 := Marked.store (p := ⟨b, o + j * 3 + 1, none⟩) ⟨h1, h2⟩ c1' (q + 1)
      have hI2 := hI.marked (m0.trans m1)
      obtain ⟨A3, c3, rfl, _⟩ := hI
      have c2' := (m0.trans m1).slice c2
      have htk := totL_take ls j hlt
      have hle := sum_at (fun l : LLit => l.2.2.length) ls j hlt
      have htl : totL (ls.take j) ≤ totL ls := by
        have := congrArg (fun l => (l.map (fun l : LLit => l.2.2.length)).sum) (List.take_append_drop j ls)
        simp only [List.map_append, List.sum_append] at this
        unfold totL
        omega
      have hle2 : ls[j].2.2.length ≤ totL ls := hle
      clear hle
      have hq0 : 0 ≤ q := by omega
      have hq1 : q ≤ 8589934592 := by omega
      have HI := Lib.hid hI2
      have HM := Lib.hid (hm.trans (m0.trans m1))
      have HQ := Lib.hid (show q + 1 + 1 + (ls[j].2.2.length : Int) = k + 2 * ((j + 1 : Nat) : Int) + (totL (ls.take (j + 1)) : Int) by rw [htk]; omega)
      clear hx m0 m1 hI2 htk htl hq
      go_wp2_with (fail)
      refine (wmarkIntS_any _ _ (q + 1 + 1) lo hi _ HI.out (by omega) (by omega)).mono ?_
      rintro e w3 ⟨rfl, hm3⟩
      have HM3 := Lib.hid (HM.out.trans hm3)
      go_wp2_with (fail)
      go_roundw
      case rel => exact ⟨j + 1, _, by omega, by go_num, rfl, HQ.out, HM3.out⟩
      case measure => simp [intOf]; omega
    · have hkn : j = ls.length := by omega
      have HK := Lib.hid (show q = endL k ls by rw [hq, hkn, List.take_length]; rfl)
      clear hkn hq
      go_wp2_with (fail)
      go_ret
      exact ⟨ret_int HK.out, hm⟩

def endR (k : Int) (r : LRule) : Int := endL (k + (r.1.2.length : Int)) r.2

end Go.Proofs.YtcceololijefiaaGreatDoor
/-
  The loop that collects integers; the walk of the specification's RulesOf.
-/
namespace Go.Proofs.YtcceololijefiaaGreatDoor
open Go.RowKit

/-- The indexes of rules, of the first k, whose head has a predicate. -/
def rulesTo (rs : List LRule) (pred : Int) (k : Nat) : List Int := ((List.range k).filter fun i => (rs.getD i ((0, []), [])).1.1 == pred).map fun i : Nat => (i : Int)
def rulesOf (p : LProg) (pred : Int) : List Int := rulesTo p.2 pred p.2.length
theorem rulesTo_yes {rs : List LRule} {pred : Int} {k : Nat} (h : k < rs.length) (e : rs[k].1.1 = pred) : rulesTo rs pred (k + 1) = rulesTo rs pred k ++ [(k : Int)] := by
  unfold rulesTo
  rw [List.range_succ, List.filter_append, List.map_append]
  congr 1
  simp [h, e]
theorem rulesTo_no {rs : List LRule} {pred : Int} {k : Nat} (h : k < rs.length) (e : rs[k].1.1 ≠ pred) : rulesTo rs pred (k + 1) = rulesTo rs pred k := by
  unfold rulesTo
  rw [List.range_succ, List.filter_append, List.map_append]
  simp [h, e]
theorem rulesTo_length (rs : List LRule) (pred : Int) (k : Nat) : (rulesTo rs pred k).length ≤ k := by
  unfold rulesTo
  rw [List.length_map]
  exact Nat.le_trans (List.length_filter_le _ _) (by simp)

end Go.Proofs.YtcceololijefiaaGreatDoor
/-
  Terms and variables: the words, and the walks of varTerm, varNumber, isVar.
-/
namespace Go.Proofs.YtcceololijefiaaGreatDoor
open Go.RowKit

def termOk (x : Int) : Bool := decide (-4 ≤ x ∧ x ≤ 5)
def isVarB (x : Int) : Bool := decide (-4 ≤ x ∧ x ≤ -1)

/-- 'the first k are so', kept from the walk. -/
def AllTo {α : Type} (p : α → Bool) (xs : List α) (k : Nat) : Prop := (xs.take k).all p = true
theorem AllTo.start {α : Type} {p : α → Bool} {xs : List α} : AllTo p xs 0 := by simp [AllTo]
theorem AllTo.step {α : Type} {p : α → Bool} {xs : List α} {k : Nat} (h : AllTo p xs k) (hk : k < xs.length) (e : p xs[k] = true) : AllTo p xs (k + 1) := by
  unfold AllTo at h ⊢
  rw [take_snoc xs k hk, List.all_append, h]
  simp [e]
theorem AllTo.done {α : Type} {p : α → Bool} {xs : List α} {k : Nat} (h : AllTo p xs k) (hk : k = xs.length) : xs.all p = true := by
  unfold AllTo at h
  rwa [hk, List.take_length] at h
theorem all_not {α : Type} {p : α → Bool} {xs : List α} {k : Nat} (hk : k < xs.length) (e : p xs[k] = false) : xs.all p = false := by
  rw [List.all_eq_false]
  exact ⟨xs[k], List.getElem_mem hk, by simp [e]⟩

theorem varTerm_any (n : Int) (h0 : 0 ≤ n) (h1 : n ≤ 1000) (w : World) : Calls Tryz.prog 113 #[.int .i64 n] w fun e w' => e = .returned (.int .i64 (-1 - n)) ∧ w = w' := by
  go_enter Tryz.func113, Tryz.ntmps113
  go_wp2
  go_ret
  exact ⟨rfl, rfl⟩
theorem varNumber_any (n : Int) (h0 : -4 ≤ n) (h1 : n ≤ -1) (w : World) : Calls Tryz.prog 99 #[.int .i64 n] w fun e w' => e = .returned (.int .i64 (-1 - n)) ∧ w = w' := by
  go_enter Tryz.func99, Tryz.ntmps99
  go_wp2
  go_ret
  exact ⟨rfl, rfl⟩

theorem isVar_any (n : Int) (w : World) : Calls Tryz.prog 97 #[.int .i64 n] w fun e w' => e = .returned (.bool (isVarB n)) ∧ w = w' := by
  by_cases h1 : n < 0
  · have hd : decide (n < 0) = true := by simpa using h1
    by_cases h2 : -4 ≤ n
    · have HE := Lib.hid (show isVarB n = true by simp [isVarB]; omega)
      go_enter Tryz.func97, Tryz.ntmps97
      go_wp2_with (go_at_call 113; refine (varTerm_any 3 (by omega) (by omega) _).mono ?_; rintro e w' ⟨rfl, rfl⟩)
      go_ret
      exact ⟨ret_bool HE.out.symm, rfl⟩
    · have HE := Lib.hid (show isVarB n = false by simp [isVarB]; omega)
      go_enter Tryz.func97, Tryz.ntmps97
      go_wp2_with (go_at_call 113; refine (varTerm_any 3 (by omega) (by omega) _).mono ?_; rintro e w' ⟨rfl, rfl⟩)
      go_ret
      exact ⟨ret_bool (by rw [HE.out]; simp; omega), rfl⟩
  · have hd : decide (n < 0) = false := by simpa using h1
    have HE := Lib.hid (show isVarB n = false by simp [isVarB]; omega)
    go_enter Tryz.func97, Tryz.ntmps97
    go_wp2_with (fail)
    go_ret
    exact ⟨ret_bool HE.out.symm, rfl⟩

theorem isVar_is {n : Int} {b : Bool} (h : isVarB n = b) (w : World) : Calls Tryz.prog 97 #[.int .i64 n] w fun e w' => e = .returned (.bool b) ∧ w = w' := h ▸ isVar_any n w

end Go.Proofs.YtcceololijefiaaGreatDoor
/-
  Regions that draw their order and whose callees return plain values and keep all that was there: one walk of the text's order serves every order. The class of worlds: those that keep what was there.
-/
namespace Go.Proofs.YtcceololijefiaaGreatDoor
open Go.RowKit

/-- A world that keeps all that was there in w0. -/
def Later (w0 : World) : Type := { W : World // Below w0.heap.size w0 W }

instance (w0 : World) : Nonempty (Later w0) := ⟨⟨w0, Below.refl _ _⟩⟩

theorem wp_region_later {P : Program} {id : Nat} {Q : Exit → Act → World → Prop} {a : Act} {w0 : World} {l : List Oper} (hm : P.follows .mixedOrders = true) (hB : Region.lexB .any l.toArray = true)
    (h : wpQuiet P l.toArray (fun w' => ∃ x : Later w0, w' = x.val) (fun a' => ∀ w', (∃ x : Later w0, w' = x.val) → Q .normal a' w') l a) : (Code.region id l.toArray true).wp P Q a w0 :=
  wp_region_quiet (C := fun w' => ∃ x : Later w0, w' = x.val) hm hB ⟨⟨_, (Below.refl _ _).drew⟩, rfl⟩ (by simpa using h)

theorem later_cell {w0 : World} {a : Addr} {v : Value} (h : w0.cell? a = some v) (x : Later w0) : x.val.cell? a = some v := (x.2.cell (World.block_lt_of_cell? _ _ h)).trans h
/-- A callee's contract, met in a later world. -/
theorem later_of {P : Program} {f : FuncId} {args : Array Value} {w0 : World} {x : Later w0} {v : Value} (h : Calls P f args x.val fun e w' => e = .returned v ∧ Below x.val.heap.size x.val w') :
    Calls P f args x.val fun e w'' => e = .returned v ∧ ∃ y : Later w0, w'' = y.val :=
  h.mono fun _ w' ⟨he, hb⟩ => ⟨he, ⟨w', bthen x.2 hb⟩, rfl⟩
theorem later_same {P : Program} {f : FuncId} {args : Array Value} {w0 : World} {x : Later w0} {v : Value} (h : Calls P f args x.val fun e w' => e = .returned v ∧ x.val = w') :
    Calls P f args x.val fun e w'' => e = .returned v ∧ ∃ y : Later w0, w'' = y.val :=
  h.mono fun _ _ ⟨he, hb⟩ => ⟨he, x, hb.symm⟩

end Go.Proofs.YtcceololijefiaaGreatDoor
/-
  Sets of variables: as words of four bits (the program's), as rows of four bools (the specification's). The words, and the walks of argVars, bodyVars, ruleVars.
-/
namespace Go.Proofs.YtcceololijefiaaGreatDoor
open Go.RowKit

/-- One more term's variable. -/
def orV (m : Nat) (t : Int) : Nat := if isVarB t then m ||| 2 ^ (-1 - t).toNat else m
def maskFrom (m : Nat) (xs : List Int) : Nat := xs.foldl orV m
def maskOf (xs : List Int) : Nat := maskFrom 0 xs
def bodyMask (ls : List LLit) : Nat := ls.foldl (fun m l => m ||| maskOf l.2.2) 0
def yesMask (ls : List LLit) : Nat := ls.foldl (fun m l => if l.1 = 0 then m ||| maskOf l.2.2 else m) 0
def ruleMask (r : LRule) : Nat := maskOf r.1.2 ||| bodyMask r.2

theorem orV_or (a b : Nat) (t : Int) : orV (a ||| b) t = a ||| orV b t := by
  unfold orV
  split
  · rw [Nat.or_assoc]
  · rfl
theorem maskFrom_or (a b : Nat) : ∀ xs : List Int, maskFrom (a ||| b) xs = a ||| maskFrom b xs
  | [] => rfl
  | t :: xs => by
    show maskFrom (orV (a ||| b) t) xs = a ||| maskFrom (orV b t) xs
    rw [orV_or, maskFrom_or a (orV b t) xs]
theorem maskFrom_eq (a : Nat) (xs : List Int) : maskFrom a xs = a ||| maskOf xs := by
  have := maskFrom_or a 0 xs
  rwa [Nat.or_zero] at this
theorem or_lt16 {a b : Nat} (ha : a < 16) (hb : b < 16) : a ||| b < 16 := Nat.or_lt_two_pow (n := 4) ha hb
theorem pow_var_lt {t : Int} (h : isVarB t = true) : 2 ^ (-1 - t).toNat < 16 := by
  have h4 : (-1 - t).toNat < 4 := by simp [isVarB] at h; omega
  exact Nat.pow_lt_pow_right (by omega) h4
theorem orV_lt {m : Nat} {t : Int} (hm : m < 16) : orV m t < 16 := by
  unfold orV
  split
  · rename_i h
    exact or_lt16 hm (pow_var_lt h)
  · exact hm
theorem maskFrom_lt : ∀ (xs : List Int) {m : Nat}, m < 16 → maskFrom m xs < 16
  | [], _, h => h
  | _ :: xs, _, h => maskFrom_lt xs (orV_lt h)
theorem maskOf_lt (xs : List Int) : maskOf xs < 16 := maskFrom_lt xs (by omega)
theorem maskOf_take {xs : List Int} {k : Nat} (h : k < xs.length) : maskOf (xs.take (k + 1)) = orV (maskOf (xs.take k)) xs[k] := by
  unfold maskOf maskFrom
  rw [take_snoc xs k h, List.foldl_append]
  rfl
theorem bodyMask_take {ls : List LLit} {k : Nat} (h : k < ls.length) : bodyMask (ls.take (k + 1)) = bodyMask (ls.take k) ||| maskOf ls[k].2.2 := by
  unfold bodyMask
  rw [take_snoc ls k h, List.foldl_append]
  rfl
theorem yesMask_take {ls : List LLit} {k : Nat} (h : k < ls.length) : yesMask (ls.take (k + 1)) = if ls[k].1 = 0 then yesMask (ls.take k) ||| maskOf ls[k].2.2 else yesMask (ls.take k) := by
  unfold yesMask
  rw [take_snoc ls k h, List.foldl_append]
  rfl
theorem bodyMask_lt : ∀ (n : Nat) (ls : List LLit), n ≤ ls.length → bodyMask (ls.take n) < 16
  | 0, _, _ => by simp [bodyMask]
  | n + 1, ls, h => by
    rw [bodyMask_take (by omega)]
    exact or_lt16 (bodyMask_lt n ls (by omega)) (maskOf_lt _)
theorem yesMask_lt : ∀ (n : Nat) (ls : List LLit), n ≤ ls.length → yesMask (ls.take n) < 16
  | 0, _, _ => by simp [yesMask]
  | n + 1, ls, h => by
    rw [yesMask_take (by omega)]
    split
    · exact or_lt16 (yesMask_lt n ls (by omega)) (maskOf_lt _)
    · exact yesMask_lt n ls (by omega)
theorem bodyMask_lt' (ls : List LLit) : bodyMask ls < 16 := by
  have := bodyMask_lt ls.length ls (Nat.le_refl _)
  rwa [List.take_length] at this
theorem yesMask_lt' (ls : List LLit) : yesMask ls < 16 := by
  have := yesMask_lt ls.length ls (Nat.le_refl _)
  rwa [List.take_length] at this
theorem ruleMask_lt (r : LRule) : ruleMask r < 16 := or_lt16 (maskOf_lt _) (bodyMask_lt' _)

theorem or_word {a b : Nat} (ha : a < 16) (hb : b < 16) : bits .or .u64 (a : Int) (b : Int) = ((a ||| b : Nat) : Int) := u64_or_nat a b (by omega) (by omega)
/-- The walk's word for one more variable. -/
theorem orV_word {m : Nat} {t : Int} (hm : m < 16) (h : isVarB t = true) : bits .or .u64 (m : Int) (IntKind.u64.wrap (1 * 2 ^ (-1 - t).toNat)) = ((orV m t : Nat) : Int) := by
  have h4 : (-1 - t).toNat < 4 := by simp [isVarB] at h; omega
  have hw : IntKind.u64.wrap (1 * 2 ^ (-1 - t).toNat) = ((2 ^ (-1 - t).toNat : Nat) : Int) := by
    generalize (-1 - t).toNat = n at h4
    match n, h4 with
    | 0, _ => rfl
    | 1, _ => rfl
    | 2, _ => rfl
    | 3, _ => rfl
  rw [hw, or_word hm (pow_var_lt h)]
  simp [orV, h]

set_option maxHeartbeats 400000 in
theorem argVars_any (v : Value) (xs : List Int) (B : Nat) (w : World) (h : RdInts w B v xs) (hr : xs.length ≤ 1048576) :
    Calls Tryz.prog 95 #[v] w fun e w' => e = .returned (.int .u64 (maskOf xs : Nat)) ∧ w = w' := by
  obtain ⟨A, c, rfl, hc, ha⟩ := h
  go_enter Tryz.func95, Tryz.ntmps95
  go_wp2_with (fail)
  go_loop [3, 5, 8] (fun m _ i => ∃ (k : Nat) (z : Int), k ≤ xs.length ∧ i = .int .i64 k ∧ m = .int .u64 z ∧ z = (maskOf (xs.take k) : Nat)) (fun _ _ i => xs.length - (intOf i).toNat)
  case atStart => exact ⟨0, 0, Nat.zero_le _, rfl, rfl, rfl⟩
  case round =>
    obtain ⟨k, z, hk, rfl, rfl, hz⟩ := hrel
    by_cases hlt : k < xs.length
    · obtain ⟨b, o, rfl, hbB, hx⟩ := ha (by omega)
      have hck : w.cell? ⟨b, o + k, none⟩ = some (.int .i64 xs[k]) := hx k hlt
      have hml := maskOf_lt (xs.take k)
      clear hx ha
      by_cases he : isVarB xs[k] = true
      · have HK := Lib.hid (isVar_is he)
        have HV := Lib.hid (show -4 ≤ xs[k] ∧ xs[k] ≤ -1 by simpa [isVarB] using he)
        have h0 : 0 ≤ -1 - xs[k] := by have := HV.out; omega
        have h64 : -1 - xs[k] ≤ 64 := by have := HV.out; omega
        have HZ := Lib.hid (show bits .or .u64 z (IntKind.u64.wrap (2 ^ (-1 - xs[k]).toNat)) = (maskOf (xs.take (k + 1)) : Nat) by have hw := orV_word hml he; rw [Int.one_mul] at hw; rw [hz, hw, maskOf_take hlt])
        clear hz he hml
        go_wp2_with (first | (go_at_call 97; refine (HK.out _).mono ?_; rintro e w' ⟨rfl, rfl⟩) | (go_at_call 99; refine (varNumber_any _ HV.out.1 HV.out.2 _).mono ?_; rintro e w' ⟨rfl, rfl⟩))
        go_round
        case rel => exact ⟨k + 1, _, by omega, by go_num, rfl, HZ.out⟩
        case measure => simp [intOf]; omega
      · have he' : isVarB xs[k] = false := by simpa using he
        have HK := Lib.hid (isVar_is he')
        have HZ := Lib.hid (show z = (maskOf (xs.take (k + 1)) : Nat) by rw [hz, maskOf_take hlt]; simp [orV, he'])
        clear hz he
        go_wp2_with (go_at_call 97; refine (HK.out _).mono ?_; rintro e w' ⟨rfl, rfl⟩)
        go_round
        case rel => exact ⟨k + 1, _, by omega, by go_num, rfl, HZ.out⟩
        case measure => simp [intOf]; omega
    · have HE := Lib.hid (show z = (maskOf xs : Nat) by rw [hz, show k = xs.length by omega, List.take_length])
      clear hz ha
      go_wp2_with (fail)
      go_ret
      exact ⟨ret_int HE.out, rfl⟩

set_option maxHeartbeats 400000 in
theorem bodyVars_any (v : Value) (ls : List LLit) (w : World) (h : RdLits w w.heap.size v ls) (hr : ls.length ≤ 1048576) (ht : totL ls ≤ 1048576) :
    Calls Tryz.prog 105 #[v] w fun e w' => e = .returned (.int .u64 (bodyMask ls : Nat)) ∧ Below w.heap.size w w' := by
  have H := Lib.hid h
  obtain ⟨A, c, rfl, hc, _⟩ := h
  go_enter Tryz.func105, Tryz.ntmps105
  go_wp2_with (fail)
  go_loopw [3, 5, 8] (fun m _ i wr => ∃ (k : Nat) (z : Int), k ≤ ls.length ∧ i = .int .i64 k ∧ m = .int .u64 z ∧ z = (bodyMask (ls.take k) : Nat) ∧ Below w.heap.size w wr) (fun _ _ i _ => ls.length - (intOf i).toNat)
  case atStart => exact ⟨0, 0, Nat.zero_le _, rfl, rfl, rfl, Below.refl _ _⟩
  case round =>
    obtain ⟨k, z, hk, rfl, rfl, hz, hbe⟩ := hrel
    by_cases hlt : k < ls.length
    · obtain ⟨b, o, u0, u1, u2, rfl, hbB, k0, k1, k2, rfl, rfl, p3⟩ := (H.out.on hbe).get hlt
      have HA := Lib.hid p3
      obtain ⟨A3, c3, rfl, hc3, _⟩ := p3
      have hle := len_le_totL ls k hlt
      have hml := bodyMask_lt k ls hk
      have HZ := Lib.hid (show bits .or .u64 z ((maskOf ls[k].2.2 : Nat) : Int) = (bodyMask (ls.take (k + 1)) : Nat) by rw [hz, or_word hml (maskOf_lt _), bodyMask_take hlt])
      clear hz hml
      go_wp2_with (go_at_call 95; refine (argVars_any _ ls[k].2.2 _ _ (HA.out.on (below1 _ _)) (by omega)).mono ?_; rintro e w' ⟨rfl, rfl⟩)
      go_roundw
      case rel => exact ⟨k + 1, _, by omega, by go_num, rfl, HZ.out, bthen hbe (below1 _ _)⟩
      case measure => simp [intOf]; omega
    · have HE := Lib.hid (show z = (bodyMask ls : Nat) by rw [hz, show k = ls.length by omega, List.take_length])
      clear hz
      go_wp2_with (fail)
      go_ret
      exact ⟨ret_int HE.out, hbe⟩

theorem later_int {P : Program} {f : FuncId} {args : Array Value} {w0 : World} {x : Later w0} {u v : Value} (h : Calls P f args x.val fun e w' => e = .returned u ∧ Below x.val.heap.size x.val w') (e : u = v) :
    Calls P f args x.val fun e w'' => e = .returned v ∧ ∃ y : Later w0, w'' = y.val := later_of (e ▸ h)

end Go.Proofs.YtcceololijefiaaGreatDoor
/-
  The numbers of the bits of a word: the words; the walks of TrailingZeros64, TrailingZeros, bitNumbers.
-/
namespace Go.Proofs.YtcceololijefiaaGreatDoor
open Go.RowKit

/-- The numbers of the bits of x, ascending. -/
def bitsOf (x : Nat) : List Int := ((List.range 64).filter fun j => x.testBit j).map fun j : Nat => (j : Int)
theorem bitsOf_zero : bitsOf 0 = [] := by simp [bitsOf]
theorem bitsOf_length (x : Nat) : (bitsOf x).length ≤ 64 := by
  unfold bitsOf
  rw [List.length_map]
  exact Nat.le_trans (List.length_filter_le _ _) (by simp)

theorem testBit_odd {k m j : Nat} : (2 ^ k * (2 * m + 1)).testBit j = (decide (k ≤ j) && (2 * m + 1).testBit (j - k)) := by
  rw [Nat.mul_comm, Nat.testBit_mul_two_pow]
theorem testBit_even {k m j : Nat} : (2 ^ k * (2 * m)).testBit j = (decide (k ≤ j) && (2 * m).testBit (j - k)) := by
  rw [Nat.mul_comm, Nat.testBit_mul_two_pow]
theorem filter_step (k m : Nat) (hk : k < 64) : (List.range 64).filter (fun j => (2 ^ k * (2 * m + 1)).testBit j) = k :: (List.range 64).filter (fun j => (2 ^ k * (2 * m)).testBit j) := by
  obtain ⟨d, hd⟩ : ∃ d, 64 = k + (1 + d) := ⟨63 - k, by omega⟩
  rw [hd, List.range_add, List.filter_append, List.filter_append, List.range_add, List.map_append, List.filter_append, List.filter_append]
  have h1 : (List.range k).filter (fun j => (2 ^ k * (2 * m + 1)).testBit j) = [] := by
    rw [List.filter_eq_nil_iff]
    intro j hj
    have hj := List.mem_range.1 hj
    rw [testBit_odd]
    simp
    omega
  have h2 : (List.range k).filter (fun j => (2 ^ k * (2 * m)).testBit j) = [] := by
    rw [List.filter_eq_nil_iff]
    intro j hj
    have hj := List.mem_range.1 hj
    rw [testBit_even]
    simp
    omega
  have h3 : ((List.range 1).map (k + ·)).filter (fun j => (2 ^ k * (2 * m + 1)).testBit j) = [k] := by
    have : (2 ^ k * (2 * m + 1)).testBit k = true := by rw [testBit_odd]; simp [Nat.testBit_zero]
    simp [this]
  have h4 : ((List.range 1).map (k + ·)).filter (fun j => (2 ^ k * (2 * m)).testBit j) = [] := by
    have : (2 ^ k * (2 * m)).testBit k = false := by rw [testBit_even]; simp [Nat.testBit_zero]
    simp [this]
  rw [h1, h2, h3, h4, List.nil_append, List.nil_append, List.nil_append, List.singleton_append]
  congr 1
  apply List.filter_congr
  intro j hj
  simp only [List.mem_map, List.mem_range] at hj
  obtain ⟨a, ⟨b, hb, rfl⟩, rfl⟩ := hj
  rw [testBit_odd, testBit_even]
  have e : k + (1 + b) - k = b + 1 := by omega
  rw [e, Nat.testBit_succ, Nat.testBit_succ]
  congr 2
  omega
/-- The lowest bit, and the others. -/
theorem bitsOf_step {x : Nat} (h0 : x ≠ 0) (hx : x < 2 ^ 64) : bitsOf x = (Lib.ctz 64 x : Int) :: bitsOf (x &&& (x - 1)) ∧ x &&& (x - 1) < x := by
  obtain ⟨m, hm, hk⟩ := Lib.ctzFrom_spec 64 x (by omega) hx
  have hc : Lib.ctz 64 x = Lib.ctzFrom 64 x := by unfold Lib.ctz; rw [if_neg h0]
  rw [hc]
  generalize Lib.ctzFrom 64 x = k at hm hk
  have hp : 0 < 2 ^ k := Nat.two_pow_pos k
  have hand : x &&& (x - 1) = 2 ^ k * (2 * m) := by
    apply Nat.eq_of_testBit_eq
    intro j
    rw [Nat.testBit_and]
    have e1 : x - 1 = 2 ^ k * (2 * m) + (2 ^ k - 1) := by
      rw [hm, Nat.mul_add, Nat.mul_one]
      omega
    rw [e1, Nat.testBit_two_pow_mul_add _ (by omega), testBit_even, hm, testBit_odd]
    by_cases hj : j < k
    · have hkj : decide (k ≤ j) = false := by simp; omega
      rw [hkj]
      simp
    · rw [if_neg hj]
      have : k ≤ j := by omega
      simp only [this, decide_true, Bool.true_and]
      by_cases e : j = k
      · subst e
        simp [Nat.testBit_zero]
      · obtain ⟨i, rfl⟩ : ∃ i, j = k + (i + 1) := ⟨j - k - 1, by omega⟩
        have e3 : k + (i + 1) - k = i + 1 := by omega
        rw [e3, Nat.testBit_succ, Nat.testBit_succ]
        have d1 : (2 * m + 1) / 2 = m := by omega
        have d2 : 2 * m / 2 = m := by omega
        rw [d1, d2, Bool.and_self]
  refine ⟨?_, ?_⟩
  · rw [hand, hm]
    unfold bitsOf
    rw [filter_step k m hk]
    simp
  · rw [hand, hm, Nat.mul_add, Nat.mul_one]
    omega

/-- The table behind TrailingZeros64 lies in its variable. -/
def Tab (w : World) : Prop := _root_.Go.Proofs.TabAt 0 Lib.deBruijn64tab w ∧ 0 < w.heap.size
theorem Tab.below {w w' : World} (h : Tab w) (hb : Below w.heap.size w w') : Tab w' := ⟨fun j hj => (hb.cell (p := ⟨0, j, none⟩) h.2).trans (h.1 j hj), Nat.lt_of_lt_of_le h.2 hb.size⟩

set_option maxHeartbeats 1000000 in
theorem tz64_core (x k idx : Nat) (w : World) (hx0 : ((x : Int) == 0) = false)
    (key : IntKind.u64.wrap (bits BinOp.and IntKind.u64 (x : Int) (IntKind.u64.wrap (-(x : Int))) * 285870213051353865) / 288230376151711744 = (idx : Int))
    (hi : idx < 64) (hk : k < 64) (hcell : w.cell? ⟨0, idx, none⟩ = some (.int .u8 k)) :
    Calls Tryz.prog 51 #[.int .u64 x] w fun e w' => e = .returned (.int .i64 k) ∧ w = w' := by
  go_enter Tryz.func51, Tryz.ntmps51
  go_wp2_with (simp only [key])
  go_ret
  exact ⟨rfl, rfl⟩

theorem tz64_any (x : Nat) (hx : x < 18446744073709551616) (h0 : x ≠ 0) (w : World) (hT : Tab w) :
    Calls Tryz.prog 51 #[.int .u64 x] w fun e w' => e = .returned (.int .i64 (Lib.ctz 64 x)) ∧ w = w' := by
  obtain ⟨hlow, hk⟩ := Lib.lowest_bit 64 x h0 hx
  obtain ⟨hi, htab⟩ := Lib.deBruijn64_at _ hk
  have hc := hT.1 _ hi
  rw [htab] at hc
  exact tz64_core x _ _ w (by simpa using h0) (tz64_key x _ hx h0 hlow) hi hk hc

end Go.Proofs.YtcceololijefiaaGreatDoor
/-
  What the row's condition on the listed tables gives the walks: the table behind TrailingZeros64.
-/
namespace Go.Proofs.YtcceololijefiaaGreatDoor
open Go.RowKit

theorem Tryz.tabGlobal : Tryz.prog.globalNamed "math/bits.deBruijn64tab" = some 0 := by kernel_rfl
theorem Tryz.tabType : (Tryz.prog.globals[0]?).map (·.type) = some 114 := by kernel_rfl
theorem Tryz.tabUnder : Tryz.prog.underlying 114 = some (.array 64 5) := by kernel_rfl
theorem Tryz.tabCells : Tryz.prog.cellsOf 114 = 64 := by kernel_rfl
theorem Tryz.byteUnder : Tryz.prog.underlying 5 = some (.int .u8) := by kernel_rfl
theorem Tryz.byteCells : Tryz.prog.cellsOf 5 = 1 := by kernel_rfl

def laidTabs1 : List (String × DataW Unit) := [("math/bits.deBruijn64tab", Rows.laid_math_bits_deBruijn64tab)]
theorem tab_of_laid1 {W : World} (hL : laidMetH Tryz.prog laidTabs1 W) : Tab W := by
  have h : laidMet Tryz.prog laidTabs1 W := by rw [MakeChecks.laidMetH_plain _ _ _ (by kernel_rfl)] at hL; exact hL
  have h2 : laidMet Tryz.prog [("math/bits.deBruijn64tab", Lib.tabData .u8 (Lib.deBruijn64tab.map fun n : Nat => (n : Int)))] W := h
  have h3 := Lib.tabIs_of_head Tryz.tabGlobal Tryz.tabType Tryz.tabUnder Tryz.byteUnder Tryz.byteCells Tryz.tabCells h2
  have hat : _root_.Go.Proofs.TabAt 0 Lib.deBruijn64tab W := fun j hj => by
    have := h3.cell Tryz.tabGlobal j (by simpa using hj)
    simpa [hj] using this
  exact ⟨hat, World.block_lt_of_cell? _ _ (hat 0 (by decide))⟩

end Go.Proofs.YtcceololijefiaaGreatDoor
/-
  Words for facts (a number and a list of integers), and the walks of toFact, eqFact, szFact.
-/
namespace Go.Proofs.YtcceololijefiaaGreatDoor
open Go.RowKit

set_option maxHeartbeats 400000 in
theorem szFact_any (v : Value) (f : LFact) (left : Int) (w : World) (h : RdFact w w.heap.size v f) (h0 : 0 ≤ left) (hl : left ≤ 1048576) (hn : f.2.length ≤ 9223372036854775807) :
    Calls Tryz.prog 17 #[v, .int .i64 left] w fun e w' => e = .returned (.int .i64 (szV left f.2.length)) ∧ Below w.heap.size w w' := by
  obtain ⟨a, rfl, A, c, rfl, hc, _⟩ := h
  have hcs := szV_cases left f.2.length
  go_enter Tryz.func17, Tryz.ntmps17
  go_wp2_with (fail)
  refine (szIntS_any _ _ _ _ _ h0 hl hn).mono ?_
  rintro e w1 ⟨rfl, rfl⟩
  rcases hcs with ⟨e1, _⟩ | ⟨e1, _⟩
  · rw [e1]
    have HV := Lib.hid e1
    clear e1
    go_wp2_with (fail)
    go_ret
    exact ⟨ret_int HV.out.symm, (Below.refl _ _).alloc (Nat.le_refl _) _⟩
  · have h1 : ¬ szV left f.2.length < 0 := by omega
    go_wp2_with (fail)
    go_ret
    exact ⟨rfl, (Below.refl _ _).alloc (Nat.le_refl _) _⟩

set_option maxHeartbeats 400000 in
theorem toFact_any (v : Value) (f : LFact) (w : World) (h : RdFact w w.heap.size v f) (hn : f.2.length * 8 ≤ 140737488351232) :
    Calls Tryz.prog 23 #[v] w fun e w' => ∃ A' c', e = .returned (.agg #[.int .i64 f.1, .slice A' f.2.length c']) ∧ OwnInts w' w.heap.size w'.heap.size (.slice A' f.2.length c') f.2 ∧ Below w.heap.size w w' := by
  obtain ⟨a, rfl, h⟩ := h
  have H := Lib.hid h
  obtain ⟨A, c, rfl, hc, _⟩ := h
  go_enter Tryz.func23, Tryz.ntmps23
  go_wp2_with (fail)
  refine (toIntS_any _ f.2 _ (H.out.on (below3 _ _ _ _)) hn).mono ?_
  rintro e w4 ⟨A4, c4, rfl, ho, hb⟩
  have hB := bthen (below3 _ _ _ _) hb
  have b1 : Blk w4 (w.heap.size + 1) 51 #[.int .i64 0, .slice none 0 0] := ((by simpa using (Blk.new (w.alloc (Obj.cells #[Value.int IntKind.i64 f.fst, Value.slice A f.snd.length c] 45)) _ _).alloc _ : Blk _ _ _ _)).below hb (by simp)
  have b2 : Blk w4 (w.heap.size + 2) 51 #[.int .i64 f.1, .slice none 0 0] := ((by simpa using Blk.new ((w.alloc (Obj.cells #[Value.int IntKind.i64 f.fst, Value.slice A f.snd.length c] 45)).alloc (Obj.cells #[.int .i64 0, .slice none 0 0] 51)) _ _ : Blk _ _ _ _)).below hb (by simp)
  have b1c0 : w4.cell? ⟨w.heap.size + 1, 0, none⟩ = some (.int .i64 0) := b1.cell 0
  have b1c1 : w4.cell? ⟨w.heap.size + 1, 1, none⟩ = some (.slice none 0 0) := b1.cell 1
  have b2c0 : w4.cell? ⟨w.heap.size + 2, 0, none⟩ = some (.int .i64 f.1) := b2.cell 0
  have b2c1 : w4.cell? ⟨w.heap.size + 2, 1, none⟩ = some (.slice none 0 0) := b2.cell 1
  have b1f0 := b1.frozen 0
  have b1f1 := b1.frozen 1
  have b2f0 := b2.frozen 0
  have b2f1 := b2.frozen 1
  go_wp2_with (fail)
  refine bodyPost_ret (v := .agg #[.int .i64 f.1, .slice A4 f.2.length c4]) (by simp [results, Tryz.results23, go_sem, b1c0, b1c1]) rfl ⟨_, _, rfl, ?_, ?_⟩
  · exact (((ho.set (.inl (by simp)) _).set (.inl (by simp)) _).set (.inl (by simp)) _).mono (by simp; omega) (by simp)
  · exact ((hB.setCell (by simp <;> omega) _).setCell (by simp <;> omega) _).setCell (by simp <;> omega) _

set_option maxHeartbeats 400000 in
theorem eqFact_any (v v2 : Value) (f g : LFact) (w : World) (h : RdFact w w.heap.size v f) (h2 : RdFact w w.heap.size v2 g) (hn : f.2.length * 8 ≤ 140737488351232) (hn2 : g.2.length * 8 ≤ 140737488351232) :
    Calls Tryz.prog 28 #[v, v2] w fun e w' => e = .returned (.bool (decide (f = g))) ∧ Below w.heap.size w w' := by
  obtain ⟨a, rfl, h⟩ := h
  have H := Lib.hid h
  obtain ⟨A, c, rfl, hc, _⟩ := h
  obtain ⟨a, rfl, h2⟩ := h2
  have H2 := Lib.hid h2
  obtain ⟨A2, c2, rfl, hc2, _⟩ := h2
  by_cases hp : f.1 = g.1
  · have hpb : (f.1 != g.1) = false := by simp [hp]
    have HE := Lib.hid (show decide (f = g) = decide (f.2 = g.2) by simp [Prod.ext_iff, hp])
    clear hp
    go_enter Tryz.func28, Tryz.ntmps28
    go_wp2_with (fail)
    refine (eqIntS_any _ _ f.2 g.2 _ (H.out.on (below2 _ _ _)) (H2.out.on (below2 _ _ _)) hn hn2).mono ?_
    rintro e w4 ⟨rfl, hb⟩
    have hB := bthen (below2 _ _ _) hb
    by_cases hd : f.2 = g.2
    · have hdb : decide (f.2 = g.2) = true := by simp [hd]
      have HD := Lib.hid hdb
      clear hd
      go_wp2_with (fail)
      go_ret
      exact ⟨ret_bool (by rw [HE.out, HD.out]), hB⟩
    · have hdb : decide (f.2 = g.2) = false := by simp [hd]
      have HD := Lib.hid hdb
      clear hd
      go_wp2_with (fail)
      go_ret
      exact ⟨ret_bool (by rw [HE.out, HD.out]), hB⟩
  · have hpb : (f.1 != g.1) = true := by simp [hp]
    have HE := Lib.hid (show decide (f = g) = false by simp [Prod.ext_iff, hp])
    clear hp
    go_enter Tryz.func28, Tryz.ntmps28
    go_wp2_with (fail)
    go_ret
    exact ⟨ret_bool HE.out.symm, below2 _ _ _⟩

end Go.Proofs.YtcceololijefiaaGreatDoor
/-
  Words for lists of facts: what a slice of facts reads as, and a row of facts of the call's own. No walk.
-/
namespace Go.Proofs.YtcceololijefiaaGreatDoor
open Go.RowKit

/-- The slice value v reads as the facts fs, in blocks below B. -/
def RdFacts (w : World) (B : Nat) (v : Value) (fs : List LFact) : Prop :=
  ∃ A c, v = .slice A fs.length c ∧ fs.length ≤ c ∧ (0 < fs.length → ∃ b o, A = some ⟨b, o, none⟩ ∧ b < B ∧ ∀ k (h : k < fs.length), ∃ a,
    w.cell? ⟨b, o + k * 2, none⟩ = some (.int .i64 fs[k].1) ∧ w.cell? ⟨b, o + k * 2 + 1, none⟩ = some a ∧ RdInts w B a fs[k].2)

theorem RdFacts.below {w w' : World} {B B' : Nat} {v : Value} {fs : List LFact} (h : RdFacts w B v fs) (hb : Below B' w w') (hB : B ≤ B') : RdFacts w' B v fs := by
  obtain ⟨A, c, rfl, hc, h⟩ := h
  refine ⟨A, c, rfl, hc, fun hn => ?_⟩
  obtain ⟨b, o, rfl, hlt, hk⟩ := h hn
  refine ⟨b, o, rfl, hlt, fun k hkl => ?_⟩
  obtain ⟨a, h1, h2, h3⟩ := hk k hkl
  exact ⟨a, (hb.cell (p := ⟨b, o + k * 2, none⟩) (by show b < B'; omega)).trans h1, (hb.cell (p := ⟨b, o + k * 2 + 1, none⟩) (by show b < B'; omega)).trans h2, h3.below hb hB⟩
theorem RdFacts.more {w : World} {B B' : Nat} {v : Value} {fs : List LFact} (h : RdFacts w B v fs) (hB : B ≤ B') : RdFacts w B' v fs := by
  obtain ⟨A, c, rfl, hc, h⟩ := h
  refine ⟨A, c, rfl, hc, fun hn => ?_⟩
  obtain ⟨b, o, rfl, hlt, hk⟩ := h hn
  refine ⟨b, o, rfl, by omega, fun k hkl => ?_⟩
  obtain ⟨a, h1, h2, h3⟩ := hk k hkl
  exact ⟨a, h1, h2, h3.more hB⟩
theorem RdFacts.on {w w' : World} {v : Value} {fs : List LFact} (h : RdFacts w w.heap.size v fs) (hb : Below w.heap.size w w') : RdFacts w' w'.heap.size v fs := (h.below hb (Nat.le_refl _)).more hb.size

/-- The cells of facts, a fact's two behind each other. -/
def flat : List LFact → List Value → List Value
  | f :: fs, a :: av => .int .i64 f.1 :: a :: flat fs av
  | _, _ => []

theorem flat_length : ∀ (fs : List LFact) (av : List Value), av.length = fs.length → (flat fs av).length = fs.length * 2
  | [], _, _ => by simp [flat]
  | f :: fs, [], h => by simp at h
  | f :: fs, a :: av, h => by
    have := flat_length fs av (by simpa using h)
    simp only [flat, List.length_cons, this]
    omega
theorem flat_at : ∀ (fs : List LFact) (av : List Value) (_ : av.length = fs.length) (k : Nat) (hk : k < fs.length) (hk' : k < av.length),
    (flat fs av)[k * 2]? = some (.int .i64 fs[k].1) ∧ (flat fs av)[k * 2 + 1]? = some av[k]
  | [], _, _, k, hk, _ => absurd hk (by simp)
  | f :: fs, [], h, _, _, _ => by simp at h
  | f :: fs, a :: av, h, 0, _, _ => by simp [flat]
  | f :: fs, a :: av, h, k + 1, hk, hk' => by
    have := flat_at fs av (by simpa using h) k (by simpa using hk) (by simpa using hk')
    simpa [flat, Nat.add_mul] using this
theorem flat_snoc : ∀ (fs : List LFact) (av : List Value) (_ : av.length = fs.length) (f : LFact) (a : Value), flat (fs ++ [f]) (av ++ [a]) = flat fs av ++ [.int .i64 f.1, a]
  | [], [], _, f, a => by simp [flat]
  | [], a' :: av, h, _, _ => by simp at h
  | f :: fs, [], h, _, _ => by simp at h
  | f :: fs, a :: av, h, g, b => by simp [flat, flat_snoc fs av (by simpa using h) g b]

/-- Rows of integers of the call's own, no two in one block. -/
structure OwnArgs (w : World) (lo hi : Nat) (av : List Value) (xss : List (List Int)) : Prop where
  len : av.length = xss.length
  own : ∀ i (h : i < xss.length) (h' : i < av.length), OwnInts w lo hi av[i] xss[i]
  apart : av.Pairwise fun a b => ∀ g, a.ownBlock = some g → b.ownBlock ≠ some g

section
variable {w w' : World} {lo hi lo' hi' B : Nat} {av : List Value} {xss : List (List Int)}
theorem OwnArgs.nil : OwnArgs w lo hi [] [] := ⟨rfl, fun i h => absurd h (by simp), .nil⟩
theorem OwnArgs.below (h : OwnArgs w lo hi av xss) (hb : Below B w w') (hB : hi ≤ B) : OwnArgs w' lo hi av xss := ⟨h.len, fun i h1 h2 => (h.own i h1 h2).below hb hB, h.apart⟩
theorem OwnArgs.mono (h : OwnArgs w lo hi av xss) (h1 : lo' ≤ lo) (h2 : hi ≤ hi') : OwnArgs w lo' hi' av xss := ⟨h.len, fun i h3 h4 => (h.own i h3 h4).mono h1 h2, h.apart⟩
theorem OwnArgs.set (h : OwnArgs w lo hi av xss) {p : Addr} (hp : p.block < lo ∨ hi ≤ p.block) (u : Value) : OwnArgs (w.setCell p u) lo hi av xss := ⟨h.len, fun i h3 h4 => (h.own i h3 h4).set hp u, h.apart⟩
theorem OwnInts.block {v : Value} {xs : List Int} (h : OwnInts w lo hi v xs) {g : Nat} (hg : v.ownBlock = some g) : lo ≤ g ∧ g < hi := ⟨(h.1.lt g hg).1, h.2 g hg⟩
/-- One more, in later blocks. -/
theorem OwnArgs.snoc (h : OwnArgs w lo hi av xss) {v : Value} {xs : List Int} (hv : OwnInts w hi hi' v xs) (hl : lo ≤ hi) (hh : hi ≤ hi') : OwnArgs w lo hi' (av ++ [v]) (xss ++ [xs]) := by
  have hlen := h.len
  refine ⟨by simp [hlen], fun i h1 h2 => ?_, ?_⟩
  · by_cases e : i < xss.length
    · rw [List.getElem_append_left (by omega), List.getElem_append_left e]
      exact (h.own i e (by omega)).mono (Nat.le_refl _) hh
    · have e2 : i = xss.length := by simp at h1; omega
      subst e2
      simp [← hlen]
      exact hv.mono hl (Nat.le_refl _)
  · rw [List.pairwise_append]
    refine ⟨h.apart, by simp, fun a ha b hb g hg hg' => ?_⟩
    simp at hb
    subst hb
    obtain ⟨i, hi', rfl⟩ := List.getElem_of_mem ha
    have h1 := (h.own i (by omega) hi').block hg
    have h2 := hv.block hg'
    omega
end

/-- A row of facts of the call's own, with its rows of integers, in blocks from lo on and below hi. -/
def OwnFacts (w : World) (lo hi : Nat) (v : Value) (fs : List LFact) : Prop :=
  ∃ av, OwnArgs w lo hi av (fs.map (·.2)) ∧ w.ownsRow lo 51 2 v fs.length (flat fs av) ∧ ∀ g, v.ownBlock = some g → g < hi

section
variable {w w' : World} {lo hi lo' hi' B : Nat} {v : Value} {fs : List LFact}
theorem ownsRow_below {e : TypeId} {size n : Nat} {xs : List Value} (h : w.ownsRow lo e size v n xs) (hlt : ∀ g, v.ownBlock = some g → g < hi) (hb : Below B w w') (hB : hi ≤ B) : w'.ownsRow lo e size v n xs := by
  obtain ⟨hlen, h⟩ := h
  refine ⟨hlen, ?_⟩
  rcases h with h | ⟨g, cap, cur, rfl, hbg, hg, r⟩
  · exact .inl h
  · exact .inr ⟨g, cap, cur, rfl, hbg, by rw [hb.block g (by have := hlt g rfl; omega)]; exact hg, r⟩
theorem ownsRow_mono {e : TypeId} {size n : Nat} {xs : List Value} (h : w.ownsRow lo e size v n xs) (h1 : lo' ≤ lo) : w.ownsRow lo' e size v n xs := by
  obtain ⟨hlen, h⟩ := h
  refine ⟨hlen, ?_⟩
  rcases h with h | ⟨g, cap, cur, rfl, hbg, r⟩
  · exact .inl h
  · exact .inr ⟨g, cap, cur, rfl, by omega, r⟩
theorem OwnFacts.below (h : OwnFacts w lo hi v fs) (hb : Below B w w') (hB : hi ≤ B) : OwnFacts w' lo hi v fs := by
  obtain ⟨av, h1, h2, h3⟩ := h
  exact ⟨av, h1.below hb hB, ownsRow_below h2 h3 hb hB, h3⟩
theorem OwnFacts.mono (h : OwnFacts w lo hi v fs) (h1 : lo' ≤ lo) (h2 : hi ≤ hi') : OwnFacts w lo' hi' v fs := by
  obtain ⟨av, ha, hr, hlt⟩ := h
  exact ⟨av, ha.mono h1 h2, ownsRow_mono hr h1, fun g hg => by have := hlt g hg; omega⟩

theorem OwnFacts.rd (h : OwnFacts w lo hi v fs) : RdFacts w hi v fs := by
  obtain ⟨av, ha, hr, hlt⟩ := h
  have hcells := @World.ownsRow.cells w lo 51 2 v fs.length (flat fs av) hr
  obtain ⟨hlen, hr⟩ := hr
  have hl : av.length = fs.length := by simpa using ha.len
  rcases hr with ⟨rfl, h0⟩ | ⟨g, cap, cur, rfl, hb, hg, hn, hm, hs, ht⟩
  · have : fs = [] := List.eq_nil_of_length_eq_zero h0
    subst this
    exact ⟨none, 0, rfl, by simp, fun h => absurd h (by simp)⟩
  · refine ⟨_, cap, rfl, hn, fun _ => ⟨g, 0, rfl, hlt g rfl, fun k hk => ⟨av[k]'(by omega), ?_, ?_, ?_⟩⟩⟩
    · have := hcells (g := g) rfl _ _ (flat_at fs av hl k hk (by omega)).1
      rwa [Go.WideShapes.add_plain] at this
    · have := hcells (g := g) rfl _ _ (flat_at fs av hl k hk (by omega)).2
      rwa [Go.WideShapes.add_plain, ← Nat.add_assoc] at this
    · have := ha.own k (by simpa using hk) (by omega)
      simpa using this.rd
end

/-- n facts' cells as make lays them. -/
def zeroCells : Nat → List Value
  | 0 => []
  | n + 1 => .int .i64 0 :: .slice none 0 0 :: zeroCells n
theorem zeroCells_length : ∀ n, (zeroCells n).length = n * 2
  | 0 => rfl
  | n + 1 => by simp [zeroCells, zeroCells_length n]; omega
theorem zeroCells_at : ∀ (n j : Nat), j < n * 2 → (zeroCells n)[j]? = some (if j % 2 = 0 then .int .i64 0 else .slice none 0 0)
  | 0, j, h => by omega
  | n + 1, 0, _ => by simp [zeroCells]
  | n + 1, 1, _ => by simp [zeroCells]
  | n + 1, j + 2, h => by
    have := zeroCells_at n j (by omega)
    simp only [zeroCells, List.getElem?_cons_succ, this]
    congr 2
    simp
theorem madeCells_facts (n : Nat) : (madeCells #[.int .i64 0, .slice none 0 0] (n * 2)).toList = zeroCells n := by
  apply List.ext_getElem?
  intro j
  by_cases h : j < n * 2
  · rw [zeroCells_at n j h]
    have h2 : j % 2 = 0 ∨ j % 2 = 1 := by omega
    rcases h2 with h2 | h2 <;> simp [madeCells, h, h2]
  · rw [List.getElem?_eq_none (by simp [madeCells]; omega), List.getElem?_eq_none (by rw [zeroCells_length]; omega)]

/-- How many integers facts have together. -/
def tot (fs : List LFact) : Nat := (fs.map fun f => f.2.length).sum

theorem len_le_tot : ∀ (fs : List LFact) (k : Nat) (h : k < fs.length), fs[k].2.length ≤ tot fs
  | [], _, h => absurd h (by simp)
  | f :: fs, 0, _ => by simp [tot]
  | f :: fs, k + 1, h => by
    have := len_le_tot fs k (by simpa using h)
    simp only [tot, List.map_cons, List.sum_cons, List.getElem_cons_succ] at this ⊢
    omega
theorem tot_take : ∀ (fs : List LFact) (k : Nat) (h : k < fs.length), tot (fs.take (k + 1)) = tot (fs.take k) + fs[k].2.length
  | [], _, h => absurd h (by simp)
  | f :: fs, 0, _ => by simp [tot]
  | f :: fs, k + 1, h => by
    have := tot_take fs k (by simpa using h)
    simp only [tot, List.take_succ_cons, List.map_cons, List.sum_cons, List.getElem_cons_succ] at this ⊢
    omega
end Go.Proofs.YtcceololijefiaaGreatDoor
/-
  append of a slice of integers that is read, nil and empty let in, onto a row of the call's own: the new value written out.
-/
namespace Go.Proofs.YtcceololijefiaaGreatDoor
open Go.RowKit

section
variable {P : Program} (w : World)

theorem run_append_nilsrc (base : Nat) (t ty e : TypeId) (i : TypeInfo) (size : Nat) (ht : P.underlying t = some (.slice e)) (hi : P.info? e = some i)
    (v : Value) (n : Nat) (xs : List Value) (hown : w.ownsRow base e size v n xs) (c : Nat) : (Builtin.append_ #[t, t] ty #[v, .slice none 0 c]).run P w = .ok v w := by
  rcases hown.2 with ⟨rfl, rfl⟩ | ⟨g, cap, cur, rfl, _, _, hnc, _⟩
  · simp [Builtin.append_, run_underlying ht, sizeOf, typeInfo, hi, Builtin.lenOf, Builtin.firstCells]
  · simp [Builtin.append_, run_underlying ht, sizeOf, typeInfo, hi, Builtin.lenOf, Builtin.firstCells, hnc, storeCells]

theorem run_append_rd (base : Nat) (t ty e : TypeId) (i : TypeInfo) (z : Value) (bytes : Nat) (ht : P.underlying t = some (.slice e)) (hi : P.info? e = some i) (hz : i.zero = some z)
    (hsize : i.size = 1) (hby : i.bytes = bytes) (hzs : z.cells.size = 1)
    (v : Value) (n : Nat) (xs : List Value) (hown : w.ownsRow base e 1 v n xs) (B : Nat) (x : Value) (ys : List Int) (hr : RdInts w B x ys)
    (h63 : n + ys.length ≤ maxLen) (hbytes : (n + ys.length) * bytes ≤ 140737488355328) (hbase : base ≤ w.heap.size) :
    ∃ A' c' w', (Builtin.append_ #[t, t] ty #[v, x]).run P w = .ok (.slice A' (n + ys.length) c') w' ∧ w'.ownsRow base e 1 (.slice A' (n + ys.length) c') (n + ys.length) (xs ++ ys.map (Value.int .i64)) ∧ w.grownBy w' v.ownBlock ∧
      ((Value.slice A' (n + ys.length) c').ownBlock = v.ownBlock ∨ (Value.slice A' (n + ys.length) c').ownBlock = some w.heap.size) := by
  have hform : ∀ {w' : World} {v' : Value} {m : Nat} {zs : List Value}, w'.ownsRow base e 1 v' m zs → ∃ A c, v' = .slice A m c := by
    intro w' v' m zs h
    rcases h.2 with ⟨rfl, h0⟩ | ⟨g, cap, _, rfl, _⟩
    · exact ⟨none, 0, by rw [h0]⟩
    · exact ⟨_, _, rfl⟩
  obtain ⟨A, c, rfl, hc, hcell⟩ := hr
  rcases A with _ | ad
  · have h0 : ys.length = 0 := by
      rcases Nat.eq_zero_or_pos ys.length with h0 | h0
      · exact h0
      · obtain ⟨b, o, e, _⟩ := hcell h0
        cases e
    have hys : ys = [] := List.eq_nil_of_length_eq_zero h0
    subst hys
    obtain ⟨A', c', hv⟩ := hform hown
    refine ⟨A', c', w, ?_, by simpa [← hv] using hown, World.grownBy.refl w _, .inl (by rw [hv]; rfl)⟩
    simp only [List.length_nil, Nat.add_zero]
    rw [← hv]
    exact run_append_nilsrc w base t ty e i 1 ht hi v n xs hown c
  · have hnews : ∀ j u, (ys.map (Value.int .i64))[j]? = some u → w.cell? (ad.add j) = some u := by
      intro j u hu
      have hj : j < ys.length := by
        rcases Nat.lt_or_ge j ys.length with h | h
        · exact h
        · rw [List.getElem?_eq_none (by simpa using h)] at hu; cases hu
      obtain ⟨b, o, e, _, hx⟩ := hcell (by omega)
      injection e with e
      subst e
      rw [Go.WideShapes.add_plain, hx j hj]
      rw [List.getElem?_map, List.getElem?_eq_getElem hj] at hu
      exact hu
    obtain ⟨v', w', hrun, h2, h3, _, h5⟩ := run_append_own_at (P := P) w base t ty e i z 1 bytes ht hi hz hsize hby hzs (by decide) v n xs hown ad ys.length c (ys.map (Value.int .i64)) (by simp) hnews
      (fun u hu => by simp at hu; obtain ⟨q, _, rfl⟩ := hu; rfl) h63 hbytes hbase
    obtain ⟨A', c', hv⟩ := hform h2
    subst hv
    exact ⟨A', c', w', hrun, h2, h3, h5⟩

theorem wp_append_rd {o : Oper} {a : Act} {K : Act → World → Prop} {Q : Exit → Act → World → Prop} (s x : Operand) (t : TypeId)
    (ho : o.op = .call { callee := .builtin .append, args := #[s, x], argTypes := #[t, t] })
    (base : Nat) (e : TypeId) (i : TypeInfo) (z : Value) (bytes : Nat) (ht : P.underlying t = some (.slice e)) (hi : P.info? e = some i) (hz : i.zero = some z)
    (hsize : i.size = 1) (hby : i.bytes = bytes) (hzs : z.cells.size = 1)
    (v : Value) (n : Nat) (xs : List Value) (hs : a.eval s = v) (hown : w.ownsRow base e 1 v n xs) (B : Nat) (xv : Value) (ys : List Int) (hx : a.eval x = xv) (hr : RdInts w B xv ys)
    (h63 : n + ys.length ≤ maxLen) (hbytes : (n + ys.length) * bytes ≤ 140737488355328) (hbase : base ≤ w.heap.size)
    (h : ∀ A' c' w', w'.ownsRow base e 1 (.slice A' (n + ys.length) c') (n + ys.length) (xs ++ ys.map (Value.int .i64)) → w.grownBy w' v.ownBlock →
      ((Value.slice A' (n + ys.length) c').ownBlock = v.ownBlock ∨ (Value.slice A' (n + ys.length) c').ownBlock = some w.heap.size) → K (a.put o.dst (.slice A' (n + ys.length) c')) w') : o.wp P a w K Q := by
  obtain ⟨A', c', w', hrun, h2, h3, h4⟩ := run_append_rd (P := P) w base t o.type e i z bytes ht hi hz hsize hby hzs v n xs hown B xv ys hr h63 hbytes hbase
  unfold Oper.wp execOp
  simp only [ho, resolve, invoke, builtin, Sem.run_bind, Sem.run_pure, Result.andThen_ok, List.map_toArray, List.map_cons, List.map_nil, hs, hx, hrun]
  exact h A' c' w' h2 h3 h4

theorem step_append_rd {ops : Array Oper} {o : Oper} {a : Act} {K : Act → World → Prop} {Q : Exit → Act → World → Prop} {E : Prop} (hgd : o.guard = none) (s x : Operand) (t : TypeId)
    (ho : o.op = .call { callee := .builtin .append, args := #[s, x], argTypes := #[t, t] })
    (base : Nat) (e : TypeId) (i : TypeInfo) (z : Value) (bytes : Nat) (ht : P.underlying t = some (.slice e)) (hi : P.info? e = some i) (hz : i.zero = some z)
    (hsize : i.size = 1) (hby : i.bytes = bytes) (hzs : z.cells.size = 1)
    (v : Value) (n : Nat) (xs : List Value) (hs : a.eval s = v) (hown : w.ownsRow base e 1 v n xs) (B : Nat) (xv : Value) (ys : List Int) (hx : a.eval x = xv) (hr : RdInts w B xv ys)
    (h63 : n + ys.length ≤ maxLen) (hbytes : (n + ys.length) * bytes ≤ 140737488355328) (hbase : base ≤ w.heap.size)
    (h : ∀ A' c' w', w'.ownsRow base e 1 (.slice A' (n + ys.length) c') (n + ys.length) (xs ++ ys.map (Value.int .i64)) → w.grownBy w' v.ownBlock →
      ((Value.slice A' (n + ys.length) c').ownBlock = v.ownBlock ∨ (Value.slice A' (n + ys.length) c').ownBlock = some w.heap.size) → K (a.put o.dst (.slice A' (n + ys.length) c')) w') :
    if Region.wanted o (yielded ops a.tmps) = true then Oper.wp P o a w K Q else E := by
  have hw : Region.wanted o (yielded ops a.tmps) = true := by simp [Region.wanted, hgd]
  rw [if_pos hw]
  exact wp_append_rd w s x t ho base e i z bytes ht hi hz hsize hby hzs v n xs hs hown B xv ys hx hr h63 hbytes hbase h

theorem wpList_append_rd {ops : Array Oper} {rest : List Oper} {o : Oper} {a : Act} {Q : Exit → Act → World → Prop} (hgd : o.guard = none) (s x : Operand) (t : TypeId)
    (ho : o.op = .call { callee := .builtin .append, args := #[s, x], argTypes := #[t, t] })
    (base : Nat) (e : TypeId) (i : TypeInfo) (z : Value) (bytes : Nat) (ht : P.underlying t = some (.slice e)) (hi : P.info? e = some i) (hz : i.zero = some z)
    (hsize : i.size = 1) (hby : i.bytes = bytes) (hzs : z.cells.size = 1)
    (v : Value) (n : Nat) (xs : List Value) (hs : a.eval s = v) (hown : w.ownsRow base e 1 v n xs) (B : Nat) (xv : Value) (ys : List Int) (hx : a.eval x = xv) (hr : RdInts w B xv ys)
    (h63 : n + ys.length ≤ maxLen) (hbytes : (n + ys.length) * bytes ≤ 140737488355328) (hbase : base ≤ w.heap.size)
    (h : ∀ A' c' w', w'.ownsRow base e 1 (.slice A' (n + ys.length) c') (n + ys.length) (xs ++ ys.map (Value.int .i64)) → w.grownBy w' v.ownBlock →
      ((Value.slice A' (n + ys.length) c').ownBlock = v.ownBlock ∨ (Value.slice A' (n + ys.length) c').ownBlock = some w.heap.size) → wpList P ops Q rest (a.put o.dst (.slice A' (n + ys.length) c')) w') : wpList P ops Q (o :: rest) a w :=
  wpList_plain hgd fun _ hK => wp_append_rd w s x t ho base e i z bytes ht hi hz hsize hby hzs v n xs hs hown B xv ys hx hr h63 hbytes hbase fun A' c' w' h2 h3 h4 => hK _ _ (h A' c' w' h2 h3 h4)

end

end Go.Proofs.YtcceololijefiaaGreatDoor
/-
  The walks over lists of facts: toFactS, eqFactS, szFactS.
-/
namespace Go.Proofs.YtcceololijefiaaGreatDoor
open Go.RowKit

theorem Tryz.infoFact : (Tryz.prog.info? 51).map (fun i => (i.zero, i.size, i.bytes)) = some (some (.agg #[.int .i64 0, .slice none 0 0]), 2, 32) := by kernel_rfl

/-- What holds at toFactS's loop: k facts are copied. -/
structure ToRel (w wr : World) (fs : List LFact) (k : Nat) (av : List Value) : Prop where
  own : OwnArgs wr (w.heap.size + 1) wr.heap.size av ((fs.take k).map (·.2))
  row : ∃ cur : Array Value, Blk wr w.heap.size 51 cur ∧ cur.toList = flat (fs.take k) av ++ zeroCells (fs.length - k)
  below : Below w.heap.size w wr
  size : w.heap.size + 1 ≤ wr.heap.size

theorem ToRel.start (w : World) (fs : List LFact) : ToRel w (w.alloc (.cells (madeCells #[.int .i64 0, .slice none 0 0] (fs.length * 2)) 51)) fs 0 [] :=
  ⟨by simpa using OwnArgs.nil, ⟨_, Blk.new _ _ _, by simp [madeCells_facts, flat]⟩, below1 _ _, by simp⟩

/-- The cells that the next fact will take. -/
theorem ToRel.room {w wr : World} {fs : List LFact} {k : Nat} {av : List Value} (hr : ToRel w wr fs k av) (hlt : k < fs.length) {w4 : World} (hb : Below wr.heap.size wr w4) :
    w4.cell? ⟨w.heap.size, k * 2, none⟩ = some (.int .i64 0) ∧ w4.cell? ⟨w.heap.size, k * 2 + 1, none⟩ = some (.slice none 0 0) ∧ w4.frozen? ⟨w.heap.size, k * 2, none⟩ = false ∧ w4.frozen? ⟨w.heap.size, k * 2 + 1, none⟩ = false := by
  obtain ⟨ho, ⟨cur, hB, hcur⟩, hbe, hsz⟩ := hr
  have hB4 := hB.below hb (by omega)
  have hl : (flat (fs.take k) av).length = k * 2 := by
    rw [flat_length _ _ (by simpa using ho.len)]
    simp
    omega
  have hz : ∀ j, j < 2 → cur[k * 2 + j]? = some (if j % 2 = 0 then .int .i64 0 else .slice none 0 0) := fun j hj => by
    rw [← Array.getElem?_toList, hcur, List.getElem?_append_right (by omega), hl, show k * 2 + j - k * 2 = j by omega]
    exact zeroCells_at _ _ (by omega)
  exact ⟨(hB4.cell _).trans (hz 0 (by omega)), (hB4.cell _).trans (hz 1 (by omega)), hB4.frozen _, hB4.frozen _⟩

theorem ToRel.step {w wr : World} {fs : List LFact} {k : Nat} {av : List Value} (hr : ToRel w wr fs k av) (hlt : k < fs.length) {w4 : World} (hb : Below wr.heap.size wr w4) {a : Value}
    (ha : OwnInts w4 wr.heap.size w4.heap.size a fs[k].2) : ToRel w ((w4.setCell ⟨w.heap.size, k * 2, none⟩ (.int .i64 fs[k].1)).setCell ⟨w.heap.size, k * 2 + 1, none⟩ a) fs (k + 1) (av ++ [a]) := by
  obtain ⟨ho, ⟨cur, hB, hcur⟩, hbe, hsz⟩ := hr
  have hB4 := hB.below hb (by omega)
  have hl : (flat (fs.take k) av).length = k * 2 := by
    rw [flat_length _ _ (by simpa using ho.len)]
    simp
    omega
  have hs4 := hb.size
  refine ⟨?_, ⟨_, (hB4.set_ _ _).set_ _ _, ?_⟩, ((hbe.trans (hb.mono hbe.size)).setCell (Nat.le_refl _) _).setCell (Nat.le_refl _) _, by simp; omega⟩
  · have h1 := ((ho.below hb (Nat.le_refl _)).snoc ha (by omega) hs4)
    have h2 := (h1.set (p := ⟨w.heap.size, k * 2, none⟩) (.inl (by simp)) (.int .i64 fs[k].1)).set (p := ⟨w.heap.size, k * 2 + 1, none⟩) (.inl (by simp)) a
    have hs : ((w4.setCell ⟨w.heap.size, k * 2, none⟩ (.int .i64 fs[k].1)).setCell ⟨w.heap.size, k * 2 + 1, none⟩ a).heap.size = w4.heap.size := by simp
    rw [take_snoc fs k hlt, List.map_append, hs]
    exact h2
  · rw [take_snoc fs k hlt, flat_snoc _ _ (by simpa using ho.len)]
    obtain ⟨m, hm⟩ : ∃ m, fs.length - k = m + 1 := ⟨fs.length - k - 1, by omega⟩
    rw [show fs.length - (k + 1) = m by omega]
    simp [Array.toList_setIfInBounds, hcur, hm, zeroCells, List.set_append_right, hl]

theorem ToRel.done {w wr : World} {fs : List LFact} {av : List Value} (hr : ToRel w wr fs fs.length av) (hm : fs.length ≤ maxLen) : OwnFacts wr w.heap.size wr.heap.size (.slice (some ⟨w.heap.size, 0, none⟩) fs.length fs.length) fs := by
  obtain ⟨ho, ⟨cur, hB, hcur⟩, hbe, hsz⟩ := hr
  simp only [List.take_length, Nat.sub_self, zeroCells, List.append_nil] at ho hcur
  have hl := flat_length fs av (by simpa using ho.len)
  have hcl : cur.size = fs.length * 2 := by rw [← Array.length_toList, hcur, hl]
  refine ⟨av, ho.mono (by omega) (Nat.le_refl _), ⟨hl, .inr ⟨w.heap.size, fs.length, cur, rfl, Nat.le_refl _, hB, Nat.le_refl _, hm, hcl, ?_⟩⟩, fun g hg => ?_⟩
  · rw [hcur, ← hl, List.take_length]
  · simp [Value.ownBlock] at hg
    omega

set_option maxHeartbeats 400000 in
theorem toFactS_any (v : Value) (fs : List LFact) (w : World) (h : RdFacts w w.heap.size v fs) (hl : fs.length ≤ 1048576) (hn : tot fs ≤ 1048576) :
    Calls Tryz.prog 8 #[v] w fun e w' => ∃ A' c', e = .returned (.slice A' fs.length c') ∧ OwnFacts w' w.heap.size w'.heap.size (.slice A' fs.length c') fs ∧ Below w.heap.size w w' := by
  obtain ⟨i0, hi0, hz0, hz1, hz2⟩ := info_parts Tryz.infoFact
  have hmk := fun W => run_make_rowN (P := Tryz.prog) 29 51 i0 (.agg #[.int .i64 0, .slice none 0 0]) Tryz.underlying29 hi0 hz0 .i64 .i64 fs.length fs.length (Nat.le_refl _) (by rw [hz2]; omega) (by omega) W
  rw [hz1] at hmk
  simp only [Value.cells] at hmk
  have H := Lib.hid h
  obtain ⟨A, c, rfl, hc, hcell⟩ := h
  go_enter Tryz.func8, Tryz.ntmps8
  go_wp2_with (fail)
  go_loopw [4] (fun i wr => ∃ (k : Nat) (av : List Value), k ≤ fs.length ∧ i = .int .i64 k ∧ ToRel w wr fs k av) (fun i _ => fs.length - (intOf i).toNat)
  case atStart => exact ⟨0, [], Nat.zero_le _, rfl, ToRel.start w fs⟩
  case round =>
    obtain ⟨k, av, hk, rfl, hr⟩ := hrel
    by_cases hlt : k < fs.length
    · obtain ⟨b, o, rfl, hbB, hx⟩ := hcell (by omega)
      obtain ⟨a, hc1, hc2, hc3⟩ := hx k hlt
      have hk1 : wr.cell? ⟨b, o + k * 2, none⟩ = some (.int .i64 fs[k].1) := (hr.below.cell (p := ⟨b, o + k * 2, none⟩) hbB).trans hc1
      have hk2 : wr.cell? ⟨b, o + k * 2 + 1, none⟩ = some a := (hr.below.cell (p := ⟨b, o + k * 2 + 1, none⟩) hbB).trans hc2
      have HA := Lib.hid hc3
      obtain ⟨A3, c3, rfl, hc4, _⟩ := hc3
      clear hx hc1 hc2 hcell
      have hln := len_le_tot fs k hlt
      go_wp2_with (fail)
      refine (toFact_any _ fs[k] _ ⟨_, rfl, (HA.out.below hr.below (Nat.le_refl _)).more hr.below.size⟩ (by omega)).mono ?_
      rintro e w4 ⟨A4, c4, rfl, ho4, hb4⟩
      obtain ⟨r1, r2, r3, r4⟩ := hr.room hlt hb4
      have hstep := hr.step hlt hb4 ho4
      go_wp2_with (fail)
      go_roundw
      case rel => exact ⟨k + 1, _, by omega, by go_num, hstep⟩
      case measure => simp [intOf]; omega
    · have hkn : k = fs.length := by omega
      have HO := Lib.hid (show OwnFacts wr w.heap.size wr.heap.size (.slice (some ⟨w.heap.size, 0, none⟩) fs.length fs.length) fs from ToRel.done (by rw [← hkn]; exact hr) (by unfold maxLen; omega))
      have hbe := hr.below
      clear hkn hr hcell
      go_wp2_with (fail)
      go_ret
      exact ⟨_, _, rfl, HO.out, hbe⟩

/-- 'the first k of both are the same', kept from the walk. -/
def FSameTo (xs ys : List LFact) (k : Nat) : Prop := xs.take k = ys.take k
theorem FSameTo.step {xs ys : List LFact} {k : Nat} (h : FSameTo xs ys k) (h1 : k < xs.length) (h2 : k < ys.length) (e : xs[k] = ys[k]) : FSameTo xs ys (k + 1) := by
  unfold FSameTo at h ⊢
  rw [take_snoc xs k h1, take_snoc ys k h2, h, e]
theorem FSameTo.eq {xs ys : List LFact} (h : FSameTo xs ys xs.length) (hl : xs.length = ys.length) : xs = ys := by
  unfold FSameTo at h
  rwa [List.take_length, hl, List.take_length] at h

set_option maxHeartbeats 400000 in
set_option maxRecDepth 100000 in
theorem eqFactS_any (va vb : Value) (xs ys : List LFact) (w : World) (ha : RdFacts w w.heap.size va xs) (hb : RdFacts w w.heap.size vb ys) (hx : xs.length ≤ 1048576) (hy : ys.length ≤ 1048576) (htx : tot xs ≤ 1048576) (hty : tot ys ≤ 1048576) :
    Calls Tryz.prog 10 #[va, vb] w fun e w' => e = .returned (.bool (decide (xs = ys))) ∧ Below w.heap.size w w' := by
  obtain ⟨A, c, rfl, hc, ha⟩ := ha
  obtain ⟨A2, c2, rfl, hc2, hb⟩ := hb
  by_cases hl : xs.length = ys.length
  · have hl1 : ((xs.length : Int) != (ys.length : Int)) = false := by simp [hl]
    have HL := Lib.hid hl
    clear hl
    go_enter Tryz.func10, Tryz.ntmps10
    go_wp2_with (fail)
    go_loopw [5] (fun i wr => ∃ k : Nat, k ≤ xs.length ∧ i = .int .i64 k ∧ FSameTo xs ys k ∧ Below w.heap.size w wr) (fun i _ => xs.length - (intOf i).toNat)
    case atStart => exact ⟨0, Nat.zero_le _, rfl, rfl, Below.refl _ _⟩
    case round =>
      obtain ⟨k, hk, rfl, hs, hbe⟩ := hrel
      by_cases hlt : k < xs.length
      · have hlt2 : k < ys.length := by have := HL.out; omega
        obtain ⟨b, o, rfl, hbB, hxx⟩ := ha (by omega)
        obtain ⟨b2, o2, rfl, hbB2, hyy⟩ := hb (by omega)
        obtain ⟨a, p1, p2, p3⟩ := hxx k hlt
        obtain ⟨a', q1, q2, q3⟩ := hyy k hlt2
        have k1 : wr.cell? ⟨b, o + k * 2, none⟩ = some (.int .i64 xs[k].1) := (hbe.cell (p := ⟨b, o + k * 2, none⟩) hbB).trans p1
        have k2 : wr.cell? ⟨b, o + k * 2 + 1, none⟩ = some a := (hbe.cell (p := ⟨b, o + k * 2 + 1, none⟩) hbB).trans p2
        have k3 : wr.cell? ⟨b2, o2 + k * 2, none⟩ = some (.int .i64 ys[k].1) := (hbe.cell (p := ⟨b2, o2 + k * 2, none⟩) hbB2).trans q1
        have k4 : wr.cell? ⟨b2, o2 + k * 2 + 1, none⟩ = some a' := (hbe.cell (p := ⟨b2, o2 + k * 2 + 1, none⟩) hbB2).trans q2
        have hln := len_le_tot xs k hlt
        have hln2 := len_le_tot ys k hlt2
        have HA := Lib.hid p3
        have HA2 := Lib.hid q3
        obtain ⟨A3, c3, rfl, hc3, _⟩ := p3
        obtain ⟨A4, c4, rfl, hc4, _⟩ := q3
        clear hxx hyy ha hb p1 p2 q1 q2
        go_wp2_with (fail)
        go_still_tail 8, (by kernel_rfl)
        change wpList _ _ _ _ _ wr.drew
        obtain ⟨w2, hw2⟩ : ∃ w2, w2 = wr.drew := ⟨_, rfl⟩
        rw [← hw2]
        have hbe2 : Below w.heap.size w w2 := by rw [hw2]; exact hbe.drew
        clear hw2
        go_wp2_with (fail)
        refine (eqFact_any _ _ xs[k] ys[k] _ ⟨_, rfl, (HA.out.below hbe2 (Nat.le_refl _)).more hbe2.size⟩ ⟨_, rfl, (HA2.out.below hbe2 (Nat.le_refl _)).more hbe2.size⟩ (by omega) (by omega)).mono ?_
        rintro e w4 ⟨rfl, hb4⟩
        have hB4 := hbe2.trans (hb4.mono hbe2.size)
        by_cases he : xs[k] = ys[k]
        · have hdb : decide (xs[k] = ys[k]) = true := by simp [he]
          have HS := Lib.hid (hs.step hlt hlt2 he)
          clear he hs
          go_wp2_with (fail)
          go_roundw
          case rel => exact ⟨k + 1, by omega, by go_num, HS.out, hB4⟩
          case measure => simp [intOf]; omega
        · have hdb : decide (xs[k] = ys[k]) = false := by simp [he]
          have HE := Lib.hid (show xs ≠ ys from fun e => he (by subst e; rfl))
          clear he hs
          go_wp2_with (fail)
          go_ret
          exact ⟨ret_bool (by simp [HE.out]), hB4⟩
      · have hkn : k = xs.length := by omega
        have HE := Lib.hid (show xs = ys from FSameTo.eq (by rw [← hkn]; exact hs) HL.out)
        clear hkn hs ha hb
        go_wp2_with (fail)
        go_ret
        exact ⟨ret_bool (by simp [HE.out]), hbe⟩
  · have hl1 : ((xs.length : Int) != (ys.length : Int)) = true := by simp; omega
    have HE := Lib.hid (show xs ≠ ys from fun e => hl (by rw [e]))
    clear ha hb hl
    go_enter Tryz.func10, Tryz.ntmps10
    go_wp2_with (fail)
    go_ret
    exact ⟨ret_bool (by simp [HE.out]), Below.refl _ _⟩

/-- What szFactS answers: -1, or what is left when the facts and all their integers are taken. -/
def SzResF (r left : Int) (fs : List LFact) : Prop := r = -1 ∨ (0 ≤ r ∧ r + fs.length + tot fs = left)
def SzToF (r left : Int) (fs : List LFact) (k : Nat) : Prop := 0 ≤ r ∧ r + fs.length + tot (fs.take k) = left

set_option maxHeartbeats 400000 in
theorem szFactS_any (v : Value) (fs : List LFact) (left : Int) (w : World) (h : RdFacts w w.heap.size v fs) (h0 : 0 ≤ left) (hl : left ≤ 1048576) (hn : fs.length ≤ 9223372036854775807) (hm : ∀ k (h : k < fs.length), fs[k].2.length ≤ 9223372036854775807) :
    Calls Tryz.prog 5 #[v, .int .i64 left] w fun e w' => ∃ r, e = .returned (.int .i64 r) ∧ SzResF r left fs ∧ Below w.heap.size w w' := by
  obtain ⟨A, c, rfl, hc, hcell⟩ := h
  by_cases hneg : left - (fs.length : Int) < 0
  · go_enter Tryz.func5, Tryz.ntmps5
    go_wp2_with (fail)
    go_ret
    exact ⟨_, rfl, .inl rfl, Below.refl _ _⟩
  · go_enter Tryz.func5, Tryz.ntmps5
    go_wp2_with (fail)
    go_loopw [1, 5] (fun l i wr => ∃ (k : Nat) (r : Int), k ≤ fs.length ∧ i = .int .i64 k ∧ l = .int .i64 r ∧ SzToF r left fs k ∧ Below w.heap.size w wr) (fun _ i _ => fs.length - (intOf i).toNat)
    case atStart => exact ⟨0, _, Nat.zero_le _, rfl, rfl, ⟨by omega, by simp [tot]⟩, Below.refl _ _⟩
    case round =>
      obtain ⟨k, r, hk, rfl, rfl, hs, hbe⟩ := hrel
      by_cases hlt : k < fs.length
      · obtain ⟨b, o, rfl, hbB, hx⟩ := hcell (by omega)
        obtain ⟨a, p1, p2, p3⟩ := hx k hlt
        have k1 : wr.cell? ⟨b, o + k * 2, none⟩ = some (.int .i64 fs[k].1) := (hbe.cell (p := ⟨b, o + k * 2, none⟩) hbB).trans p1
        have k2 : wr.cell? ⟨b, o + k * 2 + 1, none⟩ = some a := (hbe.cell (p := ⟨b, o + k * 2 + 1, none⟩) hbB).trans p2
        have HA := Lib.hid p3
        obtain ⟨A3, c3, rfl, hc3, _⟩ := p3
        have hmk := hm k hlt
        have htk := tot_take fs k hlt
        have hcs := szV_cases r fs[k].2.length
        have hr0 := hs.1
        have hr1 := hs.2
        have HT := Lib.hid (And.intro htk hr1)
        clear htk hr1 hx p1 p2 hcell
        go_wp2_with (fail)
        refine (szFact_any _ fs[k] r _ ⟨_, rfl, (HA.out.below hbe (Nat.le_refl _)).more hbe.size⟩ hr0 (by have := HT.out; omega) hmk).mono ?_
        rintro e w4 ⟨rfl, hb4⟩
        have hB4 := hbe.trans (hb4.mono hbe.size)
        rcases hcs with ⟨e1, _⟩ | ⟨e1, e2⟩
        · rw [e1]
          clear e1
          go_wp2_with (fail)
          go_ret
          exact ⟨_, rfl, .inl rfl, hB4⟩
        · have h1 : ¬ szV r fs[k].2.length < 0 := by omega
          have HS := Lib.hid (show SzToF (szV r fs[k].2.length) left fs (k + 1) from ⟨e1, by have := HT.out; omega⟩)
          clear e2
          go_wp2_with (fail)
          go_roundw
          case rel => exact ⟨k + 1, _, by omega, by go_num, rfl, HS.out, hB4⟩
          case measure => simp [intOf]; omega
      · have hkn : k = fs.length := by omega
        have HE := Lib.hid (show SzResF r left fs from .inr ⟨hs.1, by have := hs.2; rw [hkn, List.take_length] at this; exact this⟩)
        clear hkn hs hcell
        go_wp2_with (fail)
        go_ret
        exact ⟨_, rfl, HE.out, hbe⟩

end Go.Proofs.YtcceololijefiaaGreatDoor
/-
  Marks: what markIntS, markFactS leave and heldIntS, heldFactS find. The words, and the walks over integers.
-/
namespace Go.Proofs.YtcceololijefiaaGreatDoor
open Go.RowKit

section
variable {lo hi lo' hi' : Nat} {w w1 w' : World}
theorem OwnFacts.only {v : Value} {fs : List LFact} (h : OwnFacts w lo hi v fs) (ho : Only lo' hi' w w') (hd : hi ≤ lo' ∨ hi' ≤ lo) : OwnFacts w' lo hi v fs := by
  obtain ⟨av, ha, hr, hlt⟩ := h
  exact ⟨av, ⟨ha.len, fun i h1 h2 => (ha.own i h1 h2).only ho hd, ha.apart⟩, ownsRow_only hr (fun g hg => ho.block g (hr.lt g hg).2 (by have := hr.lt g hg; have := hlt g hg; omega)), hlt⟩

end

end Go.Proofs.YtcceololijefiaaGreatDoor
/-
  The walks that copy a fact: the program's copyFact, the specification's l1Copy.
-/
namespace Go.Proofs.YtcceololijefiaaGreatDoor
open Go.RowKit

theorem Only.keepsRd {lo hi : Nat} {w w' : World} (h : Only lo hi w w') {v : Value} {xs : List Int} {B : Nat} (hr : RdInts w B v xs) (hB : B ≤ lo) (hs : B ≤ w.heap.size) : RdInts w' w'.heap.size v xs :=
  (hr.below (h.below hB hs) (Nat.le_refl _)).more (Nat.le_trans hs h.size)
theorem Only.blk {lo hi : Nat} {w w' : World} (h : Only lo hi w w') {g : Nat} {t : TypeId} {cs : Array Value} (hb : Blk w g t cs) (hg : g < lo ∨ hi ≤ g) : Blk w' g t cs := (h.block g hb.lt hg).trans hb

end Go.Proofs.YtcceololijefiaaGreatDoor
/-
  The walk of the specification's l1Copy.
-/
namespace Go.Proofs.YtcceololijefiaaGreatDoor
open Go.RowKit

/-- What holds at l1Copy's loop: k integers are copied. -/
structure CpRel (w wr : World) (f : LFact) (A : Option Addr) (c k : Nat) (A' : Option Addr) (c' : Nat) : Prop where
  below : Below w.heap.size w wr
  src : Blk wr w.heap.size 51 #[.int .i64 f.1, .slice A f.2.length c]
  res : Blk wr (w.heap.size + 1) 51 #[.int .i64 0, .slice none 0 0]
  out : Blk wr (w.heap.size + 2) 51 #[.int .i64 f.1, .slice A' k c']
  own : wr.ownsRow (w.heap.size + 3) 3 1 (.slice A' k c') k ((f.2.take k).map (Value.int .i64))

theorem blk_ne_row {w : World} {base n size g : Nat} {e t : TypeId} {v : Value} {xs : List Value} {cs : Array Value} (h : w.ownsRow base e size v n xs) (hb : Blk w g t cs) (hne : e ≠ t) : v.ownBlock ≠ some g := by
  rcases h.2 with ⟨rfl, _⟩ | ⟨g', cap, cur, rfl, _, hh, _⟩
  · simp [Value.ownBlock]
  · intro he
    have : g' = g := by simpa [Value.ownBlock] using he
    subst this
    unfold Blk at hb
    rw [hh] at hb
    injection hb with hb
    injection hb with _ hb
    exact hne hb
theorem grown_from_alloc_drew {w w' : World} {o : Obj} {row : Option Nat} (hg : ((w.alloc o).drew).grownBy w' row) : w.grownBy w' row :=
  ⟨hg.os, hg.tape, hg.output, Nat.le_trans (by show w.heap.size ≤ (w.alloc o).heap.size; simp) hg.size, fun i hi hne => (hg.block i (Nat.lt_of_lt_of_le hi (by show w.heap.size ≤ (w.alloc o).heap.size; simp)) hne).trans (Below.heap_alloc _ _ _ hi)⟩
theorem own_alloc_drew {w : World} {base size n : Nat} {e : TypeId} {v : Value} {xs : List Value} (h : w.ownsRow base e size v n xs) (o : Obj) : ((w.alloc o).drew).ownsRow base e size v n xs := h.alloc o
theorem news_alloc_drew (w : World) (x : Value) (t : TypeId) : ∀ j u, [x][j]? = some u → ((w.alloc (.cells #[x] t)).drew).cell? ((⟨w.heap.size, 0, none⟩ : Addr).add j) = some u := cell_one_new w x t

theorem CpRel.start (w : World) (f : LFact) (A : Option Addr) (c : Nat) : CpRel w (((w.alloc (Obj.cells #[Value.int IntKind.i64 f.1, Value.slice A f.2.length c] 51)).alloc (Obj.cells #[Value.int IntKind.i64 0, Value.slice none 0 0] 51)).alloc (Obj.cells #[Value.int IntKind.i64 f.1, Value.slice none 0 0] 51)) f A c 0 none 0 :=
  ⟨below3 _ _ _ _, ((Blk.new w _ _).alloc _).alloc _, by simpa using (Blk.new (w.alloc (Obj.cells #[Value.int IntKind.i64 f.1, Value.slice A f.2.length c] 51)) 51 #[.int .i64 0, .slice none 0 0]).alloc (Obj.cells #[Value.int IntKind.i64 f.1, Value.slice none 0 0] 51),
    by simpa using Blk.new ((w.alloc (Obj.cells #[Value.int IntKind.i64 f.1, Value.slice A f.2.length c] 51)).alloc (Obj.cells #[Value.int IntKind.i64 0, Value.slice none 0 0] 51)) 51 #[.int .i64 f.1, .slice none 0 0],
    by simpa using World.ownsRow_nil _ _ _ _⟩

theorem CpRel.step {w wr w2 : World} {f : LFact} {A A' : Option Addr} {c k c' g cap : Nat} (hr : CpRel w wr f A c k A' c') (hlt : k < f.2.length) (hg : wr.grownBy w2 (Value.slice A' k c').ownBlock)
    (hown : w2.ownsRow (w.heap.size + 3) 3 1 (.slice (some ⟨g, 0, none⟩) (k + 1) cap) (k + 1) ((f.2.take k).map (Value.int .i64) ++ [.int .i64 f.2[k]])) :
    CpRel w (w2.setCell ⟨w.heap.size + 2, 1, none⟩ (.slice (some ⟨g, 0, none⟩) (k + 1) cap)) f A c (k + 1) (some ⟨g, 0, none⟩) cap := by
  obtain ⟨h1, h2, h3, h4, h5⟩ := hr
  have keep : ∀ {b : Nat} {cs : Array Value}, Blk wr b 51 cs → Blk w2 b 51 cs := fun hb => (hg.block _ hb.lt (fun e => blk_ne_row h5 hb (by decide) e.symm)).trans hb
  have hs := h4.lt
  refine ⟨(h1.grown hg h1.size (fun b hb => by have := (h5.lt b hb).1; omega)).setCell (by show w.heap.size ≤ w.heap.size + 2; omega) _, (keep h2).far (by show w.heap.size ≠ w.heap.size + 2; omega) _, (keep h3).far (by show w.heap.size + 1 ≠ w.heap.size + 2; omega) _, (keep h4).set_ 1 _, ?_⟩
  rw [take_snoc f.2 k hlt, List.map_append]
  exact ownsRow_only hown (fun b hb => Below.heap_setCell _ _ _ _ (fun e => blk_ne_row hown (keep h4) (by decide) (by rw [hb, e])))

set_option maxHeartbeats 1000000 in
set_option maxRecDepth 100000 in
theorem l1Copy_any (v : Value) (f : LFact) (w : World) (h : RdFact w w.heap.size v f) (hn : f.2.length ≤ 1073741824) :
    Calls Tryz.prog 81 #[v] w fun e w' => ∃ A' c', e = .returned (.agg #[.int .i64 f.1, .slice A' f.2.length c']) ∧ OwnInts w' w.heap.size w'.heap.size (.slice A' f.2.length c') f.2 ∧ Below w.heap.size w w' := by
  obtain ⟨i0, hi0, hz0, hz1, hz2⟩ := info_parts Tryz.infoInt
  obtain ⟨a, rfl, h⟩ := h
  obtain ⟨A, c, rfl, hc, hcell⟩ := h
  go_enter Tryz.func81, Tryz.ntmps81
  go_wp2_with (fail)
  go_loopw [4] (fun i wr => ∃ (k : Nat) (A' : Option Addr) (c' : Nat), k ≤ f.2.length ∧ i = .int .i64 k ∧ CpRel w wr f A c k A' c') (fun i _ => f.2.length - (intOf i).toNat)
  case atStart => exact ⟨0, none, 0, Nat.zero_le _, rfl, CpRel.start w f A c⟩
  case round =>
    obtain ⟨k, A', c', hk, rfl, hr⟩ := hrel
    have q0 : wr.cell? ⟨w.heap.size, 1, none⟩ = some (.slice A f.2.length c) := hr.src.cell 1
    by_cases hlt : k < f.2.length
    · obtain ⟨b, o, rfl, hbB, hx⟩ := hcell (by omega)
      have q1 : wr.cell? ⟨w.heap.size + 2, 1, none⟩ = some (.slice A' k c') := hr.out.cell 1
      have q2 : wr.cell? ⟨b, o + k, none⟩ = some (.int .i64 f.2[k]) := (hr.below.cell (p := ⟨b, o + k, none⟩) hbB).trans (hx k hlt)
      have hbs := hr.out.lt
      clear hx hcell
      go_wp2_with (fail)
      have hf1 := hr.out.frozen 1
      have HR := Lib.hid hr
      go_region_law (first
        | (refine step_append_lies _ rfl (.tmp 16) (.tmp 22) 22 rfl (w.heap.size + 3) 3 i0 (.int .i64 0) 1 8 Tryz.underlying22 hi0 hz0 hz1 hz2 rfl (by decide) (.slice A' k c') k ((f.2.take k).map (Value.int .i64)) rfl ?_ ⟨_, 0, none⟩ 1 1 [.int .i64 f.2[k]] rfl rfl ?_ ?_ (by omega) (by unfold maxLen; omega) (by omega) ?_ _ rfl ?_
           · exact own_alloc_drew HR.out.own _
           · exact news_alloc_drew wr _ _
           · intro u hu; simp at hu; subst hu; rfl
           · simp; omega
           intro g cap w2 hown hgr hat hlt2
           have hst := HR.out.step hlt (grown_from_alloc_drew (w := wr) hgr) hown
           have hgg := grown_from_alloc_drew (w := wr) hgr
           have e1 : w2.cell? ⟨w.heap.size + 2, 1, none⟩ = some (.slice A' k c') := hgg.cell q1 (fun e => blk_ne_row HR.out.own HR.out.out (by decide) e.symm)
           have e2 : w2.frozen? ⟨w.heap.size + 2, 1, none⟩ = false := (hgg.frozen_far _ hbs (fun e => blk_ne_row HR.out.own HR.out.out (by decide) e.symm)).trans hf1
           have HS := Lib.hid hst
           clear hst hgg hown hgr hat))
      all_goals
        go_wp2_with (fail)
        go_roundw
        case rel => exact ⟨k + 1, _, _, by omega, by go_num, HS.out⟩
        case measure => simp [intOf]; omega
    · have hkn : f.2.length = k := by omega
      subst hkn
      have c0 : wr.cell? ⟨w.heap.size + 2, 0, none⟩ = some (.int .i64 f.1) := hr.out.cell 0
      have c1 : wr.cell? ⟨w.heap.size + 2, 1, none⟩ = some (.slice A' f.2.length c') := hr.out.cell 1
      have d0 : wr.cell? ⟨w.heap.size + 1, 0, none⟩ = some (.int .i64 0) := hr.res.cell 0
      have d1 : wr.cell? ⟨w.heap.size + 1, 1, none⟩ = some (.slice none 0 0) := hr.res.cell 1
      have f0 := hr.res.frozen 0
      have f1 := hr.res.frozen 1
      have HO : OwnInts wr (w.heap.size + 3) wr.heap.size (.slice A' f.2.length c') f.2 := ⟨by have := hr.own; rwa [List.take_length] at this, fun g hg' => (hr.own.lt g hg').2⟩
      have hbe := hr.below
      clear hr hcell
      go_wp2_with (fail)
      refine bodyPost_ret (v := .agg #[.int .i64 f.1, .slice A' f.2.length c']) (by simp [results, Tryz.results81, go_sem, d0, d1]) rfl ⟨_, _, rfl, ?_, ?_⟩
      · exact ((HO.set (.inl (by show w.heap.size + 1 < w.heap.size + 3; omega)) _).set (.inl (by show w.heap.size + 1 < w.heap.size + 3; omega)) _).mono (by omega) (by simp)
      · exact (hbe.setCell (by show w.heap.size ≤ w.heap.size + 1; omega) _).setCell (by show w.heap.size ≤ w.heap.size + 1; omega) _

end Go.Proofs.YtcceololijefiaaGreatDoor
/-
  Rows of slices of integers: one that is read, one of the call's own; the relation of a loop that collects them.
-/
namespace Go.Proofs.YtcceololijefiaaGreatDoor
open Go.RowKit

theorem Tryz.infoIntS : (Tryz.prog.info? 22).map (fun i => (i.zero, i.size, i.bytes)) = some (some (.slice none 0 0), 1, 24) := by kernel_rfl

/-- A row of slices of integers that is read. -/
def RdRows (w : World) (B : Nat) (v : Value) (xss : List (List Int)) : Prop :=
  ∃ A c, v = .slice A xss.length c ∧ xss.length ≤ c ∧ (0 < xss.length → ∃ b o, A = some ⟨b, o, none⟩ ∧ b < B ∧ ∀ k (h : k < xss.length), ∃ u, w.cell? ⟨b, o + k, none⟩ = some u ∧ RdInts w B u xss[k])
/-- A row of slices of integers in blocks from lo on and below hi; weak: two of them may share a block. -/
def WkRows (w : World) (lo hi : Nat) (v : Value) (xss : List (List Int)) : Prop :=
  ∃ av : List Value, (av.length = xss.length ∧ ∀ i (h : i < xss.length) (h' : i < av.length), OwnInts w lo hi av[i] xss[i]) ∧ w.ownsRow lo 22 1 v xss.length av ∧ ∀ g, v.ownBlock = some g → g < hi
/-- And no two share one. -/
def OwnRows (w : World) (lo hi : Nat) (v : Value) (xss : List (List Int)) : Prop :=
  ∃ av, OwnArgs w lo hi av xss ∧ w.ownsRow lo 22 1 v xss.length av ∧ ∀ g, v.ownBlock = some g → g < hi

section
variable {w w' : World} {lo hi lo' hi' B B' : Nat} {v : Value} {xss : List (List Int)}
theorem RdRows.below (h : RdRows w B v xss) (hb : Below B' w w') (hB : B ≤ B') : RdRows w' B v xss := by
  obtain ⟨A, c, rfl, hc, h⟩ := h
  refine ⟨A, c, rfl, hc, fun hn => ?_⟩
  obtain ⟨b, o, rfl, hlt, hk⟩ := h hn
  refine ⟨b, o, rfl, hlt, fun k hkl => ?_⟩
  obtain ⟨u, h1, h2⟩ := hk k hkl
  exact ⟨u, (hb.cell (p := ⟨b, o + k, none⟩) (by show b < B'; omega)).trans h1, h2.below hb hB⟩
theorem RdRows.more (h : RdRows w B v xss) (hB : B ≤ B') : RdRows w B' v xss := by
  obtain ⟨A, c, rfl, hc, h⟩ := h
  refine ⟨A, c, rfl, hc, fun hn => ?_⟩
  obtain ⟨b, o, rfl, hlt, hk⟩ := h hn
  refine ⟨b, o, rfl, by omega, fun k hkl => ?_⟩
  obtain ⟨u, h1, h2⟩ := hk k hkl
  exact ⟨u, h1, h2.more hB⟩
theorem RdRows.on (h : RdRows w w.heap.size v xss) (hb : Below w.heap.size w w') : RdRows w' w'.heap.size v xss := (h.below hb (Nat.le_refl _)).more hb.size
theorem RdRows.get {A : Option Addr} {c : Nat} (h : RdRows w B (.slice A xss.length c) xss) {k : Nat} (hk : k < xss.length) :
    ∃ b o A2 c2, A = some ⟨b, o, none⟩ ∧ b < B ∧ w.cell? ⟨b, o + k, none⟩ = some (.slice A2 xss[k].length c2) ∧ RdInts w B (.slice A2 xss[k].length c2) xss[k] := by
  obtain ⟨A', c', e, _, h⟩ := h
  injection e with e1 _ _
  subst e1
  obtain ⟨b, o, rfl, hb, hx⟩ := h (by omega)
  obtain ⟨u, h1, h2⟩ := hx k hk
  have h3 := h2
  obtain ⟨A2, c2, rfl, _⟩ := h2
  exact ⟨b, o, A2, c2, rfl, hb, h1, h3⟩
theorem OwnRows.weak (h : OwnRows w lo hi v xss) : WkRows w lo hi v xss := by
  obtain ⟨av, h1, h2, h3⟩ := h
  exact ⟨av, ⟨h1.len, h1.own⟩, h2, h3⟩
theorem WkRows.form (h : WkRows w lo hi v xss) : ∃ A c, v = .slice A xss.length c := by
  obtain ⟨_, _, h, _⟩ := h
  rcases h.2 with ⟨rfl, h0⟩ | ⟨g, cap, _, rfl, _⟩
  · exact ⟨none, 0, by rw [h0]⟩
  · exact ⟨_, _, rfl⟩
theorem WkRows.below (h : WkRows w lo hi v xss) (hb : Below B w w') (hB : hi ≤ B) : WkRows w' lo hi v xss := by
  obtain ⟨av, ⟨h0, h1⟩, h2, h3⟩ := h
  exact ⟨av, ⟨h0, fun i a b => (h1 i a b).below hb hB⟩, ownsRow_below h2 h3 hb hB, h3⟩
theorem WkRows.mono (h : WkRows w lo hi v xss) (h1 : lo' ≤ lo) (h2 : hi ≤ hi') : WkRows w lo' hi' v xss := by
  obtain ⟨av, ⟨h0, ha⟩, hr, hlt⟩ := h
  exact ⟨av, ⟨h0, fun i a b => (ha i a b).mono h1 h2⟩, ownsRow_mono hr h1, fun g hg => by have := hlt g hg; omega⟩
theorem WkRows.only (h : WkRows w lo hi v xss) (ho : Only lo' hi' w w') (hd : hi ≤ lo' ∨ hi' ≤ lo) : WkRows w' lo hi v xss := by
  obtain ⟨av, ⟨h0, ha⟩, hr, hlt⟩ := h
  exact ⟨av, ⟨h0, fun i a b => (ha i a b).only ho hd⟩, ownsRow_only hr fun g hg => ho.block g (hr.lt g hg).2 (by have := hr.lt g hg; have := hlt g hg; omega), hlt⟩
theorem WkRows.rd (h : WkRows w lo hi v xss) : RdRows w hi v xss := by
  obtain ⟨av, ⟨h0, ha⟩, hr, hlt⟩ := h
  have hcells := @World.ownsRow.cells w lo 22 1 v xss.length av hr
  obtain ⟨hlen, hr⟩ := hr
  rcases hr with ⟨rfl, e0⟩ | ⟨g, cap, cur, rfl, hb, hg, hn, hm, hs, ht⟩
  · have : xss = [] := List.eq_nil_of_length_eq_zero e0
    subst this
    exact ⟨none, 0, rfl, by simp, fun h => absurd h (by simp)⟩
  · refine ⟨_, cap, rfl, hn, fun _ => ⟨g, 0, rfl, hlt g rfl, fun k hk => ⟨av[k]'(by omega), ?_, (ha k hk (by omega)).rd⟩⟩⟩
    have := hcells (g := g) rfl k (av[k]'(by omega)) (by simp [show k < av.length by omega])
    rwa [Go.WideShapes.add_plain] at this
theorem OwnRows.below (h : OwnRows w lo hi v xss) (hb : Below B w w') (hB : hi ≤ B) : OwnRows w' lo hi v xss := by
  obtain ⟨av, h1, h2, h3⟩ := h
  exact ⟨av, h1.below hb hB, ownsRow_below h2 h3 hb hB, h3⟩
theorem OwnRows.mono (h : OwnRows w lo hi v xss) (h1 : lo' ≤ lo) (h2 : hi ≤ hi') : OwnRows w lo' hi' v xss := by
  obtain ⟨av, ha, hr, hlt⟩ := h
  exact ⟨av, ha.mono h1 h2, ownsRow_mono hr h1, fun g hg => by have := hlt g hg; omega⟩
theorem OwnRows.only (h : OwnRows w lo hi v xss) (ho : Only lo' hi' w w') (hd : hi ≤ lo' ∨ hi' ≤ lo) : OwnRows w' lo hi v xss := by
  obtain ⟨av, ha, hr, hlt⟩ := h
  exact ⟨av, ⟨ha.len, fun i a b => (ha.own i a b).only ho hd, ha.apart⟩, ownsRow_only hr fun g hg => ho.block g (hr.lt g hg).2 (by have := hr.lt g hg; have := hlt g hg; omega), hlt⟩
theorem OwnRows.rd (h : OwnRows w lo hi v xss) : RdRows w hi v xss := h.weak.rd
theorem OwnRows.form (h : OwnRows w lo hi v xss) : ∃ A c, v = .slice A xss.length c := h.weak.form
end

/-- The block of a row of integers is no block of a row of slices. -/
theorem rowsI_ne {w : World} {lo hi lo' g : Nat} {n : Nat} {v a : Value} {zs : List Value} {xs : List Int} (hr : w.ownsRow lo' 22 1 v n zs) (hv : v.ownBlock = some g) (ha : OwnInts w lo hi a xs) : a.ownBlock ≠ some g := by
  rcases hr.2 with ⟨rfl, _⟩ | ⟨g1, c1, cur1, rfl, _, h1, _⟩
  · cases hv
  · have e : g1 = g := by simpa [Value.ownBlock] using hv
    subst e
    exact blk_ne_row ha.1 (show Blk w g1 22 cur1 from h1) (by decide)

theorem WkRows.get {w : World} {lo hi c : Nat} {A : Option Addr} {xss : List (List Int)} (h : WkRows w lo hi (.slice A xss.length c) xss) {k : Nat} (hk : k < xss.length) :
    ∃ g A2 c2, A = some ⟨g, 0, none⟩ ∧ g < w.heap.size ∧ w.cell? ⟨g, k, none⟩ = some (.slice A2 xss[k].length c2) ∧ OwnInts w lo hi (.slice A2 xss[k].length c2) xss[k] := by
  obtain ⟨av, ⟨h0, ha⟩, hr, hlt⟩ := h
  have hcells := @World.ownsRow.cells w lo 22 1 _ xss.length av hr
  obtain ⟨hlen, hr2⟩ := hr
  rcases hr2 with ⟨e, e0⟩ | ⟨g, cap, cur, e, hb, hg, _⟩
  · omega
  · injection e with e1 _ _
    subst e1
    have h1 := ha k hk (by omega)
    obtain ⟨A2, c2, e2⟩ := h1.form
    have := hcells (g := g) rfl k (av[k]'(by omega)) (by simp [show k < av.length by omega])
    rw [Go.WideShapes.add_plain, Nat.zero_add, e2] at this
    exact ⟨g, A2, c2, rfl, Blk.lt hg, this, e2 ▸ h1⟩

/-- The relation of a loop that collects slices of integers: these lie from lo on, the row is new. -/
structure ColS (lo : Nat) (w wr : World) (xss : List (List Int)) (A : Option Addr) (c : Nat) (av : List Value) : Prop where
  below : Below w.heap.size w wr
  len : av.length = xss.length
  inn : ∀ i (h : i < xss.length) (h' : i < av.length), OwnInts wr lo wr.heap.size av[i] xss[i]
  row : wr.ownsRow w.heap.size 22 1 (.slice A xss.length c) xss.length av
theorem ColS.empty {lo : Nat} {w wr : World} (hb : Below w.heap.size w wr) : ColS lo w (wr.alloc (.cells #[] 22)) [] (some ⟨wr.heap.size, 0, none⟩) 0 [] :=
  ⟨hb.alloc hb.size _, rfl, fun i h => absurd h (by simp), World.ownsRow_made wr #[] 0 hb.size (by decide) rfl⟩
theorem ColS.on {lo : Nat} {w wr w2 : World} {xss : List (List Int)} {A : Option Addr} {c : Nat} {av : List Value} (h : ColS lo w wr xss A c av) (hb : Below wr.heap.size wr w2) : ColS lo w w2 xss A c av :=
  ⟨bthen h.below hb, h.len, fun i a b => ((h.inn i a b).below hb (Nat.le_refl _)).mono (Nat.le_refl _) hb.size, ownsRow_below h.row (fun g hg => (h.row.lt g hg).2) hb (Nat.le_refl _)⟩
theorem ColS.rows {lo : Nat} {w wr : World} {xss : List (List Int)} {A : Option Addr} {c : Nat} {av : List Value} (h : ColS lo w wr xss A c av) (hl : lo ≤ w.heap.size) : WkRows wr lo wr.heap.size (.slice A xss.length c) xss :=
  ⟨av, ⟨h.len, h.inn⟩, ownsRow_mono h.row hl, fun g hg => (h.row.lt g hg).2⟩
theorem ColS.push {lo : Nat} {w wr w2 w4 : World} {xss xss' : List (List Int)} {A : Option Addr} {c g cap : Nat} {xs : List Int} {u : Value} {o : Obj} {av : List Value} (h : ColS lo w wr xss A c av) (e : xss' = xss ++ [xs]) (hb : Below wr.heap.size wr w2) (hu : OwnInts w2 lo w2.heap.size u xs)
    (hg : (w2.alloc o).grownBy w4 (Value.slice A xss.length c).ownBlock) (hown : w4.ownsRow w.heap.size 22 1 (.slice (some ⟨g, 0, none⟩) (xss.length + 1) cap) (xss.length + 1) (av ++ [u])) :
    ColS lo w w4 xss' (some ⟨g, 0, none⟩) cap (av ++ [u]) ∧ xss.length + 1 = xss'.length := by
  subst e
  have h2 := h.on hb
  have hg' := grown_from_alloc hg
  have hl : (xss ++ [xs]).length = xss.length + 1 := by simp
  refine ⟨⟨(h2.below.alloc h2.below.size _).grown hg (by have := h2.below.size; simp; omega) (fun k hk => (h2.row.lt k hk).1), by simp [h.len], fun i h1 h3 => ?_, by rw [hl]; exact hown⟩, hl.symm⟩
  have keep : ∀ {a : Value} {ys : List Int}, OwnInts w2 lo w2.heap.size a ys → OwnInts w4 lo w4.heap.size a ys := fun {a ys} h0 =>
    (h0.kept fun b hbk => hg'.block b (h0.lt hbk).2.2 (fun e => rowsI_ne h2.row e.symm h0 hbk)).mono (Nat.le_refl _) hg'.size
  by_cases e : i < xss.length
  · rw [List.getElem_append_left (by rw [h.len]; exact e), List.getElem_append_left e]
    exact keep (h2.inn i e (by rw [h.len]; exact e))
  · have e2 : i = xss.length := by simp at h1; omega
    subst e2
    have := h.len
    simp [← this]
    exact keep hu

end Go.Proofs.YtcceololijefiaaGreatDoor
/-
  What variables have, plain mathematics: lists of four numbers from -1 to 5, and the words of four fields that the program keeps them in.
-/
namespace Go.Proofs.YtcceololijefiaaGreatDoor
open Go.RowKit

/-- One of what a variable may have. -/
def hasB (x : Int) : Bool := decide (-1 ≤ x ∧ x ≤ 5)
def bindOk (bs : List Int) : Bool := decide (bs.length = 4) && bs.all hasB

theorem bindOk_len {bs : List Int} (h : bindOk bs = true) : bs.length = 4 := by
  simp only [bindOk, Bool.and_eq_true, decide_eq_true_eq] at h
  exact h.1
theorem bindOk_all {bs : List Int} (h : bindOk bs = true) : bs.all hasB = true := by
  simp only [bindOk, Bool.and_eq_true] at h
  exact h.2
theorem hasB_at {bs : List Int} (h : bs.all hasB = true) {k : Nat} (hk : k < bs.length) : -1 ≤ bs[k] ∧ bs[k] ≤ 5 := by
  have := List.all_eq_true.1 h bs[k] (List.getElem_mem hk)
  simpa [hasB] using this
theorem bindOk_at {bs : List Int} (h : bindOk bs = true) {k : Nat} (hk : k < bs.length) : -1 ≤ bs[k] ∧ bs[k] ≤ 5 := hasB_at (bindOk_all h) hk
theorem bindOk_iff {bs : List Int} (hl : bs.length = 4) (h : bs.all hasB = true) : bindOk bs = true := by simp [bindOk, hl, h]

/-- What a term has: a constant itself, a variable what it has. -/
def termVal (bs : List Int) (t : Int) : Int := if 0 ≤ t then t else bs.getD (-1 - t).toNat (-1)
theorem termVal_const {bs : List Int} {t : Int} (h : 0 ≤ t) : termVal bs t = t := if_pos h
theorem termVal_var {bs : List Int} {t : Int} (h : t < 0) : termVal bs t = bs.getD (-1 - t).toNat (-1) := if_neg (by omega)
theorem termOk_at {t : Int} (ht : termOk t = true) : -4 ≤ t ∧ t ≤ 5 := by simpa [termOk] using ht
theorem termVal_bounds {bs : List Int} (hb : bindOk bs = true) {t : Int} (ht : termOk t = true) : -1 ≤ termVal bs t ∧ termVal bs t ≤ 5 := by
  have ht' := termOk_at ht
  unfold termVal
  split
  · omega
  · have hl := bindOk_len hb
    have hk : (-1 - t).toNat < bs.length := by omega
    rw [List.getD_eq_getElem?_getD, List.getElem?_eq_getElem hk]
    exact bindOk_at hb hk

/-- The word of a list of four. -/
def encB (bs : List Int) : Nat := (((bs.getD 0 (-1) + 1).toNat * 16 + (bs.getD 1 (-1) + 1).toNat) * 16 + (bs.getD 2 (-1) + 1).toNat) * 16 + (bs.getD 3 (-1) + 1).toNat
/-- Nobody has anything. -/
def noneB : List Int := [-1, -1, -1, -1]
theorem noneB_ok : bindOk noneB = true := by decide
theorem encB_none : encB noneB = 0 := by decide

theorem list4 {bs : List Int} (h : bs.length = 4) : ∃ a b c d, bs = [a, b, c, d] := by
  match bs, h with
  | [a, b, c, d], _ => exact ⟨a, b, c, d, rfl⟩
theorem fin7 {x : Int} (h : -1 ≤ x ∧ x ≤ 5) : ∃ a : Fin 7, (x + 1).toNat = a.val ∧ x = (a.val : Int) - 1 := ⟨⟨(x + 1).toNat, by omega⟩, rfl, by show x = (((x + 1).toNat : Nat) : Int) - 1; omega⟩

theorem or0 : ∀ a b c e : Fin 7, ((0 * 16 + a.val) * 16 + b.val) * 16 + c.val ||| e.val * 4096 = ((e.val * 16 + a.val) * 16 + b.val) * 16 + c.val := by decide +kernel
theorem or1 : ∀ a b c e : Fin 7, ((a.val * 16 + 0) * 16 + b.val) * 16 + c.val ||| e.val * 256 = ((a.val * 16 + e.val) * 16 + b.val) * 16 + c.val := by decide +kernel
theorem or2 : ∀ a b c e : Fin 7, ((a.val * 16 + b.val) * 16 + 0) * 16 + c.val ||| e.val * 16 = ((a.val * 16 + b.val) * 16 + e.val) * 16 + c.val := by decide +kernel
theorem or3 : ∀ a b c e : Fin 7, ((a.val * 16 + b.val) * 16 + c.val) * 16 + 0 ||| e.val = ((a.val * 16 + b.val) * 16 + c.val) * 16 + e.val := by decide +kernel

/-- The word of a variable's constant. -/
def shlB (v : Nat) (c : Int) : Nat := (c + 1).toNat * 2 ^ ((3 - v) * 4)

theorem encB_set {bs : List Int} (h : bindOk bs = true) {v : Nat} (hv : v < 4) (hn : bs.getD v (-1) = -1) {c : Int} (hc : -1 ≤ c ∧ c ≤ 5) : encB bs ||| shlB v c = encB (bs.set v c) := by
  obtain ⟨b0, b1, b2, b3, rfl⟩ := list4 (bindOk_len h)
  have ha := bindOk_all h
  simp only [List.all_cons, List.all_nil, Bool.and_true, Bool.and_eq_true, hasB, decide_eq_true_eq] at ha
  obtain ⟨h0, h1, h2, h3⟩ := ha
  obtain ⟨e, he, he'⟩ := fin7 hc
  obtain ⟨x0, e0, _⟩ := fin7 h0
  obtain ⟨x1, e1, _⟩ := fin7 h1
  obtain ⟨x2, e2, _⟩ := fin7 h2
  obtain ⟨x3, e3, _⟩ := fin7 h3
  match v, hv with
  | 0, _ =>
    simp only [List.getD_cons_zero] at hn
    subst hn
    simp only [encB, shlB, List.getD_cons_zero, List.getD_cons_succ, List.set_cons_zero, he, e1, e2, e3]
    exact or0 x1 x2 x3 e
  | 1, _ =>
    simp only [List.getD_cons_zero, List.getD_cons_succ] at hn
    subst hn
    simp only [encB, shlB, List.getD_cons_zero, List.getD_cons_succ, List.set_cons_zero, List.set_cons_succ, he, e0, e2, e3]
    exact or1 x0 x2 x3 e
  | 2, _ =>
    simp only [List.getD_cons_zero, List.getD_cons_succ] at hn
    subst hn
    simp only [encB, shlB, List.getD_cons_zero, List.getD_cons_succ, List.set_cons_zero, List.set_cons_succ, he, e0, e1, e3]
    exact or2 x0 x1 x3 e
  | 3, _ =>
    simp only [List.getD_cons_zero, List.getD_cons_succ] at hn
    subst hn
    simp only [encB, shlB, List.getD_cons_zero, List.getD_cons_succ, List.set_cons_zero, List.set_cons_succ, he, e0, e1, e2]
    simpa using or3 x0 x1 x2 e

theorem encB_lt {bs : List Int} (h : bindOk bs = true) : encB bs < 65536 := by
  obtain ⟨b0, b1, b2, b3, rfl⟩ := list4 (bindOk_len h)
  have ha := bindOk_all h
  simp only [List.all_cons, List.all_nil, Bool.and_true, Bool.and_eq_true, hasB, decide_eq_true_eq] at ha
  simp only [encB, List.getD_cons_zero, List.getD_cons_succ]
  omega
theorem shlB_lt {v : Nat} (hv : v < 4) {c : Int} (hc : -1 ≤ c ∧ c ≤ 5) : shlB v c < 65536 := by
  unfold shlB
  match v, hv with
  | 0, _ => show (c + 1).toNat * 4096 < 65536; omega
  | 1, _ => show (c + 1).toNat * 256 < 65536; omega
  | 2, _ => show (c + 1).toNat * 16 < 65536; omega
  | 3, _ => show (c + 1).toNat * 1 < 65536; omega

/-- What a variable has, read off the word. -/
def fieldB (m v : Nat) : Nat := m / 2 ^ ((3 - v) * 4) % 16
theorem fieldB_enc {bs : List Int} (h : bindOk bs = true) {v : Nat} (hv : v < 4) : ((fieldB (encB bs) v : Nat) : Int) - 1 = bs.getD v (-1) := by
  obtain ⟨b0, b1, b2, b3, rfl⟩ := list4 (bindOk_len h)
  have ha := bindOk_all h
  simp only [List.all_cons, List.all_nil, Bool.and_true, Bool.and_eq_true, hasB, decide_eq_true_eq] at ha
  match v, hv with
  | 0, _ => simp only [fieldB, encB, List.getD_cons_zero, List.getD_cons_succ]; omega
  | 1, _ => simp only [fieldB, encB, List.getD_cons_zero, List.getD_cons_succ]; omega
  | 2, _ => simp only [fieldB, encB, List.getD_cons_zero, List.getD_cons_succ]; omega
  | 3, _ => simp only [fieldB, encB, List.getD_cons_zero, List.getD_cons_succ]; omega

theorem encB_inj {bs cs : List Int} (h : bindOk bs = true) (h2 : bindOk cs = true) (e : encB bs = encB cs) : bs = cs := by
  apply List.ext_getElem (by rw [bindOk_len h, bindOk_len h2])
  intro v h1 h3
  have hv : v < 4 := by rw [bindOk_len h] at h1; exact h1
  have a := fieldB_enc h hv
  have b := fieldB_enc h2 hv
  rw [e] at a
  have c := a.symm.trans b
  simpa [h1, h3] using c
theorem bindOk_set {bs : List Int} (h : bindOk bs = true) {c : Int} (hc : -1 ≤ c ∧ c ≤ 5) (v : Nat) : bindOk (bs.set v c) = true := by
  refine bindOk_iff (by rw [List.length_set]; exact bindOk_len h) (List.all_eq_true.2 fun x hx => ?_)
  rcases List.mem_or_eq_of_mem_set hx with hx | rfl
  · exact List.all_eq_true.1 (bindOk_all h) x hx
  · simpa [hasB] using hc

/-- The first k of a list, the others as yet without any. -/
def padB (bs : List Int) (k : Nat) : List Int := bs.take k ++ List.replicate (4 - k) (-1)
theorem padB_zero (bs : List Int) : padB bs 0 = noneB := rfl
theorem padB_all {bs : List Int} (h : bs.length = 4) : padB bs 4 = bs := by simp [padB, ← h]
theorem padB_ok {bs : List Int} {k : Nat} (hl : bs.length = 4) (hk : k ≤ 4) (h : (bs.take k).all hasB = true) : bindOk (padB bs k) = true := by
  refine bindOk_iff (by simp [padB, hl]; omega) ?_
  simp only [padB, List.all_append, h, Bool.true_and, List.all_eq_true]
  intro x hx
  rw [List.eq_of_mem_replicate hx]
  rfl
theorem padB_step {bs : List Int} {k : Nat} (hl : bs.length = 4) (hk : k < 4) : (padB bs k).getD k (-1) = -1 ∧ (padB bs k).set k (bs[k]'(by omega)) = padB bs (k + 1) := by
  obtain ⟨b0, b1, b2, b3, rfl⟩ := list4 hl
  match k, hk with
  | 0, _ => exact ⟨rfl, rfl⟩
  | 1, _ => exact ⟨rfl, rfl⟩
  | 2, _ => exact ⟨rfl, rfl⟩
  | 3, _ => exact ⟨rfl, rfl⟩

/-- Bound. -/
def boundL (args bs : List Int) : List Int := if bindOk bs && args.all termOk then args.map (termVal bs) else []
theorem boundL_length (args bs : List Int) : (boundL args bs).length ≤ args.length := by
  unfold boundL
  split <;> simp

end Go.Proofs.YtcceololijefiaaGreatDoor
/-
  The walk of l1In.
-/
namespace Go.Proofs.YtcceololijefiaaGreatDoor
open Go.RowKit

theorem l1In_any (n lo hi : Int) (w : World) : Calls Tryz.prog 59 #[.int .i64 n, .int .i64 lo, .int .i64 hi] w fun e w' => e = .returned (.bool (decide (lo ≤ n ∧ n ≤ hi))) ∧ w = w' := by
  by_cases h1 : lo ≤ n
  · by_cases h2 : n ≤ hi
    all_goals
      go_enter Tryz.func59, Tryz.ntmps59
      go_wp2
      go_ret
      exact ⟨ret_bool (by simp [*]), rfl⟩
  · have hd : decide (lo ≤ n) = false := by simpa using h1
    go_enter Tryz.func59, Tryz.ntmps59
    go_wp2
    go_ret
    exact ⟨ret_bool (by simp [*]), rfl⟩

theorem l1In_yes {n lo hi : Int} (h : lo ≤ n ∧ n ≤ hi) (w : World) : Calls Tryz.prog 59 #[.int .i64 n, .int .i64 lo, .int .i64 hi] w fun e w' => e = .returned (.bool true) ∧ w = w' :=
  (l1In_any n lo hi w).mono fun _ _ ⟨he, hw⟩ => ⟨by rw [he, decide_eq_true h], hw⟩
theorem l1In_no {n lo hi : Int} (h : ¬ (lo ≤ n ∧ n ≤ hi)) (w : World) : Calls Tryz.prog 59 #[.int .i64 n, .int .i64 lo, .int .i64 hi] w fun e w' => e = .returned (.bool false) ∧ w = w' :=
  (l1In_any n lo hi w).mono fun _ _ ⟨he, hw⟩ => ⟨by rw [he, decide_eq_false h], hw⟩

end Go.Proofs.YtcceololijefiaaGreatDoor
/-
  The walks of ArityOk: the program's and the specification's.
-/
namespace Go.Proofs.YtcceololijefiaaGreatDoor
open Go.RowKit

def placeOk (x : Int) : Bool := decide (0 ≤ x ∧ x ≤ 2)
def arityOk (xs : List Int) : Bool := decide (xs.length ≤ 24) && xs.all placeOk
/-- 'the first k are places', kept from the walk. -/
def PlacesTo (xs : List Int) (k : Nat) : Prop := ∀ j, j < k → placeOk (xs.getD j 0) = true
theorem PlacesTo.step {xs : List Int} {k : Nat} (h : PlacesTo xs k) (e : placeOk (xs.getD k 0) = true) : PlacesTo xs (k + 1) := fun j hj => by
  by_cases h2 : j = k
  · subst h2; exact e
  · exact h j (by omega)
theorem PlacesTo.all {xs : List Int} (h : PlacesTo xs xs.length) : xs.all placeOk = true := by
  rw [List.all_eq_true]
  intro x hx
  obtain ⟨j, hj, rfl⟩ := List.getElem_of_mem hx
  have := h j hj
  simpa [hj] using this
theorem places_not {xs : List Int} {k : Nat} (hk : k < xs.length) (e : placeOk xs[k] = false) : xs.all placeOk = false := by
  rw [List.all_eq_false]
  exact ⟨xs[k], List.getElem_mem hk, by simp [e]⟩

set_option maxHeartbeats 400000 in
theorem specArityOk_any (v : Value) (xs : List Int) (w : World) (h : RdInts w w.heap.size v xs) (hr : xs.length * 8 ≤ 140737488351232) :
    Calls Tryz.prog 36 #[v] w fun e w' => e = .returned (.bool (arityOk xs)) ∧ w = w' := by
  obtain ⟨A, c, rfl, hc, ha⟩ := h
  go_enter Tryz.func36, Tryz.ntmps36
  go_wp2_with (fail)
  go_loop [3] (fun i => ∃ k : Nat, k ≤ xs.length ∧ i = .int .i64 k ∧ PlacesTo xs k) (fun i => xs.length - (intOf i).toNat)
  case atStart => exact ⟨0, Nat.zero_le _, rfl, fun j hj => absurd hj (by omega)⟩
  case round =>
    obtain ⟨k, hk, rfl, hs⟩ := hrel
    by_cases hlt : k < xs.length
    · obtain ⟨b, o, rfl, hbB, hx⟩ := ha (by omega)
      have hck : w.cell? ⟨b, o + k, none⟩ = some (.int .i64 xs[k]) := hx k hlt
      clear hx ha
      by_cases he : 0 ≤ xs[k] ∧ xs[k] ≤ 2
      · have HS := Lib.hid (hs.step (by simpa [hlt, placeOk] using he))
        clear hs
        go_wp2_with (go_at_call 59; refine (l1In_any _ _ _ _).mono ?_; rintro e w' ⟨rfl, rfl⟩)
        go_round
        case rel => exact ⟨k + 1, by omega, by go_num, HS.out⟩
        case measure => simp [intOf]; omega
      · have hd : decide (0 ≤ xs[k] ∧ xs[k] ≤ 2) = false := by simpa using he
        have HE := Lib.hid (places_not hlt (by simpa [placeOk] using he))
        clear hs he
        go_wp2_with (go_at_call 59; refine (l1In_any _ _ _ _).mono ?_; rintro e w' ⟨rfl, rfl⟩)
        go_ret
        exact ⟨ret_bool (by simp [arityOk, HE.out]), rfl⟩
    · have hkn : k = xs.length := by omega
      have HE := Lib.hid (show xs.all placeOk = true from PlacesTo.all (by rw [← hkn]; exact hs))
      clear hkn hs ha
      go_wp2_with (fail)
      go_ret
      exact ⟨ret_bool (by unfold arityOk; rw [HE.out]; simp; try omega), rfl⟩

set_option maxHeartbeats 400000 in
theorem arityOk_any (v : Value) (xs : List Int) (w : World) (h : RdInts w w.heap.size v xs) (hr : xs.length * 8 ≤ 140737488351232) :
    Calls Tryz.prog 42 #[v] w fun e w' => e = .returned (.bool (arityOk xs)) ∧ Below w.heap.size w w' := by
  obtain ⟨A, c, rfl, hc, ha⟩ := h
  by_cases hl : xs.length ≤ 24
  · go_enter Tryz.func42, Tryz.ntmps42
    go_wp2
    go_loopw [4, 10] (fun _ i wr => ∃ k : Nat, k ≤ xs.length ∧ i = .int .i64 k ∧ PlacesTo xs k ∧ Below w.heap.size w wr) (fun _ i _ => xs.length - (intOf i).toNat)
    case atStart => exact ⟨0, Nat.zero_le _, rfl, fun j hj => absurd hj (by omega), Below.refl _ _⟩
    case round =>
      obtain ⟨k, hk, rfl, hs, hbe⟩ := hrel
      by_cases hlt : k < xs.length
      · obtain ⟨b, o, rfl, hbB, hx⟩ := ha (by omega)
        have hck : wr.cell? ⟨b, o + k, none⟩ = some (.int .i64 xs[k]) := (hbe.cell (p := ⟨b, o + k, none⟩) hbB).trans (hx k hlt)
        clear hx ha
        by_cases h0 : xs[k] < 0
        · have HE := Lib.hid (places_not hlt (by simp [placeOk]; omega))
          clear hs
          go_wp2
          go_ret
          exact ⟨ret_bool (by simp [arityOk, HE.out]), hbe⟩
        · have hd : decide (xs[k] < 0) = false := by simpa using h0
          by_cases h2 : 2 < xs[k]
          · have HE := Lib.hid (places_not hlt (by simp [placeOk]; omega))
            clear hs
            go_wp2
            go_ret
            exact ⟨ret_bool (by simp [arityOk, HE.out]), hbe⟩
          · have HS := Lib.hid (hs.step (by simp [hlt, placeOk]; omega))
            clear hs
            go_wp2
            go_roundw
            case rel => exact ⟨k + 1, by omega, by go_num, HS.out, hbe⟩
            case measure => simp [intOf]; omega
      · have hkn : k = xs.length := by omega
        have HE := Lib.hid (show xs.all placeOk = true from PlacesTo.all (by rw [← hkn]; exact hs))
        have HL := Lib.hid hl
        clear hkn hs ha
        go_wp2
        go_ret
        exact ⟨ret_bool (by unfold arityOk; rw [HE.out]; simp [HL.out]), hbe⟩
  · have HL := Lib.hid hl
    have hg : (24 : Int) < xs.length := by omega
    clear ha
    go_enter Tryz.func42, Tryz.ntmps42
    go_wp2
    go_ret
    exact ⟨ret_bool (by simp [arityOk, HL.out]), Below.refl _ _⟩

end Go.Proofs.YtcceololijefiaaGreatDoor
/-
  The walks of FactOk: the program's (with factFits) and the specification's.
-/
namespace Go.Proofs.YtcceololijefiaaGreatDoor
open Go.RowKit

def constOk (x : Int) : Bool := decide (0 ≤ x ∧ x ≤ 5)
def factFits (ar : List Int) (f : LFact) : Bool := decide (0 ≤ f.1 ∧ f.1 < ar.length ∧ (f.2.length : Int) = ar.getD f.1.toNat 0) && f.2.all constOk
def factOk (ar : List Int) (f : LFact) : Bool := arityOk ar && factFits ar f

def ConstsTo (xs : List Int) (k : Nat) : Prop := ∀ j, j < k → constOk (xs.getD j 0) = true
theorem ConstsTo.step {xs : List Int} {k : Nat} (h : ConstsTo xs k) (e : constOk (xs.getD k 0) = true) : ConstsTo xs (k + 1) := fun j hj => by
  by_cases h2 : j = k
  · subst h2; exact e
  · exact h j (by omega)
theorem ConstsTo.all {xs : List Int} (h : ConstsTo xs xs.length) : xs.all constOk = true := by
  rw [List.all_eq_true]
  intro x hx
  obtain ⟨j, hj, rfl⟩ := List.getElem_of_mem hx
  have := h j hj
  simpa [hj] using this
theorem consts_not {xs : List Int} {k : Nat} (hk : k < xs.length) (e : constOk xs[k] = false) : xs.all constOk = false := by
  rw [List.all_eq_false]
  exact ⟨xs[k], List.getElem_mem hk, by simp [e]⟩

set_option maxHeartbeats 400000 in
theorem areConstants_any (v : Value) (xs : List Int) (B : Nat) (w : World) (h : RdInts w B v xs) (hn : xs.length ≤ 1048576) :
    Calls Tryz.prog 69 #[v] w fun e w' => e = .returned (.bool (xs.all constOk)) ∧ w = w' := by
  obtain ⟨A, c, rfl, hc, h2⟩ := h
  go_enter Tryz.func69, Tryz.ntmps69
  go_wp2_with (fail)
  go_loop [4, 7] (fun _ i => ∃ k : Nat, k ≤ xs.length ∧ i = .int .i64 k ∧ ConstsTo xs k) (fun _ i => xs.length - (intOf i).toNat)
  case atStart => exact ⟨0, Nat.zero_le _, rfl, fun j hj => absurd hj (by omega)⟩
  case round =>
    obtain ⟨k, hk, rfl, hs⟩ := hrel
    by_cases hlk : k < xs.length
    · obtain ⟨b2, o2, rfl, hbB2, hx2⟩ := h2 (by omega)
      have hck2 : w.cell? ⟨b2, o2 + k, none⟩ = some (.int .i64 xs[k]) := hx2 k hlk
      clear hx2 h2
      by_cases h0 : xs[k] < 0
      · have HE := Lib.hid (consts_not hlk (by simp [constOk]; omega))
        clear hs
        go_wp2_with (fail)
        go_ret
        exact ⟨ret_bool HE.out.symm, rfl⟩
      · have hd : decide (xs[k] < 0) = false := by simpa using h0
        by_cases h2 : 5 < xs[k]
        · have HE := Lib.hid (consts_not hlk (by simp [constOk]; omega))
          clear hs
          go_wp2_with (fail)
          go_ret
          exact ⟨ret_bool HE.out.symm, rfl⟩
        · have HS := Lib.hid (hs.step (by simp [hlk, constOk]; omega))
          clear hs
          go_wp2_with (fail)
          go_round
          case rel => exact ⟨k + 1, by omega, by go_num, HS.out⟩
          case measure => simp [intOf]; omega
    · have hkn : k = xs.length := by omega
      have HE := Lib.hid (show xs.all constOk = true from ConstsTo.all (by rw [← hkn]; exact hs))
      clear hkn hs h2
      go_wp2_with (fail)
      go_ret
      exact ⟨ret_bool HE.out.symm, rfl⟩

set_option maxHeartbeats 400000 in
set_option maxRecDepth 100000 in
theorem factFits_any (v v2 : Value) (ar : List Int) (f : LFact) (w : World) (h : RdInts w w.heap.size v ar) (h2 : RdFact w w.heap.size v2 f) (hn : f.2.length ≤ 1048576) :
    Calls Tryz.prog 44 #[v, v2] w fun e w' => e = .returned (.bool (factFits ar f)) ∧ Below w.heap.size w w' := by
  obtain ⟨pp, xs⟩ := f
  obtain ⟨A, c, rfl, hc, h⟩ := h
  obtain ⟨a, rfl, h2⟩ := h2
  have H2 := Lib.hid h2
  obtain ⟨A2, c2, rfl, hc2, _⟩ := h2
  by_cases h0 : pp < 0
  · have hd : decide (pp < 0) = true := by simpa using h0
    have HE := Lib.hid (show factFits ar (pp, xs) = false by simp [factFits]; omega)
    go_enter Tryz.func44, Tryz.ntmps44
    go_wp2_with (fail)
    go_quiet (fail)
    go_wp2_with (fail)
    go_ret
    exact ⟨ret_bool HE.out.symm, bdrewN (below1 _ _) _⟩
  · have hd : decide (pp < 0) = false := by simpa using h0
    obtain ⟨p, rfl⟩ := Int.eq_ofNat_of_zero_le (Int.not_lt.1 h0)
    by_cases h1 : (ar.length : Int) ≤ p
    · have hd1 : decide ((ar.length : Int) ≤ (p : Int)) = true := by simpa using h1
      have HE := Lib.hid (show factFits ar ((p : Int), xs) = false by simp [factFits]; omega)
      go_enter Tryz.func44, Tryz.ntmps44
      go_wp2_with (fail)
      go_quiet (fail)
      go_wp2_with (fail)
      go_ret
      exact ⟨ret_bool HE.out.symm, bdrewN (below1 _ _) _⟩
    · have hd1 : decide ((ar.length : Int) ≤ (p : Int)) = false := by simpa using h1
      have hlt : p < ar.length := by omega
      have hltI : (p : Int) < (ar.length : Int) := by omega
      obtain ⟨b, o, rfl, hbB, hx⟩ := h (by omega)
      have hck : ∀ O, (w.alloc O).cell? ⟨b, o + p, none⟩ = some (.int .i64 ar[p]) := fun O => (World.cell?_alloc_lt w O ⟨b, o + p, none⟩ hbB).trans (hx p hlt)
      by_cases h3 : (xs.length : Int) = ar[p]
      · have hd3 : ((xs.length : Int) != ar[p]) = false := by simp [h3]
        have H3 := Lib.hid (show factFits ar ((p : Int), xs) = xs.all constOk by simp [factFits, hlt, h3])
        clear h3 hx h
        go_enter Tryz.func44, Tryz.ntmps44
        go_wp2_with (fail)
        go_quiet (fail)
        go_wp2_with (fail)
        refine (areConstants_any _ xs _ _ ((H2.out.below (below1 w _) (Nat.le_refl _)).below (bdrewN (Below.refl _ _) _) (Nat.le_refl _)) hn).mono ?_
        rintro e w1 ⟨rfl, rfl⟩
        go_wp2_with (fail)
        go_ret
        exact ⟨ret_bool H3.out.symm, bdrewN (below1 _ _) _⟩
      · have hd3 : ((xs.length : Int) != ar[p]) = true := by simp [h3]
        have HE := Lib.hid (show factFits ar ((p : Int), xs) = false by simp [factFits, hlt, h3])
        clear h3 hx h
        go_enter Tryz.func44, Tryz.ntmps44
        go_wp2_with (fail)
        go_quiet (fail)
        go_wp2_with (fail)
        go_ret
        exact ⟨ret_bool HE.out.symm, bdrewN (below1 _ _) _⟩

end Go.Proofs.YtcceololijefiaaGreatDoor
/-
  HeadOf, plain mathematics; blocks that growth leaves alone.
-/
namespace Go.Proofs.YtcceololijefiaaGreatDoor
open Go.RowKit

def headOk (a : LFact) (bs : List Int) : Bool := (bindOk bs && a.2.all termOk) && (a.2.map (termVal bs)).all constOk
def headOf (a : LFact) (bs : List Int) : LFact := if headOk a bs then (a.1, a.2.map (termVal bs)) else (0, [])
theorem headOk_bind {a : LFact} {bs : List Int} (h : bindOk bs = false) : headOk a bs = false := by unfold headOk; rw [h]; rfl
theorem headOk_terms {a : LFact} {bs : List Int} (h : a.2.all termOk = false) : headOk a bs = false := by unfold headOk; rw [h, Bool.and_false]; rfl
theorem headOk_vals {a : LFact} {bs : List Int} (h : (a.2.map (termVal bs)).all constOk = false) : headOk a bs = false := by unfold headOk; rw [h, Bool.and_false]
theorem headOk_yes {a : LFact} {bs : List Int} (h1 : bindOk bs = true) (h2 : a.2.all termOk = true) (h3 : (a.2.map (termVal bs)).all constOk = true) : headOk a bs = true := by unfold headOk; rw [h1, h2, h3]; rfl
theorem headOf_no {a : LFact} {bs : List Int} (h : headOk a bs = false) : headOf a bs = (0, []) := by unfold headOf; rw [h]; rfl
theorem headOf_yes {a : LFact} {bs : List Int} (h : headOk a bs = true) : headOf a bs = (a.1, a.2.map (termVal bs)) := by unfold headOf; rw [h]; rfl
theorem headOf_length (a : LFact) (bs : List Int) : (headOf a bs).2.length ≤ a.2.length := by
  unfold headOf
  split <;> simp

theorem Blk.grown {w w' : World} {g : Nat} {t : TypeId} {cs : Array Value} {row : Option Nat} (h : Blk w g t cs) (hg : w.grownBy w' row) (hne : row ≠ some g) : Blk w' g t cs := (hg.block g h.lt (fun e => hne e.symm)).trans h
/-- A row that is appended to lies in none of the blocks ahead. -/
theorem OwnInts.apart {w : World} {lo hi : Nat} {v : Value} {xs : List Int} (h : OwnInts w lo hi v xs) {g : Nat} (hg : g < lo) : v.ownBlock ≠ some g := fun e => by have := h.lt e; omega

end Go.Proofs.YtcceololijefiaaGreatDoor
/-
  The walks of isTerm, areTerms, l2Terms.
-/
namespace Go.Proofs.YtcceololijefiaaGreatDoor
open Go.RowKit

theorem isTerm_any (n : Int) (w : World) : Calls Tryz.prog 104 #[.int .i64 n] w fun e w' => e = .returned (.bool (termOk n)) ∧ w = w' := by
  by_cases h1 : isVarB n = true
  · have HE := Lib.hid (show termOk n = true by simp [isVarB] at h1; simp [termOk]; omega)
    go_enter Tryz.func104, Tryz.ntmps104
    go_wp2_with (go_at_call 97; refine (isVar_is h1 _).mono ?_; rintro e w' ⟨rfl, rfl⟩)
    go_ret
    exact ⟨ret_bool HE.out.symm, rfl⟩
  · have h2 : isVarB n = false := by simpa using h1
    by_cases h3 : 0 ≤ n
    · have hd : decide (0 ≤ n) = true := by simpa using h3
      by_cases h4 : n ≤ 5
      · have HE := Lib.hid (show termOk n = true by simp [termOk]; omega)
        go_enter Tryz.func104, Tryz.ntmps104
        go_wp2_with (go_at_call 97; refine (isVar_is h2 _).mono ?_; rintro e w' ⟨rfl, rfl⟩)
        go_ret
        exact ⟨ret_bool HE.out.symm, rfl⟩
      · have HE := Lib.hid (show termOk n = false by simp [termOk]; omega)
        go_enter Tryz.func104, Tryz.ntmps104
        go_wp2_with (go_at_call 97; refine (isVar_is h2 _).mono ?_; rintro e w' ⟨rfl, rfl⟩)
        go_ret
        exact ⟨ret_bool (by rw [HE.out]; simp; omega), rfl⟩
    · have hd : decide (0 ≤ n) = false := by simpa using h3
      have HE := Lib.hid (show termOk n = false by simp [isVarB] at h2; simp [termOk]; omega)
      go_enter Tryz.func104, Tryz.ntmps104
      go_wp2_with (go_at_call 97; refine (isVar_is h2 _).mono ?_; rintro e w' ⟨rfl, rfl⟩)
      go_ret
      exact ⟨ret_bool HE.out.symm, rfl⟩

theorem isTerm_is {n : Int} {b : Bool} (h : termOk n = b) (w : World) : Calls Tryz.prog 104 #[.int .i64 n] w fun e w' => e = .returned (.bool b) ∧ w = w' := h ▸ isTerm_any n w

set_option maxHeartbeats 400000 in
theorem areTerms_any (v : Value) (xs : List Int) (B : Nat) (w : World) (h : RdInts w B v xs) (hr : xs.length ≤ 1048576) :
    Calls Tryz.prog 89 #[v] w fun e w' => e = .returned (.bool (xs.all termOk)) ∧ w = w' := by
  obtain ⟨A, c, rfl, hc, ha⟩ := h
  go_enter Tryz.func89, Tryz.ntmps89
  go_wp2_with (fail)
  go_loop [4, 7] (fun _ i => ∃ k : Nat, k ≤ xs.length ∧ i = .int .i64 k ∧ AllTo termOk xs k) (fun _ i => xs.length - (intOf i).toNat)
  case atStart => exact ⟨0, Nat.zero_le _, rfl, AllTo.start⟩
  case round =>
    obtain ⟨k, hk, rfl, hs⟩ := hrel
    by_cases hlt : k < xs.length
    · obtain ⟨b, o, rfl, hbB, hx⟩ := ha (by omega)
      have hck : w.cell? ⟨b, o + k, none⟩ = some (.int .i64 xs[k]) := hx k hlt
      clear hx ha
      by_cases he : termOk xs[k] = true
      · have HS := Lib.hid (hs.step hlt he)
        clear hs
        go_wp2_with (go_at_call 104; refine (isTerm_is he _).mono ?_; rintro e w' ⟨rfl, rfl⟩)
        go_round
        case rel => exact ⟨k + 1, by omega, by go_num, HS.out⟩
        case measure => simp [intOf]; omega
      · have he' : termOk xs[k] = false := by simpa using he
        have HE := Lib.hid (all_not hlt he')
        clear hs he
        go_wp2_with (go_at_call 104; refine (isTerm_is he' _).mono ?_; rintro e w' ⟨rfl, rfl⟩)
        go_ret
        exact ⟨ret_bool HE.out.symm, rfl⟩
    · have HE := Lib.hid (hs.done (by omega))
      clear hs ha
      go_wp2_with (fail)
      go_ret
      exact ⟨ret_bool HE.out.symm, rfl⟩

set_option maxHeartbeats 400000 in
theorem l2Terms_any (v : Value) (xs : List Int) (B : Nat) (w : World) (h : RdInts w B v xs) (hr : xs.length ≤ 1048576) :
    Calls Tryz.prog 78 #[v] w fun e w' => e = .returned (.bool (xs.all termOk)) ∧ w = w' := by
  obtain ⟨A, c, rfl, hc, ha⟩ := h
  go_enter Tryz.func78, Tryz.ntmps78
  go_wp2_with (fail)
  go_loop [3] (fun i => ∃ k : Nat, k ≤ xs.length ∧ i = .int .i64 k ∧ AllTo termOk xs k) (fun i => xs.length - (intOf i).toNat)
  case atStart => exact ⟨0, Nat.zero_le _, rfl, AllTo.start⟩
  case round =>
    obtain ⟨k, hk, rfl, hs⟩ := hrel
    by_cases hlt : k < xs.length
    · obtain ⟨b, o, rfl, hbB, hx⟩ := ha (by omega)
      have hck : w.cell? ⟨b, o + k, none⟩ = some (.int .i64 xs[k]) := hx k hlt
      clear hx ha
      by_cases he : -4 ≤ xs[k] ∧ xs[k] ≤ 5
      · have HS := Lib.hid (hs.step hlt (by simpa [termOk] using he))
        have HK := Lib.hid (l1In_yes he)
        clear hs he
        go_wp2_with (go_at_call 59; refine (HK.out _).mono ?_; rintro e w' ⟨rfl, rfl⟩)
        go_round
        case rel => exact ⟨k + 1, by omega, by go_num, HS.out⟩
        case measure => simp [intOf]; omega
      · have HE := Lib.hid (all_not hlt (show termOk xs[k] = false by simpa [termOk] using he))
        have HK := Lib.hid (l1In_no he)
        clear hs he
        go_wp2_with (go_at_call 59; refine (HK.out _).mono ?_; rintro e w' ⟨rfl, rfl⟩)
        go_ret
        exact ⟨ret_bool HE.out.symm, rfl⟩
    · have HE := Lib.hid (hs.done (by omega))
      clear hs ha
      go_wp2_with (fail)
      go_ret
      exact ⟨ret_bool HE.out.symm, rfl⟩

end Go.Proofs.YtcceololijefiaaGreatDoor
/-
  The specification's l3Bind, l3Term, Bound, l3Copy.
-/
namespace Go.Proofs.YtcceololijefiaaGreatDoor
open Go.RowKit

set_option maxHeartbeats 400000 in
theorem l3Bind_any (v : Value) (bs : List Int) (B : Nat) (w : World) (h : RdInts w B v bs) (hr : bs.length ≤ 1048576) :
    Calls Tryz.prog 86 #[v] w fun e w' => e = .returned (.bool (bindOk bs)) ∧ w = w' := by
  obtain ⟨A, c, rfl, hc, ha⟩ := h
  go_enter Tryz.func86, Tryz.ntmps86
  go_wp2_with (fail)
  go_loop [3] (fun i => ∃ k : Nat, k ≤ bs.length ∧ i = .int .i64 k ∧ AllTo hasB bs k) (fun i => bs.length - (intOf i).toNat)
  case atStart => exact ⟨0, Nat.zero_le _, rfl, AllTo.start⟩
  case round =>
    obtain ⟨k, hk, rfl, hs⟩ := hrel
    by_cases hlt : k < bs.length
    · obtain ⟨b, o, rfl, hbB, hx⟩ := ha (by omega)
      have hck : w.cell? ⟨b, o + k, none⟩ = some (.int .i64 bs[k]) := hx k hlt
      clear hx ha
      by_cases he : -1 ≤ bs[k] ∧ bs[k] ≤ 5
      · have HS := Lib.hid (hs.step hlt (by simpa [hasB] using he))
        have HK := Lib.hid (l1In_yes he)
        clear hs he
        go_wp2_with (go_at_call 59; refine (HK.out _).mono ?_; rintro e w' ⟨rfl, rfl⟩)
        go_round
        case rel => exact ⟨k + 1, by omega, by go_num, HS.out⟩
        case measure => simp [intOf]; omega
      · have HE := Lib.hid (show bindOk bs = false by simp [bindOk, all_not hlt (show hasB bs[k] = false by simpa [hasB] using he)])
        have HK := Lib.hid (l1In_no he)
        clear hs he
        go_wp2_with (go_at_call 59; refine (HK.out _).mono ?_; rintro e w' ⟨rfl, rfl⟩)
        go_ret
        exact ⟨ret_bool HE.out.symm, rfl⟩
    · have HE := Lib.hid (hs.done (by omega))
      clear hs ha
      by_cases hl : bs.length = 4
      · have hl1 : ((bs.length : Int) == 4) = true := by simp; omega
        have HB := Lib.hid (bindOk_iff hl HE.out)
        clear hl
        go_wp2_with (fail)
        go_ret
        exact ⟨ret_bool HB.out.symm, rfl⟩
      · have hl1 : ((bs.length : Int) == 4) = false := by simp; omega
        have HB := Lib.hid (show bindOk bs = false by simp [bindOk, hl])
        clear hl
        go_wp2_with (fail)
        go_ret
        exact ⟨ret_bool HB.out.symm, rfl⟩

theorem l3Bind_is {bs : List Int} {ok : Bool} (hok : bindOk bs = ok) (v : Value) (B : Nat) (w : World) (h : RdInts w B v bs) (hr : bs.length ≤ 1048576) :
    Calls Tryz.prog 86 #[v] w fun e w' => e = .returned (.bool ok) ∧ w = w' := hok ▸ l3Bind_any v bs B w h hr

set_option maxHeartbeats 400000 in
theorem l3Term_any (v : Value) (bs : List Int) (t : Int) (B : Nat) (w : World) (h : RdInts w B v bs) (hb : bs.length = 4) (ht : termOk t = true) :
    Calls Tryz.prog 87 #[.int .i64 t, v] w fun e w' => e = .returned (.int .i64 (termVal bs t)) ∧ w = w' := by
  obtain ⟨A, c, rfl, hc, ha⟩ := h
  have htb := termOk_at ht
  by_cases h0 : 0 ≤ t
  · have hd : decide (0 ≤ t) = true := by simpa using h0
    have HE := Lib.hid (termVal_const (bs := bs) h0).symm
    go_enter Tryz.func87, Tryz.ntmps87
    go_wp2_with (fail)
    go_ret
    exact ⟨ret_int HE.out, rfl⟩
  · have hd : decide (0 ≤ t) = false := by simpa using h0
    obtain ⟨j, hj4, rfl⟩ : ∃ j : Nat, j < bs.length ∧ t = -1 - (j : Int) := ⟨(-1 - t).toNat, by omega, by omega⟩
    obtain ⟨b, o, rfl, hbB, hx⟩ := ha (by omega)
    have hck : w.cell? ⟨b, o + j, none⟩ = some (.int .i64 bs[j]) := hx j hj4
    have hjI : (j : Int) < (bs.length : Int) := by omega
    have HE := Lib.hid (show bs[j] = termVal bs (-1 - (j : Int)) by
      rw [termVal_var (by omega), show (-1 - (-1 - (j : Int))).toNat = j by omega]
      simp [hj4])
    have hee : -1 - (-1 - (j : Int)) = (j : Int) := by omega
    clear hx ha hb
    go_enter Tryz.func87, Tryz.ntmps87
    go_wp2_with (fail)
    go_ret
    exact ⟨ret_int HE.out, rfl⟩

end Go.Proofs.YtcceololijefiaaGreatDoor
