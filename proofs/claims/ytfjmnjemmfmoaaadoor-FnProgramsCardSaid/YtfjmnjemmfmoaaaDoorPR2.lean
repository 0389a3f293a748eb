/-
  Texts that the claim's last one imports, laid together: part 2 of 7. No condition of its own.
-/
import Derived.Maps.AppendAt
import Derived.Deep.AppendLies
import Derived.StillTailTactics
import Derived.Deep.QuietTactic
import Derived.BigQuiet
import Derived.Deep.Quiet
import Derived.Laws.BitsAllLaws
import Derived.Shelf.Spec.TrailingZeros
import Derived.Laws.Bits64b
import Derived.Test.YtfjmnjemmfmoaaaDoorRows
import Derived.Stop.LaidErr
import Derived.Lib.LaidTab
import Derived.MakeChecks
import Derived.Laws.Bits64
import Derived.RegionTactic
import Derived.Deep.RegionLaw
import Derived.Deep.RegionHeld3
import Derived.Deep.DeepCutAuto
import Derived.OrdersHeld
import Derived.Test.YtfjmnjemmfmoaaaDoorPR1
/-
  Marks on what is not read again: a store of a number over a number keeps the shape of all that lies there. The words, and the walks of markIntS, markAtom, markLitS, markRule, markRuleS, markProgram.
-/
namespace Go.Proofs.YtfjmnjemmfmoaaaDoor
open Go.RowKit

/-- Blocks outside [lo, hi) are as they were; within, numbers may have become others. -/
structure Marked (lo hi : Nat) (w w' : World) : Prop where
  only : Only lo hi w w'
  cell : ∀ p : Addr, p.block < w.heap.size → w'.cell? p = w.cell? p ∨ ∃ x y, w.cell? p = some (.int .i64 x) ∧ w'.cell? p = some (.int .i64 y)
  frozen : ∀ p : Addr, p.block < w.heap.size → w'.frozen? p = w.frozen? p

section
variable {lo hi : Nat} {w w1 w' : World}
theorem Marked.refl (lo hi : Nat) (w : World) : Marked lo hi w w := ⟨Only.refl _ _ _, fun _ _ => .inl rfl, fun _ _ => rfl⟩
theorem Marked.trans (h : Marked lo hi w w1) (k : Marked lo hi w1 w') : Marked lo hi w w' := by
  refine ⟨h.only.trans k.only, fun p hp => ?_, fun p hp => (k.frozen p (Nat.lt_of_lt_of_le hp h.only.size)).trans (h.frozen p hp)⟩
  rcases h.cell p hp with e | ⟨x, y, e1, e2⟩
  · rcases k.cell p (Nat.lt_of_lt_of_le hp h.only.size) with e' | ⟨x', y', e1', e2'⟩
    · exact .inl (e'.trans e)
    · exact .inr ⟨x', y', e ▸ e1', e2'⟩
  · rcases k.cell p (Nat.lt_of_lt_of_le hp h.only.size) with e' | ⟨x', y', e1', e2'⟩
    · exact .inr ⟨x, y, e1, e'.trans e2⟩
    · exact .inr ⟨x, y', e1, e2'⟩
theorem Marked.of_below (h : Below w.heap.size w w') : Marked lo hi w w' := ⟨Only.of_below h, fun _ hp => .inl (h.cell hp), fun _ hp => h.frozen hp⟩
theorem Marked.store {p : Addr} {x : Int} (hp : lo ≤ p.block ∧ p.block < hi) (hc : w.cell? p = some (.int .i64 x)) (y : Int) : Marked lo hi w (w.setCell p (.int .i64 y)) := by
  refine ⟨(Only.refl _ _ _).setCell hp _, fun q _ => ?_, fun q _ => ?_⟩
  · by_cases e : q = p
    · subst e
      exact .inr ⟨x, y, hc, World.cell?_setCell_same _ _ _ hc⟩
    · exact .inl (World.cell?_setCell_other _ _ _ _ (fun e' => e e'.symm))
  · unfold World.frozen? World.setCell
    rw [Array.getElem?_modify]
    by_cases e : p.block = q.block
    · rw [if_pos e]
      cases hq : w.heap[q.block]? with
      | none => rfl
      | some o => cases o <;> rfl
    · rw [if_neg e]

/-- A slice of n numbers, of blocks from lo on and below hi, that may be written. -/
def WrInts (w : World) (lo hi : Nat) (v : Value) (n : Nat) : Prop :=
  ∃ A c, v = .slice A n c ∧ (0 < n → ∃ b o, A = some ⟨b, o, none⟩ ∧ lo ≤ b ∧ b < hi ∧ ∀ k, k < n → w.frozen? ⟨b, o + k, none⟩ = false ∧ ∃ x, w.cell? ⟨b, o + k, none⟩ = some (.int .i64 x))
theorem Marked.int (h : Marked lo hi w w') {p : Addr} {x : Int} (hc : w.cell? p = some (.int .i64 x)) : ∃ y, w'.cell? p = some (.int .i64 y) := by
  rcases h.cell p (World.block_lt_of_cell? _ _ hc) with e | ⟨_, y, _, e⟩
  · exact ⟨x, e.trans hc⟩
  · exact ⟨y, e⟩
theorem Marked.slice (h : Marked lo hi w w') {p : Addr} {A : Option Addr} {n c : Nat} (hc : w.cell? p = some (.slice A n c)) : w'.cell? p = some (.slice A n c) := by
  rcases h.cell p (World.block_lt_of_cell? _ _ hc) with e | ⟨x, y, e, _⟩
  · exact e.trans hc
  · rw [hc] at e
    cases e
theorem WrInts.marked {v : Value} {n : Nat} (h : WrInts w lo hi v n) (hm : Marked lo hi w w') : WrInts w' lo hi v n := by
  obtain ⟨A, c, rfl, h⟩ := h
  refine ⟨A, c, rfl, fun hn => ?_⟩
  obtain ⟨b, o, rfl, h1, h2, hx⟩ := h hn
  refine ⟨b, o, rfl, h1, h2, fun k hk => ?_⟩
  obtain ⟨hf, x, hc⟩ := hx k hk
  exact ⟨(hm.frozen _ (World.block_lt_of_cell? _ _ hc)).trans hf, hm.int hc⟩
theorem OwnInts.wr {v : Value} {xs : List Int} (h : OwnInts w lo hi v xs) : WrInts w lo hi v xs.length := by
  have hrd := h.rd
  obtain ⟨⟨hlen, h⟩, hlt⟩ := h
  rcases h with ⟨rfl, h0⟩ | ⟨g, cap, cur, rfl, hbg, hg, hn, hm, hs, ht⟩
  · exact ⟨none, 0, by rw [h0], fun hn => absurd hn (by omega)⟩
  · refine ⟨_, cap, rfl, fun hn0 => ⟨g, 0, rfl, hbg, hlt g rfl, fun k hk => ⟨by simp [World.frozen?, hg], ?_⟩⟩⟩
    obtain ⟨A', c', e, _, hx⟩ := hrd
    injection e with e1 _ _
    obtain ⟨b, o, e2, _, hx⟩ := hx hn0
    rw [← e1] at e2
    injection e2 with e2
    injection e2 with e2 e3 _
    subst e2
    subst e3
    exact ⟨_, hx k hk⟩

def WLit (w : World) (lo hi : Nat) (u0 u1 u2 : Value) (l : LLit) : Prop := (∃ x, u0 = .int .i64 x) ∧ (∃ y, u1 = .int .i64 y) ∧ WrInts w lo hi u2 l.2.2.length
def WrLits (w : World) (lo hi : Nat) (v : Value) (ls : List LLit) : Prop := OwnRow WLit w lo hi v ls
theorem OwnLits.wr {v : Value} {ls : List LLit} (h : OwnLits w lo hi v ls) : WrLits w lo hi v ls := by
  obtain ⟨A, c, rfl, hc, h⟩ := h
  refine ⟨A, c, rfl, hc, fun hn => ?_⟩
  obtain ⟨b, o, rfl, h1, h2, hx⟩ := h hn
  refine ⟨b, o, rfl, h1, h2, fun k hk => ?_⟩
  obtain ⟨hf, u0, u1, u2, c0, c1, c2, rfl, rfl, hI⟩ := hx k hk
  exact ⟨hf, _, _, _, c0, c1, c2, ⟨_, rfl⟩, ⟨_, rfl⟩, hI.wr⟩
theorem WrLits.marked {v : Value} {ls : List LLit} (h : WrLits w lo hi v ls) (hm : Marked lo hi w w') : WrLits w' lo hi v ls := by
  obtain ⟨A, c, rfl, hc, h⟩ := h
  refine ⟨A, c, rfl, hc, fun hn => ?_⟩
  obtain ⟨b, o, rfl, h1, h2, hx⟩ := h hn
  refine ⟨b, o, rfl, h1, h2, fun k hk => ?_⟩
  obtain ⟨⟨f0, f1⟩, u0, u1, u2, c0, c1, c2, ⟨x, rfl⟩, ⟨y, rfl⟩, hI⟩ := hx k hk
  obtain ⟨x', d0⟩ := hm.int c0
  obtain ⟨y', d1⟩ := hm.int c1
  obtain ⟨A2, c2', rfl, hi⟩ := hI
  exact ⟨⟨(hm.frozen _ (World.block_lt_of_cell? _ _ c0)).trans f0, (hm.frozen _ (World.block_lt_of_cell? _ _ c1)).trans f1⟩, _, _, _, d0, d1, hm.slice c2, ⟨_, rfl⟩, ⟨_, rfl⟩, WrInts.marked ⟨A2, c2', rfl, hi⟩ hm⟩

def WRule (w : World) (lo hi : Nat) (u0 u1 u2 : Value) (r : LRule) : Prop := (∃ x, u0 = .int .i64 x) ∧ WrInts w lo hi u1 r.1.2.length ∧ WrLits w lo hi u2 r.2
def WrRules (w : World) (lo hi : Nat) (v : Value) (rs : List LRule) : Prop := OwnRow WRule w lo hi v rs
theorem OwnRules.wr {v : Value} {rs : List LRule} (h : OwnRules w lo hi v rs) : WrRules w lo hi v rs := by
  obtain ⟨A, c, rfl, hc, h⟩ := h
  refine ⟨A, c, rfl, hc, fun hn => ?_⟩
  obtain ⟨b, o, rfl, h1, h2, hx⟩ := h hn
  refine ⟨b, o, rfl, h1, h2, fun k hk => ?_⟩
  obtain ⟨hf, u0, u1, u2, c0, c1, c2, rfl, hI, hL⟩ := hx k hk
  exact ⟨hf, _, _, _, c0, c1, c2, ⟨_, rfl⟩, hI.wr, hL.wr⟩
theorem WrRules.marked {v : Value} {rs : List LRule} (h : WrRules w lo hi v rs) (hm : Marked lo hi w w') : WrRules w' lo hi v rs := by
  obtain ⟨A, c, rfl, hc, h⟩ := h
  refine ⟨A, c, rfl, hc, fun hn => ?_⟩
  obtain ⟨b, o, rfl, h1, h2, hx⟩ := h hn
  refine ⟨b, o, rfl, h1, h2, fun k hk => ?_⟩
  obtain ⟨⟨f0, f1⟩, u0, u1, u2, c0, c1, c2, ⟨x, rfl⟩, hI, hL⟩ := hx k hk
  obtain ⟨x', d0⟩ := hm.int c0
  have f1' := (hm.frozen _ (World.block_lt_of_cell? _ _ c1)).trans f1
  obtain ⟨A1, n1, rfl, hi1⟩ := hI
  obtain ⟨A2, n2, rfl, hc2, hi2⟩ := hL
  exact ⟨⟨(hm.frozen _ (World.block_lt_of_cell? _ _ c0)).trans f0, f1'⟩, _, _, _, d0, hm.slice c1, hm.slice c2, ⟨_, rfl⟩, WrInts.marked ⟨A1, n1, rfl, hi1⟩ hm, WrLits.marked ⟨A2, n2, rfl, hc2, hi2⟩ hm⟩
end

set_option maxHeartbeats 400000 in
theorem wmarkIntS_any (v : Value) (n : Nat) (k : Int) (lo hi : Nat) (w : World) (h : WrInts w lo hi v n) (hk0 : 0 ≤ k) (hk : k + n ≤ 4611686018427387904) :
    Calls Tryd.prog 50 #[v, .int .i64 k] w fun e w' => e = .returned (.int .i64 (k + n)) ∧ Marked lo hi w w' := by
  have H := Lib.hid h
  obtain ⟨A, c, rfl, _⟩ := h
  go_enter Tryd.func50, Tryd.ntmps50
  go_wp2_with (fail)
  go_loopw [1, 5] (fun m i wr => ∃ j : Nat, j ≤ n ∧ i = .int .i64 j ∧ m = .int .i64 (k + j) ∧ Marked lo hi w wr) (fun _ i _ => n - (intOf i).toNat)
  case atStart => exact ⟨0, Nat.zero_le _, rfl, by simp, Marked.refl _ _ _⟩
  case round =>
    obtain ⟨j, hj, rfl, rfl, hm⟩ := hrel
    by_cases hlt : j < n
    · obtain ⟨A', c', e, hx⟩ := H.out.marked hm
      injection e with e1 _ _
      subst e1
      obtain ⟨b, o, rfl, h1, h2, hx⟩ := hx (by omega)
      obtain ⟨hf, x, hc⟩ := hx j hlt
      have HM := Lib.hid (hm.trans (Marked.store (p := ⟨b, o + j, none⟩) ⟨h1, h2⟩ hc (k + j)))
      clear hx
      go_wp2_with (fail)
      go_roundw
      case rel => exact ⟨j + 1, by omega, by go_num, by go_num, HM.out⟩
      case measure => simp [intOf]; omega
    · have hkn : j = n := by omega
      have HK := Lib.hid (show k + (j : Int) = k + n by rw [hkn])
      clear hkn
      go_wp2_with (fail)
      go_ret
      exact ⟨ret_int HK.out, hm⟩

/-- How far the marks of literals, of a rule, of rules go. -/
def endL (k : Int) (ls : List LLit) : Int := k + 2 * (ls.length : Int) + (totL ls : Int)

set_option maxHeartbeats 1000000 in
set_option maxRecDepth 100000 in
theorem wmarkLitS_any (v : Value) (ls : List LLit) (k : Int) (lo hi : Nat) (w : World) (h : WrLits w lo hi v ls) (hk0 : 0 ≤ k) (hk : k ≤ 4294967296) (hn : ls.length ≤ 1073741824) (ht : totL ls ≤ 1073741824) :
    Calls Tryd.prog 110 #[v, .int .i64 k] w fun e w' => e = .returned (.int .i64 (endL k ls)) ∧ Marked lo hi w w' := by
  have H := Lib.hid h
  obtain ⟨A, c, rfl, _⟩ := h
  go_enter Tryd.func110, Tryd.ntmps110
  go_wp2_with (fail)
  go_loopw [1, 5] (fun m i wr => ∃ (j : Nat) (q : Int), j ≤ ls.length ∧ i = .int .i64 j ∧ m = .int .i64 q ∧ q = k + 2 * (j : Int) + (totL (ls.take j) : Int) ∧ Marked lo hi w wr) (fun _ i _ => ls.length - (intOf i).toNat)
  case atStart => exact ⟨0, k, Nat.zero_le _, rfl, rfl, by simp [totL], Marked.refl _ _ _⟩
  case round =>
    obtain ⟨j, q, hj, rfl, rfl, hq, hm⟩ := hrel
    by_cases hlt : j < ls.length
    · obtain ⟨A', c', e, _, hx⟩ := H.out.marked hm
      injection e with e1 _ e3
      subst e1
      subst e3
      obtain ⟨b, o, rfl, h1, h2, hx⟩ := hx (by omega)
      obtain ⟨⟨f0, f1⟩, u0, u1, u2, c0, c1, c2, ⟨x, rfl⟩, ⟨y, rfl⟩, hI⟩ := hx j hlt
      have m0 := Marked.store (p := ⟨b, o + j * 3, none⟩) ⟨h1, h2⟩ c0 q
      obtain ⟨y', c1'⟩ := m0.int c1
      have f1' := (m0.frozen ⟨b, o + j * 3 + 1, none⟩ (World.block_lt_of_cell? _ _ c1)).trans f1
      have m1 := Marked.store (p := ⟨b, o + j * 3 + 1, none⟩) ⟨h1, h2⟩ c1' (q + 1)
      have hI2 := hI.marked (m0.trans m1)
      obtain ⟨A3, c3, rfl, _⟩ := hI
      have c2' := (m0.trans m1).slice c2
      have htk := totL_take ls j hlt
      have hle := sum_at (fun l : LLit => l.2.2.length) ls j hlt
      have htl : totL (ls.take j) ≤ totL ls := by
        have := congrArg (fun l => (l.map (fun l : LLit => l.2.2.length)).sum) (List.take_append_drop j ls)
        simp only [List.map_append, List.sum_append] at this
        unfold totL
        omega
      have hle2 : ls[j].2.2.length ≤ totL ls := hle
      clear hle
      have hq0 : 0 ≤ q := by omega
      have hq1 : q ≤ 8589934592 := by omega
      have HI := Lib.hid hI2
      have HM := Lib.hid (hm.trans (m0.trans m1))
      have HQ := Lib.hid (show q + 1 + 1 + (ls[j].2.2.length : Int) = k + 2 * ((j + 1 : Nat) : Int) + (totL (ls.take (j + 1)) : Int) by rw [htk]; omega)
      clear hx m0 m1 hI2 htk htl hq
      go_wp2_with (fail)
      refine (wmarkIntS_any _ _ (q + 1 + 1) lo hi _ HI.out (by omega) (by omega)).mono ?_
      rintro e w3 ⟨rfl, hm3⟩
      have HM3 := Lib.hid (HM.out.trans hm3)
      go_wp2_with (fail)
      go_roundw
      case rel => exact ⟨j + 1, _, by omega, by go_num, rfl, HQ.out, HM3.out⟩
      case measure => simp [intOf]; omega
    · have hkn : j = ls.length := by omega
      have HK := Lib.hid (show q = endL k ls by rw [hq, hkn, List.take_length]; rfl)
      clear hkn hq
      go_wp2_with (fail)
      go_ret
      exact ⟨ret_int HK.out, hm⟩

def endR (k : Int) (r : LRule) : Int := endL (k + (r.1.2.length : Int)) r.2

end Go.Proofs.YtfjmnjemmfmoaaaDoor
/-
  The loop that collects integers; the walk of the specification's RulesOf.
-/
namespace Go.Proofs.YtfjmnjemmfmoaaaDoor
open Go.RowKit

/-- The indexes of rules, of the first k, whose head has a predicate. -/
def rulesTo (rs : List LRule) (pred : Int) (k : Nat) : List Int := ((List.range k).filter fun i => (rs.getD i ((0, []), [])).1.1 == pred).map fun i : Nat => (i : Int)
def rulesOf (p : LProg) (pred : Int) : List Int := rulesTo p.2 pred p.2.length
theorem rulesTo_yes {rs : List LRule} {pred : Int} {k : Nat} (h : k < rs.length) (e : rs[k].1.1 = pred) : rulesTo rs pred (k + 1) = rulesTo rs pred k ++ [(k : Int)] := by
  unfold rulesTo
  rw [List.range_succ, List.filter_append, List.map_append]
  congr 1
  simp [h, e]
theorem rulesTo_no {rs : List LRule} {pred : Int} {k : Nat} (h : k < rs.length) (e : rs[k].1.1 ≠ pred) : rulesTo rs pred (k + 1) = rulesTo rs pred k := by
  unfold rulesTo
  rw [List.range_succ, List.filter_append, List.map_append]
  simp [h, e]
theorem rulesTo_length (rs : List LRule) (pred : Int) (k : Nat) : (rulesTo rs pred k).length ≤ k := by
  unfold rulesTo
  rw [List.length_map]
  exact Nat.le_trans (List.length_filter_le _ _) (by simp)

set_option maxHeartbeats 1000000 in
set_option maxRecDepth 100000 in
theorem specRulesOf_any (v : Value) (p : LProg) (pred : Int) (w : World) (h : RdProg w w.heap.size v p) (hs : szP p ≤ 1048576) :
    Calls Tryd.prog 30 #[v, .int .i64 pred] w fun e w' => ∃ A' c', e = .returned (.slice A' (rulesOf p pred).length c') ∧ OwnInts w' w.heap.size w'.heap.size (.slice A' (rulesOf p pred).length c') (rulesOf p pred) ∧ Below w.heap.size w w' := by
  obtain ⟨i0, hi0, hz0, hz1, hz2⟩ := info_parts Tryd.infoInt
  unfold szP at hs
  obtain ⟨a, b, rfl, h, h2⟩ := h
  have H2 := Lib.hid h2
  obtain ⟨A, c, rfl, hc, _⟩ := h
  obtain ⟨A2, c2, rfl, hc2, _⟩ := h2
  go_enter Tryd.func30, Tryd.ntmps30
  go_wp2_with (fail)
  obtain ⟨w2, hw2⟩ : ∃ w2, w2 = w.alloc (Obj.cells #[Value.slice A p.1.length c, Value.slice A2 p.2.length c2] 40) := ⟨_, rfl⟩
  have B2 : Below w.heap.size w w2 := by rw [hw2]; exact below1 _ _
  have x2 : Blk w2 w.heap.size 40 #[.slice A p.1.length c, .slice A2 p.2.length c2] := by rw [hw2]; exact Blk.new _ _ _
  have S2 := Lib.hid (show w2.heap.size = w.heap.size + 1 by rw [hw2]; simp)
  rw [← hw2]
  clear hw2
  go_loopw [5, 6] (fun o i wr => ∃ (k : Nat) (A' : Option Addr) (c' : Nat), k ≤ p.2.length ∧ i = .int .i64 k ∧ o = .slice A' (rulesTo p.2 pred k).length c' ∧ ColI w2 wr (rulesTo p.2 pred k) A' c') (fun _ i _ => p.2.length - (intOf i).toNat)
  case atStart => exact ⟨0, _, 0, Nat.zero_le _, rfl, rfl, by rw [← S2.out]; exact ColI.empty (Below.refl _ _)⟩
  case round =>
    obtain ⟨k, A', c', hk, rfl, rfl, hr⟩ := hrel
    have hln := rulesTo_length p.2 pred k
    have BW := bthen B2 hr.below
    have xr := x2.below hr.below x2.lt
    have q1 : wr.cell? ⟨w.heap.size, 1, none⟩ = some (.slice A2 p.2.length c2) := xr.cell 1
    by_cases hlt : k < p.2.length
    · obtain ⟨b, o, u0, u1, u2, rfl, hbB, k0, k1, k2, rfl, p3, p4⟩ := (H2.out.on BW).get hlt
      obtain ⟨A4, c4, rfl, hc4, _⟩ := p3
      obtain ⟨A5, c5, rfl, hc5, _⟩ := p4
      by_cases he : p.2[k].1.1 = pred
      · have heb : (p.2[k].1.1 == pred) = true := by simp [he]
        have HS := Lib.hid (rulesTo_yes hlt he)
        have HP := Lib.hid hr
        clear he hr
        go_wp2_with (at_builtin; refine wpList_append_lies _ rfl (.tmp 24) (.tmp 26) 23 rfl w2.heap.size 3 i0 (.int .i64 0) 1 8 Tryd.underlying23 hi0 hz0 hz1 hz2 rfl (by decide) (.slice A' (rulesTo p.2 pred k).length c') (rulesTo p.2 pred k).length ((rulesTo p.2 pred k).map (Value.int .i64)) rfl ?c1 ⟨_, 0, none⟩ 1 1 [.int .i64 k] rfl rfl (news1s _ _ _ _ (by simp)) ?c2 (by omega) (by unfold maxLen; omega) (by omega) ?c3 _ rfl ?_)
        case c1 => exact HP.out.own.1.alloc _
        case c2 => intro u hu; simp at hu; subst hu; rfl
        case c3 => have := HP.out.below.size; simp; omega
        intro g cap w4 hown hg _ _
        have hcol := HP.out.push (Below.refl _ _) hg hown
        rw [← HS.out] at hcol
        have hlen : (rulesTo p.2 pred k).length + 1 = (rulesTo p.2 pred (k + 1)).length := by rw [HS.out]; simp
        rw [hlen]
        have HC := Lib.hid hcol
        clear hcol hlen hown hg
        go_wp2_with (fail)
        go_roundw
        case rel => exact ⟨k + 1, _, _, by omega, by go_num, rfl, HC.out⟩
        case measure => simp [intOf]; omega
      · have heb : (p.2[k].1.1 == pred) = false := by simp [he]
        have HS := Lib.hid (rulesTo_no hlt he)
        have HP := Lib.hid hr
        clear he hr
        go_wp2_with (fail)
        go_roundw
        case rel => exact ⟨k + 1, _, _, by omega, by go_num, by rw [HS.out], by rw [HS.out]; exact HP.out⟩
        case measure => simp [intOf]; omega
    · have hkn : k = p.2.length := by omega
      have HO := Lib.hid (show OwnInts wr w2.heap.size wr.heap.size (.slice A' (rulesOf p pred).length c') (rulesOf p pred) ∧ rulesTo p.2 pred k = rulesOf p pred by
        have := hr.own
        rw [hkn] at this ⊢
        exact ⟨this, rfl⟩)
      have hsz2 := B2.size
      rw [HO.out.2]
      clear hkn hr
      go_wp2_with (fail)
      go_ret
      exact ⟨_, _, rfl, HO.out.1.mono hsz2 (Nat.le_refl _), BW⟩

end Go.Proofs.YtfjmnjemmfmoaaaDoor
/-
  Terms and variables: the words, and the walks of varTerm, varNumber, isVar.
-/
namespace Go.Proofs.YtfjmnjemmfmoaaaDoor
open Go.RowKit

def termOk (x : Int) : Bool := decide (-4 ≤ x ∧ x ≤ 5)
def isVarB (x : Int) : Bool := decide (-4 ≤ x ∧ x ≤ -1)

/-- 'the first k are so', kept from the walk. -/
def AllTo {α : Type} (p : α → Bool) (xs : List α) (k : Nat) : Prop := (xs.take k).all p = true
theorem AllTo.start {α : Type} {p : α → Bool} {xs : List α} : AllTo p xs 0 := by simp [AllTo]
theorem AllTo.step {α : Type} {p : α → Bool} {xs : List α} {k : Nat} (h : AllTo p xs k) (hk : k < xs.length) (e : p xs[k] = true) : AllTo p xs (k + 1) := by
  unfold AllTo at h ⊢
  rw [take_snoc xs k hk, List.all_append, h]
  simp [e]
theorem AllTo.done {α : Type} {p : α → Bool} {xs : List α} {k : Nat} (h : AllTo p xs k) (hk : k = xs.length) : xs.all p = true := by
  unfold AllTo at h
  rwa [hk, List.take_length] at h
theorem all_not {α : Type} {p : α → Bool} {xs : List α} {k : Nat} (hk : k < xs.length) (e : p xs[k] = false) : xs.all p = false := by
  rw [List.all_eq_false]
  exact ⟨xs[k], List.getElem_mem hk, by simp [e]⟩

theorem varTerm_any (n : Int) (h0 : 0 ≤ n) (h1 : n ≤ 1000) (w : World) : Calls Tryd.prog 114 #[.int .i64 n] w fun e w' => e = .returned (.int .i64 (-1 - n)) ∧ w = w' := by
  go_enter Tryd.func114, Tryd.ntmps114
  go_wp2
  go_ret
  exact ⟨rfl, rfl⟩
theorem varNumber_any (n : Int) (h0 : -4 ≤ n) (h1 : n ≤ -1) (w : World) : Calls Tryd.prog 100 #[.int .i64 n] w fun e w' => e = .returned (.int .i64 (-1 - n)) ∧ w = w' := by
  go_enter Tryd.func100, Tryd.ntmps100
  go_wp2
  go_ret
  exact ⟨rfl, rfl⟩

theorem isVar_any (n : Int) (w : World) : Calls Tryd.prog 98 #[.int .i64 n] w fun e w' => e = .returned (.bool (isVarB n)) ∧ w = w' := by
  by_cases h1 : n < 0
  · have hd : decide (n < 0) = true := by simpa using h1
    by_cases h2 : -4 ≤ n
    · have HE := Lib.hid (show isVarB n = true by simp [isVarB]; omega)
      go_enter Tryd.func98, Tryd.ntmps98
      go_wp2_with (go_at_call 114; refine (varTerm_any 3 (by omega) (by omega) _).mono ?_; rintro e w' ⟨rfl, rfl⟩)
      go_ret
      exact ⟨ret_bool HE.out.symm, rfl⟩
    · have HE := Lib.hid (show isVarB n = false by simp [isVarB]; omega)
      go_enter Tryd.func98, Tryd.ntmps98
      go_wp2_with (go_at_call 114; refine (varTerm_any 3 (by omega) (by omega) _).mono ?_; rintro e w' ⟨rfl, rfl⟩)
      go_ret
      exact ⟨ret_bool (by rw [HE.out]; simp; omega), rfl⟩
  · have hd : decide (n < 0) = false := by simpa using h1
    have HE := Lib.hid (show isVarB n = false by simp [isVarB]; omega)
    go_enter Tryd.func98, Tryd.ntmps98
    go_wp2_with (fail)
    go_ret
    exact ⟨ret_bool HE.out.symm, rfl⟩

theorem isVar_is {n : Int} {b : Bool} (h : isVarB n = b) (w : World) : Calls Tryd.prog 98 #[.int .i64 n] w fun e w' => e = .returned (.bool b) ∧ w = w' := h ▸ isVar_any n w

end Go.Proofs.YtfjmnjemmfmoaaaDoor
/-
  Regions that draw their order and whose callees return plain values and keep all that was there: one walk of the text's order serves every order. The class of worlds: those that keep what was there.
-/
namespace Go.Proofs.YtfjmnjemmfmoaaaDoor
open Go.RowKit

/-- A world that keeps all that was there in w0. -/
def Later (w0 : World) : Type := { W : World // Below w0.heap.size w0 W }

instance (w0 : World) : Nonempty (Later w0) := ⟨⟨w0, Below.refl _ _⟩⟩

theorem wp_region_later {P : Program} {id : Nat} {Q : Exit → Act → World → Prop} {a : Act} {w0 : World} {l : List Oper} (hm : P.follows .mixedOrders = true) (hB : Region.lexB .any l.toArray = true)
    (h : wpQuiet P l.toArray (fun w' => ∃ x : Later w0, w' = x.val) (fun a' => ∀ w', (∃ x : Later w0, w' = x.val) → Q .normal a' w') l a) : (Code.region id l.toArray true).wp P Q a w0 :=
  wp_region_quiet (C := fun w' => ∃ x : Later w0, w' = x.val) hm hB ⟨⟨_, (Below.refl _ _).drew⟩, rfl⟩ (by simpa using h)

theorem later_cell {w0 : World} {a : Addr} {v : Value} (h : w0.cell? a = some v) (x : Later w0) : x.val.cell? a = some v := (x.2.cell (World.block_lt_of_cell? _ _ h)).trans h
/-- A callee's contract, met in a later world. -/
theorem later_of {P : Program} {f : FuncId} {args : Array Value} {w0 : World} {x : Later w0} {v : Value} (h : Calls P f args x.val fun e w' => e = .returned v ∧ Below x.val.heap.size x.val w') :
    Calls P f args x.val fun e w'' => e = .returned v ∧ ∃ y : Later w0, w'' = y.val :=
  h.mono fun _ w' ⟨he, hb⟩ => ⟨he, ⟨w', bthen x.2 hb⟩, rfl⟩
theorem later_same {P : Program} {f : FuncId} {args : Array Value} {w0 : World} {x : Later w0} {v : Value} (h : Calls P f args x.val fun e w' => e = .returned v ∧ x.val = w') :
    Calls P f args x.val fun e w'' => e = .returned v ∧ ∃ y : Later w0, w'' = y.val :=
  h.mono fun _ _ ⟨he, hb⟩ => ⟨he, x, hb.symm⟩

end Go.Proofs.YtfjmnjemmfmoaaaDoor
/-
  Sets of variables: as words of four bits (the program's), as rows of four bools (the specification's). The words, and the walks of argVars, bodyVars, ruleVars.
-/
namespace Go.Proofs.YtfjmnjemmfmoaaaDoor
open Go.RowKit

/-- One more term's variable. -/
def orV (m : Nat) (t : Int) : Nat := if isVarB t then m ||| 2 ^ (-1 - t).toNat else m
def maskFrom (m : Nat) (xs : List Int) : Nat := xs.foldl orV m
def maskOf (xs : List Int) : Nat := maskFrom 0 xs
def bodyMask (ls : List LLit) : Nat := ls.foldl (fun m l => m ||| maskOf l.2.2) 0
def yesMask (ls : List LLit) : Nat := ls.foldl (fun m l => if l.1 = 0 then m ||| maskOf l.2.2 else m) 0
def ruleMask (r : LRule) : Nat := maskOf r.1.2 ||| bodyMask r.2

theorem orV_or (a b : Nat) (t : Int) : orV (a ||| b) t = a ||| orV b t := by
  unfold orV
  split
  · rw [Nat.or_assoc]
  · rfl
theorem maskFrom_or (a b : Nat) : ∀ xs : List Int, maskFrom (a ||| b) xs = a ||| maskFrom b xs
  | [] => rfl
  | t :: xs => by
    show maskFrom (orV (a ||| b) t) xs = a ||| maskFrom (orV b t) xs
    rw [orV_or, maskFrom_or a (orV b t) xs]
theorem maskFrom_eq (a : Nat) (xs : List Int) : maskFrom a xs = a ||| maskOf xs := by
  have := maskFrom_or a 0 xs
  rwa [Nat.or_zero] at this
theorem or_lt16 {a b : Nat} (ha : a < 16) (hb : b < 16) : a ||| b < 16 := Nat.or_lt_two_pow (n := 4) ha hb
theorem pow_var_lt {t : Int} (h : isVarB t = true) : 2 ^ (-1 - t).toNat < 16 := by
  have h4 : (-1 - t).toNat < 4 := by simp [isVarB] at h; omega
  exact Nat.pow_lt_pow_right (by omega) h4
theorem orV_lt {m : Nat} {t : Int} (hm : m < 16) : orV m t < 16 := by
  unfold orV
  split
  · rename_i h
    exact or_lt16 hm (pow_var_lt h)
  · exact hm
theorem maskFrom_lt : ∀ (xs : List Int) {m : Nat}, m < 16 → maskFrom m xs < 16
  | [], _, h => h
  | _ :: xs, _, h => maskFrom_lt xs (orV_lt h)
theorem maskOf_lt (xs : List Int) : maskOf xs < 16 := maskFrom_lt xs (by omega)
theorem maskOf_take {xs : List Int} {k : Nat} (h : k < xs.length) : maskOf (xs.take (k + 1)) = orV (maskOf (xs.take k)) xs[k] := by
  unfold maskOf maskFrom
  rw [take_snoc xs k h, List.foldl_append]
  rfl
theorem bodyMask_take {ls : List LLit} {k : Nat} (h : k < ls.length) : bodyMask (ls.take (k + 1)) = bodyMask (ls.take k) ||| maskOf ls[k].2.2 := by
  unfold bodyMask
  rw [take_snoc ls k h, List.foldl_append]
  rfl
theorem yesMask_take {ls : List LLit} {k : Nat} (h : k < ls.length) : yesMask (ls.take (k + 1)) = if ls[k].1 = 0 then yesMask (ls.take k) ||| maskOf ls[k].2.2 else yesMask (ls.take k) := by
  unfold yesMask
  rw [take_snoc ls k h, List.foldl_append]
  rfl
theorem bodyMask_lt : ∀ (n : Nat) (ls : List LLit), n ≤ ls.length → bodyMask (ls.take n) < 16
  | 0, _, _ => by simp [bodyMask]
  | n + 1, ls, h => by
    rw [bodyMask_take (by omega)]
    exact or_lt16 (bodyMask_lt n ls (by omega)) (maskOf_lt _)
theorem yesMask_lt : ∀ (n : Nat) (ls : List LLit), n ≤ ls.length → yesMask (ls.take n) < 16
  | 0, _, _ => by simp [yesMask]
  | n + 1, ls, h => by
    rw [yesMask_take (by omega)]
    split
    · exact or_lt16 (yesMask_lt n ls (by omega)) (maskOf_lt _)
    · exact yesMask_lt n ls (by omega)
theorem bodyMask_lt' (ls : List LLit) : bodyMask ls < 16 := by
  have := bodyMask_lt ls.length ls (Nat.le_refl _)
  rwa [List.take_length] at this
theorem yesMask_lt' (ls : List LLit) : yesMask ls < 16 := by
  have := yesMask_lt ls.length ls (Nat.le_refl _)
  rwa [List.take_length] at this
theorem ruleMask_lt (r : LRule) : ruleMask r < 16 := or_lt16 (maskOf_lt _) (bodyMask_lt' _)

theorem or_word {a b : Nat} (ha : a < 16) (hb : b < 16) : bits .or .u64 (a : Int) (b : Int) = ((a ||| b : Nat) : Int) := u64_or_nat a b (by omega) (by omega)
/-- The walk's word for one more variable. -/
theorem orV_word {m : Nat} {t : Int} (hm : m < 16) (h : isVarB t = true) : bits .or .u64 (m : Int) (IntKind.u64.wrap (1 * 2 ^ (-1 - t).toNat)) = ((orV m t : Nat) : Int) := by
  have h4 : (-1 - t).toNat < 4 := by simp [isVarB] at h; omega
  have hw : IntKind.u64.wrap (1 * 2 ^ (-1 - t).toNat) = ((2 ^ (-1 - t).toNat : Nat) : Int) := by
    generalize (-1 - t).toNat = n at h4
    match n, h4 with
    | 0, _ => rfl
    | 1, _ => rfl
    | 2, _ => rfl
    | 3, _ => rfl
  rw [hw, or_word hm (pow_var_lt h)]
  simp [orV, h]

set_option maxHeartbeats 400000 in
theorem argVars_any (v : Value) (xs : List Int) (B : Nat) (w : World) (h : RdInts w B v xs) (hr : xs.length ≤ 1048576) :
    Calls Tryd.prog 102 #[v] w fun e w' => e = .returned (.int .u64 (maskOf xs : Nat)) ∧ w = w' := by
  obtain ⟨A, c, rfl, hc, ha⟩ := h
  go_enter Tryd.func102, Tryd.ntmps102
  go_wp2_with (fail)
  go_loop [3, 5, 8] (fun m _ i => ∃ (k : Nat) (z : Int), k ≤ xs.length ∧ i = .int .i64 k ∧ m = .int .u64 z ∧ z = (maskOf (xs.take k) : Nat)) (fun _ _ i => xs.length - (intOf i).toNat)
  case atStart => exact ⟨0, 0, Nat.zero_le _, rfl, rfl, rfl⟩
  case round =>
    obtain ⟨k, z, hk, rfl, rfl, hz⟩ := hrel
    by_cases hlt : k < xs.length
    · obtain ⟨b, o, rfl, hbB, hx⟩ := ha (by omega)
      have hck : w.cell? ⟨b, o + k, none⟩ = some (.int .i64 xs[k]) := hx k hlt
      have hml := maskOf_lt (xs.take k)
      clear hx ha
      by_cases he : isVarB xs[k] = true
      · have HK := Lib.hid (isVar_is he)
        have HV := Lib.hid (show -4 ≤ xs[k] ∧ xs[k] ≤ -1 by simpa [isVarB] using he)
        have h0 : 0 ≤ -1 - xs[k] := by have := HV.out; omega
        have h64 : -1 - xs[k] ≤ 64 := by have := HV.out; omega
        have HZ := Lib.hid (show bits .or .u64 z (IntKind.u64.wrap (2 ^ (-1 - xs[k]).toNat)) = (maskOf (xs.take (k + 1)) : Nat) by have hw := orV_word hml he; rw [Int.one_mul] at hw; rw [hz, hw, maskOf_take hlt])
        clear hz he hml
        go_wp2_with (first | (go_at_call 98; refine (HK.out _).mono ?_; rintro e w' ⟨rfl, rfl⟩) | (go_at_call 100; refine (varNumber_any _ HV.out.1 HV.out.2 _).mono ?_; rintro e w' ⟨rfl, rfl⟩))
        go_round
        case rel => exact ⟨k + 1, _, by omega, by go_num, rfl, HZ.out⟩
        case measure => simp [intOf]; omega
      · have he' : isVarB xs[k] = false := by simpa using he
        have HK := Lib.hid (isVar_is he')
        have HZ := Lib.hid (show z = (maskOf (xs.take (k + 1)) : Nat) by rw [hz, maskOf_take hlt]; simp [orV, he'])
        clear hz he
        go_wp2_with (go_at_call 98; refine (HK.out _).mono ?_; rintro e w' ⟨rfl, rfl⟩)
        go_round
        case rel => exact ⟨k + 1, _, by omega, by go_num, rfl, HZ.out⟩
        case measure => simp [intOf]; omega
    · have HE := Lib.hid (show z = (maskOf xs : Nat) by rw [hz, show k = xs.length by omega, List.take_length])
      clear hz ha
      go_wp2_with (fail)
      go_ret
      exact ⟨ret_int HE.out, rfl⟩

set_option maxHeartbeats 400000 in
theorem bodyVars_any (v : Value) (ls : List LLit) (w : World) (h : RdLits w w.heap.size v ls) (hr : ls.length ≤ 1048576) (ht : totL ls ≤ 1048576) :
    Calls Tryd.prog 103 #[v] w fun e w' => e = .returned (.int .u64 (bodyMask ls : Nat)) ∧ Below w.heap.size w w' := by
  have H := Lib.hid h
  obtain ⟨A, c, rfl, hc, _⟩ := h
  go_enter Tryd.func103, Tryd.ntmps103
  go_wp2_with (fail)
  go_loopw [3, 5, 8] (fun m _ i wr => ∃ (k : Nat) (z : Int), k ≤ ls.length ∧ i = .int .i64 k ∧ m = .int .u64 z ∧ z = (bodyMask (ls.take k) : Nat) ∧ Below w.heap.size w wr) (fun _ _ i _ => ls.length - (intOf i).toNat)
  case atStart => exact ⟨0, 0, Nat.zero_le _, rfl, rfl, rfl, Below.refl _ _⟩
  case round =>
    obtain ⟨k, z, hk, rfl, rfl, hz, hbe⟩ := hrel
    by_cases hlt : k < ls.length
    · obtain ⟨b, o, u0, u1, u2, rfl, hbB, k0, k1, k2, rfl, rfl, p3⟩ := (H.out.on hbe).get hlt
      have HA := Lib.hid p3
      obtain ⟨A3, c3, rfl, hc3, _⟩ := p3
      have hle := len_le_totL ls k hlt
      have hml := bodyMask_lt k ls hk
      have HZ := Lib.hid (show bits .or .u64 z ((maskOf ls[k].2.2 : Nat) : Int) = (bodyMask (ls.take (k + 1)) : Nat) by rw [hz, or_word hml (maskOf_lt _), bodyMask_take hlt])
      clear hz hml
      go_wp2_with (go_at_call 102; refine (argVars_any _ ls[k].2.2 _ _ (HA.out.on (below1 _ _)) (by omega)).mono ?_; rintro e w' ⟨rfl, rfl⟩)
      go_roundw
      case rel => exact ⟨k + 1, _, by omega, by go_num, rfl, HZ.out, bthen hbe (below1 _ _)⟩
      case measure => simp [intOf]; omega
    · have HE := Lib.hid (show z = (bodyMask ls : Nat) by rw [hz, show k = ls.length by omega, List.take_length])
      clear hz
      go_wp2_with (fail)
      go_ret
      exact ⟨ret_int HE.out, hbe⟩

theorem later_int {P : Program} {f : FuncId} {args : Array Value} {w0 : World} {x : Later w0} {u v : Value} (h : Calls P f args x.val fun e w' => e = .returned u ∧ Below x.val.heap.size x.val w') (e : u = v) :
    Calls P f args x.val fun e w'' => e = .returned v ∧ ∃ y : Later w0, w'' = y.val := later_of (e ▸ h)

end Go.Proofs.YtfjmnjemmfmoaaaDoor
/-
  The numbers of the bits of a word: the words; the walks of TrailingZeros64, TrailingZeros, bitNumbers.
-/
namespace Go.Proofs.YtfjmnjemmfmoaaaDoor
open Go.RowKit

/-- The numbers of the bits of x, ascending. -/
def bitsOf (x : Nat) : List Int := ((List.range 64).filter fun j => x.testBit j).map fun j : Nat => (j : Int)
theorem bitsOf_zero : bitsOf 0 = [] := by simp [bitsOf]
theorem bitsOf_length (x : Nat) : (bitsOf x).length ≤ 64 := by
  unfold bitsOf
  rw [List.length_map]
  exact Nat.le_trans (List.length_filter_le _ _) (by simp)

theorem testBit_odd {k m j : Nat} : (2 ^ k * (2 * m + 1)).testBit j = (decide (k ≤ j) && (2 * m + 1).testBit (j - k)) := by
  rw [Nat.mul_comm, Nat.testBit_mul_two_pow]
theorem testBit_even {k m j : Nat} : (2 ^ k * (2 * m)).testBit j = (decide (k ≤ j) && (2 * m).testBit (j - k)) := by
  rw [Nat.mul_comm, Nat.testBit_mul_two_pow]
theorem filter_step (k m : Nat) (hk : k < 64) : (List.range 64).filter (fun j => (2 ^ k * (2 * m + 1)).testBit j) = k :: (List.range 64).filter (fun j => (2 ^ k * (2 * m)).testBit j) := by
  obtain ⟨d, hd⟩ : ∃ d, 64 = k + (1 + d) := ⟨63 - k, by omega⟩
  rw [hd, List.range_add, List.filter_append, List.filter_append, List.range_add, List.map_append, List.filter_append, List.filter_append]
  have h1 : (List.range k).filter (fun j => (2 ^ k * (2 * m + 1)).testBit j) = [] := by
    rw [List.filter_eq_nil_iff]
    intro j hj
    have hj := List.mem_range.1 hj
    rw [testBit_odd]
    simp
    omega
  have h2 : (List.range k).filter (fun j => (2 ^ k * (2 * m)).testBit j) = [] := by
    rw [List.filter_eq_nil_iff]
    intro j hj
    have hj := List.mem_range.1 hj
    rw [testBit_even]
    simp
    omega
  have h3 : ((List.range 1).map (k + ·)).filter (fun j => (2 ^ k * (2 * m + 1)).testBit j) = [k] := by
    have : (2 ^ k * (2 * m + 1)).testBit k = true := by rw [testBit_odd]; simp [Nat.testBit_zero]
    simp [this]
  have h4 : ((List.range 1).map (k + ·)).filter (fun j => (2 ^ k * (2 * m)).testBit j) = [] := by
    have : (2 ^ k * (2 * m)).testBit k = false := by rw [testBit_even]; simp [Nat.testBit_zero]
    simp [this]
  rw [h1, h2, h3, h4, List.nil_append, List.nil_append, List.nil_append, List.singleton_append]
  congr 1
  apply List.filter_congr
  intro j hj
  simp only [List.mem_map, List.mem_range] at hj
  obtain ⟨a, ⟨b, hb, rfl⟩, rfl⟩ := hj
  rw [testBit_odd, testBit_even]
  have e : k + (1 + b) - k = b + 1 := by omega
  rw [e, Nat.testBit_succ, Nat.testBit_succ]
  congr 2
  omega
/-- The lowest bit, and the others. -/
theorem bitsOf_step {x : Nat} (h0 : x ≠ 0) (hx : x < 2 ^ 64) : bitsOf x = (Lib.ctz 64 x : Int) :: bitsOf (x &&& (x - 1)) ∧ x &&& (x - 1) < x := by
  obtain ⟨m, hm, hk⟩ := Lib.ctzFrom_spec 64 x (by omega) hx
  have hc : Lib.ctz 64 x = Lib.ctzFrom 64 x := by unfold Lib.ctz; rw [if_neg h0]
  rw [hc]
  generalize Lib.ctzFrom 64 x = k at hm hk
  have hp : 0 < 2 ^ k := Nat.two_pow_pos k
  have hand : x &&& (x - 1) = 2 ^ k * (2 * m) := by
    apply Nat.eq_of_testBit_eq
    intro j
    rw [Nat.testBit_and]
    have e1 : x - 1 = 2 ^ k * (2 * m) + (2 ^ k - 1) := by
      rw [hm, Nat.mul_add, Nat.mul_one]
      omega
    rw [e1, Nat.testBit_two_pow_mul_add _ (by omega), testBit_even, hm, testBit_odd]
    by_cases hj : j < k
    · have hkj : decide (k ≤ j) = false := by simp; omega
      rw [hkj]
      simp
    · rw [if_neg hj]
      have : k ≤ j := by omega
      simp only [this, decide_true, Bool.true_and]
      by_cases e : j = k
      · subst e
        simp [Nat.testBit_zero]
      · obtain ⟨i, rfl⟩ : ∃ i, j = k + (i + 1) := ⟨j - k - 1, by omega⟩
        have e3 : k + (i + 1) - k = i + 1 := by omega
        rw [e3, Nat.testBit_succ, Nat.testBit_succ]
        have d1 : (2 * m + 1) / 2 = m := by omega
        have d2 : 2 * m / 2 = m := by omega
        rw [d1, d2, Bool.and_self]
  refine ⟨?_, ?_⟩
  · rw [hand, hm]
    unfold bitsOf
    rw [filter_step k m hk]
    simp
  · rw [hand, hm, Nat.mul_add, Nat.mul_one]
    omega

/-- The table behind TrailingZeros64 lies in its variable. -/
def Tab (w : World) : Prop := _root_.Go.Proofs.TabAt 1 Lib.deBruijn64tab w ∧ 1 < w.heap.size
theorem Tab.below {w w' : World} (h : Tab w) (hb : Below w.heap.size w w') : Tab w' := ⟨fun j hj => (hb.cell (p := ⟨1, j, none⟩) h.2).trans (h.1 j hj), Nat.lt_of_lt_of_le h.2 hb.size⟩

set_option maxHeartbeats 1000000 in
theorem tz64_core (x k idx : Nat) (w : World) (hx0 : ((x : Int) == 0) = false)
    (key : IntKind.u64.wrap (bits BinOp.and IntKind.u64 (x : Int) (IntKind.u64.wrap (-(x : Int))) * 285870213051353865) / 288230376151711744 = (idx : Int))
    (hi : idx < 64) (hk : k < 64) (hcell : w.cell? ⟨1, idx, none⟩ = some (.int .u8 k)) :
    Calls Tryd.prog 116 #[.int .u64 x] w fun e w' => e = .returned (.int .i64 k) ∧ w = w' := by
  go_enter Tryd.func116, Tryd.ntmps116
  go_wp2_with (simp only [key])
  go_ret
  exact ⟨rfl, rfl⟩

theorem tz64_any (x : Nat) (hx : x < 18446744073709551616) (h0 : x ≠ 0) (w : World) (hT : Tab w) :
    Calls Tryd.prog 116 #[.int .u64 x] w fun e w' => e = .returned (.int .i64 (Lib.ctz 64 x)) ∧ w = w' := by
  obtain ⟨hlow, hk⟩ := Lib.lowest_bit 64 x h0 hx
  obtain ⟨hi, htab⟩ := Lib.deBruijn64_at _ hk
  have hc := hT.1 _ hi
  rw [htab] at hc
  exact tz64_core x _ _ w (by simpa using h0) (tz64_key x _ hx h0 hlow) hi hk hc

theorem tz_any (x : Nat) (hx : x < 18446744073709551616) (h0 : x ≠ 0) (w : World) (hT : Tab w) :
    Calls Tryd.prog 104 #[.int .u64 x] w fun e w' => e = .returned (.int .i64 (Lib.ctz 64 x)) ∧ w = w' := by
  go_enter Tryd.func104, Tryd.ntmps104
  go_wp2_with (go_at_call 116; refine (tz64_any x hx h0 _ hT).mono ?_; rintro e w' ⟨rfl, rfl⟩)
  go_ret
  exact ⟨rfl, rfl⟩

set_option maxHeartbeats 1000000 in
set_option maxRecDepth 100000 in
theorem bitNumbers_any (x : Nat) (hx : x < 18446744073709551616) (w : World) (hT : Tab w) :
    Calls Tryd.prog 69 #[.int .u64 x] w fun e w' => ∃ A' c', e = .returned (.slice A' (bitsOf x).length c') ∧ OwnInts w' w.heap.size w'.heap.size (.slice A' (bitsOf x).length c') (bitsOf x) ∧ Below w.heap.size w w' := by
  obtain ⟨i0, hi0, hz0, hz1, hz2⟩ := info_parts Tryd.infoInt
  have HX := Lib.hid hx
  clear hx
  go_enter Tryd.func69, Tryd.ntmps69
  go_wp2_with (fail)
  go_loopw [0, 3] (fun z o wr => ∃ (y : Nat) (ys : List Int) (A' : Option Addr) (c' : Nat), z = .int .u64 y ∧ o = .slice A' ys.length c' ∧ ys ++ bitsOf y = bitsOf x ∧ y < 2 ^ 64 ∧ ColI w wr ys A' c') (fun z _ _ => (intOf z).toNat)
  case atStart => exact ⟨x, [], none, 0, rfl, rfl, rfl, HX.out, ColI.nil (Below.refl _ _)⟩
  case round =>
    obtain ⟨y, ys, A', c', rfl, rfl, hys, hy, hr⟩ := hrel
    have hyl : ys.length ≤ 64 := by
      have := congrArg List.length hys
      rw [List.length_append] at this
      have := bitsOf_length x
      omega
    by_cases h0 : y = 0
    · subst h0
      rw [bitsOf_zero, List.append_nil] at hys
      have HO := Lib.hid (And.intro hys hr)
      clear hys hr
      go_wp2_with (fail)
      go_ret
      obtain ⟨e, hr⟩ := HO.out
      rw [← e]
      exact ⟨_, _, rfl, hr.own, hr.below⟩
    · obtain ⟨hst, hlt⟩ := bitsOf_step h0 hy
      have ht : ((y : Int) != 0) = true := by simpa using h0
      have HY := Lib.hid (And.intro hy (And.intro h0 hlt))
      have HB := Lib.hid (show (ys ++ [(Lib.ctz 64 y : Int)]) ++ bitsOf (y &&& (y - 1)) = bitsOf x by rw [List.append_assoc, List.singleton_append, ← hst]; exact hys)
      have hk : Lib.ctz 64 y < 64 := (Lib.lowest_bit 64 y h0 hy).2
      have HA := Lib.hid (show bits BinOp.and IntKind.u64 (y : Int) (IntKind.u64.wrap ((y : Int) - 1)) = ((y &&& (y - 1) : Nat) : Int) by
        have e1 : IntKind.u64.wrap ((y : Int) - 1) = ((y - 1 : Nat) : Int) := by rw [IntKind.wrap_u64]; omega
        rw [e1, bits_and_u64_nat y (y - 1) (by simpa using hy) (by omega)])
      have HP := Lib.hid hr
      have HT := Lib.hid (hT.below hr.below)
      have HCC := Lib.hid (fun (w : World) (hw : Tab w) => tz_any y (by simpa using hy) h0 w hw)
      generalize Lib.ctz 64 y = kk at hst HB hk HCC
      clear hst hlt hy h0 hys hr
      go_wp2_with (fail)
      refine (HCC.out _ HT.out).mono ?_
      rintro e w' ⟨rfl, rfl⟩
      go_wp2_with (at_builtin; refine wpList_append_lies _ rfl (.tmp 10) (.tmp 13) 23 rfl w.heap.size 3 i0 (.int .i64 0) 1 8 Tryd.underlying23 hi0 hz0 hz1 hz2 rfl (by decide) (.slice A' ys.length c') ys.length (ys.map (Value.int .i64)) rfl ?c1 ⟨_, 0, none⟩ 1 1 [.int .i64 kk] rfl rfl (news1s _ _ _ _ (by simp)) ?c2 (by omega) (by unfold maxLen; omega) (by omega) ?c3 _ rfl ?_)
      case c1 => exact HP.out.own.1.alloc _
      case c2 => intro u hu; simp at hu; subst hu; rfl
      case c3 => have := HP.out.below.size; simp; omega
      intro g cap w4 hown hg _ _
      have hcol := HP.out.push (Below.refl _ _) hg hown
      have hlen : ys.length + 1 = (ys ++ [(kk : Int)]).length := by simp
      rw [hlen]
      have HC := Lib.hid hcol
      clear hcol hlen hown hg
      go_wp2_with (fail)
      go_roundw
      case rel => exact ⟨y &&& (y - 1), _, _, _, by rw [HA.out], rfl, HB.out, Nat.lt_trans HY.out.2.2 HY.out.1, HC.out⟩
      case measure =>
        rw [HA.out]
        simp only [intOf]
        have := HY.out.2.2
        omega

end Go.Proofs.YtfjmnjemmfmoaaaDoor
/-
  What the row's condition on the listed tables gives the walks: the table behind TrailingZeros64.
-/
namespace Go.Proofs.YtfjmnjemmfmoaaaDoor
open Go.RowKit

/-- Two tables are listed (0 and 1). -/
def laidTabs : List (String × DataW Unit) := [("math/bits.deBruijn32tab", Rows.laid_math_bits_deBruijn32tab), ("math/bits.deBruijn64tab", Rows.laid_math_bits_deBruijn64tab)]
theorem Tryd.tabGlobal : Tryd.prog.globalNamed "math/bits.deBruijn64tab" = some 1 := by kernel_rfl
theorem Tryd.tabType : (Tryd.prog.globals[1]?).map (·.type) = some 150 := by kernel_rfl
theorem Tryd.tabUnder : Tryd.prog.underlying 150 = some (.array 64 5) := by kernel_rfl
theorem Tryd.tabCells : Tryd.prog.cellsOf 150 = 64 := by kernel_rfl
theorem Tryd.byteUnder : Tryd.prog.underlying 5 = some (.int .u8) := by kernel_rfl
theorem Tryd.byteCells : Tryd.prog.cellsOf 5 = 1 := by kernel_rfl

/-- In a seat that lists both (0). -/
theorem tab_of_laid {W : World} (hL : laidMetH Tryd.prog laidTabs W) : Tab W := by
  have h : laidMet Tryd.prog laidTabs W := by rw [MakeChecks.laidMetH_plain _ _ _ (by kernel_rfl)] at hL; exact hL
  have h2 : laidMet Tryd.prog [("math/bits.deBruijn64tab", Lib.tabData .u8 (Lib.deBruijn64tab.map fun n : Nat => (n : Int)))] W := h.tail
  have h3 := Lib.tabIs_of_head Tryd.tabGlobal Tryd.tabType Tryd.tabUnder Tryd.byteUnder Tryd.byteCells Tryd.tabCells h2
  have hat : _root_.Go.Proofs.TabAt 1 Lib.deBruijn64tab W := fun j hj => by
    have := h3.cell Tryd.tabGlobal j (by simpa using hj)
    simpa [hj] using this
  exact ⟨hat, World.block_lt_of_cell? _ _ (hat 0 (by decide))⟩

def laidTabs1 : List (String × DataW Unit) := [("math/bits.deBruijn64tab", Rows.laid_math_bits_deBruijn64tab)]
theorem tab_of_laid1 {W : World} (hL : laidMetH Tryd.prog laidTabs1 W) : Tab W := by
  have h : laidMet Tryd.prog laidTabs1 W := by rw [MakeChecks.laidMetH_plain _ _ _ (by kernel_rfl)] at hL; exact hL
  have h2 : laidMet Tryd.prog [("math/bits.deBruijn64tab", Lib.tabData .u8 (Lib.deBruijn64tab.map fun n : Nat => (n : Int)))] W := h
  have h3 := Lib.tabIs_of_head Tryd.tabGlobal Tryd.tabType Tryd.tabUnder Tryd.byteUnder Tryd.byteCells Tryd.tabCells h2
  have hat : _root_.Go.Proofs.TabAt 1 Lib.deBruijn64tab W := fun j hj => by
    have := h3.cell Tryd.tabGlobal j (by simpa using hj)
    simpa [hj] using this
  exact ⟨hat, World.block_lt_of_cell? _ _ (hat 0 (by decide))⟩

end Go.Proofs.YtfjmnjemmfmoaaaDoor
/-
  Words for facts (a number and a list of integers), and the walks of toFact, eqFact, szFact.
-/
namespace Go.Proofs.YtfjmnjemmfmoaaaDoor
open Go.RowKit

end Go.Proofs.YtfjmnjemmfmoaaaDoor
/-
  Words for lists of facts: what a slice of facts reads as, and a row of facts of the call's own. No walk.
-/
namespace Go.Proofs.YtfjmnjemmfmoaaaDoor
open Go.RowKit

/-- The slice value v reads as the facts fs, in blocks below B. -/
def RdFacts (w : World) (B : Nat) (v : Value) (fs : List LFact) : Prop :=
  ∃ A c, v = .slice A fs.length c ∧ fs.length ≤ c ∧ (0 < fs.length → ∃ b o, A = some ⟨b, o, none⟩ ∧ b < B ∧ ∀ k (h : k < fs.length), ∃ a,
    w.cell? ⟨b, o + k * 2, none⟩ = some (.int .i64 fs[k].1) ∧ w.cell? ⟨b, o + k * 2 + 1, none⟩ = some a ∧ RdInts w B a fs[k].2)

theorem RdFacts.below {w w' : World} {B B' : Nat} {v : Value} {fs : List LFact} (h : RdFacts w B v fs) (hb : Below B' w w') (hB : B ≤ B') : RdFacts w' B v fs := by
  obtain ⟨A, c, rfl, hc, h⟩ := h
  refine ⟨A, c, rfl, hc, fun hn => ?_⟩
  obtain ⟨b, o, rfl, hlt, hk⟩ := h hn
  refine ⟨b, o, rfl, hlt, fun k hkl => ?_⟩
  obtain ⟨a, h1, h2, h3⟩ := hk k hkl
  exact ⟨a, (hb.cell (p := ⟨b, o + k * 2, none⟩) (by show b < B'; omega)).trans h1, (hb.cell (p := ⟨b, o + k * 2 + 1, none⟩) (by show b < B'; omega)).trans h2, h3.below hb hB⟩
theorem RdFacts.more {w : World} {B B' : Nat} {v : Value} {fs : List LFact} (h : RdFacts w B v fs) (hB : B ≤ B') : RdFacts w B' v fs := by
  obtain ⟨A, c, rfl, hc, h⟩ := h
  refine ⟨A, c, rfl, hc, fun hn => ?_⟩
  obtain ⟨b, o, rfl, hlt, hk⟩ := h hn
  refine ⟨b, o, rfl, by omega, fun k hkl => ?_⟩
  obtain ⟨a, h1, h2, h3⟩ := hk k hkl
  exact ⟨a, h1, h2, h3.more hB⟩
theorem RdFacts.on {w w' : World} {v : Value} {fs : List LFact} (h : RdFacts w w.heap.size v fs) (hb : Below w.heap.size w w') : RdFacts w' w'.heap.size v fs := (h.below hb (Nat.le_refl _)).more hb.size

/-- The cells of facts, a fact's two behind each other. -/
def flat : List LFact → List Value → List Value
  | f :: fs, a :: av => .int .i64 f.1 :: a :: flat fs av
  | _, _ => []

theorem flat_length : ∀ (fs : List LFact) (av : List Value), av.length = fs.length → (flat fs av).length = fs.length * 2
  | [], _, _ => by simp [flat]
  | f :: fs, [], h => by simp at h
  | f :: fs, a :: av, h => by
    have := flat_length fs av (by simpa using h)
    simp only [flat, List.length_cons, this]
    omega
theorem flat_at : ∀ (fs : List LFact) (av : List Value) (_ : av.length = fs.length) (k : Nat) (hk : k < fs.length) (hk' : k < av.length),
    (flat fs av)[k * 2]? = some (.int .i64 fs[k].1) ∧ (flat fs av)[k * 2 + 1]? = some av[k]
  | [], _, _, k, hk, _ => absurd hk (by simp)
  | f :: fs, [], h, _, _, _ => by simp at h
  | f :: fs, a :: av, h, 0, _, _ => by simp [flat]
  | f :: fs, a :: av, h, k + 1, hk, hk' => by
    have := flat_at fs av (by simpa using h) k (by simpa using hk) (by simpa using hk')
    simpa [flat, Nat.add_mul] using this
theorem flat_snoc : ∀ (fs : List LFact) (av : List Value) (_ : av.length = fs.length) (f : LFact) (a : Value), flat (fs ++ [f]) (av ++ [a]) = flat fs av ++ [.int .i64 f.1, a]
  | [], [], _, f, a => by simp [flat]
  | [], a' :: av, h, _, _ => by simp at h
  | f :: fs, [], h, _, _ => by simp at h
  | f :: fs, a :: av, h, g, b => by simp [flat, flat_snoc fs av (by simpa using h) g b]

/-- Rows of integers of the call's own, no two in one block. -/
structure OwnArgs (w : World) (lo hi : Nat) (av : List Value) (xss : List (List Int)) : Prop where
  len : av.length = xss.length
  own : ∀ i (h : i < xss.length) (h' : i < av.length), OwnInts w lo hi av[i] xss[i]
  apart : av.Pairwise fun a b => ∀ g, a.ownBlock = some g → b.ownBlock ≠ some g

section
variable {w w' : World} {lo hi lo' hi' B : Nat} {av : List Value} {xss : List (List Int)}
theorem OwnArgs.nil : OwnArgs w lo hi [] [] := ⟨rfl, fun i h => absurd h (by simp), .nil⟩
theorem OwnArgs.below (h : OwnArgs w lo hi av xss) (hb : Below B w w') (hB : hi ≤ B) : OwnArgs w' lo hi av xss := ⟨h.len, fun i h1 h2 => (h.own i h1 h2).below hb hB, h.apart⟩
theorem OwnArgs.mono (h : OwnArgs w lo hi av xss) (h1 : lo' ≤ lo) (h2 : hi ≤ hi') : OwnArgs w lo' hi' av xss := ⟨h.len, fun i h3 h4 => (h.own i h3 h4).mono h1 h2, h.apart⟩
theorem OwnArgs.set (h : OwnArgs w lo hi av xss) {p : Addr} (hp : p.block < lo ∨ hi ≤ p.block) (u : Value) : OwnArgs (w.setCell p u) lo hi av xss := ⟨h.len, fun i h3 h4 => (h.own i h3 h4).set hp u, h.apart⟩
theorem OwnInts.block {v : Value} {xs : List Int} (h : OwnInts w lo hi v xs) {g : Nat} (hg : v.ownBlock = some g) : lo ≤ g ∧ g < hi := ⟨(h.1.lt g hg).1, h.2 g hg⟩
/-- One more, in later blocks. -/
theorem OwnArgs.snoc (h : OwnArgs w lo hi av xss) {v : Value} {xs : List Int} (hv : OwnInts w hi hi' v xs) (hl : lo ≤ hi) (hh : hi ≤ hi') : OwnArgs w lo hi' (av ++ [v]) (xss ++ [xs]) := by
  have hlen := h.len
  refine ⟨by simp [hlen], fun i h1 h2 => ?_, ?_⟩
  · by_cases e : i < xss.length
    · rw [List.getElem_append_left (by omega), List.getElem_append_left e]
      exact (h.own i e (by omega)).mono (Nat.le_refl _) hh
    · have e2 : i = xss.length := by simp at h1; omega
      subst e2
      simp [← hlen]
      exact hv.mono hl (Nat.le_refl _)
  · rw [List.pairwise_append]
    refine ⟨h.apart, by simp, fun a ha b hb g hg hg' => ?_⟩
    simp at hb
    subst hb
    obtain ⟨i, hi', rfl⟩ := List.getElem_of_mem ha
    have h1 := (h.own i (by omega) hi').block hg
    have h2 := hv.block hg'
    omega
end

section
variable {w w' : World} {lo hi lo' hi' B : Nat} {v : Value} {fs : List LFact}
theorem ownsRow_below {e : TypeId} {size n : Nat} {xs : List Value} (h : w.ownsRow lo e size v n xs) (hlt : ∀ g, v.ownBlock = some g → g < hi) (hb : Below B w w') (hB : hi ≤ B) : w'.ownsRow lo e size v n xs := by
  obtain ⟨hlen, h⟩ := h
  refine ⟨hlen, ?_⟩
  rcases h with h | ⟨g, cap, cur, rfl, hbg, hg, r⟩
  · exact .inl h
  · exact .inr ⟨g, cap, cur, rfl, hbg, by rw [hb.block g (by have := hlt g rfl; omega)]; exact hg, r⟩
theorem ownsRow_mono {e : TypeId} {size n : Nat} {xs : List Value} (h : w.ownsRow lo e size v n xs) (h1 : lo' ≤ lo) : w.ownsRow lo' e size v n xs := by
  obtain ⟨hlen, h⟩ := h
  refine ⟨hlen, ?_⟩
  rcases h with h | ⟨g, cap, cur, rfl, hbg, r⟩
  · exact .inl h
  · exact .inr ⟨g, cap, cur, rfl, by omega, r⟩
end

/-- n facts' cells as make lays them. -/
def zeroCells : Nat → List Value
  | 0 => []
  | n + 1 => .int .i64 0 :: .slice none 0 0 :: zeroCells n
theorem zeroCells_length : ∀ n, (zeroCells n).length = n * 2
  | 0 => rfl
  | n + 1 => by simp [zeroCells, zeroCells_length n]; omega
theorem zeroCells_at : ∀ (n j : Nat), j < n * 2 → (zeroCells n)[j]? = some (if j % 2 = 0 then .int .i64 0 else .slice none 0 0)
  | 0, j, h => by omega
  | n + 1, 0, _ => by simp [zeroCells]
  | n + 1, 1, _ => by simp [zeroCells]
  | n + 1, j + 2, h => by
    have := zeroCells_at n j (by omega)
    simp only [zeroCells, List.getElem?_cons_succ, this]
    congr 2
    simp
theorem madeCells_facts (n : Nat) : (madeCells #[.int .i64 0, .slice none 0 0] (n * 2)).toList = zeroCells n := by
  apply List.ext_getElem?
  intro j
  by_cases h : j < n * 2
  · rw [zeroCells_at n j h]
    have h2 : j % 2 = 0 ∨ j % 2 = 1 := by omega
    rcases h2 with h2 | h2 <;> simp [madeCells, h, h2]
  · rw [List.getElem?_eq_none (by simp [madeCells]; omega), List.getElem?_eq_none (by rw [zeroCells_length]; omega)]

/-- How many integers facts have together. -/
def tot (fs : List LFact) : Nat := (fs.map fun f => f.2.length).sum

theorem len_le_tot : ∀ (fs : List LFact) (k : Nat) (h : k < fs.length), fs[k].2.length ≤ tot fs
  | [], _, h => absurd h (by simp)
  | f :: fs, 0, _ => by simp [tot]
  | f :: fs, k + 1, h => by
    have := len_le_tot fs k (by simpa using h)
    simp only [tot, List.map_cons, List.sum_cons, List.getElem_cons_succ] at this ⊢
    omega
theorem tot_take : ∀ (fs : List LFact) (k : Nat) (h : k < fs.length), tot (fs.take (k + 1)) = tot (fs.take k) + fs[k].2.length
  | [], _, h => absurd h (by simp)
  | f :: fs, 0, _ => by simp [tot]
  | f :: fs, k + 1, h => by
    have := tot_take fs k (by simpa using h)
    simp only [tot, List.take_succ_cons, List.map_cons, List.sum_cons, List.getElem_cons_succ] at this ⊢
    omega
end Go.Proofs.YtfjmnjemmfmoaaaDoor
/-
  The walks over lists of facts: toFactS, eqFactS, szFactS.
-/
namespace Go.Proofs.YtfjmnjemmfmoaaaDoor
open Go.RowKit

/-- 'the first k of both are the same', kept from the walk. -/
def FSameTo (xs ys : List LFact) (k : Nat) : Prop := xs.take k = ys.take k
theorem FSameTo.step {xs ys : List LFact} {k : Nat} (h : FSameTo xs ys k) (h1 : k < xs.length) (h2 : k < ys.length) (e : xs[k] = ys[k]) : FSameTo xs ys (k + 1) := by
  unfold FSameTo at h ⊢
  rw [take_snoc xs k h1, take_snoc ys k h2, h, e]
theorem FSameTo.eq {xs ys : List LFact} (h : FSameTo xs ys xs.length) (hl : xs.length = ys.length) : xs = ys := by
  unfold FSameTo at h
  rwa [List.take_length, hl, List.take_length] at h

/-- What szFactS answers: -1, or what is left when the facts and all their integers are taken. -/
def SzResF (r left : Int) (fs : List LFact) : Prop := r = -1 ∨ (0 ≤ r ∧ r + fs.length + tot fs = left)
def SzToF (r left : Int) (fs : List LFact) (k : Nat) : Prop := 0 ≤ r ∧ r + fs.length + tot (fs.take k) = left

end Go.Proofs.YtfjmnjemmfmoaaaDoor
/-
  Marks: what markIntS, markFactS leave and heldIntS, heldFactS find. The words, and the walks over integers.
-/
namespace Go.Proofs.YtfjmnjemmfmoaaaDoor
open Go.RowKit

section
variable {lo hi lo' hi' : Nat} {w w1 w' : World}
end

end Go.Proofs.YtfjmnjemmfmoaaaDoor
/-
  The reader that the drawing goes by: bytes that are read, and pick.
-/
namespace Go.Proofs.YtfjmnjemmfmoaaaDoor
open Go.RowKit

/-- The slice value v reads as the bytes bs, in blocks below B. -/
def RdBytes (w : World) (B : Nat) (v : Value) (bs : List Nat) : Prop :=
  ∃ A c, v = .slice A bs.length c ∧ bs.length ≤ c ∧ (0 < bs.length → ∃ b o, A = some ⟨b, o, none⟩ ∧ b < B ∧ ∀ k (h : k < bs.length), w.cell? ⟨b, o + k, none⟩ = some (.int .u8 (bs[k] : Nat)))

theorem RdBytes.off {w w' : World} {B : Nat} {v : Value} {bs : List Nat} (h : RdBytes w B v bs) (hb : ∀ k, k < B → w'.heap[k]? = w.heap[k]?) : RdBytes w' B v bs := by
  obtain ⟨A, c, rfl, hc, h⟩ := h
  refine ⟨A, c, rfl, hc, fun hn => ?_⟩
  obtain ⟨b, o, rfl, hlt, hk⟩ := h hn
  refine ⟨b, o, rfl, hlt, fun k hkl => ?_⟩
  rw [← hk k hkl]
  simp [World.cell?, hb b hlt]

/-- Block g is a reader: it stands at p, in bytes below g, all below 256. -/
def Rdr (w : World) (g : Nat) (bs : List Nat) (p : Nat) : Prop :=
  (∃ v, Blk w g 123 #[v, .int .i64 p] ∧ RdBytes w g v bs) ∧ bs.length ≤ 2000 ∧ ∀ b ∈ bs, b < 256

theorem Rdr.lt {w : World} {g : Nat} {bs : List Nat} {p : Nat} (h : Rdr w g bs p) : g < w.heap.size := by
  obtain ⟨⟨v, hb, _⟩, _⟩ := h
  exact hb.lt

theorem Rdr.below {w w' : World} {g : Nat} {bs : List Nat} {p : Nat} (h : Rdr w g bs p) {B : Nat} (hb : Below B w w') (hB : g < B) : Rdr w' g bs p := by
  obtain ⟨⟨v, hv, hr⟩, h1, h2⟩ := h
  exact ⟨⟨v, hv.below hb hB, hr.off fun k hk => hb.block k (by omega)⟩, h1, h2⟩

theorem Rdr.next {w : World} {g : Nat} {bs : List Nat} {p : Nat} (h : Rdr w g bs p) : Rdr (w.setCell ⟨g, 1, none⟩ (.int .i64 ((p : Int) + 1))) g bs (p + 1) := by
  obtain ⟨⟨v, hv, hr⟩, h1, h2⟩ := h
  exact ⟨⟨v, by simpa using hv.set_ 1 (.int .i64 ((p : Int) + 1)), hr.off fun k hk => Below.heap_setCell _ _ _ _ (by show k ≠ g; omega)⟩, h1, h2⟩

/-- What pick leaves. -/
def Picked (w w' : World) (g : Nat) (bs : List Nat) (p : Nat) : Prop := Rdr w' g bs (p + 1) ∧ Only g (g + 1) w w'

theorem picked_set {w : World} {g : Nat} {bs : List Nat} {p : Nat} (h : Rdr w g bs p) : Picked w (w.setCell ⟨g, 1, none⟩ (.int .i64 ((p : Int) + 1))) g bs p :=
  ⟨h.next, (Only.refl g (g + 1) w).setCell (p := ⟨g, 1, none⟩) ⟨Nat.le_refl g, Nat.lt_succ_self g⟩ _⟩
theorem Picked.drewN {w w' : World} {g : Nat} {bs : List Nat} {p : Nat} (h : Picked w w' g bs p) (n : Nat) : Picked w (w'.drewN n) g bs p :=
  ⟨h.1, ⟨h.2.os, h.2.tape, h.2.output, h.2.size, h.2.block⟩⟩

/-- What pick may answer. -/
def PickOf (n x : Int) : Prop := (0 < n → 0 ≤ x ∧ x < n) ∧ (n < 1 → x = 0)
theorem PickOf.of {n x : Int} (h1 : 1 ≤ n) (h : 0 ≤ x ∧ x < n) : PickOf n x := ⟨fun _ => h, fun h2 => by omega⟩
theorem PickOf.zero (n : Int) : PickOf n 0 := ⟨fun h => ⟨Int.le_refl _, h⟩, fun _ => rfl⟩
theorem xor_i64 (X Y : Nat) (hX : X < 4611686018427387904) (hY : Y < 4611686018427387904) : bits .xor .i64 (X : Int) (Y : Int) = ((X ^^^ Y : Nat) : Int) ∧ X ^^^ Y < 4611686018427387904 := by
  have hx : X ^^^ Y < 2 ^ 62 := Nat.xor_lt_two_pow (by omega) (by omega)
  refine ⟨?_, by omega⟩
  have h1 : (BitVec.ofInt 64 (X : Int)).toNat = X := by
    rw [BitVec.ofInt_natCast, BitVec.toNat_ofNat]; exact Nat.mod_eq_of_lt (by omega)
  have h2 : (BitVec.ofInt 64 (Y : Int)).toNat = Y := by
    rw [BitVec.ofInt_natCast, BitVec.toNat_ofNat]; exact Nat.mod_eq_of_lt (by omega)
  show IntKind.i64.wrap ((BitVec.ofInt 64 (X : Int) ^^^ BitVec.ofInt 64 (Y : Int)).toNat : Int) = _
  rw [BitVec.toNat_xor, h1, h2]
  simp [IntKind.wrap, IntKind.bits, IntKind.signed]
  omega
theorem emod_range {n y : Int} (h1 : 1 ≤ n) : 0 ≤ y % n ∧ y % n < n := ⟨Int.emod_nonneg _ (by omega), Int.emod_lt_of_pos _ (by omega)⟩

set_option maxHeartbeats 1000000 in
set_option maxRecDepth 100000 in
theorem pick_any (g : Nat) (bs : List Nat) (p : Nat) (n : Int) (w : World) (h : Rdr w g bs p) (hp : p ≤ 1073741824) (hn : n ≤ 1073741824) :
    Calls Tryd.prog 93 #[.pointer (some ⟨g, 0, none⟩), .int .i64 n] w fun e w' => (∃ x, e = .returned (.int .i64 x) ∧ PickOf n x) ∧ Picked w w' g bs p := by
  have HP := Lib.hid (picked_set h)
  have hN := h.next
  obtain ⟨⟨v, hv, hr⟩, hlen, hby⟩ := h
  obtain ⟨A, c, rfl, hc, ha⟩ := hr
  have c0 : w.cell? ⟨g, 1, none⟩ = some (.int .i64 p) := hv.cell 1
  have f0 : w.frozen? ⟨g, 1, none⟩ = false := hv.frozen 1
  have hB2 := hv.set_ 1 (.int .i64 ((p : Int) + 1))
  have d0 : (w.setCell ⟨g, 1, none⟩ (.int .i64 ((p : Int) + 1))).cell? ⟨g, 0, none⟩ = some (.slice A bs.length c) := by rw [hB2.cell 0]; rfl
  have d1 : (w.setCell ⟨g, 1, none⟩ (.int .i64 ((p : Int) + 1))).cell? ⟨g, 1, none⟩ = some (.int .i64 ((p : Int) + 1)) := by rw [hB2.cell 1]; simp
  by_cases h1 : n < 1
  · clear ha hv hN hB2
    go_enter Tryd.func93, Tryd.ntmps93
    go_wp2_with (fail)
    go_ret
    exact ⟨⟨0, rfl, PickOf.zero n⟩, HP.out⟩
  · by_cases hl0 : bs.length = 0
    · have hz : ((bs.length : Int) == 0) = true := by simp [hl0]
      have hd1 : decide (n < 1) = false := by simpa using h1
      clear ha hv hN hB2
      go_enter Tryd.func93, Tryd.ntmps93
      go_wp2_with (fail)
      go_ret
      exact ⟨⟨0, rfl, PickOf.zero n⟩, HP.out⟩
    · have hz : ((bs.length : Int) == 0) = false := by
        have : (bs.length : Int) ≠ 0 := by omega
        simpa using this
      have hd1 : decide (n < 1) = false := by simpa using h1
      obtain ⟨b, o, rfl, hbg, hx⟩ := ha (Nat.pos_of_ne_zero hl0)
      have hcell : ∀ k (h : k < bs.length), (w.setCell ⟨g, 1, none⟩ (.int .i64 ((p : Int) + 1))).cell? ⟨b, o + k, none⟩ = some (.int .u8 (bs[k] : Nat)) := fun k hk => by
        rw [← hx k hk]
        simp only [World.cell?, Below.heap_setCell w ⟨g, 1, none⟩ (.int .i64 ((p : Int) + 1)) b (by exact Nat.ne_of_lt hbg)]
      by_cases hlt : p < bs.length
      · have hck := hcell p hlt
        have hdl : decide ((p : Int) < bs.length) = true := by simp; omega
        have hbb : bs[p] < 256 := hby _ (List.getElem_mem hlt)
        generalize hbp : bs[p] = bp at *
        clear ha hv hN hB2 hx hcell hby
        go_enter Tryd.func93, Tryd.ntmps93
        go_wp2_with (fail)
        go_ret
        exact ⟨⟨_, rfl, PickOf.of h1 (emod_range h1)⟩, HP.out⟩
      · have hdl : decide ((p : Int) < bs.length) = false := by simp; omega
        have hL : 0 < bs.length := by omega
        have hm1 : p % bs.length < bs.length := Nat.mod_lt _ hL
        have hm2 : (p * 7 + 3) % bs.length < bs.length := Nat.mod_lt _ hL
        have hck1 := hcell _ hm1
        have hck2 := hcell _ hm2
        have hb1 : bs[p % bs.length] < 256 := hby _ (List.getElem_mem hm1)
        have hb2 : bs[(p * 7 + 3) % bs.length] < 256 := hby _ (List.getElem_mem hm2)
        have hi1 : (p : Int) % (bs.length : Int) = ((p % bs.length : Nat) : Int) := by simp
        have hi2 : ((p : Int) * 7 + 3) % (bs.length : Int) = (((p * 7 + 3) % bs.length : Nat) : Int) := by simp
        have hqd : ((p : Int) / (bs.length : Int)) = ((p / bs.length : Nat) : Int) := by simp
        have hqb : p / bs.length ≤ 1073741824 := Nat.le_trans (Nat.div_le_self _ _) hp
        generalize bs[p % bs.length] = b1 at *
        generalize bs[(p * 7 + 3) % bs.length] = b2 at *
        generalize p % bs.length = m1 at *
        generalize (p * 7 + 3) % bs.length = m2 at *
        generalize p / bs.length = q at *
        obtain ⟨X, hX, hXb⟩ : ∃ X : Nat, (b1 : Int) * 131 + (b2 : Int) * 1117 + (p : Int) * 29 + (q : Int) * 53 = (X : Int) ∧ X < 1125899906842624 := ⟨b1 * 131 + b2 * 1117 + p * 29 + q * 53, by omega, by omega⟩
        obtain ⟨Y, hY, hYb⟩ : ∃ Y : Nat, (X : Int) / 64 = (Y : Int) ∧ Y < 1125899906842624 := ⟨X / 64, by omega, by omega⟩
        obtain ⟨hxr, hxb⟩ := xor_i64 X Y (by omega) (by omega)
        generalize X ^^^ Y = Z at *
        clear ha hv hN hB2 hx hcell hby
        go_enter Tryd.func93, Tryd.ntmps93
        go_wp2_with (fail)
        go_quiet (fail)
        go_wp2_with (fail)
        go_ret
        exact ⟨⟨_, rfl, PickOf.of h1 (emod_range h1)⟩, HP.out.drewN _⟩

end Go.Proofs.YtfjmnjemmfmoaaaDoor
/-
  append of a slice of integers that is read, nil and empty let in, onto a row of the call's own: the new value written out.
-/
namespace Go.Proofs.YtfjmnjemmfmoaaaDoor
open Go.RowKit

section
variable {P : Program} (w : World)

theorem run_append_nilsrc (base : Nat) (t ty e : TypeId) (i : TypeInfo) (size : Nat) (ht : P.underlying t = some (.slice e)) (hi : P.info? e = some i)
    (v : Value) (n : Nat) (xs : List Value) (hown : w.ownsRow base e size v n xs) (c : Nat) : (Builtin.append_ #[t, t] ty #[v, .slice none 0 c]).run P w = .ok v w := by
  rcases hown.2 with ⟨rfl, rfl⟩ | ⟨g, cap, cur, rfl, _, _, hnc, _⟩
  · simp [Builtin.append_, run_underlying ht, sizeOf, typeInfo, hi, Builtin.lenOf, Builtin.firstCells]
  · simp [Builtin.append_, run_underlying ht, sizeOf, typeInfo, hi, Builtin.lenOf, Builtin.firstCells, hnc, storeCells]

theorem run_append_rd (base : Nat) (t ty e : TypeId) (i : TypeInfo) (z : Value) (bytes : Nat) (ht : P.underlying t = some (.slice e)) (hi : P.info? e = some i) (hz : i.zero = some z)
    (hsize : i.size = 1) (hby : i.bytes = bytes) (hzs : z.cells.size = 1)
    (v : Value) (n : Nat) (xs : List Value) (hown : w.ownsRow base e 1 v n xs) (B : Nat) (x : Value) (ys : List Int) (hr : RdInts w B x ys)
    (h63 : n + ys.length ≤ maxLen) (hbytes : (n + ys.length) * bytes ≤ 140737488355328) (hbase : base ≤ w.heap.size) :
    ∃ A' c' w', (Builtin.append_ #[t, t] ty #[v, x]).run P w = .ok (.slice A' (n + ys.length) c') w' ∧ w'.ownsRow base e 1 (.slice A' (n + ys.length) c') (n + ys.length) (xs ++ ys.map (Value.int .i64)) ∧ w.grownBy w' v.ownBlock ∧
      ((Value.slice A' (n + ys.length) c').ownBlock = v.ownBlock ∨ (Value.slice A' (n + ys.length) c').ownBlock = some w.heap.size) := by
  have hform : ∀ {w' : World} {v' : Value} {m : Nat} {zs : List Value}, w'.ownsRow base e 1 v' m zs → ∃ A c, v' = .slice A m c := by
    intro w' v' m zs h
    rcases h.2 with ⟨rfl, h0⟩ | ⟨g, cap, _, rfl, _⟩
    · exact ⟨none, 0, by rw [h0]⟩
    · exact ⟨_, _, rfl⟩
  obtain ⟨A, c, rfl, hc, hcell⟩ := hr
  rcases A with _ | ad
  · have h0 : ys.length = 0 := by
      rcases Nat.eq_zero_or_pos ys.length with h0 | h0
      · exact h0
      · obtain ⟨b, o, e, _⟩ := hcell h0
        cases e
    have hys : ys = [] := List.eq_nil_of_length_eq_zero h0
    subst hys
    obtain ⟨A', c', hv⟩ := hform hown
    refine ⟨A', c', w, ?_, by simpa [← hv] using hown, World.grownBy.refl w _, .inl (by rw [hv]; rfl)⟩
    simp only [List.length_nil, Nat.add_zero]
    rw [← hv]
    exact run_append_nilsrc w base t ty e i 1 ht hi v n xs hown c
  · have hnews : ∀ j u, (ys.map (Value.int .i64))[j]? = some u → w.cell? (ad.add j) = some u := by
      intro j u hu
      have hj : j < ys.length := by
        rcases Nat.lt_or_ge j ys.length with h | h
        · exact h
        · rw [List.getElem?_eq_none (by simpa using h)] at hu; cases hu
      obtain ⟨b, o, e, _, hx⟩ := hcell (by omega)
      injection e with e
      subst e
      rw [Go.WideShapes.add_plain, hx j hj]
      rw [List.getElem?_map, List.getElem?_eq_getElem hj] at hu
      exact hu
    obtain ⟨v', w', hrun, h2, h3, _, h5⟩ := run_append_own_at (P := P) w base t ty e i z 1 bytes ht hi hz hsize hby hzs (by decide) v n xs hown ad ys.length c (ys.map (Value.int .i64)) (by simp) hnews
      (fun u hu => by simp at hu; obtain ⟨q, _, rfl⟩ := hu; rfl) h63 hbytes hbase
    obtain ⟨A', c', hv⟩ := hform h2
    subst hv
    exact ⟨A', c', w', hrun, h2, h3, h5⟩

theorem wp_append_rd {o : Oper} {a : Act} {K : Act → World → Prop} {Q : Exit → Act → World → Prop} (s x : Operand) (t : TypeId)
    (ho : o.op = .call { callee := .builtin .append, args := #[s, x], argTypes := #[t, t] })
    (base : Nat) (e : TypeId) (i : TypeInfo) (z : Value) (bytes : Nat) (ht : P.underlying t = some (.slice e)) (hi : P.info? e = some i) (hz : i.zero = some z)
    (hsize : i.size = 1) (hby : i.bytes = bytes) (hzs : z.cells.size = 1)
    (v : Value) (n : Nat) (xs : List Value) (hs : a.eval s = v) (hown : w.ownsRow base e 1 v n xs) (B : Nat) (xv : Value) (ys : List Int) (hx : a.eval x = xv) (hr : RdInts w B xv ys)
    (h63 : n + ys.length ≤ maxLen) (hbytes : (n + ys.length) * bytes ≤ 140737488355328) (hbase : base ≤ w.heap.size)
    (h : ∀ A' c' w', w'.ownsRow base e 1 (.slice A' (n + ys.length) c') (n + ys.length) (xs ++ ys.map (Value.int .i64)) → w.grownBy w' v.ownBlock →
      ((Value.slice A' (n + ys.length) c').ownBlock = v.ownBlock ∨ (Value.slice A' (n + ys.length) c').ownBlock = some w.heap.size) → K (a.put o.dst (.slice A' (n + ys.length) c')) w') : o.wp P a w K Q := by
  obtain ⟨A', c', w', hrun, h2, h3, h4⟩ := run_append_rd (P := P) w base t o.type e i z bytes ht hi hz hsize hby hzs v n xs hown B xv ys hr h63 hbytes hbase
  unfold Oper.wp execOp
  simp only [ho, resolve, invoke, builtin, Sem.run_bind, Sem.run_pure, Result.andThen_ok, List.map_toArray, List.map_cons, List.map_nil, hs, hx, hrun]
  exact h A' c' w' h2 h3 h4

theorem step_append_rd {ops : Array Oper} {o : Oper} {a : Act} {K : Act → World → Prop} {Q : Exit → Act → World → Prop} {E : Prop} (hgd : o.guard = none) (s x : Operand) (t : TypeId)
    (ho : o.op = .call { callee := .builtin .append, args := #[s, x], argTypes := #[t, t] })
    (base : Nat) (e : TypeId) (i : TypeInfo) (z : Value) (bytes : Nat) (ht : P.underlying t = some (.slice e)) (hi : P.info? e = some i) (hz : i.zero = some z)
    (hsize : i.size = 1) (hby : i.bytes = bytes) (hzs : z.cells.size = 1)
    (v : Value) (n : Nat) (xs : List Value) (hs : a.eval s = v) (hown : w.ownsRow base e 1 v n xs) (B : Nat) (xv : Value) (ys : List Int) (hx : a.eval x = xv) (hr : RdInts w B xv ys)
    (h63 : n + ys.length ≤ maxLen) (hbytes : (n + ys.length) * bytes ≤ 140737488355328) (hbase : base ≤ w.heap.size)
    (h : ∀ A' c' w', w'.ownsRow base e 1 (.slice A' (n + ys.length) c') (n + ys.length) (xs ++ ys.map (Value.int .i64)) → w.grownBy w' v.ownBlock →
      ((Value.slice A' (n + ys.length) c').ownBlock = v.ownBlock ∨ (Value.slice A' (n + ys.length) c').ownBlock = some w.heap.size) → K (a.put o.dst (.slice A' (n + ys.length) c')) w') :
    if Region.wanted o (yielded ops a.tmps) = true then Oper.wp P o a w K Q else E := by
  have hw : Region.wanted o (yielded ops a.tmps) = true := by simp [Region.wanted, hgd]
  rw [if_pos hw]
  exact wp_append_rd w s x t ho base e i z bytes ht hi hz hsize hby hzs v n xs hs hown B xv ys hx hr h63 hbytes hbase h

theorem wpList_append_rd {ops : Array Oper} {rest : List Oper} {o : Oper} {a : Act} {Q : Exit → Act → World → Prop} (hgd : o.guard = none) (s x : Operand) (t : TypeId)
    (ho : o.op = .call { callee := .builtin .append, args := #[s, x], argTypes := #[t, t] })
    (base : Nat) (e : TypeId) (i : TypeInfo) (z : Value) (bytes : Nat) (ht : P.underlying t = some (.slice e)) (hi : P.info? e = some i) (hz : i.zero = some z)
    (hsize : i.size = 1) (hby : i.bytes = bytes) (hzs : z.cells.size = 1)
    (v : Value) (n : Nat) (xs : List Value) (hs : a.eval s = v) (hown : w.ownsRow base e 1 v n xs) (B : Nat) (xv : Value) (ys : List Int) (hx : a.eval x = xv) (hr : RdInts w B xv ys)
    (h63 : n + ys.length ≤ maxLen) (hbytes : (n + ys.length) * bytes ≤ 140737488355328) (hbase : base ≤ w.heap.size)
    (h : ∀ A' c' w', w'.ownsRow base e 1 (.slice A' (n + ys.length) c') (n + ys.length) (xs ++ ys.map (Value.int .i64)) → w.grownBy w' v.ownBlock →
      ((Value.slice A' (n + ys.length) c').ownBlock = v.ownBlock ∨ (Value.slice A' (n + ys.length) c').ownBlock = some w.heap.size) → wpList P ops Q rest (a.put o.dst (.slice A' (n + ys.length) c')) w') : wpList P ops Q (o :: rest) a w :=
  wpList_plain hgd fun _ hK => wp_append_rd w s x t ho base e i z bytes ht hi hz hsize hby hzs v n xs hs hown B xv ys hx hr h63 hbytes hbase fun A' c' w' h2 h3 h4 => hK _ _ (h A' c' w' h2 h3 h4)

end

end Go.Proofs.YtfjmnjemmfmoaaaDoor
/-
  The walks that copy a fact: the program's copyFact, the specification's l1Copy.
-/
namespace Go.Proofs.YtfjmnjemmfmoaaaDoor
open Go.RowKit

theorem Only.keepsRd {lo hi : Nat} {w w' : World} (h : Only lo hi w w') {v : Value} {xs : List Int} {B : Nat} (hr : RdInts w B v xs) (hB : B ≤ lo) (hs : B ≤ w.heap.size) : RdInts w' w'.heap.size v xs :=
  (hr.below (h.below hB hs) (Nat.le_refl _)).more (Nat.le_trans hs h.size)
theorem Only.blk {lo hi : Nat} {w w' : World} (h : Only lo hi w w') {g : Nat} {t : TypeId} {cs : Array Value} (hb : Blk w g t cs) (hg : g < lo ∨ hi ≤ g) : Blk w' g t cs := (h.block g hb.lt hg).trans hb

end Go.Proofs.YtfjmnjemmfmoaaaDoor
/-
  The walk of the specification's l1Copy.
-/
namespace Go.Proofs.YtfjmnjemmfmoaaaDoor
open Go.RowKit

theorem blk_ne_row {w : World} {base n size g : Nat} {e t : TypeId} {v : Value} {xs : List Value} {cs : Array Value} (h : w.ownsRow base e size v n xs) (hb : Blk w g t cs) (hne : e ≠ t) : v.ownBlock ≠ some g := by
  rcases h.2 with ⟨rfl, _⟩ | ⟨g', cap, cur, rfl, _, hh, _⟩
  · simp [Value.ownBlock]
  · intro he
    have : g' = g := by simpa [Value.ownBlock] using he
    subst this
    unfold Blk at hb
    rw [hh] at hb
    injection hb with hb
    injection hb with _ hb
    exact hne hb
theorem grown_from_alloc_drew {w w' : World} {o : Obj} {row : Option Nat} (hg : ((w.alloc o).drew).grownBy w' row) : w.grownBy w' row :=
  ⟨hg.os, hg.tape, hg.output, Nat.le_trans (by show w.heap.size ≤ (w.alloc o).heap.size; simp) hg.size, fun i hi hne => (hg.block i (Nat.lt_of_lt_of_le hi (by show w.heap.size ≤ (w.alloc o).heap.size; simp)) hne).trans (Below.heap_alloc _ _ _ hi)⟩
theorem own_alloc_drew {w : World} {base size n : Nat} {e : TypeId} {v : Value} {xs : List Value} (h : w.ownsRow base e size v n xs) (o : Obj) : ((w.alloc o).drew).ownsRow base e size v n xs := h.alloc o
theorem news_alloc_drew (w : World) (x : Value) (t : TypeId) : ∀ j u, [x][j]? = some u → ((w.alloc (.cells #[x] t)).drew).cell? ((⟨w.heap.size, 0, none⟩ : Addr).add j) = some u := cell_one_new w x t

end Go.Proofs.YtfjmnjemmfmoaaaDoor
/-
  The walk of l1In.
-/
namespace Go.Proofs.YtfjmnjemmfmoaaaDoor
open Go.RowKit

theorem l1In_any (n lo hi : Int) (w : World) : Calls Tryd.prog 70 #[.int .i64 n, .int .i64 lo, .int .i64 hi] w fun e w' => e = .returned (.bool (decide (lo ≤ n ∧ n ≤ hi))) ∧ w = w' := by
  by_cases h1 : lo ≤ n
  · by_cases h2 : n ≤ hi
    all_goals
      go_enter Tryd.func70, Tryd.ntmps70
      go_wp2
      go_ret
      exact ⟨ret_bool (by simp [*]), rfl⟩
  · have hd : decide (lo ≤ n) = false := by simpa using h1
    go_enter Tryd.func70, Tryd.ntmps70
    go_wp2
    go_ret
    exact ⟨ret_bool (by simp [*]), rfl⟩

theorem l1In_yes {n lo hi : Int} (h : lo ≤ n ∧ n ≤ hi) (w : World) : Calls Tryd.prog 70 #[.int .i64 n, .int .i64 lo, .int .i64 hi] w fun e w' => e = .returned (.bool true) ∧ w = w' :=
  (l1In_any n lo hi w).mono fun _ _ ⟨he, hw⟩ => ⟨by rw [he, decide_eq_true h], hw⟩
theorem l1In_no {n lo hi : Int} (h : ¬ (lo ≤ n ∧ n ≤ hi)) (w : World) : Calls Tryd.prog 70 #[.int .i64 n, .int .i64 lo, .int .i64 hi] w fun e w' => e = .returned (.bool false) ∧ w = w' :=
  (l1In_any n lo hi w).mono fun _ _ ⟨he, hw⟩ => ⟨by rw [he, decide_eq_false h], hw⟩

end Go.Proofs.YtfjmnjemmfmoaaaDoor
/-
  The walks of ArityOk: the program's and the specification's.
-/
namespace Go.Proofs.YtfjmnjemmfmoaaaDoor
open Go.RowKit

def placeOk (x : Int) : Bool := decide (0 ≤ x ∧ x ≤ 2)
def arityOk (xs : List Int) : Bool := decide (xs.length ≤ 24) && xs.all placeOk
/-- 'the first k are places', kept from the walk. -/
def PlacesTo (xs : List Int) (k : Nat) : Prop := ∀ j, j < k → placeOk (xs.getD j 0) = true
theorem PlacesTo.step {xs : List Int} {k : Nat} (h : PlacesTo xs k) (e : placeOk (xs.getD k 0) = true) : PlacesTo xs (k + 1) := fun j hj => by
  by_cases h2 : j = k
  · subst h2; exact e
  · exact h j (by omega)
theorem PlacesTo.all {xs : List Int} (h : PlacesTo xs xs.length) : xs.all placeOk = true := by
  rw [List.all_eq_true]
  intro x hx
  obtain ⟨j, hj, rfl⟩ := List.getElem_of_mem hx
  have := h j hj
  simpa [hj] using this
theorem places_not {xs : List Int} {k : Nat} (hk : k < xs.length) (e : placeOk xs[k] = false) : xs.all placeOk = false := by
  rw [List.all_eq_false]
  exact ⟨xs[k], List.getElem_mem hk, by simp [e]⟩

set_option maxHeartbeats 400000 in
theorem specArityOk_any (v : Value) (xs : List Int) (w : World) (h : RdInts w w.heap.size v xs) (hr : xs.length * 8 ≤ 140737488351232) :
    Calls Tryd.prog 21 #[v] w fun e w' => e = .returned (.bool (arityOk xs)) ∧ w = w' := by
  obtain ⟨A, c, rfl, hc, ha⟩ := h
  go_enter Tryd.func21, Tryd.ntmps21
  go_wp2_with (fail)
  go_loop [3] (fun i => ∃ k : Nat, k ≤ xs.length ∧ i = .int .i64 k ∧ PlacesTo xs k) (fun i => xs.length - (intOf i).toNat)
  case atStart => exact ⟨0, Nat.zero_le _, rfl, fun j hj => absurd hj (by omega)⟩
  case round =>
    obtain ⟨k, hk, rfl, hs⟩ := hrel
    by_cases hlt : k < xs.length
    · obtain ⟨b, o, rfl, hbB, hx⟩ := ha (by omega)
      have hck : w.cell? ⟨b, o + k, none⟩ = some (.int .i64 xs[k]) := hx k hlt
      clear hx ha
      by_cases he : 0 ≤ xs[k] ∧ xs[k] ≤ 2
      · have HS := Lib.hid (hs.step (by simpa [hlt, placeOk] using he))
        clear hs
        go_wp2_with (go_at_call 70; refine (l1In_any _ _ _ _).mono ?_; rintro e w' ⟨rfl, rfl⟩)
        go_round
        case rel => exact ⟨k + 1, by omega, by go_num, HS.out⟩
        case measure => simp [intOf]; omega
      · have hd : decide (0 ≤ xs[k] ∧ xs[k] ≤ 2) = false := by simpa using he
        have HE := Lib.hid (places_not hlt (by simpa [placeOk] using he))
        clear hs he
        go_wp2_with (go_at_call 70; refine (l1In_any _ _ _ _).mono ?_; rintro e w' ⟨rfl, rfl⟩)
        go_ret
        exact ⟨ret_bool (by simp [arityOk, HE.out]), rfl⟩
    · have hkn : k = xs.length := by omega
      have HE := Lib.hid (show xs.all placeOk = true from PlacesTo.all (by rw [← hkn]; exact hs))
      clear hkn hs ha
      go_wp2_with (fail)
      go_ret
      exact ⟨ret_bool (by unfold arityOk; rw [HE.out]; simp; try omega), rfl⟩

set_option maxHeartbeats 400000 in
theorem arityOk_any (v : Value) (xs : List Int) (w : World) (h : RdInts w w.heap.size v xs) (hr : xs.length * 8 ≤ 140737488351232) :
    Calls Tryd.prog 20 #[v] w fun e w' => e = .returned (.bool (arityOk xs)) ∧ Below w.heap.size w w' := by
  obtain ⟨A, c, rfl, hc, ha⟩ := h
  by_cases hl : xs.length ≤ 24
  · go_enter Tryd.func20, Tryd.ntmps20
    go_wp2
    go_loopw [4, 10] (fun _ i wr => ∃ k : Nat, k ≤ xs.length ∧ i = .int .i64 k ∧ PlacesTo xs k ∧ Below w.heap.size w wr) (fun _ i _ => xs.length - (intOf i).toNat)
    case atStart => exact ⟨0, Nat.zero_le _, rfl, fun j hj => absurd hj (by omega), Below.refl _ _⟩
    case round =>
      obtain ⟨k, hk, rfl, hs, hbe⟩ := hrel
      by_cases hlt : k < xs.length
      · obtain ⟨b, o, rfl, hbB, hx⟩ := ha (by omega)
        have hck : wr.cell? ⟨b, o + k, none⟩ = some (.int .i64 xs[k]) := (hbe.cell (p := ⟨b, o + k, none⟩) hbB).trans (hx k hlt)
        clear hx ha
        by_cases h0 : xs[k] < 0
        · have HE := Lib.hid (places_not hlt (by simp [placeOk]; omega))
          clear hs
          go_wp2
          go_ret
          exact ⟨ret_bool (by simp [arityOk, HE.out]), hbe⟩
        · have hd : decide (xs[k] < 0) = false := by simpa using h0
          by_cases h2 : 2 < xs[k]
          · have HE := Lib.hid (places_not hlt (by simp [placeOk]; omega))
            clear hs
            go_wp2
            go_ret
            exact ⟨ret_bool (by simp [arityOk, HE.out]), hbe⟩
          · have HS := Lib.hid (hs.step (by simp [hlt, placeOk]; omega))
            clear hs
            go_wp2
            go_roundw
            case rel => exact ⟨k + 1, by omega, by go_num, HS.out, hbe⟩
            case measure => simp [intOf]; omega
      · have hkn : k = xs.length := by omega
        have HE := Lib.hid (show xs.all placeOk = true from PlacesTo.all (by rw [← hkn]; exact hs))
        have HL := Lib.hid hl
        clear hkn hs ha
        go_wp2
        go_ret
        exact ⟨ret_bool (by unfold arityOk; rw [HE.out]; simp [HL.out]), hbe⟩
  · have HL := Lib.hid hl
    have hg : (24 : Int) < xs.length := by omega
    clear ha
    go_enter Tryd.func20, Tryd.ntmps20
    go_wp2
    go_ret
    exact ⟨ret_bool (by simp [arityOk, HL.out]), Below.refl _ _⟩

end Go.Proofs.YtfjmnjemmfmoaaaDoor
/-
  The order of facts: its plain mathematics, and the walks of cmp.Compare, cmp.Or, slices.Compare, the specification's l1Way.
-/
namespace Go.Proofs.YtfjmnjemmfmoaaaDoor
open Go.RowKit

def cmpI (a b : Int) : Int := if a < b then -1 else if b < a then 1 else 0
def cmpL : List Int → List Int → Int
  | [], [] => 0
  | [], _ :: _ => -1
  | _ :: _, [] => 1
  | x :: xs, y :: ys => if x = y then cmpL xs ys else cmpI x y
def factOrder (f g : LFact) : Int := if f.1 = g.1 then cmpL f.2 g.2 else cmpI f.1 g.1

theorem cmpL_at {xs ys : List Int} {k : Nat} (h1 : k < xs.length) (h2 : k < ys.length) : cmpL (xs.drop k) (ys.drop k) = if xs[k] = ys[k] then cmpL (xs.drop (k + 1)) (ys.drop (k + 1)) else cmpI xs[k] ys[k] := by
  rw [List.drop_eq_getElem_cons h1, List.drop_eq_getElem_cons h2]
  rfl
theorem cmpL_long {xs ys : List Int} {k : Nat} (h1 : k < xs.length) (h2 : ys.length ≤ k) : cmpL (xs.drop k) (ys.drop k) = 1 := by
  rw [List.drop_eq_getElem_cons h1, List.drop_eq_nil_of_le h2]
  rfl
theorem cmpL_short {xs ys : List Int} {k : Nat} (h1 : xs.length ≤ k) (h2 : k < ys.length) : cmpL (xs.drop k) (ys.drop k) = -1 := by
  rw [List.drop_eq_nil_of_le h1, List.drop_eq_getElem_cons h2]
  rfl
theorem cmpL_end {xs ys : List Int} {k : Nat} (h1 : xs.length ≤ k) (h2 : ys.length ≤ k) : cmpL (xs.drop k) (ys.drop k) = 0 := by
  rw [List.drop_eq_nil_of_le h1, List.drop_eq_nil_of_le h2]
  rfl
theorem cmpI_ne {a b : Int} (h : a ≠ b) : cmpI a b ≠ 0 := by
  unfold cmpI
  split
  · omega
  · split <;> omega
theorem cmpI_zero {a b : Int} (h : cmpI a b = 0) : a = b := by
  unfold cmpI at h
  split at h
  · omega
  · split at h <;> omega
theorem cmpI_self (a : Int) : cmpI a a = 0 := by simp [cmpI]
/-- 'the first k of both are the same', as the order has it. -/
def CmpTo (xs ys : List Int) (k : Nat) : Prop := cmpL xs ys = cmpL (xs.drop k) (ys.drop k)

end Go.Proofs.YtfjmnjemmfmoaaaDoor
/-
  The walks of FactOrder: the program's (with cmp.Or) and the specification's.
-/
namespace Go.Proofs.YtfjmnjemmfmoaaaDoor
open Go.RowKit

def orI (a b : Int) : Int := if a = 0 then b else a

theorem factOrder_or (f g : LFact) : orI (cmpI f.1 g.1) (cmpL f.2 g.2) = factOrder f g := by
  unfold orI factOrder
  by_cases h : f.1 = g.1
  · rw [if_pos h, h, cmpI_self, if_pos rfl]
  · rw [if_neg h, if_neg (cmpI_ne h)]

end Go.Proofs.YtfjmnjemmfmoaaaDoor
/-
  The walk of the specification's FactOrder.
-/
namespace Go.Proofs.YtfjmnjemmfmoaaaDoor
open Go.RowKit

end Go.Proofs.YtfjmnjemmfmoaaaDoor
/-
  The walks of FactsHas: the program's and the specification's.
-/
namespace Go.Proofs.YtfjmnjemmfmoaaaDoor
open Go.RowKit

/-- One fact of a list, as a walk reads it. -/
theorem RdFacts.get {w : World} {B c : Nat} {A : Option Addr} {fs : List LFact} (h : RdFacts w B (.slice A fs.length c) fs) {k : Nat} (hk : k < fs.length) : ∃ b o A3 c3, A = some ⟨b, o, none⟩ ∧ b < B ∧
    w.cell? ⟨b, o + k * 2, none⟩ = some (.int .i64 fs[k].1) ∧ w.cell? ⟨b, o + k * 2 + 1, none⟩ = some (.slice A3 fs[k].2.length c3) ∧ RdInts w B (.slice A3 fs[k].2.length c3) fs[k].2 := by
  obtain ⟨A', c', e, hc, h⟩ := h
  injection e with e1 e2 e3
  subst e1
  obtain ⟨b, o, rfl, hb, hx⟩ := h (by omega)
  obtain ⟨a, h1, h2, h3⟩ := hx k hk
  have h4 := h3
  obtain ⟨A3, c3, rfl, _⟩ := h3
  exact ⟨b, o, A3, c3, rfl, hb, h1, h2, h4⟩

def factsHas (fs : List LFact) (f : LFact) : Bool := fs.any fun g => factOrder g f == 0
/-- 'none of the first k is the same'. -/
def HasNot (fs : List LFact) (f : LFact) (k : Nat) : Prop := factsHas (fs.take k) f = false
theorem HasNot.step {fs : List LFact} {f : LFact} {k : Nat} (h : HasNot fs f k) (hk : k < fs.length) (e : factOrder fs[k] f ≠ 0) : HasNot fs f (k + 1) := by
  unfold HasNot factsHas at h ⊢
  rw [take_snoc fs k hk, List.any_append, h]
  simp [e]
theorem HasNot.done {fs : List LFact} {f : LFact} (h : HasNot fs f fs.length) : factsHas fs f = false := by
  unfold HasNot at h
  rwa [List.take_length] at h
theorem has_yes {fs : List LFact} {f : LFact} {k : Nat} (hk : k < fs.length) (e : factOrder fs[k] f = 0) : factsHas fs f = true := by
  unfold factsHas
  rw [List.any_eq_true]
  exact ⟨fs[k], List.getElem_mem hk, by simp [e]⟩

end Go.Proofs.YtfjmnjemmfmoaaaDoor
/-
  Marks on lists of facts: the words, and the walks of markFactS, markFact, heldFactS.
-/
namespace Go.Proofs.YtfjmnjemmfmoaaaDoor
open Go.RowKit

/-- The facts that marks from k on leave. -/
def markF : Int → List LFact → List LFact
  | _, [] => []
  | k, f :: fs => (k, seqI (k + 1) f.2.length) :: markF (k + 1 + (f.2.length : Int)) fs
/-- The mark behind the last one. -/
def endF (k : Int) (fs : List LFact) : Int := k + (fs.length : Int) + (tot fs : Int)

theorem tot_cons (f : LFact) (fs : List LFact) : tot (f :: fs) = f.2.length + tot fs := by simp [tot]
theorem tot_append (xs ys : List LFact) : tot (xs ++ ys) = tot xs + tot ys := by simp [tot]
theorem markF_length : ∀ (k : Int) (fs : List LFact), (markF k fs).length = fs.length
  | _, [] => rfl
  | k, f :: fs => by simp [markF, markF_length _ fs]
theorem markF_tot : ∀ (k : Int) (fs : List LFact), tot (markF k fs) = tot fs
  | _, [] => rfl
  | k, f :: fs => by simp [markF, tot_cons, seqI_length, markF_tot _ fs]
theorem markF_snoc : ∀ (k : Int) (fs : List LFact) (f : LFact), markF k (fs ++ [f]) = markF k fs ++ [(endF k fs, seqI (endF k fs + 1) f.2.length)]
  | k, [], f => by simp [markF, endF, tot]
  | k, g :: fs, f => by
    have h := markF_snoc (k + 1 + (g.2.length : Int)) fs f
    have e : endF (k + 1 + (g.2.length : Int)) fs = endF k (g :: fs) := by simp [endF, tot_cons]; omega
    rw [e] at h
    simp [markF, h]
def markedF (fs : List LFact) (k : Int) (j : Nat) : List LFact := markF k (fs.take j) ++ fs.drop j
theorem markedF_length {fs : List LFact} {k : Int} {j : Nat} (h : j ≤ fs.length) : (markedF fs k j).length = fs.length := by simp [markedF, markF_length]; omega
theorem markedF_at {fs : List LFact} {k : Int} {j : Nat} (h : j < fs.length) (h' : j < (markedF fs k j).length) : (markedF fs k j)[j] = fs[j] := by
  have hl : (markF k (fs.take j)).length = j := by rw [markF_length]; simp; omega
  have e : (markedF fs k j)[j]? = some fs[j] := by
    unfold markedF
    rw [List.getElem?_append_right (by omega), hl]
    simp [h]
  rw [List.getElem?_eq_getElem h'] at e
  exact Option.some.inj e
theorem markedF_step {fs : List LFact} {k : Int} {j : Nat} (h : j < fs.length) : (markedF fs k j).set j (endF k (fs.take j), seqI (endF k (fs.take j) + 1) fs[j].2.length) = markedF fs k (j + 1) := by
  have hl : (markF k (fs.take j)).length = j := by rw [markF_length]; simp; omega
  unfold markedF
  rw [List.drop_eq_getElem_cons h, List.set_append_right _ _ (by omega), hl, Nat.sub_self, List.set_cons_zero, take_snoc fs j h, markF_snoc]
  simp
theorem markedF_zero (fs : List LFact) (k : Int) : markedF fs k 0 = fs := by simp [markedF, markF]
theorem markedF_all (fs : List LFact) (k : Int) : markedF fs k fs.length = markF k fs := by simp [markedF]
theorem markF_at {fs : List LFact} {k : Int} {j : Nat} (h : j < fs.length) (h' : j < (markF k fs).length) : (markF k fs)[j] = (endF k (fs.take j), seqI (endF k (fs.take j) + 1) fs[j].2.length) := by
  have e : fs = fs.take (j + 1) ++ fs.drop (j + 1) := (List.take_append_drop _ _).symm
  have hl : (markF k (fs.take j)).length = j := by rw [markF_length]; simp; omega
  have hp : ∀ (xs ys : List LFact) (k : Int), ∃ zs, markF k (xs ++ ys) = markF k xs ++ zs := by
    intro xs
    induction xs with
    | nil => intro ys k; exact ⟨_, rfl⟩
    | cons x xs ih =>
      intro ys k
      obtain ⟨zs, hz⟩ := ih ys (k + 1 + (x.2.length : Int))
      exact ⟨zs, by simp [markF, hz]⟩
  obtain ⟨zs, hz⟩ := hp (fs.take (j + 1)) (fs.drop (j + 1)) k
  rw [← e, take_snoc fs j h, markF_snoc] at hz
  have : (markF k fs)[j]? = some (endF k (fs.take j), seqI (endF k (fs.take j) + 1) fs[j].2.length) := by
    rw [hz, List.append_assoc, List.getElem?_append_right (by omega), hl]
    simp
  rw [List.getElem?_eq_getElem h'] at this
  exact Option.some.inj this
theorem endF_zero (k : Int) (fs : List LFact) : endF k (fs.take 0) = k := by simp [endF, tot]
theorem endF_step {fs : List LFact} {k : Int} {j : Nat} (h : j < fs.length) : endF k (fs.take (j + 1)) = endF k (fs.take j) + 1 + (fs[j].2.length : Int) := by
  have := tot_take fs j h
  simp only [endF, List.length_take, this]
  omega
theorem tot_take_le (fs : List LFact) (j : Nat) : tot (fs.take j) ≤ tot fs := by
  have := tot_append (fs.take j) (fs.drop j)
  rw [List.take_append_drop] at this
  omega

theorem flat_set : ∀ (fs : List LFact) (av : List Value) (j : Nat) (f : LFact), av.length = fs.length → flat (fs.set j f) av = (flat fs av).set (j * 2) (.int .i64 f.1)
  | [], [], _, _, _ => rfl
  | [], a :: av, _, _, h => by simp at h
  | g :: fs, [], _, _, h => by simp at h
  | g :: fs, a :: av, 0, f, _ => by simp [flat]
  | g :: fs, a :: av, j + 1, f, h => by
    have := flat_set fs av j f (by simpa using h)
    simp [flat, Nat.add_mul, this]

theorem endF_bound {fs : List LFact} {k : Int} (j : Nat) (hk0 : 0 ≤ k) (hk : k ≤ 4294967296) (hn : fs.length ≤ 1073741824) (ht : tot fs ≤ 1073741824) : 0 ≤ endF k (fs.take j) ∧ endF k (fs.take j) ≤ 8589934592 := by
  have h1 := tot_take_le fs j
  have h2 : (fs.take j).length ≤ fs.length := by rw [List.length_take]; omega
  simp only [endF]
  omega

end Go.Proofs.YtfjmnjemmfmoaaaDoor
/-
  The relation of a loop that collects facts.
-/
namespace Go.Proofs.YtfjmnjemmfmoaaaDoor
open Go.RowKit

theorem news2 (w : World) (x y : Value) (t : TypeId) : ∀ j u, [x, y][j]? = some u → (w.alloc (.cells #[x, y] t)).cell? ((⟨w.heap.size, 0, none⟩ : Addr).add j) = some u := World.news_of_block (cs := #[x, y]) (heap_alloc_new w _)

end Go.Proofs.YtfjmnjemmfmoaaaDoor
/-
  The reader's num and its opening; numbers of places drawn.
-/
namespace Go.Proofs.YtfjmnjemmfmoaaaDoor
open Go.RowKit

theorem Picked.size {w w' : World} {g : Nat} {bs : List Nat} {p : Nat} (h : Picked w w' g bs p) : w.heap.size ≤ w'.heap.size := h.2.size
set_option maxHeartbeats 400000 in
theorem num_any (g : Nat) (bs : List Nat) (p b : Nat) (cs : Array Value) (xs : List Int) (n : Nat) (w : World) (h : Rdr w g bs p) (hp : p ≤ 1073741824) (hb : Blk w b 3 cs) (hcs : cs = (xs.map (Value.int .i64)).toArray) (hne : b ≠ g) (hn : n = xs.length) (hx : 0 < xs.length) (hl : xs.length ≤ 1073741824) :
    Calls Tryd.prog 94 #[.pointer (some ⟨g, 0, none⟩), .slice (some ⟨b, 0, none⟩) n n] w fun e w' => (∃ x, e = .returned (.int .i64 x) ∧ x ∈ xs) ∧ Picked w w' g bs p := by
  subst hcs
  subst hn
  have H := Lib.hid h
  have HB := Lib.hid hb
  clear h hb
  go_enter Tryd.func94, Tryd.ntmps94
  go_wp2_with (fail)
  refine (pick_any g bs p _ _ H.out hp (by omega)).mono ?_
  rintro e w' ⟨⟨x, rfl, hx1⟩, hpk⟩
  obtain ⟨k, rfl⟩ : ∃ k : Nat, x = (k : Int) := ⟨x.toNat, by have := hx1.1 (by omega); omega⟩
  have hk : k < xs.length := by have := hx1.1 (by omega); omega
  have hck : w'.cell? ⟨b, k, none⟩ = some (.int .i64 xs[k]) := by
    rw [(HB.out.only hpk.2 (by omega)).cell k]
    simp [hk]
  have HM := Lib.hid (List.getElem_mem hk)
  have HK := Lib.hid hpk
  clear hpk hx1
  go_wp2_with (fail)
  go_ret
  exact ⟨⟨_, rfl, HM.out⟩, HK.out⟩

set_option maxHeartbeats 400000 in
theorem l40Open_any (v : Value) (bs : List Nat) (w : World) (h : RdBytes w w.heap.size v bs) (hby : ∀ b ∈ bs, b < 256) (hn : bs.length ≤ 1073741824) :
    Calls Tryd.prog 72 #[v] w fun e w' => e = .returned (.pointer (some ⟨w.heap.size, 0, none⟩)) ∧ Rdr w' w.heap.size (bs.take 2000) 0 ∧ Below w.heap.size w w' := by
  obtain ⟨A, c, rfl, hc, ha⟩ := h
  by_cases hl : 2000 < bs.length
  · obtain ⟨b, o, rfl, hbB, hx⟩ := ha (by omega)
    have HR := Lib.hid (show RdBytes w w.heap.size (.slice (some ⟨b, o, none⟩) 2000 c) (bs.take 2000) from
      ⟨some ⟨b, o, none⟩, c, by rw [List.length_take]; congr 1; omega, by rw [List.length_take]; omega, fun _ => ⟨b, o, rfl, hbB, fun k hk => by
        rw [List.length_take] at hk
        rw [hx k (by omega), List.getElem_take]⟩⟩)
    have hd : decide ((2000 : Int) < bs.length) = true := by simp; omega
    clear hx ha
    go_enter Tryd.func72, Tryd.ntmps72
    go_wp2_with (fail)
    go_ret
    exact ⟨rfl, ⟨⟨_, Blk.new _ _ _, HR.out.off fun k hk => Below.heap_alloc _ _ _ hk⟩, by rw [List.length_take]; omega, fun x hx => hby x (List.mem_of_mem_take hx)⟩, below1 _ _⟩
  · have HR := Lib.hid (show RdBytes w w.heap.size (.slice A bs.length c) bs from ⟨A, c, rfl, hc, ha⟩)
    have HT := Lib.hid (show bs.take 2000 = bs from List.take_of_length_le (by omega))
    have hd : decide ((2000 : Int) < bs.length) = false := by simp; omega
    clear ha
    go_enter Tryd.func72, Tryd.ntmps72
    go_wp2_with (fail)
    go_ret
    exact ⟨rfl, by rw [HT.out]; exact ⟨⟨_, Blk.new _ _ _, HR.out.off fun k hk => Below.heap_alloc _ _ _ hk⟩, by omega, hby⟩, below1 _ _⟩

/-- What l1Arity's loop keeps. -/
structure DrRel (w wr : World) (g : Nat) (bs : List Nat) (p k : Nat) (A : Option Addr) (c : Nat) (xs : List Int) : Prop where
  len : xs.length = k
  range : ∀ x ∈ xs, 0 ≤ x ∧ x ≤ 2
  own : wr.ownsRow w.heap.size 3 1 (.slice A k c) k (xs.map (Value.int .i64))
  rdr : Rdr wr g bs (p + k)
  only : Only g (g + 1) w wr

theorem Rdr.same {w w' : World} {g : Nat} {bs : List Nat} {p : Nat} (h : Rdr w g bs p) (hb : ∀ k, k ≤ g → w'.heap[k]? = w.heap[k]?) : Rdr w' g bs p := by
  obtain ⟨⟨v, hv, hr⟩, h1, h2⟩ := h
  exact ⟨⟨v, (hb g (Nat.le_refl g)).trans hv, hr.off fun k hk => hb k (Nat.le_of_lt hk)⟩, h1, h2⟩

/-- The row after a draw. -/
theorem DrRel.row {w wr w' : World} {g : Nat} {bs : List Nat} {p q k : Nat} {A : Option Addr} {c : Nat} {xs : List Int} {o o2 : Obj} (h : DrRel w wr g bs p k A c xs) (hg : g < w.heap.size) (hk : Picked (wr.alloc o) w' g bs q) :
    (w'.alloc o2).ownsRow w.heap.size 3 1 (.slice A k c) k (xs.map (Value.int .i64)) :=
  ((ownsRow_only (h.own.alloc o) fun b hb => hk.2.block b (by have := (h.own.lt b hb).2; simp; omega) (by have := (h.own.lt b hb).1; omega))).alloc o2

theorem DrRel.push {w wr w' w4 : World} {g : Nat} {bs : List Nat} {p k : Nat} {A : Option Addr} {c : Nat} {xs : List Int} {o o2 : Obj} (h : DrRel w wr g bs p k A c xs) (hg : g < w.heap.size) (hk : Picked (wr.alloc o) w' g bs (p + k)) {x : Int} (hx : 0 ≤ x ∧ x ≤ 2)
    (hgr : (w'.alloc o2).grownBy w4 (Value.slice A k c).ownBlock) {g2 cap : Nat} (hown : w4.ownsRow w.heap.size 3 1 (.slice (some ⟨g2, 0, none⟩) (k + 1) cap) (k + 1) (xs.map (Value.int .i64) ++ [.int .i64 x])) :
    DrRel w w4 g bs p (k + 1) (some ⟨g2, 0, none⟩) cap (xs ++ [x]) := by
  have hlow : ∀ b, b < w.heap.size → w4.heap[b]? = w'.heap[b]? := fun b hb => by
    have h1 := h.only.size
    have h2 := hk.2.size
    simp at h2
    rw [hgr.block b (by simp; omega) (fun e => by have := (h.own.lt b e.symm).1; omega)]
    exact Below.heap_alloc _ _ _ (by omega)
  refine ⟨by simp [h.len], fun y hy => ?_, by simpa using hown, hk.1.same fun b hb => hlow b (by omega), ?_⟩
  · rcases List.mem_append.1 hy with hy | hy
    · exact h.range y hy
    · simp at hy
      subst hy
      exact hx
  · have ho := (h.only.trans (Only.of_below (below1 wr o))).trans hk.2
    exact ⟨hgr.os.trans ho.os, hgr.tape.trans ho.tape, hgr.output.trans ho.output, Nat.le_trans ho.size (Nat.le_trans (by simp) hgr.size), fun b hb hn => (hlow b hb).trans (ho.block b hb hn)⟩

end Go.Proofs.YtfjmnjemmfmoaaaDoor
/-
  Regions that draw their order and end in a store to a cell that they load: the condition on the world holds until operation t has come up, and is released then. Laws of any program.
-/
namespace Go.Proofs.YtfjmnjemmfmoaaaDoor
open Go

section
variable {P : Program} {ops : Array Oper} {Q : Exit → Act → World → Prop} {md : Region.Mode} {S : World → Prop} {t : Nat}

/-- Whatever order is picked from here on, and S holds behind each operation that is carried out, until t has come up. -/
def wpAnyR (P : Program) (md : Region.Mode) (ops : Array Oper) (Q : Exit → Act → World → Prop) (S : World → Prop) (t : Nat) : Nat → Array Bool → Act → World → Prop
  | 0, listed, a, w => Region.ready md ops listed = [] ∧ Q .normal a w
  | fuel + 1, listed, a, w =>
    (Region.ready md ops listed = [] → Q .normal a w) ∧
    ∀ i ∈ Region.ready md ops listed, wpOp P ops Q i (fun a' w' => ((listed.setIfInBounds i true).getD t true = false → S w') ∧ wpAnyR P md ops Q S t fuel (listed.setIfInBounds i true) a' w') a w

theorem wpAny_of_rel : ∀ (fuel : Nat) (listed : Array Bool) (a : Act) (w : World), wpAnyR P md ops Q S t fuel listed a w → wpAny P md ops Q fuel listed a w
  | 0, _, _, _, h => h
  | fuel + 1, _, _, _, h => ⟨h.1, fun i hi => wpOp_mono (fun a' w' h' => wpAny_of_rel fuel _ a' w' h'.2) (h.2 i hi)⟩

/-- None of D has come up, and each waits for i or for one of D. -/
def blockedB (md : Region.Mode) (ops : Array Oper) (listed : Array Bool) (i : Nat) (D : List Nat) : Bool :=
  !D.contains i && D.all fun d => !listed.getD d true && ((ops[d]?).map fun o => o.after.any fun e => Region.binds md e && (e.on == i || D.contains e.on)).getD false

/-- None of D may come up while i has not. -/
theorem not_ready_of_blocked {listed : Array Bool} {i : Nat} {D : List Nat} (h : blockedB md ops listed i D = true) (hi : listed.getD i true = false) {d : Nat} (hd : d ∈ D) : d ∉ Region.ready md ops listed := by
  intro hr
  obtain ⟨_, o, ho, hall⟩ := mem_ready.1 hr
  simp only [blockedB, Bool.and_eq_true, List.all_eq_true] at h
  have h2 := (h.2 d hd).2
  rw [ho] at h2
  simp only [Option.map_some, Option.getD_some, Array.any_eq_true', Bool.and_eq_true, Bool.or_eq_true, beq_iff_eq] at h2
  obtain ⟨e, he, hb, hon⟩ := h2
  have hl := hall e he hb
  have un : ∀ k : Nat, listed.getD k true = false → listed.getD k false = true → False := by
    intro k h1 h2
    rcases Nat.lt_or_ge k listed.size with h' | h'
    · simp [h'] at h1 h2
      rw [h1] at h2
      cases h2
    · simp [Array.getElem?_eq_none h'] at h1
  rcases hon with e1 | e1
  · rw [e1] at hl
    exact un i hi hl
  · have h3 := (h.2 e.on (by simpa using e1)).1
    exact un _ (by simpa using h3) hl

theorem blocked_set {listed : Array Bool} {i j : Nat} {D : List Nat} (h : blockedB md ops listed i D = true) (hj : j ∉ D) : blockedB md ops (listed.setIfInBounds j true) i D = true := by
  simp only [blockedB, Bool.and_eq_true, List.all_eq_true] at h ⊢
  refine ⟨h.1, fun d hd => ?_⟩
  have := h.2 d hd
  refine ⟨?_, this.2⟩
  rw [getD_set_ne true (show j ≠ d from fun e => hj (by rw [e]; exact hd))]
  exact this.1

theorem wpAnyR_first {i : Nat} {oi : Oper} {v : Value} {D : List Nat} (hi : ops[i]? = some oi) (hsel : ∀ (j : Nat) (o : Oper) cs b, ops[j]? = some o → o.op ≠ .select cs b)
    (hQ : ∀ c a w, Q (.panic c) (a.put oi.dst v) w → Q (.panic c) a w) (ht : t ∈ D) :
    ∀ (fuel : Nat) (listed : Array Bool) (a : Act) (w : World),
      (∀ j oj, ops[j]? = some oj → j ≠ i → listed.getD j true = false → (∀ e ∈ oj.after, Region.binds md e = true → e.on ≠ i) → oi.apart ops oj = true) →
      i ∈ Region.ready md ops listed → blockedB md ops listed i D = true → YieldsIf P ops S oi v a → S w →
      wpAnyR P md ops Q S t fuel (listed.setIfInBounds i true) (a.put oi.dst v) w → wpAnyR P md ops Q S t (fuel + 1) listed a w := by
  intro fuel
  induction fuel with
  | zero =>
    intro listed a w _ hr hbl hy hS H
    refine ⟨fun h => (by rw [h] at hr; cases hr), fun j hj => ?_⟩
    by_cases hji : j = i
    · subst hji; exact hy.wpOp hi hS ⟨fun _ => hS, H⟩
    · have := ready_mono hj hji
      rw [H.1] at this
      cases this
  | succ fuel ih =>
    intro listed a w hfree hr hbl hy hS H
    refine ⟨fun h => (by rw [h] at hr; cases hr), fun j hj => ?_⟩
    by_cases hji : j = i
    · subst hji; exact hy.wpOp hi hS ⟨fun _ => hS, H⟩
    · have h1 := H.2 j (ready_mono hj hji)
      have hjD : j ∉ D := fun hd => not_ready_of_blocked hbl (mem_ready.1 hr).1 hd hj
      have hiD : i ∉ D := by
        simp only [blockedB, Bool.and_eq_true] at hbl
        simpa using hbl.1
      have htl : listed.getD t true = false := by
        simp only [blockedB, Bool.and_eq_true, List.all_eq_true] at hbl
        simpa using (hbl.2 t ht).1
      have htl2 : ((listed.setIfInBounds i true).setIfInBounds j true).getD t true = false := by
        rw [getD_set_ne true (show j ≠ t from fun e => hjD (by rw [e]; exact ht)), getD_set_ne true (show i ≠ t from fun e => hiD (by rw [e]; exact ht))]
        exact htl
      obtain ⟨hjun, oj, hoj, hall⟩ := mem_ready.1 hj
      have hnot : ∀ e ∈ oj.after, Region.binds md e = true → e.on ≠ i := fun e he hb heq => by
        have h1 := hall e he hb
        have h0 := (mem_ready.1 hr).1
        rw [heq] at h1
        rcases Nat.lt_or_ge i listed.size with h' | h'
        · simp [h'] at h0 h1; rw [h0] at h1; cases h1
        · simp [Array.getElem?_eq_none h'] at h1
      have h2 := wpOp_putIf hoj (hfree j oj hoj hji hjun hnot) (fun cs b => hsel i oi cs b hi) (fun cs b => hsel j oj cs b hoj) hQ hy h1
      have hfree' : ∀ k ok, ops[k]? = some ok → k ≠ i → (listed.setIfInBounds j true).getD k true = false →
          (∀ e ∈ ok.after, Region.binds md e = true → e.on ≠ i) → oi.apart ops ok = true := fun k ok hk hki hun hno => by
        refine hfree k ok hk hki ?_ hno
        by_cases hjk : j = k
        · subst hjk; exact hjun
        · rw [getD_set_ne true hjk] at hun; exact hun
      refine wpOp_mono (fun a' w' h3 => ⟨fun _ => h3.2.1 htl2, ih (listed.setIfInBounds j true) a' w' hfree' (ready_mono hr (Ne.symm hji)) (blocked_set hbl hjD) h3.1 (h3.2.1 htl2) ?_⟩) h2
      rw [Array.setIfInBounds_comm _ _ hji]
      exact h3.2.2

/-- What waits for i, at once or over others. -/
def descOf (md : Region.Mode) (ops : Array Oper) (i : Nat) : List Nat :=
  (List.range ops.size).foldl (fun D k => if ((ops[k]?).map fun o => o.after.any fun e => Region.binds md e && (e.on == i || D.contains e.on)).getD false then D ++ [k] else D) []
/-- All that is asked of a take, as one Bool. -/
def takeOk (md : Region.Mode) (ops : Array Oper) (listed : Array Bool) (i t : Nat) : Bool :=
  Region.noSelect ops && Region.free md ops listed i && (Region.ready md ops listed).contains i && blockedB md ops listed i (descOf md ops i) && (descOf md ops i).contains t
def pureOk (md : Region.Mode) (ops : Array Oper) (listed : Array Bool) (i : Nat) : Bool :=
  Region.noSelect ops && Region.free md ops listed i && (Region.ready md ops listed).contains i

/-- Take number i first: what it reads holds in every world that meets S, and t waits for it. -/
theorem wpAnyR_take {i d : Nat} {oi : Oper} (v : Value) {fuel : Nat} {listed : Array Bool} {a : Act} {w : World} (hi : ops[i]? = some oi) (hd : oi.dst = some d)
    (hok : takeOk md ops listed i t = true)
    (hQ : ∀ c a w, Q (.panic c) (a.put oi.dst v) w → Q (.panic c) a w) (hw : Region.wanted oi (yielded ops a.tmps) = true) (hy : ∀ w, S w → (execOp a.eval oi).run P w = .ok (.value v) w) (hS : S w)
    (h : wpAnyR P md ops Q S t fuel (listed.setIfInBounds i true) { a with tmps := a.tmps.setIfInBounds d v } w) : wpAnyR P md ops Q S t (fuel + 1) listed a w := by
  have h : wpAnyR P md ops Q S t fuel (listed.setIfInBounds i true) (a.put oi.dst v) w := by rw [hd]; exact h
  simp only [takeOk, Bool.and_eq_true] at hok
  obtain ⟨⟨⟨⟨h1, h2⟩, h3⟩, h4⟩, h5⟩ := hok
  exact wpAnyR_first hi (Region.noSelect_spec h1) hQ (by simpa using h5) fuel listed a w (Region.free_spec hi h2) (by simpa using h3) h4 (.inl ⟨hw, hy⟩) hS h

theorem wpAnyR_first0 {i : Nat} {oi : Oper} {v : Value} (hi : ops[i]? = some oi) (hsel : ∀ (j : Nat) (o : Oper) cs b, ops[j]? = some o → o.op ≠ .select cs b)
    (hQ : ∀ c a w, Q (.panic c) (a.put oi.dst v) w → Q (.panic c) a w) :
    ∀ (fuel : Nat) (listed : Array Bool) (a : Act) (w : World),
      (∀ j oj, ops[j]? = some oj → j ≠ i → listed.getD j true = false → (∀ e ∈ oj.after, Region.binds md e = true → e.on ≠ i) → oi.apart ops oj = true) →
      i ∈ Region.ready md ops listed → YieldsIf P ops (fun _ => True) oi v a → (listed.getD t true = false → S w) → t ≠ i →
      wpAnyR P md ops Q S t fuel (listed.setIfInBounds i true) (a.put oi.dst v) w → wpAnyR P md ops Q S t (fuel + 1) listed a w := by
  intro fuel
  induction fuel with
  | zero =>
    intro listed a w _ hr hy hS hti H
    refine ⟨fun h => (by rw [h] at hr; cases hr), fun j hj => ?_⟩
    by_cases hji : j = i
    · subst hji; exact hy.wpOp hi trivial ⟨fun h => hS (by rwa [getD_set_ne true (Ne.symm hti)] at h), H⟩
    · have := ready_mono hj hji
      rw [H.1] at this
      cases this
  | succ fuel ih =>
    intro listed a w hfree hr hy hS hti H
    refine ⟨fun h => (by rw [h] at hr; cases hr), fun j hj => ?_⟩
    by_cases hji : j = i
    · subst hji; exact hy.wpOp hi trivial ⟨fun h => hS (by rwa [getD_set_ne true (Ne.symm hti)] at h), H⟩
    · have h1 := H.2 j (ready_mono hj hji)
      obtain ⟨hjun, oj, hoj, hall⟩ := mem_ready.1 hj
      have hnot : ∀ e ∈ oj.after, Region.binds md e = true → e.on ≠ i := fun e he hb heq => by
        have h1 := hall e he hb
        have h0 := (mem_ready.1 hr).1
        rw [heq] at h1
        rcases Nat.lt_or_ge i listed.size with h' | h'
        · simp [h'] at h0 h1; rw [h0] at h1; cases h1
        · simp [Array.getElem?_eq_none h'] at h1
      have h2 := wpOp_putIf hoj (hfree j oj hoj hji hjun hnot) (fun cs b => hsel i oi cs b hi) (fun cs b => hsel j oj cs b hoj) hQ hy h1
      have hfree' : ∀ k ok, ops[k]? = some ok → k ≠ i → (listed.setIfInBounds j true).getD k true = false →
          (∀ e ∈ ok.after, Region.binds md e = true → e.on ≠ i) → oi.apart ops ok = true := fun k ok hk hki hun hno => by
        refine hfree k ok hk hki ?_ hno
        by_cases hjk : j = k
        · subst hjk; exact hjun
        · rw [getD_set_ne true hjk] at hun; exact hun
      have hback : ∀ {W : World}, (((listed.setIfInBounds i true).setIfInBounds j true).getD t true = false → S W) → ((listed.setIfInBounds j true).getD t true = false → S W) := fun h hl => h (by
        rw [Array.setIfInBounds_comm _ _ (Ne.symm hji), getD_set_ne true (Ne.symm hti)]
        exact hl)
      refine wpOp_mono (fun a' w' h3 => ⟨hback h3.2.1, ih (listed.setIfInBounds j true) a' w' hfree' (ready_mono hr (Ne.symm hji)) h3.1 (hback h3.2.1) hti ?_⟩) h2
      rw [Array.setIfInBounds_comm _ _ hji]
      exact h3.2.2
/-- Take number i first: it yields its value in whatever world. -/
theorem wpAnyR_pure {i d : Nat} {oi : Oper} (v : Value) {fuel : Nat} {listed : Array Bool} {a : Act} {w : World} (hi : ops[i]? = some oi) (hd : oi.dst = some d)
    (hok : pureOk md ops listed i = true) (hti : t ≠ i)
    (hQ : ∀ c a w, Q (.panic c) (a.put oi.dst v) w → Q (.panic c) a w) (hw : Region.wanted oi (yielded ops a.tmps) = true) (hy : ∀ w, (execOp a.eval oi).run P w = .ok (.value v) w) (hS : listed.getD t true = false → S w)
    (h : wpAnyR P md ops Q S t fuel (listed.setIfInBounds i true) { a with tmps := a.tmps.setIfInBounds d v } w) : wpAnyR P md ops Q S t (fuel + 1) listed a w := by
  have h : wpAnyR P md ops Q S t fuel (listed.setIfInBounds i true) (a.put oi.dst v) w := by rw [hd]; exact h
  simp only [pureOk, Bool.and_eq_true] at hok
  obtain ⟨⟨h1, h2⟩, h3⟩ := hok
  exact wpAnyR_first0 hi (Region.noSelect_spec h1) hQ fuel listed a w (Region.free_spec hi h2) (by simpa using h3) (.inl ⟨hw, fun w _ => hy w⟩) hS hti h

/-- The one that may come up. -/
theorem wpAnyR_one {i : Nat} {o : Oper} {fuel : Nat} {listed : Array Bool} {a : Act} {w : World} (hr : Region.ready md ops listed = [i]) (ho : ops[i]? = some o)
    (h : ∀ K' : Act → World → Prop, Shut (∀ a w, ((listed.setIfInBounds i true).getD t true = false → S w) → wpAnyR P md ops Q S t fuel (listed.setIfInBounds i true) a w → K' a w) → if Region.wanted o (yielded ops a.tmps) = true then Oper.wp P o a w K' Q else K' (a.put o.dst undef) w) :
    wpAnyR P md ops Q S t (fuel + 1) listed a w := by
  refine ⟨fun h0 => (by rw [hr] at h0; cases h0), fun j hj => ?_⟩
  rw [hr] at hj
  obtain rfl : j = i := by simpa using hj
  exact wpOp_step ho (fun K' hK => h K' (fun a w hS hW => hK a w ⟨hS, hW⟩))

/-- The two that may come up. -/
theorem wpAnyR_two {i j : Nat} {oi oj : Oper} {fuel : Nat} {listed : Array Bool} {a : Act} {w : World} (hr : Region.ready md ops listed = [i, j]) (hi : ops[i]? = some oi) (hj : ops[j]? = some oj)
    (h1 : ∀ K' : Act → World → Prop, Shut (∀ a w, ((listed.setIfInBounds i true).getD t true = false → S w) → wpAnyR P md ops Q S t fuel (listed.setIfInBounds i true) a w → K' a w) → if Region.wanted oi (yielded ops a.tmps) = true then Oper.wp P oi a w K' Q else K' (a.put oi.dst undef) w)
    (h2 : ∀ K' : Act → World → Prop, Shut (∀ a w, ((listed.setIfInBounds j true).getD t true = false → S w) → wpAnyR P md ops Q S t fuel (listed.setIfInBounds j true) a w → K' a w) → if Region.wanted oj (yielded ops a.tmps) = true then Oper.wp P oj a w K' Q else K' (a.put oj.dst undef) w) :
    wpAnyR P md ops Q S t (fuel + 1) listed a w := by
  refine ⟨fun h0 => (by rw [hr] at h0; cases h0), fun k hk => ?_⟩
  rw [hr] at hk
  rcases List.mem_cons.1 hk with rfl | hk
  · exact wpOp_step hi (fun K' hK => h1 K' (fun a w hS hW => hK a w ⟨hS, hW⟩))
  · obtain rfl : k = j := by simpa using hk
    exact wpOp_step hj (fun K' hK => h2 K' (fun a w hS hW => hK a w ⟨hS, hW⟩))

theorem wpAnyR_done {fuel : Nat} {listed : Array Bool} {a : Act} {w : World} (hr : Region.ready md ops listed = []) (h : Q .normal a w) : wpAnyR P md ops Q S t fuel listed a w := by
  cases fuel with
  | zero => exact ⟨hr, h⟩
  | succ fuel => exact ⟨fun _ => h, fun j hj => (by rw [hr] at hj; cases hj)⟩

theorem wp_region_rel (S : World → Prop) (t n : Nat) {id : Nat} {a : Act} {w : World} (hm : P.follows .mixedOrders = true) (hn : ops.size = n)
    (h : wpAnyR P .any ops Q S t n (Array.replicate n false) a w.drew) : (Code.region id ops true).wp P Q a w :=
  wp_region_any hm (wpAny_of_rel _ _ _ _ (hn ▸ h))

end
end Go.Proofs.YtfjmnjemmfmoaaaDoor
/-
  A fact drawn.
-/
namespace Go.Proofs.YtfjmnjemmfmoaaaDoor
open Go.RowKit

theorem num3_any (g : Nat) (bs : List Nat) (p b : Nat) (x y z : Int) (w : World) (h : Rdr w g bs p) (hp : p ≤ 1073741824) (hb : Blk w b 3 #[.int .i64 x, .int .i64 y, .int .i64 z]) (hne : b ≠ g) :
    Calls Tryd.prog 94 #[.pointer (some ⟨g, 0, none⟩), .slice (some ⟨b, 0, none⟩) 3 3] w fun e w' => (∃ x, e = .returned (.int .i64 x)) ∧ Picked w w' g bs p :=
  (num_any g bs p b _ [x, y, z] 3 w h hp hb rfl hne rfl (by simp) (by simp)).mono fun _ _ ⟨⟨u, he, _⟩, hk⟩ => ⟨⟨u, he⟩, hk⟩

end Go.Proofs.YtfjmnjemmfmoaaaDoor
/-
  A fact drawn, its arguments in a row of the call's own.
-/
namespace Go.Proofs.YtfjmnjemmfmoaaaDoor
open Go.RowKit

theorem OwnInts.offG {w W : World} {lo hi g : Nat} {v : Value} {xs : List Int} (h : OwnInts w lo hi v xs) (k : Only g (g + 1) w W) (hg : g < lo) : OwnInts W lo hi v xs :=
  h.kept fun b hb => k.block b (h.1.lt b hb).2 (.inr (by have := (h.1.lt b hb).1; omega))
theorem DrRel.ints {w wr : World} {g : Nat} {bs : List Nat} {p k : Nat} {A : Option Addr} {c : Nat} {xs : List Int} (h : DrRel w wr g bs p k A c xs) : OwnInts wr w.heap.size wr.heap.size (.slice A k c) xs :=
  ⟨by rw [h.len]; exact h.own, fun b hb => (h.own.lt b hb).2⟩

end Go.Proofs.YtfjmnjemmfmoaaaDoor
/-
  A row of integers that a draw makes: the words; the walk of l3Draw.
-/
namespace Go.Proofs.YtfjmnjemmfmoaaaDoor
open Go.RowKit

/-- What a draw of integers keeps: the row lies from w on, the reader is read on. -/
structure DrI (w wr : World) (g : Nat) (bs : List Nat) (q : Nat) (A : Option Addr) (c : Nat) (xs : List Int) : Prop where
  own : OwnInts wr w.heap.size wr.heap.size (.slice A xs.length c) xs
  rdr : Rdr wr g bs q
  only : Only g (g + 1) w wr
section
variable {w wr w' w4 : World} {g q : Nat} {bs : List Nat} {A : Option Addr} {c : Nat} {xs : List Int}
theorem DrI.empty (h : Rdr w g bs q) : DrI w (w.alloc (.cells #[] 3)) g bs q (some ⟨w.heap.size, 0, none⟩) 0 [] :=
  ⟨⟨World.ownsRow_made w #[] 0 (Nat.le_refl _) (by decide) rfl, fun b hb => by simp [Value.ownBlock] at hb; subst hb; simp⟩, h.below (below1 _ _) h.lt, Only.of_below (below1 _ _)⟩
theorem DrI.on (h : DrI w wr g bs q A c xs) (hb : Below wr.heap.size wr w') : DrI w w' g bs q A c xs :=
  ⟨(h.own.below hb (Nat.le_refl _)).mono (Nat.le_refl _) hb.size, h.rdr.below hb h.rdr.lt, h.only.trans (Only.of_below hb)⟩
theorem DrI.pick (h : DrI w wr g bs q A c xs) (hg : g < w.heap.size) (hk : Picked wr w' g bs q) : DrI w w' g bs (q + 1) A c xs :=
  ⟨(h.own.only hk.2 (.inr (by omega))).mono (Nat.le_refl _) hk.2.size, hk.1, h.only.trans hk.2⟩
theorem DrI.low (h : DrI w wr g bs q A c xs) (hg : wr.grownBy w' (Value.slice A xs.length c).ownBlock) : ∀ b, b < w.heap.size → w'.heap[b]? = wr.heap[b]? := fun b hb =>
  hg.block b (by have := h.only.size; omega) (fun e => by have := (h.own.lt e.symm).1; omega)
theorem DrI.push {g2 cap : Nat} {x : Int} {o : Obj} (h : DrI w wr g bs q A c xs) (hgw : g < w.heap.size) (hg : (wr.alloc o).grownBy w4 (Value.slice A xs.length c).ownBlock)
    (hown : w4.ownsRow w.heap.size 3 1 (.slice (some ⟨g2, 0, none⟩) (xs.length + 1) cap) (xs.length + 1) (xs.map (Value.int .i64) ++ [.int .i64 x])) : DrI w w4 g bs q (some ⟨g2, 0, none⟩) cap (xs ++ [x]) := by
  have hg2 := grown_from_alloc hg
  have hlow := h.low hg2
  have hl : (xs ++ [x]).length = xs.length + 1 := by simp
  refine ⟨?_, h.rdr.same fun k hk => hlow k (by omega), ?_⟩
  · rw [hl]
    exact ⟨by simpa using hown, fun b hb => (hown.lt b hb).2⟩
  · exact ⟨hg2.os.trans h.only.os, hg2.tape.trans h.only.tape, hg2.output.trans h.only.output, Nat.le_trans h.only.size hg2.size, fun b hb hn => (hlow b hb).trans (h.only.block b hb hn)⟩
theorem DrI.form (h : DrI w wr g bs q A c xs) (hn : 0 < xs.length) : ∃ b, A = some ⟨b, 0, none⟩ ∧ w.heap.size ≤ b := by
  rcases h.own.1.2 with ⟨e, h0⟩ | ⟨b, cap, cur, e, hb, _⟩
  · omega
  · injection e with e _ _
    exact ⟨b, e, hb⟩
theorem DrI.cap (h : DrI w wr g bs q A c xs) : xs.length ≤ c := by
  obtain ⟨A', c', e, hc, _⟩ := h.own.rd
  injection e with _ _ e
  omega
theorem DrI.cell {b : Nat} (h : DrI w wr g bs q (some ⟨b, 0, none⟩) c xs) {j : Nat} (hj : j < xs.length) : wr.cell? ⟨b, j, none⟩ = some (.int .i64 xs[j]) ∧ wr.frozen? ⟨b, j, none⟩ = false := by
  refine ⟨?_, h.own.1.frozenAt j⟩
  rw [h.own.1.cellAt j (by omega)]
  simp [hj]
theorem DrI.set {b : Nat} (h : DrI w wr g bs q (some ⟨b, 0, none⟩) c xs) (hgw : g < w.heap.size) {j : Nat} (hj : j < xs.length) (x : Int) : DrI w (wr.setCell ⟨b, j, none⟩ (.int .i64 x)) g bs q (some ⟨b, 0, none⟩) c (xs.set j x) := by
  have hb := (h.own.lt (g := b) rfl)
  refine ⟨?_, h.rdr.same fun k hk => Below.heap_setCell _ _ _ _ (by show k ≠ b; omega), ⟨h.only.os, h.only.tape, h.only.output, by simpa using h.only.size, fun k hk hn => (Below.heap_setCell _ _ _ _ (by show k ≠ b; omega)).trans (h.only.block k hk hn)⟩⟩
  have := h.own.store rfl hj x
  simpa using this
theorem DrI.take {b n : Nat} (h : DrI w wr g bs q (some ⟨b, 0, none⟩) c xs) (hn : n ≤ xs.length) : DrI w wr g bs q (some ⟨b, 0, none⟩) c (xs.take n) := by
  refine ⟨?_, h.rdr, h.only⟩
  have hl : (xs.take n).length = n := by rw [List.length_take]; omega
  rw [hl]
  refine ⟨⟨by first | (simp; done) | (simp; omega), .inr ?_⟩, h.own.2⟩
  rcases h.own.1.2 with ⟨e, _⟩ | ⟨b', cap, cur, e, hb, hg, hnc, hcm, hcs, ht⟩
  · cases e
  · injection e with e1 e2 e3
    injection e1 with e1
    injection e1 with e1 _ _
    subst e1
    subst e3
    refine ⟨b, c, cur, by rw [hl], hb, hg, by omega, hcm, hcs, ?_⟩
    rw [hl]
    have := congrArg (List.take n) ht
    rw [List.take_take] at this
    simp only [Nat.mul_one] at this ⊢
    rw [show min n xs.length = n by omega] at this
    rw [this, List.map_take]
theorem DrI.same (h : DrI w wr g bs q A c xs) : RdInts wr wr.heap.size (.slice A xs.length c) xs := h.own.rd
end

end Go.Proofs.YtfjmnjemmfmoaaaDoor
