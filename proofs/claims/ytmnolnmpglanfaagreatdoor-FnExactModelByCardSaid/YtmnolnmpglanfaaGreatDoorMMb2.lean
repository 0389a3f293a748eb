/-
  Texts that the claim's last one imports, laid together: part 2 of 15. No condition of its own.
-/
import Derived.Maps.AppendAt
import Derived.Deep.AppendLies
import Derived.StillTailTactics
import Derived.Deep.QuietTactic
import Derived.BigQuiet
import Derived.Deep.Quiet
import Derived.Laws.BitsAllLaws
import Derived.Shelf.Spec.TrailingZeros
import Derived.Laws.Bits64b
import Derived.Test.YtmnolnmpglanfaaGreatDoorRows
import Derived.Stop.LaidErr
import Derived.Lib.LaidTab
import Derived.MakeChecks
import Derived.Test.YtmnolnmpglanfaaGreatDoorChecked
import Derived.Deep.SlicePairs
import Derived.ProofKit
import Derived.OpenShut
import Derived.ChangeOld
import Derived.WalkKit
import Derived.Deep.Slices
import Derived.Deep.Fields
import Derived.ChangeSame
import Derived.Lib.SmallJoins
import Derived.KernelRfl
import Derived.RegionTactic
import Derived.Deep.RegionLaw
import Derived.Deep.RegionHeld3
import Derived.Deep.DeepCutAuto
import Derived.Test.YtmnolnmpglanfaaGreatDoorMMb1
namespace Go.Proofs.YtmnolnmpglanfaaGreatDoor
open Go.RowKit
structure Marked (lo hi : Nat) (w w' : World) : Prop where
 only : Only lo hi w w'
 cell : ∀ p : Addr, p.block < w.heap.size -> w'.cell? p = w.cell? p \/ ∃ x y, w.cell? p = some (.int .i64 x) /\ w'.cell? p = some (.int .i64 y)
 frozen : ∀ p : Addr, p.block < w.heap.size -> w'.frozen? p = w.frozen? p
section
variable {lo hi : Nat} {w w1 w' : World}
theorem Marked.refl (lo hi : Nat) (w : World) : Marked lo hi w w := ⟨Only.refl _ _ _, fun _ _ => .inl rfl, fun _ _ => rfl⟩
theorem Marked.trans (h : Marked lo hi w w1) (k : Marked lo hi w1 w') : Marked lo hi w w' := by
 refine ⟨h.only.trans k.only, fun p hp => ?_, fun p hp => (k.frozen p (Nat.lt_of_lt_of_le hp h.only.size)).trans (h.frozen p hp)⟩
 rcases h.cell p hp with e | ⟨x, y, e1, e2⟩
 ·rcases k.cell p (Nat.lt_of_lt_of_le hp h.only.size) with e' | ⟨x', y', e1', e2'⟩
  ·exact .inl (e'.trans e)
  ·exact .inr ⟨x', y', e ▸ e1', e2'⟩
 ·rcases k.cell p (Nat.lt_of_lt_of_le hp h.only.size) with e' | ⟨x', y', e1', e2'⟩
  ·exact .inr ⟨x, y, e1, e'.trans e2⟩
  ·exact .inr ⟨x, y', e1, e2'⟩
theorem Marked.of_below (h : Below w.heap.size w w') : Marked lo hi w w' := ⟨Only.of_below h, fun _ hp => .inl (h.cell hp), fun _ hp => h.frozen hp⟩
theorem Marked.store {p : Addr} {x : Int} (hp : lo <= p.block /\ p.block < hi) (hc : w.cell? p = some (.int .i64 x)) (y : Int) : Marked lo hi w (w.setCell p (.int .i64 y)) := by
 refine ⟨(Only.refl _ _ _).setCell hp _, fun q _ => ?_, fun q _ => ?_⟩
 ·by_cases e : q = p
  ·subst e
   exact .inr ⟨x, y, hc, World.cell?_setCell_same _ _ _ hc⟩
  ·exact .inl (World.cell?_setCell_other _ _ _ _ (fun e' => e e'.symm))
 ·unfold World.frozen? World.setCell
  rw [Array.getElem?_modify]
  by_cases e : p.block = q.block
  ·rw [if_pos e]
   cases hq : w.heap[q.block]? with
   | none => rfl
   | some o => cases o <;> rfl
  ·rw [if_neg e]
def WrInts (w : World) (lo hi : Nat) (v : Value) (n : Nat) : Prop :=
 ∃ A c, v = .slice A n c /\ (0 < n -> ∃ b o, A = some ⟨b, o, none⟩ /\ lo <= b /\ b < hi /\ ∀ k, k < n -> w.frozen? ⟨b, o + k, none⟩ = false /\ ∃ x, w.cell? ⟨b, o + k, none⟩ = some (.int .i64 x))
theorem Marked.int (h : Marked lo hi w w') {p : Addr} {x : Int} (hc : w.cell? p = some (.int .i64 x)) : ∃ y, w'.cell? p = some (.int .i64 y) := by
 rcases h.cell p (World.block_lt_of_cell? _ _ hc) with e | ⟨_, y, _, e⟩
 ·exact ⟨x, e.trans hc⟩
 ·exact ⟨y, e⟩
theorem Marked.slice (h : Marked lo hi w w') {p : Addr} {A : Option Addr} {n c : Nat} (hc : w.cell? p = some (.slice A n c)) : w'.cell? p = some (.slice A n c) := by
 rcases h.cell p (World.block_lt_of_cell? _ _ hc) with e | ⟨x, y, e, _⟩
 ·exact e.trans hc
 ·rw [hc] at e
  cases e
theorem WrInts.marked {v : Value} {n : Nat} (h : WrInts w lo hi v n) (hm : Marked lo hi w w') : WrInts w' lo hi v n := by
 obtain ⟨A, c, rfl, h⟩ := h
 refine ⟨A, c, rfl, fun hn => ?_⟩
 obtain ⟨b, o, rfl, h1, h2, hx⟩ := h hn
 refine ⟨b, o, rfl, h1, h2, fun k hk => ?_⟩
 obtain ⟨hf, x, hc⟩ := hx k hk
 exact ⟨(hm.frozen _ (World.block_lt_of_cell? _ _ hc)).trans hf, hm.int hc⟩
theorem OwnInts.wr {v : Value} {xs : List Int} (h : OwnInts w lo hi v xs) : WrInts w lo hi v xs.length := by
 have hrd := h.rd
 obtain ⟨⟨hlen, h⟩, hlt⟩ := h
 rcases h with ⟨rfl, h0⟩ | ⟨g, cap, cur, rfl, hbg, hg, hn, hm, hs, ht⟩
 ·exact ⟨none, 0, by rw [h0], fun hn => absurd hn (by omega)⟩
 ·refine ⟨_, cap, rfl, fun hn0 => ⟨g, 0, rfl, hbg, hlt g rfl, fun k hk => ⟨by simp [World.frozen?, hg], ?_⟩⟩⟩
  obtain ⟨A', c', e, _, hx⟩ := hrd
  injection e with e1 _ _
  obtain ⟨b, o, e2, _, hx⟩ := hx hn0
  rw [<- e1] at e2
  injection e2 with e2
  injection e2 with e2 e3 _
  subst e2
  subst e3
  exact ⟨_, hx k hk⟩
def WLit (w : World) (lo hi : Nat) (u0 u1 u2 : Value) (l : LLit) : Prop := (∃ x, u0 = .int .i64 x) /\ (∃ y, u1 = .int .i64 y) /\ WrInts w lo hi u2 l.2.2.length
def WrLits (w : World) (lo hi : Nat) (v : Value) (ls : List LLit) : Prop := OwnRow WLit w lo hi v ls
theorem OwnLits.wr {v : Value} {ls : List LLit} (h : OwnLits w lo hi v ls) : WrLits w lo hi v ls := by
 obtain ⟨A, c, rfl, hc, h⟩ := h
 refine ⟨A, c, rfl, hc, fun hn => ?_⟩
 obtain ⟨b, o, rfl, h1, h2, hx⟩ := h hn
 refine ⟨b, o, rfl, h1, h2, fun k hk => ?_⟩
 obtain ⟨hf, u0, u1, u2, c0, c1, c2, rfl, rfl, hI⟩ := hx k hk
 exact ⟨hf, _, _, _, c0, c1, c2, ⟨_, rfl⟩, ⟨_, rfl⟩, hI.wr⟩
theorem WrLits.marked {v : Value} {ls : List LLit} (h : WrLits w lo hi v ls) (hm : Marked lo hi w w') : WrLits w' lo hi v ls := by
 obtain ⟨A, c, rfl, hc, h⟩ := h
 refine ⟨A, c, rfl, hc, fun hn => ?_⟩
 obtain ⟨b, o, rfl, h1, h2, hx⟩ := h hn
 refine ⟨b, o, rfl, h1, h2, fun k hk => ?_⟩
 obtain ⟨⟨f0, f1⟩, u0, u1, u2, c0, c1, c2, ⟨x, rfl⟩, ⟨y, rfl⟩, hI⟩ := hx k hk
 obtain ⟨x', d0⟩ := hm.int c0
 obtain ⟨y', d1⟩ := hm.int c1
 obtain ⟨A2, c2', rfl, hi⟩ := hI
 exact ⟨⟨(hm.frozen _ (World.block_lt_of_cell? _ _ c0)).trans f0, (hm.frozen _ (World.block_lt_of_cell? _ _ c1)).trans f1⟩, _, _, _, d0, d1, hm.slice c2, ⟨_, rfl⟩, ⟨_, rfl⟩, WrInts.marked ⟨A2, c2', rfl, hi⟩ hm⟩
def WRule (w : World) (lo hi : Nat) (u0 u1 u2 : Value) (r : LRule) : Prop := (∃ x, u0 = .int .i64 x) /\ WrInts w lo hi u1 r.1.2.length /\ WrLits w lo hi u2 r.2
def WrRules (w : World) (lo hi : Nat) (v : Value) (rs : List LRule) : Prop := OwnRow WRule w lo hi v rs
theorem OwnRules.wr {v : Value} {rs : List LRule} (h : OwnRules w lo hi v rs) : WrRules w lo hi v rs := by
 obtain ⟨A, c, rfl, hc, h⟩ := h
 refine ⟨A, c, rfl, hc, fun hn => ?_⟩
 obtain ⟨b, o, rfl, h1, h2, hx⟩ := h hn
 refine ⟨b, o, rfl, h1, h2, fun k hk => ?_⟩
 obtain ⟨hf, u0, u1, u2, c0, c1, c2, rfl, hI, hL⟩ := hx k hk
 exact ⟨hf, _, _, _, c0, c1, c2, ⟨_, rfl⟩, hI.wr, hL.wr⟩
theorem WrRules.marked {v : Value} {rs : List LRule} (h : WrRules w lo hi v rs) (hm : Marked lo hi w w') : WrRules w' lo hi v rs := by
 obtain ⟨A, c, rfl, hc, h⟩ := h
 refine ⟨A, c, rfl, hc, fun hn => ?_⟩
 obtain ⟨b, o, rfl, h1, h2, hx⟩ := h hn
 refine ⟨b, o, rfl, h1, h2, fun k hk => ?_⟩
 obtain ⟨⟨f0, f1⟩, u0, u1, u2, c0, c1, c2, ⟨x, rfl⟩, hI, hL⟩ := hx k hk
 obtain ⟨x', d0⟩ := hm.int c0
 have f1' := (hm.frozen _ (World.block_lt_of_cell? _ _ c1)).trans f1
 obtain ⟨A1, n1, rfl, hi1⟩ := hI
 obtain ⟨A2, n2, rfl, hc2, hi2⟩ := hL
 exact ⟨⟨(hm.frozen _ (World.block_lt_of_cell? _ _ c0)).trans f0, f1'⟩, _, _, _, d0, hm.slice c1, hm.slice c2, ⟨_, rfl⟩, WrInts.marked ⟨A1, n1, rfl, hi1⟩ hm, WrLits.marked ⟨A2, n2, rfl, hc2, hi2⟩ hm⟩
end
set_option maxHeartbeats 400000 in
theorem wmarkIntS_any (v : Value) (n : Nat) (k : Int) (lo hi : Nat) (w : World) (h : WrInts w lo hi v n) (hk0 : 0 <= k) (hk : k + n <= 4611686018427387904) :
 Calls Tryz.prog 29 #[v, .int .i64 k] w fun e w' => e = .returned (.int .i64 (k + n)) /\ Marked lo hi w w' := by
 have H := Lib.hid h
 obtain ⟨A, c, rfl, _⟩ := h
 go_enter Tryz.func29, Tryz.ntmps29
 go_wp2_with (fail)
 go_loopw [1, 5] (fun m i wr => ∃ j : Nat, j <= n /\ i = .int .i64 j /\ m = .int .i64 (k + j) /\ Marked lo hi w wr) (fun _ i _ => n - (intOf i).toNat)
 case atStart => exact ⟨0, Nat.zero_le _, rfl, by simp, Marked.refl _ _ _⟩
 case round =>
  obtain ⟨j, hj, rfl, rfl, hm⟩ := hrel
  by_cases hlt : j < n
  ·obtain ⟨A', c', e, hx⟩ := H.out.marked hm
   injection e with e1 _ _
   subst e1
   obtain ⟨b, o, rfl, h1, h2, hx⟩ := hx (by omega)
   obtain ⟨hf, x, hc⟩ := hx j hlt
   have HM := Lib.hid (hm.trans (Marked.store (p := ⟨b, o + j, none⟩) ⟨h1, h2⟩ hc (k + j)))
   clear hx
   go_wp2_with (fail)
   go_roundw
   case rel => exact ⟨j + 1, by omega, by go_num, by go_num, HM.out⟩
   case measure => simp [intOf]; omega
  ·have hkn : j = n := by omega
   have HK := Lib.hid (show k + (j : Int) = k + n by rw [hkn])
   clear hkn
   go_wp2_with (fail)
   go_ret
   exact ⟨ret_int HK.out, hm⟩
def endL (k : Int) (ls : List LLit) : Int := k + 2 * (ls.length : Int) + (totL ls : Int)
set_option maxHeartbeats 1000000 in
set_option maxRecDepth 100000 in
theorem wmarkLitS_any (v : Value) (ls : List LLit) (k : Int) (lo hi : Nat) (w : World) (h : WrLits w lo hi v ls) (hk0 : 0 <= k) (hk : k <= 4294967296) (hn : ls.length <= 1073741824) (ht : totL ls <= 1073741824) :
 Calls Tryz.prog 105 #[v, .int .i64 k] w fun e w' => e = .returned (.int .i64 (endL k ls)) /\ Marked lo hi w w' := by
 have H := Lib.hid h
 obtain ⟨A, c, rfl, _⟩ := h
 go_enter Tryz.func105, Tryz.ntmps105
 go_wp2_with (fail)
 go_loopw [1, 5] (fun m i wr => ∃ (j : Nat) (q : Int), j <= ls.length /\ i = .int .i64 j /\ m = .int .i64 q /\ q = k + 2 * (j : Int) + (totL (ls.take j) : Int) /\ Marked lo hi w wr) (fun _ i _ => ls.length - (intOf i).toNat)
 case atStart => exact ⟨0, k, Nat.zero_le _, rfl, rfl, by simp [totL], Marked.refl _ _ _⟩
 case round =>
  obtain ⟨j, q, hj, rfl, rfl, hq, hm⟩ := hrel
  by_cases hlt : j < ls.length
  ·obtain ⟨A', c', e, _, hx⟩ := H.out.marked hm
   injection e with e1 _ e3
   subst e1
   subst e3
   obtain ⟨b, o, rfl, h1, h2, hx⟩ := hx (by omega)
   obtain ⟨⟨f0, f1⟩, u0, u1, u2, c0, c1, c2, ⟨x, rfl⟩, ⟨y, rfl⟩, hI⟩ := hx j hlt
   have m0 := Marked.store (p := ⟨b, o + j * 3, none⟩) ⟨h1, h2⟩ c0 q
   obtain ⟨y', c1'⟩ := m0.int c1
   have f1' := (m0.frozen ⟨b, o + j * 3 + 1, none⟩ (World.block_lt_of_cell? _ _ c1)).trans f1
   have m1 := Marked.store (p := ⟨b, o + j * 3 + 1, none⟩) ⟨h1, h2⟩ c1' (q + 1)
   have hI2 := hI.marked (m0.trans m1)
   obtain ⟨A3, c3, rfl, _⟩ := hI
   have c2' := (m0.trans m1).slice c2
   have htk := totL_take ls j hlt
   have hle := sum_at (fun l : LLit => l.2.2.length) ls j hlt
   have htl : totL (ls.take j) <= totL ls := by
    have := congrArg (fun l => (l.map (fun l : LLit => l.2.2.length)).sum) (List.take_append_drop j ls)
    simp only [List.map_append, List.sum_append] at this
    unfold totL
    omega
   have hle2 : ls[j].2.2.length <= totL ls := hle
   clear hle
   have hq0 : 0 <= q := by omega
   have hq1 : q <= 8589934592 := by omega
   have HI := Lib.hid hI2
   have HM := Lib.hid (hm.trans (m0.trans m1))
   have HQ := Lib.hid (show q + 1 + 1 + (ls[j].2.2.length : Int) = k + 2 * ((j + 1 : Nat) : Int) + (totL (ls.take (j + 1)) : Int) by rw [htk]; omega)
   clear hx m0 m1 hI2 htk htl hq
   go_wp2_with (fail)
   refine (wmarkIntS_any _ _ (q + 1 + 1) lo hi _ HI.out (by omega) (by omega)).mono ?_
   rintro e w3 ⟨rfl, hm3⟩
   have HM3 := Lib.hid (HM.out.trans hm3)
   go_wp2_with (fail)
   go_roundw
   case rel => exact ⟨j + 1, _, by omega, by go_num, rfl, HQ.out, HM3.out⟩
   case measure => simp [intOf]; omega
  ·have hkn : j = ls.length := by omega
   have HK := Lib.hid (show q = endL k ls by rw [hq, hkn, List.take_length]; rfl)
   clear hkn hq
   go_wp2_with (fail)
   go_ret
   exact ⟨ret_int HK.out, hm⟩
def endR (k : Int) (r : LRule) : Int := endL (k + (r.1.2.length : Int)) r.2
open Go.RowKit
open Go.RowKit
def termOk (x : Int) : Bool := decide (-4 <= x /\ x <= 5)
def isVarB (x : Int) : Bool := decide (-4 <= x /\ x <= -1)
def AllTo {α : Type} (p : α -> Bool) (xs : List α) (k : Nat) : Prop := (xs.take k).all p = true
theorem AllTo.start {α : Type} {p : α -> Bool} {xs : List α} : AllTo p xs 0 := by simp [AllTo]
theorem AllTo.step {α : Type} {p : α -> Bool} {xs : List α} {k : Nat} (h : AllTo p xs k) (hk : k < xs.length) (e : p xs[k] = true) : AllTo p xs (k + 1) := by
 unfold AllTo at h ⊢
 rw [take_snoc xs k hk, List.all_append, h]
 simp [e]
theorem AllTo.done {α : Type} {p : α -> Bool} {xs : List α} {k : Nat} (h : AllTo p xs k) (hk : k = xs.length) : xs.all p = true := by
 unfold AllTo at h
 rwa [hk, List.take_length] at h
theorem all_not {α : Type} {p : α -> Bool} {xs : List α} {k : Nat} (hk : k < xs.length) (e : p xs[k] = false) : xs.all p = false := by
 rw [List.all_eq_false]
 exact ⟨xs[k], List.getElem_mem hk, by simp [e]⟩
theorem varTerm_any (n : Int) (h0 : 0 <= n) (h1 : n <= 1000) (w : World) : Calls Tryz.prog 261 #[.int .i64 n] w fun e w' => e = .returned (.int .i64 (-1 - n)) /\ w = w' := by
 go_enter Tryz.func261, Tryz.ntmps261
 go_wp2
 go_ret
 exact ⟨rfl, rfl⟩
theorem varNumber_any (n : Int) (h0 : -4 <= n) (h1 : n <= -1) (w : World) : Calls Tryz.prog 179 #[.int .i64 n] w fun e w' => e = .returned (.int .i64 (-1 - n)) /\ w = w' := by
 go_enter Tryz.func179, Tryz.ntmps179
 go_wp2
 go_ret
 exact ⟨rfl, rfl⟩
theorem isVar_any (n : Int) (w : World) : Calls Tryz.prog 225 #[.int .i64 n] w fun e w' => e = .returned (.bool (isVarB n)) /\ w = w' := by
 by_cases h1 : n < 0
 ·have hd : decide (n < 0) = true := by simpa using h1
  by_cases h2 : -4 <= n
  ·have HE := Lib.hid (show isVarB n = true by simp [isVarB]; omega)
   go_enter Tryz.func225, Tryz.ntmps225
   go_wp2_with (go_at_call 261; refine (varTerm_any 3 (by omega) (by omega) _).mono ?_; rintro e w' ⟨rfl, rfl⟩)
   go_ret
   exact ⟨ret_bool HE.out.symm, rfl⟩
  ·have HE := Lib.hid (show isVarB n = false by simp [isVarB]; omega)
   go_enter Tryz.func225, Tryz.ntmps225
   go_wp2_with (go_at_call 261; refine (varTerm_any 3 (by omega) (by omega) _).mono ?_; rintro e w' ⟨rfl, rfl⟩)
   go_ret
   exact ⟨ret_bool (by rw [HE.out]; simp; omega), rfl⟩
 ·have hd : decide (n < 0) = false := by simpa using h1
  have HE := Lib.hid (show isVarB n = false by simp [isVarB]; omega)
  go_enter Tryz.func225, Tryz.ntmps225
  go_wp2_with (fail)
  go_ret
  exact ⟨ret_bool HE.out.symm, rfl⟩
theorem isVar_is {n : Int} {b : Bool} (h : isVarB n = b) (w : World) : Calls Tryz.prog 225 #[.int .i64 n] w fun e w' => e = .returned (.bool b) /\ w = w' := h ▸ isVar_any n w
open Go.RowKit
def Later (w0 : World) : Type := { W : World // Below w0.heap.size w0 W }
instance (w0 : World) : Nonempty (Later w0) := ⟨⟨w0, Below.refl _ _⟩⟩
theorem wp_region_later {P : Program} {id : Nat} {Q : Exit -> Act -> World -> Prop} {a : Act} {w0 : World} {l : List Oper} (hm : P.follows .mixedOrders = true) (hB : Region.lexB .any l.toArray = true)
 (h : wpQuiet P l.toArray (fun w' => ∃ x : Later w0, w' = x.val) (fun a' => ∀ w', (∃ x : Later w0, w' = x.val) -> Q .normal a' w') l a) : (Code.region id l.toArray true).wp P Q a w0 :=
 wp_region_quiet (C := fun w' => ∃ x : Later w0, w' = x.val) hm hB ⟨⟨_, (Below.refl _ _).drew⟩, rfl⟩ (by simpa using h)
theorem later_cell {w0 : World} {a : Addr} {v : Value} (h : w0.cell? a = some v) (x : Later w0) : x.val.cell? a = some v := (x.2.cell (World.block_lt_of_cell? _ _ h)).trans h
theorem later_of {P : Program} {f : FuncId} {args : Array Value} {w0 : World} {x : Later w0} {v : Value} (h : Calls P f args x.val fun e w' => e = .returned v /\ Below x.val.heap.size x.val w') :
 Calls P f args x.val fun e w'' => e = .returned v /\ ∃ y : Later w0, w'' = y.val :=
 h.mono fun _ w' ⟨he, hb⟩ => ⟨he, ⟨w', bthen x.2 hb⟩, rfl⟩
theorem later_same {P : Program} {f : FuncId} {args : Array Value} {w0 : World} {x : Later w0} {v : Value} (h : Calls P f args x.val fun e w' => e = .returned v /\ x.val = w') :
 Calls P f args x.val fun e w'' => e = .returned v /\ ∃ y : Later w0, w'' = y.val :=
 h.mono fun _ _ ⟨he, hb⟩ => ⟨he, x, hb.symm⟩
open Go.RowKit
def orV (m : Nat) (t : Int) : Nat := if isVarB t then m ||| 2 ^ (-1 - t).toNat else m
def maskFrom (m : Nat) (xs : List Int) : Nat := xs.foldl orV m
def maskOf (xs : List Int) : Nat := maskFrom 0 xs
def bodyMask (ls : List LLit) : Nat := ls.foldl (fun m l => m ||| maskOf l.2.2) 0
def yesMask (ls : List LLit) : Nat := ls.foldl (fun m l => if l.1 = 0 then m ||| maskOf l.2.2 else m) 0
def ruleMask (r : LRule) : Nat := maskOf r.1.2 ||| bodyMask r.2
theorem orV_or (a b : Nat) (t : Int) : orV (a ||| b) t = a ||| orV b t := by
 unfold orV
 split
 ·rw [Nat.or_assoc]
 ·rfl
theorem maskFrom_or (a b : Nat) : ∀ xs : List Int, maskFrom (a ||| b) xs = a ||| maskFrom b xs
 | [] => rfl
 | t :: xs => by
  show maskFrom (orV (a ||| b) t) xs = a ||| maskFrom (orV b t) xs
  rw [orV_or, maskFrom_or a (orV b t) xs]
theorem maskFrom_eq (a : Nat) (xs : List Int) : maskFrom a xs = a ||| maskOf xs := by
 have := maskFrom_or a 0 xs
 rwa [Nat.or_zero] at this
theorem or_lt16 {a b : Nat} (ha : a < 16) (hb : b < 16) : a ||| b < 16 := Nat.or_lt_two_pow (n := 4) ha hb
theorem pow_var_lt {t : Int} (h : isVarB t = true) : 2 ^ (-1 - t).toNat < 16 := by
 have h4 : (-1 - t).toNat < 4 := by simp [isVarB] at h; omega
 exact Nat.pow_lt_pow_right (by omega) h4
theorem orV_lt {m : Nat} {t : Int} (hm : m < 16) : orV m t < 16 := by
 unfold orV
 split
 ·rename_i h
  exact or_lt16 hm (pow_var_lt h)
 ·exact hm
theorem maskFrom_lt : ∀ (xs : List Int) {m : Nat}, m < 16 -> maskFrom m xs < 16
 | [], _, h => h
 | _ :: xs, _, h => maskFrom_lt xs (orV_lt h)
theorem maskOf_lt (xs : List Int) : maskOf xs < 16 := maskFrom_lt xs (by omega)
theorem maskOf_take {xs : List Int} {k : Nat} (h : k < xs.length) : maskOf (xs.take (k + 1)) = orV (maskOf (xs.take k)) xs[k] := by
 unfold maskOf maskFrom
 rw [take_snoc xs k h, List.foldl_append]
 rfl
theorem bodyMask_take {ls : List LLit} {k : Nat} (h : k < ls.length) : bodyMask (ls.take (k + 1)) = bodyMask (ls.take k) ||| maskOf ls[k].2.2 := by
 unfold bodyMask
 rw [take_snoc ls k h, List.foldl_append]
 rfl
theorem yesMask_take {ls : List LLit} {k : Nat} (h : k < ls.length) : yesMask (ls.take (k + 1)) = if ls[k].1 = 0 then yesMask (ls.take k) ||| maskOf ls[k].2.2 else yesMask (ls.take k) := by
 unfold yesMask
 rw [take_snoc ls k h, List.foldl_append]
 rfl
theorem bodyMask_lt : ∀ (n : Nat) (ls : List LLit), n <= ls.length -> bodyMask (ls.take n) < 16
 | 0, _, _ => by simp [bodyMask]
 | n + 1, ls, h => by
  rw [bodyMask_take (by omega)]
  exact or_lt16 (bodyMask_lt n ls (by omega)) (maskOf_lt _)
theorem yesMask_lt : ∀ (n : Nat) (ls : List LLit), n <= ls.length -> yesMask (ls.take n) < 16
 | 0, _, _ => by simp [yesMask]
 | n + 1, ls, h => by
  rw [yesMask_take (by omega)]
  split
  ·exact or_lt16 (yesMask_lt n ls (by omega)) (maskOf_lt _)
  ·exact yesMask_lt n ls (by omega)
theorem bodyMask_lt' (ls : List LLit) : bodyMask ls < 16 := by
 have := bodyMask_lt ls.length ls (Nat.le_refl _)
 rwa [List.take_length] at this
theorem yesMask_lt' (ls : List LLit) : yesMask ls < 16 := by
 have := yesMask_lt ls.length ls (Nat.le_refl _)
 rwa [List.take_length] at this
theorem ruleMask_lt (r : LRule) : ruleMask r < 16 := or_lt16 (maskOf_lt _) (bodyMask_lt' _)
theorem or_word {a b : Nat} (ha : a < 16) (hb : b < 16) : bits .or .u64 (a : Int) (b : Int) = ((a ||| b : Nat) : Int) := u64_or_nat a b (by omega) (by omega)
theorem orV_word {m : Nat} {t : Int} (hm : m < 16) (h : isVarB t = true) : bits .or .u64 (m : Int) (IntKind.u64.wrap (1 * 2 ^ (-1 - t).toNat)) = ((orV m t : Nat) : Int) := by
 have h4 : (-1 - t).toNat < 4 := by simp [isVarB] at h; omega
 have hw : IntKind.u64.wrap (1 * 2 ^ (-1 - t).toNat) = ((2 ^ (-1 - t).toNat : Nat) : Int) := by
  generalize (-1 - t).toNat = n at h4
  match n, h4 with
  | 0, _ => rfl
  | 1, _ => rfl
  | 2, _ => rfl
  | 3, _ => rfl
 rw [hw, or_word hm (pow_var_lt h)]
 simp [orV, h]
set_option maxHeartbeats 400000 in
theorem argVars_any (v : Value) (xs : List Int) (B : Nat) (w : World) (h : RdInts w B v xs) (hr : xs.length <= 1048576) :
 Calls Tryz.prog 265 #[v] w fun e w' => e = .returned (.int .u64 (maskOf xs : Nat)) /\ w = w' := by
 obtain ⟨A, c, rfl, hc, ha⟩ := h
 go_enter Tryz.func265, Tryz.ntmps265
 go_wp2_with (fail)
 go_loop [3, 5, 8] (fun m _ i => ∃ (k : Nat) (z : Int), k <= xs.length /\ i = .int .i64 k /\ m = .int .u64 z /\ z = (maskOf (xs.take k) : Nat)) (fun _ _ i => xs.length - (intOf i).toNat)
 case atStart => exact ⟨0, 0, Nat.zero_le _, rfl, rfl, rfl⟩
 case round =>
  obtain ⟨k, z, hk, rfl, rfl, hz⟩ := hrel
  by_cases hlt : k < xs.length
  ·obtain ⟨b, o, rfl, hbB, hx⟩ := ha (by omega)
   have hck : w.cell? ⟨b, o + k, none⟩ = some (.int .i64 xs[k]) := hx k hlt
   have hml := maskOf_lt (xs.take k)
   clear hx ha
   by_cases he : isVarB xs[k] = true
   ·have HK := Lib.hid (isVar_is he)
    have HV := Lib.hid (show -4 <= xs[k] /\ xs[k] <= -1 by simpa [isVarB] using he)
    have h0 : 0 <= -1 - xs[k] := by have := HV.out; omega
    have h64 : -1 - xs[k] <= 64 := by have := HV.out; omega
    have HZ := Lib.hid (show bits .or .u64 z (IntKind.u64.wrap (2 ^ (-1 - xs[k]).toNat)) = (maskOf (xs.take (k + 1)) : Nat) by have hw := orV_word hml he; rw [Int.one_mul] at hw; rw [hz, hw, maskOf_take hlt])
    clear hz he hml
    go_wp2_with (first | (go_at_call 225; refine (HK.out _).mono ?_; rintro e w' ⟨rfl, rfl⟩) | (go_at_call 179; refine (varNumber_any _ HV.out.1 HV.out.2 _).mono ?_; rintro e w' ⟨rfl, rfl⟩))
    go_round
    case rel => exact ⟨k + 1, _, by omega, by go_num, rfl, HZ.out⟩
    case measure => simp [intOf]; omega
   ·have he' : isVarB xs[k] = false := by simpa using he
    have HK := Lib.hid (isVar_is he')
    have HZ := Lib.hid (show z = (maskOf (xs.take (k + 1)) : Nat) by rw [hz, maskOf_take hlt]; simp [orV, he'])
    clear hz he
    go_wp2_with (go_at_call 225; refine (HK.out _).mono ?_; rintro e w' ⟨rfl, rfl⟩)
    go_round
    case rel => exact ⟨k + 1, _, by omega, by go_num, rfl, HZ.out⟩
    case measure => simp [intOf]; omega
  ·have HE := Lib.hid (show z = (maskOf xs : Nat) by rw [hz, show k = xs.length by omega, List.take_length])
   clear hz ha
   go_wp2_with (fail)
   go_ret
   exact ⟨ret_int HE.out, rfl⟩
set_option maxHeartbeats 400000 in
theorem bodyVars_any (v : Value) (ls : List LLit) (w : World) (h : RdLits w w.heap.size v ls) (hr : ls.length <= 1048576) (ht : totL ls <= 1048576) :
 Calls Tryz.prog 274 #[v] w fun e w' => e = .returned (.int .u64 (bodyMask ls : Nat)) /\ Below w.heap.size w w' := by
 have H := Lib.hid h
 obtain ⟨A, c, rfl, hc, _⟩ := h
 go_enter Tryz.func274, Tryz.ntmps274
 go_wp2_with (fail)
 go_loopw [3, 5, 8] (fun m _ i wr => ∃ (k : Nat) (z : Int), k <= ls.length /\ i = .int .i64 k /\ m = .int .u64 z /\ z = (bodyMask (ls.take k) : Nat) /\ Below w.heap.size w wr) (fun _ _ i _ => ls.length - (intOf i).toNat)
 case atStart => exact ⟨0, 0, Nat.zero_le _, rfl, rfl, rfl, Below.refl _ _⟩
 case round =>
  obtain ⟨k, z, hk, rfl, rfl, hz, hbe⟩ := hrel
  by_cases hlt : k < ls.length
  ·obtain ⟨b, o, u0, u1, u2, rfl, hbB, k0, k1, k2, rfl, rfl, p3⟩ := (H.out.on hbe).get hlt
   have HA := Lib.hid p3
   obtain ⟨A3, c3, rfl, hc3, _⟩ := p3
   have hle := len_le_totL ls k hlt
   have hml := bodyMask_lt k ls hk
   have HZ := Lib.hid (show bits .or .u64 z ((maskOf ls[k].2.2 : Nat) : Int) = (bodyMask (ls.take (k + 1)) : Nat) by rw [hz, or_word hml (maskOf_lt _), bodyMask_take hlt])
   clear hz hml
   go_wp2_with (go_at_call 265; refine (argVars_any _ ls[k].2.2 _ _ (HA.out.on (below1 _ _)) (by omega)).mono ?_; rintro e w' ⟨rfl, rfl⟩)
   go_roundw
   case rel => exact ⟨k + 1, _, by omega, by go_num, rfl, HZ.out, bthen hbe (below1 _ _)⟩
   case measure => simp [intOf]; omega
  ·have HE := Lib.hid (show z = (bodyMask ls : Nat) by rw [hz, show k = ls.length by omega, List.take_length])
   clear hz
   go_wp2_with (fail)
   go_ret
   exact ⟨ret_int HE.out, hbe⟩
open Go.RowKit
def bitsOf (x : Nat) : List Int := ((List.range 64).filter fun j => x.testBit j).map fun j : Nat => (j : Int)
theorem bitsOf_zero : bitsOf 0 = [] := by simp [bitsOf]
theorem bitsOf_length (x : Nat) : (bitsOf x).length <= 64 := by
 unfold bitsOf
 rw [List.length_map]
 exact Nat.le_trans (List.length_filter_le _ _) (by simp)
theorem testBit_odd {k m j : Nat} : (2 ^ k * (2 * m + 1)).testBit j = (decide (k <= j) && (2 * m + 1).testBit (j - k)) := by
 rw [Nat.mul_comm, Nat.testBit_mul_two_pow]
theorem testBit_even {k m j : Nat} : (2 ^ k * (2 * m)).testBit j = (decide (k <= j) && (2 * m).testBit (j - k)) := by
 rw [Nat.mul_comm, Nat.testBit_mul_two_pow]
theorem filter_step (k m : Nat) (hk : k < 64) : (List.range 64).filter (fun j => (2 ^ k * (2 * m + 1)).testBit j) = k :: (List.range 64).filter (fun j => (2 ^ k * (2 * m)).testBit j) := by
 obtain ⟨d, hd⟩ : ∃ d, 64 = k + (1 + d) := ⟨63 - k, by omega⟩
 rw [hd, List.range_add, List.filter_append, List.filter_append, List.range_add, List.map_append, List.filter_append, List.filter_append]
 have h1 : (List.range k).filter (fun j => (2 ^ k * (2 * m + 1)).testBit j) = [] := by
  rw [List.filter_eq_nil_iff]
  intro j hj
  have hj := List.mem_range.1 hj
  rw [testBit_odd]
  simp
  omega
 have h2 : (List.range k).filter (fun j => (2 ^ k * (2 * m)).testBit j) = [] := by
  rw [List.filter_eq_nil_iff]
  intro j hj
  have hj := List.mem_range.1 hj
  rw [testBit_even]
  simp
  omega
 have h3 : ((List.range 1).map (k + ·)).filter (fun j => (2 ^ k * (2 * m + 1)).testBit j) = [k] := by
  have : (2 ^ k * (2 * m + 1)).testBit k = true := by rw [testBit_odd]; simp [Nat.testBit_zero]
  simp [this]
 have h4 : ((List.range 1).map (k + ·)).filter (fun j => (2 ^ k * (2 * m)).testBit j) = [] := by
  have : (2 ^ k * (2 * m)).testBit k = false := by rw [testBit_even]; simp [Nat.testBit_zero]
  simp [this]
 rw [h1, h2, h3, h4, List.nil_append, List.nil_append, List.nil_append, List.singleton_append]
 congr 1
 apply List.filter_congr
 intro j hj
 simp only [List.mem_map, List.mem_range] at hj
 obtain ⟨a, ⟨b, hb, rfl⟩, rfl⟩ := hj
 rw [testBit_odd, testBit_even]
 have e : k + (1 + b) - k = b + 1 := by omega
 rw [e, Nat.testBit_succ, Nat.testBit_succ]
 congr 2
 omega
theorem bitsOf_step {x : Nat} (h0 : x ≠ 0) (hx : x < 2 ^ 64) : bitsOf x = (Lib.ctz 64 x : Int) :: bitsOf (x &&& (x - 1)) /\ x &&& (x - 1) < x := by
 obtain ⟨m, hm, hk⟩ := Lib.ctzFrom_spec 64 x (by omega) hx
 have hc : Lib.ctz 64 x = Lib.ctzFrom 64 x := by unfold Lib.ctz; rw [if_neg h0]
 rw [hc]
 generalize Lib.ctzFrom 64 x = k at hm hk
 have hp : 0 < 2 ^ k := Nat.two_pow_pos k
 have hand : x &&& (x - 1) = 2 ^ k * (2 * m) := by
  apply Nat.eq_of_testBit_eq
  intro j
  rw [Nat.testBit_and]
  have e1 : x - 1 = 2 ^ k * (2 * m) + (2 ^ k - 1) := by
   rw [hm, Nat.mul_add, Nat.mul_one]
   omega
  rw [e1, Nat.testBit_two_pow_mul_add _ (by omega), testBit_even, hm, testBit_odd]
  by_cases hj : j < k
  ·have hkj : decide (k <= j) = false := by simp; omega
   rw [hkj]
   simp
  ·rw [if_neg hj]
   have : k <= j := by omega
   simp only [this, decide_true, Bool.true_and]
   by_cases e : j = k
   ·subst e
    simp [Nat.testBit_zero]
   ·obtain ⟨i, rfl⟩ : ∃ i, j = k + (i + 1) := ⟨j - k - 1, by omega⟩
    have e3 : k + (i + 1) - k = i + 1 := by omega
    rw [e3, Nat.testBit_succ, Nat.testBit_succ]
    have d1 : (2 * m + 1) / 2 = m := by omega
    have d2 : 2 * m / 2 = m := by omega
    rw [d1, d2, Bool.and_self]
 refine ⟨?_, ?_⟩
 ·rw [hand, hm]
  unfold bitsOf
  rw [filter_step k m hk]
  simp
 ·rw [hand, hm, Nat.mul_add, Nat.mul_one]
  omega
def Tab (w : World) : Prop := _root_.Go.Proofs.TabAt 0 Lib.deBruijn64tab w /\ 0 < w.heap.size
theorem Tab.below {w w' : World} (h : Tab w) (hb : Below w.heap.size w w') : Tab w' := ⟨fun j hj => (hb.cell (p := ⟨0, j, none⟩) h.2).trans (h.1 j hj), Nat.lt_of_lt_of_le h.2 hb.size⟩
set_option maxHeartbeats 1000000 in
theorem tz64_core (x k idx : Nat) (w : World) (hx0 : ((x : Int) == 0) = false)
 (key : IntKind.u64.wrap (bits BinOp.and IntKind.u64 (x : Int) (IntKind.u64.wrap (-(x : Int))) * 285870213051353865) / 288230376151711744 = (idx : Int))
 (hi : idx < 64) (hk : k < 64) (hcell : w.cell? ⟨0, idx, none⟩ = some (.int .u8 k)) :
 Calls Tryz.prog 103 #[.int .u64 x] w fun e w' => e = .returned (.int .i64 k) /\ w = w' := by
 go_enter Tryz.func103, Tryz.ntmps103
 go_wp2_with (simp only [key])
 go_ret
 exact ⟨rfl, rfl⟩
theorem tz64_any (x : Nat) (hx : x < 18446744073709551616) (h0 : x ≠ 0) (w : World) (hT : Tab w) :
 Calls Tryz.prog 103 #[.int .u64 x] w fun e w' => e = .returned (.int .i64 (Lib.ctz 64 x)) /\ w = w' := by
 obtain ⟨hlow, hk⟩ := Lib.lowest_bit 64 x h0 hx
 obtain ⟨hi, htab⟩ := Lib.deBruijn64_at _ hk
 have hc := hT.1 _ hi
 rw [htab] at hc
 exact tz64_core x _ _ w (by simpa using h0) (tz64_key x _ hx h0 hlow) hi hk hc
theorem tz_any (x : Nat) (hx : x < 18446744073709551616) (h0 : x ≠ 0) (w : World) (hT : Tab w) :
 Calls Tryz.prog 166 #[.int .u64 x] w fun e w' => e = .returned (.int .i64 (Lib.ctz 64 x)) /\ w = w' := by
 go_enter Tryz.func166, Tryz.ntmps166
 go_wp2_with (go_at_call 103; refine (tz64_any x hx h0 _ hT).mono ?_; rintro e w' ⟨rfl, rfl⟩)
 go_ret
 exact ⟨rfl, rfl⟩
set_option maxHeartbeats 1000000 in
set_option maxRecDepth 100000 in
theorem bitNumbers_any (x : Nat) (hx : x < 18446744073709551616) (w : World) (hT : Tab w) :
 Calls Tryz.prog 112 #[.int .u64 x] w fun e w' => ∃ A' c', e = .returned (.slice A' (bitsOf x).length c') /\ OwnInts w' w.heap.size w'.heap.size (.slice A' (bitsOf x).length c') (bitsOf x) /\ Below w.heap.size w w' := by
 obtain ⟨i0, hi0, hz0, hz1, hz2⟩ := info_parts Tryz.infoInt
 have HX := Lib.hid hx
 clear hx
 go_enter Tryz.func112, Tryz.ntmps112
 go_wp2_with (fail)
 go_loopw [0, 3] (fun z o wr => ∃ (y : Nat) (ys : List Int) (A' : Option Addr) (c' : Nat), z = .int .u64 y /\ o = .slice A' ys.length c' /\ ys ++ bitsOf y = bitsOf x /\ y < 2 ^ 64 /\ ColI w wr ys A' c') (fun z _ _ => (intOf z).toNat)
 case atStart => exact ⟨x, [], none, 0, rfl, rfl, rfl, HX.out, ColI.nil (Below.refl _ _)⟩
 case round =>
  obtain ⟨y, ys, A', c', rfl, rfl, hys, hy, hr⟩ := hrel
  have hyl : ys.length <= 64 := by
   have := congrArg List.length hys
   rw [List.length_append] at this
   have := bitsOf_length x
   omega
  by_cases h0 : y = 0
  ·subst h0
   rw [bitsOf_zero, List.append_nil] at hys
   have HO := Lib.hid (And.intro hys hr)
   clear hys hr
   go_wp2_with (fail)
   go_ret
   obtain ⟨e, hr⟩ := HO.out
   rw [<- e]
   exact ⟨_, _, rfl, hr.own, hr.below⟩
  ·obtain ⟨hst, hlt⟩ := bitsOf_step h0 hy
   have ht : ((y : Int) != 0) = true := by simpa using h0
   have HY := Lib.hid (And.intro hy (And.intro h0 hlt))
   have HB := Lib.hid (show (ys ++ [(Lib.ctz 64 y : Int)]) ++ bitsOf (y &&& (y - 1)) = bitsOf x by rw [List.append_assoc, List.singleton_append, <- hst]; exact hys)
   have hk : Lib.ctz 64 y < 64 := (Lib.lowest_bit 64 y h0 hy).2
   have HA := Lib.hid (show bits BinOp.and IntKind.u64 (y : Int) (IntKind.u64.wrap ((y : Int) - 1)) = ((y &&& (y - 1) : Nat) : Int) by
    have e1 : IntKind.u64.wrap ((y : Int) - 1) = ((y - 1 : Nat) : Int) := by rw [IntKind.wrap_u64]; omega
    rw [e1, bits_and_u64_nat y (y - 1) (by simpa using hy) (by omega)])
   have HP := Lib.hid hr
   have HT := Lib.hid (hT.below hr.below)
   have HCC := Lib.hid (fun (w : World) (hw : Tab w) => tz_any y (by simpa using hy) h0 w hw)
   generalize Lib.ctz 64 y = kk at hst HB hk HCC
   clear hst hlt hy h0 hys hr
   go_wp2_with (fail)
   refine (HCC.out _ HT.out).mono ?_
   rintro e w' ⟨rfl, rfl⟩
   go_wp2_with (at_builtin; refine wpList_append_lies _ rfl (.tmp 10) (.tmp 13) 22 rfl w.heap.size 3 i0 (.int .i64 0) 1 8 Tryz.underlying22 hi0 hz0 hz1 hz2 rfl (by decide) (.slice A' ys.length c') ys.length (ys.map (Value.int .i64)) rfl ?c1 ⟨_, 0, none⟩ 1 1 [.int .i64 kk] rfl rfl (news1s _ _ _ _ (by simp)) ?c2 (by omega) (by unfold maxLen; omega) (by omega) ?c3 _ rfl ?_)
   case c1 => exact HP.out.own.1.alloc _
   case c2 => intro u hu; simp at hu; subst hu; rfl
   case c3 => have := HP.out.below.size; simp; omega
   intro g cap w4 hown hg _ _
   have hcol := HP.out.push (Below.refl _ _) hg hown
   have hlen : ys.length + 1 = (ys ++ [(kk : Int)]).length := by simp
   rw [hlen]
   have HC := Lib.hid hcol
   clear hcol hlen hown hg
   go_wp2_with (fail)
   go_roundw
   case rel => exact ⟨y &&& (y - 1), _, _, _, by rw [HA.out], rfl, HB.out, Nat.lt_trans HY.out.2.2 HY.out.1, HC.out⟩
   case measure =>
    rw [HA.out]
    simp only [intOf]
    have := HY.out.2.2
    omega
open Go.RowKit
def laidTabs : List (String × DataW Unit) := [("math/bits.deBruijn32tab", Rows.laid_math_bits_deBruijn32tab), ("math/bits.deBruijn64tab", Rows.laid_math_bits_deBruijn64tab)]
theorem Tryz.tabGlobal : Tryz.prog.globalNamed "math/bits.deBruijn64tab" = some 0 := by kernel_rfl
theorem Tryz.tabType : (Tryz.prog.globals[0]?).map (·.type) = some 209 := by kernel_rfl
theorem Tryz.tabUnder : Tryz.prog.underlying 209 = some (.array 64 5) := by kernel_rfl
theorem Tryz.tabCells : Tryz.prog.cellsOf 209 = 64 := by kernel_rfl
theorem Tryz.byteUnder : Tryz.prog.underlying 5 = some (.int .u8) := by kernel_rfl
theorem Tryz.byteCells : Tryz.prog.cellsOf 5 = 1 := by kernel_rfl
theorem tab_of_laid {W : World} (hL : laidMetH Tryz.prog laidTabs W) : Tab W := by
 have h : laidMet Tryz.prog laidTabs W := by rw [MakeChecks.laidMetH_plain _ _ _ (by kernel_rfl)] at hL; exact hL
 have h2 : laidMet Tryz.prog [("math/bits.deBruijn64tab", Lib.tabData .u8 (Lib.deBruijn64tab.map fun n : Nat => (n : Int)))] W := h.tail
 have h3 := Lib.tabIs_of_head Tryz.tabGlobal Tryz.tabType Tryz.tabUnder Tryz.byteUnder Tryz.byteCells Tryz.tabCells h2
 have hat : _root_.Go.Proofs.TabAt 0 Lib.deBruijn64tab W := fun j hj => by
  have := h3.cell Tryz.tabGlobal j (by simpa using hj)
  simpa [hj] using this
 exact ⟨hat, World.block_lt_of_cell? _ _ (hat 0 (by decide))⟩
def laidTabs1 : List (String × DataW Unit) := [("math/bits.deBruijn64tab", Rows.laid_math_bits_deBruijn64tab)]
theorem tab_of_laid1 {W : World} (hL : laidMetH Tryz.prog laidTabs1 W) : Tab W := by
 have h : laidMet Tryz.prog laidTabs1 W := by rw [MakeChecks.laidMetH_plain _ _ _ (by kernel_rfl)] at hL; exact hL
 have h2 : laidMet Tryz.prog [("math/bits.deBruijn64tab", Lib.tabData .u8 (Lib.deBruijn64tab.map fun n : Nat => (n : Int)))] W := h
 have h3 := Lib.tabIs_of_head Tryz.tabGlobal Tryz.tabType Tryz.tabUnder Tryz.byteUnder Tryz.byteCells Tryz.tabCells h2
 have hat : _root_.Go.Proofs.TabAt 0 Lib.deBruijn64tab W := fun j hj => by
  have := h3.cell Tryz.tabGlobal j (by simpa using hj)
  simpa [hj] using this
 exact ⟨hat, World.block_lt_of_cell? _ _ (hat 0 (by decide))⟩
open Go.RowKit
set_option maxHeartbeats 400000 in
theorem szFact_any (v : Value) (f : LFact) (left : Int) (w : World) (h : RdFact w w.heap.size v f) (h0 : 0 <= left) (hl : left <= 1048576) (hn : f.2.length <= 9223372036854775807) :
 Calls Tryz.prog 43 #[v, .int .i64 left] w fun e w' => e = .returned (.int .i64 (szV left f.2.length)) /\ Below w.heap.size w w' := by
 obtain ⟨a, rfl, A, c, rfl, hc, _⟩ := h
 have hcs := szV_cases left f.2.length
 go_enter Tryz.func43, Tryz.ntmps43
 go_wp2_with (fail)
 refine (szIntS_any _ _ _ _ _ h0 hl hn).mono ?_
 rintro e w1 ⟨rfl, rfl⟩
 rcases hcs with ⟨e1, _⟩ | ⟨e1, _⟩
 ·rw [e1]
  have HV := Lib.hid e1
  clear e1
  go_wp2_with (fail)
  go_ret
  exact ⟨ret_int HV.out.symm, (Below.refl _ _).alloc (Nat.le_refl _) _⟩
 ·have h1 : ¬ szV left f.2.length < 0 := by omega
  go_wp2_with (fail)
  go_ret
  exact ⟨rfl, (Below.refl _ _).alloc (Nat.le_refl _) _⟩
set_option maxHeartbeats 400000 in
theorem toFact_any (v : Value) (f : LFact) (w : World) (h : RdFact w w.heap.size v f) (hn : f.2.length * 8 <= 140737488351232) :
 Calls Tryz.prog 45 #[v] w fun e w' => ∃ A' c', e = .returned (.agg #[.int .i64 f.1, .slice A' f.2.length c']) /\ OwnInts w' w.heap.size w'.heap.size (.slice A' f.2.length c') f.2 /\ Below w.heap.size w w' := by
 obtain ⟨a, rfl, h⟩ := h
 have H := Lib.hid h
 obtain ⟨A, c, rfl, hc, _⟩ := h
 go_enter Tryz.func45, Tryz.ntmps45
 go_wp2_with (fail)
 refine (toIntS_any _ f.2 _ (H.out.on (below3 _ _ _ _)) hn).mono ?_
 rintro e w4 ⟨A4, c4, rfl, ho, hb⟩
 have hB := bthen (below3 _ _ _ _) hb
 have b1 : Blk w4 (w.heap.size + 1) 66 #[.int .i64 0, .slice none 0 0] := ((by simpa using (Blk.new (w.alloc (Obj.cells #[Value.int IntKind.i64 f.fst, Value.slice A f.snd.length c] 63)) _ _).alloc _ : Blk _ _ _ _)).below hb (by simp)
 have b2 : Blk w4 (w.heap.size + 2) 66 #[.int .i64 f.1, .slice none 0 0] := ((by simpa using Blk.new ((w.alloc (Obj.cells #[Value.int IntKind.i64 f.fst, Value.slice A f.snd.length c] 63)).alloc (Obj.cells #[.int .i64 0, .slice none 0 0] 66)) _ _ : Blk _ _ _ _)).below hb (by simp)
 have b1c0 : w4.cell? ⟨w.heap.size + 1, 0, none⟩ = some (.int .i64 0) := b1.cell 0
 have b1c1 : w4.cell? ⟨w.heap.size + 1, 1, none⟩ = some (.slice none 0 0) := b1.cell 1
 have b2c0 : w4.cell? ⟨w.heap.size + 2, 0, none⟩ = some (.int .i64 f.1) := b2.cell 0
 have b2c1 : w4.cell? ⟨w.heap.size + 2, 1, none⟩ = some (.slice none 0 0) := b2.cell 1
 have b1f0 := b1.frozen 0
 have b1f1 := b1.frozen 1
 have b2f0 := b2.frozen 0
 have b2f1 := b2.frozen 1
 go_wp2_with (fail)
 refine bodyPost_ret (v := .agg #[.int .i64 f.1, .slice A4 f.2.length c4]) (by simp [results, Tryz.results45, go_sem, b1c0, b1c1]) rfl ⟨_, _, rfl, ?_, ?_⟩
 ·exact (((ho.set (.inl (by simp)) _).set (.inl (by simp)) _).set (.inl (by simp)) _).mono (by simp; omega) (by simp)
 ·exact ((hB.setCell (by simp <;> omega) _).setCell (by simp <;> omega) _).setCell (by simp <;> omega) _
set_option maxHeartbeats 400000 in
theorem eqFact_any (v v2 : Value) (f g : LFact) (w : World) (h : RdFact w w.heap.size v f) (h2 : RdFact w w.heap.size v2 g) (hn : f.2.length * 8 <= 140737488351232) (hn2 : g.2.length * 8 <= 140737488351232) :
 Calls Tryz.prog 47 #[v, v2] w fun e w' => e = .returned (.bool (decide (f = g))) /\ Below w.heap.size w w' := by
 obtain ⟨a, rfl, h⟩ := h
 have H := Lib.hid h
 obtain ⟨A, c, rfl, hc, _⟩ := h
 obtain ⟨a, rfl, h2⟩ := h2
 have H2 := Lib.hid h2
 obtain ⟨A2, c2, rfl, hc2, _⟩ := h2
 by_cases hp : f.1 = g.1
 ·have hpb : (f.1 != g.1) = false := by simp [hp]
  have HE := Lib.hid (show decide (f = g) = decide (f.2 = g.2) by simp [Prod.ext_iff, hp])
  clear hp
  go_enter Tryz.func47, Tryz.ntmps47
  go_wp2_with (fail)
  refine (eqIntS_any _ _ f.2 g.2 _ (H.out.on (below2 _ _ _)) (H2.out.on (below2 _ _ _)) hn hn2).mono ?_
  rintro e w4 ⟨rfl, hb⟩
  have hB := bthen (below2 _ _ _) hb
  by_cases hd : f.2 = g.2
  ·have hdb : decide (f.2 = g.2) = true := by simp [hd]
   have HD := Lib.hid hdb
   clear hd
   go_wp2_with (fail)
   go_ret
   exact ⟨ret_bool (by rw [HE.out, HD.out]), hB⟩
  ·have hdb : decide (f.2 = g.2) = false := by simp [hd]
   have HD := Lib.hid hdb
   clear hd
   go_wp2_with (fail)
   go_ret
   exact ⟨ret_bool (by rw [HE.out, HD.out]), hB⟩
 ·have hpb : (f.1 != g.1) = true := by simp [hp]
  have HE := Lib.hid (show decide (f = g) = false by simp [Prod.ext_iff, hp])
  clear hp
  go_enter Tryz.func47, Tryz.ntmps47
  go_wp2_with (fail)
  go_ret
  exact ⟨ret_bool HE.out.symm, below2 _ _ _⟩
open Go.RowKit
def RdFacts (w : World) (B : Nat) (v : Value) (fs : List LFact) : Prop :=
 ∃ A c, v = .slice A fs.length c /\ fs.length <= c /\ (0 < fs.length -> ∃ b o, A = some ⟨b, o, none⟩ /\ b < B /\ ∀ k (h : k < fs.length), ∃ a,
  w.cell? ⟨b, o + k * 2, none⟩ = some (.int .i64 fs[k].1) /\ w.cell? ⟨b, o + k * 2 + 1, none⟩ = some a /\ RdInts w B a fs[k].2)
theorem RdFacts.below {w w' : World} {B B' : Nat} {v : Value} {fs : List LFact} (h : RdFacts w B v fs) (hb : Below B' w w') (hB : B <= B') : RdFacts w' B v fs := by
 obtain ⟨A, c, rfl, hc, h⟩ := h
 refine ⟨A, c, rfl, hc, fun hn => ?_⟩
 obtain ⟨b, o, rfl, hlt, hk⟩ := h hn
 refine ⟨b, o, rfl, hlt, fun k hkl => ?_⟩
 obtain ⟨a, h1, h2, h3⟩ := hk k hkl
 exact ⟨a, (hb.cell (p := ⟨b, o + k * 2, none⟩) (by show b < B'; omega)).trans h1, (hb.cell (p := ⟨b, o + k * 2 + 1, none⟩) (by show b < B'; omega)).trans h2, h3.below hb hB⟩
theorem RdFacts.more {w : World} {B B' : Nat} {v : Value} {fs : List LFact} (h : RdFacts w B v fs) (hB : B <= B') : RdFacts w B' v fs := by
 obtain ⟨A, c, rfl, hc, h⟩ := h
 refine ⟨A, c, rfl, hc, fun hn => ?_⟩
 obtain ⟨b, o, rfl, hlt, hk⟩ := h hn
 refine ⟨b, o, rfl, by omega, fun k hkl => ?_⟩
 obtain ⟨a, h1, h2, h3⟩ := hk k hkl
 exact ⟨a, h1, h2, h3.more hB⟩
theorem RdFacts.on {w w' : World} {v : Value} {fs : List LFact} (h : RdFacts w w.heap.size v fs) (hb : Below w.heap.size w w') : RdFacts w' w'.heap.size v fs := (h.below hb (Nat.le_refl _)).more hb.size
def flat : List LFact -> List Value -> List Value
 | f :: fs, a :: av => .int .i64 f.1 :: a :: flat fs av
 | _, _ => []
theorem flat_length : ∀ (fs : List LFact) (av : List Value), av.length = fs.length -> (flat fs av).length = fs.length * 2
 | [], _, _ => by simp [flat]
 | f :: fs, [], h => by simp at h
 | f :: fs, a :: av, h => by
  have := flat_length fs av (by simpa using h)
  simp only [flat, List.length_cons, this]
  omega
theorem flat_at : ∀ (fs : List LFact) (av : List Value) (_ : av.length = fs.length) (k : Nat) (hk : k < fs.length) (hk' : k < av.length),
 (flat fs av)[k * 2]? = some (.int .i64 fs[k].1) /\ (flat fs av)[k * 2 + 1]? = some av[k]
 | [], _, _, k, hk, _ => absurd hk (by simp)
 | f :: fs, [], h, _, _, _ => by simp at h
 | f :: fs, a :: av, h, 0, _, _ => by simp [flat]
 | f :: fs, a :: av, h, k + 1, hk, hk' => by
  have := flat_at fs av (by simpa using h) k (by simpa using hk) (by simpa using hk')
  simpa [flat, Nat.add_mul] using this
theorem flat_snoc : ∀ (fs : List LFact) (av : List Value) (_ : av.length = fs.length) (f : LFact) (a : Value), flat (fs ++ [f]) (av ++ [a]) = flat fs av ++ [.int .i64 f.1, a]
 | [], [], _, f, a => by simp [flat]
 | [], a' :: av, h, _, _ => by simp at h
 | f :: fs, [], h, _, _ => by simp at h
 | f :: fs, a :: av, h, g, b => by simp [flat, flat_snoc fs av (by simpa using h) g b]
structure OwnArgs (w : World) (lo hi : Nat) (av : List Value) (xss : List (List Int)) : Prop where
 len : av.length = xss.length
 own : ∀ i (h : i < xss.length) (h' : i < av.length), OwnInts w lo hi av[i] xss[i]
 apart : av.Pairwise fun a b => ∀ g, a.ownBlock = some g -> b.ownBlock ≠ some g
section
variable {w w' : World} {lo hi lo' hi' B : Nat} {av : List Value} {xss : List (List Int)}
theorem OwnArgs.nil : OwnArgs w lo hi [] [] := ⟨rfl, fun i h => absurd h (by simp), .nil⟩
theorem OwnArgs.below (h : OwnArgs w lo hi av xss) (hb : Below B w w') (hB : hi <= B) : OwnArgs w' lo hi av xss := ⟨h.len, fun i h1 h2 => (h.own i h1 h2).below hb hB, h.apart⟩
theorem OwnArgs.mono (h : OwnArgs w lo hi av xss) (h1 : lo' <= lo) (h2 : hi <= hi') : OwnArgs w lo' hi' av xss := ⟨h.len, fun i h3 h4 => (h.own i h3 h4).mono h1 h2, h.apart⟩
theorem OwnArgs.set (h : OwnArgs w lo hi av xss) {p : Addr} (hp : p.block < lo \/ hi <= p.block) (u : Value) : OwnArgs (w.setCell p u) lo hi av xss := ⟨h.len, fun i h3 h4 => (h.own i h3 h4).set hp u, h.apart⟩
theorem OwnInts.block {v : Value} {xs : List Int} (h : OwnInts w lo hi v xs) {g : Nat} (hg : v.ownBlock = some g) : lo <= g /\ g < hi := ⟨(h.1.lt g hg).1, h.2 g hg⟩
theorem OwnArgs.snoc (h : OwnArgs w lo hi av xss) {v : Value} {xs : List Int} (hv : OwnInts w hi hi' v xs) (hl : lo <= hi) (hh : hi <= hi') : OwnArgs w lo hi' (av ++ [v]) (xss ++ [xs]) := by
 have hlen := h.len
 refine ⟨by simp [hlen], fun i h1 h2 => ?_, ?_⟩
 ·by_cases e : i < xss.length
  ·rw [List.getElem_append_left (by omega), List.getElem_append_left e]
   exact (h.own i e (by omega)).mono (Nat.le_refl _) hh
  ·have e2 : i = xss.length := by simp at h1; omega
   subst e2
   simp [<- hlen]
   exact hv.mono hl (Nat.le_refl _)
 ·rw [List.pairwise_append]
  refine ⟨h.apart, by simp, fun a ha b hb g hg hg' => ?_⟩
  simp at hb
  subst hb
  obtain ⟨i, hi', rfl⟩ := List.getElem_of_mem ha
  have h1 := (h.own i (by omega) hi').block hg
  have h2 := hv.block hg'
  omega
end
def OwnFacts (w : World) (lo hi : Nat) (v : Value) (fs : List LFact) : Prop :=
 ∃ av, OwnArgs w lo hi av (fs.map (·.2)) /\ w.ownsRow lo 66 2 v fs.length (flat fs av) /\ ∀ g, v.ownBlock = some g -> g < hi
section
variable {w w' : World} {lo hi lo' hi' B : Nat} {v : Value} {fs : List LFact}
theorem ownsRow_below {e : TypeId} {size n : Nat} {xs : List Value} (h : w.ownsRow lo e size v n xs) (hlt : ∀ g, v.ownBlock = some g -> g < hi) (hb : Below B w w') (hB : hi <= B) : w'.ownsRow lo e size v n xs := by
 obtain ⟨hlen, h⟩ := h
 refine ⟨hlen, ?_⟩
 rcases h with h | ⟨g, cap, cur, rfl, hbg, hg, r⟩
 ·exact .inl h
 ·exact .inr ⟨g, cap, cur, rfl, hbg, by rw [hb.block g (by have := hlt g rfl; omega)]; exact hg, r⟩
theorem ownsRow_mono {e : TypeId} {size n : Nat} {xs : List Value} (h : w.ownsRow lo e size v n xs) (h1 : lo' <= lo) : w.ownsRow lo' e size v n xs := by
 obtain ⟨hlen, h⟩ := h
 refine ⟨hlen, ?_⟩
 rcases h with h | ⟨g, cap, cur, rfl, hbg, r⟩
 ·exact .inl h
 ·exact .inr ⟨g, cap, cur, rfl, by omega, r⟩
theorem OwnFacts.below (h : OwnFacts w lo hi v fs) (hb : Below B w w') (hB : hi <= B) : OwnFacts w' lo hi v fs := by
 obtain ⟨av, h1, h2, h3⟩ := h
 exact ⟨av, h1.below hb hB, ownsRow_below h2 h3 hb hB, h3⟩
theorem OwnFacts.mono (h : OwnFacts w lo hi v fs) (h1 : lo' <= lo) (h2 : hi <= hi') : OwnFacts w lo' hi' v fs := by
 obtain ⟨av, ha, hr, hlt⟩ := h
 exact ⟨av, ha.mono h1 h2, ownsRow_mono hr h1, fun g hg => by have := hlt g hg; omega⟩
theorem OwnFacts.rd (h : OwnFacts w lo hi v fs) : RdFacts w hi v fs := by
 obtain ⟨av, ha, hr, hlt⟩ := h
 have hcells := @World.ownsRow.cells w lo 66 2 v fs.length (flat fs av) hr
 obtain ⟨hlen, hr⟩ := hr
 have hl : av.length = fs.length := by simpa using ha.len
 rcases hr with ⟨rfl, h0⟩ | ⟨g, cap, cur, rfl, hb, hg, hn, hm, hs, ht⟩
 ·have : fs = [] := List.eq_nil_of_length_eq_zero h0
  subst this
  exact ⟨none, 0, rfl, by simp, fun h => absurd h (by simp)⟩
 ·refine ⟨_, cap, rfl, hn, fun _ => ⟨g, 0, rfl, hlt g rfl, fun k hk => ⟨av[k]'(by omega), ?_, ?_, ?_⟩⟩⟩
  ·have := hcells (g := g) rfl _ _ (flat_at fs av hl k hk (by omega)).1
   rwa [Go.WideShapes.add_plain] at this
  ·have := hcells (g := g) rfl _ _ (flat_at fs av hl k hk (by omega)).2
   rwa [Go.WideShapes.add_plain, <- Nat.add_assoc] at this
  ·have := ha.own k (by simpa using hk) (by omega)
   simpa using this.rd
end
def zeroCells : Nat -> List Value
 | 0 => []
 | n + 1 => .int .i64 0 :: .slice none 0 0 :: zeroCells n
theorem zeroCells_length : ∀ n, (zeroCells n).length = n * 2
 | 0 => rfl
 | n + 1 => by simp [zeroCells, zeroCells_length n]; omega
theorem zeroCells_at : ∀ (n j : Nat), j < n * 2 -> (zeroCells n)[j]? = some (if j % 2 = 0 then .int .i64 0 else .slice none 0 0)
 | 0, j, h => by omega
 | n + 1, 0, _ => by simp [zeroCells]
 | n + 1, 1, _ => by simp [zeroCells]
 | n + 1, j + 2, h => by
  have := zeroCells_at n j (by omega)
  simp only [zeroCells, List.getElem?_cons_succ, this]
  congr 2
  simp
theorem madeCells_facts (n : Nat) : (madeCells #[.int .i64 0, .slice none 0 0] (n * 2)).toList = zeroCells n := by
 apply List.ext_getElem?
 intro j
 by_cases h : j < n * 2
 ·rw [zeroCells_at n j h]
  have h2 : j % 2 = 0 \/ j % 2 = 1 := by omega
  rcases h2 with h2 | h2 <;> simp [madeCells, h, h2]
 ·rw [List.getElem?_eq_none (by simp [madeCells]; omega), List.getElem?_eq_none (by rw [zeroCells_length]; omega)]
def tot (fs : List LFact) : Nat := (fs.map fun f => f.2.length).sum
theorem len_le_tot : ∀ (fs : List LFact) (k : Nat) (h : k < fs.length), fs[k].2.length <= tot fs
 | [], _, h => absurd h (by simp)
 | f :: fs, 0, _ => by simp [tot]
 | f :: fs, k + 1, h => by
  have := len_le_tot fs k (by simpa using h)
  simp only [tot, List.map_cons, List.sum_cons, List.getElem_cons_succ] at this ⊢
  omega
theorem tot_take : ∀ (fs : List LFact) (k : Nat) (h : k < fs.length), tot (fs.take (k + 1)) = tot (fs.take k) + fs[k].2.length
 | [], _, h => absurd h (by simp)
 | f :: fs, 0, _ => by simp [tot]
 | f :: fs, k + 1, h => by
  have := tot_take fs k (by simpa using h)
  simp only [tot, List.take_succ_cons, List.map_cons, List.sum_cons, List.getElem_cons_succ] at this ⊢
  omega
open Go.ChangeShapes Go.WideShapes Go.ChangeAt Go.RowKit Go.Joins Go.Deep
section
variable {H : Type} {enc : TypeId × Value -> H} {W : World}
def InFacts (W : World) (v : Value) (fs : List LFact) : Prop := RdFacts W W.heap.size v fs /\ fs.length <= maxLen /\ ∀ k (h : k < fs.length), fs[k].2.length <= maxLen
theorem Tryz.cells63 : Tryz.prog.cellsOf 63 = 2 := by kernel_rfl
set_option maxRecDepth 100000 in
theorem open_inFacts {v : Value} {d : DataW H} {p : List MemPlace} {b0 : Nat} (hv : Value.okWide Tryz.prog W .any b0 26 v) (h : DataW.Trod enc Tryz.prog W 0 (fun _ => true) true 26 v d p) :
 ∃ fs, InFacts W v fs := by
 obtain ⟨a, len, cap, rfl⟩ := okWide_slice Tryz.underlying26 hv
 obtain ⟨fuel, hf⟩ := h
 rcases open_slice_pairs Tryz.underlying26 Tryz.underlying63 Tryz.cells63 rfl rfl Tryz.cells3 Tryz.cells22 hf with ⟨hcs, _⟩ | ⟨a', len', cap', m, n, V0, V1, D0, D1, P0, P1, hcs, _, hl, hm, hmm, _, hx⟩
 ·simp [Value.cells] at hcs
  obtain ⟨rfl, rfl, rfl⟩ := hcs
  exact ⟨[], ⟨none, 0, rfl, by simp, fun h => absurd h (by simp)⟩, by simp, fun k h => absurd h (by simp)⟩
 ·simp [Value.cells] at hcs
  obtain ⟨rfl, rfl, rfl⟩ := hcs
  simp at hmm
  subst hmm
  obtain ⟨F, hF⟩ := choose_lt (α := LFact) (n := len) (p := fun i f => V0 i = .int .i64 f.1 /\ InInts W (V1 i) f.2) (fun i hi => by
   obtain ⟨_, _, h0, h1⟩ := hx i (by omega)
   obtain ⟨q, e0, _, _⟩ := DataW.trod_int Tryz.underlying3 h0
   obtain ⟨xs, hxs⟩ := open_inInts_cells h1
   simp at e0
   exact ⟨(q, xs), e0, hxs⟩)
  refine ⟨(List.range len).map F, ⟨some a', m, by simp, by simpa using hl, fun hn => ?_⟩, by simp; omega, fun k hk => ?_⟩
  ·simp at hn
   obtain ⟨b, off, spot⟩ := a'
   have hspot : spot = none := by simpa [Addr.add] using World.cell?_spot (hx 0 (by omega)).1
   subst hspot
   have hb : b < W.heap.size := by simpa [Addr.add] using World.block_lt_of_cell? _ _ (hx 0 (by omega)).1
   refine ⟨b, off, rfl, hb, fun k hk => ?_⟩
   simp at hk
   obtain ⟨c0, c1, _, _⟩ := hx k (by omega)
   obtain ⟨e0, e1⟩ := hF k hk
   rw [Go.WideShapes.add_plain, e0] at c0
   rw [Go.WideShapes.add_plain] at c1
   exact ⟨V1 k, by simpa using c0, by simpa [Nat.add_assoc] using c1, by simpa using e1.1⟩
  ·simp at hk ⊢
   exact (hF k hk).2.2
end
open Go.RowKit
section
variable {P : Program} (w : World)
theorem run_append_nilsrc (base : Nat) (t ty e : TypeId) (i : TypeInfo) (size : Nat) (ht : P.underlying t = some (.slice e)) (hi : P.info? e = some i)
 (v : Value) (n : Nat) (xs : List Value) (hown : w.ownsRow base e size v n xs) (c : Nat) : (Builtin.append_ #[t, t] ty #[v, .slice none 0 c]).run P w = .ok v w := by
 rcases hown.2 with ⟨rfl, rfl⟩ | ⟨g, cap, cur, rfl, _, _, hnc, _⟩
 ·simp [Builtin.append_, run_underlying ht, sizeOf, typeInfo, hi, Builtin.lenOf, Builtin.firstCells]
 ·simp [Builtin.append_, run_underlying ht, sizeOf, typeInfo, hi, Builtin.lenOf, Builtin.firstCells, hnc, storeCells]
end
open Go.RowKit
abbrev REnt := LRule × Value × Value
def flatG : List REnt -> List Value
 | [] => []
 | e :: es => .int .i64 e.1.1.1 :: e.2.1 :: e.2.2 :: flatG es
theorem flatG_at : ∀ (es : List REnt) (k : Nat) (hk : k < es.length), (flatG es)[k * 3]? = some (.int .i64 es[k].1.1.1) /\ (flatG es)[k * 3 + 1]? = some es[k].2.1 /\ (flatG es)[k * 3 + 2]? = some es[k].2.2
 | [], k, hk => absurd hk (by simp)
 | e :: es, 0, _ => by simp [flatG]
 | e :: es, k + 1, hk => by
  have := flatG_at es k (by simpa using hk)
  simpa [flatG, Nat.add_mul] using this
theorem flatG_snoc : ∀ (es : List REnt) (e : REnt), flatG (es ++ [e]) = flatG es ++ [.int .i64 e.1.1.1, e.2.1, e.2.2]
 | [], e => by simp [flatG]
 | x :: es, e => by simp [flatG, flatG_snoc es e]
theorem news3r (w : World) (x y z : Value) (t : TypeId) (n : Nat) (hn : w.heap.size = n) : ∀ j u, [x, y, z][j]? = some u -> (w.alloc (.cells #[x, y, z] t)).cell? ((⟨n, 0, .none⟩ : Addr).add j) = some u :=
 hn ▸ World.news_of_block (cs := #[x, y, z]) (heap_alloc_new w _)
structure ViewR (B base : Nat) (wr : World) (es : List REnt) (A : Option Addr) (c : Nat) : Prop where
 row : wr.ownsRow base 138 3 (.slice A es.length c) es.length (flatG es)
 rd : ∀ k (h : k < es.length), RdInts wr B es[k].2.1 es[k].1.1.2 /\ RdLits wr B es[k].2.2 es[k].1.2
section
variable {B base g cap : Nat} {wr w2 w4 : World} {es : List REnt} {A : Option Addr} {c : Nat} {e : REnt} {o : Obj}
theorem ViewR.nil (B base : Nat) (w : World) : ViewR B base w [] .none 0 := ⟨by simpa [flatG] using World.ownsRow_nil w base 138 3, fun k h => absurd h (by simp)⟩
theorem ViewR.empty (B : Nat) (w : World) : ViewR B w.heap.size (w.alloc (.cells #[] 138)) [] (some ⟨w.heap.size, 0, .none⟩) 0 :=
 ⟨World.ownsRow_made w #[] 0 (Nat.le_refl _) (by decide) rfl, fun k h => absurd h (by simp)⟩
theorem ViewR.below (h : ViewR B base wr es A c) (hb : Below wr.heap.size wr w2) (hB : B <= wr.heap.size) : ViewR B base w2 es A c :=
 ⟨ownsRow_only h.row fun b hb' => hb.block b (h.row.lt b hb').2, fun k hk => ⟨(h.rd k hk).1.below hb hB, (h.rd k hk).2.below hb hB⟩⟩
theorem ViewR.push (h : ViewR B base wr es A c) (hB : B <= base) (hle : base <= wr.heap.size) (hb : Below wr.heap.size wr w2) (q1 : RdInts w2 B e.2.1 e.1.1.2) (q2 : RdLits w2 B e.2.2 e.1.2)
 (hg : (w2.alloc o).grownBy w4 (Value.slice A es.length c).ownBlock)
 (hown : w4.ownsRow base 138 3 (.slice (some ⟨g, 0, .none⟩) (es.length + 1) cap) (es.length + 1) (flatG es ++ [.int .i64 e.1.1.1, e.2.1, e.2.2])) :
 ViewR B base w4 (es ++ [e]) (some ⟨g, 0, .none⟩) cap /\ Below base wr w4 := by
 have hl : (es ++ [e]).length = es.length + 1 := by simp
 have hs := hb.size
 have hg' := grown_from_alloc hg
 have hbe : Below base wr w4 := ⟨hg'.os.trans hb.os, hg'.tape.trans hb.tape, hg'.output.trans hb.output, Nat.le_trans hs hg'.size, fun k hk => by
  rw [hg'.block k (by omega) fun e => by have := (h.row.lt k e.symm).1; omega]
  exact hb.block k (by omega)⟩
 have hb2 : Below base w2 w4 := ⟨hg'.os, hg'.tape, hg'.output, hg'.size, fun k hk => hg'.block k (by omega) fun e => by have := (h.row.lt k e.symm).1; omega⟩
 refine ⟨⟨by rw [hl, flatG_snoc]; exact hown, fun k hk => ?_⟩, hbe⟩
 by_cases e' : k < es.length
 ·rw [List.getElem_append_left e']
  exact ⟨((h.rd k e').1.below hbe hB), ((h.rd k e').2.below hbe hB)⟩
 ·have e2 : k = es.length := by rw [hl] at hk; omega
  subst e2
  have e3 : (es ++ [e])[es.length] = e := by simp
  rw [e3]
  exact ⟨q1.below hb2 hB, q2.below hb2 hB⟩
theorem ViewR.rules (h : ViewR B base wr es A c) (hB : B <= wr.heap.size) : RdRules wr wr.heap.size (.slice A es.length c) (es.map (·.1)) := by
 have hcells := @World.ownsRow.cells wr base 138 3 (.slice A es.length c) es.length (flatG es) h.row
 have hlt := h.row.lt
 rcases h.row.2 with ⟨e, h0⟩ | ⟨g, cq, cur, e, hbg, hgg, hn, _⟩
 ·injection e with e1 _ e2
  subst e1
  refine ⟨.none, c, by rw [List.length_map], by rw [List.length_map]; omega, fun hp => ?_⟩
  rw [List.length_map] at hp
  omega
 ·injection e with e1 _ e2
  subst e1
  refine ⟨_, c, by rw [List.length_map], by rw [List.length_map]; omega, fun hp => ⟨g, 0, rfl, (hlt g rfl).2, fun k hk => ?_⟩⟩
  rw [List.length_map] at hk
  obtain ⟨f0, f1, f2⟩ := flatG_at es k hk
  have c0 := hcells (g := g) rfl (k * 3) _ f0
  have c1 := hcells (g := g) rfl (k * 3 + 1) _ f1
  have c2 := hcells (g := g) rfl (k * 3 + 2) _ f2
  rw [Go.WideShapes.add_plain] at c0 c1 c2
  refine ⟨_, _, _, c0, by simpa [Nat.add_assoc] using c1, by simpa [Nat.add_assoc] using c2, ?_⟩
  rw [List.getElem_map]
  exact ⟨rfl, (h.rd k hk).1.more hB, (h.rd k hk).2.more hB⟩
end
open Go.RowKit
theorem Tryz.infoFact : (Tryz.prog.info? 66).map (fun i => (i.zero, i.size, i.bytes)) = some (some (.agg #[.int .i64 0, .slice none 0 0]), 2, 32) := by kernel_rfl
structure ToRel (w wr : World) (fs : List LFact) (k : Nat) (av : List Value) : Prop where
 own : OwnArgs wr (w.heap.size + 1) wr.heap.size av ((fs.take k).map (·.2))
 row : ∃ cur : Array Value, Blk wr w.heap.size 66 cur /\ cur.toList = flat (fs.take k) av ++ zeroCells (fs.length - k)
 below : Below w.heap.size w wr
 size : w.heap.size + 1 <= wr.heap.size
theorem ToRel.start (w : World) (fs : List LFact) : ToRel w (w.alloc (.cells (madeCells #[.int .i64 0, .slice none 0 0] (fs.length * 2)) 66)) fs 0 [] :=
 ⟨by simpa using OwnArgs.nil, ⟨_, Blk.new _ _ _, by simp [madeCells_facts, flat]⟩, below1 _ _, by simp⟩
theorem ToRel.room {w wr : World} {fs : List LFact} {k : Nat} {av : List Value} (hr : ToRel w wr fs k av) (hlt : k < fs.length) {w4 : World} (hb : Below wr.heap.size wr w4) :
 w4.cell? ⟨w.heap.size, k * 2, none⟩ = some (.int .i64 0) /\ w4.cell? ⟨w.heap.size, k * 2 + 1, none⟩ = some (.slice none 0 0) /\ w4.frozen? ⟨w.heap.size, k * 2, none⟩ = false /\ w4.frozen? ⟨w.heap.size, k * 2 + 1, none⟩ = false := by
 obtain ⟨ho, ⟨cur, hB, hcur⟩, hbe, hsz⟩ := hr
 have hB4 := hB.below hb (by omega)
 have hl : (flat (fs.take k) av).length = k * 2 := by
  rw [flat_length _ _ (by simpa using ho.len)]
  simp
  omega
 have hz : ∀ j, j < 2 -> cur[k * 2 + j]? = some (if j % 2 = 0 then .int .i64 0 else .slice none 0 0) := fun j hj => by
  rw [<- Array.getElem?_toList, hcur, List.getElem?_append_right (by omega), hl, show k * 2 + j - k * 2 = j by omega]
  exact zeroCells_at _ _ (by omega)
 exact ⟨(hB4.cell _).trans (hz 0 (by omega)), (hB4.cell _).trans (hz 1 (by omega)), hB4.frozen _, hB4.frozen _⟩
theorem ToRel.step {w wr : World} {fs : List LFact} {k : Nat} {av : List Value} (hr : ToRel w wr fs k av) (hlt : k < fs.length) {w4 : World} (hb : Below wr.heap.size wr w4) {a : Value}
 (ha : OwnInts w4 wr.heap.size w4.heap.size a fs[k].2) : ToRel w ((w4.setCell ⟨w.heap.size, k * 2, none⟩ (.int .i64 fs[k].1)).setCell ⟨w.heap.size, k * 2 + 1, none⟩ a) fs (k + 1) (av ++ [a]) := by
 obtain ⟨ho, ⟨cur, hB, hcur⟩, hbe, hsz⟩ := hr
 have hB4 := hB.below hb (by omega)
 have hl : (flat (fs.take k) av).length = k * 2 := by
  rw [flat_length _ _ (by simpa using ho.len)]
  simp
  omega
 have hs4 := hb.size
 refine ⟨?_, ⟨_, (hB4.set_ _ _).set_ _ _, ?_⟩, ((hbe.trans (hb.mono hbe.size)).setCell (Nat.le_refl _) _).setCell (Nat.le_refl _) _, by simp; omega⟩
 ·have h1 := ((ho.below hb (Nat.le_refl _)).snoc ha (by omega) hs4)
  have h2 := (h1.set (p := ⟨w.heap.size, k * 2, none⟩) (.inl (by simp)) (.int .i64 fs[k].1)).set (p := ⟨w.heap.size, k * 2 + 1, none⟩) (.inl (by simp)) a
  have hs : ((w4.setCell ⟨w.heap.size, k * 2, none⟩ (.int .i64 fs[k].1)).setCell ⟨w.heap.size, k * 2 + 1, none⟩ a).heap.size = w4.heap.size := by simp
  rw [take_snoc fs k hlt, List.map_append, hs]
  exact h2
 ·rw [take_snoc fs k hlt, flat_snoc _ _ (by simpa using ho.len)]
  obtain ⟨m, hm⟩ : ∃ m, fs.length - k = m + 1 := ⟨fs.length - k - 1, by omega⟩
  rw [show fs.length - (k + 1) = m by omega]
  simp [Array.toList_setIfInBounds, hcur, hm, zeroCells, List.set_append_right, hl]
theorem ToRel.done {w wr : World} {fs : List LFact} {av : List Value} (hr : ToRel w wr fs fs.length av) (hm : fs.length <= maxLen) : OwnFacts wr w.heap.size wr.heap.size (.slice (some ⟨w.heap.size, 0, none⟩) fs.length fs.length) fs := by
 obtain ⟨ho, ⟨cur, hB, hcur⟩, hbe, hsz⟩ := hr
 simp only [List.take_length, Nat.sub_self, zeroCells, List.append_nil] at ho hcur
 have hl := flat_length fs av (by simpa using ho.len)
 have hcl : cur.size = fs.length * 2 := by rw [<- Array.length_toList, hcur, hl]
 refine ⟨av, ho.mono (by omega) (Nat.le_refl _), ⟨hl, .inr ⟨w.heap.size, fs.length, cur, rfl, Nat.le_refl _, hB, Nat.le_refl _, hm, hcl, ?_⟩⟩, fun g hg => ?_⟩
 ·rw [hcur, <- hl, List.take_length]
 ·simp [Value.ownBlock] at hg
  omega
set_option maxHeartbeats 400000 in
theorem toFactS_any (v : Value) (fs : List LFact) (w : World) (h : RdFacts w w.heap.size v fs) (hl : fs.length <= 1048576) (hn : tot fs <= 1048576) :
 Calls Tryz.prog 16 #[v] w fun e w' => ∃ A' c', e = .returned (.slice A' fs.length c') /\ OwnFacts w' w.heap.size w'.heap.size (.slice A' fs.length c') fs /\ Below w.heap.size w w' := by
 obtain ⟨i0, hi0, hz0, hz1, hz2⟩ := info_parts Tryz.infoFact
 have hmk := fun W => run_make_rowN (P := Tryz.prog) 29 66 i0 (.agg #[.int .i64 0, .slice none 0 0]) Tryz.underlying29 hi0 hz0 .i64 .i64 fs.length fs.length (Nat.le_refl _) (by rw [hz2]; omega) (by omega) W
 rw [hz1] at hmk
 simp only [Value.cells] at hmk
 have H := Lib.hid h
 obtain ⟨A, c, rfl, hc, hcell⟩ := h
 go_enter Tryz.func16, Tryz.ntmps16
 go_wp2_with (fail)
 go_loopw [4] (fun i wr => ∃ (k : Nat) (av : List Value), k <= fs.length /\ i = .int .i64 k /\ ToRel w wr fs k av) (fun i _ => fs.length - (intOf i).toNat)
 case atStart => exact ⟨0, [], Nat.zero_le _, rfl, ToRel.start w fs⟩
 case round =>
  obtain ⟨k, av, hk, rfl, hr⟩ := hrel
  by_cases hlt : k < fs.length
  ·obtain ⟨b, o, rfl, hbB, hx⟩ := hcell (by omega)
   obtain ⟨a, hc1, hc2, hc3⟩ := hx k hlt
   have hk1 : wr.cell? ⟨b, o + k * 2, none⟩ = some (.int .i64 fs[k].1) := (hr.below.cell (p := ⟨b, o + k * 2, none⟩) hbB).trans hc1
   have hk2 : wr.cell? ⟨b, o + k * 2 + 1, none⟩ = some a := (hr.below.cell (p := ⟨b, o + k * 2 + 1, none⟩) hbB).trans hc2
   have HA := Lib.hid hc3
   obtain ⟨A3, c3, rfl, hc4, _⟩ := hc3
   clear hx hc1 hc2 hcell
   have hln := len_le_tot fs k hlt
   go_wp2_with (fail)
   refine (toFact_any _ fs[k] _ ⟨_, rfl, (HA.out.below hr.below (Nat.le_refl _)).more hr.below.size⟩ (by omega)).mono ?_
   rintro e w4 ⟨A4, c4, rfl, ho4, hb4⟩
   obtain ⟨r1, r2, r3, r4⟩ := hr.room hlt hb4
   have hstep := hr.step hlt hb4 ho4
   go_wp2_with (fail)
   go_roundw
   case rel => exact ⟨k + 1, _, by omega, by go_num, hstep⟩
   case measure => simp [intOf]; omega
  ·have hkn : k = fs.length := by omega
   have HO := Lib.hid (show OwnFacts wr w.heap.size wr.heap.size (.slice (some ⟨w.heap.size, 0, none⟩) fs.length fs.length) fs from ToRel.done (by rw [<- hkn]; exact hr) (by unfold maxLen; omega))
   have hbe := hr.below
   clear hkn hr hcell
   go_wp2_with (fail)
   go_ret
   exact ⟨_, _, rfl, HO.out, hbe⟩
def FSameTo (xs ys : List LFact) (k : Nat) : Prop := xs.take k = ys.take k
theorem FSameTo.step {xs ys : List LFact} {k : Nat} (h : FSameTo xs ys k) (h1 : k < xs.length) (h2 : k < ys.length) (e : xs[k] = ys[k]) : FSameTo xs ys (k + 1) := by
 unfold FSameTo at h ⊢
 rw [take_snoc xs k h1, take_snoc ys k h2, h, e]
theorem FSameTo.eq {xs ys : List LFact} (h : FSameTo xs ys xs.length) (hl : xs.length = ys.length) : xs = ys := by
 unfold FSameTo at h
 rwa [List.take_length, hl, List.take_length] at h
set_option maxHeartbeats 400000 in
set_option maxRecDepth 100000 in
theorem eqFactS_any (va vb : Value) (xs ys : List LFact) (w : World) (ha : RdFacts w w.heap.size va xs) (hb : RdFacts w w.heap.size vb ys) (hx : xs.length <= 1048576) (hy : ys.length <= 1048576) (htx : tot xs <= 1048576) (hty : tot ys <= 1048576) :
 Calls Tryz.prog 18 #[va, vb] w fun e w' => e = .returned (.bool (decide (xs = ys))) /\ Below w.heap.size w w' := by
 obtain ⟨A, c, rfl, hc, ha⟩ := ha
 obtain ⟨A2, c2, rfl, hc2, hb⟩ := hb
 by_cases hl : xs.length = ys.length
 ·have hl1 : ((xs.length : Int) != (ys.length : Int)) = false := by simp [hl]
  have HL := Lib.hid hl
  clear hl
  go_enter Tryz.func18, Tryz.ntmps18
  go_wp2_with (fail)
  go_loopw [5] (fun i wr => ∃ k : Nat, k <= xs.length /\ i = .int .i64 k /\ FSameTo xs ys k /\ Below w.heap.size w wr) (fun i _ => xs.length - (intOf i).toNat)
  case atStart => exact ⟨0, Nat.zero_le _, rfl, rfl, Below.refl _ _⟩
  case round =>
   obtain ⟨k, hk, rfl, hs, hbe⟩ := hrel
   by_cases hlt : k < xs.length
   ·have hlt2 : k < ys.length := by have := HL.out; omega
    obtain ⟨b, o, rfl, hbB, hxx⟩ := ha (by omega)
    obtain ⟨b2, o2, rfl, hbB2, hyy⟩ := hb (by omega)
    obtain ⟨a, p1, p2, p3⟩ := hxx k hlt
    obtain ⟨a', q1, q2, q3⟩ := hyy k hlt2
    have k1 : wr.cell? ⟨b, o + k * 2, none⟩ = some (.int .i64 xs[k].1) := (hbe.cell (p := ⟨b, o + k * 2, none⟩) hbB).trans p1
    have k2 : wr.cell? ⟨b, o + k * 2 + 1, none⟩ = some a := (hbe.cell (p := ⟨b, o + k * 2 + 1, none⟩) hbB).trans p2
    have k3 : wr.cell? ⟨b2, o2 + k * 2, none⟩ = some (.int .i64 ys[k].1) := (hbe.cell (p := ⟨b2, o2 + k * 2, none⟩) hbB2).trans q1
    have k4 : wr.cell? ⟨b2, o2 + k * 2 + 1, none⟩ = some a' := (hbe.cell (p := ⟨b2, o2 + k * 2 + 1, none⟩) hbB2).trans q2
    have hln := len_le_tot xs k hlt
    have hln2 := len_le_tot ys k hlt2
    have HA := Lib.hid p3
    have HA2 := Lib.hid q3
    obtain ⟨A3, c3, rfl, hc3, _⟩ := p3
    obtain ⟨A4, c4, rfl, hc4, _⟩ := q3
    clear hxx hyy ha hb p1 p2 q1 q2
    go_wp2_with (fail)
    go_still_tail 8, (by kernel_rfl)
    change wpList _ _ _ _ _ wr.drew
    obtain ⟨w2, hw2⟩ : ∃ w2, w2 = wr.drew := ⟨_, rfl⟩
    rw [<- hw2]
    have hbe2 : Below w.heap.size w w2 := by rw [hw2]; exact hbe.drew
    clear hw2
    go_wp2_with (fail)
    refine (eqFact_any _ _ xs[k] ys[k] _ ⟨_, rfl, (HA.out.below hbe2 (Nat.le_refl _)).more hbe2.size⟩ ⟨_, rfl, (HA2.out.below hbe2 (Nat.le_refl _)).more hbe2.size⟩ (by omega) (by omega)).mono ?_
    rintro e w4 ⟨rfl, hb4⟩
    have hB4 := hbe2.trans (hb4.mono hbe2.size)
    by_cases he : xs[k] = ys[k]
    ·have hdb : decide (xs[k] = ys[k]) = true := by simp [he]
     have HS := Lib.hid (hs.step hlt hlt2 he)
     clear he hs
     go_wp2_with (fail)
     go_roundw
     case rel => exact ⟨k + 1, by omega, by go_num, HS.out, hB4⟩
     case measure => simp [intOf]; omega
    ·have hdb : decide (xs[k] = ys[k]) = false := by simp [he]
     have HE := Lib.hid (show xs ≠ ys from fun e => he (by subst e; rfl))
     clear he hs
     go_wp2_with (fail)
     go_ret
     exact ⟨ret_bool (by simp [HE.out]), hB4⟩
   ·have hkn : k = xs.length := by omega
    have HE := Lib.hid (show xs = ys from FSameTo.eq (by rw [<- hkn]; exact hs) HL.out)
    clear hkn hs ha hb
    go_wp2_with (fail)
    go_ret
    exact ⟨ret_bool (by simp [HE.out]), hbe⟩
 ·have hl1 : ((xs.length : Int) != (ys.length : Int)) = true := by simp; omega
  have HE := Lib.hid (show xs ≠ ys from fun e => hl (by rw [e]))
  clear ha hb hl
  go_enter Tryz.func18, Tryz.ntmps18
  go_wp2_with (fail)
  go_ret
  exact ⟨ret_bool (by simp [HE.out]), Below.refl _ _⟩
def SzResF (r left : Int) (fs : List LFact) : Prop := r = -1 \/ (0 <= r /\ r + fs.length + tot fs = left)
def SzToF (r left : Int) (fs : List LFact) (k : Nat) : Prop := 0 <= r /\ r + fs.length + tot (fs.take k) = left
set_option maxHeartbeats 400000 in
theorem szFactS_any (v : Value) (fs : List LFact) (left : Int) (w : World) (h : RdFacts w w.heap.size v fs) (h0 : 0 <= left) (hl : left <= 1048576) (hn : fs.length <= 9223372036854775807) (hm : ∀ k (h : k < fs.length), fs[k].2.length <= 9223372036854775807) :
 Calls Tryz.prog 13 #[v, .int .i64 left] w fun e w' => ∃ r, e = .returned (.int .i64 r) /\ SzResF r left fs /\ Below w.heap.size w w' := by
 obtain ⟨A, c, rfl, hc, hcell⟩ := h
 by_cases hneg : left - (fs.length : Int) < 0
 ·go_enter Tryz.func13, Tryz.ntmps13
  go_wp2_with (fail)
  go_ret
  exact ⟨_, rfl, .inl rfl, Below.refl _ _⟩
 ·go_enter Tryz.func13, Tryz.ntmps13
  go_wp2_with (fail)
  go_loopw [1, 5] (fun l i wr => ∃ (k : Nat) (r : Int), k <= fs.length /\ i = .int .i64 k /\ l = .int .i64 r /\ SzToF r left fs k /\ Below w.heap.size w wr) (fun _ i _ => fs.length - (intOf i).toNat)
  case atStart => exact ⟨0, _, Nat.zero_le _, rfl, rfl, ⟨by omega, by simp [tot]⟩, Below.refl _ _⟩
  case round =>
   obtain ⟨k, r, hk, rfl, rfl, hs, hbe⟩ := hrel
   by_cases hlt : k < fs.length
   ·obtain ⟨b, o, rfl, hbB, hx⟩ := hcell (by omega)
    obtain ⟨a, p1, p2, p3⟩ := hx k hlt
    have k1 : wr.cell? ⟨b, o + k * 2, none⟩ = some (.int .i64 fs[k].1) := (hbe.cell (p := ⟨b, o + k * 2, none⟩) hbB).trans p1
    have k2 : wr.cell? ⟨b, o + k * 2 + 1, none⟩ = some a := (hbe.cell (p := ⟨b, o + k * 2 + 1, none⟩) hbB).trans p2
    have HA := Lib.hid p3
    obtain ⟨A3, c3, rfl, hc3, _⟩ := p3
    have hmk := hm k hlt
    have htk := tot_take fs k hlt
    have hcs := szV_cases r fs[k].2.length
    have hr0 := hs.1
    have hr1 := hs.2
    have HT := Lib.hid (And.intro htk hr1)
    clear htk hr1 hx p1 p2 hcell
    go_wp2_with (fail)
    refine (szFact_any _ fs[k] r _ ⟨_, rfl, (HA.out.below hbe (Nat.le_refl _)).more hbe.size⟩ hr0 (by have := HT.out; omega) hmk).mono ?_
    rintro e w4 ⟨rfl, hb4⟩
    have hB4 := hbe.trans (hb4.mono hbe.size)
    rcases hcs with ⟨e1, _⟩ | ⟨e1, e2⟩
    ·rw [e1]
     clear e1
     go_wp2_with (fail)
     go_ret
     exact ⟨_, rfl, .inl rfl, hB4⟩
    ·have h1 : ¬ szV r fs[k].2.length < 0 := by omega
     have HS := Lib.hid (show SzToF (szV r fs[k].2.length) left fs (k + 1) from ⟨e1, by have := HT.out; omega⟩)
     clear e2
     go_wp2_with (fail)
     go_roundw
     case rel => exact ⟨k + 1, _, by omega, by go_num, rfl, HS.out, hB4⟩
     case measure => simp [intOf]; omega
   ·have hkn : k = fs.length := by omega
    have HE := Lib.hid (show SzResF r left fs from .inr ⟨hs.1, by have := hs.2; rw [hkn, List.take_length] at this; exact this⟩)
    clear hkn hs hcell
    go_wp2_with (fail)
    go_ret
    exact ⟨_, rfl, HE.out, hbe⟩
open Go.RowKit
section
variable {lo hi lo' hi' : Nat} {w w1 w' : World}
theorem OwnFacts.only {v : Value} {fs : List LFact} (h : OwnFacts w lo hi v fs) (ho : Only lo' hi' w w') (hd : hi <= lo' \/ hi' <= lo) : OwnFacts w' lo hi v fs := by
 obtain ⟨av, ha, hr, hlt⟩ := h
 exact ⟨av, ⟨ha.len, fun i h1 h2 => (ha.own i h1 h2).only ho hd, ha.apart⟩, ownsRow_only hr (fun g hg => ho.block g (hr.lt g hg).2 (by have := hr.lt g hg; have := hlt g hg; omega)), hlt⟩
end
open Go.RowKit
theorem l1In_any (n lo hi : Int) (w : World) : Calls Tryz.prog 124 #[.int .i64 n, .int .i64 lo, .int .i64 hi] w fun e w' => e = .returned (.bool (decide (lo <= n /\ n <= hi))) /\ w = w' := by
 by_cases h1 : lo <= n
 ·by_cases h2 : n <= hi
  all_goals
   go_enter Tryz.func124, Tryz.ntmps124
   go_wp2
   go_ret
   exact ⟨ret_bool (by simp [*]), rfl⟩
 ·have hd : decide (lo <= n) = false := by simpa using h1
  go_enter Tryz.func124, Tryz.ntmps124
  go_wp2
  go_ret
  exact ⟨ret_bool (by simp [*]), rfl⟩
theorem l1In_yes {n lo hi : Int} (h : lo <= n /\ n <= hi) (w : World) : Calls Tryz.prog 124 #[.int .i64 n, .int .i64 lo, .int .i64 hi] w fun e w' => e = .returned (.bool true) /\ w = w' :=
 (l1In_any n lo hi w).mono fun _ _ ⟨he, hw⟩ => ⟨by rw [he, decide_eq_true h], hw⟩
theorem l1In_no {n lo hi : Int} (h : ¬ (lo <= n /\ n <= hi)) (w : World) : Calls Tryz.prog 124 #[.int .i64 n, .int .i64 lo, .int .i64 hi] w fun e w' => e = .returned (.bool false) /\ w = w' :=
 (l1In_any n lo hi w).mono fun _ _ ⟨he, hw⟩ => ⟨by rw [he, decide_eq_false h], hw⟩
open Go.RowKit
def placeOk (x : Int) : Bool := decide (0 <= x /\ x <= 2)
def arityOk (xs : List Int) : Bool := decide (xs.length <= 24) && xs.all placeOk
def PlacesTo (xs : List Int) (k : Nat) : Prop := ∀ j, j < k -> placeOk (xs.getD j 0) = true
theorem PlacesTo.step {xs : List Int} {k : Nat} (h : PlacesTo xs k) (e : placeOk (xs.getD k 0) = true) : PlacesTo xs (k + 1) := fun j hj => by
 by_cases h2 : j = k
 ·subst h2; exact e
 ·exact h j (by omega)
theorem PlacesTo.all {xs : List Int} (h : PlacesTo xs xs.length) : xs.all placeOk = true := by
 rw [List.all_eq_true]
 intro x hx
 obtain ⟨j, hj, rfl⟩ := List.getElem_of_mem hx
 have := h j hj
 simpa [hj] using this
theorem places_not {xs : List Int} {k : Nat} (hk : k < xs.length) (e : placeOk xs[k] = false) : xs.all placeOk = false := by
 rw [List.all_eq_false]
 exact ⟨xs[k], List.getElem_mem hk, by simp [e]⟩
set_option maxHeartbeats 400000 in
theorem specArityOk_any (v : Value) (xs : List Int) (w : World) (h : RdInts w w.heap.size v xs) (hr : xs.length * 8 <= 140737488351232) :
 Calls Tryz.prog 121 #[v] w fun e w' => e = .returned (.bool (arityOk xs)) /\ w = w' := by
 obtain ⟨A, c, rfl, hc, ha⟩ := h
 go_enter Tryz.func121, Tryz.ntmps121
 go_wp2_with (fail)
 go_loop [3] (fun i => ∃ k : Nat, k <= xs.length /\ i = .int .i64 k /\ PlacesTo xs k) (fun i => xs.length - (intOf i).toNat)
 case atStart => exact ⟨0, Nat.zero_le _, rfl, fun j hj => absurd hj (by omega)⟩
 case round =>
  obtain ⟨k, hk, rfl, hs⟩ := hrel
  by_cases hlt : k < xs.length
  ·obtain ⟨b, o, rfl, hbB, hx⟩ := ha (by omega)
   have hck : w.cell? ⟨b, o + k, none⟩ = some (.int .i64 xs[k]) := hx k hlt
   clear hx ha
   by_cases he : 0 <= xs[k] /\ xs[k] <= 2
   ·have HS := Lib.hid (hs.step (by simpa [hlt, placeOk] using he))
    clear hs
    go_wp2_with (go_at_call 124; refine (l1In_any _ _ _ _).mono ?_; rintro e w' ⟨rfl, rfl⟩)
    go_round
    case rel => exact ⟨k + 1, by omega, by go_num, HS.out⟩
    case measure => simp [intOf]; omega
   ·have hd : decide (0 <= xs[k] /\ xs[k] <= 2) = false := by simpa using he
    have HE := Lib.hid (places_not hlt (by simpa [placeOk] using he))
    clear hs he
    go_wp2_with (go_at_call 124; refine (l1In_any _ _ _ _).mono ?_; rintro e w' ⟨rfl, rfl⟩)
    go_ret
    exact ⟨ret_bool (by simp [arityOk, HE.out]), rfl⟩
  ·have hkn : k = xs.length := by omega
   have HE := Lib.hid (show xs.all placeOk = true from PlacesTo.all (by rw [<- hkn]; exact hs))
   clear hkn hs ha
   go_wp2_with (fail)
   go_ret
   exact ⟨ret_bool (by unfold arityOk; rw [HE.out]; simp; try omega), rfl⟩
set_option maxHeartbeats 400000 in
theorem arityOk_any (v : Value) (xs : List Int) (w : World) (h : RdInts w w.heap.size v xs) (hr : xs.length * 8 <= 140737488351232) :
 Calls Tryz.prog 129 #[v] w fun e w' => e = .returned (.bool (arityOk xs)) /\ Below w.heap.size w w' := by
 obtain ⟨A, c, rfl, hc, ha⟩ := h
 by_cases hl : xs.length <= 24
 ·go_enter Tryz.func129, Tryz.ntmps129
  go_wp2
  go_loopw [4, 10] (fun _ i wr => ∃ k : Nat, k <= xs.length /\ i = .int .i64 k /\ PlacesTo xs k /\ Below w.heap.size w wr) (fun _ i _ => xs.length - (intOf i).toNat)
  case atStart => exact ⟨0, Nat.zero_le _, rfl, fun j hj => absurd hj (by omega), Below.refl _ _⟩
  case round =>
   obtain ⟨k, hk, rfl, hs, hbe⟩ := hrel
   by_cases hlt : k < xs.length
   ·obtain ⟨b, o, rfl, hbB, hx⟩ := ha (by omega)
    have hck : wr.cell? ⟨b, o + k, none⟩ = some (.int .i64 xs[k]) := (hbe.cell (p := ⟨b, o + k, none⟩) hbB).trans (hx k hlt)
    clear hx ha
    by_cases h0 : xs[k] < 0
    ·have HE := Lib.hid (places_not hlt (by simp [placeOk]; omega))
     clear hs
     go_wp2
     go_ret
     exact ⟨ret_bool (by simp [arityOk, HE.out]), hbe⟩
    ·have hd : decide (xs[k] < 0) = false := by simpa using h0
     by_cases h2 : 2 < xs[k]
     ·have HE := Lib.hid (places_not hlt (by simp [placeOk]; omega))
      clear hs
      go_wp2
      go_ret
      exact ⟨ret_bool (by simp [arityOk, HE.out]), hbe⟩
     ·have HS := Lib.hid (hs.step (by simp [hlt, placeOk]; omega))
      clear hs
      go_wp2
      go_roundw
      case rel => exact ⟨k + 1, by omega, by go_num, HS.out, hbe⟩
      case measure => simp [intOf]; omega
   ·have hkn : k = xs.length := by omega
    have HE := Lib.hid (show xs.all placeOk = true from PlacesTo.all (by rw [<- hkn]; exact hs))
    have HL := Lib.hid hl
    clear hkn hs ha
    go_wp2
    go_ret
    exact ⟨ret_bool (by unfold arityOk; rw [HE.out]; simp [HL.out]), hbe⟩
 ·have HL := Lib.hid hl
  have hg : (24 : Int) < xs.length := by omega
  clear ha
  go_enter Tryz.func129, Tryz.ntmps129
  go_wp2
  go_ret
  exact ⟨ret_bool (by simp [arityOk, HL.out]), Below.refl _ _⟩
open Go.RowKit
def cmpI (a b : Int) : Int := if a < b then -1 else if b < a then 1 else 0
def cmpL : List Int -> List Int -> Int
 | [], [] => 0
 | [], _ :: _ => -1
 | _ :: _, [] => 1
 | x :: xs, y :: ys => if x = y then cmpL xs ys else cmpI x y
def factOrder (f g : LFact) : Int := if f.1 = g.1 then cmpL f.2 g.2 else cmpI f.1 g.1
theorem cmpL_at {xs ys : List Int} {k : Nat} (h1 : k < xs.length) (h2 : k < ys.length) : cmpL (xs.drop k) (ys.drop k) = if xs[k] = ys[k] then cmpL (xs.drop (k + 1)) (ys.drop (k + 1)) else cmpI xs[k] ys[k] := by
 rw [List.drop_eq_getElem_cons h1, List.drop_eq_getElem_cons h2]
 rfl
theorem cmpL_long {xs ys : List Int} {k : Nat} (h1 : k < xs.length) (h2 : ys.length <= k) : cmpL (xs.drop k) (ys.drop k) = 1 := by
 rw [List.drop_eq_getElem_cons h1, List.drop_eq_nil_of_le h2]
 rfl
theorem cmpL_short {xs ys : List Int} {k : Nat} (h1 : xs.length <= k) (h2 : k < ys.length) : cmpL (xs.drop k) (ys.drop k) = -1 := by
 rw [List.drop_eq_nil_of_le h1, List.drop_eq_getElem_cons h2]
 rfl
theorem cmpL_end {xs ys : List Int} {k : Nat} (h1 : xs.length <= k) (h2 : ys.length <= k) : cmpL (xs.drop k) (ys.drop k) = 0 := by
 rw [List.drop_eq_nil_of_le h1, List.drop_eq_nil_of_le h2]
 rfl
theorem cmpI_ne {a b : Int} (h : a ≠ b) : cmpI a b ≠ 0 := by
 unfold cmpI
 split
 ·omega
 ·split <;> omega
theorem cmpI_zero {a b : Int} (h : cmpI a b = 0) : a = b := by
 unfold cmpI at h
 split at h
 ·omega
 ·split at h <;> omega
theorem cmpI_self (a : Int) : cmpI a a = 0 := by simp [cmpI]
def CmpTo (xs ys : List Int) (k : Nat) : Prop := cmpL xs ys = cmpL (xs.drop k) (ys.drop k)
theorem isNaN_any (a : Int) (w : World) : Calls Tryz.prog 221 #[.int .i64 a] w fun e w' => e = .returned (.bool false) /\ w = w' := by
 have h : (a != a) = false := by simp
 go_enter Tryz.func221, Tryz.ntmps221
 go_wp2_with (fail)
 go_ret
 exact ⟨rfl, rfl⟩
set_option maxHeartbeats 400000 in
theorem cmpCompare_any (a b : Int) (w : World) : Calls Tryz.prog 184 #[.int .i64 a, .int .i64 b] w fun e w' => e = .returned (.int .i64 (cmpI a b)) /\ w = w' := by
 by_cases h1 : a < b
 ·have HE := Lib.hid (show cmpI a b = -1 by simp [cmpI, h1])
  go_enter Tryz.func184, Tryz.ntmps184
  go_wp2_with (go_at_call 221; refine (isNaN_any _ _).mono ?_; rintro e w' ⟨rfl, rfl⟩)
  go_ret
  exact ⟨ret_int HE.out.symm, rfl⟩
 ·by_cases h2 : b < a
  ·have HE := Lib.hid (show cmpI a b = 1 by simp [cmpI, h1, h2])
   go_enter Tryz.func184, Tryz.ntmps184
   go_wp2_with (go_at_call 221; refine (isNaN_any _ _).mono ?_; rintro e w' ⟨rfl, rfl⟩)
   go_ret
   exact ⟨ret_int HE.out.symm, rfl⟩
  ·have HE := Lib.hid (show cmpI a b = 0 by simp [cmpI, h1, h2])
   go_enter Tryz.func184, Tryz.ntmps184
   go_wp2_with (go_at_call 221; refine (isNaN_any _ _).mono ?_; rintro e w' ⟨rfl, rfl⟩)
   go_ret
   exact ⟨ret_int HE.out.symm, rfl⟩
theorem l1Way_any (a b : Int) (w : World) : Calls Tryz.prog 171 #[.int .i64 a, .int .i64 b] w fun e w' => e = .returned (.int .i64 (cmpI a b)) /\ w = w' := by
 by_cases h1 : a < b
 ·have HE := Lib.hid (show cmpI a b = -1 by simp [cmpI, h1])
  go_enter Tryz.func171, Tryz.ntmps171
  go_wp2_with (fail)
  go_ret
  exact ⟨ret_int HE.out.symm, rfl⟩
 ·by_cases h2 : b < a
  ·have HE := Lib.hid (show cmpI a b = 1 by simp [cmpI, h1, h2])
   go_enter Tryz.func171, Tryz.ntmps171
   go_wp2_with (fail)
   go_ret
   exact ⟨ret_int HE.out.symm, rfl⟩
  ·have HE := Lib.hid (show cmpI a b = 0 by simp [cmpI, h1, h2])
   go_enter Tryz.func171, Tryz.ntmps171
   go_wp2_with (fail)
   go_ret
   exact ⟨ret_int HE.out.symm, rfl⟩
set_option maxHeartbeats 400000 in
theorem slicesCompare_any (va vb : Value) (xs ys : List Int) (w : World) (ha : RdInts w w.heap.size va xs) (hb : RdInts w w.heap.size vb ys) (hr : xs.length * 8 <= 140737488351232) (hr2 : ys.length * 8 <= 140737488351232) :
 Calls Tryz.prog 185 #[va, vb] w fun e w' => e = .returned (.int .i64 (cmpL xs ys)) /\ w = w' := by
 obtain ⟨A, c, rfl, hc, ha⟩ := ha
 obtain ⟨A2, c2, rfl, hc2, hb⟩ := hb
 go_enter Tryz.func185, Tryz.ntmps185
 go_wp2_with (fail)
 go_loop [5, 6, 7, 8, 11] (fun _ _ _ _ i => ∃ k : Nat, k <= xs.length /\ i = .int .i64 k /\ (0 < k -> k <= ys.length) /\ CmpTo xs ys k) (fun _ _ _ _ i => xs.length - (intOf i).toNat)
 case atStart => exact ⟨0, Nat.zero_le _, rfl, fun h => absurd h (by omega), rfl⟩
 case round =>
  obtain ⟨k, hk, rfl, hky, hs⟩ := hrel
  by_cases hlt : k < xs.length
  ·obtain ⟨b, o, rfl, hbB, hx⟩ := ha (by omega)
   have hck := hx k hlt
   by_cases hlt2 : k < ys.length
   ·obtain ⟨b2, o2, rfl, hbB2, hx2⟩ := hb (by omega)
    have hck2 := hx2 k hlt2
    have hge : ¬ ys.length <= k := by omega
    clear hx hx2 ha hb
    by_cases he : xs[k] = ys[k]
    ·have HS := Lib.hid (show CmpTo xs ys (k + 1) by unfold CmpTo at hs ⊢; rw [hs, cmpL_at hlt hlt2, if_pos he])
     have h0 : (cmpI xs[k] ys[k] != 0) = false := by rw [he, cmpI_self]; rfl
     clear he hs hky
     go_wp2_with (go_at_call 184; refine (cmpCompare_any _ _ _).mono ?_; rintro e w' ⟨rfl, rfl⟩)
     go_round
     case rel => exact ⟨k + 1, by omega, by go_num, fun _ => by omega, HS.out⟩
     case measure => simp [intOf]; omega
    ·have HS := Lib.hid (show cmpL xs ys = cmpI xs[k] ys[k] by unfold CmpTo at hs; rw [hs, cmpL_at hlt hlt2, if_neg he])
     have h0 : (cmpI xs[k] ys[k] != 0) = true := by simp [cmpI_ne he]
     clear he hs hky
     go_wp2_with (go_at_call 184; refine (cmpCompare_any _ _ _).mono ?_; rintro e w' ⟨rfl, rfl⟩)
     go_ret
     exact ⟨ret_int HS.out.symm, rfl⟩
   ·have HS := Lib.hid (show cmpL xs ys = 1 by unfold CmpTo at hs; rw [hs, cmpL_long hlt (by omega)])
    have hge : ys.length <= k := by omega
    clear hs hky hx ha hb
    go_wp2_with (fail)
    go_ret
    exact ⟨ret_int HS.out.symm, rfl⟩
  ·have hkn : xs.length = k := by omega
   by_cases hlt2 : xs.length < ys.length
   ·have HS := Lib.hid (show cmpL xs ys = -1 by unfold CmpTo at hs; rw [hs, cmpL_short (by omega) (by omega)])
    clear hs hky hkn ha hb
    go_wp2_with (fail)
    go_ret
    exact ⟨ret_int HS.out.symm, rfl⟩
   ·have HS := Lib.hid (show cmpL xs ys = 0 by
     unfold CmpTo at hs
     rcases Nat.eq_zero_or_pos k with h0 | h0
     ·rw [hs, cmpL_end (by omega) (by omega)]
     ·rw [hs, cmpL_end (by omega) (by have := hky h0; omega)])
    clear hs hky hkn ha hb
    go_wp2_with (fail)
    go_ret
    exact ⟨ret_int HS.out.symm, rfl⟩
open Go.RowKit
def orI (a b : Int) : Int := if a = 0 then b else a
set_option maxHeartbeats 400000 in
theorem cmpOr_any (v : Value) (a b : Int) (w : World) (h : RdInts w w.heap.size v [a, b]) :
 Calls Tryz.prog 183 #[v] w fun e w' => e = .returned (.int .i64 (orI a b)) /\ w = w' := by
 obtain ⟨A, c, rfl, hc, ha⟩ := h
 obtain ⟨bb, o, rfl, hbB, hx⟩ := ha (by simp)
 have h0 : w.cell? ⟨bb, o, none⟩ = some (.int .i64 a) := by simpa using hx 0 (by simp)
 have h1 : w.cell? ⟨bb, o + 1, none⟩ = some (.int .i64 b) := by simpa using hx 1 (by simp)
 clear hx ha
 have hll : ([a, b] : List Int).length = 2 := rfl
 rw [hll]
 go_enter Tryz.func183, Tryz.ntmps183
 go_wp2_with (fail)
 go_loop [5, 8] (fun _ i => ∃ k : Nat, k <= 2 /\ i = .int .i64 k /\ (0 < k -> a = 0) /\ (1 < k -> b = 0)) (fun _ i => 2 - (intOf i).toNat)
 case atStart => exact ⟨0, by omega, rfl, fun h => absurd h (by omega), fun h => absurd h (by omega)⟩
 case round =>
  obtain ⟨k, hk, rfl, hk0, hk1⟩ := hrel
  match k, hk with
  | 0, _ =>
   clear hk0 hk1
   by_cases ha0 : a = 0
   ·subst ha0
    go_wp2_with (fail)
    go_round
    case rel => exact ⟨1, by omega, rfl, by simp, fun h => absurd h (by omega)⟩
    case measure => simp [intOf]
   ·have hb : (a != 0) = true := by simpa using ha0
    have HE := Lib.hid (show orI a b = a by simp [orI, ha0])
    clear ha0
    go_wp2_with (fail)
    go_ret
    exact ⟨ret_int HE.out.symm, rfl⟩
  | 1, _ =>
   have ha0 := hk0 (by omega)
   clear hk0 hk1
   subst ha0
   by_cases hb0 : b = 0
   ·subst hb0
    go_wp2_with (fail)
    go_round
    case rel => exact ⟨2, by omega, rfl, by simp, by simp⟩
    case measure => simp [intOf]
   ·have hb : (b != 0) = true := by simpa using hb0
    have HE := Lib.hid (show orI 0 b = b by simp [orI])
    clear hb0
    go_wp2_with (fail)
    go_ret
    exact ⟨ret_int HE.out.symm, rfl⟩
  | 2, _ =>
   have ha0 := hk0 (by omega)
   have hb0 := hk1 (by omega)
   clear hk0 hk1
   subst ha0
   subst hb0
   go_wp2_with (fail)
   go_ret
   exact ⟨ret_int rfl, rfl⟩
theorem factOrder_or (f g : LFact) : orI (cmpI f.1 g.1) (cmpL f.2 g.2) = factOrder f g := by
 unfold orI factOrder
 by_cases h : f.1 = g.1
 ·rw [if_pos h, h, cmpI_self, if_pos rfl]
 ·rw [if_neg h, if_neg (cmpI_ne h)]
set_option maxHeartbeats 400000 in
set_option maxRecDepth 100000 in
theorem implFactOrder_any (v v2 : Value) (f g : LFact) (w : World) (h : RdFact w w.heap.size v f) (h2 : RdFact w w.heap.size v2 g) (hn : f.2.length <= 1048576) (hn2 : g.2.length <= 1048576) :
 Calls Tryz.prog 138 #[v, v2] w fun e w' => e = .returned (.int .i64 (factOrder f g)) /\ Below w.heap.size w w' := by
 obtain ⟨a, rfl, h⟩ := h
 have H := Lib.hid h
 obtain ⟨A, c, rfl, hc, _⟩ := h
 obtain ⟨a, rfl, h2⟩ := h2
 have H2 := Lib.hid h2
 obtain ⟨A2, c2, rfl, hc2, _⟩ := h2
 have HF := Lib.hid (factOrder_or f g)
 go_enter Tryz.func138, Tryz.ntmps138
 go_wp2_with (fail)
 obtain ⟨w1, hw1⟩ : ∃ w1, w1 = ((w.alloc (Obj.cells #[Value.int IntKind.i64 f.1, Value.slice A f.2.length c] 66)).alloc (Obj.cells #[Value.int IntKind.i64 g.1, Value.slice A2 g.2.length c2] 66)) := ⟨_, rfl⟩
 have B1 : Below w.heap.size w w1 := by rw [hw1]; exact below2 _ _ _
 have k0 : Blk w1 w.heap.size 66 #[.int .i64 f.1, .slice A f.2.length c] := by rw [hw1]; exact (Blk.new w _ _).alloc _
 have k1 : Blk w1 (w.heap.size + 1) 66 #[.int .i64 g.1, .slice A2 g.2.length c2] := by rw [hw1]; simpa using Blk.new (w.alloc (Obj.cells #[Value.int IntKind.i64 f.1, Value.slice A f.2.length c] 66)) 66 #[.int .i64 g.1, .slice A2 g.2.length c2]
 rw [<- hw1]
 clear hw1
 have HS0 := Lib.hid (show ∀ W, Below w1.heap.size w1 W -> (Below w1.heap.size w1 W /\ W.cell? ⟨w.heap.size, 0, none⟩ = some (.int .i64 f.1) /\ W.cell? ⟨w.heap.size, 1, none⟩ = some (.slice A f.2.length c) /\ W.cell? ⟨w.heap.size + 1, 0, none⟩ = some (.int .i64 g.1) /\ W.cell? ⟨w.heap.size + 1, 1, none⟩ = some (.slice A2 g.2.length c2)) from
  fun W hW => ⟨hW, (k0.below hW k0.lt).cell 0, (k0.below hW k0.lt).cell 1, (k1.below hW k1.lt).cell 0, (k1.below hW k1.lt).cell 1⟩)
 go_region_held3 (fun W => Below w1.heap.size w1 W /\ W.cell? ⟨w.heap.size, 0, none⟩ = some (.int .i64 f.1) /\ W.cell? ⟨w.heap.size, 1, none⟩ = some (.slice A f.2.length c) /\ W.cell? ⟨w.heap.size + 1, 0, none⟩ = some (.int .i64 g.1) /\ W.cell? ⟨w.heap.size + 1, 1, none⟩ = some (.slice A2 g.2.length c2))
  (first | assumption | exact HS0.out _ (Below.refl _ _) | exact HS0.out _ (below1 _ _).drew | exact HS0.out _ (Below.refl _ _).drew | exact HS0.out _ (bthen (And.left (by assumption)) (by assumption)) | (refine HS0.out _ ?_; go_goals; fail))
  (first
    | (go_at_call 184; refine (cmpCompare_any _ _ _).mono ?_; rintro e w' ⟨rfl, rfl⟩)
    | (go_at_call 185; refine (slicesCompare_any _ _ f.2 g.2 _ ?_ ?_ (by omega) (by omega)).mono ?_; exact H.out.on (bthen B1 (And.left (by assumption))); exact H2.out.on (bthen B1 (And.left (by assumption))); rintro e w' ⟨rfl, rfl⟩)
    | (go_at_call 183; refine (cmpOr_any _ (cmpI f.1 g.1) (cmpL f.2 g.2) _ ?_).mono ?_; exact rdInts_pair _ _ _; rintro e w' ⟨rfl, rfl⟩))
 all_goals
  go_wp2_with (fail)
  go_ret
  exact ⟨ret_int HF.out, bthen B1 (And.left (by assumption))⟩
open Go.RowKit
set_option maxHeartbeats 1000000 in
set_option maxRecDepth 100000 in
theorem specFactOrder_any (v v2 : Value) (f g : LFact) (w : World) (h : RdFact w w.heap.size v f) (h2 : RdFact w w.heap.size v2 g) (hn : f.2.length <= 1048576) (hn2 : g.2.length <= 1048576) :
 Calls Tryz.prog 120 #[v, v2] w fun e w' => e = .returned (.int .i64 (factOrder f g)) /\ Below w.heap.size w w' := by
 obtain ⟨p, xs⟩ := f
 obtain ⟨q, ys⟩ := g
 obtain ⟨a, rfl, A, c, rfl, hc, ha⟩ := h
 obtain ⟨a, rfl, A2, c2, rfl, hc2, hb⟩ := h2
 simp only at ha hb hn hn2 hc hc2
 by_cases hp : p = q
 ·subst hp
  have hpb : (p != p) = false := by simp
  have HE := Lib.hid (show factOrder (p, xs) (p, ys) = cmpL xs ys by simp [factOrder])
  go_enter Tryz.func120, Tryz.ntmps120
  go_wp2_with (fail)
  obtain ⟨w1, hw1⟩ : ∃ w1, w1 = ((w.alloc (Obj.cells #[Value.int IntKind.i64 p, Value.slice A xs.length c] 66)).alloc (Obj.cells #[Value.int IntKind.i64 p, Value.slice A2 ys.length c2] 66)) := ⟨_, rfl⟩
  have B1 : Below w.heap.size w w1 := by rw [hw1]; exact below2 _ _ _
  have k0 : Blk w1 w.heap.size 66 #[.int .i64 p, .slice A xs.length c] := by rw [hw1]; exact (Blk.new w _ _).alloc _
  have k1 : Blk w1 (w.heap.size + 1) 66 #[.int .i64 p, .slice A2 ys.length c2] := by rw [hw1]; simpa using Blk.new (w.alloc (Obj.cells #[Value.int IntKind.i64 p, Value.slice A xs.length c] 66)) 66 #[.int .i64 p, .slice A2 ys.length c2]
  rw [<- hw1]
  clear hw1
  go_loopw [5] (fun i wr => ∃ k : Nat, k <= xs.length /\ k <= ys.length /\ i = .int .i64 k /\ CmpTo xs ys k /\ Below w1.heap.size w1 wr) (fun i _ => xs.length - (intOf i).toNat)
  case atStart => exact ⟨0, Nat.zero_le _, Nat.zero_le _, rfl, rfl, Below.refl _ _⟩
  case round =>
   obtain ⟨k, hk, hk2, rfl, hs, hbe⟩ := hrel
   have c0 : wr.cell? ⟨w.heap.size, 1, none⟩ = some (.slice A xs.length c) := (k0.below hbe k0.lt).cell 1
   have c1 : wr.cell? ⟨w.heap.size + 1, 1, none⟩ = some (.slice A2 ys.length c2) := (k1.below hbe k1.lt).cell 1
   by_cases hlt : k < xs.length
   ·have hd : decide ((k : Int) < (xs.length : Int)) = true := by simp; omega
    by_cases hlt2 : k < ys.length
    ·obtain ⟨b, o, rfl, hbB, hx⟩ := ha (by omega)
     obtain ⟨b2, o2, rfl, hbB2, hx2⟩ := hb (by omega)
     have hB := bthen B1 hbe
     have hck : wr.cell? ⟨b, o + k, none⟩ = some (.int .i64 xs[k]) := (hB.cell (p := ⟨b, o + k, none⟩) hbB).trans (hx k hlt)
     have hck2 : wr.cell? ⟨b2, o2 + k, none⟩ = some (.int .i64 ys[k]) := (hB.cell (p := ⟨b2, o2 + k, none⟩) hbB2).trans (hx2 k hlt2)
     clear hx hx2 ha hb hB
     by_cases he : xs[k] = ys[k]
     ·have HS := Lib.hid (show CmpTo xs ys (k + 1) by unfold CmpTo at hs ⊢; rw [hs, cmpL_at hlt hlt2, if_pos he])
      have h0 : (xs[k] != ys[k]) = false := by simp [he]
      clear he hs
      go_wp2_with (fail)
      go_quiet (fail)
      go_wp2_with (fail)
      go_roundw
      case rel => exact ⟨k + 1, by omega, by omega, by go_num, HS.out, bdrewN hbe _⟩
      case measure => simp [intOf]; omega
     ·have HS := Lib.hid (show cmpL xs ys = cmpI xs[k] ys[k] by unfold CmpTo at hs; rw [hs, cmpL_at hlt hlt2, if_neg he])
      have h0 : (xs[k] != ys[k]) = true := by simp [he]
      clear he hs
      go_wp2_with (fail)
      go_quiet (fail)
      go_wp2_with (fail)
      go_quiet ((go_at_call 171; exact quiet_add_left (l1Way_any _ _ _)))
      go_wp2_with (fail)
      go_ret
      exact ⟨ret_int (by rw [HE.out, HS.out]), bthen B1 (bdrewN (bdrewN hbe _) _)⟩
    ·have HS := Lib.hid (show cmpL xs ys = cmpI xs.length ys.length by
      unfold CmpTo at hs
      rw [hs, cmpL_long hlt (by omega), cmpI, if_neg (by omega), if_pos (by omega)])
     clear hs ha hb
     go_wp2_with (go_at_call 171; refine (l1Way_any _ _ _).mono ?_; rintro e w' ⟨rfl, rfl⟩)
     go_ret
     exact ⟨ret_int (by rw [HE.out, HS.out]), bthen B1 hbe⟩
   ·have hd : decide ((k : Int) < (xs.length : Int)) = false := by simp; omega
    have HS := Lib.hid (show cmpL xs ys = cmpI xs.length ys.length by
     unfold CmpTo at hs
     by_cases h3 : xs.length < ys.length
     ·rw [hs, cmpL_short (by omega) (by omega), cmpI, if_pos (by omega)]
     ·rw [hs, cmpL_end (by omega) (by omega), cmpI, if_neg (by omega), if_neg (by omega)])
    clear hs ha hb
    go_wp2_with (go_at_call 171; refine (l1Way_any _ _ _).mono ?_; rintro e w' ⟨rfl, rfl⟩)
    go_ret
    exact ⟨ret_int (by rw [HE.out, HS.out]), bthen B1 hbe⟩
 ·have hpb : (p != q) = true := by simp [hp]
  have HE := Lib.hid (show factOrder (p, xs) (q, ys) = cmpI p q by simp [factOrder, hp])
  clear hp ha hb
  go_enter Tryz.func120, Tryz.ntmps120
  go_wp2_with (go_at_call 171; refine (l1Way_any _ _ _).mono ?_; rintro e w' ⟨rfl, rfl⟩)
  go_ret
  exact ⟨ret_int HE.out.symm, below2 _ _ _⟩
open Go.RowKit
theorem RdFacts.get {w : World} {B c : Nat} {A : Option Addr} {fs : List LFact} (h : RdFacts w B (.slice A fs.length c) fs) {k : Nat} (hk : k < fs.length) : ∃ b o A3 c3, A = some ⟨b, o, none⟩ /\ b < B /\
 w.cell? ⟨b, o + k * 2, none⟩ = some (.int .i64 fs[k].1) /\ w.cell? ⟨b, o + k * 2 + 1, none⟩ = some (.slice A3 fs[k].2.length c3) /\ RdInts w B (.slice A3 fs[k].2.length c3) fs[k].2 := by
 obtain ⟨A', c', e, hc, h⟩ := h
 injection e with e1 e2 e3
 subst e1
 obtain ⟨b, o, rfl, hb, hx⟩ := h (by omega)
 obtain ⟨a, h1, h2, h3⟩ := hx k hk
 have h4 := h3
 obtain ⟨A3, c3, rfl, _⟩ := h3
 exact ⟨b, o, A3, c3, rfl, hb, h1, h2, h4⟩
def factsHas (fs : List LFact) (f : LFact) : Bool := fs.any fun g => factOrder g f == 0
def HasNot (fs : List LFact) (f : LFact) (k : Nat) : Prop := factsHas (fs.take k) f = false
theorem HasNot.step {fs : List LFact} {f : LFact} {k : Nat} (h : HasNot fs f k) (hk : k < fs.length) (e : factOrder fs[k] f ≠ 0) : HasNot fs f (k + 1) := by
 unfold HasNot factsHas at h ⊢
 rw [take_snoc fs k hk, List.any_append, h]
 simp [e]
theorem HasNot.done {fs : List LFact} {f : LFact} (h : HasNot fs f fs.length) : factsHas fs f = false := by
 unfold HasNot at h
 rwa [List.take_length] at h
theorem has_yes {fs : List LFact} {f : LFact} {k : Nat} (hk : k < fs.length) (e : factOrder fs[k] f = 0) : factsHas fs f = true := by
 unfold factsHas
 rw [List.any_eq_true]
 exact ⟨fs[k], List.getElem_mem hk, by simp [e]⟩
set_option maxHeartbeats 1000000 in
set_option maxRecDepth 100000 in
theorem specFactsHas_any (v v2 : Value) (fs : List LFact) (f : LFact) (w : World) (h : RdFacts w w.heap.size v fs) (h2 : RdFact w w.heap.size v2 f) (hn : fs.length <= 1048576) (ht : tot fs <= 1048576) (hf : f.2.length <= 1048576) :
 Calls Tryz.prog 86 #[v, v2] w fun e w' => e = .returned (.bool (factsHas fs f)) /\ Below w.heap.size w w' := by
 have H := Lib.hid h
 have H2 := Lib.hid h2
 obtain ⟨A, c, rfl, hc, _⟩ := h
 obtain ⟨a, rfl, A2, c2, rfl, hc2, _⟩ := h2
 go_enter Tryz.func86, Tryz.ntmps86
 go_wp2_with (fail)
 obtain ⟨w1, hw1⟩ : ∃ w1, w1 = (w.alloc (Obj.cells #[Value.int IntKind.i64 f.1, Value.slice A2 f.2.length c2] 66)) := ⟨_, rfl⟩
 have B1 : Below w.heap.size w w1 := by rw [hw1]; exact below1 _ _
 have k0 : Blk w1 w.heap.size 66 #[.int .i64 f.1, .slice A2 f.2.length c2] := by rw [hw1]; exact Blk.new w _ _
 rw [<- hw1]
 clear hw1
 go_loopw [5] (fun i wr => ∃ k : Nat, k <= fs.length /\ i = .int .i64 k /\ HasNot fs f k /\ Below w1.heap.size w1 wr) (fun i _ => fs.length - (intOf i).toNat)
 case atStart => exact ⟨0, Nat.zero_le _, rfl, by simp [HasNot, factsHas], Below.refl _ _⟩
 case round =>
  obtain ⟨k, hk, rfl, hs, hbe⟩ := hrel
  by_cases hlt : k < fs.length
  ·have hB := bthen B1 hbe
   obtain ⟨b, o, A3, c3, rfl, hbB, k1, k2, k3⟩ := (H.out.on hB).get hlt
   have q0 : wr.cell? ⟨w.heap.size, 0, none⟩ = some (.int .i64 f.1) := (k0.below hbe k0.lt).cell 0
   have q1 : wr.cell? ⟨w.heap.size, 1, none⟩ = some (.slice A2 f.2.length c2) := (k0.below hbe k0.lt).cell 1
   have K3 := Lib.hid k3
   have hln := len_le_tot fs k hlt
   clear k3
   go_wp2_with (fail)
   go_still_tail 5, (by kernel_rfl)
   change wpList _ _ _ _ _ wr.drew
   obtain ⟨w2, hw2⟩ : ∃ w2, w2 = wr.drew := ⟨_, rfl⟩
   rw [<- hw2]
   have hb2 : Below wr.heap.size wr w2 := by rw [hw2]; exact (Below.refl _ _).drew
   clear hw2
   go_wp2_with (fail)
   refine (specFactOrder_any _ _ fs[k] f _ ⟨_, rfl, K3.out.on hb2⟩ (H2.out.on (bthen hB hb2)) (by omega) hf).mono ?_
   rintro e w3 ⟨rfl, hb3⟩
   have hB3 := bthen (bthen hbe hb2) hb3
   by_cases he : factOrder fs[k] f = 0
   ·have hz : (factOrder fs[k] f == 0) = true := by simp [he]
    have HS := Lib.hid (has_yes hlt he)
    clear he hs
    go_wp2_with (fail)
    go_ret
    exact ⟨ret_bool HS.out.symm, bthen B1 hB3⟩
   ·have hz : (factOrder fs[k] f == 0) = false := by simp [he]
    have HS := Lib.hid (hs.step hlt he)
    clear he hs
    go_wp2_with (fail)
    go_roundw
    case rel => exact ⟨k + 1, by omega, by go_num, HS.out, hB3⟩
    case measure => simp [intOf]; omega
  ·have hkn : k = fs.length := by omega
   have HS := Lib.hid (show factsHas fs f = false from HasNot.done (by rw [<- hkn]; exact hs))
   clear hkn hs
   go_wp2_with (fail)
   go_ret
   exact ⟨ret_bool HS.out.symm, bthen B1 hbe⟩
end Go.Proofs.YtmnolnmpglanfaaGreatDoor
