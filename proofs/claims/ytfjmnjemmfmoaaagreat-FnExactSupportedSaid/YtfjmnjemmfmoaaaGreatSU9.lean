/-
  The law FnExactSupported: for every input the call returns true, and each argument reads behind it as it read before. Conditions: none but the row's own.
-/
import Derived.Test.YtfjmnjemmfmoaaaGreatChecked
import Derived.Deep.SlicePairs
import Derived.ProofKit
import Derived.OpenShut
import Derived.ChangeOld
import Derived.WalkKit
import Derived.Deep.Slices
import Derived.Deep.Fields
import Derived.ChangeSame
import Derived.Lib.SmallJoins
import Derived.KernelRfl
import Derived.Deep.RegionHeld3
import Derived.Deep.DeepCutAuto
import Derived.Deep.RegionWith
import Derived.Test.YtfjmnjemmfmoaaaGreatRows
import Derived.Test.YtfjmnjemmfmoaaaGreatSU1
import Derived.Test.YtfjmnjemmfmoaaaGreatSU5
import Derived.Test.YtfjmnjemmfmoaaaGreatSU6
import Derived.Test.YtfjmnjemmfmoaaaGreatSU8
/-
  The walk of the program's FactsOk.
-/
namespace Go.Proofs.YtfjmnjemmfmoaaaGreat
open Go.RowKit

set_option maxHeartbeats 1000000 in
set_option maxRecDepth 100000 in
theorem implFactsOk_any (v v2 : Value) (ar : List Int) (fs : List LFact) (w : World) (h : RdInts w w.heap.size v ar) (h2 : RdFacts w w.heap.size v2 fs) (hr : ar.length ≤ 1048576) (hn : fs.length ≤ 1048576) (ht : tot fs ≤ 1048576) :
    Calls Tryz.prog 42 #[v, v2] w fun e w' => e = .returned (.bool (factsOk ar fs)) ∧ Below w.heap.size w w' := by
  have H := Lib.hid h
  have H2 := Lib.hid h2
  obtain ⟨A, c, rfl, hc, _⟩ := h
  obtain ⟨A2, c2, rfl, hc2, _⟩ := h2
  go_enter Tryz.func42, Tryz.ntmps42
  go_wp2_with (fail)
  refine (arityOk_any _ ar _ H.out (by omega)).mono ?_
  rintro e w1 ⟨rfl, hb1⟩
  by_cases ha : arityOk ar = true
  · rw [ha]
    have HA := Lib.hid ha
    clear ha
    go_wp2_with (fail)
    go_loopw [5, 6, 12] (fun _ _ i wr => ∃ k : Nat, k ≤ fs.length ∧ i = .int .i64 k ∧ OkTo ar fs k ∧ Below w.heap.size w wr) (fun _ _ i _ => fs.length - (intOf i).toNat)
    case atStart => exact ⟨0, Nat.zero_le _, rfl, by simp [OkTo], hb1⟩
    case round =>
      obtain ⟨k, hk, rfl, hs, hbe⟩ := hrel
      by_cases hlt : k < fs.length
      · obtain ⟨b, o, A3, c3, rfl, hbB, k1, k2, k3⟩ := (H2.out.on hbe).get hlt
        have K3 := Lib.hid (show RdFact wr wr.heap.size (.agg #[.int .i64 fs[k].1, .slice A3 fs[k].2.length c3]) fs[k] from ⟨_, rfl, k3⟩)
        have hln := len_le_tot fs k hlt
        clear k3
        go_wp2_with (fail)
        obtain ⟨w2, hw2⟩ : ∃ w2, w2 = wr.alloc (Obj.cells #[Value.int IntKind.i64 fs[k].1, Value.slice A3 fs[k].2.length c3] 67) := ⟨_, rfl⟩
        have B2 : Below wr.heap.size wr w2 := by rw [hw2]; exact below1 _ _
        have x2 : Blk w2 wr.heap.size 67 #[.int .i64 fs[k].1, .slice A3 fs[k].2.length c3] := by rw [hw2]; exact Blk.new _ _ _
        rw [← hw2]
        clear hw2
        refine (factFits_any _ _ ar fs[k] _ ((H.out.on hbe).on B2) (K3.out.on B2) (by omega)).mono ?_
        rintro e w3 ⟨rfl, hb3⟩
        have B3 := bthen B2 hb3
        have BW3 := bthen hbe B3
        have x3 := x2.below hb3 x2.lt
        by_cases hff : factFits ar fs[k] = true
        · rw [hff]
          rcases Nat.eq_zero_or_pos k with hk0 | hk0
          · have hd : decide (0 < k) = false := by simp [hk0]
            have HS := Lib.hid (hs.step (round_first hlt hff hk0) : OkTo ar fs (k + 1))
            clear hs hk0 hff
            go_wp2_with (fail)
            refine wp_region_later (by kernel_rfl) (by kernel_rfl) ?_
            repeat (go_big_quiet_step (fail))
            refine wpQuiet_nil ?_
            rintro _ ⟨xq, rfl⟩
            go_wp2_with (fail)
            go_roundw
            case rel => exact ⟨k + 1, by omega, by go_num, HS.out, bthen BW3 xq.2⟩
            case measure => simp [intOf]; omega
          · obtain ⟨j, rfl⟩ : ∃ j, k = j + 1 := ⟨k - 1, by omega⟩
            have hltj : j < fs.length := by omega
            obtain ⟨b', o', A4, c4, e4, hbB', m1, m2, m3⟩ := (H2.out.on BW3).get hltj
            simp only [Option.some.injEq, Addr.mk.injEq, and_true] at e4
            obtain ⟨rfl, rfl⟩ := e4
            have K4 := Lib.hid (show RdFact w3 w3.heap.size (.agg #[.int .i64 fs[j].1, .slice A4 fs[j].2.length c4]) fs[j] from ⟨_, rfl, m3⟩)
            have hlnj := len_le_tot fs j hltj
            have M1 := later_cell m1
            have M2 := later_cell m2
            have X0 := later_cell (x3.cell 0 : w3.cell? ⟨wr.heap.size, 0, none⟩ = some (.int .i64 fs[j + 1].1))
            have X1 := later_cell (x3.cell 1 : w3.cell? ⟨wr.heap.size, 1, none⟩ = some (.slice A3 fs[j + 1].2.length c3))
            have CO := Lib.hid (fun x : Later w3 => implFactOrder_any _ _ fs[j] fs[j + 1] x.val (K4.out.on x.2) ((K3.out.on B3).on x.2) (by omega) (by omega))
            clear m1 m2 m3 k1 k2
            by_cases hlo : factOrder fs[j] fs[j + 1] < 0
            · have hd : decide (0 ≤ factOrder fs[j] fs[j + 1]) = false := by simp; omega
              have HS := Lib.hid (hs.step (by rw [round_next hlt hltj hff]; simp [hlo]) : OkTo ar fs (j + 1 + 1))
              clear hs hff
              go_wp2_with (fail)
              refine wp_region_later (by kernel_rfl) (by kernel_rfl) ?_
              repeat (go_big_quiet_step ((go_at_call 77; exact later_of (CO.out _))))
              refine wpQuiet_nil ?_
              rintro _ ⟨xq, rfl⟩
              go_wp2_with (fail)
              go_roundw
              case rel => exact ⟨j + 1 + 1, by omega, by go_num, HS.out, bthen BW3 xq.2⟩
              case measure => simp [intOf]; omega
            · have hd : decide (0 ≤ factOrder fs[j] fs[j + 1]) = true := by simp; omega
              have HE := Lib.hid (show factsOk ar fs = false from round_not hlt (by rw [round_next hlt hltj hff]; simp [hlo]))
              clear hs hff
              go_wp2_with (fail)
              refine wp_region_later (by kernel_rfl) (by kernel_rfl) ?_
              repeat (go_big_quiet_step ((go_at_call 77; exact later_of (CO.out _))))
              refine wpQuiet_nil ?_
              rintro _ ⟨xq, rfl⟩
              go_wp2_with (fail)
              go_ret
              exact ⟨ret_bool HE.out.symm, bthen BW3 xq.2⟩
        · have HE := Lib.hid (show factsOk ar fs = false from round_not hlt (round_unfit hlt (by simpa using hff)))
          rw [show factFits ar fs[k] = false by simpa using hff]
          clear hs hff
          go_wp2_with (fail)
          go_ret
          exact ⟨ret_bool HE.out.symm, BW3⟩
      · have hkn : k = fs.length := by omega
        have HE := Lib.hid (show factsOk ar fs = true by unfold factsOk; unfold OkTo at hs; rw [← hkn, hs, HA.out]; rfl)
        clear hkn hs
        go_wp2_with (fail)
        go_ret
        exact ⟨ret_bool HE.out.symm, hbe⟩
  · have HE := Lib.hid (show factsOk ar fs = false by simp [factsOk, ha])
    rw [show arityOk ar = false by simpa using ha]
    clear ha
    go_wp2_with (fail)
    go_ret
    exact ⟨ret_bool HE.out.symm, hb1⟩

end Go.Proofs.YtfjmnjemmfmoaaaGreat
/-
  The program's Closed, by its tables.
-/
namespace Go.Proofs.YtfjmnjemmfmoaaaGreat
open Go.RowKit

/-- What the program's Closed answers. -/
def ClosedT (p : LProg) (fs : List LFact) (R : Bool) : Prop := ((progOk p && factsOk p.1 fs) = false ∧ R = false) ∨ ((progOk p && factsOk p.1 fs) = true ∧ ∃ F, (∀ f, f ∈ F ↔ f ∈ headsAll p.2 fs) ∧ R = tabIn (tabWith zeroT F) (tabWith zeroT fs))

theorem tabWith_len (T : List Nat) (fs : List LFact) : (tabWith T fs).length = T.length := by
  induction fs generalizing T with
  | nil => rfl
  | cons f fs ih =>
    show (tabWith (setBit T f.1.toNat (numF f.2)) fs).length = _
    rw [ih]
    simp [setBit]
theorem tabCells_one (T : List Nat) : (tabCells T).all (·.oneCell') = true := by
  unfold tabCells
  rw [List.all_toArray, List.all_map, List.all_eq_true]
  intro x _
  rfl

end Go.Proofs.YtfjmnjemmfmoaaaGreat
/-
  Tables by their bits: one table stands in another as its facts do.
-/
namespace Go.Proofs.YtfjmnjemmfmoaaaGreat
open Go.RowKit

theorem setBit_bit {T : List Nat} {p q m n : Nat} (hp : p < T.length) : ((setBit T q m).getD p 0).testBit n = true ↔ (T.getD p 0).testBit n = true ∨ (q = p ∧ m = n) := by
  unfold setBit
  by_cases e : q = p
  · subst e
    have h1 : (T.set q (T.getD q 0 ||| 2 ^ m)).getD q 0 = T.getD q 0 ||| 2 ^ m := by simp [List.getD_eq_getElem?_getD, hp]
    rw [h1, Nat.testBit_or, Bool.or_eq_true, Nat.testBit_two_pow, decide_eq_true_eq]
    simp
  · have h1 : (T.set q (T.getD q 0 ||| 2 ^ m)).getD p 0 = T.getD p 0 := by simp [List.getD_eq_getElem?_getD, List.getElem?_set_ne e]
    rw [h1]
    simp [e]
theorem tabWith_bit {p n : Nat} : ∀ (fs : List LFact) (T : List Nat), p < T.length → (((tabWith T fs).getD p 0).testBit n = true ↔ (T.getD p 0).testBit n = true ∨ ∃ f ∈ fs, f.1.toNat = p ∧ numF f.2 = n)
  | [], T, _ => by simp [tabWith]
  | f :: fs, T, hp => by
    have e : tabWith T (f :: fs) = tabWith (setBit T f.1.toNat (numF f.2)) fs := rfl
    rw [e, tabWith_bit fs _ (by simpa [setBit] using hp), setBit_bit hp]
    constructor
    · rintro ((h | h) | ⟨g, hg, h⟩)
      · exact .inl h
      · exact .inr ⟨f, List.mem_cons_self .., h⟩
      · exact .inr ⟨g, List.mem_cons_of_mem _ hg, h⟩
    · rintro (h | ⟨g, hg, h⟩)
      · exact .inl (.inl h)
      · rcases List.mem_cons.1 hg with rfl | hg
        · exact .inl (.inr h)
        · exact .inr ⟨g, hg, h⟩
theorem zero_bit {p n : Nat} : (zeroT.getD p 0).testBit n = false := by
  have : zeroT.getD p 0 = 0 := by
    by_cases hp : p < zeroT.length
    · rw [getD_at hp]
      exact (List.mem_replicate.1 (List.getElem_mem hp)).2
    · simp [List.getD_eq_getElem?_getD, List.getElem?_eq_none (by omega : zeroT.length ≤ p)]
  rw [this, Nat.zero_testBit]
theorem numF_inj {xs ys : List Int} (hx : xs.all constOk = true) (hy : ys.all constOk = true) (hl : xs.length = ys.length) (h2 : xs.length ≤ 2) (e : numF xs = numF ys) : xs = ys := by
  rcases xs with _ | ⟨x, _ | ⟨y, _ | ⟨z, xs⟩⟩⟩ <;> rcases ys with _ | ⟨x', _ | ⟨y', _ | ⟨z', ys⟩⟩⟩ <;> (try (simp at hl; done)) <;> (try (simp at h2; done))
  · rfl
  · simp only [List.all_cons, List.all_nil, Bool.and_true] at hx hy
    have := const_range hx
    have := const_range hy
    simp [numF] at e
    simp; omega
  · simp only [List.all_cons, List.all_nil, Bool.and_true, Bool.and_eq_true] at hx hy
    have := const_range hx.1
    have := const_range hx.2
    have := const_range hy.1
    have := const_range hy.2
    simp [numF] at e
    simp; omega
/-- A fact's bit tells the fact. -/
theorem fact_of_bit {ar : List Int} {f g : LFact} (ha : arityOk ar = true) (hf : factFits ar f = true) (hg : factFits ar g = true) (e1 : f.1.toNat = g.1.toNat) (e2 : numF f.2 = numF g.2) : f = g := by
  obtain ⟨⟨h0, _, hl⟩, hc⟩ := fits_parts hf
  obtain ⟨⟨h0', _, hl'⟩, hc'⟩ := fits_parts hg
  have e : f.1 = g.1 := by omega
  rw [← e] at hl'
  exact Prod.ext e (numF_inj hc hc' (by omega) (fits_short ha hf) e2)

end Go.Proofs.YtfjmnjemmfmoaaaGreat
/-
  What the program's Closed answers by its tables is what the specification's answers.
-/
namespace Go.Proofs.YtfjmnjemmfmoaaaGreat
open Go.RowKit

theorem word_in {a b : Nat} (ha : a < 18446744073709551616) (hb : b < 18446744073709551616) : (bits .andNot .u64 (a : Int) (b : Int) == 0) = true ↔ ∀ n, a.testBit n = true → b.testBit n = true := by
  have e : (18446744073709551615 - b : Nat) = 2 ^ 64 - (b + 1) := by omega
  have hb' : b < 2 ^ 64 := hb
  rw [u64_andNot_nat a b ha hb, beq_iff_eq, e]
  constructor
  · intro h n hn
    have h0 : a &&& (2 ^ 64 - (b + 1)) = 0 := by exact_mod_cast h
    have h1 := congrArg (fun y => y.testBit n) h0
    simp only [Nat.testBit_and, Nat.zero_testBit, hn, Bool.true_and, Nat.testBit_two_pow_sub_succ hb'] at h1
    have hlt : n < 64 := by
      apply Classical.byContradiction
      intro h64
      have h2 := Nat.ge_two_pow_of_testBit hn
      have h3 : (2 : Nat) ^ 64 ≤ 2 ^ n := Nat.pow_le_pow_right (by decide) (by omega)
      omega
    simpa [hlt] using h1
  · intro h
    have h0 : a &&& (2 ^ 64 - (b + 1)) = 0 := by
      apply Nat.eq_of_testBit_eq
      intro n
      rw [Nat.testBit_and, Nat.zero_testBit, Nat.testBit_two_pow_sub_succ hb']
      cases hn : a.testBit n
      · rfl
      · rw [h n hn]
        simp
    rw [h0]
    rfl
theorem setBit_lt {T : List Nat} {p n : Nat} (h : ∀ x ∈ T, x < 18446744073709551616) (hn : n < 64) : ∀ x ∈ setBit T p n, x < 18446744073709551616 := by
  intro x hx
  rcases List.mem_or_eq_of_mem_set hx with h4 | rfl
  · exact h x h4
  · refine Nat.or_lt_two_pow (n := 64) ?_ (Nat.pow_lt_pow_right (by decide) hn)
    by_cases hp : p < T.length
    · rw [getD_at hp]
      exact h _ (List.getElem_mem hp)
    · simp [List.getD_eq_getElem?_getD, List.getElem?_eq_none (by omega : T.length ≤ p)]
theorem tabWith_lt : ∀ (fs : List LFact) (T : List Nat), (∀ x ∈ T, x < 18446744073709551616) → (∀ f ∈ fs, numF f.2 < 64) → ∀ x ∈ tabWith T fs, x < 18446744073709551616
  | [], _, h, _ => h
  | f :: fs, T, h, hf => tabWith_lt fs (setBit T f.1.toNat (numF f.2)) (setBit_lt h (hf f (List.mem_cons_self ..))) (fun g hg => hf g (List.mem_cons_of_mem _ hg))
theorem word_lt {T : List Nat} {p : Nat} (h : ∀ x ∈ T, x < 18446744073709551616) : T.getD p 0 < 18446744073709551616 := by
  by_cases hp : p < T.length
  · rw [getD_at hp]
    exact h _ (List.getElem_mem hp)
  · simp [List.getD_eq_getElem?_getD, List.getElem?_eq_none (by omega : T.length ≤ p)]
theorem zeroT_lt : ∀ x ∈ zeroT, x < 18446744073709551616 := fun x hx => by
  obtain ⟨_, rfl⟩ := List.mem_replicate.1 hx
  decide

theorem pickL_in (a b : List LFact) (t : Bool) (f : LFact) : f ∈ pickL a b t ↔ f ∈ a ∧ decide (f ∈ b) = t := by
  unfold pickL
  rw [setOf_mem, List.mem_filter, factsHas_in]
  simp

/-- One table of facts stands in another as its facts do. -/
theorem tabIn_facts {ar : List Int} (ha : arityOk ar = true) {F fs : List LFact} (hF : ∀ f ∈ F, factFits ar f = true) (hf : ∀ f ∈ fs, factFits ar f = true) : tabIn (tabWith zeroT F) (tabWith zeroT fs) = true ↔ ∀ f ∈ F, f ∈ fs := by
  have hl : ar.length ≤ 24 := by simp only [arityOk, Bool.and_eq_true, decide_eq_true_eq] at ha; exact ha.1
  have h64 : ∀ f, factFits ar f = true → numF f.2 < 64 := fun f h => numF_64 (fits_parts h).2 (fits_short ha h)
  have hz : ∀ p : Nat, p < 24 → p < zeroT.length := fun p hp => by simpa [zeroT] using hp
  unfold tabIn
  rw [List.all_eq_true]
  have hw : ∀ p, p < 24 → (wordIn (tabWith zeroT F) (tabWith zeroT fs) p = true ↔ ∀ n, (∃ f ∈ F, f.1.toNat = p ∧ numF f.2 = n) → ∃ f ∈ fs, f.1.toNat = p ∧ numF f.2 = n) := fun p hp => by
    unfold wordIn
    rw [word_in (word_lt (tabWith_lt F _ zeroT_lt fun f h => h64 f (hF f h))) (word_lt (tabWith_lt fs _ zeroT_lt fun f h => h64 f (hf f h)))]
    simp only [tabWith_bit _ _ (hz p hp), zero_bit, Bool.false_eq_true, false_or]
  constructor
  · intro h f hm
    have hp := (fits_parts (hF f hm)).1
    have h1 := (hw f.1.toNat (by omega)).1 (h _ (List.mem_range.2 (by omega))) (numF f.2) ⟨f, hm, rfl, rfl⟩
    obtain ⟨g, hg, e1, e2⟩ := h1
    rw [fact_of_bit ha (hF f hm) (hf g hg) e1.symm e2.symm]
    exact hg
  · intro h p hp
    rw [hw p (List.mem_range.1 hp)]
    rintro n ⟨f, hm, e⟩
    exact ⟨f, h f hm, e⟩

theorem closedT_eq {p : LProg} {fs : List LFact} {R : Bool} (h : ClosedT p fs R) : R = closedL p fs := by
  rcases h with ⟨h1, rfl⟩ | ⟨h1, F, hF, rfl⟩
  · unfold closedL
    rw [← Bool.and_assoc, h1, Bool.false_and]
  · rw [Bool.and_eq_true] at h1
    obtain ⟨har, _, hfit⟩ := prog_parts h1.1
    obtain ⟨_, hff, _⟩ := factsOk_parts h1.2
    unfold closedL
    rw [h1.1, h1.2, Bool.true_and, Bool.true_and, Bool.eq_iff_iff, tabIn_facts har (fun f h => headsAll_fits fs hfit f ((hF f).1 h)) hff, decide_eq_true_eq, List.length_eq_zero_iff, List.eq_nil_iff_forall_not_mem]
    constructor
    · intro h f hm
      rw [pickL_in] at hm
      have := h f ((hF f).2 hm.1)
      simp [this] at hm
    · intro h f hm
      apply Classical.byContradiction
      intro hn
      exact h f ((pickL_in _ _ _ _).2 ⟨(hF f).1 hm, by simpa using hn⟩)

end Go.Proofs.YtfjmnjemmfmoaaaGreat
/-
  The program's Supported, by its tables.
-/
namespace Go.Proofs.YtfjmnjemmfmoaaaGreat
open Go.RowKit

/-- What the program's Supported answers. -/
def SupT (p : LProg) (db fs : List LFact) (R : Bool) : Prop := ((progOk p && (factsOk p.1 db && factsOk p.1 fs)) = false ∧ R = false) ∨ ((progOk p && (factsOk p.1 db && factsOk p.1 fs)) = true ∧ ∃ F, (∀ f, f ∈ F ↔ f ∈ headsAll p.2 fs) ∧ R = tabIn (tabWith zeroT fs) (tabWith (tabWith zeroT F) db))

theorem tabWith_lt64 : ∀ (fs : List LFact) (T : List Nat), (∀ x ∈ T, x < 18446744073709551616) → (∀ f ∈ fs, numF f.2 < 64) → ∀ x ∈ tabWith T fs, x < 18446744073709551616
  | [], _, h, _ => h
  | f :: fs, T, h, hf => by
    refine tabWith_lt64 fs (setBit T f.1.toNat (numF f.2)) ?_ (fun g hg => hf g (List.mem_cons_of_mem _ hg))
    intro x hx
    rcases List.mem_or_eq_of_mem_set hx with h4 | rfl
    · exact h x h4
    · refine Nat.or_lt_two_pow (n := 64) ?_ (Nat.pow_lt_pow_right (by decide) (hf f (List.mem_cons_self ..)))
      by_cases hp : f.1.toNat < T.length
      · rw [getD_at hp]
        exact h _ (List.getElem_mem hp)
      · simp [List.getD_eq_getElem?_getD, List.getElem?_eq_none (by omega : T.length ≤ f.1.toNat)]

theorem zeroT_lt' : ∀ x ∈ zeroT, x < 18446744073709551616 := fun x hx => by
  obtain ⟨_, rfl⟩ := List.mem_replicate.1 hx
  decide

set_option maxHeartbeats 4000000 in
set_option maxRecDepth 100000 in
theorem implSupT_any (v v2 v3 : Value) (p : LProg) (db fs : List LFact) (w : World) (h : RdProg w w.heap.size v p) (h2 : RdFacts w w.heap.size v2 db) (h3 : RdFacts w w.heap.size v3 fs) (hs : szP p ≤ 1048576) (hn : fs.length ≤ 1048576) (ht : tot fs ≤ 1048576) (hnd : db.length ≤ 1048576) (htd : tot db ≤ 1048576) :
    Calls Tryz.prog 11 #[v, v2, v3] w fun e w' => ∃ R, e = .returned (.bool R) ∧ SupT p db fs R ∧ Below w.heap.size w w' := by
  have HP := Lib.hid h
  have H2 := Lib.hid h2
  have H3 := Lib.hid h3
  have hs' := hs
  unfold szP at hs'
  obtain ⟨a, b, rfl, hA, hR⟩ := h
  have HA := Lib.hid hA
  have HR := Lib.hid hR
  obtain ⟨A, c, rfl, hcA, _⟩ := hA
  obtain ⟨A2, c2, rfl, hcR, _⟩ := hR
  obtain ⟨Ad, cd, rfl, hcD, _⟩ := h2
  obtain ⟨A3, c3, rfl, hcF, _⟩ := h3
  obtain ⟨po, hpo⟩ : ∃ po, po = progOk p := ⟨_, rfl⟩
  obtain ⟨dO, hdo⟩ : ∃ dO, dO = factsOk p.1 db := ⟨_, rfl⟩
  obtain ⟨fo, hfo⟩ : ∃ fo, fo = factsOk p.1 fs := ⟨_, rfl⟩
  go_enter Tryz.func11, Tryz.ntmps11
  go_upto_region 1 with fail
  obtain ⟨w1, hw1⟩ : ∃ w1, w1 = w.alloc (Obj.cells #[Value.slice A p.1.length c, Value.slice A2 p.2.length c2] 32) := ⟨_, rfl⟩
  have X1 : Blk w1 w.heap.size 32 #[.slice A p.1.length c, .slice A2 p.2.length c2] := by rw [hw1]; exact Blk.new _ _ _
  have B1 : Below w.heap.size w w1 := by rw [hw1]; exact below1 _ _
  rw [← hw1]
  clear hw1
  have x0 : w1.cell? ⟨w.heap.size, 0, none⟩ = some (.slice A p.1.length c) := X1.cell 0
  have x1 : w1.cell? ⟨w.heap.size, 1, none⟩ = some (.slice A2 p.2.length c2) := X1.cell 1
  have CP := Lib.hid ((implProgramOk_any _ p w1 (HP.out.on B1) hs).mono fun e w' (hh : e = .returned (.bool (progOk p)) ∧ Below w1.heap.size w1 w') => (⟨by rw [hh.1, hpo], hh.2⟩ : e = .returned (.bool po) ∧ Below w1.heap.size w1 w'))
  have CD := Lib.hid (fun W (hW : Below w.heap.size w W) => (implFactsOk_any _ _ p.1 db W (HA.out.on hW) (H2.out.on hW) (by omega) (by omega) (by omega)).mono fun e w' (hh : e = .returned (.bool (factsOk p.1 db)) ∧ Below W.heap.size W w') => (⟨by rw [hh.1, hdo], hh.2⟩ : e = .returned (.bool dO) ∧ Below W.heap.size W w'))
  have CF := Lib.hid (fun W (hW : Below w.heap.size w W) => (implFactsOk_any _ _ p.1 fs W (HA.out.on hW) (H3.out.on hW) (by omega) (by omega) (by omega)).mono fun e w' (hh : e = .returned (.bool (factsOk p.1 fs)) ∧ Below W.heap.size W w') => (⟨by rw [hh.1, hfo], hh.2⟩ : e = .returned (.bool fo) ∧ Below W.heap.size W w'))
  have HPO := Lib.hid hpo
  have HDO := Lib.hid hdo
  have HFO := Lib.hid hfo
  have HX1 := Lib.hid X1
  clear hpo hfo hdo X1
  cases po
  · go_wp2_with (go_at_call 41; refine CP.out.mono ?_; rintro e w2 ⟨rfl, b2⟩; have B2 := Lib.hid (bthen B1 b2); clear b2)
    go_ret
    exact ⟨false, rfl, .inl ⟨by rw [← HPO.out]; rfl, rfl⟩, B2.out⟩
  · cases dO
    · go_wp2_with (first
        | (go_at_call 41; refine CP.out.mono ?_; rintro e w2 ⟨rfl, b2⟩; have B2 := Lib.hid (bthen B1 b2)
           have x20 : w2.cell? ⟨w.heap.size, 0, none⟩ = some (.slice A p.1.length c) := (HX1.out.below b2 HX1.out.lt).cell 0
           clear b2)
        | (go_at_call 42; with_reducible refine (CD.out _ B2.out).mono ?_; rintro e w3 ⟨rfl, b3⟩; have B3 := Lib.hid (bthen B2.out b3); clear b3))
      go_ret
      exact ⟨false, rfl, .inl ⟨by rw [← HDO.out, Bool.false_and, Bool.and_false], rfl⟩, B3.out⟩
    · cases fo
      · go_wp2_with (first
          | (go_at_call 41; refine CP.out.mono ?_; rintro e w2 ⟨rfl, b2⟩; have B2 := Lib.hid (bthen B1 b2)
             have HX2 := Lib.hid (HX1.out.below b2 HX1.out.lt)
             have x20 : w2.cell? ⟨w.heap.size, 0, none⟩ = some (.slice A p.1.length c) := HX2.out.cell 0
             clear b2)
          | (go_at_call 42; with_reducible refine (CD.out _ B2.out).mono ?_; rintro e w3 ⟨rfl, b3⟩; have B3 := Lib.hid (bthen B2.out b3)
             have x30 : w3.cell? ⟨w.heap.size, 0, none⟩ = some (.slice A p.1.length c) := (HX2.out.below b3 HX2.out.lt).cell 0
             clear b3)
          | (go_at_call 42; with_reducible refine (CF.out _ B3.out).mono ?_; rintro e w4 ⟨rfl, b4⟩; have B4 := Lib.hid (bthen B3.out b4); clear b4))
        go_ret
        exact ⟨false, rfl, .inl ⟨by rw [← HFO.out, Bool.and_false, Bool.and_false], rfl⟩, B4.out⟩
      · obtain ⟨har, hrl, hfit⟩ := prog_parts HPO.out.symm
        obtain ⟨_, hff, hasc⟩ := factsOk_parts HFO.out.symm
        obtain ⟨_, hfd, _⟩ := factsOk_parts HDO.out.symm
        have CA := Lib.hid (fun W (hW : Below w.heap.size w W) => headsIn_any (.slice A2 p.2.length c2) (.slice A3 fs.length c3) p.1 p.2 fs W (HR.out.on hW) (H3.out.on hW) har hfit (by omega) (by omega) (by omega) (by omega) (fun f hf => (fits_parts (hff f hf)).2) (asc_nodup hasc))
        have hTab : ∀ f, factFits p.1 f = true → TabFact f := fun f hf => by
          have h1 := fits_parts hf
          have h2 : p.1.length ≤ 24 := by simp only [arityOk, Bool.and_eq_true, decide_eq_true_eq] at har; exact har.1
          exact ⟨h1.1.1, by omega, h1.2, fits_short har hf⟩
        have HTF := Lib.hid (show ∀ f ∈ fs, TabFact f from fun f hf => hTab f (hff f hf))
        have HTD := Lib.hid (show ∀ f ∈ db, TabFact f from fun f hf => hTab f (hfd f hf))
        have HHF := Lib.hid (show ∀ f ∈ headsAll p.2 fs, numF f.2 < 64 from fun f hf => by
          have := headsAll_fits fs hfit f hf
          exact numF_64 (fits_parts this).2 (fits_short har this))
        clear har hrl hfit hff hasc hfd hTab
        go_upto_region 7 with (first
          | (go_at_call 41; refine CP.out.mono ?_; rintro e w2 ⟨rfl, b2⟩; have B2 := Lib.hid (bthen B1 b2)
             have HX2 := Lib.hid (HX1.out.below b2 HX1.out.lt)
             have x20 : w2.cell? ⟨w.heap.size, 0, none⟩ = some (.slice A p.1.length c) := HX2.out.cell 0
             clear b2)
          | (go_at_call 42; with_reducible refine (CD.out _ B2.out).mono ?_; rintro e w3 ⟨rfl, b3⟩; have B3 := Lib.hid (bthen B2.out b3)
             have HX3 := Lib.hid (HX2.out.below b3 HX2.out.lt)
             have x30 : w3.cell? ⟨w.heap.size, 0, none⟩ = some (.slice A p.1.length c) := HX3.out.cell 0
             clear b3)
          | (go_at_call 42; with_reducible refine (CF.out _ B3.out).mono ?_; rintro e w4 ⟨rfl, b4⟩; have B4 := Lib.hid (bthen B3.out b4)
             have x41 : w4.cell? ⟨w.heap.size, 1, none⟩ = some (.slice A2 p.2.length c2) := (HX3.out.below b4 HX3.out.lt).cell 1
             clear b4)
          | (go_at_call 43; refine (CA.out _ B4.out).mono ?_; rintro e w5 ⟨F, rfl, hF, b5⟩; have B5 := Lib.hid (bthen B4.out b5)
             have HF := Lib.hid hF
             obtain ⟨cs, hcs⟩ : ∃ cs, cs = tabCells (tabWith zeroT F) := ⟨_, rfl⟩
             rw [← hcs]
             have HCZ := Lib.hid (show cs.size = 24 by rw [hcs]; simp [tabCells, tabWith_len, zeroT])
             have HONE := Lib.hid (show cs.all (·.oneCell') = true by rw [hcs]; exact tabCells_one _)
             have HSI := Lib.hid (show (Tryz.prog.info? 71).map (·.size) = some cs.size by rw [HCZ.out]; kernel_rfl)
             have HCS := Lib.hid hcs
             clear hF b5 hcs)
          | (refine wpList_store_row rfl 71 _ _ rfl w5.heap.size cs rfl rfl 71 _ (heap_alloc_new w5 _) HSI.out (by rw [HCZ.out]; rfl) HONE.out ?_))
        obtain ⟨zs, hzs⟩ : ∃ zs, zs = (#[Value.int IntKind.u64 0, Value.int IntKind.u64 0, Value.int IntKind.u64 0, Value.int IntKind.u64 0, Value.int IntKind.u64 0, Value.int IntKind.u64 0, Value.int IntKind.u64 0, Value.int IntKind.u64 0, Value.int IntKind.u64 0, Value.int IntKind.u64 0, Value.int IntKind.u64 0, Value.int IntKind.u64 0, Value.int IntKind.u64 0, Value.int IntKind.u64 0, Value.int IntKind.u64 0, Value.int IntKind.u64 0, Value.int IntKind.u64 0, Value.int IntKind.u64 0, Value.int IntKind.u64 0, Value.int IntKind.u64 0, Value.int IntKind.u64 0, Value.int IntKind.u64 0, Value.int IntKind.u64 0, Value.int IntKind.u64 0] : Array Value) := ⟨_, rfl⟩
        have hzt : zs = tabCells zeroT := by rw [hzs]; rfl
        rw [← hzs]
        have HZS := Lib.hid hzs
        clear hzs
        obtain ⟨w6, hw6⟩ : ∃ w6, w6 = (w5.alloc (Obj.cells zs 71)).setRow w5.heap.size cs := ⟨_, rfl⟩
        have X6 : Blk w6 w5.heap.size 71 cs := by rw [hw6]; exact setRow_heap _ _ _ cs _ _ (heap_alloc_new w5 _)
        have b6 : Below w5.heap.size w5 w6 := by rw [hw6]; exact below_setRow (below1 _ _) (Nat.le_refl _) _
        have hs6 : w6.heap.size = w5.heap.size + 1 := by rw [hw6]; simp
        rw [← hw6]
        clear hw6
        have hw5 := B5.out.size
        obtain ⟨gs, hgs⟩ : ∃ gs, gs = w5.heap.size := ⟨_, rfl⟩
        rw [← hgs] at X6 hs6 hw5 ⊢
        have B6 := Lib.hid (bthen B5.out b6)
        have HF64 := Lib.hid (tabWith_lt64 F zeroT zeroT_lt' fun f hf => HHF.out f ((HF.out f).1 hf))
        have T6 : TabAt w6 gs (tabWith zeroT F) := ⟨by rw [← HCS.out]; exact X6, by simp [tabWith_len, zeroT], HF64.out⟩
        have HADD := Lib.hid (addAll_any gs w.heap.size (tabWith zeroT F) (.slice Ad db.length cd) db w6 T6 ((H2.out.below B6.out (Nat.le_refl _))) (by omega) HTD.out hnd)
        clear X6 b6 T6 hgs
        refine HADD.out.mono ?_
        rintro e w7 ⟨rfl, t7, o7⟩
        have HT7 := Lib.hid t7
        have hs7 : w6.heap.size ≤ w7.heap.size := o7.size
        have B7 := Lib.hid (Only.then_ B6.out o7 (by omega))
        clear t7 o7 HADD
        go_wp2_with fail
        rw [← HZS.out]
        obtain ⟨w8, hw8⟩ : ∃ w8, w8 = w7.alloc (Obj.cells zs 71) := ⟨_, rfl⟩
        have T8 : TabAt w8 w7.heap.size zeroT := by rw [hw8, hzt]; exact TabAt.zero _
        have b8 : Below w7.heap.size w7 w8 := by rw [hw8]; exact below1 _ _
        have hs8 : w8.heap.size = w7.heap.size + 1 := by rw [hw8]; simp
        rw [← hw8]
        clear hw8 hzt
        obtain ⟨gt, hgt⟩ : ∃ gt, gt = w7.heap.size := ⟨_, rfl⟩
        rw [← hgt] at T8 hs8 ⊢
        have hgg : gs < gt := by omega
        have B8 := Lib.hid (bthen B7.out b8)
        have HT8 := Lib.hid (show TabAt w8 gs (tabWith (tabWith zeroT F) db) from ⟨HT7.out.1.below b8 (by omega), HT7.out.2⟩)
        have HADD := Lib.hid (addAll_any gt w.heap.size zeroT (.slice A3 fs.length c3) fs w8 T8 ((H3.out.below B8.out (Nat.le_refl _))) (by omega) HTF.out hn)
        clear b8 T8 hgt
        refine HADD.out.mono ?_
        rintro e w9 ⟨rfl, t9, o9⟩
        have hs9 : w8.heap.size ≤ w9.heap.size := o9.size
        have B9 := Lib.hid (Only.then_ B8.out o9 (by omega))
        have HT9 := Lib.hid (show TabAt w9 gs (tabWith (tabWith zeroT F) db) from ⟨HT8.out.1.only o9 (.inl hgg), HT8.out.2⟩)
        obtain ⟨ds, hds⟩ : ∃ ds, ds = tabCells (tabWith zeroT fs) := ⟨_, rfl⟩
        have X9 : Blk w9 gt 71 ds := by rw [hds]; exact t9.1
        have HDZ := Lib.hid (show ds.size = 24 by rw [hds]; simp [tabCells, tabWith_len, zeroT])
        have HSD := Lib.hid (show (Tryz.prog.info? 71).map (·.size) = some ds.size by rw [HDZ.out]; kernel_rfl)
        have HHA := Lib.hid (show Calls Tryz.prog 45 #[.pointer (some ⟨gs, 0, none⟩), .agg ds] w9 fun e w' => e = .returned (.bool (tabIn (tabWith zeroT fs) (tabWith (tabWith zeroT F) db))) ∧ Below w9.heap.size w9 w' from by rw [hds]; exact hasAll_any _ _ _ w9 HT9.out (by simp [tabWith_len, zeroT]) _ rfl)
        have X9 := Lib.hid X9
        clear t9 o9 hds
        go_wp2_with (first
          | (refine wpList_load_row rfl 71 _ rfl gt rfl 71 ds (0, 0) _ X9.out Tryz.underlying71 rfl HSD.out ?_)
          | (go_at_call 45; refine HHA.out.mono ?_; rintro e w10 ⟨rfl, b10⟩; have B10 := Lib.hid (bthen B9.out b10); clear b10))
        go_ret
        exact ⟨_, rfl, .inr ⟨by rw [← HPO.out, ← HFO.out, ← HDO.out]; rfl, F, HF.out, rfl⟩, B10.out⟩

end Go.Proofs.YtfjmnjemmfmoaaaGreat
/-
  The specification's Supported.
-/
namespace Go.Proofs.YtfjmnjemmfmoaaaGreat
open Go.RowKit

/-- What Supported answers. -/
def supL (p : LProg) (db fs : List LFact) : Bool := progOk p && (factsOk p.1 db && (factsOk p.1 fs && decide ((pickL fs (setOf (db ++ headsAll p.2 fs)) false).length = 0)))

set_option maxHeartbeats 4000000 in
set_option maxRecDepth 100000 in
theorem specSupported_any (v v2 v3 : Value) (p : LProg) (db fs : List LFact) (w : World) (h : RdProg w w.heap.size v p) (h2 : RdFacts w w.heap.size v2 db) (h3 : RdFacts w w.heap.size v3 fs) (hs : szP p ≤ 1048576) (hn : fs.length ≤ 1048576) (ht : tot fs ≤ 1048576) (hnd : db.length ≤ 1048576) (htd : tot db ≤ 1048576) :
    Calls Tryz.prog 8 #[v, v2, v3] w fun e w' => e = .returned (.bool (supL p db fs)) ∧ Below w.heap.size w w' := by
  have HP := Lib.hid h
  have H2 := Lib.hid h2
  have H3 := Lib.hid h3
  have hs' := hs
  unfold szP at hs'
  obtain ⟨a, b, rfl, hA, hR⟩ := h
  have HA := Lib.hid hA
  have HR := Lib.hid hR
  obtain ⟨A, c, rfl, hcA, _⟩ := hA
  obtain ⟨A2, c2, rfl, hcR, _⟩ := hR
  obtain ⟨Ad, cd, rfl, hcD, _⟩ := h2
  obtain ⟨A3, c3, rfl, hcF, _⟩ := h3
  obtain ⟨po, hpo⟩ : ∃ po, po = progOk p := ⟨_, rfl⟩
  obtain ⟨dO, hdo⟩ : ∃ dO, dO = factsOk p.1 db := ⟨_, rfl⟩
  obtain ⟨fo, hfo⟩ : ∃ fo, fo = factsOk p.1 fs := ⟨_, rfl⟩
  obtain ⟨R, hRR⟩ : ∃ R, R = supL p db fs := ⟨_, rfl⟩
  have HRR := Lib.hid (show R = (po && (dO && (fo && decide ((pickL fs (setOf (db ++ headsAll p.2 fs)) false).length = 0)))) by rw [hRR, hpo, hfo, hdo]; rfl)
  rw [← hRR]
  clear hRR
  go_enter Tryz.func8, Tryz.ntmps8
  go_upto_region 1 with fail
  obtain ⟨w1, hw1⟩ : ∃ w1, w1 = w.alloc (Obj.cells #[Value.slice A p.1.length c, Value.slice A2 p.2.length c2] 32) := ⟨_, rfl⟩
  have X1 : Blk w1 w.heap.size 32 #[.slice A p.1.length c, .slice A2 p.2.length c2] := by rw [hw1]; exact Blk.new _ _ _
  have B1 : Below w.heap.size w w1 := by rw [hw1]; exact below1 _ _
  rw [← hw1]
  clear hw1
  have x0 : w1.cell? ⟨w.heap.size, 0, none⟩ = some (.slice A p.1.length c) := X1.cell 0
  have x1 : w1.cell? ⟨w.heap.size, 1, none⟩ = some (.slice A2 p.2.length c2) := X1.cell 1
  have CP := Lib.hid ((specProgramOk_any _ p w1 (HP.out.on B1) hs).mono fun e w' (hh : e = .returned (.bool (progOk p)) ∧ Below w1.heap.size w1 w') => (⟨by rw [hh.1, hpo], hh.2⟩ : e = .returned (.bool po) ∧ Below w1.heap.size w1 w'))
  have CD := Lib.hid (fun W (hW : Below w.heap.size w W) => (specFactsOk_any _ _ p.1 db W (HA.out.on hW) (H2.out.on hW) (by omega) (by omega) (by omega)).mono fun e w' (hh : e = .returned (.bool (factsOk p.1 db)) ∧ Below W.heap.size W w') => (⟨by rw [hh.1, hdo], hh.2⟩ : e = .returned (.bool dO) ∧ Below W.heap.size W w'))
  have CF := Lib.hid (fun W (hW : Below w.heap.size w W) => (specFactsOk_any _ _ p.1 fs W (HA.out.on hW) (H3.out.on hW) (by omega) (by omega) (by omega)).mono fun e w' (hh : e = .returned (.bool (factsOk p.1 fs)) ∧ Below W.heap.size W w') => (⟨by rw [hh.1, hfo], hh.2⟩ : e = .returned (.bool fo) ∧ Below W.heap.size W w'))
  have HPO := Lib.hid hpo
  have HDO := Lib.hid hdo
  have HFO := Lib.hid hfo
  have HX1 := Lib.hid X1
  clear hpo hfo hdo X1
  cases po
  · go_wp2_with (go_at_call 33; refine CP.out.mono ?_; rintro e w2 ⟨rfl, b2⟩; have B2 := Lib.hid (bthen B1 b2); clear b2)
    go_ret
    exact ⟨ret_bool (by rw [HRR.out]; rfl), B2.out⟩
  · cases dO
    · go_wp2_with (first
        | (go_at_call 33; refine CP.out.mono ?_; rintro e w2 ⟨rfl, b2⟩; have B2 := Lib.hid (bthen B1 b2)
           have x20 : w2.cell? ⟨w.heap.size, 0, none⟩ = some (.slice A p.1.length c) := (HX1.out.below b2 HX1.out.lt).cell 0
           clear b2)
        | (go_at_call 34; refine (CD.out _ B2.out).mono ?_; rintro e w3 ⟨rfl, b3⟩; have B3 := Lib.hid (bthen B2.out b3); clear b3))
      go_ret
      exact ⟨ret_bool (by rw [HRR.out]; rfl), B3.out⟩
    · cases fo
      · go_wp2_with (first
          | (go_at_call 33; refine CP.out.mono ?_; rintro e w2 ⟨rfl, b2⟩; have B2 := Lib.hid (bthen B1 b2)
             have HX2 := Lib.hid (HX1.out.below b2 HX1.out.lt)
             have x20 : w2.cell? ⟨w.heap.size, 0, none⟩ = some (.slice A p.1.length c) := HX2.out.cell 0
             clear b2)
          | (go_at_call 34; with_reducible refine (CD.out _ B2.out).mono ?_; rintro e w3 ⟨rfl, b3⟩; have B3 := Lib.hid (bthen B2.out b3)
             have x30 : w3.cell? ⟨w.heap.size, 0, none⟩ = some (.slice A p.1.length c) := (HX2.out.below b3 HX2.out.lt).cell 0
             clear b3)
          | (go_at_call 34; with_reducible refine (CF.out _ B3.out).mono ?_; rintro e w4 ⟨rfl, b4⟩; have B4 := Lib.hid (bthen B3.out b4); clear b4))
        go_ret
        exact ⟨ret_bool (by rw [HRR.out]; rfl), B4.out⟩
      · obtain ⟨har, hrl, hfit⟩ := prog_parts HPO.out.symm
        obtain ⟨_, hff, hasc⟩ := factsOk_parts HFO.out.symm
        obtain ⟨_, hfd, had⟩ := factsOk_parts HDO.out.symm
        have HFEW := Lib.hid (And.intro (headsAll_few fs har hfit) (And.intro (facts_few har (asc_nodup hasc) hff) (And.intro (facts_few har (asc_nodup had) hfd) (setOf_bound (db ++ headsAll p.2 fs)))))
        have HTO := Lib.hid (show tot (db ++ headsAll p.2 fs) = tot db + tot (headsAll p.2 fs) by simp [tot])
        have CA := Lib.hid (fun W (hW : Below w.heap.size w W) => l4All_any (.slice A2 p.2.length c2) (.slice A3 fs.length c3) p.1 p.2 fs W (HR.out.on hW) (H3.out.on hW) har hfit (by omega) (by omega) (by omega) (by omega) (fun f hf => (fits_parts (hff f hf)).2) (asc_nodup hasc))
        have CE := Lib.hid (fun W v (hW : Below w.heap.size w W) (hv : RdFacts W W.heap.size v (headsAll p.2 fs)) => specFactsEither_any (.slice Ad db.length cd) v db (headsAll p.2 fs) W (H2.out.on hW) hv (by have := HFEW.out; omega) (by have := HFEW.out; omega))
        have CL := Lib.hid (fun W v (hW : Below w.heap.size w W) (hv : RdFacts W W.heap.size v (setOf (db ++ headsAll p.2 fs))) => specFactsLess_any (.slice A3 fs.length c3) v fs (setOf (db ++ headsAll p.2 fs)) W (H3.out.on hW) hv (by have := HFEW.out; simp only [List.length_append] at this; omega) (by have := HFEW.out; have := HTO.out; omega))
        clear har hrl hfit hff hasc hfd had
        obtain ⟨L, hL⟩ : ∃ L, L = pickL fs (setOf (db ++ headsAll p.2 fs)) false := ⟨_, rfl⟩
        rw [← hL] at CL HRR
        clear hL
        obtain ⟨E, hE⟩ : ∃ E, E = setOf (db ++ headsAll p.2 fs) := ⟨_, rfl⟩
        rw [← hE] at CL CE
        clear hE HFEW
        go_wp2_with (first
          | (go_at_call 33; refine CP.out.mono ?_; rintro e w2 ⟨rfl, b2⟩; have B2 := Lib.hid (bthen B1 b2)
             have HX2 := Lib.hid (HX1.out.below b2 HX1.out.lt)
             have x20 : w2.cell? ⟨w.heap.size, 0, none⟩ = some (.slice A p.1.length c) := HX2.out.cell 0
             clear b2)
          | (go_at_call 34; with_reducible refine (CD.out _ B2.out).mono ?_; rintro e w3 ⟨rfl, b3⟩; have B3 := Lib.hid (bthen B2.out b3)
             have HX3 := Lib.hid (HX2.out.below b3 HX2.out.lt)
             have x30 : w3.cell? ⟨w.heap.size, 0, none⟩ = some (.slice A p.1.length c) := HX3.out.cell 0
             clear b3)
          | (go_at_call 34; with_reducible refine (CF.out _ B3.out).mono ?_; rintro e w4 ⟨rfl, b4⟩; have B4 := Lib.hid (bthen B3.out b4)
             have x41 : w4.cell? ⟨w.heap.size, 1, none⟩ = some (.slice A2 p.2.length c2) := (HX3.out.below b4 HX3.out.lt).cell 1
             clear b4)
          | (go_at_call 37; refine (CA.out _ B4.out).mono ?_; rintro e w5 ⟨A4, c4, rfl, o5, b5⟩; have B5 := Lib.hid (bthen B4.out b5)
             have HE5 := Lib.hid (CE.out _ _ B5.out o5.rd)
             clear o5 b5)
          | (go_at_call 36; refine HE5.out.mono ?_; rintro e w6 ⟨A5, c5, rfl, o6, b6⟩; have B6 := Lib.hid (bthen B5.out b6)
             have HL6 := Lib.hid (CL.out _ _ B6.out o6.rd)
             clear o6 b6)
          | (go_at_call 35; refine HL6.out.mono ?_; rintro e w7 ⟨A6, c6, rfl, o7, b7⟩; have B7 := Lib.hid (bthen B6.out b7); clear o7 b7))
        go_ret
        exact ⟨ret_bool (by rw [HRR.out, Bool.true_and, Bool.true_and, Bool.true_and, Bool.eq_iff_iff, beq_iff_eq, decide_eq_true_eq]; omega), B7.out⟩

end Go.Proofs.YtfjmnjemmfmoaaaGreat
/-
  What the program's Supported answers by its tables is what the specification's answers.
-/
namespace Go.Proofs.YtfjmnjemmfmoaaaGreat
open Go.RowKit

theorem tabWith_more (T : List Nat) (a b : List LFact) : tabWith (tabWith T a) b = tabWith T (a ++ b) := by
  unfold tabWith
  rw [List.foldl_append]
theorem supT_eq {p : LProg} {db fs : List LFact} {R : Bool} (h : SupT p db fs R) : R = supL p db fs := by
  rcases h with ⟨h1, rfl⟩ | ⟨h1, F, hF, rfl⟩
  · unfold supL
    rw [← Bool.and_assoc (factsOk p.1 db), ← Bool.and_assoc, h1, Bool.false_and]
  · rw [Bool.and_eq_true, Bool.and_eq_true] at h1
    obtain ⟨har, _, hfit⟩ := prog_parts h1.1
    obtain ⟨_, hfd, _⟩ := factsOk_parts h1.2.1
    obtain ⟨_, hff, _⟩ := factsOk_parts h1.2.2
    unfold supL
    rw [h1.1, h1.2.1, h1.2.2, Bool.true_and, Bool.true_and, Bool.true_and, tabWith_more, Bool.eq_iff_iff, tabIn_facts har hff (fun f h => by
      rcases List.mem_append.1 h with h | h
      · exact headsAll_fits fs hfit f ((hF f).1 h)
      · exact hfd f h), decide_eq_true_eq, List.length_eq_zero_iff, List.eq_nil_iff_forall_not_mem]
    constructor
    · intro h f hm
      rw [pickL_in, decide_eq_false_iff_not] at hm
      have hm2 := hm.2
      rw [setOf_mem] at hm2
      have h2 := h f hm.1
      rw [List.mem_append] at h2
      have h3 : f ∈ db ++ headsAll p.2 fs := by
        rw [List.mem_append]
        rcases h2 with h2 | h2
        · exact .inr ((hF f).1 h2)
        · exact .inl h2
      exact hm2 h3
    · intro h f hm
      apply Classical.byContradiction
      intro hn
      refine h f ((pickL_in _ _ _ _).2 ⟨hm, ?_⟩)
      rw [decide_eq_false_iff_not, setOf_mem]
      intro h3
      apply hn
      rw [List.mem_append] at h3 ⊢
      rcases h3 with h3 | h3
      · exact .inr h3
      · exact .inl ((hF f).2 h3)

theorem implSupported_any (v v2 v3 : Value) (p : LProg) (db fs : List LFact) (w : World) (h : RdProg w w.heap.size v p) (h2 : RdFacts w w.heap.size v2 db) (h3 : RdFacts w w.heap.size v3 fs) (hs : szP p ≤ 1048576) (hn : fs.length ≤ 1048576) (ht : tot fs ≤ 1048576) (hnd : db.length ≤ 1048576) (htd : tot db ≤ 1048576) :
    Calls Tryz.prog 11 #[v, v2, v3] w fun e w' => e = .returned (.bool (supL p db fs)) ∧ Below w.heap.size w w' :=
  (implSupT_any v v2 v3 p db fs w h h2 h3 hs hn ht hnd htd).mono fun _ _ ⟨_, he, hR, hb⟩ => ⟨by rw [he, supT_eq hR], hb⟩

end Go.Proofs.YtfjmnjemmfmoaaaGreat
/-
  Marks on integers (the words and the walks lie in MarkInts).
-/
namespace Go.Proofs.YtfjmnjemmfmoaaaGreat
open Go.RowKit

end Go.Proofs.YtfjmnjemmfmoaaaGreat
/-
  Marks on what is not read again: a store of a number over a number keeps the shape of all that lies there. The words, and the walks of markIntS, markAtom, markLitS, markRule, markRuleS, markProgram.
-/
namespace Go.Proofs.YtfjmnjemmfmoaaaGreat
open Go.RowKit

/-- Blocks outside [lo, hi) are as they were; within, numbers may have become others. -/
structure Marked (lo hi : Nat) (w w' : World) : Prop where
  only : Only lo hi w w'
  cell : ∀ p : Addr, p.block < w.heap.size → w'.cell? p = w.cell? p ∨ ∃ x y, w.cell? p = some (.int .i64 x) ∧ w'.cell? p = some (.int .i64 y)
  frozen : ∀ p : Addr, p.block < w.heap.size → w'.frozen? p = w.frozen? p

section
variable {lo hi : Nat} {w w1 w' : World}
theorem Marked.refl (lo hi : Nat) (w : World) : Marked lo hi w w := ⟨Only.refl _ _ _, fun _ _ => .inl rfl, fun _ _ => rfl⟩
theorem Marked.trans (h : Marked lo hi w w1) (k : Marked lo hi w1 w') : Marked lo hi w w' := by
  refine ⟨h.only.trans k.only, fun p hp => ?_, fun p hp => (k.frozen p (Nat.lt_of_lt_of_le hp h.only.size)).trans (h.frozen p hp)⟩
  rcases h.cell p hp with e | ⟨x, y, e1, e2⟩
  · rcases k.cell p (Nat.lt_of_lt_of_le hp h.only.size) with e' | ⟨x', y', e1', e2'⟩
    · exact .inl (e'.trans e)
    · exact .inr ⟨x', y', e ▸ e1', e2'⟩
  · rcases k.cell p (Nat.lt_of_lt_of_le hp h.only.size) with e' | ⟨x', y', e1', e2'⟩
    · exact .inr ⟨x, y, e1, e'.trans e2⟩
    · exact .inr ⟨x, y', e1, e2'⟩
theorem Marked.of_below (h : Below w.heap.size w w') : Marked lo hi w w' := ⟨Only.of_below h, fun _ hp => .inl (h.cell hp), fun _ hp => h.frozen hp⟩
theorem Marked.store {p : Addr} {x : Int} (hp : lo ≤ p.block ∧ p.block < hi) (hc : w.cell? p = some (.int .i64 x)) (y : Int) : Marked lo hi w (w.setCell p (.int .i64 y)) := by
  refine ⟨(Only.refl _ _ _).setCell hp _, fun q _ => ?_, fun q _ => ?_⟩
  · by_cases e : q = p
    · subst e
      exact .inr ⟨x, y, hc, World.cell?_setCell_same _ _ _ hc⟩
    · exact .inl (World.cell?_setCell_other _ _ _ _ (fun e' => e e'.symm))
  · unfold World.frozen? World.setCell
    rw [Array.getElem?_modify]
    by_cases e : p.block = q.block
    · rw [if_pos e]
      cases hq : w.heap[q.block]? with
      | none => rfl
      | some o => cases o <;> rfl
    · rw [if_neg e]

/-- A slice of n numbers, of blocks from lo on and below hi, that may be written. -/
def WrInts (w : World) (lo hi : Nat) (v : Value) (n : Nat) : Prop :=
  ∃ A c, v = .slice A n c ∧ (0 < n → ∃ b o, A = some ⟨b, o, none⟩ ∧ lo ≤ b ∧ b < hi ∧ ∀ k, k < n → w.frozen? ⟨b, o + k, none⟩ = false ∧ ∃ x, w.cell? ⟨b, o + k, none⟩ = some (.int .i64 x))
theorem Marked.int (h : Marked lo hi w w') {p : Addr} {x : Int} (hc : w.cell? p = some (.int .i64 x)) : ∃ y, w'.cell? p = some (.int .i64 y) := by
  rcases h.cell p (World.block_lt_of_cell? _ _ hc) with e | ⟨_, y, _, e⟩
  · exact ⟨x, e.trans hc⟩
  · exact ⟨y, e⟩
theorem Marked.slice (h : Marked lo hi w w') {p : Addr} {A : Option Addr} {n c : Nat} (hc : w.cell? p = some (.slice A n c)) : w'.cell? p = some (.slice A n c) := by
  rcases h.cell p (World.block_lt_of_cell? _ _ hc) with e | ⟨x, y, e, _⟩
  · exact e.trans hc
  · rw [hc] at e
    cases e
theorem WrInts.marked {v : Value} {n : Nat} (h : WrInts w lo hi v n) (hm : Marked lo hi w w') : WrInts w' lo hi v n := by
  obtain ⟨A, c, rfl, h⟩ := h
  refine ⟨A, c, rfl, fun hn => ?_⟩
  obtain ⟨b, o, rfl, h1, h2, hx⟩ := h hn
  refine ⟨b, o, rfl, h1, h2, fun k hk => ?_⟩
  obtain ⟨hf, x, hc⟩ := hx k hk
  exact ⟨(hm.frozen _ (World.block_lt_of_cell? _ _ hc)).trans hf, hm.int hc⟩
theorem OwnInts.wr {v : Value} {xs : List Int} (h : OwnInts w lo hi v xs) : WrInts w lo hi v xs.length := by
  have hrd := h.rd
  obtain ⟨⟨hlen, h⟩, hlt⟩ := h
  rcases h with ⟨rfl, h0⟩ | ⟨g, cap, cur, rfl, hbg, hg, hn, hm, hs, ht⟩
  · exact ⟨none, 0, by rw [h0], fun hn => absurd hn (by omega)⟩
  · refine ⟨_, cap, rfl, fun hn0 => ⟨g, 0, rfl, hbg, hlt g rfl, fun k hk => ⟨by simp [World.frozen?, hg], ?_⟩⟩⟩
    obtain ⟨A', c', e, _, hx⟩ := hrd
    injection e with e1 _ _
    obtain ⟨b, o, e2, _, hx⟩ := hx hn0
    rw [← e1] at e2
    injection e2 with e2
    injection e2 with e2 e3 _
    subst e2
    subst e3
    exact ⟨_, hx k hk⟩

def WLit (w : World) (lo hi : Nat) (u0 u1 u2 : Value) (l : LLit) : Prop := (∃ x, u0 = .int .i64 x) ∧ (∃ y, u1 = .int .i64 y) ∧ WrInts w lo hi u2 l.2.2.length
def WrLits (w : World) (lo hi : Nat) (v : Value) (ls : List LLit) : Prop := OwnRow WLit w lo hi v ls
theorem OwnLits.wr {v : Value} {ls : List LLit} (h : OwnLits w lo hi v ls) : WrLits w lo hi v ls := by
  obtain ⟨A, c, rfl, hc, h⟩ := h
  refine ⟨A, c, rfl, hc, fun hn => ?_⟩
  obtain ⟨b, o, rfl, h1, h2, hx⟩ := h hn
  refine ⟨b, o, rfl, h1, h2, fun k hk => ?_⟩
  obtain ⟨hf, u0, u1, u2, c0, c1, c2, rfl, rfl, hI⟩ := hx k hk
  exact ⟨hf, _, _, _, c0, c1, c2, ⟨_, rfl⟩, ⟨_, rfl⟩, hI.wr⟩
theorem WrLits.marked {v : Value} {ls : List LLit} (h : WrLits w lo hi v ls) (hm : Marked lo hi w w') : WrLits w' lo hi v ls := by
  obtain ⟨A, c, rfl, hc, h⟩ := h
  refine ⟨A, c, rfl, hc, fun hn => ?_⟩
  obtain ⟨b, o, rfl, h1, h2, hx⟩ := h hn
  refine ⟨b, o, rfl, h1, h2, fun k hk => ?_⟩
  obtain ⟨⟨f0, f1⟩, u0, u1, u2, c0, c1, c2, ⟨x, rfl⟩, ⟨y, rfl⟩, hI⟩ := hx k hk
  obtain ⟨x', d0⟩ := hm.int c0
  obtain ⟨y', d1⟩ := hm.int c1
  obtain ⟨A2, c2', rfl, hi⟩ := hI
  exact ⟨⟨(hm.frozen _ (World.block_lt_of_cell? _ _ c0)).trans f0, (hm.frozen _ (World.block_lt_of_cell? _ _ c1)).trans f1⟩, _, _, _, d0, d1, hm.slice c2, ⟨_, rfl⟩, ⟨_, rfl⟩, WrInts.marked ⟨A2, c2', rfl, hi⟩ hm⟩

def WRule (w : World) (lo hi : Nat) (u0 u1 u2 : Value) (r : LRule) : Prop := (∃ x, u0 = .int .i64 x) ∧ WrInts w lo hi u1 r.1.2.length ∧ WrLits w lo hi u2 r.2
def WrRules (w : World) (lo hi : Nat) (v : Value) (rs : List LRule) : Prop := OwnRow WRule w lo hi v rs
theorem OwnRules.wr {v : Value} {rs : List LRule} (h : OwnRules w lo hi v rs) : WrRules w lo hi v rs := by
  obtain ⟨A, c, rfl, hc, h⟩ := h
  refine ⟨A, c, rfl, hc, fun hn => ?_⟩
  obtain ⟨b, o, rfl, h1, h2, hx⟩ := h hn
  refine ⟨b, o, rfl, h1, h2, fun k hk => ?_⟩
  obtain ⟨hf, u0, u1, u2, c0, c1, c2, rfl, hI, hL⟩ := hx k hk
  exact ⟨hf, _, _, _, c0, c1, c2, ⟨_, rfl⟩, hI.wr, hL.wr⟩
theorem WrRules.marked {v : Value} {rs : List LRule} (h : WrRules w lo hi v rs) (hm : Marked lo hi w w') : WrRules w' lo hi v rs := by
  obtain ⟨A, c, rfl, hc, h⟩ := h
  refine ⟨A, c, rfl, hc, fun hn => ?_⟩
  obtain ⟨b, o, rfl, h1, h2, hx⟩ := h hn
  refine ⟨b, o, rfl, h1, h2, fun k hk => ?_⟩
  obtain ⟨⟨f0, f1⟩, u0, u1, u2, c0, c1, c2, ⟨x, rfl⟩, hI, hL⟩ := hx k hk
  obtain ⟨x', d0⟩ := hm.int c0
  have f1' := (hm.frozen _ (World.block_lt_of_cell? _ _ c1)).trans f1
  obtain ⟨A1, n1, rfl, hi1⟩ := hI
  obtain ⟨A2, n2, rfl, hc2, hi2⟩ := hL
  exact ⟨⟨(hm.frozen _ (World.block_lt_of_cell? _ _ c0)).trans f0, f1'⟩, _, _, _, d0, hm.slice c1, hm.slice c2, ⟨_, rfl⟩, WrInts.marked ⟨A1, n1, rfl, hi1⟩ hm, WrLits.marked ⟨A2, n2, rfl, hc2, hi2⟩ hm⟩
end

set_option maxHeartbeats 400000 in
theorem wmarkIntS_any (v : Value) (n : Nat) (k : Int) (lo hi : Nat) (w : World) (h : WrInts w lo hi v n) (hk0 : 0 ≤ k) (hk : k + n ≤ 4611686018427387904) :
    Calls Tryz.prog 53 #[v, .int .i64 k] w fun e w' => e = .returned (.int .i64 (k + n)) ∧ Marked lo hi w w' := by
  have H := Lib.hid h
  obtain ⟨A, c, rfl, _⟩ := h
  go_enter Tryz.func53, Tryz.ntmps53
  go_wp2_with (fail)
  go_loopw [1, 5] (fun m i wr => ∃ j : Nat, j ≤ n ∧ i = .int .i64 j ∧ m = .int .i64 (k + j) ∧ Marked lo hi w wr) (fun _ i _ => n - (intOf i).toNat)
  case atStart => exact ⟨0, Nat.zero_le _, rfl, by simp, Marked.refl _ _ _⟩
  case round =>
    obtain ⟨j, hj, rfl, rfl, hm⟩ := hrel
    by_cases hlt : j < n
    · obtain ⟨A', c', e, hx⟩ := H.out.marked hm
      injection e with e1 _ _
      subst e1
      obtain ⟨b, o, rfl, h1, h2, hx⟩ := hx (by omega)
      obtain ⟨hf, x, hc⟩ := hx j hlt
      have HM := Lib.hid (hm.trans (Marked.store (p := ⟨b, o + j, none⟩) ⟨h1, h2⟩ hc (k + j)))
      clear hx
      go_wp2_with (fail)
      go_roundw
      case rel => exact ⟨j + 1, by omega, by go_num, by go_num, HM.out⟩
      case measure => simp [intOf]; omega
    · have hkn : j = n := by omega
      have HK := Lib.hid (show k + (j : Int) = k + n by rw [hkn])
      clear hkn
      go_wp2_with (fail)
      go_ret
      exact ⟨ret_int HK.out, hm⟩

/-- How far the marks of literals, of a rule, of rules go. -/
def endL (k : Int) (ls : List LLit) : Int := k + 2 * (ls.length : Int) + (totL ls : Int)

set_option maxHeartbeats 1000000 in
set_option maxRecDepth 100000 in
theorem wmarkLitS_any (v : Value) (ls : List LLit) (k : Int) (lo hi : Nat) (w : World) (h : WrLits w lo hi v ls) (hk0 : 0 ≤ k) (hk : k ≤ 4294967296) (hn : ls.length ≤ 1073741824) (ht : totL ls ≤ 1073741824) :
    Calls Tryz.prog 27 #[v, .int .i64 k] w fun e w' => e = .returned (.int .i64 (endL k ls)) ∧ Marked lo hi w w' := by
  have H := Lib.hid h
  obtain ⟨A, c, rfl, _⟩ := h
  go_enter Tryz.func27, Tryz.ntmps27
  go_wp2_with (fail)
  go_loopw [1, 5] (fun m i wr => ∃ (j : Nat) (q : Int), j ≤ ls.length ∧ i = .int .i64 j ∧ m = .int .i64 q ∧ q = k + 2 * (j : Int) + (totL (ls.take j) : Int) ∧ Marked lo hi w wr) (fun _ i _ => ls.length - (intOf i).toNat)
  case atStart => exact ⟨0, k, Nat.zero_le _, rfl, rfl, by simp [totL], Marked.refl _ _ _⟩
  case round =>
    obtain ⟨j, q, hj, rfl, rfl, hq, hm⟩ := hrel
    by_cases hlt : j < ls.length
    · obtain ⟨A', c', e, _, hx⟩ := H.out.marked hm
      injection e with e1 _ e3
      subst e1
      subst e3
      obtain ⟨b, o, rfl, h1, h2, hx⟩ := hx (by omega)
      obtain ⟨⟨f0, f1⟩, u0, u1, u2, c0, c1, c2, ⟨x, rfl⟩, ⟨y, rfl⟩, hI⟩ := hx j hlt
      have m0 := Marked.store (p := ⟨b, o + j * 3, none⟩) ⟨h1, h2⟩ c0 q
      obtain ⟨y', c1'⟩ := m0.int c1
      have f1' := (m0.frozen ⟨b, o + j * 3 + 1, none⟩ (World.block_lt_of_cell? _ _ c1)).trans f1
      have m1 := Marked.store (p := ⟨b, o + j * 3 + 1, none⟩) ⟨h1, h2⟩ c1' (q + 1)
      have hI2 := hI.marked (m0.trans m1)
      obtain ⟨A3, c3, rfl, _⟩ := hI
      have c2' := (m0.trans m1).slice c2
      have htk := totL_take ls j hlt
      have hle := sum_at (fun l : LLit => l.2.2.length) ls j hlt
      have htl : totL (ls.take j) ≤ totL ls := by
        have := congrArg (fun l => (l.map (fun l : LLit => l.2.2.length)).sum) (List.take_append_drop j ls)
        simp only [List.map_append, List.sum_append] at this
        unfold totL
        omega
      have hle2 : ls[j].2.2.length ≤ totL ls := hle
      clear hle
      have hq0 : 0 ≤ q := by omega
      have hq1 : q ≤ 8589934592 := by omega
      have HI := Lib.hid hI2
      have HM := Lib.hid (hm.trans (m0.trans m1))
      have HQ := Lib.hid (show q + 1 + 1 + (ls[j].2.2.length : Int) = k + 2 * ((j + 1 : Nat) : Int) + (totL (ls.take (j + 1)) : Int) by rw [htk]; omega)
      clear hx m0 m1 hI2 htk htl hq
      go_wp2_with (fail)
      refine (wmarkIntS_any _ _ (q + 1 + 1) lo hi _ HI.out (by omega) (by omega)).mono ?_
      rintro e w3 ⟨rfl, hm3⟩
      have HM3 := Lib.hid (HM.out.trans hm3)
      go_wp2_with (fail)
      go_roundw
      case rel => exact ⟨j + 1, _, by omega, by go_num, rfl, HQ.out, HM3.out⟩
      case measure => simp [intOf]; omega
    · have hkn : j = ls.length := by omega
      have HK := Lib.hid (show q = endL k ls by rw [hq, hkn, List.take_length]; rfl)
      clear hkn hq
      go_wp2_with (fail)
      go_ret
      exact ⟨ret_int HK.out, hm⟩

def endR (k : Int) (r : LRule) : Int := endL (k + (r.1.2.length : Int)) r.2

end Go.Proofs.YtfjmnjemmfmoaaaGreat
/-
  Marks on rules and programs that are not read again: markRuleS, markProgram.
-/
namespace Go.Proofs.YtfjmnjemmfmoaaaGreat
open Go.RowKit

theorem endR_le (k : Int) (r : LRule) : k ≤ endR k r ∧ endR k r ≤ k + 2 * (szR r : Int) := by
  unfold endR endL szR
  omega
theorem totR_take_le (rs : List LRule) (j : Nat) : totR (rs.take j) ≤ totR rs := by
  have := congrArg (fun l => (l.map szR).sum) (List.take_append_drop j rs)
  simp only [List.map_append, List.sum_append] at this
  unfold totR
  omega

set_option maxHeartbeats 1000000 in
set_option maxRecDepth 100000 in
theorem wmarkRuleS_le (v : Value) (rs : List LRule) (k : Int) (lo hi : Nat) (w : World) (h : WrRules w lo hi v rs) (hk0 : 0 ≤ k) (hk : k ≤ 2097152) (hn : rs.length ≤ 1048576) (ht : totR rs ≤ 1048576) :
    Calls Tryz.prog 19 #[v, .int .i64 k] w fun e w' => ∃ z : Int, e = .returned (.int .i64 z) ∧ (k ≤ z ∧ z ≤ k + (rs.length : Int) + 2 * (totR rs : Int)) ∧ Marked lo hi w w' := by
  have H := Lib.hid h
  obtain ⟨A, c, rfl, _⟩ := h
  go_enter Tryz.func19, Tryz.ntmps19
  go_wp2_with (fail)
  go_loopw [1, 5] (fun m i wr => ∃ (j : Nat) (q : Int), j ≤ rs.length ∧ i = .int .i64 j ∧ m = .int .i64 q ∧ (k ≤ q ∧ q ≤ k + (j : Int) + 2 * (totR (rs.take j) : Int)) ∧ Marked lo hi w wr) (fun _ i _ => rs.length - (intOf i).toNat)
  case atStart => exact ⟨0, k, Nat.zero_le _, rfl, rfl, by simp [totR], Marked.refl _ _ _⟩
  case round =>
    obtain ⟨j, q, hj, rfl, rfl, ⟨hq, hq2⟩, hm⟩ := hrel
    by_cases hlt : j < rs.length
    · obtain ⟨A', c', e, _, hx⟩ := H.out.marked hm
      injection e with e1 _ e3
      subst e1
      subst e3
      obtain ⟨b, o, rfl, h1, h2, hx⟩ := hx (by omega)
      obtain ⟨⟨f0, f1⟩, u0, u1, u2, c0, c1, c2, ⟨x, rfl⟩, hI, hL⟩ := hx j hlt
      have m0 := Marked.store (p := ⟨b, o + j * 3, none⟩) ⟨h1, h2⟩ c0 q
      have hI2 := hI.marked m0
      have hL2 := hL.marked m0
      obtain ⟨A3, n3, rfl, _⟩ := hI
      obtain ⟨A4, n4, rfl, _⟩ := hL
      have d1 := m0.slice c1
      have htk := totR_take rs j hlt
      have hle := totR_take_le rs (j + 1)
      have hsz : rs[j].1.2.length + (rs[j].2.length + totL rs[j].2) = szR rs[j] := rfl
      have hq0 : 0 ≤ q := by omega
      have hq1 : q ≤ 8388608 := by omega
      have HI := Lib.hid hI2
      have HL := Lib.hid hL2
      have HM := Lib.hid (hm.trans m0)
      have HE := endR_le (q + 1) rs[j]
      clear hx hI2 hL2
      go_wp2_with (fail)
      refine (wmarkIntS_any _ _ (q + 1) lo hi _ HI.out (by omega) (by omega)).mono ?_
      rintro e w3 ⟨rfl, hm3⟩
      have d2 := (m0.trans hm3).slice c2
      have HM3 := Lib.hid (HM.out.trans hm3)
      have HL3 := Lib.hid (HL.out.marked hm3)
      clear m0 hm3 c0 c1 c2 d1
      go_wp2_with (fail)
      refine (wmarkLitS_any _ rs[j].2 _ lo hi _ HL3.out (by omega) (by omega) (by omega) (by omega)).mono ?_
      rintro e w4 ⟨rfl, hm4⟩
      have HM4 := Lib.hid (HM3.out.trans hm4)
      have HQ := Lib.hid (show k ≤ endL (q + 1 + (rs[j].1.2.length : Int)) rs[j].2 ∧ endL (q + 1 + (rs[j].1.2.length : Int)) rs[j].2 ≤ k + ((j + 1 : Nat) : Int) + 2 * (totR (rs.take (j + 1)) : Int) by
        unfold endR at HE
        rw [htk]
        omega)
      clear HE htk
      go_wp2_with (fail)
      go_roundw
      case rel => exact ⟨j + 1, _, by omega, by go_num, rfl, HQ.out, HM4.out⟩
      case measure => simp [intOf]; omega
    · have HK := Lib.hid (show k ≤ q ∧ q ≤ k + (rs.length : Int) + 2 * (totR rs : Int) by
        have := totR_take_le rs j
        omega)
      clear hq hq2
      go_wp2_with (fail)
      go_ret
      exact ⟨_, rfl, HK.out, hm⟩

set_option maxHeartbeats 400000 in
theorem wmarkProgram_le (a b : Value) (p : LProg) (k : Int) (lo hi : Nat) (w : World) (h : WrInts w lo hi a p.1.length) (h2 : WrRules w lo hi b p.2) (hk0 : 0 ≤ k) (hk : k ≤ 1048576) (hs : szP p ≤ 1048576) :
    Calls Tryz.prog 17 #[.agg #[a, b], .int .i64 k] w fun e w' => ∃ z : Int, e = .returned (.int .i64 z) ∧ (k ≤ z ∧ z ≤ k + 2 * (szP p : Int)) ∧ Marked lo hi w w' := by
  have H := Lib.hid h
  have H2 := Lib.hid h2
  have HSZ := Lib.hid (show szP p = p.1.length + (p.2.length + totR p.2) from rfl)
  unfold szP at hs
  obtain ⟨A, c, rfl, _⟩ := h
  obtain ⟨A2, c2, rfl, _⟩ := h2
  go_enter Tryz.func17, Tryz.ntmps17
  go_wp2_with (fail)
  obtain ⟨w1, hw1⟩ : ∃ w1, w1 = w.alloc (Obj.cells #[Value.slice A p.1.length c, Value.slice A2 p.2.length c2] 32) := ⟨_, rfl⟩
  have M1 : Marked lo hi w w1 := by rw [hw1]; exact Marked.of_below (below1 _ _)
  have x1 : Blk w1 w.heap.size 32 #[.slice A p.1.length c, .slice A2 p.2.length c2] := by rw [hw1]; exact Blk.new _ _ _
  rw [← hw1]
  clear hw1
  refine (wmarkIntS_any _ _ k lo hi _ (H.out.marked M1) hk0 (by omega)).mono ?_
  rintro e w2 ⟨rfl, hm2⟩
  have y2 : w2.cell? ⟨w.heap.size, 1, none⟩ = some (.slice A2 p.2.length c2) := hm2.slice (x1.cell 1)
  have M2 := M1.trans hm2
  go_wp2_with (fail)
  refine (wmarkRuleS_le _ p.2 _ lo hi _ (H2.out.marked M2) (by omega) (by omega) (by omega) (by omega)).mono ?_
  rintro e w3 ⟨z, rfl, hz, hm3⟩
  have M3 := M2.trans hm3
  have HZ := Lib.hid (show k ≤ z ∧ z ≤ k + 2 * (szP p : Int) by rw [HSZ.out]; omega)
  clear hz
  go_wp2_with (fail)
  go_ret
  exact ⟨_, rfl, HZ.out, M3⟩
theorem wmarkProgram_any (a b : Value) (p : LProg) (k : Int) (lo hi : Nat) (w : World) (h : WrInts w lo hi a p.1.length) (h2 : WrRules w lo hi b p.2) (hk0 : 0 ≤ k) (hk : k ≤ 1048576) (hs : szP p ≤ 1048576) :
    Calls Tryz.prog 17 #[.agg #[a, b], .int .i64 k] w fun e w' => ∃ z : Int, e = .returned (.int .i64 z) ∧ 0 ≤ z ∧ Marked lo hi w w' :=
  (wmarkProgram_le a b p k lo hi w h h2 hk0 hk hs).mono fun _ _ ⟨z, h1, h2, h3⟩ => ⟨z, h1, by omega, h3⟩

end Go.Proofs.YtfjmnjemmfmoaaaGreat
/-
  What comes in, its lengths.
-/
namespace Go.Proofs.YtfjmnjemmfmoaaaGreat
open Go.RowKit

theorem ruleLens_in {r : LRule} (h : ruleFitsIn r) : ruleLens r := by
  obtain ⟨h1, h2, h3⟩ := h
  unfold maxLen at *
  exact ⟨by omega, by omega, fun k hk => by have := h3 k hk; omega⟩
theorem progLens_in {p : LProg} (h : p.1.length ≤ maxLen ∧ p.2.length ≤ maxLen ∧ ∀ k (h : k < p.2.length), ruleFitsIn p.2[k]) : progLens p := by
  obtain ⟨h1, h2, h3⟩ := h
  refine ⟨?_, ?_, fun k hk => ruleLens_in (h3 k hk)⟩ <;> (unfold maxLen at *; omega)

end Go.Proofs.YtfjmnjemmfmoaaaGreat
/-
  Programs that a call has made, and their sizes and marks, in the one form that the laws' walks ask.
-/
namespace Go.Proofs.YtfjmnjemmfmoaaaGreat
open Go.RowKit

/-- A program whose two rows stand in blocks from lo on and below hi. -/
def OwnProg (w : World) (lo hi : Nat) (v : Value) (p : LProg) : Prop := ∃ a b, v = .agg #[a, b] ∧ OwnInts w lo hi a p.1 ∧ OwnRules w lo hi b p.2
theorem RdProg.more {w : World} {B B' : Nat} {v : Value} {p : LProg} (h : RdProg w B v p) (hB : B ≤ B') : RdProg w B' v p := by
  obtain ⟨a, b, rfl, h1, h2⟩ := h
  exact ⟨a, b, rfl, h1.more hB, h2.more hB⟩
theorem OwnProg.below {w w' : World} {lo hi B : Nat} {v : Value} {p : LProg} (h : OwnProg w lo hi v p) (hb : Below B w w') (hB : hi ≤ B) : OwnProg w' lo hi v p := by
  obtain ⟨a, b, rfl, h1, h2⟩ := h
  exact ⟨a, b, rfl, h1.below hb hB, h2.below hb hB⟩
theorem OwnProg.only {w w' : World} {lo hi lo' hi' : Nat} {v : Value} {p : LProg} (h : OwnProg w lo hi v p) (ho : Only lo' hi' w w') (hd : hi ≤ lo' ∨ hi' ≤ lo) (hh : hi ≤ w.heap.size) : OwnProg w' lo hi v p := by
  obtain ⟨a, b, rfl, h1, h2⟩ := h
  exact ⟨a, b, rfl, h1.only ho hd, h2.keep fun g h3 h4 => ho.block g (by omega) (by omega)⟩
theorem OwnProg.rd {w : World} {lo hi : Nat} {v : Value} {p : LProg} (h : OwnProg w lo hi v p) : RdProg w hi v p := by
  obtain ⟨a, b, rfl, h1, h2⟩ := h
  exact ⟨a, b, rfl, h1.rd, h2.rd⟩

theorem toProgram_own (v : Value) (p : LProg) (w : World) (h : RdProg w w.heap.size v p) (hn : szP p ≤ 1048576) :
    Calls Tryz.prog 9 #[v] w fun e w' => ∃ A c A2 c2, e = .returned (.agg #[.slice A p.1.length c, .slice A2 p.2.length c2]) ∧ OwnProg w' w.heap.size w'.heap.size (.agg #[.slice A p.1.length c, .slice A2 p.2.length c2]) p ∧ Below w.heap.size w w' :=
  (toProgram_any v p w h hn).mono fun _ _ ⟨A, c, A2, c2, he, h1, h2, hb⟩ => ⟨A, c, A2, c2, he, ⟨_, _, rfl, h1, h2⟩, hb⟩

theorem us_prog {v : Value} {p : LProg} {left : Int} {w : World} (h : RdProg w w.heap.size v p) (h0 : 0 ≤ left) (hl : left ≤ 1048576) (hn : progLens p) :
    Calls Tryz.prog 6 #[v, .int .i64 left] w fun e w' => ∃ z, e = .returned (.int .i64 z) ∧ (z = -1 ∨ (0 ≤ z ∧ z + szP p = left)) ∧ Below w.heap.size w w' :=
  szProgram_any v p left w h h0 hl hn

theorem um_prog {v : Value} {p : LProg} {lo hi : Nat} {w : World} (k : Int) (h : OwnProg w lo hi v p) (hk0 : 0 ≤ k) (hk : k ≤ 1048576) (hs : szP p ≤ 1048576) :
    Calls Tryz.prog 17 #[v, .int .i64 k] w fun e w' => ∃ z, e = .returned (.int .i64 z) ∧ k ≤ z ∧ z ≤ k + 2 * (szP p : Int) ∧ True ∧ Only lo hi w w' := by
  obtain ⟨a, b, rfl, h1, h2⟩ := h
  exact (wmarkProgram_le a b p k lo hi w h1.wr h2.wr hk0 hk hs).mono fun _ _ ⟨z, he, hz, hm⟩ => ⟨z, he, hz.1, hz.2, trivial, hm.only⟩

end Go.Proofs.YtfjmnjemmfmoaaaGreat
/-
  Marks and sizes of lists of facts, in the one form that the laws' walks ask.
-/
namespace Go.Proofs.YtfjmnjemmfmoaaaGreat
open Go.RowKit

def szF (fs : List LFact) : Nat := fs.length + tot fs
/-- The marks from k on stand in a row of facts, and end at z. -/
def HdFacts (w : World) (lo hi : Nat) (v : Value) (fs : List LFact) (k z : Int) : Prop := OwnFacts w lo hi v (markF k fs) ∧ z = endF k fs ∧ 0 ≤ k ∧ k ≤ 4294967296 ∧ szF fs ≤ 1073741824
theorem HdFacts.below {w w' : World} {lo hi B : Nat} {v : Value} {fs : List LFact} {k z : Int} (h : HdFacts w lo hi v fs k z) (hb : Below B w w') (hB : hi ≤ B) : HdFacts w' lo hi v fs k z := ⟨h.1.below hb hB, h.2⟩
theorem HdFacts.only {w w' : World} {lo hi lo' hi' : Nat} {v : Value} {fs : List LFact} {k z : Int} (h : HdFacts w lo hi v fs k z) (ho : Only lo' hi' w w') (hd : hi ≤ lo' ∨ hi' ≤ lo) : HdFacts w' lo hi v fs k z := ⟨h.1.only ho hd, h.2⟩

theorem um_facts {v : Value} {fs : List LFact} {lo hi : Nat} {w : World} (k : Int) (h : OwnFacts w lo hi v fs) (hk0 : 0 ≤ k) (hk : k ≤ 4294967296) (hs : szF fs ≤ 1073741824) :
    Calls Tryz.prog 18 #[v, .int .i64 k] w fun e w' => ∃ z, e = .returned (.int .i64 z) ∧ k ≤ z ∧ z ≤ k + szF fs ∧ HdFacts w' lo hi v fs k z ∧ Only lo hi w w' :=
  (markFactS_any v fs k lo hi w h hk0 hk (by unfold szF at hs; omega) (by unfold szF at hs; omega)).mono fun _ _ ⟨he, ho, hg⟩ =>
    ⟨_, he, by unfold endF; omega, by unfold endF szF; omega, ⟨ho, rfl, hk0, hk, hs⟩, hg⟩

theorem us_facts {v : Value} {fs : List LFact} {left : Int} {w : World} (h : RdFacts w w.heap.size v fs) (h0 : 0 ≤ left) (hl : left ≤ 1048576) (hn : fs.length ≤ maxLen) (hm : ∀ k (h : k < fs.length), fs[k].2.length ≤ maxLen) :
    Calls Tryz.prog 7 #[v, .int .i64 left] w fun e w' => ∃ z, e = .returned (.int .i64 z) ∧ (z = -1 ∨ (0 ≤ z ∧ z + szF fs = left)) ∧ Below w.heap.size w w' :=
  (szFactS_any v fs left w h h0 hl (by unfold maxLen at hn; omega) (fun k hk => by have := hm k hk; unfold maxLen at this; omega)).mono fun _ _ ⟨r, he, hr, hb⟩ => ⟨r, he, hr.imp id fun ⟨a, b⟩ => ⟨a, by unfold szF; omega⟩, hb⟩

end Go.Proofs.YtfjmnjemmfmoaaaGreat
/-
  What comes in, opened into the words of the Base text.
-/
namespace Go.Proofs.YtfjmnjemmfmoaaaGreat
open Go.ChangeShapes Go.WideShapes Go.ChangeAt Go.RowKit Go.Joins Go.Deep

section
variable {H : Type} {enc : TypeId × Value → H} {W : World}

def InFact (W : World) (v : Value) (f : LFact) : Prop := RdFact W W.heap.size v f ∧ f.2.length ≤ maxLen
def InFacts (W : World) (v : Value) (fs : List LFact) : Prop := RdFacts W W.heap.size v fs ∧ fs.length ≤ maxLen ∧ ∀ k (h : k < fs.length), fs[k].2.length ≤ maxLen

theorem Tryz.cells60 : Tryz.prog.cellsOf 60 = 2 := by kernel_rfl
set_option maxRecDepth 100000 in
theorem open_inFact {v : Value} {d : DataW H} {p : List MemPlace} {b0 : Nat} (hv : Value.okWide Tryz.prog W .any b0 60 v) (h : DataW.Trod enc Tryz.prog W 0 (fun _ => true) true 60 v d p) :
    ∃ f, InFact W v f := by
  obtain ⟨v0, v1, y0, y1, n, rfl, _, _, h0, h1⟩ := open_agg2 Tryz.underlying60 (by kernel_rfl) Tryz.cells60 hv h
  obtain ⟨m, e0, _, _⟩ := DataW.trod_int Tryz.underlying3 h0
  simp at e0
  subst e0
  obtain ⟨xs, hx⟩ := open_inInts_cells h1
  exact ⟨(m, xs), ⟨v1, rfl, hx.1⟩, hx.2⟩

set_option maxRecDepth 100000 in
theorem open_inFacts {v : Value} {d : DataW H} {p : List MemPlace} {b0 : Nat} (hv : Value.okWide Tryz.prog W .any b0 26 v) (h : DataW.Trod enc Tryz.prog W 0 (fun _ => true) true 26 v d p) :
    ∃ fs, InFacts W v fs := by
  obtain ⟨a, len, cap, rfl⟩ := okWide_slice Tryz.underlying26 hv
  obtain ⟨fuel, hf⟩ := h
  rcases open_slice_pairs Tryz.underlying26 Tryz.underlying60 Tryz.cells60 rfl rfl Tryz.cells3 Tryz.cells22 hf with ⟨hcs, _⟩ | ⟨a', len', cap', m, n, V0, V1, D0, D1, P0, P1, hcs, _, hl, hm, hmm, _, hx⟩
  · simp [Value.cells] at hcs
    obtain ⟨rfl, rfl, rfl⟩ := hcs
    exact ⟨[], ⟨none, 0, rfl, by simp, fun h => absurd h (by simp)⟩, by simp, fun k h => absurd h (by simp)⟩
  · simp [Value.cells] at hcs
    obtain ⟨rfl, rfl, rfl⟩ := hcs
    simp at hmm
    subst hmm
    obtain ⟨F, hF⟩ := choose_lt (α := LFact) (n := len) (p := fun i f => V0 i = .int .i64 f.1 ∧ InInts W (V1 i) f.2) (fun i hi => by
      obtain ⟨_, _, h0, h1⟩ := hx i (by omega)
      obtain ⟨q, e0, _, _⟩ := DataW.trod_int Tryz.underlying3 h0
      obtain ⟨xs, hxs⟩ := open_inInts_cells h1
      simp at e0
      exact ⟨(q, xs), e0, hxs⟩)
    refine ⟨(List.range len).map F, ⟨some a', m, by simp, by simpa using hl, fun hn => ?_⟩, by simp; omega, fun k hk => ?_⟩
    · simp at hn
      obtain ⟨b, off, spot⟩ := a'
      have hspot : spot = none := by simpa [Addr.add] using World.cell?_spot (hx 0 (by omega)).1
      subst hspot
      have hb : b < W.heap.size := by simpa [Addr.add] using World.block_lt_of_cell? _ _ (hx 0 (by omega)).1
      refine ⟨b, off, rfl, hb, fun k hk => ?_⟩
      simp at hk
      obtain ⟨c0, c1, _, _⟩ := hx k (by omega)
      obtain ⟨e0, e1⟩ := hF k hk
      rw [Go.WideShapes.add_plain, e0] at c0
      rw [Go.WideShapes.add_plain] at c1
      exact ⟨V1 k, by simpa using c0, by simpa [Nat.add_assoc] using c1, by simpa using e1.1⟩
    · simp at hk ⊢
      exact (hF k hk).2.2
end

end Go.Proofs.YtfjmnjemmfmoaaaGreat
/-
  The walk of the law on Supported (written by wip/genlaw.py).
-/
namespace Go.Proofs.YtfjmnjemmfmoaaaGreat
open Go.RowKit

set_option maxHeartbeats 4000000 in
set_option maxRecDepth 100000 in
theorem lawSupported_any (v0 : Value) (v1 : Value) (v2 : Value) (p : LProg) (db : List LFact) (fs : List LFact) (w : World) (h0 : RdProg w w.heap.size v0 p) (h1 : RdFacts w w.heap.size v1 db) (h2 : RdFacts w w.heap.size v2 fs) (n0 : progLens p) (n1 : db.length ≤ maxLen) (m1 : ∀ k (h : k < db.length), db[k].2.length ≤ maxLen) (n2 : fs.length ≤ maxLen) (m2 : ∀ k (h : k < fs.length), fs[k].2.length ≤ maxLen) :
    Calls Tryz.prog 3 #[v0, v1, v2] w fun e w' => e = .returned (.bool true) ∧ Below w.heap.size w w' := by
  have H0 := Lib.hid h0
  obtain ⟨_, _, rfl, ⟨A0, c0, rfl, hc0, _⟩, ⟨A0b, c0b, rfl, hc0b, _⟩⟩ := h0
  have H1 := Lib.hid h1
  obtain ⟨A1, c1, rfl, hc1, _⟩ := h1
  have H2 := Lib.hid h2
  obtain ⟨A2, c2, rfl, hc2, _⟩ := h2
  go_enter Tryz.func3, Tryz.ntmps3
  go_wp2_with (fail)
  obtain ⟨w1, hw_w1⟩ : ∃ W', W' = w.alloc (Obj.cells #[Value.slice A0 p.1.length c0, Value.slice A0b p.2.length c0b] 25) := ⟨_, rfl⟩
  rw [← hw_w1]
  have B_w1 : Below w.heap.size w w1 := by rw [hw_w1]; exact below1 _ _
  have bx0 : Blk w1 (w.heap.size + 0) 25 #[.slice A0 p.1.length c0, .slice A0b p.2.length c0b] := by
    rw [hw_w1]
    have := (Blk.new w 25 #[.slice A0 p.1.length c0, .slice A0b p.2.length c0b])
    simpa using this
  have bx0_l := bx0.lt
  rw [Nat.add_zero] at bx0 bx0_l
  have s_w1 := B_w1.size
  clear hw_w1
  refine (us_prog (H0.out.on B_w1) (by omega) (by omega) n0).mono ?_
  rintro e w2 ⟨z0, rfl, hz0, hbz0⟩
  have s_w2 := hbz0.size
  have bx0_1 := bx0.below hbz0 (by first | exact bx0.lt | omega)
  clear bx0
  have bx0_1_l := bx0_1.lt
  have B_w2 := bthen B_w1 hbz0
  rcases hz0 with rfl | ⟨zp0, zs0⟩
  · go_wp2_with (fail)
    go_ret
    exact ⟨rfl, B_w2⟩
  have zn0 : ¬ z0 < 0 := by omega
  have r0 : szP p ≤ 1048576 := by omega
  have zl0 : z0 ≤ 1048576 := by omega
  have ZS0 := Lib.hid zs0
  clear zs0
  have q1 : w2.cell? ⟨w.heap.size, 0, none⟩ = some (.slice A0 p.1.length c0) := bx0_1.cell 0
  have q2 : w2.cell? ⟨w.heap.size, 1, none⟩ = some (.slice A0b p.2.length c0b) := bx0_1.cell 1
  go_wp2_with (fail)
  clear q1 q2
  refine (us_facts (H1.out.on B_w2) (by omega) (by omega) n1 m1).mono ?_
  rintro e w3 ⟨z1, rfl, hz1, hbz1⟩
  have s_w3 := hbz1.size
  have bx0_2 := bx0_1.below hbz1 (by first | exact bx0_1.lt | omega)
  clear bx0_1
  have bx0_2_l := bx0_2.lt
  have B_w3 := bthen B_w2 hbz1
  rcases hz1 with rfl | ⟨zp1, zs1⟩
  · go_wp2_with (fail)
    go_ret
    exact ⟨rfl, B_w3⟩
  have zn1 : ¬ z1 < 0 := by omega
  have r1 : szF db ≤ 1048576 := by omega
  have zl1 : z1 ≤ 1048576 := by omega
  have ZS1 := Lib.hid zs1
  clear zs1
  have q3 : w3.cell? ⟨w.heap.size, 0, none⟩ = some (.slice A0 p.1.length c0) := bx0_2.cell 0
  have q4 : w3.cell? ⟨w.heap.size, 1, none⟩ = some (.slice A0b p.2.length c0b) := bx0_2.cell 1
  go_wp2_with (fail)
  clear q3 q4
  refine (us_facts (H2.out.on B_w3) (by omega) (by omega) n2 m2).mono ?_
  rintro e w4 ⟨z2, rfl, hz2, hbz2⟩
  have s_w4 := hbz2.size
  have bx0_3 := bx0_2.below hbz2 (by first | exact bx0_2.lt | omega)
  clear bx0_2
  have bx0_3_l := bx0_3.lt
  have B_w4 := bthen B_w3 hbz2
  rcases hz2 with rfl | ⟨zp2, zs2⟩
  · go_wp2_with (fail)
    go_ret
    exact ⟨rfl, B_w4⟩
  have zn2 : ¬ z2 < 0 := by omega
  have r2 : szF fs ≤ 1048576 := by omega
  have zl2 : z2 ≤ 1048576 := by omega
  have ZS2 := Lib.hid zs2
  clear zs2 zn2
  have zn2 : ¬ z2 < 0 := by omega
  obtain ⟨R0, hR0⟩ : ∃ R, R = supL p db fs := ⟨_, rfl⟩
  have HR0 := Lib.hid hR0
  clear hR0
  have gb0 : (R0 != R0) = false := by simp
  have q5 : w4.cell? ⟨w.heap.size, 0, none⟩ = some (.slice A0 p.1.length c0) := bx0_3.cell 0
  have q6 : w4.cell? ⟨w.heap.size, 1, none⟩ = some (.slice A0b p.2.length c0b) := bx0_3.cell 1
  go_wp2_with (fail)
  clear q5 q6
  refine (toProgram_own _ p _ (H0.out.on B_w4) (by omega)).mono ?_
  rintro e w5 ⟨P1, d1, P1b, d1b, rfl, o1, hb1⟩
  have s_w5 := hb1.size
  have bx0_4 := bx0_3.below hb1 (by first | exact bx0_3.lt | omega)
  clear bx0_3
  have bx0_4_l := bx0_4.lt
  have B_w5 := bthen B_w4 hb1
  have q7 : w5.cell? ⟨w.heap.size, 0, none⟩ = some (.slice A0 p.1.length c0) := bx0_4.cell 0
  have q8 : w5.cell? ⟨w.heap.size, 1, none⟩ = some (.slice A0b p.2.length c0b) := bx0_4.cell 1
  go_wp2_with (fail)
  clear q7 q8
  refine (toFactS_any _ db _ (H1.out.on B_w5) (by unfold szF at *; omega) (by unfold szF at *; omega)).mono ?_
  rintro e w6 ⟨P2, d2, rfl, o2, hb2⟩
  have s_w6 := hb2.size
  have bx0_5 := bx0_4.below hb2 (by first | exact bx0_4.lt | omega)
  clear bx0_4
  have bx0_5_l := bx0_5.lt
  have tw0_5 := o1.below hb2 (by omega)
  clear o1
  have B_w6 := bthen B_w5 hb2
  have q9 : w6.cell? ⟨w.heap.size, 0, none⟩ = some (.slice A0 p.1.length c0) := bx0_5.cell 0
  have q10 : w6.cell? ⟨w.heap.size, 1, none⟩ = some (.slice A0b p.2.length c0b) := bx0_5.cell 1
  go_wp2_with (fail)
  clear q9 q10
  refine (toFactS_any _ fs _ (H2.out.on B_w6) (by unfold szF at *; omega) (by unfold szF at *; omega)).mono ?_
  rintro e w7 ⟨P3, d3, rfl, o3, hb3⟩
  have s_w7 := hb3.size
  have bx0_6 := bx0_5.below hb3 (by first | exact bx0_5.lt | omega)
  clear bx0_5
  have bx0_6_l := bx0_6.lt
  have tw0_6 := tw0_5.below hb3 (by omega)
  clear tw0_5
  have tw1_6 := o2.below hb3 (by omega)
  clear o2
  have B_w7 := bthen B_w6 hb3
  have q11 : w7.cell? ⟨w.heap.size, 0, none⟩ = some (.slice A0 p.1.length c0) := bx0_6.cell 0
  have q12 : w7.cell? ⟨w.heap.size, 1, none⟩ = some (.slice A0b p.2.length c0b) := bx0_6.cell 1
  go_wp2_with (fail)
  clear q11 q12
  refine (specSupported_any _ _ _ p db fs _ (tw0_6.rd.more (by omega)) (tw1_6.rd.more (by omega)) (o3.rd.more (by omega)) (by omega) (by unfold szF at r2; omega) (by unfold szF at r2; omega) (by unfold szF at r1; omega) (by unfold szF at r1; omega)).mono ?_
  try rw [← HR0.out]
  rintro e w8 ⟨rfl, hb4⟩
  have s_w8 := hb4.size
  have bx0_7 := bx0_6.below hb4 (by first | exact bx0_6.lt | omega)
  clear bx0_6
  have bx0_7_l := bx0_7.lt
  have tw0_7 := tw0_6.below hb4 (by omega)
  clear tw0_6
  have tw1_7 := tw1_6.below hb4 (by omega)
  clear tw1_6
  have tw2_7 := o3.below hb4 (by omega)
  clear o3
  have B_w8 := bthen B_w7 hb4
  have q13 : w8.cell? ⟨w.heap.size, 0, none⟩ = some (.slice A0 p.1.length c0) := bx0_7.cell 0
  have q14 : w8.cell? ⟨w.heap.size, 1, none⟩ = some (.slice A0b p.2.length c0b) := bx0_7.cell 1
  go_wp2_with (fail)
  clear q13 q14
  refine (toProgram_own _ p _ (H0.out.on B_w8) (by omega)).mono ?_
  rintro e w9 ⟨P5, d5, P5b, d5b, rfl, o5, hb5⟩
  have s_w9 := hb5.size
  have bx0_8 := bx0_7.below hb5 (by first | exact bx0_7.lt | omega)
  clear bx0_7
  have bx0_8_l := bx0_8.lt
  have B_w9 := bthen B_w8 hb5
  have q15 : w9.cell? ⟨w.heap.size, 0, none⟩ = some (.slice A0 p.1.length c0) := bx0_8.cell 0
  have q16 : w9.cell? ⟨w.heap.size, 1, none⟩ = some (.slice A0b p.2.length c0b) := bx0_8.cell 1
  go_wp2_with (fail)
  clear q15 q16
  obtain ⟨w10, hw_w10⟩ : ∃ W', W' = w9.alloc (Obj.cells #[Value.slice P5 p.1.length d5, Value.slice P5b p.2.length d5b] 32) := ⟨_, rfl⟩
  rw [← hw_w10]
  have hb_w10 : Below w9.heap.size w9 w10 := by rw [hw_w10]; exact below1 _ _
  have bxx0_n : Blk w10 w9.heap.size 32 #[.slice P5 p.1.length d5, .slice P5b p.2.length d5b] := by rw [hw_w10]; exact Blk.new _ _ _
  have bxx0_nl := bxx0_n.lt
  clear hw_w10
  have s_w10 := hb_w10.size
  have bx0_9 := bx0_8.below hb_w10 (by first | exact bx0_8.lt | omega)
  clear bx0_8
  have bx0_9_l := bx0_9.lt
  have x0_9 := o5.below hb_w10 (by omega)
  clear o5
  have B_w10 := bthen B_w9 hb_w10
  refine (toFactS_any _ db _ (H1.out.on B_w10) (by unfold szF at *; omega) (by unfold szF at *; omega)).mono ?_
  rintro e w11 ⟨P6, d6, rfl, o6, hb6⟩
  have s_w11 := hb6.size
  have bx0_10 := bx0_9.below hb6 (by first | exact bx0_9.lt | omega)
  clear bx0_9
  have bx0_10_l := bx0_10.lt
  have x0_10 := x0_9.below hb6 (by omega)
  clear x0_9
  have bxx0_10 := bxx0_n.below hb6 (by first | exact bxx0_n.lt | omega)
  clear bxx0_n
  have bxx0_10_l := bxx0_10.lt
  have B_w11 := bthen B_w10 hb6
  have q17 : w11.cell? ⟨w.heap.size, 0, none⟩ = some (.slice A0 p.1.length c0) := bx0_10.cell 0
  have q18 : w11.cell? ⟨w.heap.size, 1, none⟩ = some (.slice A0b p.2.length c0b) := bx0_10.cell 1
  have q19 : w11.cell? ⟨w9.heap.size, 0, none⟩ = some (.slice P5 p.1.length d5) := bxx0_10.cell 0
  have q20 : w11.cell? ⟨w9.heap.size, 1, none⟩ = some (.slice P5b p.2.length d5b) := bxx0_10.cell 1
  go_wp2_with (fail)
  clear q17 q18 q19 q20
  refine (toFactS_any _ fs _ (H2.out.on B_w11) (by unfold szF at *; omega) (by unfold szF at *; omega)).mono ?_
  rintro e w12 ⟨P7, d7, rfl, o7, hb7⟩
  have s_w12 := hb7.size
  have bx0_11 := bx0_10.below hb7 (by first | exact bx0_10.lt | omega)
  clear bx0_10
  have bx0_11_l := bx0_11.lt
  have x0_11 := x0_10.below hb7 (by omega)
  clear x0_10
  have bxx0_11 := bxx0_10.below hb7 (by first | exact bxx0_10.lt | omega)
  clear bxx0_10
  have bxx0_11_l := bxx0_11.lt
  have x1_11 := o6.below hb7 (by omega)
  clear o6
  have B_w12 := bthen B_w11 hb7
  have q21 : w12.cell? ⟨w.heap.size, 0, none⟩ = some (.slice A0 p.1.length c0) := bx0_11.cell 0
  have q22 : w12.cell? ⟨w.heap.size, 1, none⟩ = some (.slice A0b p.2.length c0b) := bx0_11.cell 1
  have q23 : w12.cell? ⟨w9.heap.size, 0, none⟩ = some (.slice P5 p.1.length d5) := bxx0_11.cell 0
  have q24 : w12.cell? ⟨w9.heap.size, 1, none⟩ = some (.slice P5b p.2.length d5b) := bxx0_11.cell 1
  go_wp2_with (fail)
  clear q21 q22 q23 q24
  refine (implSupported_any _ _ _ p db fs _ (x0_11.rd.more (by omega)) (x1_11.rd.more (by omega)) (o7.rd.more (by omega)) (by omega) (by unfold szF at r2; omega) (by unfold szF at r2; omega) (by unfold szF at r1; omega) (by unfold szF at r1; omega)).mono ?_
  try rw [← HR0.out]
  rintro e w13 ⟨rfl, hb8⟩
  have s_w13 := hb8.size
  have bx0_12 := bx0_11.below hb8 (by first | exact bx0_11.lt | omega)
  clear bx0_11
  have bx0_12_l := bx0_12.lt
  have x0_12 := x0_11.below hb8 (by omega)
  clear x0_11
  have bxx0_12 := bxx0_11.below hb8 (by first | exact bxx0_11.lt | omega)
  clear bxx0_11
  have bxx0_12_l := bxx0_12.lt
  have x1_12 := x1_11.below hb8 (by omega)
  clear x1_11
  have x2_12 := o7.below hb8 (by omega)
  clear o7
  have B_w13 := bthen B_w12 hb8
  have q25 : w13.cell? ⟨w.heap.size, 0, none⟩ = some (.slice A0 p.1.length c0) := bx0_12.cell 0
  have q26 : w13.cell? ⟨w.heap.size, 1, none⟩ = some (.slice A0b p.2.length c0b) := bx0_12.cell 1
  have q27 : w13.cell? ⟨w9.heap.size, 0, none⟩ = some (.slice P5 p.1.length d5) := bxx0_12.cell 0
  have q28 : w13.cell? ⟨w9.heap.size, 1, none⟩ = some (.slice P5b p.2.length d5b) := bxx0_12.cell 1
  go_upto_region 18 with fail
  clear q25 q26 q27 q28
  have HS_w13 := Lib.hid (show ∀ W, Below w13.heap.size w13 W → (Below w13.heap.size w13 W ∧ W.cell? ⟨w.heap.size, 0, none⟩ = some (.slice A0 p.1.length c0) ∧ W.cell? ⟨w.heap.size, 1, none⟩ = some (.slice A0b p.2.length c0b) ∧ W.cell? ⟨w9.heap.size, 0, none⟩ = some (.slice P5 p.1.length d5) ∧ W.cell? ⟨w9.heap.size, 1, none⟩ = some (.slice P5b p.2.length d5b)) from fun W hW => ⟨hW, (bx0_12.below hW bx0_12_l).cell 0, (bx0_12.below hW bx0_12_l).cell 1, (bxx0_12.below hW bxx0_12_l).cell 0, (bxx0_12.below hW bxx0_12_l).cell 1⟩)
  have RX_w13 := Lib.hid (show RdProg w13 w13.heap.size (.agg #[.slice P5 p.1.length d5, .slice P5b p.2.length d5b]) p from x0_12.rd.more (by omega))
  go_cut [52] (fun s wx => s = .bool false ∧ Below w13.heap.size w13 wx)
  case first =>
    go_region_held3 (fun W => Below w13.heap.size w13 W ∧ W.cell? ⟨w.heap.size, 0, none⟩ = some (.slice A0 p.1.length c0) ∧ W.cell? ⟨w.heap.size, 1, none⟩ = some (.slice A0b p.2.length c0b) ∧ W.cell? ⟨w9.heap.size, 0, none⟩ = some (.slice P5 p.1.length d5) ∧ W.cell? ⟨w9.heap.size, 1, none⟩ = some (.slice P5b p.2.length d5b))
      (first | exact HS_w13.out _ (Below.refl _ _) | exact HS_w13.out _ (Below.refl _ _).drew | exact HS_w13.out _ (bthen (And.left (by assumption)) (by assumption)))
      (first
        | (go_at_call 9; refine (toProgram_own _ p _ ?_ (by omega)).mono ?_; exact H0.out.on (bthen B_w13 (And.left (by assumption))); rintro e wf ⟨Af, cf, Ag, cg, rfl, hof, hbf⟩)
        | (go_at_call 12; refine (eqProgram_any _ _ p p _ ?_ ?_ (by omega) (by omega)).mono ?_; exact (RX_w13.out.on (And.left (by assumption))); exact hof.rd; rw [show decide (p = p) = true by simp]; rintro e wg ⟨rfl, hbg⟩))
    all_goals (go_wp2_with fail; go_meet; exact ⟨rfl, And.left (by assumption)⟩)
  case rest =>
    obtain ⟨rfl, hb9⟩ := hcut
    clear HS_w13 RX_w13
    generalize wc = w14 at *
    have s_w14 := hb9.size
    have bx0_13 := bx0_12.below hb9 (by first | exact bx0_12.lt | omega)
    clear bx0_12
    have bx0_13_l := bx0_13.lt
    have x0_13 := x0_12.below hb9 (by omega)
    clear x0_12
    have bxx0_13 := bxx0_12.below hb9 (by first | exact bxx0_12.lt | omega)
    clear bxx0_12
    have bxx0_13_l := bxx0_13.lt
    have x1_13 := x1_12.below hb9 (by omega)
    clear x1_12
    have x2_13 := x2_12.below hb9 (by omega)
    clear x2_12
    have B_w14 := bthen B_w13 hb9
    have q29 : w14.cell? ⟨w.heap.size, 0, none⟩ = some (.slice A0 p.1.length c0) := bx0_13.cell 0
    have q30 : w14.cell? ⟨w.heap.size, 1, none⟩ = some (.slice A0b p.2.length c0b) := bx0_13.cell 1
    have q31 : w14.cell? ⟨w9.heap.size, 0, none⟩ = some (.slice P5 p.1.length d5) := bxx0_13.cell 0
    have q32 : w14.cell? ⟨w9.heap.size, 1, none⟩ = some (.slice P5b p.2.length d5b) := bxx0_13.cell 1
    go_wp2_with (fail)
    clear q29 q30 q31 q32
    refine (toFactS_any _ db _ (H1.out.on B_w14) (by unfold szF at *; omega) (by unfold szF at *; omega)).mono ?_
    rintro e w15 ⟨P10, d10, rfl, o10, hb10⟩
    have s_w15 := hb10.size
    have bx0_14 := bx0_13.below hb10 (by first | exact bx0_13.lt | omega)
    clear bx0_13
    have bx0_14_l := bx0_14.lt
    have x0_14 := x0_13.below hb10 (by omega)
    clear x0_13
    have bxx0_14 := bxx0_13.below hb10 (by first | exact bxx0_13.lt | omega)
    clear bxx0_13
    have bxx0_14_l := bxx0_14.lt
    have x1_14 := x1_13.below hb10 (by omega)
    clear x1_13
    have x2_14 := x2_13.below hb10 (by omega)
    clear x2_13
    have B_w15 := bthen B_w14 hb10
    have q33 : w15.cell? ⟨w.heap.size, 0, none⟩ = some (.slice A0 p.1.length c0) := bx0_14.cell 0
    have q34 : w15.cell? ⟨w.heap.size, 1, none⟩ = some (.slice A0b p.2.length c0b) := bx0_14.cell 1
    have q35 : w15.cell? ⟨w9.heap.size, 0, none⟩ = some (.slice P5 p.1.length d5) := bxx0_14.cell 0
    have q36 : w15.cell? ⟨w9.heap.size, 1, none⟩ = some (.slice P5b p.2.length d5b) := bxx0_14.cell 1
    go_wp2_with (fail)
    clear q33 q34 q35 q36
    refine (eqFactS_any _ _ db db _ (x1_14.rd.more (by omega)) (o10.rd.more (by omega)) (by unfold szF at *; omega) (by unfold szF at *; omega) (by unfold szF at *; omega) (by unfold szF at *; omega)).mono ?_
    rintro e w16 ⟨rfl, hb11⟩
    rw [show decide (db = db) = true by simp]
    have s_w16 := hb11.size
    have bx0_15 := bx0_14.below hb11 (by first | exact bx0_14.lt | omega)
    clear bx0_14
    have bx0_15_l := bx0_15.lt
    have x0_15 := x0_14.below hb11 (by omega)
    clear x0_14
    have bxx0_15 := bxx0_14.below hb11 (by first | exact bxx0_14.lt | omega)
    clear bxx0_14
    have bxx0_15_l := bxx0_15.lt
    have x1_15 := x1_14.below hb11 (by omega)
    clear x1_14
    have x2_15 := x2_14.below hb11 (by omega)
    clear x2_14
    have B_w16 := bthen B_w15 hb11
    have q37 : w16.cell? ⟨w.heap.size, 0, none⟩ = some (.slice A0 p.1.length c0) := bx0_15.cell 0
    have q38 : w16.cell? ⟨w.heap.size, 1, none⟩ = some (.slice A0b p.2.length c0b) := bx0_15.cell 1
    have q39 : w16.cell? ⟨w9.heap.size, 0, none⟩ = some (.slice P5 p.1.length d5) := bxx0_15.cell 0
    have q40 : w16.cell? ⟨w9.heap.size, 1, none⟩ = some (.slice P5b p.2.length d5b) := bxx0_15.cell 1
    go_wp2_with (fail)
    clear q37 q38 q39 q40
    refine (toFactS_any _ fs _ (H2.out.on B_w16) (by unfold szF at *; omega) (by unfold szF at *; omega)).mono ?_
    rintro e w17 ⟨P12, d12, rfl, o12, hb12⟩
    have s_w17 := hb12.size
    have bx0_16 := bx0_15.below hb12 (by first | exact bx0_15.lt | omega)
    clear bx0_15
    have bx0_16_l := bx0_16.lt
    have x0_16 := x0_15.below hb12 (by omega)
    clear x0_15
    have bxx0_16 := bxx0_15.below hb12 (by first | exact bxx0_15.lt | omega)
    clear bxx0_15
    have bxx0_16_l := bxx0_16.lt
    have x1_16 := x1_15.below hb12 (by omega)
    clear x1_15
    have x2_16 := x2_15.below hb12 (by omega)
    clear x2_15
    have B_w17 := bthen B_w16 hb12
    have q41 : w17.cell? ⟨w.heap.size, 0, none⟩ = some (.slice A0 p.1.length c0) := bx0_16.cell 0
    have q42 : w17.cell? ⟨w.heap.size, 1, none⟩ = some (.slice A0b p.2.length c0b) := bx0_16.cell 1
    have q43 : w17.cell? ⟨w9.heap.size, 0, none⟩ = some (.slice P5 p.1.length d5) := bxx0_16.cell 0
    have q44 : w17.cell? ⟨w9.heap.size, 1, none⟩ = some (.slice P5b p.2.length d5b) := bxx0_16.cell 1
    go_wp2_with (fail)
    clear q41 q42 q43 q44
    refine (eqFactS_any _ _ fs fs _ (x2_16.rd.more (by omega)) (o12.rd.more (by omega)) (by unfold szF at *; omega) (by unfold szF at *; omega) (by unfold szF at *; omega) (by unfold szF at *; omega)).mono ?_
    rintro e w18 ⟨rfl, hb13⟩
    rw [show decide (fs = fs) = true by simp]
    have s_w18 := hb13.size
    have bx0_17 := bx0_16.below hb13 (by first | exact bx0_16.lt | omega)
    clear bx0_16
    have bx0_17_l := bx0_17.lt
    have x0_17 := x0_16.below hb13 (by omega)
    clear x0_16
    have bxx0_17 := bxx0_16.below hb13 (by first | exact bxx0_16.lt | omega)
    clear bxx0_16
    have bxx0_17_l := bxx0_17.lt
    have x1_17 := x1_16.below hb13 (by omega)
    clear x1_16
    have x2_17 := x2_16.below hb13 (by omega)
    clear x2_16
    have B_w18 := bthen B_w17 hb13
    have q45 : w18.cell? ⟨w.heap.size, 0, none⟩ = some (.slice A0 p.1.length c0) := bx0_17.cell 0
    have q46 : w18.cell? ⟨w.heap.size, 1, none⟩ = some (.slice A0b p.2.length c0b) := bx0_17.cell 1
    have q47 : w18.cell? ⟨w9.heap.size, 0, none⟩ = some (.slice P5 p.1.length d5) := bxx0_17.cell 0
    have q48 : w18.cell? ⟨w9.heap.size, 1, none⟩ = some (.slice P5b p.2.length d5b) := bxx0_17.cell 1
    go_wp2_with (fail)
    clear q45 q46 q47 q48
    go_ret
    exact ⟨rfl, B_w18⟩

theorem lawSupported_in (v0 : Value) (v1 : Value) (v2 : Value) (p : LProg) (db : List LFact) (fs : List LFact) (w : World) (h0 : InProg w v0 p) (h1 : InFacts w v1 db) (h2 : InFacts w v2 fs) : Calls Tryz.prog 3 #[v0, v1, v2] w fun e w' => e = .returned (.bool true) ∧ Below w.heap.size w w' :=
  lawSupported_any v0 v1 v2 p db fs w h0.1 h1.1 h2.1 (progLens_in h0.2) h1.2.1 h1.2.2 h2.2.1 h2.2.2

end Go.Proofs.YtfjmnjemmfmoaaaGreat
namespace Go.Proofs.YtfjmnjemmfmoaaaGreat
open Go.ChangeShapes Go.WideShapes Go.ChangeAt Go.RowKit

set_option maxRecDepth 100000 in
theorem fnExactSupported_lifted (os : Os) (started : os.Started) (H : Type) (enc : TypeId × Value → H) :
    ReturnsInHanded {} Tryz.checked os 3 .any (Rows.fnExactSupportedSpec.pre6 enc Tryz.prog Tryz.f3 Rows.fnExactSupportedRow.domain false) (Rows.fnExactSupportedSpec.post enc Tryz.prog Tryz.f3 false true false false) := by
  refine returnsInHanded_of_change (C := Tryz.checked) Tryz.own started (by kernel_rfl) Tryz.func3
    (ChangeSpec.witness6 (enc := enc) (C := Tryz.checked) false ⟨#[], #[.agg #[.slice none 0 0, .slice none 0 0], .slice none 0 0, .slice none 0 0], []⟩ 8 (by kernel_rfl) (by kernel_rfl) (by kernel_rfl) (by kernel_rfl)) ?_
  intro W base args ds gs before hval0 hW hcnd _
  have hval : ∀ (j : Nat) t v, Tryz.f3.params[j]? = some t → args[j]? = some v → Value.okWide Tryz.prog W .any base t v := hval0
  have hW' := hW
  obtain ⟨p, q, hA0, hV, rfl, hfz, hnd⟩ := hW
  have hA : DataW.TrodAll enc Tryz.prog W 0 (fun _ => true) true Tryz.f3.params.toList args.toList ds p := hA0
  rw [Tryz.params3] at hA hval
  obtain ⟨v0, vs0, d0, ds0, p0, q0, hargs, rfl, rfl, h0, r0⟩ := trodAll_cons hA
  obtain ⟨v1, vs1, d1, ds1, p1, q1, rfl, rfl, rfl, h1, r1⟩ := trodAll_cons r0
  obtain ⟨v2, vs2, d2, ds2, p2, q2, rfl, rfl, rfl, h2, r2⟩ := trodAll_cons r1
  obtain ⟨rfl, rfl, rfl⟩ := trodAll_nil r2
  obtain rfl : args = #[v0, v1, v2] := by cases args; simp_all
  obtain ⟨rfl, rfl⟩ := trodVars_none hV
  have lt0 : ∀ x ∈ p0, x.block < W.heap.size := by obtain ⟨m, hm⟩ := h0; exact DataW.trod_lt m _ _ _ hm
  obtain ⟨x0, w0⟩ := open_inProg (hval 0 25 v0 rfl rfl) h0
  have lt1 : ∀ x ∈ p1, x.block < W.heap.size := by obtain ⟨m, hm⟩ := h1; exact DataW.trod_lt m _ _ _ hm
  obtain ⟨x1, w1⟩ := open_inFacts (hval 1 26 v1 rfl rfl) h1
  have lt2 : ∀ x ∈ p2, x.block < W.heap.size := by obtain ⟨m, hm⟩ := h2; exact DataW.trod_lt m _ _ _ hm
  obtain ⟨x2, w2⟩ := open_inFacts (hval 2 26 v2 rfl rfl) h2
  clear hA0 hval0
  refine (lawSupported_in v0 v1 v2 x0 x1 x2 W w0 w1 w2).mono fun e W' ⟨he, bel⟩ => ?_
  subst he
  exact ⟨_, rfl, _, _, _, [], _, [], hW', trodAll_mk1 (shut_bool Tryz.underlying4 _), (trodAll_cons_mk (Below.trod Tryz.laidOut (by kernel_rfl) (of_decide_eq_true (by kernel_rfl)) h0 bel lt0) (trodAll_cons_mk (Below.trod Tryz.laidOut (by kernel_rfl) (of_decide_eq_true (by kernel_rfl)) h1 bel lt1) (trodAll_cons_mk (Below.trod Tryz.laidOut (by kernel_rfl) (of_decide_eq_true (by kernel_rfl)) h2 bel lt2) trodAll_mk0))), rfl, bel.frame _, fun h => by cases h⟩

theorem fnExactSupported_holds : Rows.FnExactSupportedSaid :=
  OpenClaim.holds_of_wide 3 Tryz.f3 rfl rfl rfl rfl rfl rfl rfl ⟨rfl, rfl, rfl, rfl, rfl⟩ rfl rfl rfl rfl rfl (by kernel_rfl) Tryz.func3 (by kernel_rfl)
    (of_decide_eq_true (by kernel_rfl)) (by unfold Func.isWrapper; rw [if_neg (of_decide_eq_false (by kernel_rfl))]; exact ⟨rfl, rfl⟩)
    (fun os started H enc _ => fnExactSupported_lifted os started H enc)

end Go.Proofs.YtfjmnjemmfmoaaaGreat
