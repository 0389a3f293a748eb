/-
  Texts that the claim's last one imports, laid together: part 5 of 8. No condition of its own.
-/
import Derived.Shelf.SlSortCmp.Whole1
import Derived.Shelf.Spec.SlicesGrow
import Derived.Shelf.LaySoft
import Derived.Shelf.Lay
import Derived.Test.YtofkcmihcgmmpaaChecked
import Derived.Lib.AppendZerosOnto
import Derived.Shelf.RegionOpenPlain
import Derived.Sort.Grow
import Derived.Laws.IdiomCopy
import Derived.Laws.BitsAllLaws
import Derived.Test.YtofkcmihcgmmpaaMHo1
import Derived.Test.YtofkcmihcgmmpaaMHo2
import Derived.Test.YtofkcmihcgmmpaaMHo3
import Derived.Test.YtofkcmihcgmmpaaMHo4
/-
  The walk of the specification's FactsWith.
-/
namespace Go.Proofs.Ytofkcmihcgmmpaa
open Go.RowKit

/-- What a loop of FactsWith knows at its head, k facts on. -/
structure WithRel (w1 wr : World) (fs : List LFact) (f : LFact) (k : Nat) (st : List LFact × Bool) (A : Option Addr) (c : Nat) (av : List Value) : Prop where
  col : ColRel w1 wr st.1 A c av
  st : st = withTo fs f k

theorem With.next {fs : List LFact} {f : LFact} {k : Nat} {st st' : List LFact × Bool} (h : st = withTo fs f k) (hk : k < fs.length) (e : st' = withStep f st fs[k]) : st' = withTo fs f (k + 1) := by rw [withTo_step hk, ← h, e]

set_option maxHeartbeats 2000000 in
set_option maxRecDepth 100000 in
theorem specFactsWith_any (v v2 : Value) (fs : List LFact) (f : LFact) (w : World) (h : RdFacts w w.heap.size v fs) (h2 : RdFact w w.heap.size v2 f) (hn : fs.length ≤ 1048576) (ht : tot fs ≤ 1048576) (hf : f.2.length ≤ 1048576) :
    Calls Try.prog 48 #[v, v2] w fun e w' => ∃ A' c', e = .returned (.slice A' (factsWith fs f).length c') ∧ OwnFacts w' w.heap.size w'.heap.size (.slice A' (factsWith fs f).length c') (factsWith fs f) ∧ Below w.heap.size w w' := by
  have H := Lib.hid h
  have H2 := Lib.hid h2
  obtain ⟨A, c, rfl, hc, _⟩ := h
  obtain ⟨a, rfl, A2, c2, rfl, hc2, _⟩ := h2
  go_enter Try.func48, Try.ntmps48
  go_wp2_with (fail)
  obtain ⟨w1, hw1⟩ : ∃ w1, w1 = (w.alloc (Obj.cells #[Value.int IntKind.i64 f.1, Value.slice A2 f.2.length c2] 34)) := ⟨_, rfl⟩
  have B1 : Below w.heap.size w w1 := by rw [hw1]; exact below1 _ _
  have k0 : Blk w1 w.heap.size 34 #[.int .i64 f.1, .slice A2 f.2.length c2] := by rw [hw1]; exact Blk.new w _ _
  have hz1 : w.heap.size + 1 = w1.heap.size := by rw [hw1]; simp
  rw [← hw1]
  clear hw1
  simp only [hz1]
  have HZ := Lib.hid hz1
  clear hz1
  go_loopw [5, 6, 7, 8] (fun o p i _ wr => ∃ (k : Nat) (st : List LFact × Bool) (A' : Option Addr) (c' : Nat) (av : List Value), k ≤ fs.length ∧ i = .int .i64 k ∧ p = .bool st.2 ∧ o = .slice A' st.1.length c' ∧ WithRel w1 wr fs f k st A' c' av) (fun _ _ i _ _ => fs.length - (intOf i).toNat)
  case atStart => exact ⟨0, ([], false), _, 0, [], Nat.zero_le _, rfl, rfl, rfl, ColRel.empty w1, rfl⟩
  case round =>
    obtain ⟨k, ⟨gs, pb⟩, A', c', av, hk, rfl, rfl, rfl, hcol, hst⟩ := hrel
    have hbd := withTo_bound fs f k hk
    rw [← hst] at hbd
    have hgl : gs.length ≤ 2097152 := by have := hbd.1; simp only at this; split at this <;> omega
    clear hbd
    have HST := Lib.hid hst
    clear hst
    by_cases hlt : k < fs.length
    · obtain ⟨b, o, A3, c3, rfl, hbB, k1, k2, k3⟩ := H.out.get hlt
      have hln := len_le_tot fs k hlt
      have K3 := Lib.hid (show RdFact w w.heap.size (.agg #[.int .i64 fs[k].1, .slice A3 fs[k].2.length c3]) fs[k] from ⟨_, rfl, k3⟩)
      have M1 : ∀ W, Below w.heap.size w W → W.cell? ⟨b, o + k * 2, none⟩ = some (.int .i64 fs[k].1) := fun W hW => (hW.cell (p := ⟨b, o + k * 2, none⟩) hbB).trans k1
      have M2 : ∀ W, Below w.heap.size w W → W.cell? ⟨b, o + k * 2 + 1, none⟩ = some (.slice A3 fs[k].2.length c3) := fun W hW => (hW.cell (p := ⟨b, o + k * 2 + 1, none⟩) hbB).trans k2
      have N1 : ∀ W, Below w1.heap.size w1 W → W.cell? ⟨w.heap.size, 0, none⟩ = some (.int .i64 f.1) := fun W hW => (k0.below hW k0.lt).cell 0
      have N2 : ∀ W, Below w1.heap.size w1 W → W.cell? ⟨w.heap.size, 1, none⟩ = some (.slice A2 f.2.length c2) := fun W hW => (k0.below hW k0.lt).cell 1
      have hB := bthen B1 hcol.below
      have L1 := later_cell (M1 _ hB)
      have L2 := later_cell (M2 _ hB)
      have L3 := later_cell (N1 _ hcol.below)
      have L4 := later_cell (N2 _ hcol.below)
      obtain ⟨q, hq⟩ : ∃ q, q = factOrder f fs[k] := ⟨_, rfl⟩
      have CO := Lib.hid (fun x : Later wr => (specFactOrder_any _ _ f fs[k] x.val ((H2.out.on hB).on x.2) ((K3.out.on hB).on x.2) hf (by omega)).mono fun e w' (hh : e = .returned (.int .i64 (factOrder f fs[k])) ∧ Below x.val.heap.size x.val w') => (⟨by rw [hh.1, hq], hh.2⟩ : e = .returned (.int .i64 q) ∧ Below x.val.heap.size x.val w'))
      have HQ := Lib.hid hq
      have HC := Lib.hid hcol
      have HM := Lib.hid (And.intro M1 (And.intro M2 (And.intro N1 N2)))
      clear hq hcol k1 k2 k3 M1 M2 N1 N2
      go_wp2_with (fail)
      refine wp_region_later (by kernel_rfl) (by kernel_rfl) ?_
      repeat (go_big_quiet_step ((go_at_call 53; exact later_of (CO.out _))))
      refine wpQuiet_nil ?_
      rintro _ ⟨xq, rfl⟩
      obtain ⟨w2, hw2⟩ : ∃ w2, w2 = xq.val := ⟨_, rfl⟩
      have hb2 : Below wr.heap.size wr w2 := by rw [hw2]; exact xq.2
      rw [← hw2]
      have HC2 := Lib.hid (HC.out.on hb2)
      clear hw2 L1 L2 L3 L4 CO
      obtain ⟨M1, M2, N1, N2⟩ := HM.out
      have P2 := HC2.out.below
      have hB2 := bthen B1 P2
      have m1 := M1 _ hB2
      have m2 := M2 _ hB2
      have n1 := N1 _ P2
      have n2 := N2 _ P2
      clear M1 M2 N1 N2
      cases pb with
      | true =>
        by_cases hq0 : q = 0
        · have t1 : (q != 0) = false := by simp [hq0]
          have HS := Lib.hid (show ((gs, true) : List LFact × Bool) = withStep f (gs, true) fs[k] by simp [withStep, ← HQ.out, hq0])
          clear hq0
          go_wp2_with (fail)
          go_roundw
          case rel => exact ⟨k + 1, (gs, true), _, _, _, by omega, by go_num, rfl, rfl, ⟨HC2.out, With.next HST.out hlt HS.out⟩⟩
          case measure => simp [intOf]; omega
        · have t1 : (q != 0) = true := by simp [hq0]
          have HS := Lib.hid (show ((gs ++ [fs[k]], true) : List LFact × Bool) = withStep f (gs, true) fs[k] by simp [withStep, ← HQ.out, hq0])
          clear hq0
          go_wp2_with (fail)
          refine (l1Copy_any _ fs[k] _ (K3.out.on hB2) (by omega)).mono ?_
          rintro e w3 ⟨A4, c4, rfl, ho4, hb4⟩
          go_wp2_with (at_builtin; refine wpList_push rfl (.tmp 35) (.tmp 41) rfl HC2.out hb4 ho4 rfl rfl rfl (by omega) ?_; intro g4 cap4 w4 av4 hcol4 hgr4)
          have HC4 := Lib.hid hcol4
          clear hcol4 hgr4
          go_roundw
          case rel => exact ⟨k + 1, (gs ++ [fs[k]], true), _, _, _, by omega, by go_num, rfl, by simp, ⟨HC4.out, With.next HST.out hlt HS.out⟩⟩
          case measure => simp [intOf]; omega
      | false =>
        rcases Int.lt_trichotomy q 0 with hq0 | hq0 | hq0
        · have t1 : (q != 0) = true := by simp; omega
          have t2 : decide (q ≤ 0) = true := by simp; omega
          have HS := Lib.hid (show (((gs ++ [f]) ++ [fs[k]], true) : List LFact × Bool) = withStep f (gs, false) fs[k] by
            have e1 : q ≠ 0 := by omega
            have e2 : q ≤ 0 := by omega
            simp [withStep, ← HQ.out, e1, e2])
          clear hq0
          go_wp2_with (fail)
          refine (l1Copy_any _ f _ (H2.out.on hB2) (by omega)).mono ?_
          rintro e w3 ⟨A4, c4, rfl, ho4, hb4⟩
          go_wp2_with (at_builtin; refine wpList_push rfl (.tmp 28) (.tmp 31) rfl HC2.out hb4 ho4 rfl rfl rfl (by omega) ?_; intro g4 cap4 w4 av4 hcol4 hgr4; have m3 := HM.out.1 _ (bthen B1 hcol4.below); have m4 := HM.out.2.1 _ (bthen B1 hcol4.below); have HC4 := Lib.hid hcol4; clear hcol4 hgr4)
          refine (l1Copy_any _ fs[k] _ (K3.out.on (bthen B1 HC4.out.below)) (by omega)).mono ?_
          rintro e w5 ⟨A6, c6, rfl, ho6, hb6⟩
          go_wp2_with (at_builtin; refine wpList_push rfl (.tmp 35) (.tmp 41) rfl HC4.out hb6 ho6 (by simp) rfl rfl (by simp; omega) ?_; intro g6 cap6 w6 av6 hcol6 hgr6; have HC6 := Lib.hid hcol6; clear hcol6 hgr6)
          go_roundw
          case rel => exact ⟨k + 1, ((gs ++ [f]) ++ [fs[k]], true), _, _, _, by omega, by go_num, rfl, by simp, ⟨HC6.out, With.next HST.out hlt HS.out⟩⟩
          case measure => simp [intOf]; omega
        · have t1 : (q != 0) = false := by simp [hq0]
          have t2 : decide (q ≤ 0) = true := by simp; omega
          have HS := Lib.hid (show ((gs ++ [f], true) : List LFact × Bool) = withStep f (gs, false) fs[k] by simp [withStep, ← HQ.out, hq0])
          clear hq0
          go_wp2_with (fail)
          refine (l1Copy_any _ f _ (H2.out.on hB2) (by omega)).mono ?_
          rintro e w3 ⟨A4, c4, rfl, ho4, hb4⟩
          go_wp2_with (at_builtin; refine wpList_push rfl (.tmp 28) (.tmp 31) rfl HC2.out hb4 ho4 rfl rfl rfl (by omega) ?_; intro g4 cap4 w4 av4 hcol4 hgr4; have HC4 := Lib.hid hcol4; clear hcol4 hgr4)
          go_roundw
          case rel => exact ⟨k + 1, (gs ++ [f], true), _, _, _, by omega, by go_num, rfl, by simp, ⟨HC4.out, With.next HST.out hlt HS.out⟩⟩
          case measure => simp [intOf]; omega
        · have t1 : (q != 0) = true := by simp; omega
          have t2 : decide (q ≤ 0) = false := by simp; omega
          have HS := Lib.hid (show ((gs ++ [fs[k]], false) : List LFact × Bool) = withStep f (gs, false) fs[k] by
            have e1 : q ≠ 0 := by omega
            have e2 : ¬ q ≤ 0 := by omega
            simp [withStep, ← HQ.out, e1, e2])
          clear hq0
          go_wp2_with (fail)
          refine (l1Copy_any _ fs[k] _ (K3.out.on hB2) (by omega)).mono ?_
          rintro e w3 ⟨A4, c4, rfl, ho4, hb4⟩
          go_wp2_with (at_builtin; refine wpList_push rfl (.tmp 35) (.tmp 41) rfl HC2.out hb4 ho4 rfl rfl rfl (by omega) ?_; intro g4 cap4 w4 av4 hcol4 hgr4; have HC4 := Lib.hid hcol4; clear hcol4 hgr4)
          go_roundw
          case rel => exact ⟨k + 1, (gs ++ [fs[k]], false), _, _, _, by omega, by go_num, rfl, by simp, ⟨HC4.out, With.next HST.out hlt HS.out⟩⟩
          case measure => simp [intOf]; omega
    · have hkn : fs.length = k := by omega
      have HB := Lib.hid (bthen B1 hcol.below)
      have hz1 : w.heap.size ≤ w1.heap.size := B1.size
      have n1 : wr.cell? ⟨w.heap.size, 0, none⟩ = some (.int .i64 f.1) := (k0.below hcol.below k0.lt).cell 0
      have n2 : wr.cell? ⟨w.heap.size, 1, none⟩ = some (.slice A2 f.2.length c2) := (k0.below hcol.below k0.lt).cell 1
      have HC := Lib.hid hcol
      cases pb with
      | true =>
        have HE := Lib.hid (show factsWith fs f = gs by unfold factsWith; rw [hkn, ← HST.out]; rfl)
        clear hcol hkn
        go_wp2_with (fail)
        go_ret
        rw [HE.out]
        exact ⟨_, _, rfl, HC.out.own.own.mono hz1 (Nat.le_refl _), HB.out⟩
      | false =>
        have HE := Lib.hid (show factsWith fs f = gs ++ [f] by unfold factsWith; rw [hkn, ← HST.out]; rfl)
        clear hcol hkn
        go_wp2_with (fail)
        refine (l1Copy_any _ f _ (H2.out.on HB.out) (by omega)).mono ?_
        rintro e w3 ⟨A4, c4, rfl, ho4, hb4⟩
        go_wp2_with (at_builtin; refine wpList_push rfl (.tmp 45) (.tmp 48) rfl HC.out hb4 ho4 rfl rfl rfl (by omega) ?_; intro g4 cap4 w4 av4 hcol4 hgr4; have HC4 := Lib.hid hcol4; clear hcol4 hgr4)
        go_ret
        rw [HE.out]
        exact ⟨some ⟨g4, 0, none⟩, cap4, by simp, HC4.out.own.own.mono hz1 (Nat.le_refl _), bthen B1 HC4.out.below⟩

end Go.Proofs.Ytofkcmihcgmmpaa
/-
  No function of the library is laid in this seat. No condition.
-/
namespace Go.Proofs
end Go.Proofs
/-
  append of a slice of facts that is read, nil and empty let in, onto a row of the call's own: the headers are shared.
-/
namespace Go.Proofs.Ytofkcmihcgmmpaa
open Go.RowKit

/-- The headers av read as the facts' rows. -/
def RdArgs (w : World) (B : Nat) (av : List Value) (fs : List LFact) : Prop := av.length = fs.length ∧ ∀ k (_ : k < fs.length) (h' : k < av.length) (h : k < fs.length), RdInts w B av[k] fs[k].2
theorem RdArgs.nil (w : World) (B : Nat) : RdArgs w B [] [] := ⟨rfl, fun k h => absurd h (by simp)⟩
theorem RdArgs.on {w w' : World} {av : List Value} {fs : List LFact} (h : RdArgs w w.heap.size av fs) (hb : Below w.heap.size w w') : RdArgs w' w'.heap.size av fs := ⟨h.1, fun k h1 h2 h3 => (h.2 k h1 h2 h3).on hb⟩
theorem RdArgs.append {w : World} {B : Nat} {av av2 : List Value} {fs fs2 : List LFact} (h : RdArgs w B av fs) (h2 : RdArgs w B av2 fs2) : RdArgs w B (av ++ av2) (fs ++ fs2) := by
  refine ⟨by simp [h.1, h2.1], fun k _ h' hk => ?_⟩
  by_cases e : k < fs.length
  · have e' : k < av.length := by rw [h.1]; exact e
    rw [List.getElem_append_left e', List.getElem_append_left e]
    exact h.2 k e e' e
  · have e' : ¬ k < av.length := by rw [h.1]; exact e
    have l1 := h.1
    simp only [List.length_append] at h' hk
    rw [List.getElem_append_right (by omega), List.getElem_append_right (by omega)]
    have := h2.2 (k - fs.length) (by omega) (by omega) (by omega)
    simpa [l1] using this
theorem flat_append : ∀ (fs : List LFact) (av : List Value) (_ : av.length = fs.length) (fs2 : List LFact) (av2 : List Value), flat (fs ++ fs2) (av ++ av2) = flat fs av ++ flat fs2 av2
  | [], [], _, _, _ => by simp [flat]
  | [], _ :: _, h, _, _ => by simp at h
  | _ :: _, [], h, _, _ => by simp at h
  | f :: fs, a :: av, h, fs2, av2 => by simp [flat, flat_append fs av (by simpa using h) fs2 av2]

/-- What is read at a slice of facts, cell by cell. -/
def CellsAt (w : World) (A : Option Addr) (cs : List Value) : Prop := (A = none → cs = []) ∧ ∀ ad, A = some ad → ∀ j u, cs[j]? = some u → w.cell? (ad.add j) = some u

theorem flat_get (fs : List LFact) (av : List Value) (h : av.length = fs.length) (j : Nat) (u : Value) (hu : (flat fs av)[j]? = some u) :
    ∃ k, ∃ (hk : k < fs.length) (hk' : k < av.length), (j = k * 2 ∧ u = .int .i64 fs[k].1) ∨ (j = k * 2 + 1 ∧ u = av[k]) := by
  have hl := flat_length fs av h
  have hj : j < fs.length * 2 := by
    rcases Nat.lt_or_ge j (fs.length * 2) with h1 | h1
    · exact h1
    · rw [List.getElem?_eq_none (by omega)] at hu
      cases hu
  have hk : j / 2 < fs.length := by omega
  obtain ⟨c0, c1⟩ := flat_at fs av h (j / 2) hk (by omega)
  refine ⟨j / 2, hk, by omega, ?_⟩
  by_cases e : j % 2 = 0
  · left
    have e1 : j = j / 2 * 2 := by omega
    refine ⟨e1, ?_⟩
    rw [e1, c0] at hu
    exact (Option.some.inj hu).symm
  · right
    have e1 : j = j / 2 * 2 + 1 := by omega
    refine ⟨e1, ?_⟩
    rw [e1, c1] at hu
    exact (Option.some.inj hu).symm

theorem RdFacts.heads {w : World} {B : Nat} {v : Value} {fs : List LFact} (h : RdFacts w B v fs) : ∃ A c av, v = .slice A fs.length c ∧ RdArgs w B av fs ∧ CellsAt w A (flat fs av) := by
  obtain ⟨A, c, rfl, hc, h⟩ := h
  rcases Nat.eq_zero_or_pos fs.length with h0 | h0
  · have : fs = [] := List.eq_nil_of_length_eq_zero h0
    subst this
    exact ⟨A, c, [], rfl, RdArgs.nil _ _, fun _ => rfl, fun ad _ j u hu => by simp [flat] at hu⟩
  · obtain ⟨b, o, rfl, hb, hx⟩ := h h0
    let av : List Value := (List.finRange fs.length).map fun k => (hx k.1 k.2).choose
    have hl : av.length = fs.length := by simp [av]
    have hav : ∀ k (h : k < fs.length) (h' : k < av.length), av[k] = (hx k h).choose := fun k h h' => by simp [av]
    refine ⟨_, c, av, rfl, ⟨hl, fun k _ h' hk => ?_⟩, fun e => (by cases e), fun ad e j u hu => ?_⟩
    · rw [hav k hk h']
      exact (hx k hk).choose_spec.2.2
    · injection e with e
      subst e
      obtain ⟨k, hk, hk', h1⟩ := flat_get fs av hl j u hu
      rw [Go.WideShapes.add_plain]
      rcases h1 with ⟨rfl, rfl⟩ | ⟨rfl, rfl⟩
      · exact (hx k hk).choose_spec.1
      · rw [hav k hk hk']
        exact (hx k hk).choose_spec.2.1

theorem flat_one (fs : List LFact) (av : List Value) {w : World} {B : Nat} (h : RdArgs w B av fs) : ∀ u ∈ flat fs av, u.oneCell' = true := by
  intro u hu
  obtain ⟨j, hj, e⟩ := List.getElem_of_mem hu
  obtain ⟨k, hk, hk', h1⟩ := flat_get fs av h.1 j u (by rw [List.getElem?_eq_getElem hj, e])
  rcases h1 with ⟨_, rfl⟩ | ⟨_, rfl⟩
  · rfl
  · obtain ⟨A, c, e, _⟩ := h.2 k hk hk' hk
    rw [e]
    rfl

theorem run_append_facts {P : Program} (w : World) (base : Nat) (t ty e : TypeId) (i : TypeInfo) (z : Value) (bytes : Nat) (ht : P.underlying t = some (.slice e)) (hi : P.info? e = some i) (hz : i.zero = some z)
    (hsize : i.size = 2) (hby : i.bytes = bytes) (hzs : z.cells.size = 2)
    (v : Value) (n : Nat) (xs : List Value) (hown : w.ownsRow base e 2 v n xs) (A : Option Addr) (c : Nat) (fs : List LFact) (av : List Value) (B : Nat) (ha : RdArgs w B av fs) (hx : CellsAt w A (flat fs av))
    (h63 : n + fs.length ≤ maxLen) (hbytes : (n + fs.length) * bytes ≤ 140737488355328) (hbase : base ≤ w.heap.size) :
    ∃ A' c' w', (Builtin.append_ #[t, t] ty #[v, .slice A fs.length c]).run P w = .ok (.slice A' (n + fs.length) c') w' ∧ w'.ownsRow base e 2 (.slice A' (n + fs.length) c') (n + fs.length) (xs ++ flat fs av) ∧ w.grownBy w' v.ownBlock ∧
      ((Value.slice A' (n + fs.length) c').ownBlock = v.ownBlock ∨ (Value.slice A' (n + fs.length) c').ownBlock = some w.heap.size) := by
  have hform : ∀ {w' : World} {v' : Value} {m : Nat} {zs : List Value}, w'.ownsRow base e 2 v' m zs → ∃ A c, v' = .slice A m c := by
    intro w' v' m zs h
    rcases h.2 with ⟨rfl, h0⟩ | ⟨g, cap, _, rfl, _⟩
    · exact ⟨none, 0, by rw [h0]⟩
    · exact ⟨_, _, rfl⟩
  rcases A with _ | ad
  · have h0 := hx.1 rfl
    have hl := flat_length fs av ha.1
    rw [h0] at hl
    have hfs : fs = [] := List.eq_nil_of_length_eq_zero (by simp at hl; omega)
    subst hfs
    obtain ⟨A', c', hv⟩ := hform hown
    refine ⟨A', c', w, ?_, by simpa [flat, ← hv] using hown, World.grownBy.refl w _, .inl (by simp only [List.length_nil, Nat.add_zero]; rw [hv])⟩
    simp only [List.length_nil, Nat.add_zero]
    rw [← hv]
    exact run_append_nilsrc w base t ty e i 2 ht hi v n xs hown c
  · obtain ⟨v', w', hrun, h2, h3, _, h5⟩ := run_append_own_at (P := P) w base t ty e i z 2 bytes ht hi hz hsize hby hzs (by decide) v n xs hown ad fs.length c (flat fs av) (flat_length fs av ha.1) (hx.2 ad rfl)
      (flat_one fs av ha) h63 hbytes hbase
    obtain ⟨A', c', hv⟩ := hform h2
    subst hv
    exact ⟨A', c', w', hrun, h2, h3, h5⟩

theorem wpList_append_facts {P : Program} {w : World} {ops : Array Oper} {rest : List Oper} {o : Oper} {a : Act} {Q : Exit → Act → World → Prop} (hgd : o.guard = none) (s x : Operand) (t : TypeId)
    (ho : o.op = .call { callee := .builtin .append, args := #[s, x], argTypes := #[t, t] })
    (base : Nat) (e : TypeId) (i : TypeInfo) (z : Value) (bytes : Nat) (ht : P.underlying t = some (.slice e)) (hi : P.info? e = some i) (hz : i.zero = some z)
    (hsize : i.size = 2) (hby : i.bytes = bytes) (hzs : z.cells.size = 2)
    (v : Value) (n : Nat) (xs : List Value) (hs : a.eval s = v) (hown : w.ownsRow base e 2 v n xs) (A : Option Addr) (c : Nat) (fs : List LFact) (av : List Value) (B : Nat) (hx : a.eval x = .slice A fs.length c) (ha : RdArgs w B av fs) (hc : CellsAt w A (flat fs av))
    (h63 : n + fs.length ≤ maxLen) (hbytes : (n + fs.length) * bytes ≤ 140737488355328) (hbase : base ≤ w.heap.size)
    (h : ∀ A' c' w', w'.ownsRow base e 2 (.slice A' (n + fs.length) c') (n + fs.length) (xs ++ flat fs av) → w.grownBy w' v.ownBlock →
      ((Value.slice A' (n + fs.length) c').ownBlock = v.ownBlock ∨ (Value.slice A' (n + fs.length) c').ownBlock = some w.heap.size) → wpList P ops Q rest (a.put o.dst (.slice A' (n + fs.length) c')) w') : wpList P ops Q (o :: rest) a w := by
  refine wpList_plain hgd fun _ hK => ?_
  obtain ⟨A', c', w', hrun, h2, h3, h4⟩ := run_append_facts (P := P) w base t o.type e i z bytes ht hi hz hsize hby hzs v n xs hown A c fs av B ha hc h63 hbytes hbase
  unfold Oper.wp execOp
  simp only [ho, resolve, invoke, builtin, Sem.run_bind, Sem.run_pure, Result.andThen_ok, List.map_toArray, List.map_cons, List.map_nil, hs, hx, hrun]
  exact hK _ _ (h A' c' w' h2 h3 h4)

end Go.Proofs.Ytofkcmihcgmmpaa
/-
  slices.Clone at facts: a row of the call's own whose headers are the given ones.
-/
namespace Go.Proofs.Ytofkcmihcgmmpaa
open Go.RowKit

theorem CellsAt.on {w w' : World} {A : Option Addr} {cs : List Value} (h : CellsAt w A cs) (hb : Below w.heap.size w w') : CellsAt w' A cs :=
  ⟨h.1, fun ad e j u hu => (hb.cell (World.block_lt_of_cell? _ _ (h.2 ad e j u hu))).trans (h.2 ad e j u hu)⟩

/-- A row of the call's own, from base on, that holds facts whose headers are av; they read in w. -/
structure RowF (w : World) (base : Nat) (A : Option Addr) (c : Nat) (fs : List LFact) (av : List Value) : Prop where
  row : w.ownsRow base 34 2 (.slice A fs.length c) fs.length (flat fs av)
  rd : RdArgs w w.heap.size av fs

theorem RowF.on {w w' : World} {base : Nat} {A : Option Addr} {c : Nat} {fs : List LFact} {av : List Value} (h : RowF w base A c fs av) (hb : Below w.heap.size w w') : RowF w' base A c fs av :=
  ⟨ownsRow_below h.row (fun g hg => (h.row.lt g hg).2) hb (Nat.le_refl _), h.rd.on hb⟩
theorem RowF.mono {w : World} {base base' : Nat} {A : Option Addr} {c : Nat} {fs : List LFact} {av : List Value} (h : RowF w base A c fs av) (hb : base' ≤ base) : RowF w base' A c fs av := ⟨ownsRow_mono h.row hb, h.rd⟩
theorem RowF.facts {w : World} {base : Nat} {A : Option Addr} {c : Nat} {fs : List LFact} {av : List Value} (h : RowF w base A c fs av) : RdFacts w w.heap.size (.slice A fs.length c) fs := by
  have hcells := @World.ownsRow.cells w base 34 2 (.slice A fs.length c) fs.length (flat fs av) h.row
  have hlt := h.row.lt
  have hl := h.rd.1
  rcases h.row.2 with ⟨e, h0⟩ | ⟨g, cap, cur, e, hb, hgg, hn, _⟩
  · injection e with e1 _ e3
    subst e1
    subst e3
    exact ⟨none, 0, rfl, by omega, fun hp => by omega⟩
  · injection e with e1 _ e3
    subst e1
    subst e3
    refine ⟨_, _, rfl, hn, fun _ => ⟨g, 0, rfl, (hlt g rfl).2, fun k hk => ?_⟩⟩
    obtain ⟨c0, c1⟩ := flat_at fs av hl k hk (by omega)
    have d0 := hcells (g := g) rfl _ _ c0
    have d1 := hcells (g := g) rfl _ _ c1
    rw [Go.WideShapes.add_plain] at d0 d1
    exact ⟨_, d0, d1, h.rd.2 k hk (by omega) hk⟩

theorem facts_eqlSome (ad : Addr) (n c : Nat) (w : World) : (binOp .eql 23 (.slice (some ad) n c) (.slice none 0 0)).run Try.prog w = .ok (.bool false) w := by kernel_rfl
theorem facts_eqlNil (n c : Nat) (w : World) : (binOp .eql 23 (.slice none n c) (.slice none 0 0)).run Try.prog w = .ok (.bool true) w := by kernel_rfl

end Go.Proofs.Ytofkcmihcgmmpaa
/-
  slices.Grow of the nil slice, slices.Clone, slices.Concat of two slices: at facts.
-/
namespace Go.Proofs.Ytofkcmihcgmmpaa
open Go.RowKit

theorem size_zeroPairs (n : Nat) : (Builtin.zeroCells #[Value.int IntKind.i64 0, Value.slice none 0 0] n).size = n * 2 := by simp [Builtin.zeroCells]

/-- What has been laid behind each other after k of two slices. -/
def joinF (xs ys : List LFact) (k : Nat) : List LFact := if k = 0 then [] else if k = 1 then xs else xs ++ ys
def joinV (xs ys : List Value) (k : Nat) : List Value := if k = 0 then [] else if k = 1 then xs else xs ++ ys
def joinN (n m k : Nat) : Nat := if k = 0 then 0 else if k = 1 then n else n + m

end Go.Proofs.Ytofkcmihcgmmpaa
/-
  FactOrder's contract with its worlds written out: draws on, and blocks behind.
-/
namespace Go.Proofs.Ytofkcmihcgmmpaa
open Go.RowKit Go.Sort

/-- W is w some draws on, with blocks laid behind it. -/
def Gr (w W : World) : Prop := ∃ q os, W = grow (w.drewN q) os
theorem Gr.refl (w : World) : Gr w w := ⟨0, #[], by simp [grow, World.drewN]⟩
theorem Gr.alloc {w W : World} (h : Gr w W) (o : Obj) : Gr w (W.alloc o) := by
  obtain ⟨q, os, rfl⟩ := h
  exact ⟨q, os.push o, by simp [grow, World.alloc]⟩
theorem Gr.drew {w W : World} (h : Gr w W) : Gr w W.drew := by
  obtain ⟨q, os, rfl⟩ := h
  exact ⟨q + 1, os, rfl⟩
theorem Gr.drewN {w W : World} (h : Gr w W) (n : Nat) : Gr w (W.drewN n) := by
  obtain ⟨q, os, rfl⟩ := h
  exact ⟨q + n, os, by simp [grow, World.drewN, Nat.add_assoc]⟩
theorem Gr.trans {w w1 W : World} (h : Gr w w1) (k : Gr w1 W) : Gr w W := by
  obtain ⟨q, os, rfl⟩ := h
  obtain ⟨q', os', rfl⟩ := k
  exact ⟨q + q', os ++ os', by simp [grow, World.drewN, Nat.add_assoc, Array.append_assoc]⟩
theorem Gr.below {w W : World} (h : Gr w W) : Below w.heap.size w W := by
  obtain ⟨q, os, rfl⟩ := h
  exact ⟨rfl, rfl, rfl, by simp [grow, World.drewN], fun k hk => by simp [grow, World.drewN, Array.getElem?_append, hk]⟩

set_option maxHeartbeats 400000 in
set_option maxRecDepth 100000 in
theorem implFactOrder_grow (v v2 : Value) (f g : LFact) (w : World) (h : RdFact w w.heap.size v f) (h2 : RdFact w w.heap.size v2 g) (hn : f.2.length ≤ 1048576) (hn2 : g.2.length ≤ 1048576) :
    Calls Try.prog 10 #[v, v2] w fun e w' => e = .returned (.int .i64 (factOrder f g)) ∧ Gr w w' := by
  obtain ⟨a, rfl, h⟩ := h
  have H := Lib.hid h
  obtain ⟨A, c, rfl, hc, _⟩ := h
  obtain ⟨a, rfl, h2⟩ := h2
  have H2 := Lib.hid h2
  obtain ⟨A2, c2, rfl, hc2, _⟩ := h2
  have HF := Lib.hid (factOrder_or f g)
  go_enter Try.func10, Try.ntmps10
  go_wp2_with (fail)
  obtain ⟨w1, hw1⟩ : ∃ w1, w1 = ((w.alloc (Obj.cells #[Value.int IntKind.i64 f.1, Value.slice A f.2.length c] 34)).alloc (Obj.cells #[Value.int IntKind.i64 g.1, Value.slice A2 g.2.length c2] 34)) := ⟨_, rfl⟩
  have B1 : Gr w w1 := by rw [hw1]; exact ((Gr.refl _).alloc _).alloc _
  have k0 : Blk w1 w.heap.size 34 #[.int .i64 f.1, .slice A f.2.length c] := by rw [hw1]; exact (Blk.new w _ _).alloc _
  have k1 : Blk w1 (w.heap.size + 1) 34 #[.int .i64 g.1, .slice A2 g.2.length c2] := by rw [hw1]; simpa using Blk.new (w.alloc (Obj.cells #[Value.int IntKind.i64 f.1, Value.slice A f.2.length c] 34)) 34 #[.int .i64 g.1, .slice A2 g.2.length c2]
  rw [← hw1]
  clear hw1
  have HS0 := Lib.hid (show ∀ W, Gr w1 W → (Gr w1 W ∧ W.cell? ⟨w.heap.size, 0, none⟩ = some (.int .i64 f.1) ∧ W.cell? ⟨w.heap.size, 1, none⟩ = some (.slice A f.2.length c) ∧ W.cell? ⟨w.heap.size + 1, 0, none⟩ = some (.int .i64 g.1) ∧ W.cell? ⟨w.heap.size + 1, 1, none⟩ = some (.slice A2 g.2.length c2)) from
    fun W hW => ⟨hW, (k0.below hW.below k0.lt).cell 0, (k0.below hW.below k0.lt).cell 1, (k1.below hW.below k1.lt).cell 0, (k1.below hW.below k1.lt).cell 1⟩)
  go_region_held3 (fun W => Gr w1 W ∧ W.cell? ⟨w.heap.size, 0, none⟩ = some (.int .i64 f.1) ∧ W.cell? ⟨w.heap.size, 1, none⟩ = some (.slice A f.2.length c) ∧ W.cell? ⟨w.heap.size + 1, 0, none⟩ = some (.int .i64 g.1) ∧ W.cell? ⟨w.heap.size + 1, 1, none⟩ = some (.slice A2 g.2.length c2))
    (first | assumption | exact HS0.out _ (Gr.refl _) | exact HS0.out _ ((Gr.refl _).alloc _).drew | exact HS0.out _ (Gr.refl _).drew | exact HS0.out _ ((And.left (by assumption) : Gr w1 _).alloc _) | exact HS0.out _ (And.left (by assumption) : Gr w1 _).drew | (refine HS0.out _ ?_; go_goals; fail))
    (first
      | (go_at_call 30; refine (cmpCompare_any _ _ _).mono ?_; rintro e w' ⟨rfl, rfl⟩)
      | (go_at_call 31; refine (slicesCompare_any _ _ f.2 g.2 _ ?_ ?_ (by omega) (by omega)).mono ?_; exact H.out.on (bthen B1.below (And.left (by assumption) : Gr w1 _).below); exact H2.out.on (bthen B1.below (And.left (by assumption) : Gr w1 _).below); rintro e w' ⟨rfl, rfl⟩)
      | (go_at_call 29; refine (cmpOr_any _ (cmpI f.1 g.1) (cmpL f.2 g.2) _ ?_).mono ?_; exact rdInts_pair _ _ _; rintro e w' ⟨rfl, rfl⟩))
  all_goals
    go_wp2_with (fail)
    go_ret
    exact ⟨ret_int HF.out, B1.trans (And.left (by assumption))⟩

end Go.Proofs.Ytofkcmihcgmmpaa
/-
  Facts in order, plain mathematics: the order, lists that ascend, FactsWith on them, and that their members determine them.
-/
namespace Go.Proofs.Ytofkcmihcgmmpaa

theorem cmpI_neg {a b : Int} : cmpI a b < 0 ↔ a < b := by
  unfold cmpI
  split
  · simp; assumption
  · split <;> simp <;> omega
theorem cmpI_pos {a b : Int} : 0 < cmpI a b ↔ b < a := by
  unfold cmpI
  split
  · simp; omega
  · split <;> simp <;> omega
theorem cmpL_eq : ∀ {xs ys : List Int}, cmpL xs ys = 0 → xs = ys
  | [], [], _ => rfl
  | [], _ :: _, h => by simp [cmpL] at h
  | _ :: _, [], h => by simp [cmpL] at h
  | x :: xs, y :: ys, h => by
    unfold cmpL at h
    split at h
    · rename_i e
      rw [e, cmpL_eq h]
    · exact absurd (cmpI_zero h) (by assumption)
theorem cmpL_refl : ∀ xs : List Int, cmpL xs xs = 0
  | [] => rfl
  | x :: xs => by simp [cmpL, cmpL_refl xs]
theorem cmpL_flip : ∀ {xs ys : List Int}, cmpL xs ys < 0 ↔ 0 < cmpL ys xs
  | [], [] => by simp [cmpL]
  | [], _ :: _ => by simp [cmpL]
  | _ :: _, [] => by simp [cmpL]
  | x :: xs, y :: ys => by
    unfold cmpL
    by_cases e : x = y
    · subst e
      simpa using cmpL_flip
    · rw [if_neg e, if_neg (fun h => e h.symm), cmpI_neg, cmpI_pos]
theorem cmpL_less : ∀ {xs ys zs : List Int}, cmpL xs ys < 0 → cmpL ys zs < 0 → cmpL xs zs < 0
  | [], [], _, h, _ => by simp [cmpL] at h
  | [], _ :: _, [], _, h => by simp [cmpL] at h
  | [], _ :: _, _ :: _, _, _ => by simp [cmpL]
  | _ :: _, [], _, h, _ => by simp [cmpL] at h
  | _ :: _, _ :: _, [], _, h => by simp [cmpL] at h
  | x :: xs, y :: ys, z :: zs, h1, h2 => by
    unfold cmpL at h1 h2 ⊢
    by_cases e1 : x = y
    · subst e1
      by_cases e2 : x = z
      · simp only [e2, if_true] at h1 h2 ⊢
        exact cmpL_less h1 h2
      · simpa [e2] using h2
    · by_cases e2 : y = z
      · subst e2
        simpa [e1] using h1
      · rw [if_neg e1] at h1
        rw [if_neg e2] at h2
        rw [cmpI_neg] at h1 h2
        rw [if_neg (by omega), cmpI_neg]
        omega

theorem order_eq {f g : LFact} (h : factOrder f g = 0) : f = g := by
  unfold factOrder at h
  split at h
  · exact Prod.ext (by assumption) (cmpL_eq h)
  · exact absurd (cmpI_zero h) (by assumption)
theorem order_refl (f : LFact) : factOrder f f = 0 := by simp [factOrder, cmpL_refl]
theorem order_flip {f g : LFact} : factOrder f g < 0 ↔ 0 < factOrder g f := by
  unfold factOrder
  by_cases e : f.1 = g.1
  · rw [if_pos e, if_pos e.symm]
    exact cmpL_flip
  · rw [if_neg e, if_neg (fun h => e h.symm), cmpI_neg, cmpI_pos]
theorem order_less {f g h : LFact} (h1 : factOrder f g < 0) (h2 : factOrder g h < 0) : factOrder f h < 0 := by
  unfold factOrder at h1 h2 ⊢
  by_cases e1 : f.1 = g.1
  · by_cases e2 : g.1 = h.1
    · rw [if_pos e1] at h1
      rw [if_pos e2] at h2
      rw [if_pos (e1.trans e2)]
      exact cmpL_less h1 h2
    · rw [if_neg e2] at h2
      rw [if_neg (fun e => e2 (e1.symm.trans e)), e1]
      exact h2
  · by_cases e2 : g.1 = h.1
    · rw [if_neg e1] at h1
      rw [if_neg (fun e => e1 (e.trans e2.symm)), ← e2]
      exact h1
    · rw [if_neg e1, cmpI_neg] at h1
      rw [if_neg e2, cmpI_neg] at h2
      rw [if_neg (by omega), cmpI_neg]
      omega
theorem order_cases (f g : LFact) : factOrder f g < 0 ∨ f = g ∨ factOrder g f < 0 := by
  rcases Int.lt_trichotomy (factOrder f g) 0 with h | h | h
  · exact .inl h
  · exact .inr (.inl (order_eq h))
  · exact .inr (.inr (order_flip.2 h))

/-- The list ascends, each fact once. -/
def Asc (l : List LFact) : Prop := l.Pairwise fun f g => factOrder f g < 0

/-- Lists that ascend and have the same members are the same. -/
theorem Asc.unique : ∀ {l m : List LFact}, Asc l → Asc m → (∀ f, f ∈ l ↔ f ∈ m) → l = m
  | [], [], _, _, _ => rfl
  | [], g :: m, _, _, h => absurd ((h g).2 (List.mem_cons_self ..)) (by simp)
  | f :: l, [], _, _, h => absurd ((h f).1 (List.mem_cons_self ..)) (by simp)
  | f :: l, g :: m, hl, hm, h => by
    have hl' := List.pairwise_cons.1 hl
    have hm' := List.pairwise_cons.1 hm
    have e : f = g := by
      rcases List.mem_cons.1 ((h f).1 (List.mem_cons_self ..)) with e | e
      · exact e
      rcases List.mem_cons.1 ((h g).2 (List.mem_cons_self ..)) with e' | e'
      · exact e'.symm
      have h1 := hm'.1 f e
      have h2 := hl'.1 g e'
      have := order_less h1 h2
      rw [order_refl] at this
      omega
    subst e
    refine congrArg (f :: ·) (Asc.unique hl'.2 hm'.2 fun x => ⟨fun hx => ?_, fun hx => ?_⟩)
    · rcases List.mem_cons.1 ((h x).1 (List.mem_cons_of_mem _ hx)) with e | e
      · subst e
        have := hl'.1 x hx
        rw [order_refl] at this
        omega
      · exact e
    · rcases List.mem_cons.1 ((h x).2 (List.mem_cons_of_mem _ hx)) with e | e
      · subst e
        have := hm'.1 x hx
        rw [order_refl] at this
        omega
      · exact e

/-- Insertion. -/
def ins (f : LFact) : List LFact → List LFact
  | [] => [f]
  | g :: l => if factOrder f g < 0 then f :: g :: l else if factOrder f g = 0 then f :: l else g :: ins f l

theorem ins_mem (f : LFact) : ∀ (l : List LFact) (x : LFact), x ∈ ins f l ↔ x = f ∨ x ∈ l
  | [], x => by simp [ins]
  | g :: l, x => by
    unfold ins
    split
    · simp
    · split
      · have e := order_eq (by assumption : factOrder f g = 0)
        subst e
        simp
      · simp [ins_mem f l x]
        constructor
        · rintro (h | h | h) <;> simp [h]
        · rintro (h | h | h) <;> simp [h]
theorem Asc.ins {f : LFact} : ∀ {l : List LFact}, Asc l → Asc (ins f l)
  | [], _ => by simp [Go.Proofs.Ytofkcmihcgmmpaa.ins, Asc]
  | g :: l, h => by
    have h' := List.pairwise_cons.1 h
    unfold Go.Proofs.Ytofkcmihcgmmpaa.ins
    split
    · rename_i hlt
      refine List.pairwise_cons.2 ⟨fun x hx => ?_, h⟩
      rcases List.mem_cons.1 hx with e | e
      · rw [e]; exact hlt
      · exact order_less hlt (h'.1 x e)
    · split
      · have e := order_eq (by assumption : factOrder f g = 0)
        subst e
        exact h
      · refine List.pairwise_cons.2 ⟨fun x hx => ?_, Asc.ins h'.2⟩
        rcases (ins_mem f l x).1 hx with e | e
        · subst e
          rcases order_cases x g with h1 | h1 | h1
          · exact absurd h1 (by assumption)
          · subst h1
            exact absurd (order_refl x) (by assumption)
          · exact h1
        · exact h'.1 x e

/-- FactsWith's fold, from a state where the fact is placed already and the rest ascends behind it. -/
theorem withStep_placed (f : LFact) : ∀ (l : List LFact) (out : List LFact), (∀ g ∈ l, factOrder f g ≠ 0) → l.foldl (withStep f) (out, true) = (out ++ l, true)
  | [], out, _ => by simp
  | g :: l, out, h => by
    have h0 := h g (List.mem_cons_self ..)
    simp only [List.foldl_cons, withStep]
    simp [h0]
    rw [withStep_placed f l (out ++ [g]) fun x hx => h x (List.mem_cons_of_mem _ hx)]
    simp

def endW (f : LFact) (s : List LFact × Bool) : List LFact := if s.2 then s.1 else s.1 ++ [f]
theorem withStep_fold (f : LFact) : ∀ (l : List LFact) (out : List LFact), Asc l → endW f (l.foldl (withStep f) (out, false)) = out ++ ins f l
  | [], out, _ => by simp [ins, endW]
  | g :: l, out, h => by
    have h' := List.pairwise_cons.1 h
    simp only [List.foldl_cons]
    rcases Int.lt_trichotomy (factOrder f g) 0 with h1 | h1 | h1
    · have e : withStep f (out, false) g = (out ++ [f] ++ [g], true) := by
        simp [withStep, show factOrder f g ≤ 0 by omega, show factOrder f g ≠ 0 by omega]
      rw [e, withStep_placed f l _ fun x hx => by have := order_less h1 (h'.1 x hx); omega]
      simp [ins, h1, endW]
    · have e : withStep f (out, false) g = (out ++ [f], true) := by
        simp [withStep, h1]
      have e2 := order_eq h1
      subst e2
      rw [e, withStep_placed f l _ fun x hx => by have := h'.1 x hx; omega]
      simp [ins, order_refl, endW]
    · have e : withStep f (out, false) g = (out ++ [g], false) := by
        simp [withStep, show ¬ factOrder f g ≤ 0 by omega, show factOrder f g ≠ 0 by omega]
      rw [e, withStep_fold f l _ h'.2]
      simp [ins, show ¬ factOrder f g < 0 by omega, show factOrder f g ≠ 0 by omega]

/-- FactsWith on a list that ascends is insertion. -/
theorem Asc.with_ {l : List LFact} (h : Asc l) (f : LFact) : factsWith l f = Go.Proofs.Ytofkcmihcgmmpaa.ins f l := by
  have := withStep_fold f l [] h
  unfold endW at this
  unfold factsWith withTo
  rw [List.take_length]
  simpa using this

/-- Facts laid into a list, one after another. -/
def setOf (l : List LFact) : List LFact := l.foldl factsWith []
theorem foldWith : ∀ (l : List LFact) (out : List LFact), Asc out → Asc (l.foldl factsWith out) ∧ ∀ x, x ∈ l.foldl factsWith out ↔ x ∈ out ∨ x ∈ l
  | [], out, h => by simpa using h
  | f :: l, out, h => by
    have h1 : Asc (factsWith out f) := by rw [h.with_ f]; exact h.ins
    obtain ⟨h2, h3⟩ := foldWith l _ h1
    refine ⟨h2, fun x => ?_⟩
    rw [List.foldl_cons, h3 x, h.with_ f, ins_mem]
    simp only [List.mem_cons]
    constructor
    · rintro ((h | h) | h) <;> simp [h]
    · rintro (h | h | h) <;> simp [h]
theorem setOf_asc (l : List LFact) : Asc (setOf l) := (foldWith l [] List.Pairwise.nil).1
theorem setOf_mem (l : List LFact) (x : LFact) : x ∈ setOf l ↔ x ∈ l := by
  rw [setOf, (foldWith l [] List.Pairwise.nil).2 x]
  simp

/-- The list ascends, a fact perhaps more than once. -/
def Up (l : List LFact) : Prop := l.Pairwise fun f g => factOrder f g ≤ 0
/-- Of equal neighbours the last one. -/
def compactL : List LFact → List LFact
  | [] => []
  | [f] => [f]
  | f :: g :: l => if factOrder f g = 0 then compactL (g :: l) else f :: compactL (g :: l)
theorem compactL_mem : ∀ (l : List LFact) (x : LFact), x ∈ compactL l ↔ x ∈ l
  | [], x => by simp [compactL]
  | [f], x => by simp [compactL]
  | f :: g :: l, x => by
    unfold compactL
    split
    · have e := order_eq (by assumption : factOrder f g = 0)
      subst e
      rw [compactL_mem (f :: l) x]
      simp
    · rw [List.mem_cons, compactL_mem (g :: l) x]
      simp
theorem Up.asc : ∀ {l : List LFact}, Up l → Asc (compactL l)
  | [], _ => List.Pairwise.nil
  | [f], _ => by simp [compactL, Asc]
  | f :: g :: l, h => by
    have h' := List.pairwise_cons.1 h
    unfold compactL
    split
    · exact Up.asc h'.2
    · refine List.pairwise_cons.2 ⟨fun x hx => ?_, Up.asc h'.2⟩
      rw [compactL_mem] at hx
      have hfg : factOrder f g < 0 := by
        have := h'.1 g (List.mem_cons_self ..)
        omega
      rcases List.mem_cons.1 hx with e | e
      · rw [e]; exact hfg
      · have h2 := (List.pairwise_cons.1 h'.2).1 x e
        rcases Int.lt_trichotomy (factOrder g x) 0 with h3 | h3 | h3
        · exact order_less hfg h3
        · rw [← order_eq h3]; exact hfg
        · omega

/-- Sorted and compacted, and laid one after another: the same. -/
theorem compact_setOf {s l : List LFact} (h : Up s) (hm : ∀ x, x ∈ s ↔ x ∈ l) : compactL s = setOf l :=
  h.asc.unique (setOf_asc l) fun x => by rw [compactL_mem, setOf_mem, hm]
theorem compact_filter {s l : List LFact} (h : Up s) (hm : ∀ x, x ∈ s ↔ x ∈ l) (p : LFact → Bool) : (compactL s).filter p = setOf (l.filter p) :=
  Asc.unique (h.asc.filter p) (setOf_asc _) fun x => by rw [List.mem_filter, compactL_mem, setOf_mem, List.mem_filter, hm]

end Go.Proofs.Ytofkcmihcgmmpaa
/-
  slices.SortFunc at facts by FactOrder: a permutation, ascending.
-/
namespace Go.Proofs.Ytofkcmihcgmmpaa
open Go.RowKit Go.Sort

/-- An element of the row: a fact, its header, which reads in blocks below g. -/
def El (w : World) (g : Nat) : Type := { x : LFact × Value // RdInts w g x.2 x.1.2 ∧ x.1.2.length ≤ 1048576 }
instance (w : World) (g : Nat) : Inhabited (El w g) := ⟨⟨((0, []), .slice none 0 0), ⟨none, 0, rfl, by simp, fun h => absurd h (by simp)⟩, by simp⟩⟩
def encE {w : World} {g : Nat} (x : El w g) : List Value := [.int .i64 x.1.1.1, x.1.2]
def cfE {w : World} {g : Nat} (x y : El w g) : Int := factOrder x.1.1 y.1.1

section
variable {w : World} {g : Nat}
theorem ltE (x y : El w g) : ltOf cfE x y = decide (factOrder x.1.1 y.1.1 < 0) := rfl
theorem swoE : SWO (ltOf (cfE (w := w) (g := g))) where
  irrefl x := by rw [ltE, order_refl]; rfl
  trans x y z h1 h2 := by
    rw [ltE] at *
    exact decide_eq_true (order_less (of_decide_eq_true h1) (of_decide_eq_true h2))
  ntrans x y z h1 h2 := by
    rw [ltE] at *
    refine decide_eq_false fun h3 => ?_
    have h1 := of_decide_eq_false h1
    have h2 := of_decide_eq_false h2
    rcases order_cases x.1.1 y.1.1 with h | h | h
    · exact h1 h
    · rw [h] at h3
      exact h2 h3
    · exact h2 (order_less h h3)

theorem below_sortWorld {α : Type} [Inhabited α] (enc : α → List Value) (m : Nat) (dk : Array α) (os : Array Obj) : Only g (g + 1) w (sortWorldK enc 2 w g 0 m dk os) := by
  refine ⟨rfl, rfl, rfl, ?_, fun k hk ho => ?_⟩
  · simp [sortWorldK, putRowK, putRow, mapBlock, Sort.grow, Sort.ahead]
  · have hne : ¬ g = k := by omega
    simp only [sortWorldK, putRowK, putRow, mapBlock, Sort.grow, Sort.ahead, Array.getElem?_append, Array.size_modify, Array.getElem?_modify, hne, if_false]
    rw [if_pos hk]

theorem flatE : ∀ (l : List (El w g)), (flatK encE 2 l.toArray).toList = flat (l.map (·.1.1)) (l.map (·.1.2)) := by
  intro l
  have hl : (l.map fun x : El w g => x.1.2).length = (l.map fun x : El w g => x.1.1).length := by simp
  have hfl := flat_length (l.map fun x : El w g => x.1.1) (l.map fun x : El w g => x.1.2) hl
  simp only [List.length_map] at hfl
  have hsz : (flatK encE 2 l.toArray).size = l.length * 2 := by simp
  apply List.ext_getElem
  · rw [Array.length_toList, hsz, hfl]
  · intro t h1 h2
    rw [Array.length_toList, hsz] at h1
    have hk : t / 2 < l.length := by omega
    obtain ⟨c0, c1⟩ := flat_at (l.map fun x : El w g => x.1.1) (l.map fun x : El w g => x.1.2) hl (t / 2) (by simpa using hk) (by simpa using hk)
    have hget : (flatK encE 2 l.toArray)[t]'(by rw [hsz]; exact h1) = (encE l[t / 2])[t % 2]! := by
      have := get_flatK (encE (w := w) (g := g)) 2 l.toArray t (by simpa using h1)
      rw [getElem!_pos _ _ (by rw [hsz]; exact h1)] at this
      rw [this]
      congr 2
      rw [getElem!_pos _ _ (by simpa using hk)]
      simp
    rw [Array.getElem_toList, hget]
    apply Option.some.inj
    rw [← List.getElem?_eq_getElem h2]
    rcases (show t % 2 = 0 ∨ t % 2 = 1 by omega) with e | e
    · have et : t = t / 2 * 2 := by omega
      rw [e]
      conv => rhs; rw [et, c0]
      simp [encE]
    · have et : t = t / 2 * 2 + 1 := by omega
      rw [e]
      conv => rhs; rw [et, c1]
      simp [encE]

theorem elems {fs : List LFact} {av : List Value} (h : RdArgs w g av fs) (hl : ∀ k (hk : k < fs.length), fs[k].2.length ≤ 1048576) : ∃ l : List (El w g), l.map (·.1.1) = fs ∧ l.map (·.1.2) = av := by
  let F : Fin fs.length → El w g := fun i => ⟨(fs[i.1], av[i.1]'(by have := i.2; have := h.1; omega)), h.2 i.1 i.2 _ i.2, hl i.1 i.2⟩
  refine ⟨List.ofFn F, ?_, ?_⟩
  · apply List.ext_getElem
    · rw [List.length_map, List.length_ofFn]
    · intro k k1 k2
      rw [List.getElem_map, List.getElem_ofFn]
  · apply List.ext_getElem
    · rw [List.length_map, List.length_ofFn, h.1]
    · intro k k1 k2
      rw [List.getElem_map, List.getElem_ofFn]

theorem rdE (l : List (El w g)) : RdArgs w g (l.map (·.1.2)) (l.map (·.1.1)) := ⟨by simp, fun k _ h2 h3 => by simpa using (l[k]'(by simpa using h3)).2.1⟩
end

theorem RdArgs.below {w w' : World} {B B' : Nat} {av : List Value} {fs : List LFact} (h : RdArgs w B av fs) (hb : Below B' w w') (hB : B ≤ B') : RdArgs w' B av fs := ⟨h.1, fun k h1 h2 h3 => (h.2 k h1 h2 h3).below hb hB⟩
theorem RdArgs.more {w : World} {B B' : Nat} {av : List Value} {fs : List LFact} (h : RdArgs w B av fs) (hB : B ≤ B') : RdArgs w B' av fs := ⟨h.1, fun k h1 h2 h3 => (h.2 k h1 h2 h3).more hB⟩

/-- The row at block g, from its start, holds facts with these headers. -/
def AtRow (w : World) (g cap : Nat) (fs : List LFact) (av : List Value) : Prop :=
  ∃ cur, w.heap[g]? = some (.cells cur 34 (0, 0)) ∧ fs.length ≤ cap ∧ cap ≤ maxLen ∧ cur.size = cap * 2 ∧ cur.toList.take (fs.length * 2) = flat fs av
theorem AtRow.lt {w : World} {g cap : Nat} {fs : List LFact} {av : List Value} (h : AtRow w g cap fs av) : g < w.heap.size := by
  obtain ⟨cur, hg, _⟩ := h
  exact Blk.lt hg
theorem RowF.at_ {w : World} {base c : Nat} {A : Option Addr} {fs : List LFact} {av : List Value} (h : RowF w base A c fs av) (hn : 0 < fs.length) : ∃ g, A = some ⟨g, 0, none⟩ ∧ base ≤ g ∧ AtRow w g c fs av := by
  rcases h.row.2 with ⟨_, h0⟩ | ⟨g, cap, cur, e, hb, hgg, r1, r2, r3, r4⟩
  · omega
  · injection e with e1 _ e3
    subst e1
    subst e3
    exact ⟨g, rfl, hb, cur, hgg, r1, r2, r3, r4⟩
theorem AtRow.row {w : World} {base g c : Nat} {fs : List LFact} {av : List Value} (h : AtRow w g c fs av) (hl : av.length = fs.length) (hb : base ≤ g) : w.ownsRow base 34 2 (.slice (some ⟨g, 0, none⟩) fs.length c) fs.length (flat fs av) := by
  obtain ⟨cur, hg, h1, h2, h3, h4⟩ := h
  exact ⟨flat_length _ _ hl, .inr ⟨g, c, cur, rfl, hb, hg, h1, h2, h3, h4⟩⟩
theorem AtRow.cell {w : World} {g c : Nat} {fs : List LFact} {av : List Value} (h : AtRow w g c fs av) {j : Nat} (hj : j < fs.length * 2) : w.cell? ⟨g, j, none⟩ = (flat fs av)[j]? := by
  obtain ⟨cur, hg, h1, h2, h3, h4⟩ := h
  rw [Blk.cell hg, ← h4, List.getElem?_take_of_lt hj, Array.getElem?_toList]
theorem AtRow.frozen {w : World} {g c : Nat} {fs : List LFact} {av : List Value} (h : AtRow w g c fs av) (j : Nat) : w.frozen? ⟨g, j, none⟩ = false := by
  obtain ⟨cur, hg, _⟩ := h
  exact Blk.frozen hg j

end Go.Proofs.Ytofkcmihcgmmpaa
/-
  sameFact.
-/
namespace Go.Proofs.Ytofkcmihcgmmpaa
open Go.RowKit Go.Sort

end Go.Proofs.Ytofkcmihcgmmpaa
/-
  Compacting, plain mathematics; a row of facts under stores.
-/
namespace Go.Proofs.Ytofkcmihcgmmpaa
open Go.RowKit Go.Sort

theorem same_iff (f g : LFact) : (factOrder f g == 0) = decide (f = g) := by
  by_cases h : f = g
  · subst h
    simp [order_refl]
  · rw [decide_eq_false h]
    simpa using fun e => h (order_eq e)

theorem compactL_snoc : ∀ (l : List LFact) (a b : LFact), compactL (l ++ [a, b]) = if a = b then compactL (l ++ [a]) else compactL (l ++ [a]) ++ [b]
  | [], a, b => by
    by_cases h : a = b
    · subst h
      simp [compactL, order_refl]
    · have : factOrder a b ≠ 0 := fun e => h (order_eq e)
      simp [compactL, this, h]
  | [x], a, b => by
    have ih := compactL_snoc [] a b
    simp only [List.nil_append] at ih
    show compactL (x :: a :: [b]) = _
    by_cases hx : factOrder x a = 0
    · rw [compactL, if_pos hx]
      show compactL [a, b] = _
      rw [ih, show compactL ([x] ++ [a]) = compactL [a] by simp [compactL, hx]]
    · rw [compactL, if_neg hx]
      show x :: compactL [a, b] = _
      rw [ih, show compactL ([x] ++ [a]) = x :: compactL [a] by simp [compactL, hx]]
      split <;> rfl
  | x :: y :: l, a, b => by
    have ih := compactL_snoc (y :: l) a b
    have e1 : x :: y :: l ++ [a, b] = x :: (y :: (l ++ [a, b])) := rfl
    have e2 : x :: y :: l ++ [a] = x :: (y :: (l ++ [a])) := rfl
    have e3 : y :: l ++ [a, b] = y :: (l ++ [a, b]) := rfl
    have e4 : y :: l ++ [a] = y :: (l ++ [a]) := rfl
    rw [e3, e4] at ih
    rw [e1, e2]
    by_cases hx : factOrder x y = 0
    · rw [compactL, if_pos hx, ih, compactL, if_pos hx]
    · rw [compactL, if_neg hx, ih, compactL, if_neg hx]
      split <;> rfl
/-- One more place. -/
theorem compact_step {fs : List LFact} {j : Nat} (h : j + 1 < fs.length) : compactL (fs.take (j + 2)) = if fs[j] = fs[j + 1] then compactL (fs.take (j + 1)) else compactL (fs.take (j + 1)) ++ [fs[j + 1]] := by
  have e1 : fs.take (j + 2) = fs.take j ++ [fs[j], fs[j + 1]] := by
    rw [take_snoc fs (j + 1) h, take_snoc fs j (by omega), List.append_assoc]
    rfl
  have e2 : fs.take (j + 1) = fs.take j ++ [fs[j]] := take_snoc fs j (by omega)
  rw [e1, e2]
  exact compactL_snoc _ _ _
theorem compactL_length_le : ∀ l : List LFact, (compactL l).length ≤ l.length
  | [] => by simp [compactL]
  | [f] => by simp [compactL]
  | f :: g :: l => by
    have := compactL_length_le (g :: l)
    unfold compactL
    split <;> simp at this ⊢ <;> omega

theorem flat_set_v : ∀ (fs : List LFact) (av : List Value) (j : Nat) (a : Value), av.length = fs.length → j < fs.length → flat fs (av.set j a) = (flat fs av).set (j * 2 + 1) a
  | [], _, j, _, _, h => absurd h (by simp)
  | _ :: _, [], _, _, h, _ => by simp at h
  | f :: fs, b :: av, 0, a, _, _ => by simp [flat]
  | f :: fs, b :: av, j + 1, a, h, hj => by
    have := flat_set_v fs av j a (by simpa using h) (by simpa using hj)
    rw [show (j + 1) * 2 + 1 = j * 2 + 1 + 1 + 1 by omega]
    simp [flat, this]

section
variable {w w' : World} {g c : Nat} {fs : List LFact} {av : List Value}
theorem AtRow.keep (h : AtRow w g c fs av) (hk : w'.heap[g]? = w.heap[g]?) : AtRow w' g c fs av := by
  obtain ⟨cur, hg, r⟩ := h
  exact ⟨cur, hk.trans hg, r⟩
theorem AtRow.below {B : Nat} (h : AtRow w g c fs av) (hb : Below B w w') (hB : g < B) : AtRow w' g c fs av := h.keep (hb.block g hB)
theorem AtRow.len (h : AtRow w g c fs av) : fs.length ≤ c := by
  obtain ⟨cur, _, h1, _⟩ := h
  exact h1
/-- A fact laid at a place. -/
theorem AtRow.set (h : AtRow w g c fs av) (hl : av.length = fs.length) {k : Nat} (hk : k < fs.length) (f : LFact) (a : Value) : AtRow ((w.setCell ⟨g, k * 2, none⟩ (.int .i64 f.1)).setCell ⟨g, k * 2 + 1, none⟩ a) g c (fs.set k f) (av.set k a) := by
  obtain ⟨cur, hg, h1, h2, h3, h4⟩ := h
  have s1 := Blk.set_ (show Blk w g 34 cur from hg) (k * 2) (.int .i64 f.1)
  have s2 := s1.set_ (k * 2 + 1) a
  refine ⟨_, s2, by simpa using h1, h2, by simpa using h3, ?_⟩
  rw [flat_set_v (fs.set k f) av k a (by simpa using hl) (by simpa using hk), flat_set fs av k f hl, ← h4]
  apply List.ext_getElem?
  intro j
  simp only [List.length_set, List.getElem?_take, Array.getElem?_toList, Array.getElem?_setIfInBounds, List.getElem?_set, Array.size_setIfInBounds, List.length_take, Array.length_toList]
  have hb : fs.length * 2 ≤ cur.size := by omega
  by_cases e1 : k * 2 + 1 = j
  · subst e1
    have : k * 2 + 1 < fs.length * 2 := by omega
    have h5 : k * 2 + 1 < cur.size := by omega
    simp [this, h5]
    omega
  · by_cases e2 : k * 2 = j
    · subst e2
      have : k * 2 < fs.length * 2 := by omega
      have h5 : k * 2 < cur.size := by omega
      simp [this, h5]
      omega
    · by_cases h6 : j < fs.length * 2
      · simp [e1, e2, h6]
      · simp [e1, e2, h6]
/-- The first m alone. -/
theorem AtRow.take (h : AtRow w g c fs av) (hl : av.length = fs.length) {m : Nat} (hm : m ≤ fs.length) : AtRow w g c (fs.take m) (av.take m) := by
  obtain ⟨cur, hg, h1, h2, h3, h4⟩ := h
  refine ⟨cur, hg, by simp; omega, h2, h3, ?_⟩
  have hlm : (fs.take m).length = m := by simp; omega
  rw [hlm]
  have e : flat fs av = flat (fs.take m) (av.take m) ++ flat (fs.drop m) (av.drop m) := by
    rw [← flat_append _ _ (by simp [hl]), List.take_append_drop, List.take_append_drop]
  have hfl := flat_length (fs.take m) (av.take m) (by simp [hl])
  rw [hlm] at hfl
  rw [e] at h4
  have := congrArg (List.take (m * 2)) h4
  rw [List.take_take, show min (m * 2) (fs.length * 2) = m * 2 by omega, List.take_append_of_le_length (by omega), ← hfl, List.take_length] at this
  rw [← hfl]
  exact this
end

theorem setCells_heap (g : Nat) : ∀ (vs : List Value) (o : Nat) (w : World) (cur : Array Value) (t : TypeId), w.heap[g]? = some (.cells cur t (0, 0)) →
    ∃ cur', (w.setCells g o vs).heap[g]? = some (.cells cur' t (0, 0)) ∧ cur'.size = cur.size ∧ (∀ j, j < o → cur'[j]? = cur[j]?) ∧ Only g (g + 1) w (w.setCells g o vs)
  | [], _, w, cur, t, h => ⟨cur, h, rfl, fun _ _ => rfl, Only.refl _ _ _⟩
  | v :: vs, o, w, cur, t, h => by
    obtain ⟨cur', h1, h2, h3, h4⟩ := setCells_heap g vs (o + 1) (w.setCell ⟨g, o, none⟩ v) _ t (Blk.set_ (show Blk w g t cur from h) o v)
    refine ⟨cur', h1, by simpa using h2, fun j hj => ?_, (Only.setCell (p := ⟨g, o, none⟩) (Only.refl g (g + 1) w) ⟨Nat.le_refl g, Nat.lt_succ_self g⟩ v).trans h4⟩
    rw [h3 j (by omega), Array.getElem?_setIfInBounds]
    rw [if_neg (by omega)]

/-- clear of the places from k on. -/
theorem run_clear_facts {w : World} {g c : Nat} {fs : List LFact} {av : List Value} (h : AtRow w g c fs av) {k : Nat} (hk : k < fs.length) (d : Nat) :
    ∃ W, (∀ ty, (Builtin.clear_ #[23] ty #[.slice (some ⟨g, k * 2, none⟩) (fs.length - k) d]).run Try.prog w = .ok (.tuple #[]) W) ∧ Only g (g + 1) w W ∧ ((av.length = fs.length) → AtRow W g c (fs.take k) (av.take k)) := by
  obtain ⟨cur, hg, h1, h2, h3, h4⟩ := h
  have hz : ∀ W, (zeroValue 34).run Try.prog W = .ok (.agg #[.int .i64 0, .slice none 0 0]) W := Try.zeroValue34
  obtain ⟨zc, hzc⟩ : ∃ zc, zc = (Builtin.zeroCells #[Value.int IntKind.i64 0, Value.slice none 0 0] (fs.length - k)).toList := ⟨_, rfl⟩
  have hzl : zc.length = (fs.length - k) * 2 := by rw [hzc, Array.length_toList, size_zeroPairs]
  have hz1 : ∀ v ∈ zc, v.oneCell' = true := by
    intro v hv
    rw [hzc] at hv
    simp [Builtin.zeroCells] at hv
    obtain ⟨i, _, hi⟩ := hv
    rcases (show i % 2 = 0 ∨ i % 2 = 1 by omega) with e | e
    · rw [e] at hi
      simp at hi
      rw [← hi]
      rfl
    · rw [e] at hi
      simp at hi
      rw [← hi]
      rfl
  have hst := run_storeCells_cells (P := Try.prog) g (k * 2) zc 0 w (fun j hj => by
      rw [Blk.cell hg, Array.getElem?_eq_getElem (by omega)]
      rfl) (fun j _ => Blk.frozen hg _) hz1
  rw [Nat.add_zero] at hst
  obtain ⟨cur', g1, g2, g3, g4⟩ := setCells_heap g zc (k * 2) w cur _ hg
  refine ⟨w.setCells g (k * 2) zc, fun ty => ?_, g4, fun hl => ?_⟩
  · obtain ⟨m, hm⟩ : ∃ m, fs.length - k = m + 1 := ⟨fs.length - k - 1, by omega⟩
    rw [hm] at hzc ⊢
    simp only [Builtin.clear_]
    simp [run_underlying Try.underlying23, hz, Value.cells, ← hzc, hst]
  · have hA : AtRow w g c fs av := ⟨cur, hg, h1, h2, h3, h4⟩
    obtain ⟨_, hg', _, _, _, h4'⟩ := hA.take hl (Nat.le_of_lt hk)
    rw [hg] at hg'
    injection hg' with hg'
    injection hg' with hg' _ _
    subst hg'
    refine ⟨cur', g1, by simp; omega, h2, by rw [g2]; exact h3, ?_⟩
    rw [← h4']
    have hlk : (fs.take k).length = k := by simp; omega
    rw [hlk]
    apply List.ext_getElem?
    intro j
    rw [List.getElem?_take, List.getElem?_take]
    split
    · rw [Array.getElem?_toList, Array.getElem?_toList]
      exact g3 j (by omega)
    · rfl

end Go.Proofs.Ytofkcmihcgmmpaa
/-
  Some facts drawn: l1Some, its list of the call's own.
-/
namespace Go.Proofs.Ytofkcmihcgmmpaa
open Go.RowKit

theorem OwnFacts.offG {w W : World} {lo hi g : Nat} {v : Value} {fs : List LFact} (h : OwnFacts w lo hi v fs) (k : Only g (g + 1) w W) (hg : g < lo) : OwnFacts W lo hi v fs := h.only k (.inr (by omega))

theorem OwnFacts.swap {w : World} {lo hi : Nat} {v : Value} {f0 f1 : LFact} {fs : List LFact} (h : OwnFacts w lo hi v (f0 :: f1 :: fs)) (hh : hi ≤ w.heap.size) :
    ∃ (g c : Nat) (A0 : Option Addr) (c0 : Nat) (A1 : Option Addr) (c1 : Nat), v = .slice (some ⟨g, 0, none⟩) (fs.length + 2) c ∧ lo ≤ g ∧ g < hi ∧
      w.cell? ⟨g, 0, none⟩ = some (.int .i64 f0.1) ∧ w.cell? ⟨g, 1, none⟩ = some (.slice A0 f0.2.length c0) ∧ w.cell? ⟨g, 2, none⟩ = some (.int .i64 f1.1) ∧ w.cell? ⟨g, 3, none⟩ = some (.slice A1 f1.2.length c1) ∧ (∀ k, w.frozen? ⟨g, k, none⟩ = false) ∧
      ∀ W, Below w.heap.size w W → OwnFacts ((((W.setCell ⟨g, 0, none⟩ (.int .i64 f1.1)).setCell ⟨g, 1, none⟩ (.slice A1 f1.2.length c1)).setCell ⟨g, 2, none⟩ (.int .i64 f0.1)).setCell ⟨g, 3, none⟩ (.slice A0 f0.2.length c0)) lo hi v (f1 :: f0 :: fs) := by
  obtain ⟨av, ⟨hlen, hown, hap⟩, hr, hlt⟩ := h
  rcases av with _ | ⟨a0, _ | ⟨a1, av⟩⟩
  · simp at hlen
  · simp at hlen
  have o0 : OwnInts w lo hi a0 f0.2 := hown 0 (by simp) (by simp)
  have o1 : OwnInts w lo hi a1 f1.2 := hown 1 (by simp) (by simp)
  obtain ⟨A0, c0, rfl⟩ := o0.form
  obtain ⟨A1, c1, rfl⟩ := o1.form
  rcases hr.2 with ⟨_, h0⟩ | ⟨g, cap, cur, rfl, hbg, hgg, r1, r2, r3, r4⟩
  · simp at h0
  have hat : AtRow w g cap (f0 :: f1 :: fs) (.slice A0 f0.2.length c0 :: .slice A1 f1.2.length c1 :: av) := ⟨cur, hgg, r1, r2, r3, r4⟩
  have hl : av.length = fs.length := by simpa using hlen
  have hgh := hlt g rfl
  refine ⟨g, cap, A0, c0, A1, c1, rfl, hbg, hgh, ?_, ?_, ?_, ?_, fun k => hat.frozen k, fun W hW => ?_⟩
  · rw [hat.cell (by simp only [List.length_cons]; omega)]; rfl
  · rw [hat.cell (by simp only [List.length_cons]; omega)]; rfl
  · rw [hat.cell (by simp only [List.length_cons]; omega)]; rfl
  · rw [hat.cell (by simp only [List.length_cons]; omega)]; rfl
  · have K : ∀ (x : Value) (xs : List Int), OwnInts w lo hi x xs → OwnInts ((((W.setCell ⟨g, 0, none⟩ (.int .i64 f1.1)).setCell ⟨g, 1, none⟩ (.slice A1 f1.2.length c1)).setCell ⟨g, 2, none⟩ (.int .i64 f0.1)).setCell ⟨g, 3, none⟩ (.slice A0 f0.2.length c0)) lo hi x xs := fun x xs hx => by
      refine (hx.below hW hh).kept fun b hb => ?_
      have hne : b ≠ g := fun e => blk_ne_row hx.1 (show Blk w g 34 cur from hgg) (by decide) (by rw [hb, e])
      exact (Below.heap_setCell _ ⟨g, 3, none⟩ _ _ hne).trans ((Below.heap_setCell _ ⟨g, 2, none⟩ _ _ hne).trans ((Below.heap_setCell _ ⟨g, 1, none⟩ _ _ hne).trans (Below.heap_setCell _ ⟨g, 0, none⟩ _ _ hne)))
    have S := ((hat.below hW (by omega)).set (by simp [hl]) (k := 0) (by simp) f1 (.slice A1 f1.2.length c1)).set (by simp [hl]) (k := 1) (by simp) f0 (.slice A0 f0.2.length c0)
    have T := S.row (base := lo) (by simp [hl]) hbg
    refine ⟨.slice A1 f1.2.length c1 :: .slice A0 f0.2.length c0 :: av, ⟨by simp [hl], fun i h1 h2 => ?_, ?_⟩, T, hlt⟩
    · rcases i with _ | _ | i
      · exact K _ _ o1
      · exact K _ _ o0
      · exact K _ _ (hown (i + 2) (by simpa using h1) (by simpa using h2))
    · rw [List.pairwise_cons, List.pairwise_cons] at hap
      obtain ⟨p0, p1, p2⟩ := hap
      rw [List.pairwise_cons, List.pairwise_cons]
      refine ⟨fun b hb => ?_, fun b hb => p0 b (by simp [hb]), p2⟩
      rcases List.mem_cons.1 hb with rfl | hb
      · exact fun x hx hx' => p0 _ (by simp) x hx' hx
      · exact p1 b hb

set_option maxHeartbeats 2000000 in
set_option maxRecDepth 100000 in
theorem l1Some_any (g : Nat) (bs : List Nat) (p m lo hi : Nat) (v : Value) (ar : List Int) (w : World) (h : Rdr w g bs p) (hp : p ≤ 65536) (ha : OwnInts w lo hi v ar) (hg : g < lo) (hh : hi ≤ w.heap.size) (hr : ∀ x ∈ ar, 0 ≤ x ∧ x ≤ 2) (hl : ar.length ≤ 1048576) (hm : m ≤ 64) :
    Calls Try.prog 35 #[.pointer (some ⟨g, 0, none⟩), v, .int .i64 m] w fun e w' => ∃ (A : Option Addr) (c : Nat) (fs : List LFact) (q : Nat), e = .returned (.slice A fs.length c) ∧ fs.length ≤ m ∧ tot fs ≤ 3 * m ∧ q ≤ p + 2 + 24 * m ∧
      OwnFacts w' w.heap.size w'.heap.size (.slice A fs.length c) fs ∧ Rdr w' g bs q ∧ Only g (g + 1) w w' := by
  obtain ⟨A0, c0, rfl⟩ := ha.form
  have hgl := h.lt
  have H := Lib.hid h
  have HA := Lib.hid ha
  have HR0 := Lib.hid hr
  clear h ha hr
  go_enter Try.func35, Try.ntmps35
  go_wp2_with (fail)
  refine (pick_any g bs p _ _ (H.out.below (below1 _ _) hgl) (by omega) (by omega)).mono ?_
  rintro e w1 ⟨⟨x, rfl, hx⟩, hpk⟩
  obtain ⟨j, rfl⟩ : ∃ j : Nat, x = (j : Int) := ⟨x.toNat, by have := hx.1 (by omega); omega⟩
  have hj : j ≤ m := by have := hx.1 (by omega); omega
  have HS := Lib.hid (show OwnFacts w1 w.heap.size w1.heap.size (.slice (some ⟨w.heap.size, 0, none⟩) 0 0) [] from (((ColRel.empty w).own.own.mono (Nat.le_refl _) (Nat.le_refl _)).offG hpk.2 hgl).mono (Nat.le_refl _) hpk.2.size)
  have HR1 := Lib.hid hpk.1
  have HO1 := Lib.hid ((Only.of_below (below1 w _)).trans hpk.2)
  clear hpk hx
  go_wp2_with (fail)
  go_loopw [7, 8] (fun o i wr => ∃ (k : Nat) (fs : List LFact) (A : Option Addr) (c q : Nat), i = .int .i64 k ∧ fs.length + k ≤ m ∧ tot fs + 3 * k ≤ 3 * m ∧ q + 24 * k ≤ p + 1 + 24 * m ∧ o = .slice A fs.length c ∧ OwnFacts wr w.heap.size wr.heap.size (.slice A fs.length c) fs ∧ Rdr wr g bs q ∧ Only g (g + 1) w wr) (fun _ i _ => (intOf i).toNat)
  case atStart => exact ⟨j, [], _, 0, p + 1, rfl, by simpa using hj, by have : tot [] = 0 := rfl; omega, by omega, rfl, HS.out, HR1.out, HO1.out⟩
  case round =>
    obtain ⟨k, fs, A, c, q, rfl, hk, htk, hqk, rfl, ho, hrd, hon⟩ := hrel
    have HO := Lib.hid ho
    have HRD := Lib.hid hrd
    have hsz := hon.size
    have HN := Lib.hid hon
    have hfl : fs.length ≤ m := by omega
    clear ho hrd hon
    by_cases hlt : 0 < k
    · obtain ⟨k, rfl⟩ : ∃ k', k = k' + 1 := ⟨k - 1, by omega⟩
      have hd : decide ((0 : Int) < ((k + 1 : Nat) : Int)) = true := by simp
      go_wp2_with (fail)
      refine (l1Fact_own g bs q lo hi _ ar wr HRD.out (by omega) (HA.out.offG HN.out hg) hg (Nat.le_trans hh hsz) HR0.out hl).mono ?_
      rintro e w2 ⟨A3, c3, f, q3, rfl, hf, hq3, ho, hR, hO⟩
      have HF := Lib.hid ho
      have HR2 := Lib.hid hR
      have HO2 := Lib.hid hO
      have hs2 := hO.size
      clear ho hR hO
      go_wp2_with (fail)
      have RA := Lib.hid (show RdInts (w2.alloc (Obj.cells #[Value.int IntKind.i64 f.fst, Value.slice A3 f.snd.length c3] 34)) (w2.alloc (Obj.cells #[Value.int IntKind.i64 f.fst, Value.slice A3 f.snd.length c3] 34)).heap.size (.slice A0 ar.length c0) ar from
        (((HA.out.offG HN.out hg).offG HO2.out hg).rd.more (by omega)).on (below1 w2 _))
      have RB := Lib.hid (show RdFact (w2.alloc (Obj.cells #[Value.int IntKind.i64 f.fst, Value.slice A3 f.snd.length c3] 34)) (w2.alloc (Obj.cells #[Value.int IntKind.i64 f.fst, Value.slice A3 f.snd.length c3] 34)).heap.size (.agg #[.int .i64 f.1, .slice A3 f.2.length c3]) f from
        RdFact.on ⟨_, rfl, HF.out.rd⟩ (below1 w2 _))
      refine (specFactOk_any _ _ ar f _ RA.out RB.out hl (by omega)).mono ?_
      rintro e w3 ⟨rfl, hb3⟩
      have B3 := bthen (below1 w2 _) hb3
      have hs3 := B3.size
      have K3 : Blk w3 w2.heap.size 34 #[.int .i64 f.1, .slice A3 f.2.length c3] := (Blk.new w2 _ _).below hb3 (by simp)
      have O3 : OwnFacts w3 w.heap.size wr.heap.size (.slice A fs.length c) fs := (HO.out.offG HO2.out (by omega)).below B3 hs2
      have F3 : OwnInts w3 wr.heap.size w2.heap.size (.slice A3 f.2.length c3) f.2 := HF.out.below B3 (Nat.le_refl _)
      have R3 := HR2.out.below B3 HR2.out.lt
      have N3 := HN.out.trans (HO2.out.trans (Only.of_below (lo := g) (hi := g + 1) B3))
      have hbd := factsWith_bound fs f
      have hgr : g < w3.heap.size := R3.lt
      clear hb3 B3 HRD HR2 HO2 HO HF RA RB HN
      cases hok : factOk ar f
      · have HX3 := Lib.hid (And.intro O3 (And.intro F3 (And.intro R3 N3)))
        have HK3 := Lib.hid K3
        clear O3 F3 N3 K3
        have HR3 := Lib.hid R3
        clear R3
        go_wp2_with (fail)
        refine (pick_any g bs q3 _ _ HR3.out (by omega) (by omega)).mono ?_
        rintro e w4 ⟨⟨x, rfl, _⟩, hpk⟩
        have hs4 := hpk.2.size
        have K4 := HK3.out.only hpk.2 (.inr (by omega))
        obtain ⟨O3, F3, _, N3⟩ := HX3.out
        have O4 := (O3.offG hpk.2 (by omega)).mono (Nat.le_refl _) (show wr.heap.size ≤ w4.heap.size by omega)
        have F4 := (F3.offG hpk.2 (by omega)).rd.more (show w2.heap.size ≤ w4.heap.size by omega)
        have R4 := hpk.1
        have N4 := N3.trans hpk.2
        have k0 : w4.cell? ⟨w2.heap.size, 0, none⟩ = some (.int .i64 f.1) := K4.cell 0
        have k1 : w4.cell? ⟨w2.heap.size, 1, none⟩ = some (.slice A3 f.2.length c3) := K4.cell 1
        clear hpk O3 F3 N3 K4 HX3 HK3 HR3
        have HX4 := Lib.hid (And.intro O4 (And.intro F4 (And.intro R4 N4)))
        clear O4 F4 R4 N4
        by_cases hx0 : x = 0
        · subst hx0
          go_wp2_with (fail)
          refine (specFactsWith_any _ _ fs f _ HX4.out.1.rd ⟨_, rfl, HX4.out.2.1⟩ (by omega) (by omega) (by omega)).mono ?_
          rintro e w5 ⟨A5, c5, rfl, ho5, hb5⟩
          have HE := Lib.hid (show OwnFacts w5 w.heap.size w5.heap.size _ _ from ho5.mono (by omega) (Nat.le_refl _))
          have HR5 := Lib.hid (HX4.out.2.2.1.below hb5 (by omega))
          have HN5 := Lib.hid (HX4.out.2.2.2.trans (Only.of_below (lo := g) (hi := g + 1) hb5))
          clear ho5 hb5
          go_wp2_with (fail)
          go_roundw
          case rel => exact ⟨k, factsWith fs f, A5, c5, q3 + 1, by go_num, by omega, by omega, by omega, rfl, HE.out, HR5.out, HN5.out⟩
          case measure => simp [intOf]
        · have hd0 : (x == 0) = false := by simpa using hx0
          go_wp2_with (fail)
          go_roundw
          case rel => exact ⟨k, fs, A, c, q3 + 1, by go_num, by omega, by omega, by omega, rfl, HX4.out.1, HX4.out.2.2.1, HX4.out.2.2.2⟩
          case measure => simp [intOf]
      · have k0 : w3.cell? ⟨w2.heap.size, 0, none⟩ = some (.int .i64 f.1) := K3.cell 0
        have k1 : w3.cell? ⟨w2.heap.size, 1, none⟩ = some (.slice A3 f.2.length c3) := K3.cell 1
        have HX3 := Lib.hid (And.intro O3 (And.intro F3 (And.intro R3 N3)))
        clear O3 F3 R3 N3 K3
        go_wp2_with (fail)
        refine (specFactsWith_any _ _ fs f _ (HX3.out.1.rd.more (by omega)) ⟨_, rfl, HX3.out.2.1.rd.more (by omega)⟩ (by omega) (by omega) (by omega)).mono ?_
        rintro e w5 ⟨A5, c5, rfl, ho5, hb5⟩
        have HE := Lib.hid (show OwnFacts w5 w.heap.size w5.heap.size _ _ from ho5.mono (by omega) (Nat.le_refl _))
        have HR5 := Lib.hid (HX3.out.2.2.1.below hb5 (by omega))
        have HN5 := Lib.hid (HX3.out.2.2.2.trans (Only.of_below (lo := g) (hi := g + 1) hb5))
        clear ho5 hb5
        go_wp2_with (fail)
        go_roundw
        case rel => exact ⟨k, factsWith fs f, A5, c5, q3, by go_num, by omega, by omega, by omega, rfl, HE.out, HR5.out, HN5.out⟩
        case measure => simp [intOf]
    · have hk0 : k = 0 := by omega
      subst hk0
      by_cases h1 : 1 < fs.length
      · obtain ⟨f0, f1, fs, rfl⟩ : ∃ f0 f1 fs', fs = f0 :: f1 :: fs' := by
          rcases fs with _ | ⟨f0, _ | ⟨f1, fs⟩⟩
          · simp at h1
          · simp at h1
          · exact ⟨f0, f1, fs, rfl⟩
        have hd1 : decide ((1 : Int) < ((f0 :: f1 :: fs).length : Int)) = true := by simp only [List.length_cons]; simp; omega
        go_wp2_with (fail)
        refine (pick_any g bs q _ _ HRD.out (by omega) (by omega)).mono ?_
        rintro e w3 ⟨⟨x, rfl, _⟩, hpk⟩
        have O3 := (HO.out.offG hpk.2 hgl).mono (Nat.le_refl _) hpk.2.size
        have HN3 := Lib.hid (HN.out.trans hpk.2)
        have HR3 := Lib.hid hpk.1
        have hs3 := hpk.2.size
        clear hpk
        by_cases hx0 : x = 0
        · subst hx0
          obtain ⟨g2, cp, B0, d0, B1, d1, e0, hlo, hhi, k0, k1, k2, k3, kf, hsw⟩ := O3.swap (Nat.le_refl _)
          injection e0 with e1 _ e3
          subst e1
          subst e3
          have f0' := kf 0
          have f1' := kf 1
          have f2' := kf 2
          have f3' := kf 3
          have HSW := Lib.hid hsw
          clear hsw kf
          go_wp2_with (fail)
          go_ret
          refine ⟨some ⟨g2, 0, none⟩, _, f1 :: f0 :: fs, q + 1, rfl, by simpa using hk, by simp only [tot_cons] at htk ⊢; omega, by omega, ?_⟩
          have hso := HSW.out w3 (Below.refl _ _)
          have hkb : ∀ b, b ≠ g2 → ((((w3.setCell ⟨g2, 0, none⟩ (.int .i64 f1.1)).setCell ⟨g2, 1, none⟩ (.slice B1 f1.2.length d1)).setCell ⟨g2, 2, none⟩ (.int .i64 f0.1)).setCell ⟨g2, 3, none⟩ (.slice B0 f0.2.length d0)).heap[b]? = w3.heap[b]? := fun b hne =>
            (Below.heap_setCell _ ⟨g2, 3, none⟩ _ _ hne).trans ((Below.heap_setCell _ ⟨g2, 2, none⟩ _ _ hne).trans ((Below.heap_setCell _ ⟨g2, 1, none⟩ _ _ hne).trans (Below.heap_setCell _ ⟨g2, 0, none⟩ _ _ hne)))
          have hN3 := HN3.out
          have hR3 := HR3.out
          have ho : Only g (g + 1) w ((((w3.setCell ⟨g2, 0, none⟩ (.int .i64 f1.1)).setCell ⟨g2, 1, none⟩ (.slice B1 f1.2.length d1)).setCell ⟨g2, 2, none⟩ (.int .i64 f0.1)).setCell ⟨g2, 3, none⟩ (.slice B0 f0.2.length d0)) :=
            ⟨hN3.os, hN3.tape, hN3.output, by simpa using hN3.size, fun k hk hn => (hkb k (by omega)).trans (hN3.block k hk hn)⟩
          have hsz4 : ((((w3.setCell ⟨g2, 0, none⟩ (.int .i64 f1.1)).setCell ⟨g2, 1, none⟩ (.slice B1 f1.2.length d1)).setCell ⟨g2, 2, none⟩ (.int .i64 f0.1)).setCell ⟨g2, 3, none⟩ (.slice B0 f0.2.length d0)).heap.size = w3.heap.size := by simp
          have hr4 := hR3.same (w' := ((((w3.setCell ⟨g2, 0, none⟩ (.int .i64 f1.1)).setCell ⟨g2, 1, none⟩ (.slice B1 f1.2.length d1)).setCell ⟨g2, 2, none⟩ (.int .i64 f0.1)).setCell ⟨g2, 3, none⟩ (.slice B0 f0.2.length d0))) fun k hk => hkb k (by omega)
          exact ⟨(hso.below (below1 _ _) (by omega)).mono (Nat.le_refl _) (by rw [World.size_alloc]; omega), hr4.below (below1 _ _) (by omega), ho.trans (Only.of_below (below1 _ _))⟩
        · have hd0 : (x == 0) = false := by simpa using hx0
          have HO3 := Lib.hid O3
          clear O3
          go_wp2_with (fail)
          go_ret
          exact ⟨A, c, f0 :: f1 :: fs, q + 1, rfl, by simpa using hk, by simpa using htk, by omega, HO3.out, HR3.out, HN3.out⟩
      · have hd1 : decide ((1 : Int) < (fs.length : Int)) = false := by simp; omega
        go_wp2_with (fail)
        go_ret
        exact ⟨A, c, fs, q, rfl, by simpa using hk, by simpa using htk, by omega, HO.out, HRD.out, HN.out⟩

end Go.Proofs.Ytofkcmihcgmmpaa
/-
  What variables have, plain mathematics: lists of four numbers from -1 to 5, and the words of four fields that the program keeps them in.
-/
namespace Go.Proofs.Ytofkcmihcgmmpaa
open Go.RowKit

/-- One of what a variable may have. -/
def hasB (x : Int) : Bool := decide (-1 ≤ x ∧ x ≤ 5)
def bindOk (bs : List Int) : Bool := decide (bs.length = 4) && bs.all hasB

theorem bindOk_len {bs : List Int} (h : bindOk bs = true) : bs.length = 4 := by
  simp only [bindOk, Bool.and_eq_true, decide_eq_true_eq] at h
  exact h.1
theorem bindOk_all {bs : List Int} (h : bindOk bs = true) : bs.all hasB = true := by
  simp only [bindOk, Bool.and_eq_true] at h
  exact h.2
theorem hasB_at {bs : List Int} (h : bs.all hasB = true) {k : Nat} (hk : k < bs.length) : -1 ≤ bs[k] ∧ bs[k] ≤ 5 := by
  have := List.all_eq_true.1 h bs[k] (List.getElem_mem hk)
  simpa [hasB] using this
theorem bindOk_at {bs : List Int} (h : bindOk bs = true) {k : Nat} (hk : k < bs.length) : -1 ≤ bs[k] ∧ bs[k] ≤ 5 := hasB_at (bindOk_all h) hk
theorem bindOk_iff {bs : List Int} (hl : bs.length = 4) (h : bs.all hasB = true) : bindOk bs = true := by simp [bindOk, hl, h]

/-- What a term has: a constant itself, a variable what it has. -/
def termVal (bs : List Int) (t : Int) : Int := if 0 ≤ t then t else bs.getD (-1 - t).toNat (-1)
theorem termVal_const {bs : List Int} {t : Int} (h : 0 ≤ t) : termVal bs t = t := if_pos h
theorem termVal_var {bs : List Int} {t : Int} (h : t < 0) : termVal bs t = bs.getD (-1 - t).toNat (-1) := if_neg (by omega)
theorem termOk_at {t : Int} (ht : termOk t = true) : -4 ≤ t ∧ t ≤ 5 := by simpa [termOk] using ht
theorem termVal_bounds {bs : List Int} (hb : bindOk bs = true) {t : Int} (ht : termOk t = true) : -1 ≤ termVal bs t ∧ termVal bs t ≤ 5 := by
  have ht' := termOk_at ht
  unfold termVal
  split
  · omega
  · have hl := bindOk_len hb
    have hk : (-1 - t).toNat < bs.length := by omega
    rw [List.getD_eq_getElem?_getD, List.getElem?_eq_getElem hk]
    exact bindOk_at hb hk

/-- The word of a list of four. -/
def encB (bs : List Int) : Nat := (((bs.getD 0 (-1) + 1).toNat * 16 + (bs.getD 1 (-1) + 1).toNat) * 16 + (bs.getD 2 (-1) + 1).toNat) * 16 + (bs.getD 3 (-1) + 1).toNat
/-- Nobody has anything. -/
def noneB : List Int := [-1, -1, -1, -1]
theorem noneB_ok : bindOk noneB = true := by decide
theorem encB_none : encB noneB = 0 := by decide

theorem list4 {bs : List Int} (h : bs.length = 4) : ∃ a b c d, bs = [a, b, c, d] := by
  match bs, h with
  | [a, b, c, d], _ => exact ⟨a, b, c, d, rfl⟩
theorem fin7 {x : Int} (h : -1 ≤ x ∧ x ≤ 5) : ∃ a : Fin 7, (x + 1).toNat = a.val ∧ x = (a.val : Int) - 1 := ⟨⟨(x + 1).toNat, by omega⟩, rfl, by show x = (((x + 1).toNat : Nat) : Int) - 1; omega⟩

theorem or0 : ∀ a b c e : Fin 7, ((0 * 16 + a.val) * 16 + b.val) * 16 + c.val ||| e.val * 4096 = ((e.val * 16 + a.val) * 16 + b.val) * 16 + c.val := by decide +kernel
theorem or1 : ∀ a b c e : Fin 7, ((a.val * 16 + 0) * 16 + b.val) * 16 + c.val ||| e.val * 256 = ((a.val * 16 + e.val) * 16 + b.val) * 16 + c.val := by decide +kernel
theorem or2 : ∀ a b c e : Fin 7, ((a.val * 16 + b.val) * 16 + 0) * 16 + c.val ||| e.val * 16 = ((a.val * 16 + b.val) * 16 + e.val) * 16 + c.val := by decide +kernel
theorem or3 : ∀ a b c e : Fin 7, ((a.val * 16 + b.val) * 16 + c.val) * 16 + 0 ||| e.val = ((a.val * 16 + b.val) * 16 + c.val) * 16 + e.val := by decide +kernel

/-- The word of a variable's constant. -/
def shlB (v : Nat) (c : Int) : Nat := (c + 1).toNat * 2 ^ ((3 - v) * 4)

theorem encB_set {bs : List Int} (h : bindOk bs = true) {v : Nat} (hv : v < 4) (hn : bs.getD v (-1) = -1) {c : Int} (hc : -1 ≤ c ∧ c ≤ 5) : encB bs ||| shlB v c = encB (bs.set v c) := by
  obtain ⟨b0, b1, b2, b3, rfl⟩ := list4 (bindOk_len h)
  have ha := bindOk_all h
  simp only [List.all_cons, List.all_nil, Bool.and_true, Bool.and_eq_true, hasB, decide_eq_true_eq] at ha
  obtain ⟨h0, h1, h2, h3⟩ := ha
  obtain ⟨e, he, he'⟩ := fin7 hc
  obtain ⟨x0, e0, _⟩ := fin7 h0
  obtain ⟨x1, e1, _⟩ := fin7 h1
  obtain ⟨x2, e2, _⟩ := fin7 h2
  obtain ⟨x3, e3, _⟩ := fin7 h3
  match v, hv with
  | 0, _ =>
    simp only [List.getD_cons_zero] at hn
    subst hn
    simp only [encB, shlB, List.getD_cons_zero, List.getD_cons_succ, List.set_cons_zero, he, e1, e2, e3]
    exact or0 x1 x2 x3 e
  | 1, _ =>
    simp only [List.getD_cons_zero, List.getD_cons_succ] at hn
    subst hn
    simp only [encB, shlB, List.getD_cons_zero, List.getD_cons_succ, List.set_cons_zero, List.set_cons_succ, he, e0, e2, e3]
    exact or1 x0 x2 x3 e
  | 2, _ =>
    simp only [List.getD_cons_zero, List.getD_cons_succ] at hn
    subst hn
    simp only [encB, shlB, List.getD_cons_zero, List.getD_cons_succ, List.set_cons_zero, List.set_cons_succ, he, e0, e1, e3]
    exact or2 x0 x1 x3 e
  | 3, _ =>
    simp only [List.getD_cons_zero, List.getD_cons_succ] at hn
    subst hn
    simp only [encB, shlB, List.getD_cons_zero, List.getD_cons_succ, List.set_cons_zero, List.set_cons_succ, he, e0, e1, e2]
    simpa using or3 x0 x1 x2 e

theorem encB_lt {bs : List Int} (h : bindOk bs = true) : encB bs < 65536 := by
  obtain ⟨b0, b1, b2, b3, rfl⟩ := list4 (bindOk_len h)
  have ha := bindOk_all h
  simp only [List.all_cons, List.all_nil, Bool.and_true, Bool.and_eq_true, hasB, decide_eq_true_eq] at ha
  simp only [encB, List.getD_cons_zero, List.getD_cons_succ]
  omega
theorem shlB_lt {v : Nat} (hv : v < 4) {c : Int} (hc : -1 ≤ c ∧ c ≤ 5) : shlB v c < 65536 := by
  unfold shlB
  match v, hv with
  | 0, _ => show (c + 1).toNat * 4096 < 65536; omega
  | 1, _ => show (c + 1).toNat * 256 < 65536; omega
  | 2, _ => show (c + 1).toNat * 16 < 65536; omega
  | 3, _ => show (c + 1).toNat * 1 < 65536; omega

/-- What a variable has, read off the word. -/
def fieldB (m v : Nat) : Nat := m / 2 ^ ((3 - v) * 4) % 16
theorem fieldB_enc {bs : List Int} (h : bindOk bs = true) {v : Nat} (hv : v < 4) : ((fieldB (encB bs) v : Nat) : Int) - 1 = bs.getD v (-1) := by
  obtain ⟨b0, b1, b2, b3, rfl⟩ := list4 (bindOk_len h)
  have ha := bindOk_all h
  simp only [List.all_cons, List.all_nil, Bool.and_true, Bool.and_eq_true, hasB, decide_eq_true_eq] at ha
  match v, hv with
  | 0, _ => simp only [fieldB, encB, List.getD_cons_zero, List.getD_cons_succ]; omega
  | 1, _ => simp only [fieldB, encB, List.getD_cons_zero, List.getD_cons_succ]; omega
  | 2, _ => simp only [fieldB, encB, List.getD_cons_zero, List.getD_cons_succ]; omega
  | 3, _ => simp only [fieldB, encB, List.getD_cons_zero, List.getD_cons_succ]; omega

theorem encB_inj {bs cs : List Int} (h : bindOk bs = true) (h2 : bindOk cs = true) (e : encB bs = encB cs) : bs = cs := by
  apply List.ext_getElem (by rw [bindOk_len h, bindOk_len h2])
  intro v h1 h3
  have hv : v < 4 := by rw [bindOk_len h] at h1; exact h1
  have a := fieldB_enc h hv
  have b := fieldB_enc h2 hv
  rw [e] at a
  have c := a.symm.trans b
  simpa [h1, h3] using c
theorem bindOk_set {bs : List Int} (h : bindOk bs = true) {c : Int} (hc : -1 ≤ c ∧ c ≤ 5) (v : Nat) : bindOk (bs.set v c) = true := by
  refine bindOk_iff (by rw [List.length_set]; exact bindOk_len h) (List.all_eq_true.2 fun x hx => ?_)
  rcases List.mem_or_eq_of_mem_set hx with hx | rfl
  · exact List.all_eq_true.1 (bindOk_all h) x hx
  · simpa [hasB] using hc

/-- The first k of a list, the others as yet without any. -/
def padB (bs : List Int) (k : Nat) : List Int := bs.take k ++ List.replicate (4 - k) (-1)
theorem padB_zero (bs : List Int) : padB bs 0 = noneB := rfl
theorem padB_all {bs : List Int} (h : bs.length = 4) : padB bs 4 = bs := by simp [padB, ← h]
theorem padB_ok {bs : List Int} {k : Nat} (hl : bs.length = 4) (hk : k ≤ 4) (h : (bs.take k).all hasB = true) : bindOk (padB bs k) = true := by
  refine bindOk_iff (by simp [padB, hl]; omega) ?_
  simp only [padB, List.all_append, h, Bool.true_and, List.all_eq_true]
  intro x hx
  rw [List.eq_of_mem_replicate hx]
  rfl
theorem padB_step {bs : List Int} {k : Nat} (hl : bs.length = 4) (hk : k < 4) : (padB bs k).getD k (-1) = -1 ∧ (padB bs k).set k (bs[k]'(by omega)) = padB bs (k + 1) := by
  obtain ⟨b0, b1, b2, b3, rfl⟩ := list4 hl
  match k, hk with
  | 0, _ => exact ⟨rfl, rfl⟩
  | 1, _ => exact ⟨rfl, rfl⟩
  | 2, _ => exact ⟨rfl, rfl⟩
  | 3, _ => exact ⟨rfl, rfl⟩

/-- Bound. -/
def boundL (args bs : List Int) : List Int := if bindOk bs && args.all termOk then args.map (termVal bs) else []
theorem boundL_length (args bs : List Int) : (boundL args bs).length ≤ args.length := by
  unfold boundL
  split <;> simp

end Go.Proofs.Ytofkcmihcgmmpaa
/-
  Matching an atom with a fact, plain mathematics.
-/
namespace Go.Proofs.Ytofkcmihcgmmpaa
open Go.RowKit

/-- One term against one constant. -/
def stepM (bs : List Int) (t c : Int) : Option (List Int) :=
  if termVal bs t = c then some bs else if termVal bs t = -1 then some (bs.set (-1 - t).toNat c) else none
def matchTo (bs xs ys : List Int) : Nat → Option (List Int)
  | 0 => some bs
  | k + 1 => (matchTo bs xs ys k).bind fun b => stepM b (xs.getD k 0) (ys.getD k 0)
def matchL (a f : LFact) (bs : List Int) : Option (List Int) :=
  if a.1 = f.1 ∧ a.2.length = f.2.length then matchTo bs a.2 f.2 a.2.length else none

theorem stepM_ok {bs b : List Int} (h : bindOk bs = true) {t c : Int} (hc : -1 ≤ c ∧ c ≤ 5) (e : stepM bs t c = some b) : bindOk b = true := by
  unfold stepM at e
  split at e
  · injection e with e
    rwa [← e]
  · split at e
    · injection e with e
      rw [← e]
      exact bindOk_set h hc _
    · cases e
theorem matchTo_step {bs xs ys b : List Int} {k : Nat} (h : matchTo bs xs ys k = some b) (h1 : k < xs.length) (h2 : k < ys.length) : matchTo bs xs ys (k + 1) = stepM b xs[k] ys[k] := by
  show (matchTo bs xs ys k).bind _ = _
  rw [h]
  simp [h1, h2]
theorem matchTo_none {bs xs ys : List Int} {k : Nat} (h : matchTo bs xs ys k = none) : ∀ n, k ≤ n → matchTo bs xs ys n = none
  | 0, hn => by
    have : k = 0 := by omega
    subst this
    exact h
  | n + 1, hn => by
    by_cases e : k = n + 1
    · rw [← e]; exact h
    · show (matchTo bs xs ys n).bind _ = none
      rw [matchTo_none h n (by omega)]
      rfl
theorem matchL_eq {a f : LFact} {bs : List Int} (h1 : a.1 = f.1) (h2 : a.2.length = f.2.length) : matchL a f bs = matchTo bs a.2 f.2 a.2.length := if_pos ⟨h1, h2⟩
theorem matchL_pred {a f : LFact} {bs : List Int} (h : a.1 ≠ f.1) : matchL a f bs = none := if_neg fun e => h e.1
theorem matchL_len {a f : LFact} {bs : List Int} (h : a.2.length ≠ f.2.length) : matchL a f bs = none := if_neg fun e => h e.2
theorem matchL_stop {a f : LFact} {bs : List Int} {k : Nat} (h1 : a.1 = f.1) (h2 : a.2.length = f.2.length) (hk : k < a.2.length) (e : matchTo bs a.2 f.2 (k + 1) = none) : matchL a f bs = none := by
  rw [matchL_eq h1 h2]
  exact matchTo_none e _ hk
theorem stepM_same {bs : List Int} {t c : Int} (h : termVal bs t = c) : stepM bs t c = some bs := if_pos h
theorem stepM_new {bs : List Int} {t c : Int} (h : termVal bs t = -1) (hc : c ≠ -1) : stepM bs t c = some (bs.set (-1 - t).toNat c) := by
  unfold stepM
  rw [if_neg (by omega), if_pos h]
theorem stepM_no {bs : List Int} {t c : Int} (h : termVal bs t ≠ c) (h2 : termVal bs t ≠ -1) : stepM bs t c = none := by
  unfold stepM
  rw [if_neg h, if_neg h2]
theorem termVal_free {bs : List Int} {t : Int} (ht : termOk t = true) (h : termVal bs t = -1) : -4 ≤ t ∧ t ≤ -1 ∧ bs.getD (-1 - t).toNat (-1) = -1 := by
  have htb := termOk_at ht
  have h0 : t < 0 := by
    rcases Int.lt_or_le t 0 with h1 | h1
    · exact h1
    · rw [termVal_const h1] at h
      omega
  rw [termVal_var h0] at h
  exact ⟨htb.1, by omega, h⟩

end Go.Proofs.Ytofkcmihcgmmpaa
/-
  HeadOf, plain mathematics; blocks that growth leaves alone.
-/
namespace Go.Proofs.Ytofkcmihcgmmpaa
open Go.RowKit

def headOk (a : LFact) (bs : List Int) : Bool := (bindOk bs && a.2.all termOk) && (a.2.map (termVal bs)).all constOk
def headOf (a : LFact) (bs : List Int) : LFact := if headOk a bs then (a.1, a.2.map (termVal bs)) else (0, [])
theorem headOk_bind {a : LFact} {bs : List Int} (h : bindOk bs = false) : headOk a bs = false := by unfold headOk; rw [h]; rfl
theorem headOk_terms {a : LFact} {bs : List Int} (h : a.2.all termOk = false) : headOk a bs = false := by unfold headOk; rw [h, Bool.and_false]; rfl
theorem headOk_vals {a : LFact} {bs : List Int} (h : (a.2.map (termVal bs)).all constOk = false) : headOk a bs = false := by unfold headOk; rw [h, Bool.and_false]
theorem headOk_yes {a : LFact} {bs : List Int} (h1 : bindOk bs = true) (h2 : a.2.all termOk = true) (h3 : (a.2.map (termVal bs)).all constOk = true) : headOk a bs = true := by unfold headOk; rw [h1, h2, h3]; rfl
theorem headOf_no {a : LFact} {bs : List Int} (h : headOk a bs = false) : headOf a bs = (0, []) := by unfold headOf; rw [h]; rfl
theorem headOf_yes {a : LFact} {bs : List Int} (h : headOk a bs = true) : headOf a bs = (a.1, a.2.map (termVal bs)) := by unfold headOf; rw [h]; rfl
theorem headOf_length (a : LFact) (bs : List Int) : (headOf a bs).2.length ≤ a.2.length := by
  unfold headOf
  split <;> simp

theorem Blk.grown {w w' : World} {g : Nat} {t : TypeId} {cs : Array Value} {row : Option Nat} (h : Blk w g t cs) (hg : w.grownBy w' row) (hne : row ≠ some g) : Blk w' g t cs := (hg.block g h.lt (fun e => hne e.symm)).trans h
/-- A row that is appended to lies in none of the blocks ahead. -/
theorem OwnInts.apart {w : World} {lo hi : Nat} {v : Value} {xs : List Int} (h : OwnInts w lo hi v xs) {g : Nat} (hg : g < lo) : v.ownBlock ≠ some g := fun e => by have := h.lt e; omega

end Go.Proofs.Ytofkcmihcgmmpaa
/-
  The specification's l3Bind, l3Term, Bound, l3Copy.
-/
namespace Go.Proofs.Ytofkcmihcgmmpaa
open Go.RowKit

set_option maxHeartbeats 400000 in
theorem l3Bind_any (v : Value) (bs : List Int) (B : Nat) (w : World) (h : RdInts w B v bs) (hr : bs.length ≤ 1048576) :
    Calls Try.prog 25 #[v] w fun e w' => e = .returned (.bool (bindOk bs)) ∧ w = w' := by
  obtain ⟨A, c, rfl, hc, ha⟩ := h
  go_enter Try.func25, Try.ntmps25
  go_wp2_with (fail)
  go_loop [3] (fun i => ∃ k : Nat, k ≤ bs.length ∧ i = .int .i64 k ∧ AllTo hasB bs k) (fun i => bs.length - (intOf i).toNat)
  case atStart => exact ⟨0, Nat.zero_le _, rfl, AllTo.start⟩
  case round =>
    obtain ⟨k, hk, rfl, hs⟩ := hrel
    by_cases hlt : k < bs.length
    · obtain ⟨b, o, rfl, hbB, hx⟩ := ha (by omega)
      have hck : w.cell? ⟨b, o + k, none⟩ = some (.int .i64 bs[k]) := hx k hlt
      clear hx ha
      by_cases he : -1 ≤ bs[k] ∧ bs[k] ≤ 5
      · have HS := Lib.hid (hs.step hlt (by simpa [hasB] using he))
        have HK := Lib.hid (l1In_yes he)
        clear hs he
        go_wp2_with (go_at_call 43; refine (HK.out _).mono ?_; rintro e w' ⟨rfl, rfl⟩)
        go_round
        case rel => exact ⟨k + 1, by omega, by go_num, HS.out⟩
        case measure => simp [intOf]; omega
      · have HE := Lib.hid (show bindOk bs = false by simp [bindOk, all_not hlt (show hasB bs[k] = false by simpa [hasB] using he)])
        have HK := Lib.hid (l1In_no he)
        clear hs he
        go_wp2_with (go_at_call 43; refine (HK.out _).mono ?_; rintro e w' ⟨rfl, rfl⟩)
        go_ret
        exact ⟨ret_bool HE.out.symm, rfl⟩
    · have HE := Lib.hid (hs.done (by omega))
      clear hs ha
      by_cases hl : bs.length = 4
      · have hl1 : ((bs.length : Int) == 4) = true := by simp; omega
        have HB := Lib.hid (bindOk_iff hl HE.out)
        clear hl
        go_wp2_with (fail)
        go_ret
        exact ⟨ret_bool HB.out.symm, rfl⟩
      · have hl1 : ((bs.length : Int) == 4) = false := by simp; omega
        have HB := Lib.hid (show bindOk bs = false by simp [bindOk, hl])
        clear hl
        go_wp2_with (fail)
        go_ret
        exact ⟨ret_bool HB.out.symm, rfl⟩

theorem l3Bind_is {bs : List Int} {ok : Bool} (hok : bindOk bs = ok) (v : Value) (B : Nat) (w : World) (h : RdInts w B v bs) (hr : bs.length ≤ 1048576) :
    Calls Try.prog 25 #[v] w fun e w' => e = .returned (.bool ok) ∧ w = w' := hok ▸ l3Bind_any v bs B w h hr

set_option maxHeartbeats 400000 in
theorem l3Term_any (v : Value) (bs : List Int) (t : Int) (B : Nat) (w : World) (h : RdInts w B v bs) (hb : bs.length = 4) (ht : termOk t = true) :
    Calls Try.prog 27 #[.int .i64 t, v] w fun e w' => e = .returned (.int .i64 (termVal bs t)) ∧ w = w' := by
  obtain ⟨A, c, rfl, hc, ha⟩ := h
  have htb := termOk_at ht
  by_cases h0 : 0 ≤ t
  · have hd : decide (0 ≤ t) = true := by simpa using h0
    have HE := Lib.hid (termVal_const (bs := bs) h0).symm
    go_enter Try.func27, Try.ntmps27
    go_wp2_with (fail)
    go_ret
    exact ⟨ret_int HE.out, rfl⟩
  · have hd : decide (0 ≤ t) = false := by simpa using h0
    obtain ⟨j, hj4, rfl⟩ : ∃ j : Nat, j < bs.length ∧ t = -1 - (j : Int) := ⟨(-1 - t).toNat, by omega, by omega⟩
    obtain ⟨b, o, rfl, hbB, hx⟩ := ha (by omega)
    have hck : w.cell? ⟨b, o + j, none⟩ = some (.int .i64 bs[j]) := hx j hj4
    have hjI : (j : Int) < (bs.length : Int) := by omega
    have HE := Lib.hid (show bs[j] = termVal bs (-1 - (j : Int)) by
      rw [termVal_var (by omega), show (-1 - (-1 - (j : Int))).toNat = j by omega]
      simp [hj4])
    have hee : -1 - (-1 - (j : Int)) = (j : Int) := by omega
    clear hx ha hb
    go_enter Try.func27, Try.ntmps27
    go_wp2_with (fail)
    go_ret
    exact ⟨ret_int HE.out, rfl⟩

end Go.Proofs.Ytofkcmihcgmmpaa
/-
  The walks of the program's words of what variables have: bindingShift, with, constant, value.
-/
namespace Go.Proofs.Ytofkcmihcgmmpaa
open Go.RowKit

theorem shift_any (v : Int) (h0 : 0 ≤ v) (h1 : v ≤ 3) (w : World) : Calls Try.prog 49 #[.int .i64 v] w fun e w' => e = .returned (.int .i64 ((3 - v) * 4)) ∧ w = w' := by
  go_enter Try.func49, Try.ntmps49
  go_wp2
  go_ret
  exact ⟨rfl, rfl⟩

theorem shl_word {v : Nat} (hv : v < 4) {c : Int} (hc : -1 ≤ c ∧ c ≤ 5) : (c + 1) * 2 ^ ((3 - v) * 4) % 4294967296 = ((shlB v c : Nat) : Int) := by
  unfold shlB
  match v, hv with
  | 0, _ => show (c + 1) * 4096 % 4294967296 = (((c + 1).toNat * 4096 : Nat) : Int); omega
  | 1, _ => show (c + 1) * 256 % 4294967296 = (((c + 1).toNat * 256 : Nat) : Int); omega
  | 2, _ => show (c + 1) * 16 % 4294967296 = (((c + 1).toNat * 16 : Nat) : Int); omega
  | 3, _ => show (c + 1) * 1 % 4294967296 = (((c + 1).toNat * 1 : Nat) : Int); omega
theorem or_word32 {a b : Nat} (ha : a < 65536) (hb : b < 65536) : bits .or .u32 (a : Int) (b : Int) = ((a ||| b : Nat) : Int) := u32_or_nat a b (by omega) (by omega)
theorem field_word {m v : Nat} (hm : m < 65536) : bits .and .u32 ((m : Int) / 2 ^ ((3 - v) * 4)) 15 = ((fieldB m v : Nat) : Int) := by
  have h := u32_and_nat (m / 2 ^ ((3 - v) * 4)) 15 (Nat.lt_of_le_of_lt (Nat.div_le_self _ _) (by omega)) (by omega)
  have e : (15 : Nat) = 2 ^ 4 - 1 := rfl
  rw [e, Nat.and_two_pow_sub_one_eq_mod] at h
  simpa [fieldB] using h
theorem fieldB_lt (m v : Nat) : fieldB m v < 16 := Nat.mod_lt _ (by omega)

theorem with_any (m v : Nat) (c : Int) (hm : m < 65536) (hv : v < 4) (hc : -1 ≤ c ∧ c ≤ 5) (w : World) :
    Calls Try.prog 40 #[.int .u32 (m : Nat), .int .i64 (v : Nat), .int .i64 c] w fun e w' => e = .returned (.int .u32 ((m ||| shlB v c : Nat) : Int)) ∧ w = w' := by
  go_enter Try.func40, Try.ntmps40
  go_wp2_with (go_at_call 49; refine (shift_any _ (by omega) (by omega) _).mono ?_; rintro e w' ⟨rfl, rfl⟩)
  go_ret
  exact ⟨ret_int (by rw [shl_word hv hc, or_word32 hm (shlB_lt hv hc)]), rfl⟩

theorem constant_any (m v : Nat) (hm : m < 65536) (hv : v < 4) (w : World) :
    Calls Try.prog 51 #[.int .u32 (m : Nat), .int .i64 (v : Nat)] w fun e w' => e = .returned (.int .i64 ((fieldB m v : Nat) - 1)) ∧ w = w' := by
  go_enter Try.func51, Try.ntmps51
  go_wp2_with (go_at_call 49; refine (shift_any _ (by omega) (by omega) _).mono ?_; rintro e w' ⟨rfl, rfl⟩)
  go_ret
  exact ⟨ret_int (by have := fieldB_lt m v; rw [field_word hm, IntWalk.wrap64_in (fieldB m v : Nat) (by omega), IntWalk.wrap64_in _ (by omega)]), rfl⟩

theorem value_any (bs : List Int) (hb : bindOk bs = true) (t : Int) (ht : termOk t = true) (w : World) :
    Calls Try.prog 42 #[.int .u32 (encB bs : Nat), .int .i64 t] w fun e w' => e = .returned (.int .i64 (termVal bs t)) ∧ w = w' := by
  have htb := termOk_at ht
  by_cases h1 : isVarB t = true
  · have hv : -4 ≤ t ∧ t ≤ -1 := by simpa [isVarB] using h1
    obtain ⟨v, hv4, rfl⟩ : ∃ v : Nat, v < 4 ∧ t = -1 - (v : Int) := ⟨(-1 - t).toNat, by omega, by omega⟩
    have HE := Lib.hid (show ((fieldB (encB bs) v : Nat) : Int) - 1 = termVal bs (-1 - (v : Int)) by
      rw [fieldB_enc hb hv4, termVal_var (by omega)]
      congr 1
      omega)
    have HN := Lib.hid (show -1 - (-1 - (v : Int)) = (v : Int) by omega)
    have hlt := encB_lt hb
    generalize encB bs = m at HE hlt
    go_enter Try.func42, Try.ntmps42
    go_wp2_with (first | (go_at_call 50; refine (isVar_is h1 _).mono ?_; rintro e w' ⟨rfl, rfl⟩) | (go_at_call 52; refine (varNumber_any _ hv.1 hv.2 _).mono ?_; rintro e w' ⟨rfl, rfl⟩; rw [HN.out]) | (go_at_call 51; refine (constant_any _ _ hlt hv4 _).mono ?_; rintro e w' ⟨rfl, rfl⟩))
    go_ret
    exact ⟨ret_int HE.out, rfl⟩
  · have h2 : isVarB t = false := by simpa using h1
    have h0 : 0 ≤ t := by simp [isVarB] at h2; omega
    have HE := Lib.hid (termVal_const (bs := bs) h0).symm
    go_enter Try.func42, Try.ntmps42
    go_wp2_with (go_at_call 50; refine (isVar_is h2 _).mono ?_; rintro e w' ⟨rfl, rfl⟩)
    go_ret
    exact ⟨ret_int HE.out, rfl⟩

end Go.Proofs.Ytofkcmihcgmmpaa
/-
  The walks of bindingOf, values, numbers.
-/
namespace Go.Proofs.Ytofkcmihcgmmpaa
open Go.RowKit

set_option maxHeartbeats 400000 in
theorem bindingOf_n (v : Value) (bs : List Int) (B z0 : Nat) (ok : Bool) (hz0 : z0 = if bindOk bs then encB bs else 0) (hok : ok = bindOk bs) (w : World) (h : RdInts w B v bs) (hr : bs.length ≤ 1048576) :
    Calls Try.prog 21 #[v] w fun e w' => e = .returned (.tuple #[.int .u32 (z0 : Nat), .bool ok]) ∧ w = w' := by
  obtain ⟨A, c, rfl, hc, ha⟩ := h
  have HO := Lib.hid (And.intro hz0 hok)
  clear hz0 hok
  by_cases hl : bs.length = 4
  · have hl1 : ((bs.length : Int) != 4) = false := by simp; omega
    have HL := Lib.hid hl
    clear hl
    go_enter Try.func21, Try.ntmps21
    go_wp2_with (fail)
    go_loop [4, 5, 6, 12] (fun m _ _ i => ∃ (k : Nat) (z : Nat), k ≤ bs.length ∧ i = .int .i64 k ∧ m = .int .u32 (z : Nat) ∧ z = encB (padB bs k) ∧ (bs.take k).all hasB = true) (fun _ _ _ i => bs.length - (intOf i).toNat)
    case atStart => exact ⟨0, 0, Nat.zero_le _, rfl, rfl, by rw [padB_zero, encB_none], rfl⟩
    case round =>
      obtain ⟨k, z, hk, rfl, rfl, hz, hs⟩ := hrel
      by_cases hlt : k < bs.length
      · obtain ⟨b, o, rfl, hbB, hx⟩ := ha (by omega)
        have hck : w.cell? ⟨b, o + k, none⟩ = some (.int .i64 bs[k]) := hx k hlt
        clear hx ha
        by_cases h0 : bs[k] < -1
        · have HE := Lib.hid (show bindOk bs = false by
            have : bs.all hasB = false := all_not hlt (by simp [hasB]; omega)
            simp [bindOk, this])
          clear hz hs
          go_wp2_with (fail)
          go_ret2
          rw [show ok = false by rw [HO.out.2, HE.out], show z0 = 0 by rw [HO.out.1, HE.out]; rfl]
          exact ⟨rfl, rfl⟩
        · have hd0 : decide (bs[k] < -1) = false := by simpa using h0
          by_cases h5 : 5 < bs[k]
          · have HE := Lib.hid (show bindOk bs = false by
              have : bs.all hasB = false := all_not hlt (by simp [hasB]; omega)
              simp [bindOk, this])
            clear hz hs
            go_wp2_with (fail)
            go_ret2
            rw [show ok = false by rw [HO.out.2, HE.out], show z0 = 0 by rw [HO.out.1, HE.out]; rfl]
            exact ⟨rfl, rfl⟩
          · have hk4 : k < 4 := by have := HL.out; omega
            have hp := padB_ok HL.out (Nat.le_of_lt hk4) hs
            have hst := padB_step HL.out hk4
            have hin : -1 ≤ bs[k] ∧ bs[k] ≤ 5 := by omega
            have hzl : z < 65536 := by rw [hz]; exact encB_lt hp
            have HZ := Lib.hid (show z ||| shlB k bs[k] = encB (padB bs (k + 1)) by rw [hz, encB_set hp hk4 hst.1 hin, hst.2])
            have HS := Lib.hid (show (bs.take (k + 1)).all hasB = true by rw [take_snoc bs k hlt, List.all_append, hs]; simp [hasB]; omega)
            clear hz hs hst hp
            go_wp2_with (go_at_call 40; refine (with_any _ _ _ hzl hk4 hin _).mono ?_; rintro e w' ⟨rfl, rfl⟩)
            go_round
            case rel => exact ⟨k + 1, _, by omega, by go_num, rfl, HZ.out, HS.out⟩
            case measure => simp [intOf]; omega
      · have hkn : k = bs.length := by omega
        have HE := Lib.hid (show bindOk bs = true by rw [hkn, List.take_length] at hs; exact bindOk_iff HL.out hs)
        have HZ := Lib.hid (show z = encB bs by rw [hz, hkn, HL.out, padB_all HL.out])
        clear hz hs ha hkn
        go_wp2_with (fail)
        go_ret2
        rw [show ok = true by rw [HO.out.2, HE.out], show z0 = z by rw [HO.out.1, HE.out, HZ.out]; rfl]
        exact ⟨rfl, rfl⟩
  · have hl1 : ((bs.length : Int) != 4) = true := by simp; omega
    have HE := Lib.hid (show bindOk bs = false by simp [bindOk, hl])
    clear hl ha
    go_enter Try.func21, Try.ntmps21
    go_wp2_with (fail)
    go_ret2
    rw [show ok = false by rw [HO.out.2, HE.out], show z0 = 0 by rw [HO.out.1, HE.out]; rfl]
    exact ⟨rfl, rfl⟩

theorem bindingOf_yes {bs : List Int} (hb : bindOk bs = true) (v : Value) (B : Nat) (w : World) (h : RdInts w B v bs) :
    Calls Try.prog 21 #[v] w fun e w' => e = .returned (.tuple #[.int .u32 (encB bs : Nat), .bool true]) ∧ w = w' :=
  bindingOf_n v bs B _ true (by rw [hb]; rfl) hb.symm w h (by have := bindOk_len hb; omega)
theorem bindingOf_no {bs : List Int} (hb : bindOk bs = false) (v : Value) (B : Nat) (w : World) (h : RdInts w B v bs) (hr : bs.length ≤ 1048576) :
    Calls Try.prog 21 #[v] w fun e w' => e = .returned (.tuple #[.int .u32 ((0 : Nat) : Int), .bool false]) ∧ w = w' :=
  bindingOf_n v bs B 0 false (by rw [hb]; rfl) hb.symm w h hr

set_option maxHeartbeats 400000 in
theorem values_any (v : Value) (bs args : List Int) (hb : bindOk bs = true) (ht : args.all termOk = true) (w : World) (h : RdInts w w.heap.size v args) (hr : args.length ≤ 1048576) :
    Calls Try.prog 23 #[.int .u32 (encB bs : Nat), v] w fun e w' => ∃ A' c', e = .returned (.slice A' args.length c') ∧ OwnInts w' w.heap.size w'.heap.size (.slice A' args.length c') (args.map (termVal bs)) ∧ Below w.heap.size w w' := by
  obtain ⟨A, c, rfl, hc, hcell⟩ := h
  have hmk := run_make_row' (P := Try.prog) 24 3 (.int .i64 0) 8 Try.underlying24 Try.infoInt rfl .i64 .i64 args.length (by omega) (by omega)
  have HV := Lib.hid (fun t ht => value_any bs hb t ht)
  generalize encB bs = m at HV
  obtain ⟨ys, hys⟩ : ∃ ys, ys = args.map (termVal bs) := ⟨_, rfl⟩
  have hyl : ys.length = args.length := by rw [hys]; simp
  have HY := Lib.hid hys
  have HYL := Lib.hid hyl
  clear hys hyl
  go_enter Try.func23, Try.ntmps23
  go_wp2_with (fail)
  go_loopw [6, 7, 13] (fun _ _ i wr => ∃ k : Nat, k ≤ args.length ∧ i = .int .i64 k ∧ wr.rowIs w.heap.size 3 args.length (fun j => if j < k then .int .i64 (ys.getD j 0) else .int .i64 0) ∧ Below w.heap.size w wr)
    (fun _ _ i _ => args.length - (intOf i).toNat)
  case atStart => exact ⟨0, Nat.zero_le _, rfl, (World.rowIs_made w _ _ _).congr (fun j _ => by simp), (Below.refl _ _).alloc (Nat.le_refl _) _⟩
  case round =>
    obtain ⟨k, hk, rfl, hrow, hb⟩ := hrel
    by_cases hlt : k < args.length
    · obtain ⟨b, o, rfl, hbB, hx⟩ := hcell (by omega)
      have hck : wr.cell? ⟨b, o + k, none⟩ = some (.int .i64 args[k]) := (hb.cell (p := ⟨b, o + k, none⟩) hbB).trans (hx k hlt)
      have hok : termOk args[k] = true := List.all_eq_true.1 ht _ (List.getElem_mem hlt)
      have hc2 := hrow.cell hlt
      have hf2 := hrow.frozen k
      have HV2 := Lib.hid (HV.out _ hok)
      have HG := Lib.hid (show ys.getD k 0 = termVal bs args[k] by rw [HY.out]; simp [hlt])
      clear hx
      have HR := Lib.hid hrow
      clear hrow hok
      go_wp2_with (go_at_call 42; refine (HV2.out _).mono ?_; rintro e w' ⟨rfl, rfl⟩)
      go_roundw
      case rel =>
        refine ⟨k + 1, by omega, by go_num, (HR.out.set k _).congr (fun j hj => ?_), hb.setCell (Nat.le_refl _) _⟩
        by_cases e : j = k
        · subst e
          simp only [if_true]
          rw [if_pos (by omega), HG.out]
        · rw [if_neg e]
          by_cases h2 : j < k
          · rw [if_pos h2, if_pos (by omega)]
          · rw [if_neg h2, if_neg (by omega)]
      case measure => simp [intOf]; omega
    · have hkn : k = args.length := by omega
      have HO : OwnInts wr w.heap.size wr.heap.size (.slice (some ⟨w.heap.size, 0, none⟩) ys.length ys.length) ys :=
        OwnInts.of_rowIs (by rw [HYL.out]; exact hrow.congr (fun j hj => by rw [if_pos (by omega)])) (Nat.le_refl _) hrow.lt (by have := HYL.out; unfold maxLen; omega)
      rw [HYL.out, HY.out] at HO
      clear hrow hcell
      have HH := Lib.hid HO
      clear HO
      clear hkn
      go_wp2_with (fail)
      go_ret
      exact ⟨_, _, rfl, HH.out, hb⟩

theorem bs_getD {bs : List Int} {j : Nat} (hl : bs.length = 4) (hj : j < 4) : bs.getD j (-1) = bs.getD j 0 := by
  rw [List.getD_eq_getElem?_getD, List.getD_eq_getElem?_getD, List.getElem?_eq_getElem (by omega)]
  rfl

theorem make4i (W : World) : (Instr.makeSlice 24 (.int .i64 4) (.int .i64 4)).run Try.prog W = .ok (.slice (some ⟨W.heap.size, 0, none⟩) 4 4) (W.alloc (.cells (madeCells #[.int .i64 0] 4) 3)) :=
  run_make_row' (P := Try.prog) 24 3 (.int .i64 0) 8 Try.underlying24 Try.infoInt rfl .i64 .i64 4 (by omega) (by omega) W

end Go.Proofs.Ytofkcmihcgmmpaa
/-
  The program's Bound.
-/
namespace Go.Proofs.Ytofkcmihcgmmpaa
open Go.RowKit

theorem areTerms_is {xs : List Int} {b : Bool} (e : xs.all termOk = b) (v : Value) (B : Nat) (w : World) (h : RdInts w B v xs) (hr : xs.length ≤ 1048576) :
    Calls Try.prog 22 #[v] w fun e w' => e = .returned (.bool b) ∧ w = w' := e ▸ areTerms_any v xs B w h hr

set_option maxHeartbeats 400000 in
set_option maxRecDepth 100000 in
theorem implBound_any (v v2 : Value) (xs bs : List Int) (w : World) (h : RdInts w w.heap.size v xs) (h2 : RdInts w w.heap.size v2 bs) (hr : xs.length ≤ 1048576) (hr2 : bs.length ≤ 1048576) :
    Calls Try.prog 18 #[v, v2] w fun e w' => ∃ A' c', e = .returned (.slice A' (boundL xs bs).length c') ∧ OwnInts w' w.heap.size w'.heap.size (.slice A' (boundL xs bs).length c') (boundL xs bs) ∧ Below w.heap.size w w' := by
  have H := Lib.hid h
  have H2 := Lib.hid h2
  obtain ⟨A, c, rfl, hc, _⟩ := h
  obtain ⟨A2, c2, rfl, hc2, _⟩ := h2
  have HBad := Lib.hid (show (bindOk bs && xs.all termOk) = false → boundL xs bs = [] from fun e => by unfold boundL; rw [e]; rfl)
  have N0 := Lib.hid (show OwnInts w w.heap.size w.heap.size (.slice none 0 0) [] from ⟨World.ownsRow_nil _ _ _ _, fun g hg => by cases hg⟩)
  by_cases hb : bindOk bs = true
  · have L1 := Lib.hid (fun W (hW : RdInts W w.heap.size (.slice A2 bs.length c2) bs) => bindingOf_yes hb (.slice A2 bs.length c2) w.heap.size W hW)
    by_cases ht : xs.all termOk = true
    · have HY := Lib.hid (show boundL xs bs = xs.map (termVal bs) by unfold boundL; rw [hb, ht]; rfl)
      have HL := Lib.hid (show (boundL xs bs).length = xs.length by rw [HY.out]; simp)
      have L2 := Lib.hid (areTerms_is ht (.slice A xs.length c) w.heap.size w H.out hr)
      have L3 := Lib.hid (values_any (.slice A xs.length c) bs xs hb ht w H.out hr)
      clear hb ht
      generalize encB bs = m at L1 L3
      go_enter Try.func18, Try.ntmps18
      go_wp2_with (first | (go_at_call 21; refine (L1.out _ H2.out).mono ?_; rintro e w' ⟨rfl, rfl⟩) | (go_at_call 22; refine L2.out.mono ?_; rintro e w' ⟨rfl, rfl⟩) | (go_at_call 23; refine L3.out.mono ?_; rintro e w1 ⟨A', c', rfl, ho, hbe⟩; have HO := Lib.hid (And.intro ho hbe); clear ho hbe))
      go_ret
      refine ⟨A', c', by rw [HL.out]; rfl, ?_, HO.out.2⟩
      rw [HL.out, HY.out]
      exact HO.out.1
    · have ht' : xs.all termOk = false := by simpa using ht
      have HE := Lib.hid (HBad.out (by rw [ht', Bool.and_false]))
      have L2 := Lib.hid (areTerms_is ht' (.slice A xs.length c) w.heap.size w H.out hr)
      clear hb ht ht'
      generalize encB bs = m at L1
      go_enter Try.func18, Try.ntmps18
      go_wp2_with (first | (go_at_call 21; refine (L1.out _ H2.out).mono ?_; rintro e w' ⟨rfl, rfl⟩) | (go_at_call 22; refine L2.out.mono ?_; rintro e w' ⟨rfl, rfl⟩))
      go_ret
      rw [HE.out]
      exact ⟨_, _, rfl, N0.out, Below.refl _ _⟩
  · have hb' : bindOk bs = false := by simpa using hb
    have HE := Lib.hid (HBad.out (by rw [hb', Bool.false_and]))
    have L1 := Lib.hid (fun W (hW : RdInts W w.heap.size (.slice A2 bs.length c2) bs) => bindingOf_no hb' (.slice A2 bs.length c2) w.heap.size W hW hr2)
    clear hb hb'
    go_enter Try.func18, Try.ntmps18
    go_wp2_with (first | (go_at_call 21; refine (L1.out _ H2.out).mono ?_; rintro e w' ⟨rfl, rfl⟩))
    go_ret
    rw [HE.out]
    exact ⟨_, _, rfl, N0.out, Below.refl _ _⟩

end Go.Proofs.Ytofkcmihcgmmpaa
/-
  Both BodySafe.
-/
namespace Go.Proofs.Ytofkcmihcgmmpaa
open Go.RowKit

def litFine (l : LLit) : Bool := decide (0 ≤ l.1 ∧ l.1 ≤ 3) && l.2.2.all termOk
def bodySafe (ls : List LLit) : Bool := (ls.all litFine && decide (ls.length ≤ 4)) && ruleSafe ((0, []), ls)
theorem litFine_kind {l : LLit} (h : ¬ (0 ≤ l.1 ∧ l.1 ≤ 3)) : litFine l = false := by simp [litFine, h]
theorem litFine_terms {l : LLit} (h : l.2.2.all termOk = false) : litFine l = false := by unfold litFine; rw [h, Bool.and_false]
theorem litFine_yes {l : LLit} (h : 0 ≤ l.1 ∧ l.1 ≤ 3) (h2 : l.2.2.all termOk = true) : litFine l = true := by unfold litFine; rw [h2, decide_eq_true h]; rfl
theorem ruleMask_body (ls : List LLit) : ruleMask ((0, []), ls) = bodyMask ls := by simp [ruleMask, maskOf, maskFrom]
theorem bodySafe_not {ls : List LLit} {k : Nat} (hk : k < ls.length) (e : litFine ls[k] = false) : bodySafe ls = false := by
  unfold bodySafe
  rw [all_not hk e]
  rfl
theorem l2Terms_is {xs : List Int} {b : Bool} (e : xs.all termOk = b) (v : Value) (B : Nat) (w : World) (h : RdInts w B v xs) (hr : xs.length ≤ 1048576) :
    Calls Try.prog 26 #[v] w fun e w' => e = .returned (.bool b) ∧ w = w' := e ▸ l2Terms_any v xs B w h hr

end Go.Proofs.Ytofkcmihcgmmpaa
/-
  The specification's HeadOf.
-/
namespace Go.Proofs.Ytofkcmihcgmmpaa
open Go.RowKit

theorem zeroI (w : World) (lo hi : Nat) : OwnInts w lo hi (.slice none 0 0) [] := ⟨World.ownsRow_nil _ _ _ _, fun g hg => by cases hg⟩

set_option maxHeartbeats 2000000 in
set_option maxRecDepth 100000 in
theorem specHeadOf_any (v v2 : Value) (a : LFact) (bs : List Int) (w : World) (h : RdFact w w.heap.size v a) (h2 : RdInts w w.heap.size v2 bs) (hr : a.2.length ≤ 1048576) (hr2 : bs.length ≤ 1048576) :
    Calls Try.prog 8 #[v, v2] w fun e w' => ∃ A' c', e = .returned (.tuple #[.agg #[.int .i64 (headOf a bs).1, .slice A' (headOf a bs).2.length c'], .bool (headOk a bs)]) ∧ OwnInts w' w.heap.size w'.heap.size (.slice A' (headOf a bs).2.length c') (headOf a bs).2 ∧ Below w.heap.size w w' := by
  obtain ⟨i0, hi0, hz0, hz1, hz2⟩ := info_parts Try.infoInt
  obtain ⟨u, rfl, h⟩ := h
  have H := Lib.hid h
  have H2 := Lib.hid h2
  obtain ⟨A, c, rfl, hc, _⟩ := h
  obtain ⟨A2, c2, rfl, hc2, _⟩ := h2
  obtain ⟨F, hF⟩ : ∃ F, F = headOf a bs := ⟨_, rfl⟩
  obtain ⟨ok, hok⟩ : ∃ ok, ok = headOk a bs := ⟨_, rfl⟩
  rw [← hF, ← hok]
  have HF := Lib.hid hF
  have HK := Lib.hid hok
  clear hF hok
  -- the worlds ahead
  have X0 : ∀ T1 c1 T2 c2, Blk ((w.alloc (Obj.cells c1 T1)).alloc (Obj.cells c2 T2)) w.heap.size T1 c1 := fun T1 c1 T2 c2 => (Blk.new w T1 c1).alloc _
  have X1 : ∀ o T2 c2, Blk ((w.alloc o).alloc (Obj.cells c2 T2)) (w.heap.size + 1) T2 c2 := fun o T2 c2 => by simpa using Blk.new (w.alloc o) T2 c2
  by_cases hb : bindOk bs = true
  · have L1 := Lib.hid (fun W (hW : Below w.heap.size w W) => l3Bind_is hb (.slice A2 bs.length c2) w.heap.size W (H2.out.below hW (Nat.le_refl _)) hr2)
    by_cases ht : a.2.all termOk = true
    · have L2 := Lib.hid (fun W (hW : Below w.heap.size w W) => l2Terms_is ht (.slice A a.2.length c) w.heap.size W (H.out.below hW (Nat.le_refl _)) hr)
      have HB4 := Lib.hid (bindOk_len hb)
      have HB := Lib.hid hb
      have HT := Lib.hid ht
      have HTK := Lib.hid (show ∀ k (hk : k < a.2.length), termOk a.2[k] = true ∧ -1 ≤ termVal bs a.2[k] ∧ termVal bs a.2[k] ≤ 5 from fun k hk => by
        have := List.all_eq_true.1 ht _ (List.getElem_mem hk)
        exact ⟨this, termVal_bounds hb this⟩)
      obtain ⟨ys, hys⟩ : ∃ ys, ys = a.2.map (termVal bs) := ⟨_, rfl⟩
      have HY := Lib.hid hys
      have HYL := Lib.hid (show ys.length = a.2.length by rw [hys]; simp)
      have HYK := Lib.hid (show ∀ k (hk : k < a.2.length), ys.take (k + 1) = ys.take k ++ [termVal bs a.2[k]] from fun k hk => by
        rw [take_snoc ys k (by rw [hys]; simpa using hk)]
        simp [hys])
      clear hb ht hys
      go_enter Try.func8, Try.ntmps8
      go_wp2_with (fail)
      have x0 := X0 26 #[.int .i64 a.1, .slice A a.2.length c] 34 #[.int .i64 0, .slice none 0 0]
      have x1 := X1 (Obj.cells #[.int .i64 a.1, .slice A a.2.length c] 26) 34 #[.int .i64 0, .slice none 0 0]
      obtain ⟨w2, hw2⟩ : ∃ w2, w2 = ((w.alloc (Obj.cells #[Value.int IntKind.i64 a.1, Value.slice A a.2.length c] 26)).alloc (Obj.cells #[Value.int IntKind.i64 0, Value.slice none 0 0] 34)) := ⟨_, rfl⟩
      have B2 : Below w.heap.size w w2 := by rw [hw2]; exact below2 _ _ _
      have hs2 : w.heap.size + 1 < w2.heap.size := by rw [hw2]; simp
      rw [← hw2] at x0 x1 ⊢
      clear hw2 X0 X1
      have q00 : w2.cell? ⟨w.heap.size, 0, none⟩ = some (.int .i64 a.1) := x0.cell 0
      have q01 : w2.cell? ⟨w.heap.size, 1, none⟩ = some (.slice A a.2.length c) := x0.cell 1
      refine (L1.out _ B2).mono ?_
      rintro e w' ⟨rfl, rfl⟩
      go_wp2_with (fail)
      refine (L2.out _ B2).mono ?_
      rintro e w' ⟨rfl, rfl⟩
      go_wp2_with (fail)
      have x2 : Blk (w2.alloc (Obj.cells #[Value.int IntKind.i64 a.1, Value.slice none 0 0] 34)) w2.heap.size 34 #[.int .i64 a.1, .slice none 0 0] := Blk.new _ _ _
      have R0 : Below w.heap.size w (w2.alloc (Obj.cells #[Value.int IntKind.i64 a.1, Value.slice none 0 0] 34)) ∧ Blk (w2.alloc (Obj.cells #[Value.int IntKind.i64 a.1, Value.slice none 0 0] 34)) w.heap.size 26 #[.int .i64 a.1, .slice A a.2.length c] ∧ Blk (w2.alloc (Obj.cells #[Value.int IntKind.i64 a.1, Value.slice none 0 0] 34)) (w.heap.size + 1) 34 #[.int .i64 0, .slice none 0 0] := ⟨bthen B2 (below1 _ _), x0.alloc _, x1.alloc _⟩
      clear x0 x1 q00 q01
      go_loopw [7, 8] (fun i _ wr => ∃ (k : Nat) (A' : Option Addr) (c' : Nat), k ≤ a.2.length ∧ i = .int .i64 k ∧ (ys.take k).all constOk = true ∧ OwnInts wr (w2.heap.size + 1) wr.heap.size (.slice A' (ys.take k).length c') (ys.take k) ∧
          Blk wr w2.heap.size 34 #[.int .i64 a.1, .slice A' (ys.take k).length c'] ∧ (Below w.heap.size w wr ∧ Blk wr w.heap.size 26 #[.int .i64 a.1, .slice A a.2.length c] ∧ Blk wr (w.heap.size + 1) 34 #[.int .i64 0, .slice none 0 0])) (fun i _ _ => a.2.length - (intOf i).toNat)
      case atStart => exact ⟨0, none, 0, Nat.zero_le _, rfl, rfl, zeroI _ _ _, x2, R0⟩
      case round =>
        obtain ⟨k, A', c', hk, rfl, hs, ho, y2, hbe, y0, y1⟩ := hrel
        have hln : (ys.take k).length ≤ k := by simp; omega
        have q00 : wr.cell? ⟨w.heap.size, 0, none⟩ = some (.int .i64 a.1) := y0.cell 0
        have q01 : wr.cell? ⟨w.heap.size, 1, none⟩ = some (.slice A a.2.length c) := y0.cell 1
        by_cases hlt : k < a.2.length
        · have hre := H.out.below hbe (Nat.le_refl _)
          obtain ⟨A3, c3, e3, _, hx⟩ := hre
          injection e3 with e3 _ e4
          subst e3 e4
          obtain ⟨b, o, rfl, hbB, hx⟩ := hx (by omega)
          have hck : wr.cell? ⟨b, o + k, none⟩ = some (.int .i64 a.2[k]) := hx k hlt
          obtain ⟨htk, htl, hth⟩ := HTK.out k hlt
          have T1 := Lib.hid (l3Term_any (.slice A2 bs.length c2) bs a.2[k] w.heap.size wr (H2.out.below hbe (Nat.le_refl _)) HB4.out htk)
          have HS := Lib.hid (HYK.out k hlt)
          clear hx
          obtain ⟨zs, hzs⟩ : ∃ zs, zs = ys.take k := ⟨_, rfl⟩
          rw [← hzs] at ho hln y2 hs
          have HZ := Lib.hid hzs
          clear hzs
          obtain ⟨t, htv⟩ : ∃ t, t = termVal bs a.2[k] := ⟨_, rfl⟩
          rw [← htv] at T1 HS htl hth
          have HTV := Lib.hid htv
          clear htv htk
          have HP := Lib.hid (And.intro ho (And.intro hbe (And.intro y0 (And.intro y1 y2))))
          have c20 : wr.cell? ⟨w2.heap.size, 0, none⟩ = some (.int .i64 a.1) := y2.cell 0
          have c21 : wr.cell? ⟨w2.heap.size, 1, none⟩ = some (.slice A' zs.length c') := y2.cell 1
          have c10 : wr.cell? ⟨w.heap.size + 1, 0, none⟩ = some (.int .i64 0) := y1.cell 0
          have c11 : wr.cell? ⟨w.heap.size + 1, 1, none⟩ = some (.slice none 0 0) := y1.cell 1
          have f10 := y1.frozen 0
          have f11 := y1.frozen 1
          clear ho y0 y1 y2
          by_cases h0 : t < 0
          · have HN := Lib.hid (show ok = false ∧ F = (0, []) by
              have hno : headOk a bs = false := headOk_vals (all_not (k := k) (by simpa using hlt) (by
                have := HTV.out
                simp [constOk]
                omega))
              exact ⟨by rw [HK.out, hno], by rw [HF.out, headOf_no hno]⟩)
            clear hs
            go_wp2_with (go_at_call 27; refine T1.out.mono ?_; rintro e w' ⟨rfl, rfl⟩)
            refine bodyPost_ret (v := .tuple #[.agg #[.int .i64 0, .slice none 0 0], .bool false]) (by simp [results, Try.results8, go_sem, c10, c11]) rfl ?_
            rw [HN.out.1, HN.out.2]
            exact ⟨none, 0, rfl, zeroI _ _ _, (hbe.setCell (by simp) _).setCell (by simp) _⟩
          · have hd0 : decide (t < 0) = false := by simpa using h0
            have HCS := Lib.hid (show (zs ++ [t]).all constOk = true by rw [List.all_append, hs]; simp [constOk]; omega)
            clear hs
            go_wp2_with (first | (go_at_call 27; refine T1.out.mono ?_; rintro e w' ⟨rfl, rfl⟩) | (at_builtin; refine wpList_append_lies _ rfl (.tmp 40) (.tmp 42) 24 rfl (w2.heap.size + 1) 3 i0 (.int .i64 0) 1 8 Try.underlying24 hi0 hz0 hz1 hz2 rfl (by decide) (.slice A' zs.length c') zs.length (zs.map (Value.int .i64)) rfl ?c1 ⟨_, 0, none⟩ 1 1 [.int .i64 t] rfl rfl (news1s _ _ _ _ (by simp)) ?c2 (by omega) (by unfold maxLen; omega) (by omega) ?c3 _ rfl ?_))
            case c1 => exact HP.out.1.1.alloc _
            case c2 => intro u hu; simp at hu; subst hu; rfl
            case c3 => have := HP.out.2.2.2.2.lt; simp; omega
            intro g cap w4 hown hg _ _
            have hgr := grown_from_alloc hg
            obtain ⟨ho, hbe', y0, y1, y2⟩ := HP.out
            have z0 := y0.grown hgr (ho.apart (by omega))
            have z1 := y1.grown hgr (ho.apart (by omega))
            have z2 := y2.grown hgr (ho.apart (by omega))
            have hb4 : Below w.heap.size w w4 := hbe'.trans (Below.grown (Below.refl _ _) hgr hbe'.size (fun j hj => by have := ho.lt hj; omega))
            have z2f := z2.frozen 1
            have z2c : w4.cell? ⟨w2.heap.size, 1, none⟩ = some (.slice A' zs.length c') := z2.cell 1
            have z2s := z2.set_ 1 (.slice (some ⟨g, 0, none⟩) (zs.length + 1) cap)
            have hlen : zs.length + 1 = (zs ++ [t]).length := by simp
            have hoo : OwnInts w4 (w2.heap.size + 1) w4.heap.size (.slice (some ⟨g, 0, none⟩) (zs.length + 1) cap) (zs ++ [t]) := by
              refine ⟨?_, fun b hb' => (hown.lt b hb').2⟩
              rw [← hlen]
              simpa using hown
            have hos := hoo.set (p := ⟨w2.heap.size, 1, none⟩) (.inl (by show w2.heap.size < w2.heap.size + 1; omega)) (.slice (some ⟨g, 0, none⟩) (zs.length + 1) cap)
            have z0s := z0.far (p := ⟨w2.heap.size, 1, none⟩) (by show w.heap.size ≠ w2.heap.size; omega) (.slice (some ⟨g, 0, none⟩) (zs.length + 1) cap)
            have z1s := z1.far (p := ⟨w2.heap.size, 1, none⟩) (by show w.heap.size + 1 ≠ w2.heap.size; omega) (.slice (some ⟨g, 0, none⟩) (zs.length + 1) cap)
            have HQ := Lib.hid (And.intro hos (And.intro z2s (And.intro (hb4.setCell (p := ⟨w2.heap.size, 1, none⟩) (by show w.heap.size ≤ w2.heap.size; omega) (.slice (some ⟨g, 0, none⟩) (zs.length + 1) cap)) (And.intro z0s z1s))))
            have HSE := Lib.hid (show ys.take (k + 1) = zs ++ [t] by rw [HS.out, HZ.out])
            clear hown hg hgr ho hbe' y0 y1 y2 z0 z1 hb4 z2s hlen hoo hos z0s z1s
            go_wp2_with (fail)
            go_roundw
            case rel =>
              obtain ⟨a1, a2, a3, a4, a5⟩ := HQ.out
              refine ⟨k + 1, some ⟨g, 0, none⟩, cap, by omega, by go_num, by rw [HSE.out]; exact HCS.out, ?_, ?_, a3, a4, a5⟩
              · rw [HSE.out]
                simpa using a1
              · rw [HSE.out]
                simpa using a2
            case measure => simp [intOf]; omega
        · have hkn : k = a.2.length := by omega
          have hall : ys.take k = ys := by rw [hkn, ← HYL.out, List.take_length]
          rw [hall] at hs ho y2
          have HN := Lib.hid (show ok = true ∧ F = (a.1, ys) by
            have hyes : headOk a bs = true := headOk_yes HB.out HT.out (by rw [← HY.out]; exact hs)
            exact ⟨by rw [HK.out, hyes], by rw [HF.out, headOf_yes hyes, HY.out]⟩)
          have c20 : wr.cell? ⟨w2.heap.size, 0, none⟩ = some (.int .i64 a.1) := y2.cell 0
          have c21 : wr.cell? ⟨w2.heap.size, 1, none⟩ = some (.slice A' ys.length c') := y2.cell 1
          have c10 : wr.cell? ⟨w.heap.size + 1, 0, none⟩ = some (.int .i64 0) := y1.cell 0
          have c11 : wr.cell? ⟨w.heap.size + 1, 1, none⟩ = some (.slice none 0 0) := y1.cell 1
          have f10 := y1.frozen 0
          have f11 := y1.frozen 1
          have HP := Lib.hid (And.intro ho hbe)
          clear hs hall hkn ho y0 y1 y2
          go_wp2_with (fail)
          refine bodyPost_ret (v := .tuple #[.agg #[.int .i64 a.1, .slice A' ys.length c'], .bool true]) (by simp [results, Try.results8, go_sem, c10, c11]) rfl ?_
          rw [HN.out.1, HN.out.2]
          refine ⟨A', c', rfl, ?_, (HP.out.2.setCell (by simp) _).setCell (by simp) _⟩
          exact ((HP.out.1.set (p := ⟨w.heap.size + 1, 0, none⟩) (.inl (by show w.heap.size + 1 < w2.heap.size + 1; omega)) _).set (p := ⟨w.heap.size + 1, 1, none⟩) (.inl (by show w.heap.size + 1 < w2.heap.size + 1; omega)) _).mono (by omega) (by simp)
    · have ht' : a.2.all termOk = false := by simpa using ht
      have L2 := Lib.hid (fun W (hW : Below w.heap.size w W) => l2Terms_is ht' (.slice A a.2.length c) w.heap.size W (H.out.below hW (Nat.le_refl _)) hr)
      have HN := Lib.hid (show ok = false ∧ F = (0, []) from ⟨by rw [HK.out, headOk_terms ht'], by rw [HF.out, headOf_no (headOk_terms ht')]⟩)
      clear hb ht ht'
      go_enter Try.func8, Try.ntmps8
      go_wp2_with (fail)
      have x0 := X0 26 #[.int .i64 a.1, .slice A a.2.length c] 34 #[.int .i64 0, .slice none 0 0]
      have x1 := X1 (Obj.cells #[.int .i64 a.1, .slice A a.2.length c] 26) 34 #[.int .i64 0, .slice none 0 0]
      obtain ⟨w2, hw2⟩ : ∃ w2, w2 = ((w.alloc (Obj.cells #[Value.int IntKind.i64 a.1, Value.slice A a.2.length c] 26)).alloc (Obj.cells #[Value.int IntKind.i64 0, Value.slice none 0 0] 34)) := ⟨_, rfl⟩
      have B2 : Below w.heap.size w w2 := by rw [hw2]; exact below2 _ _ _
      rw [← hw2] at x0 x1 ⊢
      clear hw2 X0 X1
      have q00 : w2.cell? ⟨w.heap.size, 0, none⟩ = some (.int .i64 a.1) := x0.cell 0
      have q01 : w2.cell? ⟨w.heap.size, 1, none⟩ = some (.slice A a.2.length c) := x0.cell 1
      have c10 : w2.cell? ⟨w.heap.size + 1, 0, none⟩ = some (.int .i64 0) := x1.cell 0
      have c11 : w2.cell? ⟨w.heap.size + 1, 1, none⟩ = some (.slice none 0 0) := x1.cell 1
      have f10 := x1.frozen 0
      have f11 := x1.frozen 1
      refine (L1.out _ B2).mono ?_
      rintro e w' ⟨rfl, rfl⟩
      go_wp2_with (go_at_call 26; refine (L2.out _ B2).mono ?_; rintro e w' ⟨rfl, rfl⟩)
      refine bodyPost_ret (v := .tuple #[.agg #[.int .i64 0, .slice none 0 0], .bool false]) (by simp [results, Try.results8, go_sem, c10, c11]) rfl ?_
      rw [HN.out.1, HN.out.2]
      exact ⟨none, 0, rfl, zeroI _ _ _, (B2.setCell (by simp) _).setCell (by simp) _⟩
  · have hb' : bindOk bs = false := by simpa using hb
    have L1 := Lib.hid (fun W (hW : Below w.heap.size w W) => l3Bind_is hb' (.slice A2 bs.length c2) w.heap.size W (H2.out.below hW (Nat.le_refl _)) hr2)
    have HN := Lib.hid (show ok = false ∧ F = (0, []) from ⟨by rw [HK.out, headOk_bind hb'], by rw [HF.out, headOf_no (headOk_bind hb')]⟩)
    clear hb hb'
    go_enter Try.func8, Try.ntmps8
    go_wp2_with (fail)
    have x1 := X1 (Obj.cells #[.int .i64 a.1, .slice A a.2.length c] 26) 34 #[.int .i64 0, .slice none 0 0]
    obtain ⟨w2, hw2⟩ : ∃ w2, w2 = ((w.alloc (Obj.cells #[Value.int IntKind.i64 a.1, Value.slice A a.2.length c] 26)).alloc (Obj.cells #[Value.int IntKind.i64 0, Value.slice none 0 0] 34)) := ⟨_, rfl⟩
    have B2 : Below w.heap.size w w2 := by rw [hw2]; exact below2 _ _ _
    rw [← hw2] at x1 ⊢
    clear hw2 X0 X1
    have c10 : w2.cell? ⟨w.heap.size + 1, 0, none⟩ = some (.int .i64 0) := x1.cell 0
    have c11 : w2.cell? ⟨w.heap.size + 1, 1, none⟩ = some (.slice none 0 0) := x1.cell 1
    have f10 := x1.frozen 0
    have f11 := x1.frozen 1
    refine (L1.out _ B2).mono ?_
    rintro e w' ⟨rfl, rfl⟩
    go_wp2_with (fail)
    refine bodyPost_ret (v := .tuple #[.agg #[.int .i64 0, .slice none 0 0], .bool false]) (by simp [results, Try.results8, go_sem, c10, c11]) rfl ?_
    rw [HN.out.1, HN.out.2]
    exact ⟨none, 0, rfl, zeroI _ _ _, (B2.setCell (by simp) _).setCell (by simp) _⟩

end Go.Proofs.Ytofkcmihcgmmpaa
