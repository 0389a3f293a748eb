/-
  The walk of the program's FactsWith.
-/
import Derived.Test.YtacfcobfkklnoaaSpecWith
namespace Go.Proofs.Ytacfcobfkklnoaa
open Go.RowKit

theorem ColRel.room (w : World) (cs : Array Value) (n : Nat) (hs : cs.size = n * 2) (hm : n ≤ maxLen) : ColRel w (w.alloc (.cells cs 25)) [] (some ⟨w.heap.size, 0, none⟩) n [] :=
  ⟨below1 _ _, ⟨.nil, World.ownsRow_made w cs n (Nat.le_refl _) hm hs, fun g hg => by simp [Value.ownBlock] at hg; subst hg; simp⟩⟩

set_option maxHeartbeats 2000000 in
set_option maxRecDepth 100000 in
theorem implFactsWith_any (v v2 : Value) (fs : List LFact) (f : LFact) (w : World) (h : RdFacts w w.heap.size v fs) (h2 : RdFact w w.heap.size v2 f) (hn : fs.length ≤ 1048576) (ht : tot fs ≤ 1048576) (hf : f.2.length ≤ 1048576) :
    Calls Try.prog 40 #[v, v2] w fun e w' => ∃ A' c', e = .returned (.slice A' (factsWith fs f).length c') ∧ OwnFacts w' w.heap.size w'.heap.size (.slice A' (factsWith fs f).length c') (factsWith fs f) ∧ Below w.heap.size w w' := by
  have H := Lib.hid h
  have H2 := Lib.hid h2
  obtain ⟨A, c, rfl, hc, _⟩ := h
  obtain ⟨a, rfl, A2, c2, rfl, hc2, _⟩ := h2
  obtain ⟨i0, hi0, hz0, hz1, hz2⟩ := info_parts Try.infoFact
  have hmk : ∀ W : World, (Instr.makeSlice 31 (.int .i64 0) (.int .i64 ((fs.length : Int) + 1))).run Try.prog W = .ok (.slice (some ⟨W.heap.size, 0, none⟩) 0 (fs.length + 1)) (W.alloc (.cells (madeCells #[.int .i64 0, .slice none 0 0] ((fs.length + 1) * 2)) 25)) := fun W => by
    have := run_make_rowN (P := Try.prog) 31 25 i0 (.agg #[.int .i64 0, .slice none 0 0]) Try.underlying31 hi0 hz0 .i64 .i64 0 (fs.length + 1) (Nat.zero_le _) (by rw [hz2]; omega) (by omega) W
    rw [hz1] at this
    simpa [Value.cells] using this
  go_enter Try.func40, Try.ntmps40
  go_wp2_with (fail)
  obtain ⟨w1, hw1⟩ : ∃ w1, w1 = (w.alloc (Obj.cells #[Value.int IntKind.i64 f.1, Value.slice A2 f.2.length c2] 25)) := ⟨_, rfl⟩
  have B1 : Below w.heap.size w w1 := by rw [hw1]; exact below1 _ _
  have k0 : Blk w1 w.heap.size 25 #[.int .i64 f.1, .slice A2 f.2.length c2] := by rw [hw1]; exact Blk.new w _ _
  have hzz : w.heap.size + 1 = w1.heap.size := by rw [hw1]; simp
  rw [← hw1]
  clear hw1
  simp only [hzz]
  have HZ := Lib.hid hzz
  clear hzz hmk
  go_loopw [5, 6, 8, 9, 16] (fun o p _ _ i wr => ∃ (k : Nat) (st : List LFact × Bool) (A' : Option Addr) (c' : Nat) (av : List Value), k ≤ fs.length ∧ i = .int .i64 k ∧ p = .bool st.2 ∧ o = .slice A' st.1.length c' ∧ WithRel w1 wr fs f k st A' c' av) (fun _ _ _ _ i _ => fs.length - (intOf i).toNat)
  case atStart => exact ⟨0, ([], false), _, _, [], Nat.zero_le _, rfl, rfl, rfl, ColRel.room w1 _ (fs.length + 1) (size_madeCells _ _) (by unfold maxLen; omega), rfl⟩
  case round =>
    obtain ⟨k, ⟨gs, pb⟩, A', c', av, hk, rfl, rfl, rfl, hcol, hst⟩ := hrel
    have hbd := withTo_bound fs f k hk
    rw [← hst] at hbd
    have hgl : gs.length ≤ 2097152 := by have := hbd.1; simp only at this; split at this <;> omega
    clear hbd
    have HST := Lib.hid hst
    clear hst
    by_cases hlt : k < fs.length
    · obtain ⟨b, o, A3, c3, rfl, hbB, k1, k2, k3⟩ := H.out.get hlt
      have hln := len_le_tot fs k hlt
      have K3 := Lib.hid (show RdFact w w.heap.size (.agg #[.int .i64 fs[k].1, .slice A3 fs[k].2.length c3]) fs[k] from ⟨_, rfl, k3⟩)
      have hB := bthen B1 hcol.below
      have m1 : wr.cell? ⟨b, o + k * 2, none⟩ = some (.int .i64 fs[k].1) := (hB.cell (p := ⟨b, o + k * 2, none⟩) hbB).trans k1
      have m2 : wr.cell? ⟨b, o + k * 2 + 1, none⟩ = some (.slice A3 fs[k].2.length c3) := (hB.cell (p := ⟨b, o + k * 2 + 1, none⟩) hbB).trans k2
      have n1 : ∀ O, (wr.alloc O).cell? ⟨w.heap.size, 0, none⟩ = some (.int .i64 f.1) := fun O => (((k0.below hcol.below k0.lt).alloc O).cell 0)
      have n2 : ∀ O, (wr.alloc O).cell? ⟨w.heap.size, 1, none⟩ = some (.slice A2 f.2.length c2) := fun O => (((k0.below hcol.below k0.lt).alloc O).cell 1)
      obtain ⟨q, hq⟩ : ∃ q, q = factOrder f fs[k] := ⟨_, rfl⟩
      have HQ := Lib.hid hq
      have hlt0 := hcol.own.lt
      have HL := Lib.hid hlt0
      have HC := Lib.hid hcol
      clear hcol k1 k2 k3 hlt0 hq
      go_wp2_with (fail)
      refine (implFactOrder_any _ _ f fs[k] _ (H2.out.on (bthen hB (below1 _ _))) (K3.out.on (bthen hB (below1 _ _))) hf (by omega)).mono ?_
      rw [← HQ.out]
      rintro e w2 ⟨rfl, hb2⟩
      have x2 : Blk w2 wr.heap.size 25 #[.int .i64 fs[k].1, .slice A3 fs[k].2.length c3] := (Blk.new wr _ _).below hb2 (by simp)
      have hwr2 := bthen (below1 _ _) hb2
      have HC2 := Lib.hid (HC.out.on hwr2)
      have P2 := HC2.out.below
      have hB2 := bthen B1 P2
      clear m1 m2 n1 n2
      have n1 : w2.cell? ⟨w.heap.size, 0, none⟩ = some (.int .i64 f.1) := (k0.below P2 k0.lt).cell 0
      have n2 : w2.cell? ⟨w.heap.size, 1, none⟩ = some (.slice A2 f.2.length c2) := (k0.below P2 k0.lt).cell 1
      have m1 : w2.cell? ⟨wr.heap.size, 0, none⟩ = some (.int .i64 fs[k].1) := x2.cell 0
      have m2 : w2.cell? ⟨wr.heap.size, 1, none⟩ = some (.slice A3 fs[k].2.length c3) := x2.cell 1
      cases pb with
      | true =>
        by_cases hq0 : q = 0
        · have t1 : (q != 0) = false := by simp [hq0]
          have HS := Lib.hid (show ((gs, true) : List LFact × Bool) = withStep f (gs, true) fs[k] by simp [withStep, ← HQ.out, hq0])
          clear hq0
          go_wp2_with (fail)
          go_roundw
          case rel => exact ⟨k + 1, (gs, true), _, _, _, by omega, by go_num, rfl, rfl, ⟨HC2.out, With.next HST.out hlt HS.out⟩⟩
          case measure => simp [intOf]; omega
        · have t1 : (q != 0) = true := by simp [hq0]
          have HS := Lib.hid (show ((gs ++ [fs[k]], true) : List LFact × Bool) = withStep f (gs, true) fs[k] by simp [withStep, ← HQ.out, hq0])
          clear hq0
          go_wp2_with (fail)
          refine (copyFact_any _ fs[k] _ (K3.out.on hB2) (by omega)).mono ?_
          rintro e w3 ⟨A4, c4, rfl, ho4, hb4⟩
          go_wp2_with (at_builtin; refine wpList_push rfl (.tmp 36) (.tmp 39) rfl HC2.out hb4 ho4 rfl rfl rfl (by omega) ?_; intro g4 cap4 w4 av4 hcol4 hgr4; have HC4 := Lib.hid hcol4; clear hcol4 hgr4)
          go_roundw
          case rel => exact ⟨k + 1, (gs ++ [fs[k]], true), _, _, _, by omega, by go_num, rfl, by simp, ⟨HC4.out, With.next HST.out hlt HS.out⟩⟩
          case measure => simp [intOf]; omega
      | false =>
        rcases Int.lt_trichotomy q 0 with hq0 | hq0 | hq0
        · have t1 : (q != 0) = true := by simp; omega
          have t2 : decide (q ≤ 0) = true := by simp; omega
          have HS := Lib.hid (show (((gs ++ [f]) ++ [fs[k]], true) : List LFact × Bool) = withStep f (gs, false) fs[k] by
            have e1 : q ≠ 0 := by omega
            have e2 : q ≤ 0 := by omega
            simp [withStep, ← HQ.out, e1, e2])
          clear hq0
          go_wp2_with (fail)
          refine (copyFact_any _ f _ (H2.out.on hB2) (by omega)).mono ?_
          rintro e w3 ⟨A4, c4, rfl, ho4, hb4⟩
          have x3 := x2.below hb4 x2.lt
          clear m1 m2
          go_wp2_with (at_builtin; refine wpList_push rfl (.tmp 29) (.tmp 32) rfl HC2.out hb4 ho4 rfl rfl rfl (by omega) ?_; intro g4 cap4 w4 av4 hcol4 hgr4; have x4 : Blk w4 wr.heap.size 25 #[.int .i64 fs[k].1, .slice A3 fs[k].2.length c3] := (hgr4.block _ x3.lt (fun e => Nat.lt_irrefl _ (HL.out _ e.symm))).trans x3; have m3 : w4.cell? ⟨wr.heap.size, 0, none⟩ = some (.int .i64 fs[k].1) := x4.cell 0; have m4 : w4.cell? ⟨wr.heap.size, 1, none⟩ = some (.slice A3 fs[k].2.length c3) := x4.cell 1; have HC4 := Lib.hid hcol4; clear hcol4 hgr4)
          refine (copyFact_any _ fs[k] _ (K3.out.on (bthen B1 HC4.out.below)) (by omega)).mono ?_
          rintro e w5 ⟨A6, c6, rfl, ho6, hb6⟩
          go_wp2_with (at_builtin; refine wpList_push rfl (.tmp 36) (.tmp 39) rfl HC4.out hb6 ho6 (by simp) rfl rfl (by simp; omega) ?_; intro g6 cap6 w6 av6 hcol6 hgr6; have HC6 := Lib.hid hcol6; clear hcol6 hgr6)
          go_roundw
          case rel => exact ⟨k + 1, ((gs ++ [f]) ++ [fs[k]], true), _, _, _, by omega, by go_num, rfl, by simp, ⟨HC6.out, With.next HST.out hlt HS.out⟩⟩
          case measure => simp [intOf]; omega
        · have t1 : (q != 0) = false := by simp [hq0]
          have t2 : decide (q ≤ 0) = true := by simp; omega
          have HS := Lib.hid (show ((gs ++ [f], true) : List LFact × Bool) = withStep f (gs, false) fs[k] by simp [withStep, ← HQ.out, hq0])
          clear hq0
          go_wp2_with (fail)
          refine (copyFact_any _ f _ (H2.out.on hB2) (by omega)).mono ?_
          rintro e w3 ⟨A4, c4, rfl, ho4, hb4⟩
          go_wp2_with (at_builtin; refine wpList_push rfl (.tmp 29) (.tmp 32) rfl HC2.out hb4 ho4 rfl rfl rfl (by omega) ?_; intro g4 cap4 w4 av4 hcol4 hgr4; have HC4 := Lib.hid hcol4; clear hcol4 hgr4)
          go_roundw
          case rel => exact ⟨k + 1, (gs ++ [f], true), _, _, _, by omega, by go_num, rfl, by simp, ⟨HC4.out, With.next HST.out hlt HS.out⟩⟩
          case measure => simp [intOf]; omega
        · have t1 : (q != 0) = true := by simp; omega
          have t2 : decide (q ≤ 0) = false := by simp; omega
          have HS := Lib.hid (show ((gs ++ [fs[k]], false) : List LFact × Bool) = withStep f (gs, false) fs[k] by
            have e1 : q ≠ 0 := by omega
            have e2 : ¬ q ≤ 0 := by omega
            simp [withStep, ← HQ.out, e1, e2])
          clear hq0
          go_wp2_with (fail)
          refine (copyFact_any _ fs[k] _ (K3.out.on hB2) (by omega)).mono ?_
          rintro e w3 ⟨A4, c4, rfl, ho4, hb4⟩
          go_wp2_with (at_builtin; refine wpList_push rfl (.tmp 36) (.tmp 39) rfl HC2.out hb4 ho4 rfl rfl rfl (by omega) ?_; intro g4 cap4 w4 av4 hcol4 hgr4; have HC4 := Lib.hid hcol4; clear hcol4 hgr4)
          go_roundw
          case rel => exact ⟨k + 1, (gs ++ [fs[k]], false), _, _, _, by omega, by go_num, rfl, by simp, ⟨HC4.out, With.next HST.out hlt HS.out⟩⟩
          case measure => simp [intOf]; omega
    · have hkn : fs.length = k := by omega
      have HB := Lib.hid (bthen B1 hcol.below)
      have hz1 : w.heap.size ≤ w1.heap.size := B1.size
      have n1 : wr.cell? ⟨w.heap.size, 0, none⟩ = some (.int .i64 f.1) := (k0.below hcol.below k0.lt).cell 0
      have n2 : wr.cell? ⟨w.heap.size, 1, none⟩ = some (.slice A2 f.2.length c2) := (k0.below hcol.below k0.lt).cell 1
      have HC := Lib.hid hcol
      cases pb with
      | true =>
        have HE := Lib.hid (show factsWith fs f = gs by unfold factsWith; rw [hkn, ← HST.out]; rfl)
        clear hcol hkn
        go_wp2_with (fail)
        go_ret
        rw [HE.out]
        exact ⟨_, _, rfl, HC.out.own.own.mono hz1 (Nat.le_refl _), HB.out⟩
      | false =>
        have HE := Lib.hid (show factsWith fs f = gs ++ [f] by unfold factsWith; rw [hkn, ← HST.out]; rfl)
        clear hcol hkn
        go_wp2_with (fail)
        refine (copyFact_any _ f _ (H2.out.on HB.out) (by omega)).mono ?_
        rintro e w3 ⟨A4, c4, rfl, ho4, hb4⟩
        go_wp2_with (at_builtin; refine wpList_push rfl (.tmp 44) (.tmp 47) rfl HC.out hb4 ho4 rfl rfl rfl (by omega) ?_; intro g4 cap4 w4 av4 hcol4 hgr4; have HC4 := Lib.hid hcol4; clear hcol4 hgr4)
        go_ret
        rw [HE.out]
        exact ⟨some ⟨g4, 0, none⟩, cap4, by simp, HC4.out.own.own.mono hz1 (Nat.le_refl _), bthen B1 HC4.out.below⟩

end Go.Proofs.Ytacfcobfkklnoaa
