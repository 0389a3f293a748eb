/-
  The specification's renaming: the walk of Renamed.
-/
import Derived.Test.YtgacdehbdhhbnaaRenRule
namespace Go.Proofs.Ytgacdehbdhhbnaa
open Go.RowKit

theorem makeI4 (w : World) : (Instr.makeSlice 23 (.int .i64 4) (.int .i64 4)).run Try.prog w = .ok (.slice (some ⟨w.heap.size, 0, none⟩) 4 4) (w.alloc (.cells #[.int .i64 0, .int .i64 0, .int .i64 0, .int .i64 0] 3)) := by
  have h := run_make_row' (P := Try.prog) 23 3 (.int .i64 0) 8 Try.underlying23 Try.infoInt rfl .i64 .i64 4 (by omega) (by omega) w
  have e : madeCells #[Value.int IntKind.i64 0] 4 = #[.int .i64 0, .int .i64 0, .int .i64 0, .int .i64 0] := by
    rw [← Array.toList_inj]
    simp [madeCells, Array.toList_range, List.range_succ]
  rw [e] at h
  exact h

set_option maxHeartbeats 1000000 in
set_option maxRecDepth 100000 in
theorem specRenamed_any (v : Value) (r : LRule) (w : World) (h : RdRule w w.heap.size v r) (hr : szR r ≤ 1048576) :
    Calls Try.prog 53 #[v] w fun e w' => ∃ A c A2 c2, e = .returned (.agg #[.int .i64 (renamed r).1.1, .slice A (renamed r).1.2.length c, .slice A2 (renamed r).2.length c2]) ∧
      OwnInts w' w.heap.size w'.heap.size (.slice A (renamed r).1.2.length c) (renamed r).1.2 ∧ OwnLits w' w.heap.size w'.heap.size (.slice A2 (renamed r).2.length c2) (renamed r).2 ∧ Below w.heap.size w w' := by
  have hmk := makeI4
  obtain ⟨a, b, rfl, h, h2⟩ := h
  have hsz := hr
  unfold szR at hr
  have H := Lib.hid h
  have H2 := Lib.hid h2
  obtain ⟨A, c, rfl, hc, _⟩ := h
  obtain ⟨A2, c2, rfl, hcc, _⟩ := h2
  go_enter Try.func53, Try.ntmps53
  go_wp2_with (fail)
  obtain ⟨w1, hw1⟩ : ∃ w1, w1 = ((w.alloc (Obj.cells #[Value.int IntKind.i64 r.1.1, Value.slice A r.1.2.length c, Value.slice A2 r.2.length c2] 63)).alloc (Obj.cells #[Value.int IntKind.i64 0, Value.slice none 0 0, Value.slice none 0 0] 63)).alloc (Obj.cells #[.int .i64 0, .int .i64 0, .int .i64 0, .int .i64 0] 3) := ⟨_, rfl⟩
  have B1 : Below w.heap.size w w1 := by rw [hw1]; exact below3 _ _ _ _
  have s1 : w.heap.size + 3 = w1.heap.size := by rw [hw1]; simp
  have x1 : Blk w1 w.heap.size 63 #[.int .i64 r.1.1, .slice A r.1.2.length c, .slice A2 r.2.length c2] := by rw [hw1]; exact ((Blk.new w _ _).alloc _).alloc _
  have y1 : Blk w1 (w.heap.size + 1) 63 #[.int .i64 0, .slice none 0 0, .slice none 0 0] := by
    rw [hw1]
    have := (Blk.new (w.alloc (Obj.cells #[Value.int IntKind.i64 r.1.1, Value.slice A r.1.2.length c, Value.slice A2 r.2.length c2] 63)) 63 #[.int .i64 0, .slice none 0 0, .slice none 0 0]).alloc (Obj.cells #[.int .i64 0, .int .i64 0, .int .i64 0, .int .i64 0] 3)
    simpa using this
  have t1 : ToAt w1 (w.heap.size + 1 + 1) ren0 := by
    rw [hw1]
    have := Blk.new ((w.alloc (Obj.cells #[Value.int IntKind.i64 r.1.1, Value.slice A r.1.2.length c, Value.slice A2 r.2.length c2] 63)).alloc (Obj.cells #[Value.int IntKind.i64 0, Value.slice none 0 0, Value.slice none 0 0] 63)) 3 #[.int .i64 0, .int .i64 0, .int .i64 0, .int .i64 0]
    exact ⟨0, 0, 0, 0, rfl, by simpa using this⟩
  rw [← hw1]
  clear hw1
  have S1 := Lib.hid s1
  clear s1
  have q1 : w1.cell? ⟨w.heap.size, 1, none⟩ = some (.slice A r.1.2.length c) := x1.cell 1
  have q2 : w1.cell? ⟨w.heap.size, 2, none⟩ = some (.slice A2 r.2.length c2) := x1.cell 2
  have k0 : w1.cell? ⟨w.heap.size + 1, 0, none⟩ = some (.int .i64 0) := y1.cell 0
  have k1 : w1.cell? ⟨w.heap.size + 1, 1, none⟩ = some (.slice none 0 0) := y1.cell 1
  have k2 : w1.cell? ⟨w.heap.size + 1, 2, none⟩ = some (.slice none 0 0) := y1.cell 2
  have j0 := y1.frozen 0
  have j1 := y1.frozen 1
  have j2 := y1.frozen 2
  cases hh : r.1.2.all termOk
  · have hno : termsOk r = false := by unfold termsOk; rw [hh, Bool.and_false]
    have HNO := Lib.hid (renamed_no hno)
    have HH := Lib.hid hh
    clear hh hno
    refine (l2Terms_any _ r.1.2 _ _ (H.out.on B1) (by omega)).mono ?_
    rw [HH.out]
    rintro e w' ⟨rfl, rfl⟩
    have BW : Below w.heap.size w (((w1.setCell ⟨w.heap.size + 1, 0, none⟩ (.int .i64 0)).setCell ⟨w.heap.size + 1, 1, none⟩ (.slice none 0 0)).setCell ⟨w.heap.size + 1, 2, none⟩ (.slice none 0 0)) := (((B1.setCell (by simp) _).setCell (by simp) _).setCell (by simp) _)
    have HY := y1.set3 (.int .i64 0) (.slice none 0 0) (.slice none 0 0)
    go_wp2_with (fail)
    generalize (((w1.setCell ⟨w.heap.size + 1, 0, none⟩ (.int .i64 0)).setCell ⟨w.heap.size + 1, 1, none⟩ (.slice none 0 0)).setCell ⟨w.heap.size + 1, 2, none⟩ (.slice none 0 0)) = W at BW HY ⊢
    have d0 : W.cell? ⟨w.heap.size + 1, 0, none⟩ = some (.int .i64 0) := HY.cell 0
    have d1 : W.cell? ⟨w.heap.size + 1, 1, none⟩ = some (.slice none 0 0) := HY.cell 1
    have d2 : W.cell? ⟨w.heap.size + 1, 2, none⟩ = some (.slice none 0 0) := HY.cell 2
    refine bodyPost_ret (v := .agg #[.int .i64 0, .slice none 0 0, .slice none 0 0]) (by simp [results, Try.results53, go_sem, d0, d1, d2]) rfl ?_
    rw [HNO.out]
    exact ⟨none, 0, none, 0, rfl, ⟨World.ownsRow_nil _ _ _ _, fun g hg => by cases hg⟩, ⟨none, 0, rfl, Nat.le_refl _, fun hn => absurd hn (by simp)⟩, BW⟩
  · have HH := Lib.hid hh
    clear hh
    refine (l2Terms_any _ r.1.2 _ _ (H.out.on B1) (by omega)).mono ?_
    rw [HH.out]
    rintro e w' ⟨rfl, rfl⟩
    go_wp2_with (fail)
    go_loopw [4] (fun i wr => ∃ k : Nat, k ≤ r.2.length ∧ i = .int .i64 k ∧ AllTo (fun l : LLit => l.2.2.all termOk) r.2 k ∧ wr = w1) (fun i _ => r.2.length - (intOf i).toNat)
    case atStart => exact ⟨0, Nat.zero_le _, rfl, AllTo.start, rfl⟩
    case round =>
      obtain ⟨k, hk, rfl, hs, rfl⟩ := hrel
      by_cases hlt : k < r.2.length
      · obtain ⟨b, o, u0, u1, u2, rfl, hbB, p0, p1, p2, rfl, rfl, p3⟩ := (H2.out.on B1).get hlt
        have HA := Lib.hid p3
        obtain ⟨A3, c3, rfl, hc3, _⟩ := p3
        have hle := len_le_totL r.2 k hlt
        cases ht : r.2[k].2.2.all termOk
        · have hno : termsOk r = false := by
            have : (r.2.all fun l => l.2.2.all termOk) = false := by
              rw [List.all_eq_false]
              exact ⟨r.2[k], List.getElem_mem _, by rw [ht]; decide⟩
            unfold termsOk
            rw [this]
            rfl
          have HNO := Lib.hid (renamed_no hno)
          have HT := Lib.hid ht
          clear hs ht hno
          have BW : Below w.heap.size w (((wr.setCell ⟨w.heap.size + 1, 0, none⟩ (.int .i64 0)).setCell ⟨w.heap.size + 1, 1, none⟩ (.slice none 0 0)).setCell ⟨w.heap.size + 1, 2, none⟩ (.slice none 0 0)) := (((B1.setCell (by simp) _).setCell (by simp) _).setCell (by simp) _)
          have HY := y1.set3 (.int .i64 0) (.slice none 0 0) (.slice none 0 0)
          go_wp2_with (go_at_call 73; refine (l2Terms_any _ r.2[k].2.2 _ _ HA.out (by omega)).mono ?_; rw [HT.out]; rintro e w' ⟨rfl, rfl⟩)
          generalize (((wr.setCell ⟨w.heap.size + 1, 0, none⟩ (.int .i64 0)).setCell ⟨w.heap.size + 1, 1, none⟩ (.slice none 0 0)).setCell ⟨w.heap.size + 1, 2, none⟩ (.slice none 0 0)) = W at BW HY ⊢
          have d0 : W.cell? ⟨w.heap.size + 1, 0, none⟩ = some (.int .i64 0) := HY.cell 0
          have d1 : W.cell? ⟨w.heap.size + 1, 1, none⟩ = some (.slice none 0 0) := HY.cell 1
          have d2 : W.cell? ⟨w.heap.size + 1, 2, none⟩ = some (.slice none 0 0) := HY.cell 2
          refine bodyPost_ret (v := .agg #[.int .i64 0, .slice none 0 0, .slice none 0 0]) (by simp [results, Try.results53, go_sem, d0, d1, d2]) rfl ?_
          rw [HNO.out]
          exact ⟨none, 0, none, 0, rfl, ⟨World.ownsRow_nil _ _ _ _, fun g hg => by cases hg⟩, ⟨none, 0, rfl, Nat.le_refl _, fun hn => absurd hn (by simp)⟩, BW⟩
        · have HS := Lib.hid (hs.step hlt ht)
          have HT := Lib.hid ht
          clear hs ht
          go_wp2_with (go_at_call 73; refine (l2Terms_any _ r.2[k].2.2 _ _ HA.out (by omega)).mono ?_; rw [HT.out]; rintro e w' ⟨rfl, rfl⟩)
          go_roundw
          case rel => exact ⟨k + 1, by omega, by go_num, HS.out, trivial⟩
          case measure => simp [intOf]; omega
      · have hyes : termsOk r = true := by
          have : (r.2.all fun l => l.2.2.all termOk) = true := AllTo.done hs (by omega)
          unfold termsOk
          rw [this, HH.out]
          rfl
        have HYES := Lib.hid hyes
        clear hs hyes
        go_wp2_with (fail)
        refine (l2Number_any (w.heap.size + 1 + 1) ren0 _ r.1.2 _ t1 ((H.out.below B1 (Nat.le_refl _)).more (by omega)) (by omega) (by decide) HH.out).mono ?_
        rintro e w2 ⟨rfl, t2, on2⟩
        have B2 := Only.then_ B1 on2 (by omega)
        have x2 := x1.only on2 (.inl (by omega))
        have y2 := y1.only on2 (.inl (by omega))
        have HC := Lib.hid (renList_big r.1.2 ren0)
        clear q1 q2 k0 k1 k2
        go_wp2_with (fail)
        go_loopw [5, 6] (fun m i wr => ∃ k : Nat, k ≤ r.2.length ∧ i = .int .i64 k ∧ m = .int .i64 ((renBody (renList ren0 r.1.2) (r.2.take k)).2 : Int) ∧ ToAt wr (w.heap.size + 1 + 1) (renBody (renList ren0 r.1.2) (r.2.take k)) ∧ Only (w.heap.size + 1 + 1) (w.heap.size + 1 + 1 + 1) w2 wr) (fun _ i _ => r.2.length - (intOf i).toNat)
        case atStart => exact ⟨0, Nat.zero_le _, rfl, rfl, t2, Only.refl _ _ _⟩
        case round =>
          obtain ⟨k, hk, rfl, rfl, ht, hon⟩ := hrel
          have BW := Only.then_ B2 hon (by omega)
          have xr := x2.only hon (.inl (by omega))
          have yr := y2.only hon (.inl (by omega))
          have q2 : wr.cell? ⟨w.heap.size, 2, none⟩ = some (.slice A2 r.2.length c2) := xr.cell 2
          have hgw := ht.lt
          by_cases hlt : k < r.2.length
          · obtain ⟨b, o, u0, u1, u2, rfl, hbB, p0, p1, p2, rfl, rfl, p3⟩ := (H2.out.below BW (Nat.le_refl _)).get hlt
            have HA := Lib.hid p3
            obtain ⟨A3, c3, rfl, hc3, _⟩ := p3
            have hle := len_le_totL r.2 k hlt
            have hcn := renBody_count (r.2.take k) (renList ren0 r.1.2)
            have htk := totL_take_le r.2 k
            have hcn0 := HC.out
            have hcn1 : (renBody (renList ren0 r.1.2) (r.2.take k)).2 ≤ 4611686014132420000 := by
              have : ren0.2 = 0 := rfl
              omega
            have hokk := HYES.out
            unfold termsOk at hokk
            simp only [Bool.and_eq_true] at hokk
            have HO3 := Lib.hid (List.all_eq_true.1 hokk.1 _ (List.getElem_mem hlt))
            have HTT := Lib.hid ht
            have HST := Lib.hid (renBody_take (renList ren0 r.1.2) hlt)
            have HON := Lib.hid hon
            clear hokk hcn htk hcn0 ht hon
            go_wp2_with (fail)
            refine (l2Number_any (w.heap.size + 1 + 1) _ _ r.2[k].2.2 _ HTT.out (HA.out.more (by omega)) (by omega) hcn1 HO3.out).mono ?_
            rintro e w4 ⟨rfl, t4, on4⟩
            rw [← HST.out] at t4 ⊢
            go_wp2_with (fail)
            go_roundw
            case rel => exact ⟨k + 1, by omega, by go_num, rfl, t4, HON.out.trans on4⟩
            case measure => simp [intOf]; omega
          · have hkn : k = r.2.length := by omega
            have HTT := Lib.hid (show ToAt wr (w.heap.size + 1 + 1) (renRule r) by rw [hkn, List.take_length] at ht; exact ht)
            have q0 : wr.cell? ⟨w.heap.size, 0, none⟩ = some (.int .i64 r.1.1) := xr.cell 0
            have q1 : wr.cell? ⟨w.heap.size, 1, none⟩ = some (.slice A r.1.2.length c) := xr.cell 1
            clear hkn ht
            go_wp2_with (fail)
            refine (l2Rule_any (renRule r) (w.heap.size + 1 + 1) _ r _ HTT.out ⟨_, _, rfl, H.out.on BW, H2.out.on BW⟩ hsz HYES.out).mono ?_
            rintro e w5 ⟨A5, c5, A6, c6, rfl, ho5, hl5, hb5⟩
            have B5 := bthen BW hb5
            have y5 := yr.below hb5 yr.lt
            have sr : w.heap.size + 2 ≤ wr.heap.size := by omega
            obtain ⟨W, hW⟩ : ∃ W, W = ((w5.setCell ⟨w.heap.size + 1, 0, none⟩ (.int .i64 r.1.1)).setCell ⟨w.heap.size + 1, 1, none⟩ (.slice A5 r.1.2.length c5)).setCell ⟨w.heap.size + 1, 2, none⟩ (.slice A6 r.2.length c6) := ⟨_, rfl⟩
            have HY := Lib.hid (show Blk W (w.heap.size + 1) 63 #[.int .i64 r.1.1, .slice A5 r.1.2.length c5, .slice A6 r.2.length c6] by rw [hW]; exact y5.set3 _ _ _)
            have BWW : Below w.heap.size w W := by
              rw [hW]
              exact (((B5.setCell (by simp) _).setCell (by simp) _).setCell (by simp) _)
            have hsW : W.heap.size = w5.heap.size := by rw [hW]; simp
            have hOW : OwnInts W wr.heap.size w5.heap.size (.slice A5 r.1.2.length c5) (r.1.2.map (look (renRule r))) := by
              rw [hW]
              exact ho5.set3 (by omega) _ _ _
            have hLW : OwnLits W wr.heap.size w5.heap.size (.slice A6 r.2.length c6) (r.2.map (lookLit (renRule r))) := by
              rw [hW]
              exact ((hl5.far (p := ⟨w.heap.size + 1, 0, none⟩) (by simp; omega) _).far (p := ⟨w.heap.size + 1, 1, none⟩) (by simp; omega) _).far (p := ⟨w.heap.size + 1, 2, none⟩) (by simp; omega) _
            have hren : renamed r = ((r.1.1, r.1.2.map (look (renRule r))), r.2.map (lookLit (renRule r))) := by unfold renamed; rw [if_pos HYES.out]
            have HF := Lib.hid (show ∃ A c A2 c2, (.agg #[.int .i64 r.1.1, .slice A5 r.1.2.length c5, .slice A6 r.2.length c6] : Value) = (.agg #[.int .i64 (renamed r).1.1, .slice A (renamed r).1.2.length c, .slice A2 (renamed r).2.length c2]) ∧
                OwnInts W w.heap.size W.heap.size (.slice A (renamed r).1.2.length c) (renamed r).1.2 ∧ OwnLits W w.heap.size W.heap.size (.slice A2 (renamed r).2.length c2) (renamed r).2 ∧ Below w.heap.size w W from by
              rw [hren]
              refine ⟨A5, c5, A6, c6, by simp, ?_, ?_, BWW⟩
              · simp only [List.length_map]
                exact hOW.mono (by omega) (by omega)
              · simp only [List.length_map]
                exact hLW.mono (by omega) (by omega))
            have HWW := Lib.hid hW
            have z0 : w5.cell? ⟨w.heap.size + 1, 0, none⟩ = some (.int .i64 0) := y5.cell 0
            have z1 : w5.cell? ⟨w.heap.size + 1, 1, none⟩ = some (.slice none 0 0) := y5.cell 1
            have z2 : w5.cell? ⟨w.heap.size + 1, 2, none⟩ = some (.slice none 0 0) := y5.cell 2
            have g0 := y5.frozen 0
            have g1 := y5.frozen 1
            have g2 := y5.frozen 2
            clear hW hren hLW hOW hsW BWW ho5 hl5 q0 q1 q2
            go_wp2_with (fail)
            rw [← HWW.out]
            have d0 : W.cell? ⟨w.heap.size + 1, 0, none⟩ = some (.int .i64 r.1.1) := HY.out.cell 0
            have d1 : W.cell? ⟨w.heap.size + 1, 1, none⟩ = some (.slice A5 r.1.2.length c5) := HY.out.cell 1
            have d2 : W.cell? ⟨w.heap.size + 1, 2, none⟩ = some (.slice A6 r.2.length c6) := HY.out.cell 2
            refine bodyPost_ret (v := .agg #[.int .i64 r.1.1, .slice A5 r.1.2.length c5, .slice A6 r.2.length c6]) (by simp [results, Try.results53, go_sem, d0, d1, d2]) rfl ?_
            obtain ⟨A7, c7, A8, c8, hv, h1, h2, h3⟩ := HF.out
            exact ⟨A7, c7, A8, c8, by rw [hv], h1, h2, h3⟩

end Go.Proofs.Ytgacdehbdhhbnaa
