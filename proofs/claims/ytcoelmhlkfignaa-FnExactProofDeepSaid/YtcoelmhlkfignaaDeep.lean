/-
  The walks of ProofDeep: the program's and the specification's.
-/
import Derived.Test.YtcoelmhlkfignaaAhead
import Derived.Test.YtcoelmhlkfignaaRelease
import Derived.Test.YtcoelmhlkfignaaAppend
import Derived.Deep.DeepCutAuto
namespace Go.Proofs.Ytcoelmhlkfignaa
open Go.RowKit

theorem deepL_last {ss : List LStep} (h0 : 0 < ss.length) (hf : formed ss = true) : deepL ss = (deeps ss).getD (ss.length - 1) 0 := by
  unfold deepL
  rw [if_neg (by rw [hf]; intro h; rcases h with h | h; omega; cases h)]

set_option maxHeartbeats 2000000 in
set_option maxRecDepth 100000 in
theorem implProofDeep_any (v : Value) (ss : List LStep) (w : World) (h : RdSteps w w.heap.size v ss) (hl : ss.length ≤ 1048576) (ht : totS ss ≤ 1048576) :
    Calls Try.prog 9 #[v] w fun e w' => e = .returned (.int .i64 (deepL ss)) ∧ Below w.heap.size w w' := by
  have hmk := run_make_row' (P := Try.prog) 38 3 (.int .i64 0) 8 Try.underlying38 Try.infoInt rfl .i64 .i64 ss.length (by omega) (by omega)
  have H := Lib.hid h
  obtain ⟨A, c, rfl, hc, _⟩ := h
  by_cases h0 : ss.length = 0
  · have he : ((ss.length : Int) == 0) = true := by simp [h0]
    have HE := Lib.hid (show deepL ss = -1 by unfold deepL; rw [if_pos (.inl h0)])
    clear h0
    go_enter Try.func9, Try.ntmps9
    go_wp2_with (fail)
    go_ret
    exact ⟨ret_int HE.out.symm, Below.refl _ _⟩
  · have he : ((ss.length : Int) == 0) = false := by rw [beq_eq_false_iff_ne]; omega
    have h0' : 0 < ss.length := by omega
    by_cases hf : formed ss = true
    · have CN := Lib.hid (show Calls Try.prog 23 #[.slice A ss.length c] w fun e w' => e = .returned (.bool true) ∧ Below w.heap.size w w' from by rw [← hf]; exact nameAhead_any _ ss _ H.out hl ht)
      have HF := Lib.hid hf
      have HD := Lib.hid (deepL_last h0' hf)
      clear hf h0
      go_enter Try.func9, Try.ntmps9
      go_wp2_with (go_at_call 23; refine CN.out.mono ?_; rintro e w1 ⟨rfl, hb1⟩)
      have HB1 := Lib.hid hb1
      clear hb1
      obtain ⟨g, hg⟩ : ∃ g, g = w1.heap.size := ⟨_, rfl⟩
      rw [← hg]
      have HG := Lib.hid hg
      clear hg
      go_loopw [21] (fun i wr => ∃ k : Nat, k ≤ ss.length ∧ i = .int .i64 k ∧ wr.rowIs g 3 ss.length (fun j => .int .i64 ((deeps (ss.take k)).getD j 0)) ∧ Below w1.heap.size w1 wr) (fun i _ => ss.length - (intOf i).toNat)
      case atStart => exact ⟨0, Nat.zero_le _, rfl, by rw [HG.out]; exact (World.rowIs_made w1 _ _ _).congr (fun j _ => by simp [deeps]), below1 _ _⟩
      case round =>
        obtain ⟨k, hk, rfl, hrow, hbe⟩ := hrel
        by_cases hlt : k < ss.length
        · have BE := bthen HB1.out hbe
          obtain ⟨b, o, A1, c1, A2, c2, A3, c3, rfl, hbB, ⟨k0, k1, k2, k3, k4⟩, r1, r2, r3⟩ := H.out.get hlt
          have k0 := (BE.cell (p := ⟨b, o + k * 5, none⟩) hbB).trans k0
          have k1 := (BE.cell (p := ⟨b, o + k * 5 + 1, none⟩) hbB).trans k1
          have k2 := (BE.cell (p := ⟨b, o + k * 5 + 2, none⟩) hbB).trans k2
          have k3 := (BE.cell (p := ⟨b, o + k * 5 + 3, none⟩) hbB).trans k3
          have k4 := (BE.cell (p := ⟨b, o + k * 5 + 4, none⟩) hbB).trans k4
          have hln := szSt_le_totS ss k hlt
          unfold szSt at hln
          have HR := Lib.hid r3
          have HROW := Lib.hid hrow
          have HBE := Lib.hid hbe
          clear r1 r2 r3 hrow
          go_wp2_with (fail)
          obtain ⟨w3, hw3⟩ : ∃ w3, w3 = wr.alloc (Obj.cells #[Value.int IntKind.i64 ss[k].1.1, Value.slice A1 ss[k].1.2.length c1, Value.int IntKind.i64 ss[k].2.1, Value.slice A2 ss[k].2.2.1.length c2, Value.slice A3 ss[k].2.2.2.length c3] 46) := ⟨_, rfl⟩
          have B3 : Below w1.heap.size w1 w3 := by rw [hw3]; exact HBE.out.alloc HBE.out.size _
          obtain ⟨D, hD⟩ : ∃ D, D = deeps (ss.take k) := ⟨_, rfl⟩
          have HDl := Lib.hid (show D.length = k by rw [hD]; exact deeps_length k _ (by simp; omega))
          have HDb := Lib.hid (show ∀ i, 0 ≤ D.getD i 0 ∧ D.getD i 0 ≤ (k : Int) by rw [hD]; exact deeps_bound k _ (by simp; omega))
          have HDs := Lib.hid (show deeps (ss.take (k + 1)) = D ++ [deepAt D ss[k].2.2.2] by rw [hD]; exact deeps_take hlt)
          have HR0 := Lib.hid (show w3.rowIs g 3 ss.length (fun j => if j = k then .int .i64 (deepAt D (ss[k].2.2.2.take 0)) else .int .i64 (D.getD j 0)) from by
            rw [hw3]
            refine (HROW.out.alloc _).congr fun j _ => ?_
            by_cases e : j = k
            · have hn : D[k]? = none := List.getElem?_eq_none (by have := HDl.out; omega)
              rw [if_pos e, e, ← hD, List.getD_eq_getElem?_getD, hn]
              rfl
            · rw [if_neg e, hD])
          rw [← hw3]
          clear hw3 k0 k1 k2 k3 k4 hD HROW BE
          have HB3 := Lib.hid B3
          clear B3
          go_loopw [29] (fun i ws => ∃ m : Nat, m ≤ ss[k].2.2.2.length ∧ i = .int .i64 m ∧ ws.rowIs g 3 ss.length (fun j => if j = k then .int .i64 (deepAt D (ss[k].2.2.2.take m)) else .int .i64 (D.getD j 0)) ∧ Below w1.heap.size w1 ws) (fun i _ => ss[k].2.2.2.length - (intOf i).toNat)
          case atStart => exact ⟨0, Nat.zero_le _, rfl, HR0.out, HB3.out⟩
          case round =>
            obtain ⟨m, hm, rfl, hrw, hbt⟩ := hrel
            by_cases hlm : m < ss[k].2.2.2.length
            · have BT := bthen HB1.out hbt
              obtain ⟨b', o', rfl, hb', q0⟩ := (HR.out.below BT (Nat.le_refl _)).getS hlm
              obtain ⟨z0, z1⟩ := aheadB_at (formed_at HF.out hlt) hlm
              obtain ⟨fn, hfn⟩ : ∃ n : Nat, ss[k].2.2.2[m] = (n : Int) := ⟨ss[k].2.2.2[m].toNat, by omega⟩
              have HST := Lib.hid (deepAt_step (ds := D) hlm)
              rw [hfn] at q0 z0 z1 HST
              have hfk : fn < k := by omega
              obtain ⟨d, hd⟩ : ∃ d, d = deepAt D (ss[k].2.2.2.take m) := ⟨_, rfl⟩
              obtain ⟨e, he'⟩ : ∃ e, e = D.getD fn 0 := ⟨_, rfl⟩
              have hdb := deepAt_bound (ds := D) (M := (k : Int)) (by omega) HDb.out _ (ss[k].2.2.2.take m) rfl
              have heb := HDb.out fn
              have x0 := hrw.cell hlt
              have x1 := hrw.cell (show fn < ss.length by omega)
              simp only [if_neg (show ¬ fn = k by omega), if_true] at x0 x1
              have fz := hrw.frozen k
              rw [← hd] at hdb x0
              rw [← he'] at heb x1
              obtain ⟨d0, d1⟩ := hdb
              obtain ⟨e0, e1⟩ := heb
              have hki : (k : Int) < (ss.length : Int) := by omega
              have hfi : (fn : Int) < (ss.length : Int) := by omega
              have HST2 := Lib.hid (show deepAt D (ss[k].2.2.2.take (m + 1)) = max d (e + 1) by rw [HST.out, hd, he']; simp)
              have HROW := Lib.hid hrw
              have HBT := Lib.hid hbt
              have HHF := Lib.hid hfn
              clear hrw hbt hfn HST hd he' BT hb'
              go_upto_region 10 with fail
              refine wp_region_rel (fun W => W.cell? ⟨g, k, none⟩ = some (.int .i64 d) ∧ W.cell? ⟨g, fn, none⟩ = some (.int .i64 e)) 13 14 (by kernel_rfl) rfl ?_
              obtain ⟨wy, hwy⟩ : ∃ wy, wy = wr.drew := ⟨_, rfl⟩
              have HRY := Lib.hid (show wy.rowIs g 3 ss.length (fun j => if j = k then .int .i64 (deepAt D (ss[k].2.2.2.take m)) else .int .i64 (D.getD j 0)) by rw [hwy]; exact HROW.out)
              have HBY := Lib.hid (show Below w1.heap.size w1 wy by rw [hwy]; exact HBT.out.drew)
              have SB : wy.cell? ⟨g, k, none⟩ = some (.int .i64 d) ∧ wy.cell? ⟨g, fn, none⟩ = some (.int .i64 e) := by rw [hwy]; exact ⟨x0, x1⟩
              have fy : wy.frozen? ⟨g, k, none⟩ = false := by rw [hwy]; exact fz
              have hcy : wy.cell? ⟨g, k, none⟩ = some (.int .i64 d) := SB.1
              rw [← hwy]
              clear hwy q0 x0 x1 fz HROW HBT
              obtain ⟨SS, hSS⟩ : ∃ SS : World → Prop, SS = (fun W => W.cell? ⟨g, k, none⟩ = some (.int .i64 d) ∧ W.cell? ⟨g, fn, none⟩ = some (.int .i64 e)) := ⟨_, rfl⟩
              have HB := Lib.hid (show ∀ W, SS W → (W.cell? ⟨g, k, none⟩ = some (.int .i64 d) ∧ W.cell? ⟨g, fn, none⟩ = some (.int .i64 e)) from by rw [hSS]; exact fun W hW => hW)
              have SB : SS wy := by rw [hSS]; exact SB
              rw [← hSS]
              clear hSS
              refine wpAnyR_pure (i := 0) (oi := _) ?va0 rfl rfl (by kernel_rfl) (by decide) (fun _ _ _ h => h) rfl ?hya0 (fun _ => SB) ?resta0
              case hya0 => (intro W; go_simp; (try with_reducible rfl))
              try simp only [List.setIfInBounds_toArray, List.set_cons_zero, List.set_cons_succ]
              refine wpAnyR_pure (i := 1) (oi := _) ?va1 rfl rfl (by kernel_rfl) (by decide) (fun _ _ _ h => h) rfl ?hya1 (fun _ => SB) ?resta1
              case hya1 => (intro W; go_simp; (try with_reducible rfl))
              try simp only [List.setIfInBounds_toArray, List.set_cons_zero, List.set_cons_succ]
              refine wpAnyR_pure (i := 2) (oi := _) ?va2 rfl rfl (by kernel_rfl) (by decide) (fun _ _ _ h => h) rfl ?hya2 (fun _ => SB) ?resta2
              case hya2 => (intro W; go_simp; (try with_reducible rfl))
              try simp only [List.setIfInBounds_toArray, List.set_cons_zero, List.set_cons_succ]
              refine wpAnyR_pure (i := 3) (oi := _) ?va3 rfl rfl (by kernel_rfl) (by decide) (fun _ _ _ h => h) rfl ?hya3 (fun _ => SB) ?resta3
              case hya3 => (intro W; go_simp; (try with_reducible rfl))
              try simp only [List.setIfInBounds_toArray, List.set_cons_zero, List.set_cons_succ]
              refine wpAnyR_pure (i := 4) (oi := _) ?va4 rfl rfl (by kernel_rfl) (by decide) (fun _ _ _ h => h) rfl ?hya4 (fun _ => SB) ?resta4
              case hya4 => (intro W; go_simp; (try with_reducible rfl))
              try simp only [List.setIfInBounds_toArray, List.set_cons_zero, List.set_cons_succ]
              refine wpAnyR_take (i := 5) (oi := _) ?va5 rfl rfl (by kernel_rfl) (fun _ _ _ h => h) rfl ?hya5 SB ?resta5
              case hya5 => (intro W hW; obtain ⟨E0, E1⟩ := HB.out W hW; go_simp; (try with_reducible rfl))
              try simp only [List.setIfInBounds_toArray, List.set_cons_zero, List.set_cons_succ]
              refine wpAnyR_pure (i := 6) (oi := _) ?va6 rfl rfl (by kernel_rfl) (by decide) (fun _ _ _ h => h) rfl ?hya6 (fun _ => SB) ?resta6
              case hya6 => (intro W; go_simp; (try with_reducible rfl))
              try simp only [List.setIfInBounds_toArray, List.set_cons_zero, List.set_cons_succ]
              refine wpAnyR_pure (i := 7) (oi := _) ?va7 rfl rfl (by kernel_rfl) (by decide) (fun _ _ _ h => h) rfl ?hya7 (fun _ => SB) ?resta7
              case hya7 => (intro W; go_simp; (try with_reducible rfl))
              try simp only [List.setIfInBounds_toArray, List.set_cons_zero, List.set_cons_succ]
              refine wpAnyR_pure (i := 8) (oi := _) ?va8 rfl rfl (by kernel_rfl) (by decide) (fun _ _ _ h => h) rfl ?hya8 (fun _ => SB) ?resta8
              case hya8 => (intro W; go_simp; (try with_reducible rfl))
              try simp only [List.setIfInBounds_toArray, List.set_cons_zero, List.set_cons_succ]
              refine wpAnyR_take (i := 9) (oi := _) ?va9 rfl rfl (by kernel_rfl) (fun _ _ _ h => h) rfl ?hya9 SB ?resta9
              case hya9 => (intro W hW; obtain ⟨E0, E1⟩ := HB.out W hW; go_simp; (try with_reducible rfl))
              try simp only [List.setIfInBounds_toArray, List.set_cons_zero, List.set_cons_succ]
              refine wpAnyR_pure (i := 10) (oi := _) ?va10 rfl rfl (by kernel_rfl) (by decide) (fun _ _ _ h => h) rfl ?hya10 (fun _ => SB) ?resta10
              case hya10 => (intro W; go_simp; (try with_reducible rfl))
              try simp only [List.setIfInBounds_toArray, List.set_cons_zero, List.set_cons_succ]
              refine wpAnyR_pure (i := 11) (oi := _) ?va11 rfl rfl (by kernel_rfl) (by decide) (fun _ _ _ h => h) rfl ?hya11 (fun _ => SB) ?resta11
              case hya11 => (intro W; go_simp; (try with_reducible rfl))
              try simp only [List.setIfInBounds_toArray, List.set_cons_zero, List.set_cons_succ]
              refine wpAnyR_pure (i := 12) (oi := _) ?va12 rfl rfl (by kernel_rfl) (by decide) (fun _ _ _ h => h) rfl ?hya12 (fun _ => SB) ?resta12
              case hya12 => (intro W; go_simp; (try with_reducible rfl))
              try simp only [List.setIfInBounds_toArray, List.set_cons_zero, List.set_cons_succ]
              refine wpAnyR_one (i := 13) (by kernel_rfl) rfl (fun K hK => ?_)
              go_simp
              refine hK.out _ _ (fun hf => absurd hf (by decide)) ?_
              clear hK K
              refine wpAnyR_done (by kernel_rfl) ?_
              have HN := Lib.hid (show (wy.setCell ⟨g, k, none⟩ (.int .i64 (if d < e + 1 then e + 1 else d))).rowIs g 3 ss.length (fun j => if j = k then .int .i64 (deepAt D (ss[k].2.2.2.take (m + 1))) else .int .i64 (D.getD j 0)) ∧ Below w1.heap.size w1 (wy.setCell ⟨g, k, none⟩ (.int .i64 (if d < e + 1 then e + 1 else d))) from by
                refine ⟨(HRY.out.set k _).congr fun j hj => ?_, HBY.out.setCell (by rw [HG.out]; exact Nat.le_refl _) _⟩
                by_cases ejk : j = k
                · rw [if_pos ejk, if_pos ejk, HST2.out, show max d (e + 1) = if d < e + 1 then e + 1 else d by omega]
                · rw [if_neg ejk, if_neg ejk, if_neg ejk])
              clear SB fy hcy
              go_wp2_with (fail)
              go_roundw
              case rel => exact ⟨m + 1, by omega, by go_num, HN.out.1, HN.out.2⟩
              case measure => simp [intOf]; omega
            · have HRE := Lib.hid hrw
              have hme : m = ss[k].2.2.2.length := by omega
              have HN := Lib.hid (show wr.rowIs g 3 ss.length (fun j => .int .i64 ((deeps (ss.take (k + 1))).getD j 0)) from by
                refine hrw.congr fun j hj => ?_
                have hl := HDl.out
                rw [hme, List.take_length, HDs.out]
                rcases Nat.lt_trichotomy j k with h3 | h3 | h3
                · rw [if_neg (by omega), List.getD_eq_getElem?_getD, List.getD_eq_getElem?_getD, List.getElem?_append_left (by omega)]
                · subst h3
                  rw [if_pos rfl, List.getD_eq_getElem?_getD, List.getElem?_append_right (by omega), hl]
                  simp
                · rw [if_neg (by omega), List.getD_eq_getElem?_getD, List.getD_eq_getElem?_getD, List.getElem?_eq_none (by omega), List.getElem?_eq_none (by simp; omega)])
              clear hrw hme
              go_wp2_with (fail)
              go_roundw
              case rel => exact ⟨k + 1, by omega, by go_num, HN.out, hbt⟩
              case measure => simp [intOf]; omega
        · have hkn : k = ss.length := by omega
          have x0 := hrow.cell (show ss.length - 1 < ss.length by omega)
          have HL := Lib.hid (show (deeps (ss.take k)).getD (ss.length - 1) 0 = deepL ss by rw [HD.out, hkn, List.take_length])
          have x1 : wr.cell? ⟨g, ss.length - 1, none⟩ = some (.int .i64 (deepL ss)) := by rw [x0, HL.out]
          have HB := Lib.hid (bthen HB1.out hbe)
          obtain ⟨R, hR⟩ : ∃ R, R = deepL ss := ⟨_, rfl⟩
          rw [← hR] at x1
          have HR := Lib.hid hR
          clear hkn hrow hbe x0 hR
          go_wp2_with (fail)
          go_ret
          exact ⟨ret_int HR.out, HB.out⟩
    · have CN := Lib.hid (show Calls Try.prog 23 #[.slice A ss.length c] w fun e w' => e = .returned (.bool false) ∧ Below w.heap.size w w' from by
        have hf' : formed ss = false := by simpa using hf
        rw [← hf']; exact nameAhead_any _ ss _ H.out hl ht)
      have HE := Lib.hid (show deepL ss = -1 by unfold deepL; rw [if_pos (.inr (by simpa using hf))])
      clear hf h0
      go_enter Try.func9, Try.ntmps9
      go_wp2_with (go_at_call 23; refine CN.out.mono ?_; rintro e w1 ⟨rfl, hb1⟩)
      go_ret
      exact ⟨ret_int HE.out.symm, hb1⟩

end Go.Proofs.Ytcoelmhlkfignaa
