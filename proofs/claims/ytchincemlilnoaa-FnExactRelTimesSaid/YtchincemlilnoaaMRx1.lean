/-
  Texts that the claim's last one imports, laid together: part 1 of 2. No condition of its own.
-/
import Derived.Test.YtchincemlilnoaaMRt5
import Derived.Test.YtchincemlilnoaaMRt1
import Derived.Lib.AppendZerosOnto
import Derived.Shelf.RegionOpenPlain
import Derived.Shelf.Spec.SlicesGrow
/-
  RelJoin of the specification.
-/
namespace Go.Proofs.Ytchincemlilnoaa
open Go.RowKit

set_option maxHeartbeats 8000000 in
set_option maxRecDepth 100000 in
theorem specRelJoin_any (v0 v1 v2 v3 : Value) (a b : LRel) (left right : List Int) (R : LRel) (hR : R = joinR a b left right) (okR : Bool) (hok : okR = joinK a b left right) (w : World) (h0 : RdRel w w.heap.size v0 a) (h1 : RdRel w w.heap.size v1 b) (h2 : RdInts w w.heap.size v2 left) (h3 : RdInts w w.heap.size v3 right)
    (s0 : szRows a.2 ≤ 1048576) (s1 : szRows b.2 ≤ 1048576) (s2 : left.length ≤ 1048576) (s3 : right.length ≤ 1048576) :
    Calls Try.prog 37 #[v0, v1, v2, v3] w fun e w' => ∃ A' c', e = .returned (.tuple #[.agg #[.int .i64 R.1, .slice A' R.2.length c'], .bool okR]) ∧ OwnRows w' w.heap.size w'.heap.size (.slice A' R.2.length c') R.2 ∧ Below w.heap.size w w' := by
  have HR := Lib.hid (And.intro hR hok)
  clear hR hok
  obtain ⟨a0, rfl, h0⟩ := h0
  have H0 := Lib.hid h0
  obtain ⟨A, c, rfl, _, _⟩ := h0
  obtain ⟨a1, rfl, h1⟩ := h1
  have H1 := Lib.hid h1
  obtain ⟨A1, c1, rfl, _, _⟩ := h1
  have H2 := Lib.hid h2
  obtain ⟨A2, c2, rfl, _, _⟩ := h2
  have H3 := Lib.hid h3
  obtain ⟨A3, c3, rfl, _, _⟩ := h3
  obtain ⟨m, xss⟩ := a
  obtain ⟨n, yss⟩ := b
  have S0 := Lib.hid s0
  have S1 := Lib.hid s1
  simp only at H0 H1 HR
  clear s0 s1
  obtain ⟨i0, hi0, hz0, hz1, hz2⟩ := info_parts Try.infoIntS
  obtain ⟨i1, hi1, hy0, hy1, hy2⟩ := info_parts Try.infoInt
  go_enter Try.func37, Try.ntmps37
  go_wp2_with fail
  obtain ⟨w3, hw3⟩ : ∃ w3, w3 = ((w.alloc (Obj.cells #[Value.int IntKind.i64 m, Value.slice A xss.length c] 27)).alloc (Obj.cells #[Value.int IntKind.i64 n, Value.slice A1 yss.length c1] 27)).alloc (Obj.cells #[Value.int IntKind.i64 0, Value.slice none 0 0] 27) := ⟨_, rfl⟩
  have B3 : Below w.heap.size w w3 := by rw [hw3]; exact below3 _ _ _ _
  have s3' : w3.heap.size = w.heap.size + 3 := by rw [hw3]; simp
  have x0 : Blk w3 w.heap.size 27 #[.int .i64 m, .slice A xss.length c] := by rw [hw3]; exact ((Blk.new w _ _).alloc _).alloc _
  have x1 : Blk w3 (w.heap.size + 1) 27 #[.int .i64 n, .slice A1 yss.length c1] := by
    rw [hw3]
    simpa using (Blk.new (w.alloc (Obj.cells #[Value.int IntKind.i64 m, Value.slice A xss.length c] 27)) 27 #[.int .i64 n, .slice A1 yss.length c1]).alloc _
  have x2 : Blk w3 (w.heap.size + 2) 27 #[.int .i64 0, .slice none 0 0] := by
    rw [hw3]
    simpa using Blk.new ((w.alloc (Obj.cells #[Value.int IntKind.i64 m, Value.slice A xss.length c] 27)).alloc (Obj.cells #[Value.int IntKind.i64 n, Value.slice A1 yss.length c1] 27)) 27 #[.int .i64 0, .slice none 0 0]
  rw [← hw3]
  clear hw3
  obtain ⟨z, hz⟩ : ∃ z, z = pairsB (m, xss) (n, yss) left right := ⟨_, rfl⟩
  refine (l9Pairs_is _ _ _ _ (m, xss) (n, yss) left right hz.symm _ ⟨_, rfl, H0.out.on B3⟩ ⟨_, rfl, H1.out.on B3⟩ (H2.out.on B3) (H3.out.on B3) S0.out S1.out s2 s3).mono ?_
  rintro e w4 ⟨rfl, hb4⟩
  have B4 := bthen B3 hb4
  have s4 := hb4.size
  have y0 := x0.below hb4 x0.lt
  have y1 := x1.below hb4 x1.lt
  have y2 := x2.below hb4 x2.lt
  clear x0 x1 x2
  have b1c0 : w4.cell? ⟨w.heap.size + 2, 0, none⟩ = some (.int .i64 0) := y2.cell 0
  have b1c1 : w4.cell? ⟨w.heap.size + 2, 1, none⟩ = some (.slice none 0 0) := y2.cell 1
  have b1f0 := y2.frozen 0
  have b1f1 := y2.frozen 1
  have HZ := Lib.hid hz
  clear hz
  cases z
  · have HE := Lib.hid (show R = (0, []) ∧ okR = false from by
      have := joinR_no (a := (m, xss)) (b := (n, yss)) (left := left) (right := right) fun h => by have := pairsB_iff.2 h.pairs; rw [← HZ.out] at this; cases this
      exact ⟨HR.out.1.trans this.1, HR.out.2.trans this.2⟩)
    go_wp2_with fail
    refine bodyPost_ret (v := .tuple #[.agg #[.int .i64 0, .slice none 0 0], .bool false]) (by simp [results, Try.results37, go_sem, b1c0, b1c1]) rfl ?_
    rw [HE.out.1, HE.out.2]
    exact ⟨none, 0, rfl, OwnRows.none _ _ _, (B4.setCell (by simp <;> omega) _).setCell (by simp <;> omega) _⟩
  have HP := Lib.hid (pairsB_iff.1 HZ.out.symm)
  have hys : yss.length ≤ 2000 := HP.out.rb.many
  have hxs : xss.length ≤ 2000 := HP.out.ra.many
  have hm0 : 0 ≤ m := HP.out.ra.lo
  have hn0 : 0 ≤ n := HP.out.rb.lo
  have hm6 : m ≤ 6 := HP.out.ra.hi
  have hn6 : n ≤ 6 := HP.out.rb.hi
  have q0 : w4.cell? ⟨w.heap.size, 0, none⟩ = some (.int .i64 m) := y0.cell 0
  have q2 : w4.cell? ⟨w.heap.size + 1, 0, none⟩ = some (.int .i64 n) := y1.cell 0
  by_cases hw6 : 6 < m + n
  · have d6 : decide (6 < m + n) = true := decide_eq_true hw6
    have HE := Lib.hid (show R = (0, []) ∧ okR = false from by
      have := joinR_no (a := (m, xss)) (b := (n, yss)) (left := left) (right := right) fun h => by have := h.wide; simp only at this; omega
      exact ⟨HR.out.1.trans this.1, HR.out.2.trans this.2⟩)
    clear hw6
    go_wp2_with fail
    refine bodyPost_ret (v := .tuple #[.agg #[.int .i64 0, .slice none 0 0], .bool false]) (by simp [results, Try.results37, go_sem, b1c0, b1c1]) rfl ?_
    rw [HE.out.1, HE.out.2]
    exact ⟨none, 0, rfl, OwnRows.none _ _ _, (B4.setCell (by simp <;> omega) _).setCell (by simp <;> omega) _⟩
  have d6 : decide (6 < m + n) = false := decide_eq_false hw6
  have HW6 := Lib.hid (show m + n ≤ 6 by omega)
  clear hw6 b1c0 b1c1 b1f0 b1f1
  go_wp2_with fail
  obtain ⟨o9, ho9⟩ : ∃ o9, o9 = w4.heap.size := ⟨_, rfl⟩
  obtain ⟨w5, hw5⟩ : ∃ w5, w5 = w4.alloc (Obj.cells #[Value.int IntKind.i64 (m + n), Value.slice none 0 0] 27) := ⟨_, rfl⟩
  have hb45 : Below w4.heap.size w4 w5 := by rw [hw5]; exact below1 _ _
  have x9 : Blk w5 o9 27 #[.int .i64 (m + n), .slice none 0 0] := by rw [hw5, ho9]; exact Blk.new _ _ _
  have s5 : w5.heap.size = o9 + 1 := by rw [hw5, ho9]; simp
  have hlo : w.heap.size + 3 ≤ o9 := by omega
  rw [← hw5, ← ho9]
  have HO := Lib.hid (show OutAt w5.heap.size o9 w5 (m + n) [] none 0 [] from OutAt.empty x9 (by omega) (Nat.le_refl _))
  have HX := Lib.hid (And.intro (y0.below hb45 y0.lt) (And.intro (y1.below hb45 y1.lt) (y2.below hb45 y2.lt)))
  have HB5 := Lib.hid (bthen B4 hb45)
  clear hw5 ho9 x9 y0 y1 y2 q0 q2 hb45
  go_loopw [11, 12] (fun i _ wr => ∃ (k : Nat) (A' : Option Addr) (c' : Nat) (av : List Value), k ≤ xss.length ∧ i = .int .i64 k ∧ OutAt w5.heap.size o9 wr (m + n) (joinTo xss yss left right k) A' c' av ∧ Below o9 w5 wr) (fun i _ _ => xss.length - (intOf i).toNat)
  case atStart => exact ⟨0, none, 0, [], Nat.zero_le _, rfl, by rw [joinTo_zero]; exact HO.out, Below.refl _ _⟩
  case round =>
    obtain ⟨k, A', c', av, hk, rfl, hout, hbe⟩ := hrel
    obtain ⟨wo, rfl⟩ : ∃ wo, wo = wr := ⟨_, rfl⟩
    have HOUT := Lib.hid hout
    have HBE := Lib.hid hbe
    have xr := HX.out.1.below hbe (by omega)
    have q1 : wo.cell? ⟨w.heap.size, 1, none⟩ = some (.slice A xss.length c) := xr.cell 1
    have BW := Lib.hid (show Below w.heap.size w wo from HB5.out.trans (hbe.mono (by omega)))
    have hsw := hbe.size
    clear hout hbe xr
    by_cases hlt : k < xss.length
    · obtain ⟨b, o, Ar, cr, rfl, hbB, k0, r0⟩ := (H0.out.below BW.out (Nat.le_refl _)).get hlt
      have hrow : (xss[k].length : Int) = m := HP.out.ra.row hlt
      have HCL := Lib.hid (show left.all (colIn xss[k].length) = true by rw [hrow]; exact HP.out.cl)
      have HR0 := Lib.hid r0
      have hxl : xss[k].length ≤ 6 := by omega
      clear k0 r0 hrow
      go_wp2_with fail
      clear q1
      go_loopw [12] (fun j wi => ∃ (q : Nat) (A' : Option Addr) (c' : Nat) (av : List Value), q ≤ yss.length ∧ j = .int .i64 q ∧ OutAt w5.heap.size o9 wi (m + n) (joinAt xss yss left right k q) A' c' av ∧ Below o9 w5 wi) (fun j _ => yss.length - (intOf j).toNat)
      case atStart => exact ⟨0, A', c', av, Nat.zero_le _, rfl, by rw [joinAt_zero]; exact HOUT.out, HBE.out⟩
      case round =>
        clear HOUT HBE BW
        obtain ⟨q, A', c', av, hq, rfl, hout, hbe⟩ := hrel
        obtain ⟨wi, rfl⟩ : ∃ wi, wi = wr := ⟨_, rfl⟩
        have HOI := Lib.hid hout
        have HBE := Lib.hid hbe
        have xr := HX.out.1.below hbe (by omega)
        have yr := HX.out.2.1.below hbe (by omega)
        have q1 : wi.cell? ⟨w.heap.size, 1, none⟩ = some (.slice (some ⟨b, o, none⟩) xss.length c) := xr.cell 1
        have q3 : wi.cell? ⟨w.heap.size + 1, 1, none⟩ = some (.slice A1 yss.length c1) := yr.cell 1
        have BW := Lib.hid (show Below w.heap.size w wi from HB5.out.trans (hbe.mono (by omega)))
        have hswi := hbe.size
        have hoi := HOI.out.le
        clear hout hbe xr yr
        by_cases hlq : q < yss.length
        · obtain ⟨b0, o0, Ar0, cr0, e5, _, k0, r0⟩ := (H0.out.below BW.out (Nat.le_refl _)).get hlt
          injection e5 with e5
          injection e5 with e5 e6 _
          subst e5 e6
          obtain ⟨b', o', A5, c5, rfl, hbB', k5, r5⟩ := (H1.out.below BW.out (Nat.le_refl _)).get hlq
          have hrow2 : (yss[q].length : Int) = n := HP.out.rb.row hlq
          have hyl : yss[q].length ≤ 6 := by omega
          have hcr : right.all (colIn yss[q].length) = true := by rw [hrow2]; exact HP.out.cr
          have hszw : w.heap.size ≤ wi.heap.size := by omega
          have HRX := Lib.hid (And.intro (r0.more hszw) (r5.more hszw))
          obtain ⟨ft, hft⟩ : ∃ ft, ft = decide (pickC xss[k] left = pickC yss[q] right) := ⟨_, rfl⟩
          have HFT := Lib.hid hft
          have CF := Lib.hid (fun W : Later wi => l9Fit_is (.slice Ar0 xss[k].length cr0) (.slice A5 yss[q].length c5) (.slice A2 left.length c2) (.slice A3 right.length c3) xss[k] yss[q] left right (b := ft) hft.symm W.val
            (HRX.out.1.on W.2) (HRX.out.2.on W.2) (H2.out.on (bthen BW.out W.2)) (H3.out.on (bthen BW.out W.2)) HP.out.len HCL.out hcr s2)
          have hkz : (0 : Int) ≤ (k : Int) := by omega
          have hki : (k : Int) < (xss.length : Int) := by omega
          have hqz : (0 : Int) ≤ (q : Int) := by omega
          have hqi : (q : Int) < (yss.length : Int) := by omega
          have KK := Lib.hid (And.intro k0 (And.intro q1 (And.intro q3 k5)))
          clear hrow2 hcr hft r0 r5
          cases ft
          · have HN := Lib.hid (joinAt_no (xss := xss) (left := left) (right := right) hlt hlq (of_decide_eq_false HFT.out.symm))
            go_upto_region 10 with fail
            have M0 := later_cell k0
            have M1 := later_cell q1
            have M2 := later_cell q3
            have M3 := later_cell k5
            clear k0 q1 q3 k5
            refine wp_region_later (by kernel_rfl) (by kernel_rfl) ?_
            repeat (go_big_quiet_step ((go_at_call 71; exact later_of (CF.out _))))
            refine wpQuiet_nil ?_
            rintro _ ⟨xq, rfl⟩
            go_wp2_with fail
            go_roundw
            case rel => exact ⟨q + 1, _, _, _, by omega, by go_num, by rw [HN.out]; exact HOI.out.on xq.2, HBE.out.trans (xq.2.mono (by omega))⟩
            case measure => simp [intOf]; omega
          · have HN := Lib.hid (joinAt_yes (xss := xss) (left := left) (right := right) hlt hlq (of_decide_eq_true HFT.out.symm))
            have hml := joinAt_len (xss := xss) (left := left) (right := right) hys hlt q
            go_upto_region 10 with fail
            have M0 := later_cell k0
            have M1 := later_cell q1
            have M2 := later_cell q3
            have M3 := later_cell k5
            clear k0 q1 q3 k5
            refine wp_region_later (by kernel_rfl) (by kernel_rfl) ?_
            repeat (go_big_quiet_step ((go_at_call 71; exact later_of (CF.out _))))
            refine wpQuiet_nil ?_
            rintro _ ⟨xq, rfl⟩
            obtain ⟨wz, hwz⟩ : ∃ wz, wz = xq.val := ⟨_, rfl⟩
            have HBZ := Lib.hid (show Below wi.heap.size wi wz from hwz ▸ xq.2)
            rw [← hwz]
            clear M0 M1 M2 M3 hwz CF
            clear xq
            have HOZ := Lib.hid (HOI.out.on HBZ.out)
            have HRZ := Lib.hid (And.intro (HRX.out.1.on HBZ.out) (HRX.out.2.on HBZ.out))
            have HBEZ := Lib.hid (HBE.out.trans (HBZ.out.mono (show o9 ≤ wi.heap.size by omega)))
            have hsz := HBZ.out.size
            go_upto_region 11 with fail
            obtain ⟨M, hM⟩ : ∃ M, M = joinAt xss yss left right k q := ⟨_, rfl⟩
            rw [← hM] at HOZ HN hml
            clear hM HOI
            have q2 : wz.cell? ⟨o9, 1, none⟩ = some (.slice A' M.length c') := HOZ.out.box.cell 1
            obtain ⟨SS, hSS⟩ : ∃ SS : World → Prop, SS = (fun W => W.cell? ⟨o9, 1, none⟩ = some (.slice A' M.length c') ∧ W.cell? ⟨w.heap.size, 1, none⟩ = some (.slice (some ⟨b, o, none⟩) xss.length c) ∧ W.cell? ⟨b, o + k, none⟩ = some (.slice Ar0 xss[k].length cr0) ∧ W.cell? ⟨w.heap.size + 1, 1, none⟩ = some (.slice (some ⟨b', o', none⟩) yss.length c1) ∧ W.cell? ⟨b', o' + q, none⟩ = some (.slice A5 yss[q].length c5)) := ⟨_, rfl⟩
            have HSS := Lib.hid (show ∀ W, Below w5.heap.size wz W → SS W from by
              rw [hSS]
              have hz2 : ∀ {g i : Nat} {u : Value}, wi.cell? ⟨g, i, none⟩ = some u → g < w5.heap.size → ∀ W, Below w5.heap.size wz W → W.cell? ⟨g, i, none⟩ = some u := fun {g i u} hc hg W hW =>
                (hW.cell (p := ⟨g, i, none⟩) hg).trans ((HBZ.out.cell (p := ⟨g, i, none⟩) (by simp; omega)).trans hc)
              exact fun W hW => ⟨(hW.cell (p := ⟨o9, 1, none⟩) (by simp; omega)).trans q2, hz2 KK.out.2.1 (by omega) W hW, hz2 KK.out.1 (by omega) W hW, hz2 KK.out.2.2.1 (by omega) W hW, hz2 KK.out.2.2.2 (by omega) W hW⟩)
            have HB := Lib.hid (show ∀ W, SS W → (W.cell? ⟨o9, 1, none⟩ = some (.slice A' M.length c') ∧ W.cell? ⟨w.heap.size, 1, none⟩ = some (.slice (some ⟨b, o, none⟩) xss.length c) ∧ W.cell? ⟨b, o + k, none⟩ = some (.slice Ar0 xss[k].length cr0) ∧ W.cell? ⟨w.heap.size + 1, 1, none⟩ = some (.slice (some ⟨b', o', none⟩) yss.length c1) ∧ W.cell? ⟨b', o' + q, none⟩ = some (.slice A5 yss[q].length c5)) from by rw [hSS]; exact fun W hW => hW)
            clear hSS q2
            refine wp_region_rel SS 17 18 (by kernel_rfl) rfl ?_
            obtain ⟨wy, hwy⟩ : ∃ wy, wy = wz.drew := ⟨_, rfl⟩
            have HBY := Lib.hid (show Below wz.heap.size wz wy by rw [hwy]; exact (Below.refl _ _).drew)
            rw [← hwy]
            clear hwy
            have hsy := HBY.out.size
            have hlz : w5.heap.size ≤ wz.heap.size := by omega
            have S0' := Lib.hid (HSS.out _ (HBY.out.mono hlz))
            refine wpAnyR_pure (i := 0) (oi := _) ?va0 rfl rfl (by kernel_rfl) (by decide) (fun _ _ _ h => h) rfl ?hya0 (fun _ => S0'.out) ?resta0
            case hya0 => (intro W; go_simp; (try with_reducible rfl))
            try simp only [List.setIfInBounds_toArray, List.set_cons_zero, List.set_cons_succ]
            refine wpAnyR_take (i := 1) (oi := _) ?va1 rfl rfl (by kernel_rfl) (fun _ _ _ h => h) rfl ?hya1 S0'.out ?resta1
            case hya1 => (intro W hW; obtain ⟨E0, E1, E2, E3, E4⟩ := HB.out W hW; go_simp; (try with_reducible rfl))
            try simp only [List.setIfInBounds_toArray, List.set_cons_zero, List.set_cons_succ]
            refine wpAnyR_pure (i := 2) (oi := _) ?va2 rfl rfl (by kernel_rfl) (by decide) (fun _ _ _ h => h) rfl ?hya2 (fun _ => S0'.out) ?resta2
            case hya2 => (intro W; go_simp; (try with_reducible rfl))
            try simp only [List.setIfInBounds_toArray, List.set_cons_zero, List.set_cons_succ]
            refine wpAnyR_take (i := 3) (oi := _) ?va3 rfl rfl (by kernel_rfl) (fun _ _ _ h => h) rfl ?hya3 S0'.out ?resta3
            case hya3 => (intro W hW; obtain ⟨E0, E1, E2, E3, E4⟩ := HB.out W hW; go_simp; (try with_reducible rfl))
            try simp only [List.setIfInBounds_toArray, List.set_cons_zero, List.set_cons_succ]
            refine wpAnyR_pure (i := 4) (oi := _) ?va4 rfl rfl (by kernel_rfl) (by decide) (fun _ _ _ h => h) rfl ?hya4 (fun _ => S0'.out) ?resta4
            case hya4 => (intro W; go_simp; (try with_reducible rfl))
            try simp only [List.setIfInBounds_toArray, List.set_cons_zero, List.set_cons_succ]
            refine wpAnyR_pure (i := 5) (oi := _) ?va5 rfl rfl (by kernel_rfl) (by decide) (fun _ _ _ h => h) rfl ?hya5 (fun _ => S0'.out) ?resta5
            case hya5 => (intro W; go_simp; (try with_reducible rfl))
            try simp only [List.setIfInBounds_toArray, List.set_cons_zero, List.set_cons_succ]
            refine wpAnyR_take (i := 6) (oi := _) ?va6 rfl rfl (by kernel_rfl) (fun _ _ _ h => h) rfl ?hya6 S0'.out ?resta6
            case hya6 => (intro W hW; obtain ⟨E0, E1, E2, E3, E4⟩ := HB.out W hW; go_simp; (try with_reducible rfl))
            try simp only [List.setIfInBounds_toArray, List.set_cons_zero, List.set_cons_succ]
            refine wpAnyR_pure (i := 8) (oi := _) ?va8 rfl rfl (by kernel_rfl) (by decide) (fun _ _ _ h => h) rfl ?hya8 (fun _ => S0'.out) ?resta8
            case hya8 => (intro W; go_simp; (try with_reducible rfl))
            try simp only [List.setIfInBounds_toArray, List.set_cons_zero, List.set_cons_succ]
            refine wpAnyR_take (i := 9) (oi := _) ?va9 rfl rfl (by kernel_rfl) (fun _ _ _ h => h) rfl ?hya9 S0'.out ?resta9
            case hya9 => (intro W hW; obtain ⟨E0, E1, E2, E3, E4⟩ := HB.out W hW; go_simp; (try with_reducible rfl))
            try simp only [List.setIfInBounds_toArray, List.set_cons_zero, List.set_cons_succ]
            refine wpAnyR_pure (i := 10) (oi := _) ?va10 rfl rfl (by kernel_rfl) (by decide) (fun _ _ _ h => h) rfl ?hya10 (fun _ => S0'.out) ?resta10
            case hya10 => (intro W; go_simp; (try with_reducible rfl))
            try simp only [List.setIfInBounds_toArray, List.set_cons_zero, List.set_cons_succ]
            refine wpAnyR_pure (i := 11) (oi := _) ?va11 rfl rfl (by kernel_rfl) (by decide) (fun _ _ _ h => h) rfl ?hya11 (fun _ => S0'.out) ?resta11
            case hya11 => (intro W; go_simp; (try with_reducible rfl))
            try simp only [List.setIfInBounds_toArray, List.set_cons_zero, List.set_cons_succ]
            refine wpAnyR_take (i := 12) (oi := _) ?va12 rfl rfl (by kernel_rfl) (fun _ _ _ h => h) rfl ?hya12 S0'.out ?resta12
            case hya12 => (intro W hW; obtain ⟨E0, E1, E2, E3, E4⟩ := HB.out W hW; go_simp; (try with_reducible rfl))
            try simp only [List.setIfInBounds_toArray, List.set_cons_zero, List.set_cons_succ]
            refine wpAnyR_one (i := 7) (by kernel_rfl) rfl (fun K hK => ?_)
            try rw [if_pos (show Region.wanted _ _ = true from rfl)]
            go_simp
            refine (l3Copy_any (.slice Ar0 xss[k].length cr0) xss[k] _ (HRZ.out.1.on HBY.out) (by omega)).mono ?_
            rintro e W4 ⟨A6, c6, rfl, ho6, hb6⟩
            have hb4w : Below wz.heap.size wz W4 := bthen HBY.out hb6
            have S1' := Lib.hid (HSS.out _ (hb4w.mono hlz))
            have HO6 := Lib.hid (And.intro ho6 (And.intro hb6 hb4w))
            have hsW4 := hb6.size
            clear ho6 hb6 hb4w
            refine hK.out _ _ (fun _ => S1'.out) ?_
            clear hK K
            try simp only [List.setIfInBounds_toArray, List.set_cons_zero, List.set_cons_succ, Act.put]
            refine wpAnyR_one (i := 13) (by kernel_rfl) rfl (fun K hK => ?_)
            refine step_append_rd _ rfl (.tmp 68) (.tmp 73) 42 rfl wy.heap.size 3 i1 (.int .i64 0) 8 Try.underlying42 hi1 hy0 hy1 hy2 rfl (.slice A6 xss[k].length c6) xss[k].length (xss[k].map (Value.int .i64)) rfl ?d0 W4.heap.size _ yss[q] rfl ?d1 (by unfold maxLen; omega) (by omega) ?d3 ?d2
            case d0 => exact HO6.out.1.1
            case d1 => exact HRZ.out.2.on HO6.out.2.2
            case d3 => exact hsW4
            case d2 =>
            intro A7 c7 W5 hown7 hg7 hat7
            have HO7 := Lib.hid (show OwnInts W5 wz.heap.size W5.heap.size (.slice A7 (xss[k] ++ yss[q]).length c7) (xss[k] ++ yss[q]) ∧ Below wz.heap.size wz W5 from by
              refine ⟨⟨ownsRow_mono (by simpa using hown7) (by omega), fun g hg => (hown7.lt g (by simpa using hg)).2⟩, ?_⟩
              exact HBY.out.trans ((Below.grown HO6.out.2.1 hg7 (by omega) (fun g hg => (HO6.out.1.1.lt g hg).1)).mono (by omega)))
            have S1'' := Lib.hid (HSS.out _ (HO7.out.2.mono hlz))
            have HLL := Lib.hid (show xss[k].length + yss[q].length = (xss[k] ++ yss[q]).length by simp)
            have hLL6 : (xss[k] ++ yss[q]).length ≤ 12 := by rw [List.length_append]; omega
            clear hown7 hg7 hat7
            rw [HLL.out]
            obtain ⟨rw', hrw'⟩ : ∃ r, r = xss[k] ++ yss[q] := ⟨_, rfl⟩
            rw [← hrw'] at HO7 HN hLL6 ⊢
            clear hrw' HLL
            refine hK.out _ _ (fun _ => S1''.out) ?_
            clear hK K
            try simp only [List.setIfInBounds_toArray, Act.put]
            refine wpAnyR_one (i := 14) (by kernel_rfl) rfl (fun K hK => ?_)
            try rw [if_pos (show Region.wanted _ _ = true from rfl)]
            go_simp
            have S2 := Lib.hid (HSS.out _ ((bthen HO7.out.2 (below1 W5 (Obj.cells #[Value.slice A7 rw'.length c7] 42))).mono hlz))
            refine hK.out _ _ (fun _ => S2.out) ?_
            clear hK K
            try simp only [List.setIfInBounds_toArray, List.set_cons_zero, List.set_cons_succ, Act.put]
            refine wpAnyR_one (i := 15) (by kernel_rfl) rfl (fun K hK => ?_)
            refine step_append_lies _ rfl (.tmp 62) (.tmp 75) 22 rfl w5.heap.size 42 i0 (.slice none 0 0) 1 24 Try.underlying22 hi0 hz0 hz1 hz2 rfl (by decide) (.slice A' M.length c') M.length av rfl ?c1 ⟨W5.heap.size, 0, none⟩ 1 1 [.slice A7 rw'.length c7] rfl rfl ?c4 ?c2 (by omega) (by unfold maxLen; omega) (by omega) ?c3 _ rfl ?c5
            case c1 => exact (HOZ.out.on HO7.out.2).row.alloc _
            case c4 => exact World.news_of_block (cs := #[.slice A7 rw'.length c7]) (heap_alloc_new W5 _)
            case c2 => intro u hu; simp at hu; subst hu; rfl
            case c3 => have := HO7.out.2.size; simp; omega
            case c5 =>
            intro g2 cap w7 hown hgr hat _
            have hpush := HOZ.out.push (xs := rw') HO7.out.2 HO7.out.1 hgr hown
            have hgrown := HOZ.out.grown HO7.out.2 hgr
            have S3 := Lib.hid (HSS.out w7 hgrown)
            have hbx := HOZ.out.box.below hgrown (by omega)
            have g1 : w7.cell? ⟨o9, 1, none⟩ = some (.slice A' M.length c') := hbx.cell 1
            have g1f := hbx.frozen 1
            have HPU := Lib.hid hpush
            clear hpush hown hgr hat hgrown hbx
            refine hK.out _ _ (fun _ => S3.out) ?_
            clear hK K
            try simp only [List.setIfInBounds_toArray, Act.put]
            refine wpAnyR_pure (i := 16) (oi := _) ?vb16 rfl rfl (by kernel_rfl) (by decide) (fun _ _ _ h => h) rfl ?hyb16 (fun _ => S3.out) ?restb16
            case hyb16 => (intro W; go_simp; (try with_reducible rfl))
            try simp only [List.setIfInBounds_toArray, List.set_cons_zero, List.set_cons_succ]
            refine wpAnyR_one (i := 17) (by kernel_rfl) rfl (fun K hK => ?_)
            go_simp
            refine hK.out _ _ (fun hf => absurd hf (by decide)) ?_
            clear hK K
            refine wpAnyR_done (by kernel_rfl) ?_
            go_wp2_with fail
            go_roundw
            case rel => exact ⟨q + 1, _, _, _, by omega, by go_num, by rw [HN.out]; exact HPU.out.1, HBEZ.out.trans HPU.out.2⟩
            case measure => simp [intOf]; omega
        · have HN := Lib.hid (show joinAt xss yss left right k q = joinTo xss yss left right (k + 1) by rw [show q = yss.length by omega]; exact joinAt_all hlt)
          rw [HN.out] at HOI
          go_wp2_with fail
          go_roundw
          case rel => exact ⟨k + 1, _, _, _, by omega, by go_num, HOI.out, HBE.out⟩
          case measure => simp [intOf]; omega
    · have hkn : k = xss.length := by omega
      rw [hkn] at HOUT
      have z1 := HX.out.2.2.below HBE.out (by omega)
      have b1c0 : wo.cell? ⟨w.heap.size + 2, 0, none⟩ = some (.int .i64 0) := z1.cell 0
      have b1c1 : wo.cell? ⟨w.heap.size + 2, 1, none⟩ = some (.slice none 0 0) := z1.cell 1
      have b1f0 := z1.frozen 0
      have b1f1 := z1.frozen 1
      obtain ⟨M, hM⟩ : ∃ M, M = joinTo xss yss left right xss.length := ⟨_, rfl⟩
      have HMM := Lib.hid hM
      have hml := joinTo_len (xss := xss) (left := left) (right := right) hys xss.length (Nat.le_refl _)
      rw [← hM] at HOUT hml
      clear hM
      have d0 : wo.cell? ⟨o9, 0, none⟩ = some (.int .i64 (m + n)) := HOUT.out.box.cell 0
      have d1 : wo.cell? ⟨o9, 1, none⟩ = some (.slice A' M.length c') := HOUT.out.box.cell 1
      clear hkn z1
      by_cases hbig : 2000 < M.length
      · have d3 : decide ((2000 : Int) < (M.length : Int)) = true := decide_eq_true (by omega)
        have HE := Lib.hid (show R = (0, []) ∧ okR = false from by
          have := joinR_no (a := (m, xss)) (b := (n, yss)) (left := left) (right := right) fun h => by have := h.few; simp only at this; rw [← HMM.out] at this; omega
          exact ⟨HR.out.1.trans this.1, HR.out.2.trans this.2⟩)
        clear hbig
        go_wp2_with fail
        refine bodyPost_ret (v := .tuple #[.agg #[.int .i64 0, .slice none 0 0], .bool false]) (by simp [results, Try.results37, go_sem, b1c0, b1c1]) rfl ?_
        rw [HE.out.1, HE.out.2]
        exact ⟨none, 0, rfl, OwnRows.none _ _ _, (BW.out.setCell (by simp <;> omega) _).setCell (by simp <;> omega) _⟩
      · have d3 : decide ((2000 : Int) < (M.length : Int)) = false := decide_eq_false (by omega)
        have HE := Lib.hid (show R = (m + n, M) ∧ okR = true from by
          have := joinR_yes (a := (m, xss)) (b := (n, yss)) (left := left) (right := right) ⟨HP.out, HW6.out, by simp only; rw [← HMM.out]; omega⟩
          exact ⟨HR.out.1.trans (by rw [this.1, HMM.out]), HR.out.2.trans this.2⟩)
        clear hbig
        go_wp2_with fail
        refine bodyPost_ret (v := .tuple #[.agg #[.int .i64 (m + n), .slice A' M.length c'], .bool true]) (by simp [results, Try.results37, go_sem, b1c0, b1c1]) rfl ?_
        rw [HE.out.1, HE.out.2]
        refine ⟨A', c', rfl, ?_, (BW.out.setCell (by simp <;> omega) _).setCell (by simp <;> omega) _⟩
        have hrw := HOUT.out.rows
        have h1 := (hrw.only (Only.setCell (Only.refl 0 (w.heap.size + 3) wo) (p := ⟨w.heap.size + 2, 0, none⟩) ⟨Nat.zero_le _, by simp⟩ (.int .i64 (m + n))) (.inr (by omega)))
        have h2 := (h1.only (Only.setCell (Only.refl 0 (w.heap.size + 3) _) (p := ⟨w.heap.size + 2, 1, none⟩) ⟨Nat.zero_le _, by simp⟩ (.slice A' M.length c')) (.inr (by omega)))
        exact h2.mono (by omega) (by simp)

end Go.Proofs.Ytchincemlilnoaa
/-
  slices.Grow of the nil slice, slices.Concat of two slices: at integers.
-/
namespace Go.Proofs.Ytchincemlilnoaa
open Go.RowKit

theorem size_zeroInts (n : Nat) : (Builtin.zeroCells #[Value.int IntKind.i64 0] n).size = n := by simp [Builtin.zeroCells]

set_option maxHeartbeats 1000000 in
set_option maxRecDepth 100000 in
theorem growNilI_any (n : Nat) (w : World) (hn : n ≤ 4194304) :
    Calls Try.prog 86 #[.slice none 0 0, .int .i64 n] w fun e w' => ∃ A c, e = .returned (.slice A 0 c) ∧ w'.ownsRow w.heap.size 3 1 (.slice A 0 c) 0 [] ∧ Below w.heap.size w w' := by
  obtain ⟨i0, hi0, hz0, hz1, hz2⟩ := info_parts Try.infoInt
  by_cases h0 : n = 0
  · subst h0
    go_enter Try.func86, Try.ntmps86
    go_wp2_with (fail)
    go_ret
    exact ⟨none, 0, rfl, World.ownsRow_nil _ _ _ _, Below.refl _ _⟩
  · have h1 : ¬ ((n : Int) < 0) := by omega
    have h4 : (n : Int) > 0 := by omega
    have hold : (Builtin.firstCells i0.size 0 (.slice none 0 0)).run Try.prog w.drew = .ok (#[] : Array Value) w.drew := run_firstCells_none w.drew i0.size 0 0 0
    have hrz : ∀ ty, (Builtin.append_ #[42, 3] ty #[.slice none 0 0, .int .i64 (n : Int)]).run Try.prog w =
        .ok (.slice (some ⟨w.heap.size, 0, none⟩) n (grownCap w n 0 3)) (w.drew.alloc (.cells (Builtin.zeroCells #[.int .i64 0] n ++ Builtin.zeroCells #[.int .i64 0] (grownCap w n 0 3 - n)) 3)) := fun ty => by
      have h := Lib.run_append_grow_zeros w 42 3 ty 3 i0 (.int .i64 0) .i64 .i64 Try.underlying42 Try.underlying3 hi0 hz0 none 0 0 [] hold n (by omega) (by omega) (by omega) (by omega) (by rw [hz2]; omega)
        (growslice_fits (by omega) (by rw [hz2]; omega))
      simpa [Value.cells] using h
    have hGn : n ≤ grownCap w n 0 3 := grownCap_ge w _ _ _
    have hGm : grownCap w n 0 3 ≤ maxLen := grownCap_le_maxLen w n 0 3 (by unfold maxLen; omega)
    obtain ⟨G, hG⟩ : ∃ G, G = grownCap w n 0 3 := ⟨_, rfl⟩
    rw [← hG] at hrz hGn hGm
    have hG63 : G ≤ 9223372036854775807 := by unfold maxLen at hGm; omega
    have hsz : (Builtin.zeroCells #[Value.int IntKind.i64 0] n ++ Builtin.zeroCells #[Value.int IntKind.i64 0] (G - n)).size = G * 1 := by
      rw [Array.size_append, size_zeroInts, size_zeroInts]
      omega
    obtain ⟨zc, hzc⟩ : ∃ zc, zc = (Builtin.zeroCells #[Value.int IntKind.i64 0] n ++ Builtin.zeroCells #[Value.int IntKind.i64 0] (G - n)) := ⟨_, rfl⟩
    rw [← hzc] at hrz hsz
    have HS := Lib.hid hsz
    clear hold hG hzc hsz h0
    go_enter Try.func86, Try.ntmps86
    go_wp2_with (at_builtin; refine Lib.wpList_append_run _ rfl _ _ _ _ rfl _ _ rfl rfl _ _ (hrz _) ?_)
    go_ret
    refine ⟨_, _, rfl, ?_, (Below.refl _ _).drew.alloc (Nat.le_refl _) _⟩
    exact World.ownsRow_made w.drew zc G (Nat.le_refl _) hGm HS.out

def joinI (xs ys : List Int) (k : Nat) : List Int := if k = 0 then [] else if k = 1 then xs else xs ++ ys
def joinNI (n m k : Nat) : Nat := if k = 0 then 0 else if k = 1 then n else n + m

set_option maxHeartbeats 2000000 in
set_option maxRecDepth 100000 in
theorem concatI_any (g c : Nat) (v v2 : Value) (xs ys : List Int) (w : World) (k0 : w.cell? ⟨g, 0, none⟩ = some v) (k1 : w.cell? ⟨g, 1, none⟩ = some v2) (h : RdInts w w.heap.size v xs) (h2 : RdInts w w.heap.size v2 ys) (hn : xs.length + ys.length ≤ 2097152) :
    Calls Try.prog 75 #[.slice (some ⟨g, 0, none⟩) 2 c] w fun e w' => ∃ A' c', e = .returned (.slice A' (xs ++ ys).length c') ∧ OwnInts w' w.heap.size w'.heap.size (.slice A' (xs ++ ys).length c') (xs ++ ys) ∧ Below w.heap.size w w' := by
  obtain ⟨i0, hi0, hz0, hz1, hz2⟩ := info_parts Try.infoInt
  have H1 := Lib.hid h
  have H2 := Lib.hid h2
  obtain ⟨A1, c1, rfl, _, _⟩ := h
  obtain ⟨A2, c2, rfl, _, _⟩ := h2
  go_enter Try.func75, Try.ntmps75
  go_wp2_with (fail)
  go_loop [3, 5, 11] (fun s _ i => ∃ k : Nat, k ≤ 2 ∧ i = .int .i64 k ∧ s = .int .i64 (joinNI xs.length ys.length k : Nat)) (fun _ _ i => 2 - (intOf i).toNat)
  case atStart => exact ⟨0, by omega, rfl, rfl⟩
  case round =>
    obtain ⟨k, hk, rfl, rfl⟩ := hrel
    rcases (show k = 0 ∨ k = 1 ∨ k = 2 by omega) with rfl | rfl | rfl
    · have hj : joinNI xs.length ys.length 0 = 0 := rfl
      rw [hj]
      go_wp2_with (fail)
      go_round
      case rel => exact ⟨1, by omega, rfl, by simp [joinNI]⟩
      case measure => simp [intOf]
    · have hj : joinNI xs.length ys.length 1 = xs.length := rfl
      rw [hj]
      go_wp2_with (fail)
      go_round
      case rel => exact ⟨2, by omega, rfl, by simp [joinNI]⟩
      case measure => simp [intOf]
    · have hj : joinNI xs.length ys.length 2 = xs.length + ys.length := rfl
      rw [hj]
      go_wp2_with (fail)
      refine (growNilI_any (xs.length + ys.length) w (by omega)).mono ?_
      rintro e w2 ⟨A', c', rfl, hrow, hb⟩
      have HG := Lib.hid (And.intro (World.block_lt_of_cell? _ _ k0) (And.intro k0 k1))
      have k02 : w2.cell? ⟨g, 0, none⟩ = some (.slice A1 xs.length c1) := (hb.cell (World.block_lt_of_cell? _ _ k0)).trans k0
      have k12 : w2.cell? ⟨g, 1, none⟩ = some (.slice A2 ys.length c2) := (hb.cell (World.block_lt_of_cell? _ _ k1)).trans k1
      have HRB := Lib.hid (And.intro hrow hb)
      clear k0 k1 hj hrow hb
      go_wp2_with (fail)
      go_loopw [6, 8, 27] (fun r _ i wr => ∃ (k : Nat) (B : Option Addr) (d : Nat), k ≤ 2 ∧ i = .int .i64 k ∧ r = .slice B (joinI xs ys k).length d ∧ wr.ownsRow w.heap.size 3 1 (.slice B (joinI xs ys k).length d) (joinI xs ys k).length ((joinI xs ys k).map (Value.int .i64)) ∧ Below w.heap.size w wr) (fun _ _ i _ => 2 - (intOf i).toNat)
      case atStart => exact ⟨0, A', c', by omega, rfl, rfl, HRB.out.1, HRB.out.2⟩
      case round =>
        obtain ⟨k, B, d, hk, rfl, rfl, hr, hbe⟩ := hrel
        have q0 : wr.cell? ⟨g, 0, none⟩ = some (.slice A1 xs.length c1) := (hbe.cell HG.out.1).trans HG.out.2.1
        have q1 : wr.cell? ⟨g, 1, none⟩ = some (.slice A2 ys.length c2) := (hbe.cell HG.out.1).trans HG.out.2.2
        have HR := Lib.hid (And.intro hr hbe)
        clear hr hbe k02 k12
        rcases (show k = 0 ∨ k = 1 ∨ k = 2 by omega) with rfl | rfl | rfl
        · have hjl : (joinI xs ys 0).length = 0 := rfl
          rw [hjl]
          go_wp2_with (at_builtin; refine wpList_append_rd _ rfl (.tmp 31) (.tmp 32) 42 rfl w.heap.size 3 i0 (.int .i64 0) 8 Try.underlying42 hi0 hz0 hz1 hz2 rfl (.slice B 0 d) 0 [] rfl ?c1 wr.heap.size _ xs rfl ?c2 (by unfold maxLen; omega) (by omega) ?c3 ?_)
          case c1 => exact HR.out.1
          case c2 => exact H1.out.on HR.out.2
          case c3 => exact HR.out.2.size
          intro A4 c4 w4 hown hgr hob
          have hlt := HR.out.1.lt
          have hB : Below w.heap.size w w4 := HR.out.2.grown hgr HR.out.2.size (fun b hb => (hlt b hb).1)
          have HL := Lib.hid (show xs.length = (joinI xs ys 1).length by simp [joinI])
          have HQ := Lib.hid (show w4.ownsRow w.heap.size 3 1 (.slice A4 (joinI xs ys 1).length c4) (joinI xs ys 1).length ((joinI xs ys 1).map (Value.int .i64)) ∧ Below w.heap.size w w4 from ⟨by simpa [joinI] using hown, hB⟩)
          clear hown hgr hob hB hlt
          go_wp2_with (fail)
          go_roundw
          case rel => exact ⟨1, A4, c4, by omega, rfl, by rw [← HL.out], HQ.out.1, HQ.out.2⟩
          case measure => simp [intOf]
        · have hjl : (joinI xs ys 1).length = xs.length := rfl
          rw [hjl]
          go_wp2_with (at_builtin; refine wpList_append_rd _ rfl (.tmp 31) (.tmp 32) 42 rfl w.heap.size 3 i0 (.int .i64 0) 8 Try.underlying42 hi0 hz0 hz1 hz2 rfl (.slice B xs.length d) xs.length (xs.map (Value.int .i64)) rfl ?c1 wr.heap.size _ ys rfl ?c2 (by unfold maxLen; omega) (by omega) ?c3 ?_)
          case c1 => exact HR.out.1
          case c2 => exact H2.out.on HR.out.2
          case c3 => exact HR.out.2.size
          intro A4 c4 w4 hown hgr hob
          have hlt := HR.out.1.lt
          have hB : Below w.heap.size w w4 := HR.out.2.grown hgr HR.out.2.size (fun b hb => (hlt b hb).1)
          have HL := Lib.hid (show xs.length + ys.length = (joinI xs ys 2).length by simp [joinI])
          have HQ := Lib.hid (show w4.ownsRow w.heap.size 3 1 (.slice A4 (joinI xs ys 2).length c4) (joinI xs ys 2).length ((joinI xs ys 2).map (Value.int .i64)) ∧ Below w.heap.size w w4 from ⟨by rw [HL.out] at hown; simpa [joinI] using hown, hB⟩)
          clear hown hgr hob hB hlt
          try rw [HL.out]
          go_wp2_with (fail)
          go_roundw
          case rel => exact ⟨2, _, _, by omega, rfl, by simp [joinI], HQ.out.1, HQ.out.2⟩
          case measure => simp [intOf]
        · have HJ := Lib.hid (show joinI xs ys 2 = xs ++ ys from rfl)
          rw [HJ.out] at HR ⊢
          go_wp2_with (fail)
          go_ret
          exact ⟨B, d, rfl, ⟨HR.out.1, fun b hb => (HR.out.1.lt b hb).2⟩, HR.out.2⟩

end Go.Proofs.Ytchincemlilnoaa
/-
  RelJoin of the program.
-/
namespace Go.Proofs.Ytchincemlilnoaa
open Go.RowKit

theorem cell_same {w w' : World} {g i : Nat} (h : w'.heap[g]? = w.heap[g]?) : w'.cell? ⟨g, i, none⟩ = w.cell? ⟨g, i, none⟩ := by
  unfold World.cell?
  simp [h]
theorem filter_index {α : Type} (p : α → Bool) (q : Nat → Bool) (ys : List α) (d : α) (h : ∀ i (hi : i < ys.length), q i = p ys[i]) : ys.filter p = ((List.range ys.length).filter q).map fun i => ys.getD i d := by
  have e : ys = (List.range ys.length).map fun i => ys.getD i d := by
    apply List.ext_getElem
    · simp
    · intro i h1 h2
      simp [h1]
  conv => lhs; rw [e]
  rw [List.filter_map]
  congr 1
  apply List.filter_congr
  intro i hi
  have hi2 : i < ys.length := by simpa using hi
  simp [hi2, h i hi2]
theorem joinTo_mono {xss yss : List (List Int)} {left right : List Int} {k k' : Nat} (h : k ≤ k') : (joinTo xss yss left right k).length ≤ (joinTo xss yss left right k').length := by
  unfold joinTo
  obtain ⟨d, rfl⟩ : ∃ d, k' = k + d := ⟨k' - k, by omega⟩
  rw [List.take_add, List.flatMap_append, List.length_append]
  omega
/-- The numbers of the rows that fit one. -/
def idxs (yss : List (List Int)) (right : List Int) (N : Int) : List Nat := (List.range yss.length).filter fun i => keyN yss right i == N
theorem idxs_lt {yss : List (List Int)} {right : List Int} {N : Int} {j : Nat} (h : j < (idxs yss right N).length) : (idxs yss right N)[j] < yss.length := by
  have h1 : (idxs yss right N)[j] ∈ idxs yss right N := List.getElem_mem h
  have h2 : (idxs yss right N)[j] ∈ List.range yss.length := (List.mem_filter.1 (show (idxs yss right N)[j] ∈ (List.range yss.length).filter fun i => keyN yss right i == N from h1)).1
  exact List.mem_range.1 h2
theorem joinRow_idx {b : LRel} {left right x : List Int} (hb : RelP b) (hr : x.all constOk = true) (hc : left.all (colIn x.length) = true) (hc2 : right.all (colIn b.1) = true) (hl : left.length = right.length) :
    joinRow b.2 left right x = (idxs b.2 right (numF (pickC x left) : Nat)).map fun i => x ++ b.2.getD i [] := by
  unfold joinRow idxs
  rw [filter_index (fun y => decide (pickC x left = pickC y right)) (fun i => keyN b.2 right i == (numF (pickC x left) : Nat)) b.2 [], List.map_map]
  · rfl
  · intro i hi
    have h1 := hb.rows i hi hi
    have e : b.2.getD i [] = b.2[i] := by simp [hi]
    unfold keyN
    rw [e]
    by_cases h : pickC x left = pickC b.2[i] right
    · rw [h]; simp
    · have : (numF (pickC b.2[i] right) : Int) ≠ (numF (pickC x left) : Nat) := fun e2 => h (numF_inj6 (pickC_ok h1.2.2 (by rw [h1.1]; exact hc2)) (pickC_ok hr hc) (by rw [pickC_length, pickC_length, hl]) (by omega)).symm
      simp [h, this]

set_option maxHeartbeats 8000000 in
set_option maxRecDepth 100000 in
theorem implRelJoin_any (v0 v1 v2 v3 : Value) (a b : LRel) (left right : List Int) (R : LRel) (hR : R = joinR a b left right) (okR : Bool) (hok : okR = joinK a b left right) (w : World) (h0 : RdRel w w.heap.size v0 a) (h1 : RdRel w w.heap.size v1 b) (h2 : RdInts w w.heap.size v2 left) (h3 : RdInts w w.heap.size v3 right)
    (s0 : szRows a.2 ≤ 1048576) (s1 : szRows b.2 ≤ 1048576) (s2 : left.length ≤ 1048576) (s3 : right.length ≤ 1048576) :
    Calls Try.prog 38 #[v0, v1, v2, v3] w fun e w' => ∃ A' c', e = .returned (.tuple #[.agg #[.int .i64 R.1, .slice A' R.2.length c'], .bool okR]) ∧ OwnRows w' w.heap.size w'.heap.size (.slice A' R.2.length c') R.2 ∧ Below w.heap.size w w' := by
  have HR := Lib.hid (And.intro hR hok)
  clear hR hok
  obtain ⟨a0, rfl, h0⟩ := h0
  have H0 := Lib.hid h0
  obtain ⟨A, c, rfl, _, _⟩ := h0
  obtain ⟨a1, rfl, h1⟩ := h1
  have H1 := Lib.hid h1
  obtain ⟨A1, c1, rfl, _, _⟩ := h1
  have H2 := Lib.hid h2
  obtain ⟨A2, c2, rfl, _, _⟩ := h2
  have H3 := Lib.hid h3
  obtain ⟨A3, c3, rfl, _, _⟩ := h3
  obtain ⟨m, xss⟩ := a
  obtain ⟨n, yss⟩ := b
  have S0 := Lib.hid s0
  have S1 := Lib.hid s1
  simp only at H0 H1 HR
  clear s0 s1
  obtain ⟨i0, hi0, hz0, hz1, hz2⟩ := info_parts Try.infoIntS
  go_enter Try.func38, Try.ntmps38
  go_wp2_with fail
  obtain ⟨w3, hw3⟩ : ∃ w3, w3 = ((w.alloc (Obj.cells #[Value.int IntKind.i64 m, Value.slice A xss.length c] 27)).alloc (Obj.cells #[Value.int IntKind.i64 n, Value.slice A1 yss.length c1] 27)).alloc (Obj.cells #[Value.int IntKind.i64 0, Value.slice none 0 0] 27) := ⟨_, rfl⟩
  have B3 : Below w.heap.size w w3 := by rw [hw3]; exact below3 _ _ _ _
  have s3' : w3.heap.size = w.heap.size + 3 := by rw [hw3]; simp
  have x0 : Blk w3 w.heap.size 27 #[.int .i64 m, .slice A xss.length c] := by rw [hw3]; exact ((Blk.new w _ _).alloc _).alloc _
  have x1 : Blk w3 (w.heap.size + 1) 27 #[.int .i64 n, .slice A1 yss.length c1] := by
    rw [hw3]
    simpa using (Blk.new (w.alloc (Obj.cells #[Value.int IntKind.i64 m, Value.slice A xss.length c] 27)) 27 #[.int .i64 n, .slice A1 yss.length c1]).alloc _
  have x2 : Blk w3 (w.heap.size + 2) 27 #[.int .i64 0, .slice none 0 0] := by
    rw [hw3]
    simpa using Blk.new ((w.alloc (Obj.cells #[Value.int IntKind.i64 m, Value.slice A xss.length c] 27)).alloc (Obj.cells #[Value.int IntKind.i64 n, Value.slice A1 yss.length c1] 27)) 27 #[.int .i64 0, .slice none 0 0]
  rw [← hw3]
  clear hw3
  obtain ⟨z, hz⟩ : ∃ z, z = pairsB (m, xss) (n, yss) left right := ⟨_, rfl⟩
  refine (pairsFit_is _ _ _ _ (m, xss) (n, yss) left right hz.symm _ ⟨_, rfl, H0.out.on B3⟩ ⟨_, rfl, H1.out.on B3⟩ (H2.out.on B3) (H3.out.on B3) S0.out S1.out s2 s3).mono ?_
  rintro e w4 ⟨rfl, hb4⟩
  have B4 := bthen B3 hb4
  have s4 := hb4.size
  have y0 := x0.below hb4 x0.lt
  have y1 := x1.below hb4 x1.lt
  have y2 := x2.below hb4 x2.lt
  clear x0 x1 x2
  have b1c0 : w4.cell? ⟨w.heap.size + 2, 0, none⟩ = some (.int .i64 0) := y2.cell 0
  have b1c1 : w4.cell? ⟨w.heap.size + 2, 1, none⟩ = some (.slice none 0 0) := y2.cell 1
  have b1f0 := y2.frozen 0
  have b1f1 := y2.frozen 1
  have HZ := Lib.hid hz
  clear hz
  cases z
  · have HE := Lib.hid (show R = (0, []) ∧ okR = false from by
      have := joinR_no (a := (m, xss)) (b := (n, yss)) (left := left) (right := right) fun h => by have := pairsB_iff.2 h.pairs; rw [← HZ.out] at this; cases this
      exact ⟨HR.out.1.trans this.1, HR.out.2.trans this.2⟩)
    go_wp2_with fail
    refine bodyPost_ret (v := .tuple #[.agg #[.int .i64 0, .slice none 0 0], .bool false]) (by simp [results, Try.results38, go_sem, b1c0, b1c1]) rfl ?_
    rw [HE.out.1, HE.out.2]
    exact ⟨none, 0, rfl, OwnRows.none _ _ _, (B4.setCell (by simp <;> omega) _).setCell (by simp <;> omega) _⟩
  have HP := Lib.hid (pairsB_iff.1 HZ.out.symm)
  have hys : yss.length ≤ 2000 := HP.out.rb.many
  have hxs : xss.length ≤ 2000 := HP.out.ra.many
  have hm0 : 0 ≤ m := HP.out.ra.lo
  have hn0 : 0 ≤ n := HP.out.rb.lo
  have hm6 : m ≤ 6 := HP.out.ra.hi
  have hn6 : n ≤ 6 := HP.out.rb.hi
  have q0 : w4.cell? ⟨w.heap.size, 0, none⟩ = some (.int .i64 m) := y0.cell 0
  have q2 : w4.cell? ⟨w.heap.size + 1, 0, none⟩ = some (.int .i64 n) := y1.cell 0
  have q3 : w4.cell? ⟨w.heap.size + 1, 1, none⟩ = some (.slice A1 yss.length c1) := y1.cell 1
  by_cases hw6 : 6 < m + n
  · have d6 : decide (6 < m + n) = true := decide_eq_true hw6
    have HE := Lib.hid (show R = (0, []) ∧ okR = false from by
      have := joinR_no (a := (m, xss)) (b := (n, yss)) (left := left) (right := right) fun h => by have := h.wide; simp only at this; omega
      exact ⟨HR.out.1.trans this.1, HR.out.2.trans this.2⟩)
    clear hw6 q3
    go_wp2_with fail
    refine bodyPost_ret (v := .tuple #[.agg #[.int .i64 0, .slice none 0 0], .bool false]) (by simp [results, Try.results38, go_sem, b1c0, b1c1]) rfl ?_
    rw [HE.out.1, HE.out.2]
    exact ⟨none, 0, rfl, OwnRows.none _ _ _, (B4.setCell (by simp <;> omega) _).setCell (by simp <;> omega) _⟩
  have d6 : decide (6 < m + n) = false := decide_eq_false hw6
  have HW6 := Lib.hid (show m + n ≤ 6 by omega)
  clear hw6 b1c0 b1c1 b1f0 b1f1
  go_wp2_with fail
  refine (rowsBy_any _ _ (n, yss) right _ ⟨_, rfl, H1.out.on B4⟩ (H3.out.on B4) HP.out.rb HP.out.cr (by have := HP.out.few; have := HP.out.len; omega)).mono ?_
  rintro e w5 ⟨bm, uv, es, clock, rfl, hbm, hm, huv, hb5⟩
  simp only at hm huv
  have B5 := bthen B4 hb5
  have s5 := hb5.size
  have z0 := y0.below hb5 y0.lt
  have z1 := y1.below hb5 y1.lt
  have z2 := y2.below hb5 y2.lt
  have HM := Lib.hid hm
  have HUV := Lib.hid (fun k (hk : k < yss.length) => (huv k hk).on hb5)
  have hbl := hm.bl
  clear y0 y1 y2 q0 q2 q3 hm huv
  have q0 : w5.cell? ⟨w.heap.size, 0, none⟩ = some (.int .i64 m) := z0.cell 0
  have q1 : w5.cell? ⟨w.heap.size, 1, none⟩ = some (.slice A xss.length c) := z0.cell 1
  have q2 : w5.cell? ⟨w.heap.size + 1, 0, none⟩ = some (.int .i64 n) := z1.cell 0
  go_upto_region 5 with fail
  obtain ⟨o9, ho9⟩ : ∃ o9, o9 = w5.heap.size := ⟨_, rfl⟩
  obtain ⟨w6, hw6⟩ : ∃ w6, w6 = w5.alloc (Obj.cells #[Value.int IntKind.i64 (m + n), Value.slice none 0 0] 27) := ⟨_, rfl⟩
  have hb56 : Below w5.heap.size w5 w6 := by rw [hw6]; exact below1 _ _
  have x9 : Blk w6 o9 27 #[.int .i64 (m + n), .slice none 0 0] := by rw [hw6, ho9]; exact Blk.new _ _ _
  have s6 : w6.heap.size = o9 + 1 := by rw [hw6, ho9]; simp
  have hlo : w.heap.size + 3 ≤ o9 := by omega
  rw [← hw6, ← ho9]
  have HO := Lib.hid (show OutAt w6.heap.size o9 w6 (m + n) [] none 0 [] from OutAt.empty x9 (by omega) (Nat.le_refl _))
  have HX := Lib.hid (And.intro (z0.below hb56 z0.lt) (And.intro (z1.below hb56 z1.lt) (z2.below hb56 z2.lt)))
  have HB56 := Lib.hid (show Below o9 w5 w6 by rw [ho9]; exact hb56)
  have HB6 := Lib.hid (bthen B5 hb56)
  have HO9 := Lib.hid ho9
  have ho9' : o9 ≤ w5.heap.size := by omega
  have k1 : w6.cell? ⟨w.heap.size, 1, none⟩ = some (.slice A xss.length c) := HX.out.1.cell 1
  clear hw6 ho9 x9 z0 z1 z2 q0 q1 q2 hb56
  go_wp2_with fail
  clear k1
  go_loopw [13, 15, 43, 53] (fun _ _ i _ wr => ∃ (k : Nat) (A' : Option Addr) (c' : Nat) (av : List Value), k ≤ xss.length ∧ i = .int .i64 k ∧ OutAt w6.heap.size o9 wr (m + n) (joinTo xss yss left right k) A' c' av ∧ (joinTo xss yss left right k).length ≤ 2000 ∧ Below o9 w6 wr) (fun _ _ i _ _ => xss.length - (intOf i).toNat)
  case atStart => exact ⟨0, none, 0, [], Nat.zero_le _, rfl, by rw [joinTo_zero]; exact HO.out, by simp [joinTo_zero], Below.refl _ _⟩
  case round =>
    obtain ⟨k, A', c', av, hk, rfl, hout, hml, hbe⟩ := hrel
    obtain ⟨wo, rfl⟩ : ∃ wo, wo = wr := ⟨_, rfl⟩
    have HOUT := Lib.hid hout
    have HBE := Lib.hid hbe
    have BW := Lib.hid (show Below w.heap.size w wo from HB6.out.trans (hbe.mono (by omega)))
    have B5O := Lib.hid (show Below w5.heap.size w5 wo from by rw [← HO9.out]; exact HB56.out.trans hbe)
    have hsw := hbe.size
    clear hout hbe
    by_cases hlt : k < xss.length
    · obtain ⟨b, o, Ar, cr, rfl, hbB, k0, r0⟩ := (H0.out.below BW.out (Nat.le_refl _)).get hlt
      have hrow : (xss[k].length : Int) = m := HP.out.ra.row hlt
      have hcon : xss[k].all constOk = true := (HP.out.ra.rows k hlt hlt).2.2
      have hcl : left.all (colIn xss[k].length) = true := by rw [hrow]; exact HP.out.cl
      have hszw : w.heap.size ≤ wo.heap.size := by omega
      have HR0 := Lib.hid (r0.more hszw)
      have hxl : xss[k].length ≤ 6 := by omega
      obtain ⟨N, hN⟩ : ∃ N, N = numF (pickC xss[k] left) := ⟨_, rfl⟩
      have hNlt : N < 46656 := by
        have h1 := key_lt (cols := left) hcon hcl (Nat.le_refl _)
        rw [show left.length = (pickC xss[k] left).length from (pickC_length _ _).symm, List.take_length, pickC_length] at h1
        have h2 : (6 : Nat) ^ left.length ≤ 6 ^ 6 := Nat.pow_le_pow_right (by decide) HP.out.few
        rw [hN]
        omega
      have CN := Lib.hid (columnsNumber_any (.slice Ar xss[k].length cr) _ xss[k] left wo.heap.size wo HR0.out (H2.out.on BW.out) hcon hcl HP.out.few)
      rw [← hN] at CN
      obtain ⟨vv, hlk, how⟩ := HM.out.look (z := (N : Int)) (wf_small (by omega) (by omega))
      have hrun : (Instr.lookup 77 (.map (some bm)) (.int .i64 (N : Int)) false).run Try.prog wo = .ok vv wo := hlk wo (B5O.out.block bm hbl)
      have hgr : groupTo (keyN yss right) uv yss.length (N : Int) = (idxs yss right (N : Int)).map uv := rfl
      rw [hgr, List.length_map] at how
      obtain ⟨ix, hix⟩ : ∃ ix, ix = idxs yss right (N : Int) := ⟨_, rfl⟩
      have HJR := Lib.hid (show joinRow yss left right xss[k] = ix.map fun i => xss[k] ++ yss.getD i [] by rw [hix, hN]; exact joinRow_idx (b := (n, yss)) HP.out.rb hcon hcl HP.out.cr HP.out.len)
      have hixl : ∀ j (h : j < ix.length), ix[j] < yss.length := fun j h => by subst hix; exact idxs_lt h
      have hixn : ix.length ≤ 2000 := by
        rw [hix]
        unfold idxs
        exact Nat.le_trans (List.length_filter_le _ _) (by simp; omega)
      rw [← hix] at how
      have hform : ∃ A5 c5, vv = .slice A5 ix.length c5 := by
        rcases how.2 with ⟨rfl, h0⟩ | ⟨g, cap, _, rfl, _⟩
        · exact ⟨none, 0, by rw [h0]⟩
        · exact ⟨_, _, rfl⟩
      obtain ⟨A5, c5, rfl⟩ := hform
      have hgl : ∀ g, (Value.slice A5 ix.length c5).ownBlock = some g → g < o9 := fun g hg => by rw [HO9.out]; exact (how.lt g hg).2
      have HOW := Lib.hid (ownsRow_only (w' := wo) how fun g hg => B5O.out.block g (how.lt g hg).2)
      have HIX := Lib.hid hixl
      have q1 : wo.cell? ⟨w.heap.size, 1, none⟩ = some (.slice (some ⟨b, o, none⟩) xss.length c) := (HX.out.1.below HBE.out (by omega)).cell 1
      have HLG := Lib.hid hgl
      have K0 := Lib.hid k0
      clear r0 hrow hcon hcl hN hlk how hgr hix hixl hgl q1
      go_wp2_with (go_at_call 74; refine CN.out.mono ?_; rintro e w' ⟨rfl, rfl⟩)
      go_loopw [15, 53] (fun _ i wi => ∃ (j : Nat) (A' : Option Addr) (c' : Nat) (av : List Value) (M : List (List Int)), j ≤ ix.length ∧ i = .int .i64 j ∧ Hid (M = joinTo xss yss left right k ++ (ix.take j).map fun i => xss[k] ++ yss.getD i []) ∧ OutAt w6.heap.size o9 wi (m + n) M A' c' av ∧ M.length ≤ 2000 ∧ Below o9 w6 wi) (fun _ i _ => ix.length - (intOf i).toNat)
      case atStart => exact ⟨0, A', c', av, _, Nat.zero_le _, rfl, Lib.hid (by simp), HOUT.out, hml, HBE.out⟩
      case round =>
        obtain ⟨j, A', c', av, M, hj, rfl, HMM, hout, hml2, hbe⟩ := hrel
        obtain ⟨wi, rfl⟩ : ∃ wi, wi = wr := ⟨_, rfl⟩
        have HOI := Lib.hid hout
        have HBE2 := Lib.hid hbe
        have B5I := Lib.hid (show Below w5.heap.size w5 wi from by rw [← HO9.out]; exact HB56.out.trans hbe)
        have BWI := Lib.hid (show Below w.heap.size w wi from HB6.out.trans (hbe.mono (by omega)))
        have hswi := hbe.size
        have hoi := HOI.out.le
        clear hout hbe
        by_cases hlj : j < ix.length
        · have hlen := HIX.out j hlj
          obtain ⟨A7, c7, e7, hc7, _⟩ := id (HUV.out ix[j] hlen)
          have HUI := Lib.hid ((HUV.out ix[j] hlen).on B5I.out)
          obtain ⟨b0, o0, Ar0, cr0, e5, _, kx, rx⟩ := (H0.out.below BWI.out (Nat.le_refl _)).get hlt
          injection e5 with e5
          injection e5 with e5 e6 _
          subst e5 e6
          have hbw : b < w.heap.size := hbB
          have kx2 : wi.cell? ⟨b, o + k, none⟩ = some (.slice Ar xss[k].length cr) := by
            have h1 := HBE2.out.block b (by omega)
            have h2 := HBE.out.block b (by omega)
            rw [cell_same (h1.trans h2.symm)]
            exact K0.out
          have ex := Option.some.inj (kx.symm.trans kx2)
          have hszi : w.heap.size ≤ wi.heap.size := by omega
          have HRI := Lib.hid (rx.more hszi)
          rw [ex] at HRI
          clear kx kx2 ex rx
          rw [e7] at HUI
          have hcell : ∃ g, A5 = some ⟨g, 0, none⟩ ∧ wi.cell? ⟨g, j, none⟩ = some (.slice A7 yss[ix[j]].length c7) := by
            have how2 := ownsRow_only (w' := wi) HOW.out fun g hg => by
              have hg9 := HLG.out g hg
              exact ((HBE2.out.block g hg9).trans (HBE.out.block g hg9).symm)
            have hcells := @World.ownsRow.cells wi (bm + 1) 42 1 _ ix.length _ how2
            rcases how2.2 with ⟨e, e0⟩ | ⟨g, cap, cur, e, _⟩
            · omega
            · injection e with e1 _ _
              refine ⟨g, e1, ?_⟩
              have := hcells (g := g) (by rw [e1]; rfl) j (uv ix[j]) (by simp [hlj])
              rw [Go.WideShapes.add_plain, Nat.zero_add, e7] at this
              exact this
          obtain ⟨g5, rfl, kj⟩ := hcell
          have hyl : yss[ix[j]].length ≤ 6 := by have := HP.out.rb.row hlen; simp only at this; omega
          have q9 : wi.cell? ⟨o9, 1, none⟩ = some (.slice A' M.length c') := HOI.out.box.cell 1
          by_cases hfull : M.length = 2000
          · have e1 : ((M.length : Int) == 2000) = true := by simp [hfull]
            have HE := Lib.hid (show R = (0, []) ∧ okR = false from by
              have := joinR_no (a := (m, xss)) (b := (n, yss)) (left := left) (right := right) fun h => by
                have h1 := h.few
                simp only at h1
                have h2 := joinTo_mono (xss := xss) (yss := yss) (left := left) (right := right) (show k + 1 ≤ xss.length by omega)
                rw [joinTo_succ hlt, List.length_append, HJR.out, List.length_map] at h2
                have h3 : M.length = (joinTo xss yss left right k).length + j := by rw [HMM.out, List.length_append, List.length_map, List.length_take]; omega
                omega
              exact ⟨HR.out.1.trans this.1, HR.out.2.trans this.2⟩)
            have z1 := HX.out.2.2.below HBE2.out (by omega)
            have b1c0 : wi.cell? ⟨w.heap.size + 2, 0, none⟩ = some (.int .i64 0) := z1.cell 0
            have b1c1 : wi.cell? ⟨w.heap.size + 2, 1, none⟩ = some (.slice none 0 0) := z1.cell 1
            have b1f0 := z1.frozen 0
            have b1f1 := z1.frozen 1
            clear hfull z1
            go_wp2_with fail
            refine bodyPost_ret (v := .tuple #[.agg #[.int .i64 0, .slice none 0 0], .bool false]) (by simp [results, Try.results38, go_sem, b1c0, b1c1]) rfl ?_
            rw [HE.out.1, HE.out.2]
            exact ⟨none, 0, rfl, OwnRows.none _ _ _, (BWI.out.setCell (by simp <;> omega) _).setCell (by simp <;> omega) _⟩
          · have e1 : ((M.length : Int) == 2000) = false := by simp; omega
            have HN := Lib.hid (show M ++ [xss[k] ++ yss[ix[j]]] = joinTo xss yss left right k ++ (ix.take (j + 1)).map fun i => xss[k] ++ yss.getD i [] by
              rw [take_snoc ix j hlj, List.map_append, ← List.append_assoc, ← HMM.out]
              simp [hlen])
            go_upto_region 13 with fail
            obtain ⟨SS, hSS⟩ : ∃ SS : World → Prop, SS = (fun W => W.cell? ⟨o9, 1, none⟩ = some (.slice A' M.length c')) := ⟨_, rfl⟩
            have HSS := Lib.hid (show ∀ W, Below w6.heap.size wi W → SS W from by
              rw [hSS]
              exact fun W hW => (hW.cell (p := ⟨o9, 1, none⟩) (by simp; omega)).trans q9)
            have HB := Lib.hid (show ∀ W, SS W → (W.cell? ⟨o9, 1, none⟩ = some (.slice A' M.length c') ∧ True) from by rw [hSS]; exact fun W hW => ⟨hW, trivial⟩)
            clear hSS q9 kj
            refine wp_region_rel SS 9 10 (by kernel_rfl) rfl ?_
            obtain ⟨wy, hwy⟩ : ∃ wy, wy = wi.drew := ⟨_, rfl⟩
            have HBY := Lib.hid (show Below wi.heap.size wi wy by rw [hwy]; exact (Below.refl _ _).drew)
            rw [← hwy]
            clear hwy
            have hsy := HBY.out.size
            have S0' := Lib.hid (HSS.out _ (HBY.out.mono hoi))
            refine wpAnyR_pure (i := 0) (oi := _) ?va0 rfl rfl (by kernel_rfl) (by decide) (fun _ _ _ h => h) rfl ?hya0 (fun _ => S0'.out) ?resta0
            case hya0 => (intro W; go_simp; (try with_reducible rfl))
            try simp only [List.setIfInBounds_toArray, List.set_cons_zero, List.set_cons_succ]
            refine wpAnyR_take (i := 1) (oi := _) ?va1 rfl rfl (by kernel_rfl) (fun _ _ _ h => h) rfl ?hya1 S0'.out ?resta1
            case hya1 => (intro W hW; obtain ⟨E0, _⟩ := HB.out W hW; go_simp; (try with_reducible rfl))
            try simp only [List.setIfInBounds_toArray, List.set_cons_zero, List.set_cons_succ]
            refine wpAnyR_pure (i := 2) (oi := _) ?va2 rfl rfl (by kernel_rfl) (by decide) (fun _ _ _ h => h) rfl ?hya2 (fun _ => S0'.out) ?resta2
            case hya2 => (intro W; go_simp; (try with_reducible rfl))
            try simp only [List.setIfInBounds_toArray, List.set_cons_zero, List.set_cons_succ]
            refine wpAnyR_pure (i := 3) (oi := _) ?va3 rfl rfl (by kernel_rfl) (by decide) (fun _ _ _ h => h) rfl ?hya3 (fun _ => S0'.out) ?resta3
            case hya3 => (intro W; go_simp; (try with_reducible rfl))
            try simp only [List.setIfInBounds_toArray, List.set_cons_zero, List.set_cons_succ]
            refine wpAnyR_one (i := 4) (by kernel_rfl) rfl (fun K hK => ?_)
            try rw [if_pos (show Region.wanted _ _ = true from rfl)]
            go_simp
            obtain ⟨W4, hW4⟩ : ∃ W4, W4 = wy.alloc (Obj.cells #[Value.slice Ar xss[k].length cr, Value.slice A7 yss[ix[j]].length c7] 42) := ⟨_, rfl⟩
            obtain ⟨g4, hg4⟩ : ∃ g4, g4 = wy.heap.size := ⟨_, rfl⟩
            have hb4' : Below wy.heap.size wy W4 := by rw [hW4]; exact below1 _ _
            have hk4 : Blk W4 g4 42 #[.slice Ar xss[k].length cr, .slice A7 yss[ix[j]].length c7] := by rw [hW4, hg4]; exact Blk.new _ _ _
            rw [← hW4, ← hg4]
            have HB4 := Lib.hid (bthen HBY.out hb4')
            have S1' := Lib.hid (HSS.out _ (HB4.out.mono hoi))
            have HK4 := Lib.hid hk4
            clear hW4 hg4 hb4' hk4
            refine hK.out _ _ (fun _ => S1'.out) ?_
            clear hK K
            try simp only [List.setIfInBounds_toArray, List.set_cons_zero, List.set_cons_succ, Act.put]
            refine wpAnyR_one (i := 5) (by kernel_rfl) rfl (fun K hK => ?_)
            try rw [if_pos (show Region.wanted _ _ = true from rfl)]
            go_simp
            refine (concatI_any g4 2 (.slice Ar xss[k].length cr) (.slice A7 yss[ix[j]].length c7) xss[k] yss[ix[j]] W4 (HK4.out.cell 0) (HK4.out.cell 1) (HRI.out.on HB4.out) (HUI.out.on HB4.out) (by omega)).mono ?_
            rintro e W5 ⟨A6, c6, rfl, ho6, hb6⟩
            have HO7 := Lib.hid (show OwnInts W5 wi.heap.size W5.heap.size (.slice A6 (xss[k] ++ yss[ix[j]]).length c6) (xss[k] ++ yss[ix[j]]) ∧ Below wi.heap.size wi W5 from ⟨ho6.mono HB4.out.size (Nat.le_refl _), bthen HB4.out hb6⟩)
            have S2 := Lib.hid (HSS.out _ (HO7.out.2.mono hoi))
            obtain ⟨rw', hrw'⟩ : ∃ r, r = xss[k] ++ yss[ix[j]] := ⟨_, rfl⟩
            rw [← hrw'] at HO7 HN ⊢
            clear hrw' ho6 hb6
            refine hK.out _ _ (fun _ => S2.out) ?_
            clear hK K
            try simp only [List.setIfInBounds_toArray, List.set_cons_zero, List.set_cons_succ, Act.put]
            refine wpAnyR_one (i := 6) (by kernel_rfl) rfl (fun K hK => ?_)
            try rw [if_pos (show Region.wanted _ _ = true from rfl)]
            go_simp
            have S3 := Lib.hid (HSS.out _ ((bthen HO7.out.2 (below1 W5 (Obj.cells #[Value.slice A6 rw'.length c6] 42))).mono hoi))
            refine hK.out _ _ (fun _ => S3.out) ?_
            clear hK K
            try simp only [List.setIfInBounds_toArray, List.set_cons_zero, List.set_cons_succ, Act.put]
            refine wpAnyR_one (i := 7) (by kernel_rfl) rfl (fun K hK => ?_)
            refine step_append_lies _ rfl (.tmp 63) (.tmp 68) 22 rfl w6.heap.size 42 i0 (.slice none 0 0) 1 24 Try.underlying22 hi0 hz0 hz1 hz2 rfl (by decide) (.slice A' M.length c') M.length av rfl ?c1 ⟨W5.heap.size, 0, none⟩ 1 1 [.slice A6 rw'.length c6] rfl rfl ?c4 ?c2 (by omega) (by unfold maxLen; omega) (by omega) ?c3 _ rfl ?c5
            case c1 => exact (HOI.out.on HO7.out.2).row.alloc _
            case c4 => exact World.news_of_block (cs := #[.slice A6 rw'.length c6]) (heap_alloc_new W5 _)
            case c2 => intro u hu; simp at hu; subst hu; rfl
            case c3 => have := HO7.out.2.size; simp; omega
            case c5 =>
            intro g2 cap w7 hown hgr hat _
            have hpush := HOI.out.push (xs := rw') HO7.out.2 HO7.out.1 hgr hown
            have hgrown := HOI.out.grown HO7.out.2 hgr
            have S4 := Lib.hid (HSS.out w7 hgrown)
            have hbx := HOI.out.box.below hgrown (by omega)
            have g1 : w7.cell? ⟨o9, 1, none⟩ = some (.slice A' M.length c') := hbx.cell 1
            have g1f := hbx.frozen 1
            have HPU := Lib.hid hpush
            clear hpush hown hgr hat hgrown hbx
            refine hK.out _ _ (fun _ => S4.out) ?_
            clear hK K
            try simp only [List.setIfInBounds_toArray, Act.put]
            refine wpAnyR_pure (i := 8) (oi := _) ?vb8 rfl rfl (by kernel_rfl) (by decide) (fun _ _ _ h => h) rfl ?hyb8 (fun _ => S4.out) ?restb8
            case hyb8 => (intro W; go_simp; (try with_reducible rfl))
            try simp only [List.setIfInBounds_toArray, List.set_cons_zero, List.set_cons_succ]
            refine wpAnyR_one (i := 9) (by kernel_rfl) rfl (fun K hK => ?_)
            go_simp
            refine hK.out _ _ (fun hf => absurd hf (by decide)) ?_
            clear hK K
            refine wpAnyR_done (by kernel_rfl) ?_
            go_wp2_with fail
            go_roundw
            case rel => exact ⟨j + 1, _, _, _, _, by omega, by go_num, HN, HPU.out.1, by simp; omega, HBE2.out.trans HPU.out.2⟩
            case measure => simp [intOf]; omega
        · have HN := Lib.hid (show M = joinTo xss yss left right (k + 1) by rw [HMM.out, joinTo_succ hlt, HJR.out, show j = ix.length by omega, List.take_length])
          go_wp2_with fail
          go_roundw
          case rel => exact ⟨k + 1, A', c', av, by omega, by go_num, by rw [← HN.out]; exact HOI.out, by rw [← HN.out]; exact hml2, HBE2.out⟩
          case measure => simp [intOf]; omega
    · have hkn : k = xss.length := by omega
      rw [hkn] at HOUT hml
      have z1 := HX.out.2.2.below HBE.out (by omega)
      have b1c0 : wo.cell? ⟨w.heap.size + 2, 0, none⟩ = some (.int .i64 0) := z1.cell 0
      have b1c1 : wo.cell? ⟨w.heap.size + 2, 1, none⟩ = some (.slice none 0 0) := z1.cell 1
      have b1f0 := z1.frozen 0
      have b1f1 := z1.frozen 1
      obtain ⟨M, hM⟩ : ∃ M, M = joinTo xss yss left right xss.length := ⟨_, rfl⟩
      have HMM := Lib.hid hM
      rw [← hM] at HOUT hml
      clear hM
      have d0 : wo.cell? ⟨o9, 0, none⟩ = some (.int .i64 (m + n)) := HOUT.out.box.cell 0
      have d1 : wo.cell? ⟨o9, 1, none⟩ = some (.slice A' M.length c') := HOUT.out.box.cell 1
      clear hkn z1
      have HE := Lib.hid (show R = (m + n, M) ∧ okR = true from by
        have := joinR_yes (a := (m, xss)) (b := (n, yss)) (left := left) (right := right) ⟨HP.out, HW6.out, by simp only; rw [← HMM.out]; omega⟩
        exact ⟨HR.out.1.trans (by rw [this.1, HMM.out]), HR.out.2.trans this.2⟩)
      go_wp2_with fail
      refine bodyPost_ret (v := .tuple #[.agg #[.int .i64 (m + n), .slice A' M.length c'], .bool true]) (by simp [results, Try.results38, go_sem, b1c0, b1c1]) rfl ?_
      rw [HE.out.1, HE.out.2]
      refine ⟨A', c', rfl, ?_, (BW.out.setCell (by simp <;> omega) _).setCell (by simp <;> omega) _⟩
      have hrw := HOUT.out.rows
      have h1 := (hrw.only (Only.setCell (Only.refl 0 (w.heap.size + 3) wo) (p := ⟨w.heap.size + 2, 0, none⟩) ⟨Nat.zero_le _, by simp⟩ (.int .i64 (m + n))) (.inr (by omega)))
      have h2 := (h1.only (Only.setCell (Only.refl 0 (w.heap.size + 3) _) (p := ⟨w.heap.size + 2, 1, none⟩) ⟨Nat.zero_le _, by simp⟩ (.slice A' M.length c')) (.inr (by omega)))
      exact h2.mono (by omega) (by simp)

end Go.Proofs.Ytchincemlilnoaa
/-
  RelTimes of both sides.
-/
namespace Go.Proofs.Ytchincemlilnoaa
open Go.RowKit

theorem rdNil (w : World) (B : Nat) : RdInts w B (.slice none 0 0) [] := ⟨none, 0, rfl, Nat.le_refl _, fun h => absurd h (by simp)⟩

set_option maxHeartbeats 2000000 in
set_option maxRecDepth 100000 in
theorem specRelTimes_any (v0 v1 : Value) (a b : LRel) (R : LRel) (hR : R = joinR a b [] []) (okR : Bool) (hok : okR = joinK a b [] []) (w : World) (h0 : RdRel w w.heap.size v0 a) (h1 : RdRel w w.heap.size v1 b)
    (s0 : szRows a.2 ≤ 1048576) (s1 : szRows b.2 ≤ 1048576) :
    Calls Try.prog 35 #[v0, v1] w fun e w' => ∃ A' c', e = .returned (.tuple #[.agg #[.int .i64 R.1, .slice A' R.2.length c'], .bool okR]) ∧ OwnRows w' w.heap.size w'.heap.size (.slice A' R.2.length c') R.2 ∧ Below w.heap.size w w' := by
  obtain ⟨a0, rfl, h0⟩ := h0
  have H0 := Lib.hid h0
  obtain ⟨A, c, rfl, _, _⟩ := h0
  obtain ⟨a1, rfl, h1⟩ := h1
  have H1 := Lib.hid h1
  obtain ⟨A1, c1, rfl, _, _⟩ := h1
  obtain ⟨m, xss⟩ := a
  obtain ⟨n, yss⟩ := b
  simp only at H0 H1 s0 s1
  obtain ⟨w3, hw3⟩ : ∃ w3, w3 = ((w.alloc (Obj.cells #[Value.int IntKind.i64 m, Value.slice A xss.length c] 27)).alloc (Obj.cells #[Value.int IntKind.i64 n, Value.slice A1 yss.length c1] 27)).alloc (Obj.cells #[Value.int IntKind.i64 0, Value.slice none 0 0] 27) := ⟨_, rfl⟩
  have B3 : Below w.heap.size w w3 := by rw [hw3]; exact below3 _ _ _ _
  have s3' : w3.heap.size = w.heap.size + 3 := by rw [hw3]; simp
  have x2 : Blk w3 (w.heap.size + 2) 27 #[.int .i64 0, .slice none 0 0] := by
    rw [hw3]
    simpa using Blk.new ((w.alloc (Obj.cells #[Value.int IntKind.i64 m, Value.slice A xss.length c] 27)).alloc (Obj.cells #[Value.int IntKind.i64 n, Value.slice A1 yss.length c1] 27)) 27 #[.int .i64 0, .slice none 0 0]
  have HX := Lib.hid x2
  clear x2
  go_enter Try.func35, Try.ntmps35
  go_wp2_with fail
  rw [← hw3]
  clear hw3
  refine (specRelJoin_any _ _ _ _ (m, xss) (n, yss) [] [] R hR okR hok _ ⟨_, rfl, H0.out.on B3⟩ ⟨_, rfl, H1.out.on B3⟩ (rdNil _ _) (rdNil _ _) s0 s1 (by simp) (by simp)).mono ?_
  rintro e w7 ⟨A7, c7, rfl, ho7, hb7⟩
  have z7 := HX.out.below hb7 HX.out.lt
  have b1c0 : w7.cell? ⟨w.heap.size + 2, 0, none⟩ = some (.int .i64 0) := z7.cell 0
  have b1c1 : w7.cell? ⟨w.heap.size + 2, 1, none⟩ = some (.slice none 0 0) := z7.cell 1
  have b1f0 := z7.frozen 0
  have b1f1 := z7.frozen 1
  have B7 := bthen B3 hb7
  have HO := Lib.hid ho7
  clear ho7 z7 hR hok
  go_wp2_with fail
  refine bodyPost_ret (v := .tuple #[.agg #[.int .i64 R.1, .slice A7 R.2.length c7], .bool okR]) (by simp [results, Try.results35, go_sem, b1c0, b1c1]) rfl ?_
  refine ⟨A7, c7, rfl, ?_, (B7.setCell (by simp <;> omega) _).setCell (by simp <;> omega) _⟩
  have hrw := HO.out
  have h1 := (hrw.only (Only.setCell (Only.refl 0 (w.heap.size + 3) w7) (p := ⟨w.heap.size + 2, 0, none⟩) ⟨Nat.zero_le _, by simp⟩ (.int .i64 R.1)) (.inr (by omega)))
  have h2 := (h1.only (Only.setCell (Only.refl 0 (w.heap.size + 3) _) (p := ⟨w.heap.size + 2, 1, none⟩) ⟨Nat.zero_le _, by simp⟩ (.slice A7 R.2.length c7)) (.inr (by omega)))
  exact h2.mono (by omega) (by simp)

set_option maxHeartbeats 2000000 in
set_option maxRecDepth 100000 in
theorem implRelTimes_any (v0 v1 : Value) (a b : LRel) (R : LRel) (hR : R = joinR a b [] []) (okR : Bool) (hok : okR = joinK a b [] []) (w : World) (h0 : RdRel w w.heap.size v0 a) (h1 : RdRel w w.heap.size v1 b)
    (s0 : szRows a.2 ≤ 1048576) (s1 : szRows b.2 ≤ 1048576) :
    Calls Try.prog 36 #[v0, v1] w fun e w' => ∃ A' c', e = .returned (.tuple #[.agg #[.int .i64 R.1, .slice A' R.2.length c'], .bool okR]) ∧ OwnRows w' w.heap.size w'.heap.size (.slice A' R.2.length c') R.2 ∧ Below w.heap.size w w' := by
  obtain ⟨a0, rfl, h0⟩ := h0
  have H0 := Lib.hid h0
  obtain ⟨A, c, rfl, _, _⟩ := h0
  obtain ⟨a1, rfl, h1⟩ := h1
  have H1 := Lib.hid h1
  obtain ⟨A1, c1, rfl, _, _⟩ := h1
  obtain ⟨m, xss⟩ := a
  obtain ⟨n, yss⟩ := b
  simp only at H0 H1 s0 s1
  obtain ⟨w3, hw3⟩ : ∃ w3, w3 = ((w.alloc (Obj.cells #[Value.int IntKind.i64 m, Value.slice A xss.length c] 27)).alloc (Obj.cells #[Value.int IntKind.i64 n, Value.slice A1 yss.length c1] 27)).alloc (Obj.cells #[Value.int IntKind.i64 0, Value.slice none 0 0] 27) := ⟨_, rfl⟩
  have B3 : Below w.heap.size w w3 := by rw [hw3]; exact below3 _ _ _ _
  have s3' : w3.heap.size = w.heap.size + 3 := by rw [hw3]; simp
  have x2 : Blk w3 (w.heap.size + 2) 27 #[.int .i64 0, .slice none 0 0] := by
    rw [hw3]
    simpa using Blk.new ((w.alloc (Obj.cells #[Value.int IntKind.i64 m, Value.slice A xss.length c] 27)).alloc (Obj.cells #[Value.int IntKind.i64 n, Value.slice A1 yss.length c1] 27)) 27 #[.int .i64 0, .slice none 0 0]
  have HX := Lib.hid x2
  clear x2
  go_enter Try.func36, Try.ntmps36
  go_wp2_with fail
  rw [← hw3]
  clear hw3
  refine (implRelJoin_any _ _ _ _ (m, xss) (n, yss) [] [] R hR okR hok _ ⟨_, rfl, H0.out.on B3⟩ ⟨_, rfl, H1.out.on B3⟩ (rdNil _ _) (rdNil _ _) s0 s1 (by simp) (by simp)).mono ?_
  rintro e w7 ⟨A7, c7, rfl, ho7, hb7⟩
  have z7 := HX.out.below hb7 HX.out.lt
  have b1c0 : w7.cell? ⟨w.heap.size + 2, 0, none⟩ = some (.int .i64 0) := z7.cell 0
  have b1c1 : w7.cell? ⟨w.heap.size + 2, 1, none⟩ = some (.slice none 0 0) := z7.cell 1
  have b1f0 := z7.frozen 0
  have b1f1 := z7.frozen 1
  have B7 := bthen B3 hb7
  have HO := Lib.hid ho7
  clear ho7 z7 hR hok
  go_wp2_with fail
  refine bodyPost_ret (v := .tuple #[.agg #[.int .i64 R.1, .slice A7 R.2.length c7], .bool okR]) (by simp [results, Try.results36, go_sem, b1c0, b1c1]) rfl ?_
  refine ⟨A7, c7, rfl, ?_, (B7.setCell (by simp <;> omega) _).setCell (by simp <;> omega) _⟩
  have hrw := HO.out
  have h1 := (hrw.only (Only.setCell (Only.refl 0 (w.heap.size + 3) w7) (p := ⟨w.heap.size + 2, 0, none⟩) ⟨Nat.zero_le _, by simp⟩ (.int .i64 R.1)) (.inr (by omega)))
  have h2 := (h1.only (Only.setCell (Only.refl 0 (w.heap.size + 3) _) (p := ⟨w.heap.size + 2, 1, none⟩) ⟨Nat.zero_le _, by simp⟩ (.slice A7 R.2.length c7)) (.inr (by omega)))
  exact h2.mono (by omega) (by simp)

end Go.Proofs.Ytchincemlilnoaa
