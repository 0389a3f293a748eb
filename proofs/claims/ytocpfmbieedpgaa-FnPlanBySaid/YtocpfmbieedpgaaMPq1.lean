/-
  The law FnPlanBy: for every input the call returns true, and each argument reads behind it as it read before. Conditions: none but the row's own.
-/
import Derived.Test.YtocpfmbieedpgaaMPp4
import Derived.Test.YtocpfmbieedpgaaMPr2
import Derived.Test.YtocpfmbieedpgaaMPo1
import Derived.Test.YtocpfmbieedpgaaMPb1
import Derived.Test.YtocpfmbieedpgaaRows
/-
  The draw of PlanBy's arguments.
-/
namespace Go.Proofs.Ytocpfmbieedpgaa
open Go.RowKit

set_option maxHeartbeats 1000000 in
set_option maxRecDepth 100000 in
theorem drawPlanBy_any (v : Value) (code : List Nat) (w : World) (h : RdBytes w w.heap.size v code) (hby : ∀ b ∈ code, b < 256) (hn : code.length ≤ 1073741824) :
    Calls Try.prog 19 #[v] w fun e w' => ∃ (ar : List Int) (r : LRule) (ys : List Int) (A : Option Addr) (c : Nat) (A2 : Option Addr) (c2 : Nat) (A3 : Option Addr) (c3 : Nat) (A9 : Option Addr) (c9 : Nat),
      e = .returned (.tuple #[.slice A ar.length c, .agg #[.int .i64 r.1.1, .slice A2 r.1.2.length c2, .slice A3 r.2.length c3], .slice A9 ys.length c9]) ∧ ar.length ≤ 5 ∧ szR r ≤ 16 ∧ ys.length ≤ 16 ∧
      RdInts w' w'.heap.size (.slice A ar.length c) ar ∧ RdInts w' w'.heap.size (.slice A2 r.1.2.length c2) r.1.2 ∧ RdLits w' w'.heap.size (.slice A3 r.2.length c3) r.2 ∧ RdInts w' w'.heap.size (.slice A9 ys.length c9) ys ∧ Below w.heap.size w w' := by
  obtain ⟨i0, hi0, hz0, hz1, hz2⟩ := info_parts Try.infoInt
  have HV := Lib.hid h
  clear h
  go_enter Try.func19, Try.ntmps19
  go_upto_region 1 with fail
  obtain ⟨w0, hw0⟩ : ∃ w0, w0 = w.alloc (Obj.cells #[Value.int IntKind.i64 0, Value.slice none 0 0, Value.slice none 0 0] 28) := ⟨_, rfl⟩
  have HRA := Lib.hid (show Blk w0 w.heap.size 28 #[.int .i64 0, .slice none 0 0, .slice none 0 0] by rw [hw0]; exact Blk.new _ _ _)
  have HB0 := Lib.hid (show Below w.heap.size w w0 by rw [hw0]; exact below1 _ _)
  rw [← hw0]
  clear hw0
  obtain ⟨g, hg⟩ : ∃ g, g = w0.heap.size := ⟨_, rfl⟩
  go_upto_region 3 with (first
    | (go_at_call 45; refine (l40Open_any v code w0 (HV.out.onP HB0.out) hby hn).mono ?_
       rintro e w1 ⟨rfl, hr1, hb1⟩
       rw [← hg] at hr1 ⊢
       have hg1 : g < w1.heap.size := hr1.lt
       have HB1 := Lib.hid (bthen HB0.out hb1)
       have HRA1 := Lib.hid (HRA.out.below hb1 HRA.out.lt)
       obtain ⟨bs, hbs⟩ : ∃ bs, bs = code.take 2000 := ⟨_, rfl⟩
       rw [← hbs] at hr1
       have CC := Lib.hid (l10Case_any g bs 0 w1 hr1 (by omega))
       have HGL := Lib.hid (And.intro hg1 (show w.heap.size < g from by rw [hg]; exact HRA.out.lt))
       clear hb1 hr1 hbs hg1 hg)
    | (go_at_call 44; refine CC.out.mono ?_
       rintro e w2 ⟨A, Af, A2, A3, c, cf, c2, c3, q, ar, fs, r, rfl, h1, h2, _, _, _, hq, ra, _, rh, rb, rr, ho⟩
       have HQ := Lib.hid (And.intro ra (And.intro rh (And.intro rb rr)))
       have HO := Lib.hid ho
       clear ra rh rb ho rr))
  have hrl : r.2.length ≤ 16 := by unfold szR at h2; omega
  obtain ⟨w3, hw3⟩ : ∃ w3, w3 = w2.alloc (Obj.cells #[.int .i64 r.1.1, .slice A2 r.1.2.length c2, .slice A3 r.2.length c3] 28) := ⟨_, rfl⟩
  have b23 : Below w2.heap.size w2 w3 := by rw [hw3]; exact below1 _ _
  have XD := Lib.hid (show Blk w3 w2.heap.size 28 #[.int .i64 r.1.1, .slice A2 r.1.2.length c2, .slice A3 r.2.length c3] by rw [hw3]; exact Blk.new _ _ _)
  rw [← hw3]
  clear hw3
  have hs2 := HO.out.size
  have hsw : w.heap.size < w1.heap.size := HRA1.out.lt
  have HRA3 := Lib.hid ((HO.out.blk HRA1.out (.inl (by have := HGL.out; omega))).below b23 (by omega))
  have hg3 : g < w2.heap.size := by have := HGL.out; omega
  have HR3 := Lib.hid (HQ.out.2.2.2.below b23 hg3)
  have HQ3 := Lib.hid (And.intro (HQ.out.1.below b23 (Nat.le_refl _)) (And.intro (HQ.out.2.1.below b23 (Nat.le_refl _)) (HQ.out.2.2.1.below b23 (Nat.le_refl _))))
  have HB3 := Lib.hid (bthen (HB1.out.trans (HO.out.below (by have := HGL.out; omega) HB1.out.size)) b23)
  have HS3 := Lib.hid (And.intro hs2 (And.intro hsw (And.intro hg3 b23.size)))
  obtain ⟨D, hD⟩ : ∃ D, D = w2.heap.size := ⟨_, rfl⟩
  rw [← hD] at XD ⊢
  have HD := Lib.hid hD
  have HXL := Lib.hid (show D < w3.heap.size from XD.out.lt)
  clear hs2 hsw hg3 b23 hD
  go_upto_region 4 with fail
  obtain ⟨w4, hw4⟩ : ∃ w4, w4 = w3.alloc (.cells #[] 3) := ⟨_, rfl⟩
  have H4 := Lib.hid (show OwnInts w4 w3.heap.size w4.heap.size (.slice (some ⟨w3.heap.size, 0, none⟩) 0 0) [] ∧ Below w3.heap.size w3 w4 from by
    rw [hw4]
    exact ⟨⟨World.ownsRow_made w3 #[] 0 (Nat.le_refl _) (by decide) rfl, fun g hg => (by simp [Value.ownBlock] at hg; subst hg; simp)⟩, below1 _ _⟩)
  rw [← hw4]
  clear hw4
  go_wp2_with fail
  go_loopw [9, 10] (fun p i wr => ∃ (k : Nat) (A9 : Option Addr) (c9 : Nat) (ys : List Int), k ≤ r.2.length ∧ i = .int .i64 k ∧ p = .slice A9 ys.length c9 ∧ ys.length = k ∧ OwnInts wr w3.heap.size wr.heap.size (.slice A9 ys.length c9) ys ∧ Below w3.heap.size w3 wr) (fun _ i _ => r.2.length - (intOf i).toNat)
  case atStart => exact ⟨0, _, _, [], Nat.zero_le _, rfl, rfl, rfl, H4.out.1, H4.out.2⟩
  case round =>
    obtain ⟨k, A9, c9, ys, hk, rfl, rfl, hyl, hy, hbe⟩ := hrel
    have HY := Lib.hid hy
    have HBE := Lib.hid hbe
    have xr := XD.out.below hbe HXL.out
    have q0 : wr.cell? ⟨D, 0, none⟩ = some (.int .i64 r.1.1) := xr.cell 0
    have q1 : wr.cell? ⟨D, 1, none⟩ = some (.slice A2 r.1.2.length c2) := xr.cell 1
    have q2 : wr.cell? ⟨D, 2, none⟩ = some (.slice A3 r.2.length c3) := xr.cell 2
    clear xr hy hbe
    by_cases hlt : k < r.2.length
    · have hy16 : ys.length ≤ 16 := by omega
      have HYL := Lib.hid hyl
      clear hyl
      go_upto_region 7 with fail
      go_wp2_with (at_builtin; refine wpList_append_lies _ rfl (.tmp 30) (.tmp 32) 23 rfl w3.heap.size 3 i0 (.int .i64 0) 1 8 Try.underlying23 hi0 hz0 hz1 hz2 rfl (by decide) (.slice A9 ys.length c9) ys.length (ys.map (Value.int .i64)) rfl ?c1 ⟨wr.heap.size, 0, none⟩ 1 1 [.int .i64 (k : Int)] rfl rfl (cell_one_new _ _ _) ?c2 (by omega) (by unfold maxLen; omega) (by omega) ?c3 _ rfl ?_)
      case c1 => exact HY.out.1.alloc _
      case c2 => first | (intro u hu; simp at hu; subst hu; rfl) | rfl
      case c3 => have := HBE.out.size; simp; omega
      intro g2 cap w5 hown hgr _ _
      have HN := Lib.hid (show OwnInts w5 w3.heap.size w5.heap.size (.slice (some ⟨g2, 0, none⟩) (ys ++ [(k : Int)]).length cap) (ys ++ [(k : Int)]) ∧ Below w3.heap.size w3 w5 from by
        refine ⟨⟨?_, fun q hq => (hown.lt q (by simpa [Value.ownBlock] using hq)).2⟩, (HBE.out.alloc HBE.out.size _).grown hgr (by have := HBE.out.size; simp; omega) fun q hq => (HY.out.lt hq).1⟩
        rw [List.map_append, show (ys ++ [(k : Int)]).length = ys.length + 1 by simp]
        exact hown)
      clear hown hgr q0 q1 q2
      go_wp2_with fail
      go_roundw
      case rel => exact ⟨k + 1, some ⟨g2, 0, none⟩, cap, ys ++ [(k : Int)], by omega, by go_num, by simp, by simp [HYL.out], HN.out.1, HN.out.2⟩
      case measure => simp [intOf]; omega
    · obtain rfl : k = r.2.length := by omega
      have HYB := Lib.hid (show ys.length ≤ 16 by omega)
      have hy16 := HYB.out
      obtain ⟨SS, hSS⟩ : ∃ SS : World → Prop, SS = (fun W => W.cell? ⟨D, 0, none⟩ = some (.int .i64 r.1.1) ∧ W.cell? ⟨D, 1, none⟩ = some (.slice A2 r.1.2.length c2) ∧ W.cell? ⟨D, 2, none⟩ = some (.slice A3 r.2.length c3)) := ⟨_, rfl⟩
      have HB := Lib.hid (show ∀ W, SS W → (W.cell? ⟨D, 0, none⟩ = some (.int .i64 r.1.1) ∧ W.cell? ⟨D, 1, none⟩ = some (.slice A2 r.1.2.length c2) ∧ W.cell? ⟨D, 2, none⟩ = some (.slice A3 r.2.length c3)) from by rw [hSS]; exact fun W hW => hW)
      have HS := Lib.hid (show ∀ W, Only g (g + 1) w3 W → SS W from by
        rw [hSS]
        intro W hW
        have y := hW.blk XD.out (by have := HS3.out.2.2.1; have := HD.out; omega)
        exact ⟨y.cell 0, y.cell 1, y.cell 2⟩)
      have HG3 := Lib.hid (show g < w3.heap.size from by have := HS3.out; omega)
      have HL0 := Lib.hid (show Rdr wr g bs q ∧ Only g (g + 1) w3 wr from ⟨HR3.out.below HBE.out HG3.out, Only.of_below HBE.out⟩)
      have hq5 : q ≤ 5000 := by omega
      clear hSS hyl
      go_wp2_with fail
      clear q0 q1 q2
      go_loopw [11, 12, 13] (fun i _ _ wx => ∃ (z : Int) (zs : List Int) (q' : Nat), -1 ≤ z ∧ z < 16 ∧ z < (ys.length : Int) ∧ i = .int .i64 z ∧ zs.length = ys.length ∧ OwnInts wx w3.heap.size wx.heap.size (.slice A9 ys.length c9) zs ∧ Rdr wx g bs q' ∧ q' + z.toNat ≤ 5016 ∧ Only g (g + 1) w3 wx) (fun i _ _ _ => (intOf i + 1).toNat)
      case atStart => exact ⟨(ys.length : Int) - 1, ys, q, by omega, by omega, by omega, by go_num, rfl, HY.out, HL0.out.1, by omega, HL0.out.2⟩
      case round =>
        rename World => wx
        obtain ⟨z, zs, q', hz1, hz2, hz3, rfl, hzl, hzo, hzr, hzq, hzb⟩ := hrel
        have HZ := Lib.hid (And.intro hzl (And.intro hzo (And.intro hzr hzb)))
        by_cases hp : 0 < z
        · obtain ⟨zi, rfl⟩ : ∃ zi : Nat, z = (zi : Int) := ⟨z.toNat, by omega⟩
          obtain ⟨g9, rfl⟩ : ∃ g9, A9 = some ⟨g9, 0, none⟩ := by
            rw [← hzl] at hzo
            obtain ⟨g2, cap, e, _⟩ := hzo.1.form (by omega)
            injection e with e1 _ _
            exact ⟨g2, e1⟩
          clear hzl hzo hzr hzb
          go_upto_region 12 with (go_at_call 59; refine (pick_any g bs q' ((zi : Int) + 1) wx HZ.out.2.2.1 (by omega) (by omega)).mono ?_; rintro e w6 ⟨⟨x, rfl, hx⟩, hpk⟩)
          have hzi : zi < zs.length := by have := HZ.out.1; omega
          have hxr := hx.1 (by omega)
          obtain ⟨xi, rfl⟩ : ∃ xi : Nat, x = (xi : Int) := ⟨x.toNat, by omega⟩
          have hxi : xi < zs.length := by omega
          have HZ6 := Lib.hid (show zs.length = ys.length ∧ OwnInts w6 w3.heap.size w6.heap.size (.slice (some ⟨g9, 0, none⟩) zs.length c9) zs ∧ Rdr w6 g bs (q' + 1) ∧ Only g (g + 1) w3 w6 from
            ⟨HZ.out.1, by rw [HZ.out.1]; exact (HZ.out.2.1.only hpk.2 (.inr HG3.out)).mono (Nat.le_refl _) hpk.2.size, hpk.1, HZ.out.2.2.2.trans hpk.2⟩)
          clear hpk hx
          have hgl := (HZ6.out.2.1.lt (g := g9) rfl).1
          have r0 := HZ6.out.2.1.1.cellAt zi (by omega)
          have r1 := HZ6.out.2.1.1.cellAt xi (by omega)
          have f0 := HZ6.out.2.1.1.frozenAt zi
          rw [show (zs.map (Value.int .i64))[zi]? = some (.int .i64 zs[zi]) by simp [hzi]] at r0
          rw [show (zs.map (Value.int .i64))[xi]? = some (.int .i64 zs[xi]) by simp [hxi]] at r1
          obtain ⟨va, hva⟩ : ∃ va, va = zs[zi] := ⟨_, rfl⟩
          obtain ⟨vb, hvb⟩ : ∃ vb, vb = zs[xi] := ⟨_, rfl⟩
          rw [← hva] at r0
          rw [← hvb] at r1
          clear hva hvb
          have hxl : (xi : Int) < (ys.length : Int) := by have := HZ6.out.1; omega
          go_upto_region 14 with fail
          obtain ⟨w7, hw7⟩ : ∃ w7, w7 = w6.setCell ⟨g9, zi, none⟩ (.int .i64 vb) := ⟨_, rfl⟩
          have HZ7 := Lib.hid (show OwnInts w7 w3.heap.size w7.heap.size (.slice (some ⟨g9, 0, none⟩) (zs.set zi vb).length c9) (zs.set zi vb) ∧ Rdr w7 g bs (q' + 1) ∧ Only g (g + 1) w3 w7 from by
            rw [hw7]
            refine ⟨?_, HZ6.out.2.2.1.same fun k hk => Below.heap_setCell _ _ _ k (by show k ≠ g9; have := HG3.out; omega), HZ6.out.2.2.2.setNew hgl _⟩
            rw [List.length_set]
            exact (HZ6.out.2.1.store rfl hzi vb).mono (Nat.le_refl _) (by simp))
          rw [← hw7]
          clear hw7 r0 r1 f0
          have hxi7 : xi < (zs.set zi vb).length := by simpa using hxi
          have s0 := HZ7.out.1.1.cellAt xi (by omega)
          have f1 := HZ7.out.1.1.frozenAt xi
          rw [show ((zs.set zi vb).map (Value.int .i64))[xi]? = some (.int .i64 (zs.set zi vb)[xi]) by rw [List.getElem?_eq_getElem (by simpa using hxi), List.getElem_map]] at s0
          obtain ⟨vc, hvc⟩ : ∃ vc, vc = (zs.set zi vb)[xi] := ⟨_, rfl⟩
          rw [← hvc] at s0
          clear hvc
          go_wp2_with fail
          go_roundw
          case rel =>
            refine ⟨(zi : Int) - 1, (zs.set zi vb).set xi va, q' + 1, by omega, by omega, by omega, by go_num, by simp [HZ6.out.1], ?_, HZ7.out.2.1.same fun k hk => Below.heap_setCell _ _ _ k (by show k ≠ g9; have := HG3.out; omega), by omega, HZ7.out.2.2.setNew hgl _⟩
            have := (HZ7.out.1.store rfl hxi7 va).mono (Nat.le_refl _) (show w7.heap.size ≤ (w7.setCell ⟨g9, xi, none⟩ (.int .i64 va)).heap.size by simp)
            rw [List.length_set, HZ6.out.1] at this
            exact this
          case measure => simp [intOf]
        · clear hzl hzo hzr hzb
          have HE := Lib.hid (show OwnInts wx w3.heap.size wx.heap.size (.slice A9 ys.length c9) zs ∧ zs.length = ys.length ∧ Only g (g + 1) w3 wx from ⟨HZ.out.2.1, HZ.out.1, HZ.out.2.2.2⟩)
          by_cases hn0 : ys.length = 0
          · have l0 : decide (0 < (ys.length : Int)) = false := by simp [hn0]
            have l1 : decide (0 < ys.length) = false := by simp [hn0]
            clear hn0
            go_upto_region 17 with fail
            have S0a := HS.out _ (HE.out.2.2.trans ⟨rfl, rfl, rfl, Nat.le_refl _, fun _ _ _ => rfl⟩ : Only g (g + 1) w3 wx.drew)
            refine wp_region_rel SS 4 6 (by kernel_rfl) rfl ?_
            obtain ⟨wy, hwy⟩ : ∃ wy, wy = wx.drew := ⟨_, rfl⟩
            have HYa := Lib.hid (show OwnInts wy w3.heap.size wy.heap.size (.slice A9 ys.length c9) zs ∧ Only g (g + 1) w3 wy from by rw [hwy]; exact ⟨HE.out.1, HE.out.2.2.trans ⟨rfl, rfl, rfl, Nat.le_refl _, fun _ _ _ => rfl⟩⟩)
            rw [← hwy] at S0a ⊢
            clear hwy
            refine wpAnyR_pure (i := 0) (oi := _) ?va0 rfl rfl (by kernel_rfl) (by decide) (fun _ _ _ h => h) rfl ?hya0 (fun _ => S0a) ?resta0
            case hya0 => (intro W; go_simp; (try with_reducible rfl))
            try simp only [List.setIfInBounds_toArray, List.set_cons_zero, List.set_cons_succ]
            refine wpAnyR_take (i := 1) (oi := _) ?va1 rfl rfl (by kernel_rfl) (fun _ _ _ h => h) rfl ?hya1 S0a ?resta1
            case hya1 => (intro W hW; obtain ⟨d0, d1, d2⟩ := HB.out W hW; go_simp; (try with_reducible rfl))
            try simp only [List.setIfInBounds_toArray, List.set_cons_zero, List.set_cons_succ]
            refine wpAnyR_pure (i := 2) (oi := _) ?va2 rfl rfl (by kernel_rfl) (by decide) (fun _ _ _ h => h) rfl ?hya2 (fun _ => S0a) ?resta2
            case hya2 => (intro W; go_simp; (try with_reducible rfl))
            try simp only [List.setIfInBounds_toArray, List.set_cons_zero, List.set_cons_succ]
            refine wpAnyR_one (i := 3) (by kernel_rfl) rfl (fun K hK => ?_)
            try rw [if_pos (show Region.wanted _ _ = true from rfl)]
            go_simp
            refine hK.out _ _ (fun _ => S0a) ?_
            clear hK K
            have HRY := Lib.hid (HYa.out.2.blk HRA3.out (.inl HGL.out.2))
            have j0 := HRY.out.cell 0
            have j1 := HRY.out.cell 1
            have j2 := HRY.out.cell 2
            have l0 := HRY.out.frozen 0
            have l1 := HRY.out.frozen 1
            have l2 := HRY.out.frozen 2
            refine wpAnyR_one (i := 4) (by kernel_rfl) rfl (fun K hK => ?_)
            try rw [if_pos (show Region.wanted _ _ = true from rfl)]
            go_simp
            refine hK.out _ _ (fun hf => absurd hf (by decide)) ?_
            clear hK K
            clear j0 j1 j2 l0 l1 l2
            refine wpAnyR_one (i := 5) (by kernel_rfl) rfl (fun K hK => ?_)
            go_simp
            refine hK.out _ _ (fun hf => absurd hf (by decide)) ?_
            clear hK K
            refine wpAnyR_done (by kernel_rfl) ?_
            go_wp2_with fail
            obtain ⟨W, hW⟩ : ∃ W, W = ((wy.setCell ⟨w.heap.size, 0, none⟩ (.int .i64 r.1.1)).setCell ⟨w.heap.size, 1, none⟩ (.slice A2 r.1.2.length c2)).setCell ⟨w.heap.size, 2, none⟩ (.slice A3 r.2.length c3) := ⟨_, rfl⟩
            rw [← hW]
            have hbk := Blk.set3 HRY.out (.int .i64 r.1.1) (.slice A2 r.1.2.length c2) (.slice A3 r.2.length c3)
            rw [← hW] at hbk
            have d0 : W.cell? ⟨w.heap.size, 0, none⟩ = some (.int .i64 r.1.1) := hbk.cell 0
            have d1 : W.cell? ⟨w.heap.size, 1, none⟩ = some (.slice A2 r.1.2.length c2) := hbk.cell 1
            have d2 : W.cell? ⟨w.heap.size, 2, none⟩ = some (.slice A3 r.2.length c3) := hbk.cell 2
            have hk3 : ∀ k, k ≠ w.heap.size → W.heap[k]? = wy.heap[k]? := fun k hne => by
              rw [hW]
              exact ((Below.heap_setCell _ _ _ k hne).trans (Below.heap_setCell _ _ _ k hne)).trans (Below.heap_setCell _ _ _ k hne)
            have hsz : wy.heap.size = W.heap.size := by rw [hW]; simp
            obtain ⟨hs2, hsw, hg3, hs3⟩ := HS3.out
            have hgw := HGL.out
            have hys := HYa.out.2.size
            have hB : Below w.heap.size w W := by rw [hW]; exact (((HB3.out.trans (HYa.out.2.below (by omega) HB3.out.size)).setCell (Nat.le_refl _) _).setCell (Nat.le_refl _) _).setCell (Nat.le_refl _) _
            refine bodyPost_ret (v := .tuple #[.slice A ar.length c, .agg #[.int .i64 r.1.1, .slice A2 r.1.2.length c2, .slice A3 r.2.length c3], .slice A9 ys.length c9]) (by simp [results, Try.results19, go_sem, d0, d1, d2]) rfl ?_
            have hk : ∀ k, w1.heap.size ≤ k → k < w2.heap.size → W.heap[k]? = w3.heap[k]? := fun k k1 k2 => (hk3 k (by omega)).trans (HYa.out.2.block k (by omega) (by omega))
            first
              | refine ⟨ar, r.1.1, r.1.2, r.2, zs, A, c, A2, c2, A3, c3, A9, c9, by rw [HE.out.2.1], h1, h2, by rw [HE.out.2.1]; exact HYB.out, (HQ3.out.1.keep hk).rd.more (by omega), (HQ3.out.2.1.keep hk).rd.more (by omega), (HQ3.out.2.2.keep hk).rd.more (by omega), ?_, hB⟩
              | refine ⟨ar, r, zs, A, c, A2, c2, A3, c3, A9, c9, by rw [HE.out.2.1], h1, h2, by rw [HE.out.2.1]; exact HYB.out, (HQ3.out.1.keep hk).rd.more (by omega), (HQ3.out.2.1.keep hk).rd.more (by omega), (HQ3.out.2.2.keep hk).rd.more (by omega), ?_, hB⟩
            have hz := HYa.out.1
            rw [← HE.out.2.1] at hz
            exact (hz.keep fun k k1 k2 => hk3 k (by omega)).rd.more (by omega)
          · have l0 : decide (0 < (ys.length : Int)) = true := by simp; omega
            have l1 : decide (0 < ys.length) = true := by simp; omega
            obtain ⟨g9, rfl⟩ : ∃ g9, A9 = some ⟨g9, 0, none⟩ := by
              have := HZ.out.2.1
              rw [← HZ.out.1] at this
              obtain ⟨g2, cap, e, _⟩ := this.1.form (by have := HZ.out.1; omega)
              injection e with e1 _ _
              exact ⟨g2, e1⟩
            have PK := Lib.hid (pick_any g bs q' 16 wx HZ.out.2.2.1 (by omega) (by omega))
            have HZN := Lib.hid (show 0 < zs.length from by have := HZ.out.1; omega)
            go_upto_if 67 with (go_at_call 59; refine PK.out.mono ?_; rintro e w6 ⟨⟨x, rfl, hx⟩, hpk⟩)
            have HP6 := Lib.hid (show OwnInts w6 w3.heap.size w6.heap.size (.slice (some ⟨g9, 0, none⟩) ys.length c9) zs ∧ Rdr w6 g bs (q' + 1) ∧ Only g (g + 1) w3 w6 from
              ⟨(HZ.out.2.1.only hpk.2 (.inr HG3.out)).mono (Nat.le_refl _) hpk.2.size, hpk.1, HZ.out.2.2.2.trans hpk.2⟩)
            obtain ⟨bx, hbx⟩ : ∃ b, b = (x == 0) := ⟨_, rfl⟩
            have e0 := hbx.symm
            clear hpk l0 l1 hx hbx
            cases bx
            · have HF := Lib.hid (show OwnInts w6 w3.heap.size w6.heap.size (.slice (some ⟨g9, 0, none⟩) ys.length c9) zs ∧ zs.length = ys.length ∧ Only g (g + 1) w3 w6 from ⟨HP6.out.1, HZ.out.1, HP6.out.2.2⟩)
              go_upto_region 17 with fail
              have S0b := HS.out _ (HF.out.2.2.trans ⟨rfl, rfl, rfl, Nat.le_refl _, fun _ _ _ => rfl⟩ : Only g (g + 1) w3 w6.drew)
              refine wp_region_rel SS 4 6 (by kernel_rfl) rfl ?_
              obtain ⟨wy, hwy⟩ : ∃ wy, wy = w6.drew := ⟨_, rfl⟩
              have HYb := Lib.hid (show OwnInts wy w3.heap.size wy.heap.size (.slice (some ⟨g9, 0, none⟩) ys.length c9) zs ∧ Only g (g + 1) w3 wy from by rw [hwy]; exact ⟨HF.out.1, HF.out.2.2.trans ⟨rfl, rfl, rfl, Nat.le_refl _, fun _ _ _ => rfl⟩⟩)
              rw [← hwy] at S0b ⊢
              clear hwy
              refine wpAnyR_pure (i := 0) (oi := _) ?vb0 rfl rfl (by kernel_rfl) (by decide) (fun _ _ _ h => h) rfl ?hyb0 (fun _ => S0b) ?restb0
              case hyb0 => (intro W; go_simp; (try with_reducible rfl))
              try simp only [List.setIfInBounds_toArray, List.set_cons_zero, List.set_cons_succ]
              refine wpAnyR_take (i := 1) (oi := _) ?vb1 rfl rfl (by kernel_rfl) (fun _ _ _ h => h) rfl ?hyb1 S0b ?restb1
              case hyb1 => (intro W hW; obtain ⟨d0, d1, d2⟩ := HB.out W hW; go_simp; (try with_reducible rfl))
              try simp only [List.setIfInBounds_toArray, List.set_cons_zero, List.set_cons_succ]
              refine wpAnyR_pure (i := 2) (oi := _) ?vb2 rfl rfl (by kernel_rfl) (by decide) (fun _ _ _ h => h) rfl ?hyb2 (fun _ => S0b) ?restb2
              case hyb2 => (intro W; go_simp; (try with_reducible rfl))
              try simp only [List.setIfInBounds_toArray, List.set_cons_zero, List.set_cons_succ]
              refine wpAnyR_one (i := 3) (by kernel_rfl) rfl (fun K hK => ?_)
              try rw [if_pos (show Region.wanted _ _ = true from rfl)]
              go_simp
              refine hK.out _ _ (fun _ => S0b) ?_
              clear hK K
              have HRY := Lib.hid (HYb.out.2.blk HRA3.out (.inl HGL.out.2))
              have j0 := HRY.out.cell 0
              have j1 := HRY.out.cell 1
              have j2 := HRY.out.cell 2
              have l0 := HRY.out.frozen 0
              have l1 := HRY.out.frozen 1
              have l2 := HRY.out.frozen 2
              refine wpAnyR_one (i := 4) (by kernel_rfl) rfl (fun K hK => ?_)
              try rw [if_pos (show Region.wanted _ _ = true from rfl)]
              go_simp
              refine hK.out _ _ (fun hf => absurd hf (by decide)) ?_
              clear hK K
              clear j0 j1 j2 l0 l1 l2
              refine wpAnyR_one (i := 5) (by kernel_rfl) rfl (fun K hK => ?_)
              go_simp
              refine hK.out _ _ (fun hf => absurd hf (by decide)) ?_
              clear hK K
              refine wpAnyR_done (by kernel_rfl) ?_
              go_wp2_with fail
              obtain ⟨W, hW⟩ : ∃ W, W = ((wy.setCell ⟨w.heap.size, 0, none⟩ (.int .i64 r.1.1)).setCell ⟨w.heap.size, 1, none⟩ (.slice A2 r.1.2.length c2)).setCell ⟨w.heap.size, 2, none⟩ (.slice A3 r.2.length c3) := ⟨_, rfl⟩
              rw [← hW]
              have hbk := Blk.set3 HRY.out (.int .i64 r.1.1) (.slice A2 r.1.2.length c2) (.slice A3 r.2.length c3)
              rw [← hW] at hbk
              have d0 : W.cell? ⟨w.heap.size, 0, none⟩ = some (.int .i64 r.1.1) := hbk.cell 0
              have d1 : W.cell? ⟨w.heap.size, 1, none⟩ = some (.slice A2 r.1.2.length c2) := hbk.cell 1
              have d2 : W.cell? ⟨w.heap.size, 2, none⟩ = some (.slice A3 r.2.length c3) := hbk.cell 2
              have hk3 : ∀ k, k ≠ w.heap.size → W.heap[k]? = wy.heap[k]? := fun k hne => by
                rw [hW]
                exact ((Below.heap_setCell _ _ _ k hne).trans (Below.heap_setCell _ _ _ k hne)).trans (Below.heap_setCell _ _ _ k hne)
              have hsz : wy.heap.size = W.heap.size := by rw [hW]; simp
              obtain ⟨hs2, hsw, hg3, hs3⟩ := HS3.out
              have hgw := HGL.out
              have hys := HYb.out.2.size
              have hB : Below w.heap.size w W := by rw [hW]; exact (((HB3.out.trans (HYb.out.2.below (by omega) HB3.out.size)).setCell (Nat.le_refl _) _).setCell (Nat.le_refl _) _).setCell (Nat.le_refl _) _
              refine bodyPost_ret (v := .tuple #[.slice A ar.length c, .agg #[.int .i64 r.1.1, .slice A2 r.1.2.length c2, .slice A3 r.2.length c3], .slice (some ⟨g9, 0, none⟩) ys.length c9]) (by simp [results, Try.results19, go_sem, d0, d1, d2]) rfl ?_
              have hk : ∀ k, w1.heap.size ≤ k → k < w2.heap.size → W.heap[k]? = w3.heap[k]? := fun k k1 k2 => (hk3 k (by omega)).trans (HYb.out.2.block k (by omega) (by omega))
              first
                | refine ⟨ar, r.1.1, r.1.2, r.2, zs, A, c, A2, c2, A3, c3, (some ⟨g9, 0, none⟩), c9, by rw [HF.out.2.1], h1, h2, by rw [HF.out.2.1]; exact HYB.out, (HQ3.out.1.keep hk).rd.more (by omega), (HQ3.out.2.1.keep hk).rd.more (by omega), (HQ3.out.2.2.keep hk).rd.more (by omega), ?_, hB⟩
                | refine ⟨ar, r, zs, A, c, A2, c2, A3, c3, (some ⟨g9, 0, none⟩), c9, by rw [HF.out.2.1], h1, h2, by rw [HF.out.2.1]; exact HYB.out, (HQ3.out.1.keep hk).rd.more (by omega), (HQ3.out.2.1.keep hk).rd.more (by omega), (HQ3.out.2.2.keep hk).rd.more (by omega), ?_, hB⟩
              have hz := HYb.out.1
              rw [← HF.out.2.1] at hz
              exact (hz.keep fun k k1 k2 => hk3 k (by omega)).rd.more (by omega)
            · have b67 : Below w6.heap.size w6 (w6.alloc (.cells #[.int .i64 (-1), .int .i64 9, .int .i64 1] 3)) := below1 _ _
              have hg6 : g < w6.heap.size := HP6.out.2.1.lt
              have NU := Lib.hid (num_any g bs (q' + 1) w6.heap.size _ [-1, 9, 1] 3 _ (HP6.out.2.1.below b67 hg6) (by omega) (Blk.new w6 3 #[.int .i64 (-1), .int .i64 9, .int .i64 1]) rfl (by omega) rfl (by simp) (by simp))
              have HB67 := Lib.hid b67
              clear b67 hg6
              go_upto_region 17 with (go_at_call 60; refine NU.out.mono ?_
                                      rintro e w7 ⟨⟨y, rfl, _⟩, hpk⟩
                                      have HB7 := Lib.hid (show Only g (g + 1) w3 w7 from (HP6.out.2.2.trans (Only.of_below HB67.out)).trans hpk.2)
                                      have HZ7 := Lib.hid (show OwnInts w7 w3.heap.size w7.heap.size (.slice (some ⟨g9, 0, none⟩) zs.length c9) zs from by
                                        rw [HZ.out.1]
                                        exact ((HP6.out.1.below HB67.out (Nat.le_refl _)).only hpk.2 (.inr HG3.out)).mono (Nat.le_refl _) (by have := HB67.out.size; have := hpk.2.size; omega))
                                      have r0 := HZ7.out.1.cellAt 0 (by have := HZN.out; omega)
                                      have f0 := HZ7.out.1.frozenAt 0
                                      rw [show (zs.map (Value.int .i64))[0]? = some (.int .i64 (zs[0]'HZN.out)) by rw [List.getElem?_eq_getElem (by simpa using HZN.out), List.getElem_map]] at r0
                                      clear hpk)
              obtain ⟨w8, hw8⟩ : ∃ w8, w8 = w7.setCell ⟨g9, 0, none⟩ (.int .i64 y) := ⟨_, rfl⟩
              have hgl := (HZ7.out.lt (g := g9) rfl).1
              obtain ⟨zt, hzt⟩ : ∃ zt, zt = zs.set 0 y := ⟨_, rfl⟩
              have HF := Lib.hid (show OwnInts w8 w3.heap.size w8.heap.size (.slice (some ⟨g9, 0, none⟩) ys.length c9) zt ∧ zt.length = ys.length ∧ Only g (g + 1) w3 w8 from by
                rw [hw8, hzt]
                refine ⟨?_, by rw [List.length_set]; exact HZ.out.1, HB7.out.setNew hgl _⟩
                have := (HZ7.out.store rfl HZN.out y).mono (Nat.le_refl _) (show w7.heap.size ≤ (w7.setCell ⟨g9, 0, none⟩ (.int .i64 y)).heap.size by simp)
                rw [HZ.out.1] at this
                exact this)
              rw [← hw8]
              clear hw8 r0 f0 hzt hgl
              have S0e := HS.out _ (HF.out.2.2.trans ⟨rfl, rfl, rfl, Nat.le_refl _, fun _ _ _ => rfl⟩ : Only g (g + 1) w3 w8.drew)
              refine wp_region_rel SS 4 6 (by kernel_rfl) rfl ?_
              obtain ⟨wy, hwy⟩ : ∃ wy, wy = w8.drew := ⟨_, rfl⟩
              have HYe := Lib.hid (show OwnInts wy w3.heap.size wy.heap.size (.slice (some ⟨g9, 0, none⟩) ys.length c9) zt ∧ Only g (g + 1) w3 wy from by rw [hwy]; exact ⟨HF.out.1, HF.out.2.2.trans ⟨rfl, rfl, rfl, Nat.le_refl _, fun _ _ _ => rfl⟩⟩)
              rw [← hwy] at S0e ⊢
              clear hwy
              refine wpAnyR_pure (i := 0) (oi := _) ?ve0 rfl rfl (by kernel_rfl) (by decide) (fun _ _ _ h => h) rfl ?hye0 (fun _ => S0e) ?reste0
              case hye0 => (intro W; go_simp; (try with_reducible rfl))
              try simp only [List.setIfInBounds_toArray, List.set_cons_zero, List.set_cons_succ]
              refine wpAnyR_take (i := 1) (oi := _) ?ve1 rfl rfl (by kernel_rfl) (fun _ _ _ h => h) rfl ?hye1 S0e ?reste1
              case hye1 => (intro W hW; obtain ⟨d0, d1, d2⟩ := HB.out W hW; go_simp; (try with_reducible rfl))
              try simp only [List.setIfInBounds_toArray, List.set_cons_zero, List.set_cons_succ]
              refine wpAnyR_pure (i := 2) (oi := _) ?ve2 rfl rfl (by kernel_rfl) (by decide) (fun _ _ _ h => h) rfl ?hye2 (fun _ => S0e) ?reste2
              case hye2 => (intro W; go_simp; (try with_reducible rfl))
              try simp only [List.setIfInBounds_toArray, List.set_cons_zero, List.set_cons_succ]
              refine wpAnyR_one (i := 3) (by kernel_rfl) rfl (fun K hK => ?_)
              try rw [if_pos (show Region.wanted _ _ = true from rfl)]
              go_simp
              refine hK.out _ _ (fun _ => S0e) ?_
              clear hK K
              have HRY := Lib.hid (HYe.out.2.blk HRA3.out (.inl HGL.out.2))
              have j0 := HRY.out.cell 0
              have j1 := HRY.out.cell 1
              have j2 := HRY.out.cell 2
              have l0 := HRY.out.frozen 0
              have l1 := HRY.out.frozen 1
              have l2 := HRY.out.frozen 2
              refine wpAnyR_one (i := 4) (by kernel_rfl) rfl (fun K hK => ?_)
              try rw [if_pos (show Region.wanted _ _ = true from rfl)]
              go_simp
              refine hK.out _ _ (fun hf => absurd hf (by decide)) ?_
              clear hK K
              clear j0 j1 j2 l0 l1 l2
              refine wpAnyR_one (i := 5) (by kernel_rfl) rfl (fun K hK => ?_)
              go_simp
              refine hK.out _ _ (fun hf => absurd hf (by decide)) ?_
              clear hK K
              refine wpAnyR_done (by kernel_rfl) ?_
              go_wp2_with fail
              obtain ⟨W, hW⟩ : ∃ W, W = ((wy.setCell ⟨w.heap.size, 0, none⟩ (.int .i64 r.1.1)).setCell ⟨w.heap.size, 1, none⟩ (.slice A2 r.1.2.length c2)).setCell ⟨w.heap.size, 2, none⟩ (.slice A3 r.2.length c3) := ⟨_, rfl⟩
              rw [← hW]
              have hbk := Blk.set3 HRY.out (.int .i64 r.1.1) (.slice A2 r.1.2.length c2) (.slice A3 r.2.length c3)
              rw [← hW] at hbk
              have d0 : W.cell? ⟨w.heap.size, 0, none⟩ = some (.int .i64 r.1.1) := hbk.cell 0
              have d1 : W.cell? ⟨w.heap.size, 1, none⟩ = some (.slice A2 r.1.2.length c2) := hbk.cell 1
              have d2 : W.cell? ⟨w.heap.size, 2, none⟩ = some (.slice A3 r.2.length c3) := hbk.cell 2
              have hk3 : ∀ k, k ≠ w.heap.size → W.heap[k]? = wy.heap[k]? := fun k hne => by
                rw [hW]
                exact ((Below.heap_setCell _ _ _ k hne).trans (Below.heap_setCell _ _ _ k hne)).trans (Below.heap_setCell _ _ _ k hne)
              have hsz : wy.heap.size = W.heap.size := by rw [hW]; simp
              obtain ⟨hs2, hsw, hg3, hs3⟩ := HS3.out
              have hgw := HGL.out
              have hys := HYe.out.2.size
              have hB : Below w.heap.size w W := by rw [hW]; exact (((HB3.out.trans (HYe.out.2.below (by omega) HB3.out.size)).setCell (Nat.le_refl _) _).setCell (Nat.le_refl _) _).setCell (Nat.le_refl _) _
              refine bodyPost_ret (v := .tuple #[.slice A ar.length c, .agg #[.int .i64 r.1.1, .slice A2 r.1.2.length c2, .slice A3 r.2.length c3], .slice (some ⟨g9, 0, none⟩) ys.length c9]) (by simp [results, Try.results19, go_sem, d0, d1, d2]) rfl ?_
              have hk : ∀ k, w1.heap.size ≤ k → k < w2.heap.size → W.heap[k]? = w3.heap[k]? := fun k k1 k2 => (hk3 k (by omega)).trans (HYe.out.2.block k (by omega) (by omega))
              first
                | refine ⟨ar, r.1.1, r.1.2, r.2, zt, A, c, A2, c2, A3, c3, (some ⟨g9, 0, none⟩), c9, by rw [HF.out.2.1], h1, h2, by rw [HF.out.2.1]; exact HYB.out, (HQ3.out.1.keep hk).rd.more (by omega), (HQ3.out.2.1.keep hk).rd.more (by omega), (HQ3.out.2.2.keep hk).rd.more (by omega), ?_, hB⟩
                | refine ⟨ar, r, zt, A, c, A2, c2, A3, c3, (some ⟨g9, 0, none⟩), c9, by rw [HF.out.2.1], h1, h2, by rw [HF.out.2.1]; exact HYB.out, (HQ3.out.1.keep hk).rd.more (by omega), (HQ3.out.2.1.keep hk).rd.more (by omega), (HQ3.out.2.2.keep hk).rd.more (by omega), ?_, hB⟩
              have hz := HYe.out.1
              rw [← HF.out.2.1] at hz
              exact (hz.keep fun k k1 k2 => hk3 k (by omega)).rd.more (by omega)

end Go.Proofs.Ytocpfmbieedpgaa
/-
  The walk of the law FnPlanBy.
-/
namespace Go.Proofs.Ytocpfmbieedpgaa
open Go.RowKit

set_option maxHeartbeats 4000000 in
set_option maxRecDepth 100000 in
theorem lawPlainPlanBy_any (v : Value) (code : List Nat) (w : World) (hr : RdBytes w w.heap.size v code) (_ : code.length ≤ maxLen) (hby : ∀ b ∈ code, b < 256) :
    Calls Try.prog 4 #[v] w fun e w' => e = .returned (.bool true) ∧ Below w.heap.size w w' := by
  have HV := Lib.hid hr
  obtain ⟨Av, cv, rfl, hcv, _⟩ := hr
  go_enter Try.func4, Try.ntmps4
  by_cases hbig : 1048576 < code.length
  · have hd : decide ((1048576 : Int) < code.length) = true := by simp; omega
    go_wp2_with (fail)
    go_ret
    exact ⟨rfl, Below.refl _ _⟩
  have hd : decide ((1048576 : Int) < code.length) = false := by simp; omega
  have hbn : code.length ≤ 1073741824 := by omega
  go_upto_region 4 with (go_at_call 19; refine (drawPlanBy_any _ code w HV.out hby hbn).mono ?_
                         rintro e w1 ⟨ar, r, ys, A, c, A2, c2, A3, c3, A9, c9, rfl, hal, hsz, hyl, ra, rh, rb, ry, B1⟩)
  have hsr : szR r ≤ 1048576 := by omega
  obtain ⟨w2, hw2⟩ : ∃ w2, w2 = w1.alloc (Obj.cells #[Value.int .i64 r.1.1, Value.slice A2 r.1.2.length c2, Value.slice A3 r.2.length c3] 28) := ⟨_, rfl⟩
  have b2 : Below w1.heap.size w1 w2 := by rw [hw2]; exact below1 _ _
  have X2 := Lib.hid (show Blk w2 w1.heap.size 28 #[.int .i64 r.1.1, .slice A2 r.1.2.length c2, .slice A3 r.2.length c3] by rw [hw2]; exact Blk.new _ _ _)
  rw [← hw2]
  clear hw2
  have HA := Lib.hid (ra.on b2)
  have HY := Lib.hid (ry.on b2)
  have HR := Lib.hid (show RdRule w2 w2.heap.size (.agg #[.int .i64 r.1.1, .slice A2 r.1.2.length c2, .slice A3 r.2.length c3]) r from ⟨_, _, rfl, rh.on b2, rb.on b2⟩)
  have B2 := Lib.hid (bthen B1 b2)
  clear ra rh rb ry B1 b2
  have q0 : w2.cell? ⟨w1.heap.size, 0, none⟩ = some (.int .i64 r.1.1) := X2.out.cell 0
  have q1 : w2.cell? ⟨w1.heap.size, 1, none⟩ = some (.slice A2 r.1.2.length c2) := X2.out.cell 1
  have q2 : w2.cell? ⟨w1.heap.size, 2, none⟩ = some (.slice A3 r.2.length c3) := X2.out.cell 2
  obtain ⟨L, hL⟩ : ∃ L, L = planByL ar r ys := ⟨_, rfl⟩
  obtain ⟨kk, hkk⟩ : ∃ kk, kk = planByK ar r ys := ⟨_, rfl⟩
  have HKK := Lib.hid hkk
  have HLS := Lib.hid (show L.length + totL L ≤ 64 by rw [hL]; exact planBy_sz ar r ys)
  have hll : L.length ≤ 64 := by have := HLS.out; omega
  have C1 := Lib.hid (implPlanBy_any (.slice A ar.length c) (.agg #[.int .i64 r.1.1, .slice A2 r.1.2.length c2, .slice A3 r.2.length c3]) (.slice A9 ys.length c9) ar r ys w2 HA.out HR.out HY.out (by omega) hsr (by omega))
  have C2 := Lib.hid (fun (w3 : World) (b3 : Below w2.heap.size w2 w3) => specPlanBy_any (.slice A ar.length c) (.agg #[.int .i64 r.1.1, .slice A2 r.1.2.length c2, .slice A3 r.2.length c3]) (.slice A9 ys.length c9) ar r ys w3 (HA.out.on b3) (HR.out.on b3) (HY.out.on b3) (by omega) hsr (by omega))
  rw [← hL, ← hkk] at C1 C2
  clear hL hkk
  go_upto_region 5 with (go_at_call 17; refine C1.out.mono ?_; rintro e w3 ⟨A4, c4, rfl, o4, b3⟩)
  have X3 := Lib.hid (X2.out.below b3 X2.out.lt)
  have HA3 := Lib.hid (HA.out.on b3)
  have HY3 := Lib.hid (HY.out.on b3)
  have HR3 := Lib.hid (HR.out.on b3)
  have HO3 := Lib.hid o4
  have B3 := Lib.hid (bthen B2.out b3)
  have C3 := Lib.hid (C2.out w3 b3)
  clear q0 q1 q2 o4 b3
  have q0 : w3.cell? ⟨w1.heap.size, 0, none⟩ = some (.int .i64 r.1.1) := X3.out.cell 0
  have q1 : w3.cell? ⟨w1.heap.size, 1, none⟩ = some (.slice A2 r.1.2.length c2) := X3.out.cell 1
  have q2 : w3.cell? ⟨w1.heap.size, 2, none⟩ = some (.slice A3 r.2.length c3) := X3.out.cell 2
  go_upto_region 6 with (go_at_call 20; refine C3.out.mono ?_; rintro e w4 ⟨A5, c5, rfl, o5, b4⟩)
  have X4 := Lib.hid (X3.out.below b4 X3.out.lt)
  have HA4 := Lib.hid (HA3.out.on b4)
  have HY4 := Lib.hid (HY3.out.on b4)
  have HR4 := Lib.hid (HR3.out.on b4)
  have HI4 := Lib.hid ((HO3.out.below b4 (Nat.le_refl _)).rd.more b4.size)
  have HW4 := Lib.hid o5.rd
  have B4 := Lib.hid (bthen B3.out b4)
  clear q0 q1 q2 o5 b4
  have M0 := later_cell (X4.out.cell 0 : w4.cell? ⟨w1.heap.size, 0, none⟩ = some (.int .i64 r.1.1))
  have M1 := later_cell (X4.out.cell 1 : w4.cell? ⟨w1.heap.size, 1, none⟩ = some (.slice A2 r.1.2.length c2))
  have M2 := later_cell (X4.out.cell 2 : w4.cell? ⟨w1.heap.size, 2, none⟩ = some (.slice A3 r.2.length c3))
  obtain ⟨ro, hro⟩ : ∃ ro, ro = ruleOk ar r := ⟨_, rfl⟩
  have D1 := Lib.hid (fun x : Later w4 => later_of (show Calls Try.prog 13 #[.slice A4 L.length c4, .slice A5 L.length c5] x.val fun e w' => e = .returned (.bool true) ∧ Below x.val.heap.size x.val w' from by
    have := wrPlan_any (.slice A4 L.length c4) (.slice A5 L.length c5) L L x.val (HI4.out.on x.2) (HW4.out.on x.2) (by have := HLS.out; omega) (by have := HLS.out; omega) (by have := HLS.out; omega) (by have := HLS.out; omega)
    rw [show decide (L = L) = true by simp] at this
    exact this))
  have D2 := Lib.hid (fun x : Later w4 => later_of (implRuleOk_any (.slice A ar.length c) (.agg #[.int .i64 r.1.1, .slice A2 r.1.2.length c2, .slice A3 r.2.length c3]) ar r x.val (HA4.out.on x.2) (HR4.out.on x.2) (by omega) hsr))
  have D3 := Lib.hid (fun x : Later w4 => later_of (specRuleOk_any (.slice A ar.length c) (.agg #[.int .i64 r.1.1, .slice A2 r.1.2.length c2, .slice A3 r.2.length c3]) ar r x.val (HA4.out.on x.2) (HR4.out.on x.2) (by omega) hsr))
  rw [← hro] at D2 D3
  clear hro
  have hn1 : (ro != ro) = false := by simp
  have hn2 : (kk != kk) = false := by simp
  go_cut [53] (fun s wx => s = .bool false ∧ Below w4.heap.size w4 wx)
  case first =>
    refine wp_region_later (by kernel_rfl) (by kernel_rfl) ?_
    repeat (go_big_quiet_step (first | (go_at_call 13; exact D1.out _) | (go_at_call 14; exact D2.out _) | (go_at_call 15; exact D3.out _)))
    refine wpQuiet_nil ?_
    rintro _ ⟨xq, rfl⟩
    go_wp2_with (fail)
    go_meet
    exact ⟨rfl, xq.2⟩
  case rest =>
    obtain ⟨rfl, b5⟩ := hcut
    have X6 := Lib.hid (X4.out.below b5 X4.out.lt)
    have HA6 := Lib.hid (HA4.out.on b5)
    have HR6 := Lib.hid (HR4.out.on b5)
    have HY6 := Lib.hid (HY4.out.on b5)
    have B6 := Lib.hid (bthen B4.out b5)
    clear M0 M1 M2 b5 hn1 hn2
    rename World => w6
    have q0 : w6.cell? ⟨w1.heap.size, 0, none⟩ = some (.int .i64 r.1.1) := X6.out.cell 0
    have q1 : w6.cell? ⟨w1.heap.size, 1, none⟩ = some (.slice A2 r.1.2.length c2) := X6.out.cell 1
    have q2 : w6.cell? ⟨w1.heap.size, 2, none⟩ = some (.slice A3 r.2.length c3) := X6.out.cell 2
    obtain ⟨O, hO⟩ : ∃ O, O = planOrdL ar r := ⟨_, rfl⟩
    have HEQ := Lib.hid (show (kk == decide (ys ∈ O)) = true from by
      rw [HKK.out, hO]
      have := planOrd_mem (ar := ar) (r := r) (os := ys)
      cases h : planByK ar r ys <;> simp_all)
    have HOF := Lib.hid (planOrd_few ar r)
    rw [← hO] at HOF
    have hol := HOF.out.1
    have C4 := Lib.hid (implPlanOrders_any (.slice A ar.length c) (.agg #[.int .i64 r.1.1, .slice A2 r.1.2.length c2, .slice A3 r.2.length c3]) ar r w6 HA6.out HR6.out (by omega) hsr)
    rw [← hO] at C4
    clear hO
    go_wp2_with (go_at_call 16; refine C4.out.mono ?_; rintro e w7 ⟨A7, c7, rfl, o7, b7⟩)
    have HY7 := Lib.hid (HY6.out.on b7)
    have HO7 := Lib.hid o7.rd
    have B7 := Lib.hid (bthen B6.out b7)
    clear q0 q1 q2 o7 b7
    go_loopw [10, 12, 58] (fun b _ i wr => ∃ k : Nat, k ≤ O.length ∧ i = .int .i64 k ∧ b = .bool (decide (ys ∈ O.take k)) ∧ Below w7.heap.size w7 wr) (fun _ _ i _ => O.length - (intOf i).toNat)
    case atStart => exact ⟨0, Nat.zero_le _, rfl, by simp, Below.refl _ _⟩
    case round =>
      obtain ⟨k, hk, rfl, rfl, hbe⟩ := hrel
      have B8 := Lib.hid (bthen B7.out hbe)
      obtain ⟨am, ham⟩ : ∃ am, am = decide (ys ∈ O.take k) := ⟨_, rfl⟩
      rw [← ham]
      have HAM := Lib.hid ham
      clear ham
      by_cases hlt : k < O.length
      · obtain ⟨bb, oo, A8, c8, hA7, hbb, k0, hrd⟩ := (HO7.out.on hbe).get hlt
        subst hA7
        have hl8 : O[k].length ≤ 4 := HOF.out.2 _ (List.getElem_mem hlt)
        have HTK := Lib.hid (show O.take (k + 1) = O.take k ++ [O[k]] by rw [List.take_succ_eq_append_getElem hlt])
        have C6 := Lib.hid (wrInts_any (.slice A8 O[k].length c8) (.slice A9 ys.length c9) O[k] ys wr hrd (HY7.out.on hbe) (by omega) (by omega))
        obtain ⟨z, hz⟩ : ∃ z, z = decide (O[k] = ys) := ⟨_, rfl⟩
        rw [← hz] at C6
        have HZ := Lib.hid hz
        have HBE := Lib.hid hbe
        clear hz hrd hbe
        cases am
        · have HE := Lib.hid (show z = decide (ys ∈ O.take (k + 1)) from by
            have := of_decide_eq_false HAM.out.symm
            rw [HZ.out, decide_eq_decide, HTK.out, List.mem_append, List.mem_singleton]
            constructor
            · exact fun h => .inr h.symm
            · rintro (h | h)
              · exact absurd h this
              · exact h.symm)
          go_wp2_with (go_at_call 21; refine C6.out.mono ?_; rintro e wb ⟨rfl, bb2⟩)
          go_roundw
          case rel => exact ⟨k + 1, by omega, by go_num, by rw [← HE.out], bthen HBE.out bb2⟩
          case measure => simp [intOf]; omega
        · have HE := Lib.hid (show true = decide (ys ∈ O.take (k + 1)) from by
            have := of_decide_eq_true HAM.out.symm
            symm
            rw [decide_eq_true_eq, HTK.out, List.mem_append]
            exact .inl this)
          go_wp2_with fail
          go_roundw
          case rel => exact ⟨k + 1, by omega, by go_num, by rw [← HE.out], HBE.out⟩
          case measure => simp [intOf]; omega
      · have HF := Lib.hid (show (kk == am) = true from by
          have := HEQ.out
          rw [HAM.out, List.take_of_length_le (by omega)]
          exact this)
        have e9 := HF.out
        go_wp2_with fail
        go_ret
        first
          | exact ⟨ret_bool e9, B8.out⟩
          | exact ⟨rfl, B8.out⟩
theorem lawPlainPlanBy_in (v : Value) (bs : List Nat) (w : World) (h : InBytes w v bs) : Calls Try.prog 4 #[v] w fun e w' => e = .returned (.bool true) ∧ Below w.heap.size w w' :=
  lawPlainPlanBy_any v bs w h.1 h.2.1 h.2.2

end Go.Proofs.Ytocpfmbieedpgaa
namespace Go.Proofs.Ytocpfmbieedpgaa
open Go.ChangeShapes Go.WideShapes Go.ChangeAt Go.RowKit

set_option maxRecDepth 100000 in
theorem fnPlanBy_lifted (os : Os) (started : os.Started) (H : Type) (enc : TypeId × Value → H) :
    ReturnsInHanded {} Try.checked os 4 .any (Rows.fnPlanBySpec.pre6 enc Try.prog Try.f4 Rows.fnPlanByRow.domain false) (Rows.fnPlanBySpec.post enc Try.prog Try.f4 false true false false) := by
  refine returnsInHanded_of_change (C := Try.checked) Try.own started (by kernel_rfl) Try.func4
    (ChangeSpec.witness6 (enc := enc) (C := Try.checked) false ⟨#[], #[.slice none 0 0], []⟩ 8 (by kernel_rfl) (by kernel_rfl) (by kernel_rfl) (by kernel_rfl)) ?_
  intro W base args ds gs before hval0 hW hcnd _
  have hval : ∀ (j : Nat) t v, Try.f4.params[j]? = some t → args[j]? = some v → Value.okWide Try.prog W .any base t v := hval0
  have hW' := hW
  obtain ⟨p, q, hA0, hV, rfl, hfz, hnd⟩ := hW
  have hA : DataW.TrodAll enc Try.prog W 0 (fun _ => true) true Try.f4.params.toList args.toList ds p := hA0
  rw [Try.params4] at hA hval
  obtain ⟨v0, vs0, d0, ds0, p0, q0, hargs, rfl, rfl, h0, r0⟩ := trodAll_cons hA
  obtain ⟨rfl, rfl, rfl⟩ := trodAll_nil r0
  obtain rfl : args = #[v0] := by cases args; simp_all
  obtain ⟨rfl, rfl⟩ := trodVars_none hV
  have lt0 : ∀ x ∈ p0, x.block < W.heap.size := by obtain ⟨m, hm⟩ := h0; exact DataW.trod_lt m _ _ _ hm
  obtain ⟨x0, w0⟩ := open_inBytes (hval 0 22 v0 rfl rfl) h0
  clear hA0 hval0
  refine (lawPlainPlanBy_in v0 x0 W w0).mono fun e W' ⟨he, bel⟩ => ?_
  subst he
  exact ⟨_, rfl, _, _, _, [], _, [], hW', trodAll_mk1 (shut_bool Try.underlying4 _), (trodAll_cons_mk (Below.trod Try.laidOut (by kernel_rfl) (of_decide_eq_true (by kernel_rfl)) h0 bel lt0) trodAll_mk0), rfl, bel.frame _, fun h => by cases h⟩

theorem fnPlanBy_holds : Rows.FnPlanBySaid :=
  OpenClaim.holds_of_wide 4 Try.f4 rfl rfl rfl rfl rfl rfl rfl ⟨rfl, rfl, rfl, rfl, rfl⟩ rfl rfl rfl rfl rfl (by kernel_rfl) Try.func4 (by kernel_rfl)
    (of_decide_eq_true (by kernel_rfl)) (by unfold Func.isWrapper; rw [if_neg (of_decide_eq_false (by kernel_rfl))]; exact ⟨rfl, rfl⟩)
    (fun os started H enc _ => fnPlanBy_lifted os started H enc)

end Go.Proofs.Ytocpfmbieedpgaa
