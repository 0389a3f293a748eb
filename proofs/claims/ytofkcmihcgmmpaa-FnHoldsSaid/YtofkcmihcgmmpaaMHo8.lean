/-
  The law FnHolds: for every input the call returns true, and each argument reads behind it as it read before. Conditions: none but the row's own.
-/
import Derived.Test.YtofkcmihcgmmpaaRows
import Derived.Test.YtofkcmihcgmmpaaMHo1
import Derived.Test.YtofkcmihcgmmpaaMHo5
import Derived.Test.YtofkcmihcgmmpaaMHo6
import Derived.Test.YtofkcmihcgmmpaaMHo7
/-
  The walk of the law FnHolds.
-/
namespace Go.Proofs.Ytofkcmihcgmmpaa
open Go.RowKit

theorem headOk_parts {a : LFact} {bs : List Int} (h : headOk a bs = true) : bindOk bs = true ∧ a.2.all termOk = true := by
  constructor
  · rcases hb : bindOk bs with _ | _
    · rw [headOk_bind hb] at h
      cases h
    · rfl
  · rcases hb : a.2.all termOk with _ | _
    · rw [headOk_terms hb] at h
      cases h
    · rfl
/-- A literal that asks: it holds iff its atom gets a fact, which is there or not. -/
theorem holdsB_ask {fs : List LFact} {k p : Int} {qs bs : List Int} (hk : k = 0 ∨ k = 1) : holdsB fs (k, p, qs) bs = (headOk (p, qs) bs && (factsHas fs (headOf (p, qs) bs) == decide (k = 0))) := by
  unfold holdsB litHolds
  rw [if_neg (by show ¬ (k = 2 ∨ k = 3); omega)]
  rcases h : headOk (p, qs) bs with _ | _
  · simp
  · obtain ⟨h1, h2⟩ := headOk_parts h
    rw [h1, show qs.all termOk = true from h2, decide_eq_true (show 0 ≤ k ∧ k ≤ 1 by omega)]
    rfl

set_option maxHeartbeats 8000000 in
set_option maxRecDepth 100000 in
theorem lawPlainHolds_any (v : Value) (code : List Nat) (w : World) (hr : RdBytes w w.heap.size v code) (_ : code.length ≤ maxLen) (hby : ∀ b ∈ code, b < 256) :
    Calls Try.prog 3 #[v] w fun e w' => e = .returned (.bool true) ∧ Below w.heap.size w w' := by
  have HV := Lib.hid hr
  obtain ⟨Av, cv, rfl, hcv, _⟩ := hr
  go_enter Try.func3, Try.ntmps3
  by_cases hbig : 1048576 < code.length
  · have hd : decide ((1048576 : Int) < code.length) = true := by simp; omega
    go_wp2_with (fail)
    go_ret
    exact ⟨rfl, Below.refl _ _⟩
  have hd : decide ((1048576 : Int) < code.length) = false := by simp; omega
  have hbn : code.length ≤ 1073741824 := by omega
  go_upto_region 4 with (go_at_call 4; refine (drawHolds_any _ code w HV.out hby hbn).mono ?_
                         rintro e w1 ⟨Af, cf, fs, ⟨k, lp, as_⟩, A2, c2, A3, c3, ys, rfl, ⟨hf1, hf2⟩, ⟨hl1, hl2⟩, hyl, r1, r2, r3, B1⟩)
  obtain ⟨w2, hw2⟩ : ∃ w2, w2 = w1.alloc (Obj.cells #[Value.int .i64 k, Value.int .i64 lp, Value.slice A2 as_.length c2] 28) := ⟨_, rfl⟩
  have b2 : Below w1.heap.size w1 w2 := by rw [hw2]; exact below1 _ _
  have BX : Blk w2 w1.heap.size 28 #[.int .i64 k, .int .i64 lp, .slice A2 as_.length c2] := by rw [hw2]; exact Blk.new _ _ _
  rw [← hw2]
  clear hw2
  obtain ⟨D, hD⟩ : ∃ D, D = w1.heap.size := ⟨_, rfl⟩
  rw [← hD] at BX ⊢
  clear hD
  have hDl := BX.lt
  have B2 := Lib.hid (bthen B1 b2)
  have HFS := Lib.hid (show ∀ W, Below w2.heap.size w2 W → RdFacts W W.heap.size (.slice Af fs.length cf) fs from fun W hW => (r1.on b2).on hW)
  have HAS := Lib.hid (show ∀ W, Below w2.heap.size w2 W → RdInts W W.heap.size (.slice A2 as_.length c2) as_ from fun W hW => (r2.on b2).on hW)
  have HYS := Lib.hid (show ∀ W, Below w2.heap.size w2 W → RdInts W W.heap.size (.slice A3 ys.length c3) ys from fun W hW => (r3.on b2).on hW)
  have HBX := Lib.hid (show ∀ W, Below w2.heap.size w2 W → W.cell? ⟨D, 0, none⟩ = some (.int .i64 k) ∧ W.cell? ⟨D, 1, none⟩ = some (.int .i64 lp) ∧ W.cell? ⟨D, 2, none⟩ = some (.slice A2 as_.length c2) from fun W hW => ⟨(BX.below hW BX.lt).cell 0, (BX.below hW BX.lt).cell 1, (BX.below hW BX.lt).cell 2⟩)
  obtain ⟨hb, hhb⟩ : ∃ hb, hb = holdsB fs (k, lp, as_) ys := ⟨_, rfl⟩
  have HHB := Lib.hid hhb
  have CI := Lib.hid (fun W (hW : Below w2.heap.size w2 W) => implHolds_any (.slice Af fs.length cf) (.agg #[.int .i64 k, .int .i64 lp, .slice A2 as_.length c2]) (.slice A3 ys.length c3) fs (k, lp, as_) ys W (HFS.out _ hW) ⟨_, rfl, HAS.out _ hW⟩ (HYS.out _ hW) (by omega) (by omega) (by show as_.length ≤ 1048576; omega) (by omega))
  have CS := Lib.hid (fun W (hW : Below w2.heap.size w2 W) => specHolds_any (.slice Af fs.length cf) (.agg #[.int .i64 k, .int .i64 lp, .slice A2 as_.length c2]) (.slice A3 ys.length c3) fs (k, lp, as_) ys W (HFS.out _ hW) ⟨_, rfl, HAS.out _ hW⟩ (HYS.out _ hW) (by omega) (by omega) (by show as_.length ≤ 1048576; omega) (by omega))
  rw [← hhb] at CI CS
  have CX := Lib.hid (fun W (hW : Below w2.heap.size w2 W) => implHeadOf_any (.agg #[.int .i64 lp, .slice A2 as_.length c2]) (.slice A3 ys.length c3) (lp, as_) ys W ⟨_, rfl, HAS.out _ hW⟩ (HYS.out _ hW) (by show as_.length ≤ 1048576; omega) (by omega))
  obtain ⟨x0, x1, x2⟩ := HBX.out _ (Below.refl _ _)
  have hneq : (hb != hb) = false := by simp
  clear hhb BX b2 B1 r1 r2 r3
  go_upto_region 6 with (first
    | (go_at_call 5; refine (CI.out _ (Below.refl _ _)).mono ?_
       rintro e w3 ⟨rfl, b3⟩
       have B3 := Lib.hid b3
       clear b3)
    | (go_at_call 6; refine (drawHeadOf_any _ code w3 (HV.out.onM (bthen B2.out B3.out)) hby hbn).mono ?_
       rintro e w4 ⟨a, zs, A4, c4, A5, c5, rfl, hal, hzl, r4, r5, b4⟩
       have B4 := Lib.hid (bthen B3.out b4)
       clear b4))
  obtain ⟨w5, hw5⟩ : ∃ w5, w5 = w4.alloc (Obj.cells #[Value.int .i64 a.1, Value.slice A4 a.2.length c4] 26) := ⟨_, rfl⟩
  have b5 : Below w4.heap.size w4 w5 := by rw [hw5]; exact below1 _ _
  have BA : Blk w5 w4.heap.size 26 #[.int .i64 a.1, .slice A4 a.2.length c4] := by rw [hw5]; exact Blk.new _ _ _
  rw [← hw5]
  clear hw5
  obtain ⟨E, hE⟩ : ∃ E, E = w4.heap.size := ⟨_, rfl⟩
  rw [← hE] at BA ⊢
  clear hE x0 x1 x2
  have hEl := BA.lt
  have B5 := Lib.hid (bthen B4.out b5)
  have HAA := Lib.hid (show ∀ W, Below w5.heap.size w5 W → RdInts W W.heap.size (.slice A4 a.2.length c4) a.2 from fun W hW => (r4.on b5).on hW)
  have HZZ := Lib.hid (show ∀ W, Below w5.heap.size w5 W → RdInts W W.heap.size (.slice A5 zs.length c5) zs from fun W hW => (r5.on b5).on hW)
  have HBA := Lib.hid (show ∀ W, Below w5.heap.size w5 W → W.cell? ⟨E, 0, none⟩ = some (.int .i64 a.1) ∧ W.cell? ⟨E, 1, none⟩ = some (.slice A4 a.2.length c4) from fun W hW => ⟨(BA.below hW BA.lt).cell 0, (BA.below hW BA.lt).cell 1⟩)
  obtain ⟨F, hF⟩ : ∃ F, F = headOf a zs := ⟨_, rfl⟩
  have hFl : F.2.length ≤ 8 := by rw [hF]; exact Nat.le_trans (headOf_length a zs) hal
  obtain ⟨ho, hho⟩ : ∃ ho, ho = headOk a zs := ⟨_, rfl⟩
  have hoq : (ho != ho) = false := by simp
  have CH := Lib.hid (implHeadOf_any (.agg #[.int .i64 a.1, .slice A4 a.2.length c4]) (.slice A5 zs.length c5) a zs w5 ⟨_, rfl, HAA.out _ (Below.refl _ _)⟩ (HZZ.out _ (Below.refl _ _)) (by omega) (by omega))
  have CG := Lib.hid (fun W (hW : Below w5.heap.size w5 W) => specHeadOf_any (.agg #[.int .i64 a.1, .slice A4 a.2.length c4]) (.slice A5 zs.length c5) a zs W ⟨_, rfl, HAA.out _ hW⟩ (HZZ.out _ hW) (by omega) (by omega))
  rw [← hF, ← hho] at CH CG
  obtain ⟨y0, y1⟩ := HBA.out _ (Below.refl _ _)
  clear hF hho BA b5 r4 r5
  go_upto_region 7 with (go_at_call 7; refine CH.out.mono ?_
                         rintro e w6 ⟨A6, c6, rfl, o6, b6⟩
                         have HO6 := Lib.hid o6.rd
                         have B6 := Lib.hid b6
                         clear o6 b6)
  obtain ⟨w7, hw7⟩ : ∃ w7, w7 = w6.alloc (Obj.cells #[Value.int .i64 F.1, Value.slice A6 F.2.length c6] 34) := ⟨_, rfl⟩
  have b7 : Below w6.heap.size w6 w7 := by rw [hw7]; exact below1 _ _
  have BF : Blk w7 w6.heap.size 34 #[.int .i64 F.1, .slice A6 F.2.length c6] := by rw [hw7]; exact Blk.new _ _ _
  rw [← hw7]
  clear hw7
  obtain ⟨G, hG⟩ : ∃ G, G = w6.heap.size := ⟨_, rfl⟩
  rw [← hG] at BF ⊢
  have hGl := BF.lt
  have HO7 := Lib.hid (HO6.out.on b7)
  have B7 := Lib.hid (bthen B6.out b7)
  have HBF := Lib.hid BF
  clear hG b7 BF y0 y1
  obtain ⟨y0, y1⟩ := HBA.out _ B7.out
  go_upto_region 8 with (go_at_call 8; refine (CG.out _ B7.out).mono ?_
                         rintro e w8 ⟨A8, c8, rfl, o8, b8⟩
                         have HO8 := Lib.hid o8.rd
                         have B8 := Lib.hid b8
                         clear o8 b8)
  obtain ⟨w9, hw9⟩ : ∃ w9, w9 = w8.alloc (Obj.cells #[Value.int .i64 F.1, Value.slice A8 F.2.length c8] 34) := ⟨_, rfl⟩
  have b9 : Below w8.heap.size w8 w9 := by rw [hw9]; exact below1 _ _
  have BG : Blk w9 w8.heap.size 34 #[.int .i64 F.1, .slice A8 F.2.length c8] := by rw [hw9]; exact Blk.new _ _ _
  rw [← hw9]
  clear hw9
  obtain ⟨H, hH⟩ : ∃ H, H = w8.heap.size := ⟨_, rfl⟩
  rw [← hH] at BG ⊢
  have hHl := BG.lt
  have HP9 := Lib.hid (And.intro ((HO7.out.on B8.out).on b9) (HO8.out.on b9))
  have HF9 := Lib.hid ((HBF.out.below B8.out HBF.out.lt).below b9 (by have := B8.out.size; have := HBF.out.lt; omega))
  have HG9 := Lib.hid BG
  have B9 := Lib.hid (bthen B5.out (bthen B7.out (bthen B8.out b9)))
  have CFO := Lib.hid (fun W (hW : Below w9.heap.size w9 W) => implFactOrder_any (.agg #[.int .i64 F.1, .slice A6 F.2.length c6]) (.agg #[.int .i64 F.1, .slice A8 F.2.length c8]) F F W ⟨_, rfl, HP9.out.1.on hW⟩ ⟨_, rfl, HP9.out.2.on hW⟩ (by omega) (by omega))
  rw [order_refl] at CFO
  clear hH b9 BG y0 y1
  obtain ⟨x0, x1, x2⟩ := HBX.out _ B9.out
  go_upto_region 10 with (first
    | (go_at_call 9; refine (CS.out _ B9.out).mono ?_
       rintro e w10 ⟨rfl, b10⟩
       have B10 := Lib.hid (bthen B9.out b10)
       have HFa := Lib.hid (HF9.out.below b10 HF9.out.lt)
       have HGa := Lib.hid (HG9.out.below b10 HG9.out.lt)
       have u0 : w10.cell? ⟨G, 0, none⟩ = some (.int .i64 F.1) := HFa.out.cell 0
       have u1 : w10.cell? ⟨G, 1, none⟩ = some (.slice A6 F.2.length c6) := HFa.out.cell 1
       have u2 : w10.cell? ⟨H, 0, none⟩ = some (.int .i64 F.1) := HGa.out.cell 0
       have u3 : w10.cell? ⟨H, 1, none⟩ = some (.slice A8 F.2.length c8) := HGa.out.cell 1
       have BE10 := Lib.hid b10
       clear b10)
    | (go_at_call 10; refine (CFO.out _ BE10.out).mono ?_
       rintro e w11 ⟨rfl, b11⟩
       have B11 := Lib.hid (bthen B10.out b11)
       clear b11))
  clear x0 x1 x2 u0 u1 u2 u3
  obtain ⟨x0, x1, x2⟩ := HBX.out _ B11.out
  by_cases hk1 : 1 < k
  · have hkb : decide (1 < k) = true := by rw [decide_eq_true_eq]; exact hk1
    go_wp2_with (fail)
    go_ret
    exact ⟨rfl, bthen B2.out B11.out⟩
  have hkb : decide (1 < k) = false := by rw [decide_eq_false_iff_not]; exact hk1
  have hk01 : k = 0 ∨ k = 1 := by omega
  have HK := Lib.hid hk01
  obtain ⟨X, hX⟩ : ∃ X, X = headOf (lp, as_) ys := ⟨_, rfl⟩
  have hXl : X.2.length ≤ 8 := by rw [hX]; exact Nat.le_trans (headOf_length _ _) hl1
  obtain ⟨fu, hfu⟩ : ∃ fu, fu = headOk (lp, as_) ys := ⟨_, rfl⟩
  obtain ⟨hs, hhs⟩ : ∃ hs, hs = factsHas fs X := ⟨_, rfl⟩
  have HBE := Lib.hid (show hb = (fu && (hs == decide (k = 0))) by rw [HHB.out, holdsB_ask hk01, ← hfu, ← hX, ← hhs])
  have HOE := Lib.hid (show ∀ k2 : Int, k2 = 0 ∨ k2 = 1 → holdsB fs (k2, lp, as_) ys = (fu && (hs == decide (k2 = 0))) from fun k2 h => by rw [holdsB_ask h, ← hfu, ← hX, ← hhs])
  have HHS := Lib.hid hhs
  rw [← hX, ← hfu] at CX
  clear hX hfu hhs hk1 hk01
  go_upto_region 13 with (go_at_call 7; refine (CX.out _ B11.out).mono ?_
                          rintro e w12 ⟨A12, c12, rfl, o12, b12⟩
                          have HX12 := Lib.hid o12.rd
                          have B12 := Lib.hid (bthen B11.out b12)
                          clear o12 b12)
  obtain ⟨w13, hw13⟩ : ∃ w13, w13 = w12.alloc (Obj.cells #[Value.int .i64 X.1, Value.slice A12 X.2.length c12] 34) := ⟨_, rfl⟩
  have b13 : Below w12.heap.size w12 w13 := by rw [hw13]; exact below1 _ _
  have BX13 : Blk w13 w12.heap.size 34 #[.int .i64 X.1, .slice A12 X.2.length c12] := by rw [hw13]; exact Blk.new _ _ _
  rw [← hw13]
  clear hw13
  obtain ⟨P, hP⟩ : ∃ P, P = w12.heap.size := ⟨_, rfl⟩
  rw [← hP] at BX13 ⊢
  have hPl := BX13.lt
  have B13 := Lib.hid (bthen B12.out b13)
  have HX13 := Lib.hid (HX12.out.on b13)
  have HBP := Lib.hid BX13
  clear hP b13 BX13 x0 x1 x2
  obtain ⟨x0, x1, x2⟩ := HBX.out _ B13.out
  obtain ⟨k2, hk2, hk2r⟩ : ∃ k2 : Int, IntKind.i64.wrap (1 - k) = k2 ∧ (k2 = 0 ∨ k2 = 1) ∧ decide (k2 = 0) = !decide (k = 0) := by
    rcases HK.out with rfl | rfl
    · exact ⟨1, by decide, .inr rfl, by decide⟩
    · exact ⟨0, by decide, .inl rfl, by decide⟩
  have HK2 := Lib.hid hk2r
  clear hk2r
  have hDw : D < w13.heap.size := by have := B13.out.size; omega
  go_upto_region 15 with fail
  obtain ⟨w14, hw14⟩ : ∃ w14, w14 = w13.alloc (Obj.cells #[Value.int .i64 k2, Value.int .i64 lp, Value.slice A2 as_.length c2] 28) := ⟨_, rfl⟩
  have b14 : Below w13.heap.size w13 w14 := by rw [hw14]; exact below1 _ _
  have BO : Blk w14 w13.heap.size 28 #[.int .i64 k2, .int .i64 lp, .slice A2 as_.length c2] := by rw [hw14]; exact Blk.new _ _ _
  rw [← hw14]
  clear hw14 x0 x1 x2
  have B14 := Lib.hid (bthen B13.out b14)
  obtain ⟨x0, x1, x2⟩ := HBX.out _ B14.out
  have BP14 := HBP.out.below b14 HBP.out.lt
  have M0 := later_cell x0
  have M1 := later_cell (BP14.cell 0)
  have M2 := later_cell (BP14.cell 1)
  have M3 := later_cell (BO.cell 0)
  have M4 := later_cell (BO.cell 1)
  have M5 := later_cell (BO.cell 2)
  have HX14 := Lib.hid (HX13.out.on b14)
  have D1 := Lib.hid (fun x : Later w14 => later_of (show Calls Try.prog 11 #[.slice Af fs.length cf, .agg #[.int .i64 X.1, .slice A12 X.2.length c12]] x.val fun e w' => e = .returned (.bool hs) ∧ Below x.val.heap.size x.val w' from by
    have := implFactsHas_any (.slice Af fs.length cf) (.agg #[.int .i64 X.1, .slice A12 X.2.length c12]) fs X x.val (HFS.out _ (bthen B14.out x.2)) ⟨_, rfl, HX14.out.on x.2⟩ (by omega) (by omega) (by omega)
    rw [← HHS.out] at this
    exact this))
  have D2 := Lib.hid (fun x : Later w14 => later_of (show Calls Try.prog 5 #[.slice Af fs.length cf, .agg #[.int .i64 k2, .int .i64 lp, .slice A2 as_.length c2], .slice A3 ys.length c3] x.val fun e w' => e = .returned (.bool (fu && (hs == decide (k2 = 0)))) ∧ Below x.val.heap.size x.val w' from by
    have := implHolds_any (.slice Af fs.length cf) (.agg #[.int .i64 k2, .int .i64 lp, .slice A2 as_.length c2]) (.slice A3 ys.length c3) fs (k2, lp, as_) ys x.val (HFS.out _ (bthen B14.out x.2)) ⟨_, rfl, HAS.out _ (bthen B14.out x.2)⟩ (HYS.out _ (bthen B14.out x.2)) (by omega) (by omega) (by show as_.length ≤ 1048576; omega) (by omega)
    rw [HOE.out k2 HK2.out.1] at this
    exact this))
  rw [HK2.out.2] at D2
  obtain ⟨kb, hkbq⟩ : ∃ kb, kb = decide (k = 0) := ⟨_, rfl⟩
  have hkq : (k == 0) = kb := by rw [hkbq]; rcases HK.out with rfl | rfl <;> rfl
  rw [← hkbq] at D2 HBE
  have HBW := Lib.hid (bthen B2.out B14.out)
  have hbe := HBE.out
  subst hbe
  clear hk2 hkbq x0 x1 x2 BP14 BO b14 HBE HHB CI CS hneq
  cases fu <;> cases hs <;> cases kb <;>
  (refine wp_region_later (by kernel_rfl) (by kernel_rfl) ?_
   repeat (go_big_quiet_step ((first | (go_at_call 11; exact D1.out _) | (go_at_call 5; exact D2.out _))))
   refine wpQuiet_nil ?_
   rintro _ ⟨xq, rfl⟩
   go_wp2_with (fail)
   go_ret
   exact ⟨rfl, bthen HBW.out xq.2⟩)

theorem lawPlainHolds_in (v : Value) (bs : List Nat) (w : World) (h : InBytes w v bs) : Calls Try.prog 3 #[v] w fun e w' => e = .returned (.bool true) ∧ Below w.heap.size w w' :=
  lawPlainHolds_any v bs w h.1 h.2.1 h.2.2

end Go.Proofs.Ytofkcmihcgmmpaa
namespace Go.Proofs.Ytofkcmihcgmmpaa
open Go.ChangeShapes Go.WideShapes Go.ChangeAt Go.RowKit

set_option maxRecDepth 100000 in
theorem fnHolds_lifted (os : Os) (started : os.Started) (H : Type) (enc : TypeId × Value → H) :
    ReturnsInHanded {} Try.checked os 3 .any (Rows.fnHoldsSpec.pre6 enc Try.prog Try.f3 Rows.fnHoldsRow.domain false) (Rows.fnHoldsSpec.post enc Try.prog Try.f3 false true false false) := by
  refine returnsInHanded_of_change (C := Try.checked) Try.own started (by kernel_rfl) Try.func3
    (ChangeSpec.witness6 (enc := enc) (C := Try.checked) false ⟨#[], #[.slice none 0 0], []⟩ 8 (by kernel_rfl) (by kernel_rfl) (by kernel_rfl) (by kernel_rfl)) ?_
  intro W base args ds gs before hval0 hW hcnd _
  have hval : ∀ (j : Nat) t v, Try.f3.params[j]? = some t → args[j]? = some v → Value.okWide Try.prog W .any base t v := hval0
  have hW' := hW
  obtain ⟨p, q, hA0, hV, rfl, hfz, hnd⟩ := hW
  have hA : DataW.TrodAll enc Try.prog W 0 (fun _ => true) true Try.f3.params.toList args.toList ds p := hA0
  rw [Try.params3] at hA hval
  obtain ⟨v0, vs0, d0, ds0, p0, q0, hargs, rfl, rfl, h0, r0⟩ := trodAll_cons hA
  obtain ⟨rfl, rfl, rfl⟩ := trodAll_nil r0
  obtain rfl : args = #[v0] := by cases args; simp_all
  obtain ⟨rfl, rfl⟩ := trodVars_none hV
  have lt0 : ∀ x ∈ p0, x.block < W.heap.size := by obtain ⟨m, hm⟩ := h0; exact DataW.trod_lt m _ _ _ hm
  obtain ⟨x0, w0⟩ := open_inBytes (hval 0 22 v0 rfl rfl) h0
  clear hA0 hval0
  refine (lawPlainHolds_in v0 x0 W w0).mono fun e W' ⟨he, bel⟩ => ?_
  subst he
  exact ⟨_, rfl, _, _, _, [], _, [], hW', trodAll_mk1 (shut_bool Try.underlying4 _), (trodAll_cons_mk (Below.trod Try.laidOut (by kernel_rfl) (of_decide_eq_true (by kernel_rfl)) h0 bel lt0) trodAll_mk0), rfl, bel.frame _, fun h => by cases h⟩

theorem fnHolds_holds : Rows.FnHoldsSaid :=
  OpenClaim.holds_of_wide 3 Try.f3 rfl rfl rfl rfl rfl rfl rfl ⟨rfl, rfl, rfl, rfl, rfl⟩ rfl rfl rfl rfl rfl (by kernel_rfl) Try.func3 (by kernel_rfl)
    (of_decide_eq_true (by kernel_rfl)) (by unfold Func.isWrapper; rw [if_neg (of_decide_eq_false (by kernel_rfl))]; exact ⟨rfl, rfl⟩)
    (fun os started H enc _ => fnHolds_lifted os started H enc)

end Go.Proofs.Ytofkcmihcgmmpaa
