/-
  The walk of the law on FactOrder over drawn facts.
-/
import Derived.Test.YtdclfcjbadgmfaaDrawOrder
import Derived.Test.YtdclfcjbadgmfaaOpenBytes
import Derived.Test.YtdclfcjbadgmfaaAscend
import Derived.Test.YtdclfcjbadgmfaaFactOk
import Derived.Test.YtdclfcjbadgmfaaSpecFactOk
import Derived.Test.YtdclfcjbadgmfaaImplAll
import Derived.Test.YtdclfcjbadgmfaaSpecAll
import Derived.Test.YtdclfcjbadgmfaaSpecOrder
import Derived.Test.YtdclfcjbadgmfaaFactOrder
import Derived.Test.YtdclfcjbadgmfaaLawAllFacts
namespace Go.Proofs.Ytdclfcjbadgmfaa
open Go.RowKit

theorem cmpI_range (a b : Int) : cmpI a b = -1 ∨ cmpI a b = 0 ∨ cmpI a b = 1 := by
  unfold cmpI
  split <;> (try split) <;> simp
theorem cmpL_range : ∀ xs ys : List Int, cmpL xs ys = -1 ∨ cmpL xs ys = 0 ∨ cmpL xs ys = 1
  | [], [] => by simp [cmpL]
  | [], _ :: _ => by simp [cmpL]
  | _ :: _, [] => by simp [cmpL]
  | x :: xs, y :: ys => by
    unfold cmpL
    split
    · exact cmpL_range xs ys
    · exact cmpI_range x y
theorem factOrder_range (f g : LFact) : factOrder f g = -1 ∨ factOrder f g = 0 ∨ factOrder f g = 1 := by
  unfold factOrder
  split
  · exact cmpL_range _ _
  · exact cmpI_range _ _

set_option maxHeartbeats 4000000 in
set_option maxRecDepth 100000 in
theorem lawPlainFactOrder_any (v : Value) (bs : List Nat) (w : World) (hr : RdBytes w w.heap.size v bs) (_ : bs.length ≤ maxLen) (hby : ∀ b ∈ bs, b < 256) :
    Calls Try.prog 3 #[v] w fun e w' => e = .returned (.bool true) ∧ Below w.heap.size w w' := by
  have HV := Lib.hid hr
  obtain ⟨Av, cv, rfl, hcv, _⟩ := hr
  go_enter Try.func3, Try.ntmps3
  by_cases hbig : 1048576 < bs.length
  · have hd : decide ((1048576 : Int) < bs.length) = true := by simp; omega
    go_wp2_with (fail)
    go_ret
    exact ⟨rfl, Below.refl _ _⟩
  · have hd : decide ((1048576 : Int) < bs.length) = false := by simp; omega
    have hbn : bs.length ≤ 1073741824 := by omega
    go_wp2_with (fail)
    refine (drawFactOrder_any _ bs _ HV.out hby hbn).mono ?_
    rintro e w1 ⟨A, c, f, A2, c2, g, rfl, hf, hg, hof, hog, B1⟩
    go_wp2_with (fail)
    obtain ⟨w2, hw2⟩ : ∃ w2, w2 = (w1.alloc (Obj.cells #[Value.int IntKind.i64 f.fst, Value.slice A f.snd.length c] 25)).alloc (Obj.cells #[Value.int IntKind.i64 g.fst, Value.slice A2 g.snd.length c2] 25) := ⟨_, rfl⟩
    have b2 : Below w1.heap.size w1 w2 := by rw [hw2]; exact below2 _ _ _
    have x2 : Blk w2 w1.heap.size 25 #[.int .i64 f.1, .slice A f.2.length c] := by rw [hw2]; exact (Blk.new _ _ _).alloc _
    have y2 : Blk w2 (w1.heap.size + 1) 25 #[.int .i64 g.1, .slice A2 g.2.length c2] := by rw [hw2]; simpa using Blk.new (w1.alloc (Obj.cells #[Value.int IntKind.i64 f.fst, Value.slice A f.snd.length c] 25)) 25 #[.int .i64 g.1, .slice A2 g.2.length c2]
    rw [← hw2]
    have B2 := bthen B1 b2
    have F2 : RdFact w2 w2.heap.size (.agg #[.int .i64 f.1, .slice A f.2.length c]) f := RdFact.on ⟨_, rfl, hof.rd⟩ b2
    have G2 : RdFact w2 w2.heap.size (.agg #[.int .i64 g.1, .slice A2 g.2.length c2]) g := RdFact.on ⟨_, rfl, hog.rd⟩ b2
    clear hw2 hof hog b2 B1
    refine (implFactOrder_any _ _ f g _ F2 G2 (by omega) (by omega)).mono ?_
    rintro e w3 ⟨rfl, hb3⟩
    have B3 := bthen B2 hb3
    have x3 := x2.below hb3 x2.lt
    have y3 := y2.below hb3 y2.lt
    have F3 := F2.on hb3
    have G3 := G2.on hb3
    clear hb3 x2 y2 F2 G2 B2
    go_wp2_with (fail)
    refine (drawAllFacts_any _ bs _ (HV.out.on B3) hby hbn).mono ?_
    rintro e w4 ⟨⟨x, y, rfl, _, _⟩, hb4⟩
    have B4 := bthen B3 hb4
    have x4 := x3.below hb4 x3.lt
    have y4 := y3.below hb4 y3.lt
    have F4 := F3.on hb4
    have G4 := G3.on hb4
    clear hb4 x3 y3 F3 G3 B3
    have hbd := allFacts_bound x y
    go_wp2_with (fail)
    refine (implAllFacts_any x y _).mono ?_
    rintro e w5 ⟨A5, c5, rfl, ho5, hb5⟩
    have B5 := bthen B4 hb5
    have x5 := x4.below hb5 x4.lt
    have y5 := y4.below hb5 y4.lt
    have F5 := F4.on hb5
    have G5 := G4.on hb5
    have L5 := ho5.rd
    clear hb5 x4 y4 F4 G4 B4 ho5
    go_wp2_with (fail)
    refine (drawFactOk_any _ bs _ (HV.out.on B5) hby hbn).mono ?_
    rintro e wz ⟨A7, c7, ar, A6, c6, h, rfl, har, hh, hoa, hoh, hbz⟩
    have B6 := bthen B5 hbz
    have x6 := x5.below hbz x5.lt
    have y6 := y5.below hbz y5.lt
    have F6 := F5.on hbz
    have G6 := G5.on hbz
    have L6 := L5.on hbz
    clear hbz x5 y5 F5 G5 L5 B5
    go_upto_region 8 with (fail)
    obtain ⟨wv, hwv⟩ : ∃ wv, wv = wz.alloc (Obj.cells #[Value.int IntKind.i64 h.fst, Value.slice A6 h.snd.length c6] 25) := ⟨_, rfl⟩
    rw [← hwv]
    have bv : Below wz.heap.size wz wv := by rw [hwv]; exact below1 _ _
    have z7 : Blk wv wz.heap.size 25 #[.int .i64 h.1, .slice A6 h.2.length c6] := by rw [hwv]; exact Blk.new _ _ _
    have x7 := x6.below bv x6.lt
    have y7 := y6.below bv y6.lt
    have RF := Lib.hid (F6.on bv)
    have RG := Lib.hid (G6.on bv)
    have RH := Lib.hid (show RdFact wv wv.heap.size (.agg #[.int .i64 h.1, .slice A6 h.2.length c6]) h from RdFact.on ⟨_, rfl, hoh.rd⟩ bv)
    have RR := Lib.hid (hoa.rd.on bv)
    have RAL := Lib.hid (L6.on bv)
    have B7 := bthen B6 bv
    have NEG := Lib.hid (factOrder_turn f g)
    have NEGW := Lib.hid (show IntKind.i64.wrap (-factOrder g f) = -factOrder g f from by rcases factOrder_range g f with e | e | e <;> rw [e] <;> decide)
    have q0 : wv.cell? ⟨w1.heap.size, 0, none⟩ = some (.int .i64 f.1) := x7.cell 0
    have q1 : wv.cell? ⟨w1.heap.size, 1, none⟩ = some (.slice A f.2.length c) := x7.cell 1
    have q2 : wv.cell? ⟨w1.heap.size + 1, 0, none⟩ = some (.int .i64 g.1) := y7.cell 0
    have q3 : wv.cell? ⟨w1.heap.size + 1, 1, none⟩ = some (.slice A2 g.2.length c2) := y7.cell 1
    have q4 : wv.cell? ⟨wz.heap.size, 0, none⟩ = some (.int .i64 h.1) := z7.cell 0
    have q5 : wv.cell? ⟨wz.heap.size, 1, none⟩ = some (.slice A6 h.2.length c6) := z7.cell 1
    clear hwv F6 G6 L6 hoh hoa bv B6 x6 y6
    obtain ⟨SS, hSS⟩ : ∃ SS : World → Prop, SS = (fun W => Below wv.heap.size wv W ∧ W.cell? ⟨w1.heap.size, 0, none⟩ = some (.int .i64 f.1) ∧ W.cell? ⟨w1.heap.size, 1, none⟩ = some (.slice A f.2.length c) ∧ W.cell? ⟨w1.heap.size + 1, 0, none⟩ = some (.int .i64 g.1) ∧ W.cell? ⟨w1.heap.size + 1, 1, none⟩ = some (.slice A2 g.2.length c2) ∧ W.cell? ⟨wz.heap.size, 0, none⟩ = some (.int .i64 h.1) ∧ W.cell? ⟨wz.heap.size, 1, none⟩ = some (.slice A6 h.2.length c6)) := ⟨_, rfl⟩
    have HB := Lib.hid (show ∀ W, SS W → (Below wv.heap.size wv W ∧ W.cell? ⟨w1.heap.size, 0, none⟩ = some (.int .i64 f.1) ∧ W.cell? ⟨w1.heap.size, 1, none⟩ = some (.slice A f.2.length c) ∧ W.cell? ⟨w1.heap.size + 1, 0, none⟩ = some (.int .i64 g.1) ∧ W.cell? ⟨w1.heap.size + 1, 1, none⟩ = some (.slice A2 g.2.length c2) ∧ W.cell? ⟨wz.heap.size, 0, none⟩ = some (.int .i64 h.1) ∧ W.cell? ⟨wz.heap.size, 1, none⟩ = some (.slice A6 h.2.length c6)) from by rw [hSS]; exact fun W h => h)
    have HS := Lib.hid (show ∀ W, Below wv.heap.size wv W → SS W from by
      rw [hSS]
      exact fun W hW => ⟨hW, (hW.cell (World.block_lt_of_cell? _ _ q0)).trans q0, (hW.cell (World.block_lt_of_cell? _ _ q1)).trans q1, (hW.cell (World.block_lt_of_cell? _ _ q2)).trans q2, (hW.cell (World.block_lt_of_cell? _ _ q3)).trans q3, (hW.cell (World.block_lt_of_cell? _ _ q4)).trans q4, (hW.cell (World.block_lt_of_cell? _ _ q5)).trans q5⟩)
    clear hSS
    have BB : Below wv.heap.size wv wv.drew := (Below.refl _ _).drew
    have SB := HS.out _ BB
    refine wp_region_rel SS 29 30 (by kernel_rfl) rfl ?_
    refine wpAnyR_pure (i := 0) (oi := _) ?v0 rfl rfl (by kernel_rfl) (by decide) (fun _ _ _ h => h) rfl ?hy0 (fun _ => SB) ?rest0
    case hy0 => (intro W; go_simp; (try with_reducible rfl))
    try simp only [List.setIfInBounds_toArray, List.set_cons_zero, List.set_cons_succ]
    refine wpAnyR_take (i := 1) (oi := _) ?v1 rfl rfl (by kernel_rfl) (fun _ _ _ h => h) rfl ?hy1 SB ?rest1
    case hy1 => (intro W hW; obtain ⟨_, e0, e1, e2, e3, e4, e5⟩ := HB.out W hW; go_simp; (try with_reducible rfl))
    try simp only [List.setIfInBounds_toArray, List.set_cons_zero, List.set_cons_succ]
    refine wpAnyR_take (i := 2) (oi := _) ?v2 rfl rfl (by kernel_rfl) (fun _ _ _ h => h) rfl ?hy2 SB ?rest2
    case hy2 => (intro W hW; obtain ⟨_, e0, e1, e2, e3, e4, e5⟩ := HB.out W hW; go_simp; (try with_reducible rfl))
    try simp only [List.setIfInBounds_toArray, List.set_cons_zero, List.set_cons_succ]
    refine wpAnyR_one (i := 3) (by kernel_rfl) rfl (fun K hK => ?_)
    rw [if_pos (show Region.wanted _ _ = true from rfl)]
    go_simp
    refine (specFactOrder_any _ _ f g _ (RF.out.on BB) (RG.out.on BB) (by omega) (by omega)).mono ?_
    rintro e W3 ⟨rfl, hb3⟩
    have BB := bthen BB hb3
    have SB := HS.out _ BB
    refine hK.out _ _ (fun _ => SB) ?_
    clear hK K hb3
    try simp only [List.setIfInBounds_toArray, List.set_cons_zero, List.set_cons_succ, Act.put]
    refine wpAnyR_pure (i := 4) (oi := _) (.bool false) rfl rfl (by kernel_rfl) (by decide) (fun _ _ _ h => h) rfl ?hy4 (fun _ => SB) ?rest4
    case hy4 => (intro W; go_simp; (try simp))
    try simp only [List.setIfInBounds_toArray, List.set_cons_zero, List.set_cons_succ]
    refine wpAnyR_pure (i := 5) (oi := _) ?v5 rfl rfl (by kernel_rfl) (by decide) (fun _ _ _ h => h) rfl ?hy5 (fun _ => SB) ?rest5
    case hy5 => (intro W; go_simp; (try with_reducible rfl))
    try simp only [List.setIfInBounds_toArray, List.set_cons_zero, List.set_cons_succ]
    refine wpAnyR_pure (i := 6) (oi := _) ?v6 rfl rfl (by kernel_rfl) (by decide) (fun _ _ _ h => h) rfl ?hy6 (fun _ => SB) ?rest6
    case hy6 => (intro W; go_simp; (try with_reducible rfl))
    try simp only [List.setIfInBounds_toArray, List.set_cons_zero, List.set_cons_succ]
    refine wpAnyR_take (i := 7) (oi := _) ?v7 rfl rfl (by kernel_rfl) (fun _ _ _ h => h) rfl ?hy7 SB ?rest7
    case hy7 => (intro W hW; obtain ⟨_, e0, e1, e2, e3, e4, e5⟩ := HB.out W hW; go_simp; (try with_reducible rfl))
    try simp only [List.setIfInBounds_toArray, List.set_cons_zero, List.set_cons_succ]
    refine wpAnyR_take (i := 8) (oi := _) ?v8 rfl rfl (by kernel_rfl) (fun _ _ _ h => h) rfl ?hy8 SB ?rest8
    case hy8 => (intro W hW; obtain ⟨_, e0, e1, e2, e3, e4, e5⟩ := HB.out W hW; go_simp; (try with_reducible rfl))
    try simp only [List.setIfInBounds_toArray, List.set_cons_zero, List.set_cons_succ]
    refine wpAnyR_one (i := 9) (by kernel_rfl) rfl (fun K hK => ?_)
    rw [if_pos (show Region.wanted _ _ = true from rfl)]
    go_simp
    refine (implFactOrder_any _ _ g f _ (RG.out.on BB) (RF.out.on BB) (by omega) (by omega)).mono ?_
    rintro e W9 ⟨rfl, hb9⟩
    have BB := bthen BB hb9
    have SB := HS.out _ BB
    refine hK.out _ _ (fun _ => SB) ?_
    clear hK K hb9
    try simp only [List.setIfInBounds_toArray, List.set_cons_zero, List.set_cons_succ, Act.put]
    refine wpAnyR_pure (i := 10) (oi := _) (.int .i64 (factOrder f g)) rfl rfl (by kernel_rfl) (by decide) (fun _ _ _ h => h) rfl ?hy10 (fun _ => SB) ?rest10
    case hy10 => (intro W; go_simp; (try simp [NEG.out, NEGW.out]))
    try simp only [List.setIfInBounds_toArray, List.set_cons_zero, List.set_cons_succ]
    refine wpAnyR_pure (i := 11) (oi := _) (.bool false) rfl rfl (by kernel_rfl) (by decide) (fun _ _ _ h => h) rfl ?hy11 (fun _ => SB) ?rest11
    case hy11 => (intro W; go_simp; (try simp))
    try simp only [List.setIfInBounds_toArray, List.set_cons_zero, List.set_cons_succ]
    refine wpAnyR_pure (i := 12) (oi := _) (.bool false) rfl rfl (by kernel_rfl) (by decide) (fun _ _ _ h => h) rfl ?hy12 (fun _ => SB) ?rest12
    case hy12 => (intro W; go_simp; (try simp))
    try simp only [List.setIfInBounds_toArray, List.set_cons_zero, List.set_cons_succ]
    refine wpAnyR_pure (i := 13) (oi := _) ?v13 rfl rfl (by kernel_rfl) (by decide) (fun _ _ _ h => h) rfl ?hy13 (fun _ => SB) ?rest13
    case hy13 => (intro W; go_simp; (try with_reducible rfl))
    try simp only [List.setIfInBounds_toArray, List.set_cons_zero, List.set_cons_succ]
    refine wpAnyR_pure (i := 14) (oi := _) ?v14 rfl rfl (by kernel_rfl) (by decide) (fun _ _ _ h => h) rfl ?hy14 (fun _ => SB) ?rest14
    case hy14 => (intro W; go_simp; (try with_reducible rfl))
    try simp only [List.setIfInBounds_toArray, List.set_cons_zero, List.set_cons_succ]
    refine wpAnyR_pure (i := 15) (oi := _) ?v15 rfl rfl (by kernel_rfl) (by decide) (fun _ _ _ h => h) rfl ?hy15 (fun _ => SB) ?rest15
    case hy15 => (intro W; go_simp; (try with_reducible rfl))
    try simp only [List.setIfInBounds_toArray, List.set_cons_zero, List.set_cons_succ]
    refine wpAnyR_pure (i := 16) (oi := _) ?v16 rfl rfl (by kernel_rfl) (by decide) (fun _ _ _ h => h) rfl ?hy16 (fun _ => SB) ?rest16
    case hy16 => (intro W; go_simp; (try with_reducible rfl))
    try simp only [List.setIfInBounds_toArray, List.set_cons_zero, List.set_cons_succ]
    refine wpAnyR_one (i := 17) (by kernel_rfl) rfl (fun K hK => ?_)
    rw [if_pos (show Region.wanted _ _ = true from rfl)]
    go_simp
    refine (specAllFacts_any x y _).mono ?_
    rintro e W17 ⟨A17, c17, rfl, ho17, hb17⟩
    have RA17 := ho17.rd
    have RB17 := RAL.out.on (bthen BB hb17)
    have BB := bthen BB hb17
    have SB := HS.out _ BB
    refine hK.out _ _ (fun _ => SB) ?_
    clear hK K hb17
    try simp only [List.setIfInBounds_toArray, List.set_cons_zero, List.set_cons_succ, Act.put]
    refine wpAnyR_one (i := 18) (by kernel_rfl) rfl (fun K hK => ?_)
    rw [if_pos (show Region.wanted _ _ = true from rfl)]
    go_simp
    refine (wrFacts_yes _ _ (allFacts x y) _ RB17 RA17 (by omega) (by omega)).mono ?_
    rintro e W18 ⟨rfl, hb18⟩
    clear RA17 RB17 ho17
    have BB := bthen BB hb18
    have SB := HS.out _ BB
    refine hK.out _ _ (fun _ => SB) ?_
    clear hK K hb18
    try simp only [List.setIfInBounds_toArray, List.set_cons_zero, List.set_cons_succ, Act.put]
    refine wpAnyR_pure (i := 19) (oi := _) (.bool false) rfl rfl (by kernel_rfl) (by decide) (fun _ _ _ h => h) rfl ?hy19 (fun _ => SB) ?rest19
    case hy19 => (intro W; go_simp; (try simp))
    try simp only [List.setIfInBounds_toArray, List.set_cons_zero, List.set_cons_succ]
    refine wpAnyR_pure (i := 20) (oi := _) (.bool false) rfl rfl (by kernel_rfl) (by decide) (fun _ _ _ h => h) rfl ?hy20 (fun _ => SB) ?rest20
    case hy20 => (intro W; go_simp; (try simp))
    try simp only [List.setIfInBounds_toArray, List.set_cons_zero, List.set_cons_succ]
    refine wpAnyR_pure (i := 21) (oi := _) ?v21 rfl rfl (by kernel_rfl) (by decide) (fun _ _ _ h => h) rfl ?hy21 (fun _ => SB) ?rest21
    case hy21 => (intro W; go_simp; (try with_reducible rfl))
    try simp only [List.setIfInBounds_toArray, List.set_cons_zero, List.set_cons_succ]
    refine wpAnyR_pure (i := 22) (oi := _) ?v22 rfl rfl (by kernel_rfl) (by decide) (fun _ _ _ h => h) rfl ?hy22 (fun _ => SB) ?rest22
    case hy22 => (intro W; go_simp; (try with_reducible rfl))
    try simp only [List.setIfInBounds_toArray, List.set_cons_zero, List.set_cons_succ]
    refine wpAnyR_take (i := 23) (oi := _) ?v23 rfl rfl (by kernel_rfl) (fun _ _ _ h => h) rfl ?hy23 SB ?rest23
    case hy23 => (intro W hW; obtain ⟨_, e0, e1, e2, e3, e4, e5⟩ := HB.out W hW; go_simp; (try with_reducible rfl))
    try simp only [List.setIfInBounds_toArray, List.set_cons_zero, List.set_cons_succ]
    refine wpAnyR_pure (i := 25) (oi := _) ?v25 rfl rfl (by kernel_rfl) (by decide) (fun _ _ _ h => h) rfl ?hy25 (fun _ => SB) ?rest25
    case hy25 => (intro W; go_simp; (try with_reducible rfl))
    try simp only [List.setIfInBounds_toArray, List.set_cons_zero, List.set_cons_succ]
    refine wpAnyR_take (i := 26) (oi := _) ?v26 rfl rfl (by kernel_rfl) (fun _ _ _ h => h) rfl ?hy26 SB ?rest26
    case hy26 => (intro W hW; obtain ⟨_, e0, e1, e2, e3, e4, e5⟩ := HB.out W hW; go_simp; (try with_reducible rfl))
    try simp only [List.setIfInBounds_toArray, List.set_cons_zero, List.set_cons_succ]
    refine wpAnyR_one (i := 24) (by kernel_rfl) rfl (fun K hK => ?_)
    rw [if_pos (show Region.wanted _ _ = true from rfl)]
    go_simp
    refine (implFactOk_any _ _ ar h _ (RR.out.on BB) (RH.out.on BB) (by omega) (by omega)).mono ?_
    rintro e W24 ⟨rfl, hb24⟩
    have BB := bthen BB hb24
    have SB := HS.out _ BB
    refine hK.out _ _ (fun _ => SB) ?_
    clear hK K hb24
    try simp only [List.setIfInBounds_toArray, List.set_cons_zero, List.set_cons_succ, Act.put]
    refine wpAnyR_one (i := 27) (by kernel_rfl) rfl (fun K hK => ?_)
    rw [if_pos (show Region.wanted _ _ = true from rfl)]
    go_simp
    refine (specFactOk_any _ _ ar h _ (RR.out.on BB) (RH.out.on BB) (by omega) (by omega)).mono ?_
    rintro e W27 ⟨rfl, hb27⟩
    have BB := bthen BB hb27
    have SB := HS.out _ BB
    refine hK.out _ _ (fun _ => SB) ?_
    clear hK K hb27
    try simp only [List.setIfInBounds_toArray, List.set_cons_zero, List.set_cons_succ, Act.put]
    refine wpAnyR_pure (i := 28) (oi := _) (.bool false) rfl rfl (by kernel_rfl) (by decide) (fun _ _ _ h => h) rfl ?hy28 (fun _ => SB) ?rest28
    case hy28 => (intro W; go_simp; (try simp))
    try simp only [List.setIfInBounds_toArray, List.set_cons_zero, List.set_cons_succ]
    refine wpAnyR_one (i := 29) (by kernel_rfl) rfl (fun K hK => ?_)
    go_simp
    refine hK.out _ _ (fun hf => absurd hf (by decide)) ?_
    clear hK K
    refine wpAnyR_done (by kernel_rfl) ?_
    have BK := BB
    have BW := bthen B7 BB
    clear SB HB HS BB
    have HAsc := Lib.hid (fun i h1 h2 => allFacts_ascend x y i h1 h2)
    have HHead := Lib.hid (fun h0 => allFacts_head x y h0)
    have HF := Lib.hid (RF.out.on BK)
    have HAL := Lib.hid (RAL.out.on BK)
    have k0 : W27.cell? ⟨w1.heap.size, 0, none⟩ = some (.int .i64 f.1) := (x7.below BK x7.lt).cell 0
    have k1 : W27.cell? ⟨w1.heap.size, 1, none⟩ = some (.slice A f.2.length c) := (x7.below BK x7.lt).cell 1
    obtain ⟨n, hn⟩ : ∃ n, n = (allFacts x y).length := ⟨_, rfl⟩
    have hn36 : n ≤ 36 := by omega
    have hn2 : (allFacts x y).length = n := hn.symm
    rw [hn2]
    rw [hn2] at HAL
    have HN := Lib.hid hn
    have HT := Lib.hid hbd.2
    clear hn hn2
    clear BK x7 y7 z7 B7 hbd q0 q1 q2 q3 q4 q5 RAL RF RG RH RR NEG NEGW HV
    go_wp2_with (fail)
    go_loopw [11] (fun i wr => ∃ k : Nat, 1 ≤ k ∧ (k ≤ n ∨ k = 1) ∧ i = .int .i64 k ∧ Below W27.heap.size W27 wr) (fun i _ => n - (intOf i).toNat)
    case atStart => exact ⟨1, by omega, by omega, rfl, Below.refl _ _⟩
    case round =>
      obtain ⟨k, hk1, hkn, rfl, hbe⟩ := hrel
      by_cases hlt : k < n
      · obtain ⟨j, rfl⟩ : ∃ j, k = j + 1 := ⟨k - 1, by omega⟩
        have hj1 : j < (allFacts x y).length := by rw [← HN.out]; omega
        have hj2 : j + 1 < (allFacts x y).length := by rw [← HN.out]; omega
        have HALr := HAL.out.on hbe
        rw [HN.out] at HALr
        obtain ⟨b, o, A3, c3, e5, hbB, m1, m2, m3⟩ := HALr.get hj1
        obtain ⟨b', o', A4, c4, e6, hbB', l1, l2, l3⟩ := HALr.get hj2
        rw [e5] at e6
        simp only [Option.some.injEq, Addr.mk.injEq, and_true] at e6
        obtain ⟨rfl, rfl⟩ := e6
        subst e5
        have hlo := HAsc.out j hj1 hj2
        have hlj : (allFacts x y)[j].2.length ≤ 1048576 := by have := len_le_tot (allFacts x y) j hj1; have := HT.out; omega
        have hlk : (allFacts x y)[j + 1].2.length ≤ 1048576 := by have := len_le_tot (allFacts x y) (j + 1) hj2; have := HT.out; omega
        generalize (allFacts x y)[j] = fj at *
        generalize (allFacts x y)[j + 1] = fk at *
        have K3 := Lib.hid (show RdFact wr wr.heap.size (.agg #[.int .i64 fj.1, .slice A3 fj.2.length c3]) fj from ⟨_, rfl, m3⟩)
        have K4 := Lib.hid (show RdFact wr wr.heap.size (.agg #[.int .i64 fk.1, .slice A4 fk.2.length c4]) fk from ⟨_, rfl, l3⟩)
        have M1 := later_cell m1
        have M2 := later_cell m2
        have L1 := later_cell l1
        have L2 := later_cell l2
        have CO := Lib.hid (fun X : Later wr => implFactOrder_any _ _ fj fk X.val (K3.out.on X.2) (K4.out.on X.2) hlj hlk)
        have hd : decide (0 ≤ factOrder fj fk) = false := by simp; omega
        clear m1 m2 m3 l1 l2 l3 HALr hj1 hj2
        go_wp2_with (fail)
        refine wp_region_later (by kernel_rfl) (by kernel_rfl) ?_
        repeat (go_big_quiet_step ((go_at_call 12; exact later_of (CO.out _))))
        refine wpQuiet_nil ?_
        rintro _ ⟨xq, rfl⟩
        go_wp2_with (fail)
        go_roundw
        case rel => exact ⟨j + 1 + 1, by omega, by omega, by go_num, bthen hbe xq.2⟩
        case measure => simp [intOf]; omega
      · have hdk : decide ((k : Int) < (n : Int)) = false := by simp; omega
        have r0 : wr.cell? ⟨w1.heap.size, 0, none⟩ = some (.int .i64 f.1) := (hbe.cell (World.block_lt_of_cell? _ _ k0)).trans k0
        have r1 : wr.cell? ⟨w1.heap.size, 1, none⟩ = some (.slice A f.2.length c) := (hbe.cell (World.block_lt_of_cell? _ _ k1)).trans k1
        go_wp2_with (fail)
        refine (implFactOrder_any _ _ f f _ (HF.out.on hbe) (HF.out.on hbe) (by omega) (by omega)).mono ?_
        rintro e w9 ⟨rfl, hb9⟩
        rw [factOrder_self]
        have BF := Lib.hid (bthen BW (bthen hbe hb9))
        rcases Nat.eq_zero_or_pos n with hn0 | hn0
        · subst hn0
          go_wp2_with (fail)
          go_ret
          exact ⟨rfl, BF.out⟩
        · have hnz : ((n : Int) == 0) = false := by simp; omega
          have HALr := HAL.out.on (bthen hbe hb9)
          rw [HN.out] at HALr
          have h00 : 0 < (allFacts x y).length := by rw [← HN.out]; omega
          obtain ⟨b, o, A3, c3, e5, hbB, m1, _, _⟩ := HALr.get h00
          subst e5
          rw [HHead.out h00] at m1
          have m1 : w9.cell? ⟨b, o, none⟩ = some (.int .i64 x) := by simpa using m1
          go_wp2_with (fail)
          go_ret
          exact ⟨ret_bool (by simp), BF.out⟩

theorem lawPlainFactOrder_in (v : Value) (bs : List Nat) (w : World) (h : InBytes w v bs) :
    Calls Try.prog 3 #[v] w fun e w' => e = .returned (.bool true) ∧ Below w.heap.size w w' := lawPlainFactOrder_any v bs w h.1 h.2.1 h.2.2
