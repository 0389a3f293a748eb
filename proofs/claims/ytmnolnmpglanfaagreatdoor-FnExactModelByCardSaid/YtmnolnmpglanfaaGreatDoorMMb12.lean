/-
  Texts that the claim's last one imports, laid together: part 12 of 15. No condition of its own.
-/
import Derived.Test.YtmnolnmpglanfaaGreatDoorMMb6
import Derived.Test.YtmnolnmpglanfaaGreatDoorMMb7
import Derived.Test.YtmnolnmpglanfaaGreatDoorMMb8
import Derived.Test.YtmnolnmpglanfaaGreatDoorMMb9
import Derived.Test.YtmnolnmpglanfaaGreatDoorMMb10
import Derived.Test.YtmnolnmpglanfaaGreatDoorMMb11
namespace Go.Proofs.YtmnolnmpglanfaaGreatDoor
open Go.RowKit
theorem Tryz.infoRules : (Tryz.prog.info? 32).map (fun i => (i.zero, i.size, i.bytes)) = some (some (.slice none 0 0), 1, 24) := by kernel_rfl
def layD (ls : List Int) : List Int := Lib.compact (sortI ls)
theorem layD_up (ls : List Int) : (layD ls).Pairwise (· < ·) := compact_up (sortI_up ls)
theorem layD_mem {ls : List Int} {x : Int} : x ∈ layD ls <-> x ∈ ls := by unfold layD; rw [compact_mem, sortI_mem]
theorem layD_len (ls : List Int) : (layD ls).length <= ls.length := Nat.le_trans (compact_len _) (by rw [sortI_length]; exact Nat.le_refl _)
theorem found_at {D : List Int} {m : Int} {i : Nat} (hup : D.Pairwise (· < ·)) (hm : m ∈ D) (h1 : LessI D m i) (h2 : FromI D m i) : ∃ h : i < D.length, D[i] = m := by
 obtain ⟨q, hq, rfl⟩ := List.getElem_of_mem hm
 have hqi : ¬ q < i := fun h => by have := h1 q hq h; omega
 have hil : i < D.length := by omega
 refine ⟨hil, ?_⟩
 have h3 := h2 i hil (Nat.le_refl _)
 by_cases e : i = q
 ·subst e; rfl
 ·have := List.pairwise_iff_getElem.1 hup i q hil hq (by omega)
  omega
set_option maxHeartbeats 8000000 in
set_option maxRecDepth 100000 in
theorem rulesByLayer_any (v v2 : Value) (rs : List LRule) (ls : List Int) (w : World) (h : RdRules w w.heap.size v rs) (h2 : RdInts w w.heap.size v2 ls) (hb : ∀ r ∈ rs, 0 <= r.1.1 /\ r.1.1 < ls.length) (hn : rs.length <= 1048576) (hl : ls.length <= 1048576) :
 Calls Tryz.prog 70 #[v, v2] w fun e w' => ∃ (g : Nat) (uv : Nat -> Value), e = .returned (.slice (some ⟨g, 0, none⟩) (layD ls).length (layD ls).length) /\ w'.rowIs g 32 (layD ls).length uv /\ (∀ j (hj : j < (layD ls).length), RdRules w' w'.heap.size (uv j) (rulesAt rs ls (layD ls)[j])) /\ w.heap.size <= g /\ Below w.heap.size w w' := by
 have H := Lib.hid h
 have H2 := Lib.hid h2
 have HBD := Lib.hid hb
 obtain ⟨A, c, rfl, _, _⟩ := h
 obtain ⟨A2, c2, rfl, _, _⟩ := h2
 clear hb
 obtain ⟨i0, hi0, hz0, hz1, hz2⟩ := info_parts Tryz.infoRuleV
 go_enter Tryz.func70, Tryz.ntmps70
 go_wp2_with fail
 refine (cloneI_any _ ls w H2.out hl).mono ?_
 rintro e w1 ⟨A3, c3, rfl, o1, b1⟩
 have s1 := b1.size
 go_wp2_with fail
 refine (sortI_any _ ls _ _ w1 o1 hl).mono ?_
 rintro e w2 ⟨rfl, o2, b2⟩
 have s2 := b2.size
 have HS2 := Lib.hid o2
 have HB2 := Lib.hid (b1.trans (b2.below (Nat.le_refl _) s1))
 clear o1 o2 b2 b1
 go_wp2_with fail
 refine (compactI_any (.slice A3 ls.length c3) (sortI ls) w.heap.size w1.heap.size w2 HS2.out (by rw [sortI_length]; exact hl)).mono ?_
 rintro e w3 ⟨A4, c4, rfl, o3, b3⟩
 have s3 := b3.size
 have HS3 := Lib.hid (show OwnInts w3 w.heap.size w1.heap.size (.slice A4 (layD ls).length c4) (layD ls) from o3)
 have HB3 := Lib.hid (HB2.out.trans (b3.below (Nat.le_refl _) (by omega)))
 obtain ⟨D, hD⟩ : ∃ D, D = layD ls := ⟨_, rfl⟩
 have hDl : D.length <= 1048576 := by rw [hD]; exact Nat.le_trans (layD_len ls) hl
 have HUP := Lib.hid (show D.Pairwise (· < ·) by rw [hD]; exact layD_up ls)
 have HME := Lib.hid (show ∀ x, x ∈ ls -> x ∈ D from fun x hx => by rw [hD]; exact layD_mem.2 hx)
 have e3 : Lib.compact (sortI ls) = D := hD.symm
 rw [e3]
 rw [<- hD] at HS3
 have HD := Lib.hid hD
 clear o3 b3 hD e3
 have hmk := run_make_row' (P := Tryz.prog) 101 32 (.slice none 0 0) 24 Tryz.underlying101 Tryz.infoRules rfl .i64 .i64 D.length (by omega) (by omega)
 have HM := Lib.hid (show (w3.alloc (.cells (madeCells #[.slice none 0 0] D.length) 32)).rowIs w3.heap.size 32 D.length (fun _ => .slice none 0 0) from World.rowIs_made w3 _ _ _)
 have G0 := Lib.hid (GroupsAt.start (B := w.heap.size) (base := w3.heap.size) HM.out (by omega) (Nat.le_refl _))
 have BM := Lib.hid (show Below w3.heap.size w3 (w3.alloc (.cells (madeCells #[.slice none 0 0] D.length) 32)) from below1 _ _)
 have hw3 : w.heap.size <= w3.heap.size := by omega
 have hw13 : w1.heap.size <= w3.heap.size := by omega
 go_wp2_with fail
 obtain ⟨w4, hw4⟩ : ∃ w4, w4 = w3.alloc (.cells (madeCells #[.slice none 0 0] D.length) 32) := ⟨_, rfl⟩
 rw [<- hw4] at G0 BM ⊢
 have hs34 := BM.out.size
 obtain ⟨g, hg⟩ : ∃ g, g = w3.heap.size := ⟨_, rfl⟩
 rw [<- hg] at G0 ⊢
 have hg1 : w1.heap.size <= g := by omega
 have hg0 : w.heap.size <= g := by omega
 have hgl := G0.out.row.lt
 have HS4 := Lib.hid (show OwnInts w4 w.heap.size w1.heap.size (.slice A4 D.length c4) D from HS3.out.below BM.out hw13)
 have HB4 := Lib.hid (bthen HB3.out BM.out)
 clear hw4 hg hmk hs34
 go_loopw [8, 9, 10, 22] (fun _ _ _ i wr => ∃ (k : Nat) (E : Nat -> List REnt) (uv : Nat -> Value), k <= rs.length /\ i = .int .i64 k /\ Hid (∀ j (hj : j < D.length), (E j).map (·.1) = rulesAt (rs.take k) ls D[j]) /\ GroupsAt w.heap.size g g D.length wr E uv /\ Below g w4 wr) (fun _ _ _ i _ => rs.length - (intOf i).toNat)
 case atStart => exact ⟨0, _, _, Nat.zero_le _, rfl, Lib.hid (fun j hj => by simp [rulesAt]), G0.out, Below.refl _ _⟩
 case round =>
  obtain ⟨k, E, uv, hk, rfl, HE, hga, hbe⟩ := hrel
  have HG := Lib.hid hga
  have HBE := Lib.hid hbe
  have BW := Lib.hid (show Below w.heap.size w wr from HB4.out.trans (hbe.mono hg0))
  have hsw := hbe.size
  have hgr := hga.row.lt
  clear hga hbe
  by_cases hlt : k < rs.length
  ·obtain ⟨b, o, u0, u1, u2, rfl, hbB, k0, k1, k2, hq0, hq1, hq2⟩ := (H.out.below BW.out (Nat.le_refl _)).get hlt
   subst hq0
   obtain ⟨A8, c8, e8, _⟩ := id hq1
   subst e8
   obtain ⟨A9, c9, e9, _⟩ := id hq2
   subst e9
   obtain ⟨n8, hn8⟩ : ∃ n8, n8 = rs[k].1.2.length := ⟨_, rfl⟩
   obtain ⟨n9, hn9⟩ : ∃ n9, n9 = rs[k].2.length := ⟨_, rfl⟩
   rw [<- hn8] at k1 hq1
   rw [<- hn9] at k2 hq2
   clear hn8 hn9
   have hbd := HBD.out rs[k] (List.getElem_mem hlt)
   obtain ⟨y, hy⟩ := Int.eq_ofNat_of_zero_le hbd.1
   have hyl : y < ls.length := by omega
   obtain ⟨A6, c6, e6, _, hx⟩ := H2.out.on BW.out
   injection e6 with e6 _ e7
   subst e6 e7
   obtain ⟨b6, o6, rfl, hb6, hx⟩ := hx (by omega)
   have hcj : wr.cell? ⟨b6, o6 + y, none⟩ = some (.int .i64 ls[y]) := hx y hyl
   rw [hy] at k0
   have hyz : (0 : Int) <= (y : Int) := by omega
   have hyi : (y : Int) < (ls.length : Int) := by omega
   have hkz : (0 : Int) <= (k : Int) := by omega
   have hki : (k : Int) < (rs.length : Int) := by omega
   have HQ := Lib.hid (show RdInts wr w.heap.size (.slice A8 n8 c8) rs[k].1.2 /\ RdLits wr w.heap.size (.slice A9 n9 c9) rs[k].2 from ⟨hq1, hq2⟩)
   obtain ⟨x, hx2⟩ : ∃ x, x = ls[y] := ⟨_, rfl⟩
   have HMX := Lib.hid (show x ∈ D from HME.out x (by rw [hx2]; exact List.getElem_mem hyl))
   have HIN := Lib.hid (show ∀ m, inLayer ls m rs[k] = (x == m) from fun m => by unfold inLayer; rw [hy, hx2]; simp [hyl])
   have HY := Lib.hid hy
   rw [<- hx2] at hcj
   obtain ⟨w5, hw5⟩ : ∃ w5, w5 = wr.alloc (Obj.cells #[.int .i64 (y : Int), .slice A8 n8 c8, .slice A9 n9 c9] 138) := ⟨_, rfl⟩
   have B5 : Below wr.heap.size wr w5 := by rw [hw5]; exact below1 _ _
   have SI := Lib.hid (searchI_any (.slice A4 D.length c4) D x w5.heap.size w5 (((HS4.out.below HBE.out hg1).below B5 (by omega)).rd.more (by have := B5.size; omega)) (HUP.out.imp fun h => by omega) hDl)
   have hx5 : Blk w5 wr.heap.size 138 #[.int .i64 (y : Int), .slice A8 n8 c8, .slice A9 n9 c9] := by rw [hw5]; exact Blk.new _ _ _
   have hw5' : wr.alloc (Obj.cells #[.int .i64 (y : Int), .slice A8 n8 c8, .slice A9 n9 c9] 138) = w5 := hw5.symm
   have hcj5 : w5.cell? ⟨b6, o6 + y, none⟩ = some (.int .i64 x) := (B5.cell (World.block_lt_of_cell? _ _ hcj)).trans hcj
   clear hbd hy hx hq1 hq2 hx2 hw5
   go_upto_region 8 with fail
   have p0 : w5.cell? ⟨wr.heap.size, 0, none⟩ = some (.int .i64 (y : Int)) := hx5.cell 0
   have p1 : w5.cell? ⟨wr.heap.size, 1, none⟩ = some (.slice A8 n8 c8) := hx5.cell 1
   have p2 : w5.cell? ⟨wr.heap.size, 2, none⟩ = some (.slice A9 n9 c9) := hx5.cell 2
   obtain ⟨bx, hbx⟩ : ∃ bx, bx = wr.heap.size := ⟨_, rfl⟩
   have HBX := Lib.hid hbx
   rw [<- hbx] at p0 p1 p2 ⊢
   clear k0 k1 k2 hcj hw5' hbx
   go_upto_region 9 with (go_at_call 117; refine SI.out.mono ?_; rintro e w5 ⟨⟨i, R, rfl, hi1, hi2, hi3⟩, rfl⟩)
   have HIX := Lib.hid (found_at HUP.out HMX.out hi2 hi3)
   have hil : i < D.length := HIX.out.1
   have HG5 := Lib.hid (HG.out.on B5)
   obtain ⟨Au, cu, hui, hvu⟩ := HG5.out.rows i hil
   have HVU := Lib.hid hvu
   have HUI := Lib.hid hui
   have hel : (E i).length <= 1048576 := by
    have h1 := congrArg List.length (HE.out i hil)
    rw [List.length_map] at h1
    rw [h1]
    exact Nat.le_trans (rulesAt_len rs ls _ k) hn
   have q5 : w5.cell? ⟨g, i, none⟩ = some (.slice Au (E i).length cu) := by rw [<- hui]; exact HG5.out.row.cell hil
   have hiz : (0 : Int) <= (i : Int) := by omega
   have hii : (i : Int) < (D.length : Int) := by omega
   have hg5 := HG5.out.row.lt
   have hs5 := B5.size
   have hbx5 : bx < w5.heap.size := by rw [HBX.out]; exact hx5.lt
   clear hi1 hi2 hi3 hui hvu hcj5
   obtain ⟨SS, hSS⟩ : ∃ SS : World -> Prop, SS = (fun W => W.cell? ⟨g, i, none⟩ = some (.slice Au (E i).length cu) /\ W.cell? ⟨bx, 0, none⟩ = some (.int .i64 (y : Int)) /\ W.cell? ⟨bx, 1, none⟩ = some (.slice A8 n8 c8) /\ W.cell? ⟨bx, 2, none⟩ = some (.slice A9 n9 c9)) := ⟨_, rfl⟩
   have HSS := Lib.hid (show ∀ W, Below w5.heap.size w5 W -> SS W from by
    rw [hSS]
    exact fun W hW => ⟨(hW.cell (p := ⟨g, i, none⟩) hg5).trans q5, (hW.cell (p := ⟨bx, 0, none⟩) hbx5).trans p0, (hW.cell (p := ⟨bx, 1, none⟩) hbx5).trans p1, (hW.cell (p := ⟨bx, 2, none⟩) hbx5).trans p2⟩)
   have HB := Lib.hid (show ∀ W, SS W -> (W.cell? ⟨g, i, none⟩ = some (.slice Au (E i).length cu) /\ W.cell? ⟨bx, 0, none⟩ = some (.int .i64 (y : Int)) /\ W.cell? ⟨bx, 1, none⟩ = some (.slice A8 n8 c8) /\ W.cell? ⟨bx, 2, none⟩ = some (.slice A9 n9 c9)) from by rw [hSS]; exact fun W hW => hW)
   clear hSS q5 p0 p1 p2
   refine wp_region_rel SS 8 11 (by kernel_rfl) rfl ?_
   obtain ⟨wy, hwy⟩ : ∃ wy, wy = w5.drew := ⟨_, rfl⟩
   have HBY := Lib.hid (show Below w5.heap.size w5 wy by rw [hwy]; exact (Below.refl _ _).drew)
   rw [<- hwy]
   clear hwy
   have hsy := HBY.out.size
   have S0 := Lib.hid (HSS.out _ HBY.out)
   refine wpAnyR_pure (i := 0) (oi := _) ?va0 rfl rfl (by kernel_rfl) (by decide) (fun _ _ _ h => h) rfl ?hya0 (fun _ => S0.out) ?resta0
   case hya0 => (intro W; go_simp; (try with_reducible rfl))
   try simp only [List.setIfInBounds_toArray, List.set_cons_zero, List.set_cons_succ]
   refine wpAnyR_pure (i := 1) (oi := _) ?va1 rfl rfl (by kernel_rfl) (by decide) (fun _ _ _ h => h) rfl ?hya1 (fun _ => S0.out) ?resta1
   case hya1 => (intro W; go_simp; (try with_reducible rfl))
   try simp only [List.setIfInBounds_toArray, List.set_cons_zero, List.set_cons_succ]
   refine wpAnyR_pure (i := 2) (oi := _) ?va2 rfl rfl (by kernel_rfl) (by decide) (fun _ _ _ h => h) rfl ?hya2 (fun _ => S0.out) ?resta2
   case hya2 => (intro W; go_simp; (try with_reducible rfl))
   try simp only [List.setIfInBounds_toArray, List.set_cons_zero, List.set_cons_succ]
   refine wpAnyR_pure (i := 3) (oi := _) ?va3 rfl rfl (by kernel_rfl) (by decide) (fun _ _ _ h => h) rfl ?hya3 (fun _ => S0.out) ?resta3
   case hya3 => (intro W; go_simp; (try with_reducible rfl))
   try simp only [List.setIfInBounds_toArray, List.set_cons_zero, List.set_cons_succ]
   refine wpAnyR_pure (i := 4) (oi := _) ?va4 rfl rfl (by kernel_rfl) (by decide) (fun _ _ _ h => h) rfl ?hya4 (fun _ => S0.out) ?resta4
   case hya4 => (intro W; go_simp; (try with_reducible rfl))
   try simp only [List.setIfInBounds_toArray, List.set_cons_zero, List.set_cons_succ]
   refine wpAnyR_take (i := 5) (oi := _) ?va5 rfl rfl (by kernel_rfl) (fun _ _ _ h => h) rfl ?hya5 S0.out ?resta5
   case hya5 => (intro W hW; obtain ⟨E0, E1, E2, E3⟩ := HB.out W hW; go_simp; (try with_reducible rfl))
   try simp only [List.setIfInBounds_toArray, List.set_cons_zero, List.set_cons_succ]
   refine wpAnyR_take (i := 6) (oi := _) ?va6 rfl rfl (by kernel_rfl) (fun _ _ _ h => h) rfl ?hya6 S0.out ?resta6
   case hya6 => (intro W hW; obtain ⟨E0, E1, E2, E3⟩ := HB.out W hW; go_simp; (try with_reducible rfl))
   try simp only [List.setIfInBounds_toArray, List.set_cons_zero, List.set_cons_succ]
   refine wpAnyR_one (i := 7) (by kernel_rfl) rfl (fun K hK => ?_)
   try rw [if_pos (show Region.wanted _ _ = true from rfl)]
   go_simp
   have S1 := Lib.hid (HSS.out _ (bthen HBY.out (below1 wy (Obj.cells #[Value.int .i64 (y : Int), Value.slice A8 n8 c8, Value.slice A9 n9 c9] 138))))
   refine hK.out _ _ (fun _ => S1.out) ?_
   clear hK K
   try simp only [List.setIfInBounds_toArray, List.set_cons_zero, List.set_cons_succ, Act.put]
   refine wpAnyR_one (i := 8) (by kernel_rfl) rfl (fun K hK => ?_)
   refine step_append_lies _ rfl (.tmp 42) (.tmp 44) 32 rfl g 138 i0 (.agg #[.int .i64 0, .slice none 0 0, .slice none 0 0]) 3 56 Tryz.underlying32 hi0 hz0 hz1 hz2 rfl (by decide) (.slice Au (E i).length cu) (E i).length (flatG (E i)) rfl ?c1 ⟨wy.heap.size, 0, none⟩ 1 1 [.int .i64 (y : Int), .slice A8 n8 c8, .slice A9 n9 c9] rfl rfl ?c4 ?c2 (by omega) (by unfold maxLen; omega) (by omega) ?c3 _ rfl ?c5
   case c1 => exact (HVU.out.below HBY.out (by omega)).row.alloc _
   case c4 => exact World.news_of_block (cs := #[.int .i64 (y : Int), .slice A8 n8 c8, .slice A9 n9 c9]) (heap_alloc_new wy _)
   case c2 => intro u hu; simp at hu; rcases hu with rfl | rfl | rfl <;> rfl
   case c3 => simp; omega
   case c5 =>
   intro g2 cap w7 hown hgr hat _
   rw [<- HY.out] at hown
   have hpush := HG5.out.push (e := (rs[k], .slice A8 n8 c8, .slice A9 n9 c9)) hil HUI.out HBY.out (HQ.out.1.below (bthen B5 HBY.out) (by omega)) (HQ.out.2.below (bthen B5 HBY.out) (by omega)) hgr hat hown
   have hg'' := grown_from_alloc hgr
   have hgne : (Value.slice Au (E i).length cu).ownBlock ≠ some g := by rw [<- HUI.out]; exact HG5.out.apart hil
   have hgk : w7.heap[g]? = w5.heap[g]? := (hg''.block g (by omega) (fun e => hgne e.symm)).trans (HBY.out.block g hg5)
   have hr7 := rowIs_on HG5.out.row hgk
   have g1 : w7.cell? ⟨g, i, none⟩ = some (.slice Au (E i).length cu) := by rw [<- HUI.out]; exact hr7.cell hil
   have g1f := hr7.frozen i
   have HPU := Lib.hid hpush
   have HNX := Lib.hid (show ∀ j (hj : j < D.length), (updE E i (E i ++ [(rs[k], .slice A8 n8 c8, .slice A9 n9 c9)]) j).map (·.1) = rulesAt (rs.take (k + 1)) ls D[j] from fun j hj => by
    unfold updE
    by_cases e5 : j = i
    ·subst e5
     rw [if_pos rfl, List.map_append, HE.out j hj, rulesAt_yes hlt (by rw [HIN.out, HIX.out.2]; simp)]
     rfl
    ·have hne : x ≠ D[j] := fun e6 => by
      have h7 : D[i] = D[j] := HIX.out.2.trans e6
      rcases Nat.lt_or_gt_of_ne e5 with h8 | h8
      ·have := List.pairwise_iff_getElem.1 HUP.out j i hj hil h8
       omega
      ·have := List.pairwise_iff_getElem.1 HUP.out i j hil hj h8
       omega
     rw [if_neg e5, HE.out j hj, rulesAt_no hlt (by rw [HIN.out]; simp [hne])])
   clear hpush hown hgr hat hg'' hgne hgk hr7
   refine hK.out _ _ (fun hf => absurd hf (by decide)) ?_
   clear hK K
   try simp only [List.setIfInBounds_toArray, Act.put]
   refine wpAnyR_one (i := 9) (by kernel_rfl) rfl (fun K hK => ?_)
   try rw [if_pos (show Region.wanted _ _ = true from rfl)]
   go_simp
   refine hK.out _ _ (fun hf => absurd hf (by decide)) ?_
   clear hK K
   try simp only [List.setIfInBounds_toArray, List.set_cons_zero, List.set_cons_succ, Act.put]
   refine wpAnyR_one (i := 10) (by kernel_rfl) rfl (fun K hK => ?_)
   go_simp
   refine hK.out _ _ (fun hf => absurd hf (by decide)) ?_
   clear hK K
   refine wpAnyR_done (by kernel_rfl) ?_
   go_wp2_with fail
   go_roundw
   case rel => exact ⟨k + 1, _, _, by omega, by go_num, HNX, HPU.out.1, HBE.out.trans ((B5.mono (by omega)).trans HPU.out.2)⟩
   case measure => simp [intOf]; omega
  ·have hkn : k = rs.length := by omega
   have HR := Lib.hid (show ∀ j (hj : j < D.length), RdRules wr wr.heap.size (uv j) (rulesAt rs ls D[j]) from fun j hj => by
    obtain ⟨A5, c5, e5, hv⟩ := HG.out.rows j hj
    have h1 := hv.rules BW.out.size
    rw [HE.out j hj, hkn, List.take_length] at h1
    rw [e5]
    exact h1)
   clear hkn
   go_wp2_with fail
   go_ret
   refine ⟨g, uv, by rw [<- HD.out]; rfl, by rw [<- HD.out]; exact HG.out.row, fun j hj => ?_, hg0, BW.out⟩
   have e9 := HD.out
   subst e9
   exact HR.out j hj
open Go.RowKit
abbrev FV := LFact × Value
def flatX (X : List FV) : List Value := X.flatMap fun x => [.int .i64 x.1.1, x.2]
theorem flatX_append (X Y : List FV) : flatX (X ++ Y) = flatX X ++ flatX Y := by simp [flatX]
theorem flatX_at : ∀ (X : List FV) (k : Nat) (h : k < X.length), (flatX X)[k * 2]? = some (.int .i64 X[k].1.1) /\ (flatX X)[k * 2 + 1]? = some X[k].2
 | [], _, h => absurd h (by simp)
 | x :: X, 0, _ => by simp [flatX]
 | x :: X, k + 1, h => by
  obtain ⟨h1, h2⟩ := flatX_at X k (by simpa using h)
  have e : flatX (x :: X) = .int .i64 x.1.1 :: x.2 :: flatX X := rfl
  rw [e, show (k + 1) * 2 = k * 2 + 1 + 1 by omega, show k * 2 + 1 + 1 + 1 = (k * 2 + 1) + 1 + 1 by omega]
  simp only [List.getElem?_cons_succ, List.getElem_cons_succ]
  exact ⟨h1, h2⟩
def wdN (x : Nat) : Value := .int .u64 ((x : Nat) : Int)
def inN (x : Nat) : Value := .int .i64 ((x : Nat) : Int)
structure GrCells (cs : Array Value) (R : Nat -> Value) (T : List Nat) (O La : Nat -> Nat) : Prop where
 size : cs.size = 98
 list : cs[0]? = some (R 0)
 ends : cs[1]? = some (R 1)
 tab : ∀ p, p < 24 -> cs[2 + p]? = some (wdN (T.getD p 0))
 pred : ∀ p, p < 24 -> cs[26 + p * 3]? = some (R (2 + p))
 old : ∀ p, p < 24 -> cs[26 + p * 3 + 1]? = some (inN (O p))
 lat : ∀ p, p < 24 -> cs[26 + p * 3 + 2]? = some (inN (La p))
def updF {α : Type} (F : Nat -> α) (r : Nat) (v : α) : Nat -> α := fun s => if s = r then v else F s
theorem updF_same {α : Type} (F : Nat -> α) (r : Nat) (v : α) : updF F r v r = v := if_pos rfl
theorem updF_ne {α : Type} (F : Nat -> α) {r s : Nat} (v : α) (h : s ≠ r) : updF F r v s = F s := if_neg h
section
variable {cs : Array Value} {R : Nat -> Value} {T : List Nat} {O La : Nat -> Nat} {i p : Nat} {u : Value}
theorem set_at_ne (h : i ≠ p) : (cs.setIfInBounds i u)[p]? = cs[p]? := by rw [Array.getElem?_setIfInBounds, if_neg h]
theorem set_at_same (h : i < cs.size) : (cs.setIfInBounds i u)[i]? = some u := by rw [Array.getElem?_setIfInBounds, if_pos rfl, if_pos h]
theorem GrCells.setList (h : GrCells cs R T O La) (u : Value) : GrCells (cs.setIfInBounds 0 u) (updF R 0 u) T O La where
 size := by simpa using h.size
 list := by rw [updF_same]; exact set_at_same (by rw [h.size]; omega)
 ends := by rw [updF_ne R u (by omega), set_at_ne (by omega)]; exact h.ends
 tab p hp := by rw [set_at_ne (by omega)]; exact h.tab p hp
 pred p hp := by rw [updF_ne R u (by omega), set_at_ne (by omega)]; exact h.pred p hp
 old p hp := by rw [set_at_ne (by omega)]; exact h.old p hp
 lat p hp := by rw [set_at_ne (by omega)]; exact h.lat p hp
theorem GrCells.setEnds (h : GrCells cs R T O La) (u : Value) : GrCells (cs.setIfInBounds 1 u) (updF R 1 u) T O La where
 size := by simpa using h.size
 list := by rw [updF_ne R u (by omega), set_at_ne (by omega)]; exact h.list
 ends := by rw [updF_same]; exact set_at_same (by rw [h.size]; omega)
 tab p hp := by rw [set_at_ne (by omega)]; exact h.tab p hp
 pred p hp := by rw [updF_ne R u (by omega), set_at_ne (by omega)]; exact h.pred p hp
 old p hp := by rw [set_at_ne (by omega)]; exact h.old p hp
 lat p hp := by rw [set_at_ne (by omega)]; exact h.lat p hp
theorem GrCells.setPred (h : GrCells cs R T O La) (hp : p < 24) (u : Value) : GrCells (cs.setIfInBounds (26 + p * 3) u) (updF R (2 + p) u) T O La where
 size := by simpa using h.size
 list := by rw [updF_ne R u (by omega), set_at_ne (by omega)]; exact h.list
 ends := by rw [updF_ne R u (by omega), set_at_ne (by omega)]; exact h.ends
 tab q hq := by rw [set_at_ne (by omega)]; exact h.tab q hq
 pred q hq := by
  by_cases e : q = p
  ·subst e
   rw [updF_same]
   exact set_at_same (by rw [h.size]; omega)
  ·rw [updF_ne R u (by omega), set_at_ne (by omega)]
   exact h.pred q hq
 old q hq := by rw [set_at_ne (by omega)]; exact h.old q hq
 lat q hq := by rw [set_at_ne (by omega)]; exact h.lat q hq
theorem GrCells.setTab (h : GrCells cs R T O La) (hT : T.length = 24) (hp : p < 24) (x : Nat) : GrCells (cs.setIfInBounds (2 + p) (wdN x)) R (T.set p x) O La where
 size := by simpa using h.size
 list := by rw [set_at_ne (by omega)]; exact h.list
 ends := by rw [set_at_ne (by omega)]; exact h.ends
 tab q hq := by
  by_cases e : q = p
  ·subst e
   rw [set_at_same (by rw [h.size]; omega)]
   simp [hT, hq]
  ·rw [set_at_ne (by omega), h.tab q hq]
   simp only [List.getD_eq_getElem?_getD]
   rw [List.getElem?_set_ne (by omega)]
 pred q hq := by rw [set_at_ne (by omega)]; exact h.pred q hq
 old q hq := by rw [set_at_ne (by omega)]; exact h.old q hq
 lat q hq := by rw [set_at_ne (by omega)]; exact h.lat q hq
theorem GrCells.setOld (h : GrCells cs R T O La) (hp : p < 24) (x : Nat) : GrCells (cs.setIfInBounds (26 + p * 3 + 1) (inN x)) R T (updF O p x) La where
 size := by simpa using h.size
 list := by rw [set_at_ne (by omega)]; exact h.list
 ends := by rw [set_at_ne (by omega)]; exact h.ends
 tab q hq := by rw [set_at_ne (by omega)]; exact h.tab q hq
 pred q hq := by rw [set_at_ne (by omega)]; exact h.pred q hq
 old q hq := by
  by_cases e : q = p
  ·subst e
   rw [updF_same]
   exact set_at_same (by rw [h.size]; omega)
  ·rw [updF_ne O x e, set_at_ne (by omega)]
   exact h.old q hq
 lat q hq := by rw [set_at_ne (by omega)]; exact h.lat q hq
theorem GrCells.setLat (h : GrCells cs R T O La) (hp : p < 24) (x : Nat) : GrCells (cs.setIfInBounds (26 + p * 3 + 2) (inN x)) R T O (updF La p x) where
 size := by simpa using h.size
 list := by rw [set_at_ne (by omega)]; exact h.list
 ends := by rw [set_at_ne (by omega)]; exact h.ends
 tab q hq := by rw [set_at_ne (by omega)]; exact h.tab q hq
 pred q hq := by rw [set_at_ne (by omega)]; exact h.pred q hq
 old q hq := by rw [set_at_ne (by omega)]; exact h.old q hq
 lat q hq := by
  by_cases e : q = p
  ·subst e
   rw [updF_same]
   exact set_at_same (by rw [h.size]; omega)
  ·rw [updF_ne La x e, set_at_ne (by omega)]
   exact h.lat q hq
end
def RB (R : Nat -> Value) (b : Nat) : Prop := ∃ r, r < 26 /\ (R r).ownBlock = some b
def ArgOk (w : World) (g : Nat) (R : Nat -> Value) (x : FV) : Prop := RdInts w w.heap.size x.2 x.1.2 /\ (0 < x.1.2.length -> ∀ b, x.2.ownBlock = some b -> b ≠ g /\ ¬ RB R b)
structure GrRaw (w : World) (g : Nat) (XL : List FV) (E : List Nat) (XP : Nat -> List FV) (O La : Nat -> Nat) (T : List Nat) (R : Nat -> Value) : Prop where
 blk : ∃ cs, Blk w g 93 cs /\ GrCells cs R T O La
 tl : T.length = 24
 tb : ∀ x ∈ T, x < 18446744073709551616
 list : w.ownsRow (g + 1) 66 2 (R 0) XL.length (flatX XL)
 ends : w.ownsRow (g + 1) 3 1 (R 1) E.length (E.map inN)
 pred : ∀ p, p < 24 -> w.ownsRow (g + 1) 66 2 (R (2 + p)) (XP p).length (flatX (XP p))
 apart : ∀ r s, r < 26 -> s < 26 -> r ≠ s -> ∀ b, (R r).ownBlock = some b -> (R s).ownBlock ≠ some b
 argsL : ∀ x ∈ XL, ArgOk w g R x
 argsP : ∀ p, p < 24 -> ∀ x ∈ XP p, ArgOk w g R x
structure KeepR (g : Nat) (w : World) (R : Nat -> Value) (w' : World) (R' : Nat -> Value) : Prop where
 below : Below g w w'
 keep : ∀ k, k < w.heap.size -> k ≠ g -> ¬ RB R k -> w'.heap[k]? = w.heap[k]?
 rows : ∀ b, RB R' b -> RB R b \/ w.heap.size <= b
theorem KeepR.refl (g : Nat) (w : World) (R : Nat -> Value) : KeepR g w R w R := ⟨Below.refl _ _, fun _ _ _ _ => rfl, fun _ h => .inl h⟩
theorem KeepR.trans {g : Nat} {w w1 w2 : World} {R R1 R2 : Nat -> Value} (h : KeepR g w R w1 R1) (k : KeepR g w1 R1 w2 R2) : KeepR g w R w2 R2 := by
 have hs := h.below.size
 refine ⟨h.below.trans k.below, fun j h1 h2 h3 => (k.keep j (by omega) h2 fun e => ?_).trans (h.keep j h1 h2 h3), fun b hb => ?_⟩
 ·rcases h.rows j e with e2 | e2
  ·exact h3 e2
  ·omega
 ·rcases k.rows b hb with e | e
  ·exact h.rows b e
  ·exact .inr (by omega)
theorem KeepR.of_below {g : Nat} {w w' : World} {R : Nat -> Value} (h : Below w.heap.size w w') (hg : g <= w.heap.size) : KeepR g w R w' R := ⟨h.mono hg, fun k h1 _ _ => h.block k h1, fun _ h => .inl h⟩
theorem KeepR.setG {g : Nat} {w w' : World} {R R' : Nat -> Value} (h : KeepR g w R w' R') (i : Nat) (u : Value) : KeepR g w R (w'.setCell ⟨g, i, none⟩ u) R' :=
 ⟨h.below.setCell (Nat.le_refl _) _, fun k h1 h2 h3 => (Below.heap_setCell _ _ _ k h2).trans (h.keep k h1 h2 h3), h.rows⟩
theorem rdInts_only {w w' : World} {B B' : Nat} {v : Value} {xs : List Int} (h : RdInts w B v xs) (hB : B <= B') (hk : 0 < xs.length -> ∀ b, v.ownBlock = some b -> w'.heap[b]? = w.heap[b]?) : RdInts w' B' v xs := by
 obtain ⟨A, c, rfl, hc, h⟩ := h
 refine ⟨A, c, rfl, hc, fun h0 => ?_⟩
 obtain ⟨b, o, rfl, hb, hx⟩ := h h0
 refine ⟨b, o, rfl, by omega, fun k hk' => ?_⟩
 rw [World.cell?_of_block (hk h0 b rfl)]
 exact hx k hk'
section
variable {w w' w4 : World} {g r i : Nat} {XL : List FV} {E : List Nat} {XP : Nat -> List FV} {O La : Nat -> Nat} {T : List Nat} {R : Nat -> Value} {v' u : Value}
theorem GrRaw.lt (h : GrRaw w g XL E XP O La T R) : g < w.heap.size := by
 obtain ⟨cs, h1, _⟩ := h.blk
 exact h1.lt
theorem GrRaw.rowLt (h : GrRaw w g XL E XP O La T R) (hr : r < 26) {b : Nat} (hb : (R r).ownBlock = some b) : g < b /\ b < w.heap.size := by
 rcases Nat.lt_or_ge r 2 with h2 | h2
 ·rcases (by omega : r = 0 \/ r = 1) with rfl | rfl
  ·have := h.list.lt b hb; omega
  ·have := h.ends.lt b hb; omega
 ·have h3 := h.pred (r - 2) (by omega)
  rw [show 2 + (r - 2) = r by omega] at h3
  have := h3.lt b hb
  omega
theorem ArgOk.on {x : FV} (h : ArgOk w g R x) (hb : Below w.heap.size w w') : ArgOk w' g R x := ⟨h.1.on hb, h.2⟩
theorem GrRaw.on (h : GrRaw w g XL E XP O La T R) (hb : Below w.heap.size w w') : GrRaw w' g XL E XP O La T R := by
 obtain ⟨cs, h1, h2⟩ := h.blk
 exact ⟨⟨cs, h1.below hb h1.lt, h2⟩, h.tl, h.tb, ownsRow_only h.list fun b hb' => hb.block b (h.list.lt b hb').2, ownsRow_only h.ends fun b hb' => hb.block b (h.ends.lt b hb').2,
  fun p hp => ownsRow_only (h.pred p hp) fun b hb' => hb.block b ((h.pred p hp).lt b hb').2, h.apart, fun x hx => (h.argsL x hx).on hb, fun p hp x hx => (h.argsP p hp x hx).on hb⟩
theorem GrRaw.store {T' : List Nat} {O' La' : Nat -> Nat} (h : GrRaw w g XL E XP O La T R) (hT : T'.length = 24) (hb : ∀ x ∈ T', x < 18446744073709551616) (hc : ∀ cs, GrCells cs R T O La -> GrCells (cs.setIfInBounds i u) R T' O' La') :
 GrRaw (w.setCell ⟨g, i, none⟩ u) g XL E XP O' La' T' R := by
 have hk : ∀ k, k ≠ g -> (w.setCell ⟨g, i, none⟩ u).heap[k]? = w.heap[k]? := fun k hk => Below.heap_setCell _ _ _ k hk
 have hz : (w.setCell ⟨g, i, none⟩ u).heap.size = w.heap.size := by simp
 have ha : ∀ x, ArgOk w g R x -> ArgOk (w.setCell ⟨g, i, none⟩ u) g R x := fun x hx => ⟨rdInts_only hx.1 (by omega) fun h0 b hb => hk b (hx.2 h0 b hb).1, hx.2⟩
 obtain ⟨cs, h1, h2⟩ := h.blk
 exact ⟨⟨_, h1.set_ i u, hc cs h2⟩, hT, hb, ownsRow_only h.list fun b hb => hk b (by have := (h.list.lt b hb).1; omega), ownsRow_only h.ends fun b hb => hk b (by have := (h.ends.lt b hb).1; omega),
  fun p hp => ownsRow_only (h.pred p hp) fun b hb => hk b (by have := ((h.pred p hp).lt b hb).1; omega), h.apart, fun x hx => ha x (h.argsL x hx), fun p hp x hx => ha x (h.argsP p hp x hx)⟩
theorem GrRaw.setTab (h : GrRaw w g XL E XP O La T R) {p n : Nat} (hp : p < 24) (hn : n < 64) : GrRaw (w.setCell ⟨g, 2 + p, none⟩ (wdN (T.getD p 0 ||| 2 ^ n))) g XL E XP O La (setBit T p n) R :=
 h.store (by simp [setBit, h.tl]) (setBit_lt h.tb hn) fun cs hc => hc.setTab h.tl hp _
theorem GrRaw.setOld (h : GrRaw w g XL E XP O La T R) {p : Nat} (hp : p < 24) (x : Nat) : GrRaw (w.setCell ⟨g, 26 + p * 3 + 1, none⟩ (inN x)) g XL E XP (updF O p x) La T R :=
 h.store h.tl h.tb fun cs hc => hc.setOld hp _
theorem GrRaw.setLat (h : GrRaw w g XL E XP O La T R) {p : Nat} (hp : p < 24) (x : Nat) : GrRaw (w.setCell ⟨g, 26 + p * 3 + 2, none⟩ (inN x)) g XL E XP O (updF La p x) T R :=
 h.store h.tl h.tb fun cs hc => hc.setLat hp _
structure Grew (w : World) (g : Nat) (R : Nat -> Value) (r i : Nat) (v' : Value) (w4 : World) : Prop where
 grown : w.grownBy w4 (R r).ownBlock
 at_ : ∀ b, v'.ownBlock = some b -> (R r).ownBlock = some b \/ w.heap.size <= b
theorem Grew.heap (k : Grew w g R r i v' w4) (h : GrRaw w g XL E XP O La T R) (hr : r < 26) {b : Nat} (hb : b < w.heap.size) (hg : b ≠ g) (hn : (R r).ownBlock ≠ some b) : (w4.setCell ⟨g, i, none⟩ u).heap[b]? = w.heap[b]? :=
 (Below.heap_setCell _ _ _ b hg).trans (k.grown.block b hb fun e => hn e.symm)
theorem Grew.rb (_k : Grew w g R r i v' w4) {b : Nat} (hb : RB (updF R r v') b) : RB R b \/ v'.ownBlock = some b := by
 obtain ⟨s, hs, e⟩ := hb
 by_cases h : s = r
 ·subst h
  rw [updF_same] at e
  exact .inr e
 ·rw [updF_ne R v' h] at e
  exact .inl ⟨s, hs, e⟩
theorem Grew.keep (k : Grew w g R r i v' w4) (h : GrRaw w g XL E XP O La T R) (hr : r < 26) : KeepR g w R (w4.setCell ⟨g, i, none⟩ u) (updF R r v') := by
 refine ⟨⟨k.grown.os, k.grown.tape, k.grown.output, by simpa using k.grown.size, fun b hb => ?_⟩, fun b hb hg hn => k.heap h hr hb hg fun e => hn ⟨r, hr, e⟩, fun b hb => ?_⟩
 ·exact k.heap h hr (by have := h.lt; omega) (by omega) fun e => by have := h.rowLt hr e; omega
 ·rcases k.rb hb with e | e
  ·exact .inl e
  ·rcases k.at_ b e with e2 | e2
   ·exact .inl ⟨r, hr, e2⟩
   ·exact .inr e2
theorem Grew.arg (k : Grew w g R r i v' w4) (h : GrRaw w g XL E XP O La T R) (hr : r < 26) {x : FV} (hx : ArgOk w g R x) : ArgOk (w4.setCell ⟨g, i, none⟩ u) g (updF R r v') x := by
 have hz : w.heap.size <= (w4.setCell ⟨g, i, none⟩ u).heap.size := by simpa using k.grown.size
 have hlt : 0 < x.1.2.length -> ∀ b, x.2.ownBlock = some b -> b < w.heap.size := fun h0 b hb => by
  obtain ⟨A, c, e, _, h1⟩ := hx.1
  obtain ⟨b2, o, rfl, hb2, _⟩ := h1 h0
  rw [e] at hb
  have : b2 = b := by simpa [Value.ownBlock] using hb
  omega
 refine ⟨rdInts_only hx.1 hz fun h0 b hb => k.heap h hr (hlt h0 b hb) (hx.2 h0 b hb).1 fun e => (hx.2 h0 b hb).2 ⟨r, hr, e⟩, fun h0 b hb => ⟨(hx.2 h0 b hb).1, fun hrb => ?_⟩⟩
 rcases k.rb hrb with e | e
 ·exact (hx.2 h0 b hb).2 e
 ·rcases k.at_ b e with e2 | e2
  ·exact (hx.2 h0 b hb).2 ⟨r, hr, e2⟩
  ·have := hlt h0 b hb
   omega
theorem Grew.apart (k : Grew w g R r i v' w4) (h : GrRaw w g XL E XP O La T R) (hr : r < 26) : ∀ s t, s < 26 -> t < 26 -> s ≠ t -> ∀ b, (updF R r v' s).ownBlock = some b -> (updF R r v' t).ownBlock ≠ some b := by
 intro s t hs ht hst b hb e
 by_cases h1 : s = r
 ·subst h1
  rw [updF_same] at hb
  rw [updF_ne R v' (by omega)] at e
  rcases k.at_ b hb with e2 | e2
  ·exact h.apart s t hs ht hst b e2 e
  ·have := (h.rowLt ht e).2
   omega
 ·rw [updF_ne R v' h1] at hb
  by_cases h2 : t = r
  ·subst h2
   rw [updF_same] at e
   rcases k.at_ b e with e2 | e2
   ·exact h.apart s t hs ht hst b hb e2
   ·have := (h.rowLt hs hb).2
    omega
  ·rw [updF_ne R v' h2] at e
   exact h.apart s t hs ht hst b hb e
theorem Grew.row (k : Grew w g R r i v' w4) (h : GrRaw w g XL E XP O La T R) (hr : r < 26) {s n size : Nat} {e : TypeId} {xs : List Value} (hs : s < 26) (hsr : s ≠ r) (ho : w.ownsRow (g + 1) e size (R s) n xs) :
 (w4.setCell ⟨g, i, none⟩ u).ownsRow (g + 1) e size (updF R r v' s) n xs := by
 rw [updF_ne R v' hsr]
 exact ownsRow_only ho fun b hb => k.heap h hr (ho.lt b hb).2 (by have := (ho.lt b hb).1; omega) fun e2 => h.apart s r hs hr hsr b hb e2
theorem Grew.new (_k : Grew w g R r i v' w4) {n size : Nat} {e : TypeId} {xs : List Value} (ho : w4.ownsRow (g + 1) e size v' n xs) : (w4.setCell ⟨g, i, none⟩ u).ownsRow (g + 1) e size (updF R r v' r) n xs := by
 rw [updF_same]
 exact ownsRow_only ho fun b hb => Below.heap_setCell _ _ _ b (by have := (ho.lt b hb).1; show b ≠ g; omega)
theorem Grew.cells (k : Grew w g R r i v' w4) (h : GrRaw w g XL E XP O La T R) (hr : r < 26) {T' : List Nat} {O' La' : Nat -> Nat} (hc : ∀ cs, GrCells cs R T O La -> GrCells (cs.setIfInBounds i u) (updF R r v') T' O' La') :
 ∃ cs, Blk (w4.setCell ⟨g, i, none⟩ u) g 93 cs /\ GrCells cs (updF R r v') T' O' La' := by
 obtain ⟨cs, h1, h2⟩ := h.blk
 have h3 : Blk w4 g 93 cs := (k.grown.block g h.lt fun e => by have := h.rowLt hr e.symm; omega).trans h1
 exact ⟨_, h3.set_ i u, hc cs h2⟩
theorem GrRaw.growList (h : GrRaw w g XL E XP O La T R) {f : LFact} {a : Value} (k : Grew w g R 0 0 v' w4) (ho : w4.ownsRow (g + 1) 66 2 v' (XL.length + 1) (flatX XL ++ [.int .i64 f.1, a])) (ha : ArgOk w g R (f, a)) :
 GrRaw (w4.setCell ⟨g, 0, none⟩ v') g (XL ++ [(f, a)]) E XP O La T (updF R 0 v') /\ KeepR g w R (w4.setCell ⟨g, 0, none⟩ v') (updF R 0 v') := by
 refine ⟨⟨k.cells h (by omega) fun cs hc => hc.setList v', h.tl, h.tb, ?_, k.row h (by omega) (by omega) (by omega) h.ends, fun p hp => k.row h (by omega) (by omega) (by omega) (h.pred p hp), k.apart h (by omega), fun x hx => ?_, fun p hp x hx => k.arg h (by omega) (h.argsP p hp x hx)⟩, k.keep h (by omega)⟩
 ·rw [List.length_append, flatX_append]
  exact k.new ho
 ·rcases List.mem_append.1 hx with hx | hx
  ·exact k.arg h (by omega) (h.argsL x hx)
  ·rw [List.mem_singleton.1 hx]
   exact k.arg h (by omega) ha
theorem GrRaw.growEnds (h : GrRaw w g XL E XP O La T R) {n : Nat} (k : Grew w g R 1 1 v' w4) (ho : w4.ownsRow (g + 1) 3 1 v' (E.length + 1) (E.map inN ++ [inN n])) :
 GrRaw (w4.setCell ⟨g, 1, none⟩ v') g XL (E ++ [n]) XP O La T (updF R 1 v') /\ KeepR g w R (w4.setCell ⟨g, 1, none⟩ v') (updF R 1 v') := by
 refine ⟨⟨k.cells h (by omega) fun cs hc => hc.setEnds v', h.tl, h.tb, k.row h (by omega) (by omega) (by omega) h.list, ?_, fun p hp => k.row h (by omega) (by omega) (by omega) (h.pred p hp), k.apart h (by omega), fun x hx => k.arg h (by omega) (h.argsL x hx), fun p hp x hx => k.arg h (by omega) (h.argsP p hp x hx)⟩, k.keep h (by omega)⟩
 rw [List.length_append, List.map_append]
 exact k.new ho
theorem GrRaw.growPred (h : GrRaw w g XL E XP O La T R) {f : LFact} {a : Value} {p : Nat} (hp : p < 24) (k : Grew w g R (2 + p) (26 + p * 3) v' w4) (ho : w4.ownsRow (g + 1) 66 2 v' ((XP p).length + 1) (flatX (XP p) ++ [.int .i64 f.1, a])) (ha : ArgOk w g R (f, a)) :
 GrRaw (w4.setCell ⟨g, 26 + p * 3, none⟩ v') g XL E (updF XP p (XP p ++ [(f, a)])) O La T (updF R (2 + p) v') /\ KeepR g w R (w4.setCell ⟨g, 26 + p * 3, none⟩ v') (updF R (2 + p) v') := by
 refine ⟨⟨k.cells h (by omega) fun cs hc => hc.setPred hp v', h.tl, h.tb, k.row h (by omega) (by omega) (by omega) h.list, k.row h (by omega) (by omega) (by omega) h.ends, fun q hq => ?_, k.apart h (by omega), fun x hx => k.arg h (by omega) (h.argsL x hx), fun q hq x hx => ?_⟩, k.keep h (by omega)⟩
 ·by_cases e : q = p
  ·subst e
   rw [updF_same XP, List.length_append, flatX_append]
   exact k.new ho
  ·rw [updF_ne XP _ e]
   exact k.row h (by omega) (by omega) (by omega) (h.pred q hq)
 ·by_cases e : q = p
  ·subst e
   rw [updF_same] at hx
   rcases List.mem_append.1 hx with hx | hx
   ·exact k.arg h (by omega) (h.argsP q hq x hx)
   ·rw [List.mem_singleton.1 hx]
    exact k.arg h (by omega) ha
  ·rw [updF_ne XP _ e] at hx
   exact k.arg h (by omega) (h.argsP q hq x hx)
end
open Go.RowKit
theorem GrRaw.drew {w : World} {g : Nat} {XL : List FV} {E : List Nat} {XP : Nat -> List FV} {O La : Nat -> Nat} {T : List Nat} {R : Nat -> Value} (h : GrRaw w g XL E XP O La T R) : GrRaw w.drew g XL E XP O La T R := h.on (Below.refl _ _).drew
theorem KeepR.drew {g : Nat} {w w' : World} {R R' : Nat -> Value} (h : KeepR g w R w' R') : KeepR g w R w'.drew R' := ⟨h.below.drew, h.keep, h.rows⟩
section
variable {w : World} {g p : Nat} {XL : List FV} {E : List Nat} {XP : Nat -> List FV} {O La : Nat -> Nat} {T : List Nat} {R : Nat -> Value}
theorem GrRaw.cellTab (h : GrRaw w g XL E XP O La T R) (hp : p < 24) : w.cell? ⟨g, 2 + p, none⟩ = some (wdN (T.getD p 0)) := by
 obtain ⟨cs, h1, h2⟩ := h.blk
 rw [h1.cell]
 exact h2.tab p hp
theorem GrRaw.cellList (h : GrRaw w g XL E XP O La T R) : w.cell? ⟨g, 0, none⟩ = some (R 0) := by
 obtain ⟨cs, h1, h2⟩ := h.blk
 rw [h1.cell]
 exact h2.list
theorem GrRaw.cellEnds (h : GrRaw w g XL E XP O La T R) : w.cell? ⟨g, 1, none⟩ = some (R 1) := by
 obtain ⟨cs, h1, h2⟩ := h.blk
 rw [h1.cell]
 exact h2.ends
theorem GrRaw.cellPred (h : GrRaw w g XL E XP O La T R) (hp : p < 24) : w.cell? ⟨g, 26 + p * 3, none⟩ = some (R (2 + p)) := by
 obtain ⟨cs, h1, h2⟩ := h.blk
 rw [h1.cell]
 exact h2.pred p hp
theorem GrRaw.cellOld (h : GrRaw w g XL E XP O La T R) (hp : p < 24) : w.cell? ⟨g, 26 + p * 3 + 1, none⟩ = some (inN (O p)) := by
 obtain ⟨cs, h1, h2⟩ := h.blk
 rw [h1.cell]
 exact h2.old p hp
theorem GrRaw.cellLat (h : GrRaw w g XL E XP O La T R) (hp : p < 24) : w.cell? ⟨g, 26 + p * 3 + 2, none⟩ = some (inN (La p)) := by
 obtain ⟨cs, h1, h2⟩ := h.blk
 rw [h1.cell]
 exact h2.lat p hp
theorem GrRaw.free (h : GrRaw w g XL E XP O La T R) (i : Nat) : w.frozen? ⟨g, i, none⟩ = false := by
 obtain ⟨cs, h1, h2⟩ := h.blk
 exact h1.frozen i
theorem GrRaw.word (h : GrRaw w g XL E XP O La T R) : T.getD p 0 < 18446744073709551616 := word_lt h.tb
end
set_option maxHeartbeats 1000000 in
set_option maxRecDepth 100000 in
theorem hasG_any (g p n x : Nat) (w : World) (hg : g < w.heap.size) (hc : w.cell? ⟨g, 2 + p, none⟩ = some (wdN x)) (hx : x < 18446744073709551616) (hp : p < 24) (hn : n < 64) :
 Calls Tryz.prog 268 #[.pointer (some ⟨g, 2, none⟩), .int .i64 p, .int .i64 n] w fun e w' =>
  e = .returned (.bool (x.testBit n)) /\ w = w' := by
 unfold wdN at hc
 have HL := Lib.hid hg
 have hpi : (p : Int) < 24 := by omega
 have hpn : (0 : Int) <= (p : Int) := by omega
 have hni : ¬ (n : Int) < 0 := by omega
 go_enter Tryz.func268, Tryz.ntmps268
 go_wp2_with fail
 go_ret
 exact ⟨ret_bool (bit_one_t x n hx), rfl⟩
set_option maxHeartbeats 1000000 in
set_option maxRecDepth 100000 in
theorem addG_any (g p n : Nat) (XL : List FV) (E : List Nat) (XP : Nat -> List FV) (O La : Nat -> Nat) (T : List Nat) (R : Nat -> Value) (w : World) (h : GrRaw w g XL E XP O La T R) (hp : p < 24) (hn : n < 64) :
 Calls Tryz.prog 245 #[.pointer (some ⟨g, 2, none⟩), .int .i64 p, .int .i64 n] w fun e w' =>
  e = .returned (.bool (!(T.getD p 0).testBit n)) /\ GrRaw w' g XL E XP O La (setBit T p n) R /\ KeepR g w R w' R := by
 have CH := Lib.hid (hasG_any g p n _ w h.lt (h.cellTab hp) (h.word (p := p)) hp hn)
 have hc := h.cellTab hp
 have hf := h.free (2 + p)
 have H := Lib.hid h
 have hlt := h.word (p := p)
 have hgl := h.lt
 clear h
 unfold wdN at hc
 obtain ⟨x, hx⟩ : ∃ x, x = T.getD p 0 := ⟨_, rfl⟩
 obtain ⟨m, hm⟩ : ∃ m, m = 2 ^ n := ⟨_, rfl⟩
 have hml : m < 18446744073709551616 := by rw [hm]; exact Nat.pow_lt_pow_right (by decide) hn
 have hwr : IntKind.u64.wrap (2 ^ n) = (m : Int) := by
  have e : ((2 : Int) ^ n) = ((m : Nat) : Int) := by rw [hm]; simp
  rw [e]
  unfold IntKind.wrap
  simp [IntKind.bits, IntKind.signed] <;> omega
 rw [<- hx] at hc hlt ⊢
 have hor : bits .or .u64 (x : Int) (m : Int) = ((x ||| m : Nat) : Int) := u64_or_nat x m hlt hml
 rw [<- hx] at CH
 have HM := Lib.hid (And.intro hx hm)
 clear hx hm hml hlt
 go_enter Tryz.func245, Tryz.ntmps245
 go_upto_region 2 with (go_at_call 268; refine CH.out.mono ?_; rintro e w5 ⟨rfl, rfl⟩)
 have hc2 : w.drew.cell? ⟨g, 2 + p, none⟩ = some (.int .u64 ((x : Nat) : Int)) := hc
 have hpi : (p : Int) < 24 := by omega
 have hf2 : w.drew.frozen? ⟨g, 2 + p, none⟩ = false := hf
 go_region_law (fail)
 go_wp2_with fail
 go_ret
 obtain ⟨rfl, rfl⟩ := HM.out
 have hset := H.out.setTab hp hn
 unfold wdN at hset
 exact ⟨rfl, hset.drew, ((KeepR.refl g w R).setG _ _).drew⟩
open Go.RowKit
theorem GrRaw.formL {w : World} {g : Nat} {XL : List FV} {E : List Nat} {XP : Nat -> List FV} {O La : Nat -> Nat} {T : List Nat} {R : Nat -> Value} (h : GrRaw w g XL E XP O La T R) : ∃ A c, R 0 = .slice A XL.length c := by
 rcases h.list.2 with ⟨e, h0⟩ | ⟨g, cap, _, e, _⟩
 ·exact ⟨none, 0, by rw [e, h0]⟩
 ·exact ⟨_, _, e⟩
theorem GrRaw.formP {w : World} {g p : Nat} {XL : List FV} {E : List Nat} {XP : Nat -> List FV} {O La : Nat -> Nat} {T : List Nat} {R : Nat -> Value} (h : GrRaw w g XL E XP O La T R) (hp : p < 24) : ∃ A c, R (2 + p) = .slice A (XP p).length c := by
 rcases (h.pred p hp).2 with ⟨e, h0⟩ | ⟨g, cap, _, e, _⟩
 ·exact ⟨none, 0, by rw [e, h0]⟩
 ·exact ⟨_, _, e⟩
theorem GrRaw.formE {w : World} {g : Nat} {XL : List FV} {E : List Nat} {XP : Nat -> List FV} {O La : Nat -> Nat} {T : List Nat} {R : Nat -> Value} (h : GrRaw w g XL E XP O La T R) : ∃ A c, R 1 = .slice A E.length c := by
 rcases h.ends.2 with ⟨e, h0⟩ | ⟨g, cap, _, e, _⟩
 ·exact ⟨none, 0, by rw [e, h0]⟩
 ·exact ⟨_, _, e⟩
theorem ArgOk.keep {w w' : World} {g : Nat} {R R' : Nat -> Value} {x : FV} (h : ArgOk w g R x) (k : KeepR g w R w' R') : ArgOk w' g R' x := by
 have hs := k.below.size
 have hlt : 0 < x.1.2.length -> ∀ b, x.2.ownBlock = some b -> b < w.heap.size := fun h0 b hb => by
  obtain ⟨A, c, e, _, h1⟩ := h.1
  obtain ⟨b2, o, rfl, hb2, _⟩ := h1 h0
  rw [e] at hb
  have : b2 = b := by simpa [Value.ownBlock] using hb
  omega
 refine ⟨rdInts_only h.1 hs fun h0 b hb => k.keep b (hlt h0 b hb) (h.2 h0 b hb).1 (h.2 h0 b hb).2, fun h0 b hb => ⟨(h.2 h0 b hb).1, fun e => ?_⟩⟩
 rcases k.rows b e with e2 | e2
 ·exact (h.2 h0 b hb).2 e2
 ·have := hlt h0 b hb
  omega
set_option maxHeartbeats 4000000 in
set_option maxRecDepth 100000 in
theorem take_any (g p : Nat) (xs : List Int) (A3 : Option Addr) (c3 : Nat) (XL : List FV) (E : List Nat) (XP : Nat -> List FV) (O La : Nat -> Nat) (T : List Nat) (R : Nat -> Value) (w : World) (h : GrRaw w g XL E XP O La T R) (hp : p < 24)
 (ha : ArgOk w g R (((p : Int), xs), .slice A3 xs.length c3)) (hn : XL.length <= 1048576) (hn2 : (XP p).length <= 1048576) :
 Calls Tryz.prog 246 #[.pointer (some ⟨g, 0, none⟩), .agg #[.int .i64 p, .slice A3 xs.length c3]] w fun e w' =>
  e = .returned (.tuple #[]) /\ ∃ R', GrRaw w' g (XL ++ [(((p : Int), xs), .slice A3 xs.length c3)]) E (updF XP p (XP p ++ [(((p : Int), xs), .slice A3 xs.length c3)])) O La T R' /\ KeepR g w R w' R' := by
 obtain ⟨i0, hi0, hz0, hz1, hz2⟩ := info_parts Tryz.infoFact
 have H := Lib.hid h
 have HA := Lib.hid ha
 have hgl := h.lt
 have hpi : (p : Int) < 24 := by omega
 clear h ha
 go_enter Tryz.func246, Tryz.ntmps246
 go_upto_region 1 with fail
 obtain ⟨w1, hw1⟩ : ∃ w1, w1 = w.alloc (Obj.cells #[Value.int IntKind.i64 (p : Int), Value.slice A3 xs.length c3] 66) := ⟨_, rfl⟩
 have B1 : Below w.heap.size w w1 := by rw [hw1]; exact below1 _ _
 have X1 : Blk w1 w.heap.size 66 #[.int .i64 p, .slice A3 xs.length c3] := by rw [hw1]; exact Blk.new _ _ _
 have hs1 : w.heap.size < w1.heap.size := by rw [hw1]; simp
 have hbx : ∃ bx, bx = w.heap.size := ⟨_, rfl⟩
 obtain ⟨bx, hbx⟩ := hbx
 rw [<- hbx] at X1 hs1 ⊢
 rw [<- hw1]
 clear hw1
 refine wp_region_rel (fun W => W.cell? ⟨g, 0, none⟩ = some (R 0) /\ W.cell? ⟨bx, 0, none⟩ = some (.int .i64 p) /\ W.cell? ⟨bx, 1, none⟩ = some (.slice A3 xs.length c3)) 10 11 (by kernel_rfl) rfl ?_
 obtain ⟨wy, hwy⟩ : ∃ wy, wy = w1.drew := ⟨_, rfl⟩
 have HG := Lib.hid (show GrRaw wy g XL E XP O La T R by rw [hwy]; exact (H.out.on B1).drew)
 have BY := Lib.hid (show Below w.heap.size w wy by rw [hwy]; exact B1.drew)
 have HX := Lib.hid (show Blk wy bx 66 #[.int .i64 p, .slice A3 xs.length c3] by rw [hwy]; exact X1)
 have hsy : bx < wy.heap.size := by rw [hwy]; exact hs1
 rw [<- hwy]
 clear hwy X1 B1 hs1
 obtain ⟨A0, c0, hv0⟩ := HG.out.formL
 obtain ⟨SS, hSS⟩ : ∃ SS : World -> Prop, SS = (fun W => W.cell? ⟨g, 0, none⟩ = some (R 0) /\ W.cell? ⟨bx, 0, none⟩ = some (.int .i64 p) /\ W.cell? ⟨bx, 1, none⟩ = some (.slice A3 xs.length c3)) := ⟨_, rfl⟩
 rw [<- hSS]
 have HB := Lib.hid (show ∀ W, SS W -> (W.cell? ⟨g, 0, none⟩ = some (.slice A0 XL.length c0) /\ W.cell? ⟨bx, 0, none⟩ = some (.int .i64 p) /\ W.cell? ⟨bx, 1, none⟩ = some (.slice A3 xs.length c3)) from by rw [hSS, hv0]; exact fun W hW => hW)
 have HS := Lib.hid (show ∀ W : World, (∀ b, b < wy.heap.size -> (R 0).ownBlock ≠ some b -> W.heap[b]? = wy.heap[b]?) -> SS W from by
  rw [hSS]
  intro W hW
  have hg0 : W.heap[g]? = wy.heap[g]? := hW g HG.out.lt fun e => by have := HG.out.rowLt (show 0 < 26 by omega) e; omega
  have hb0 : W.heap[bx]? = wy.heap[bx]? := hW bx hsy fun e => by have := H.out.rowLt (show 0 < 26 by omega) e; omega
  exact ⟨(World.cell?_of_block hg0).trans HG.out.cellList, (World.cell?_of_block hb0).trans (HX.out.cell 0), (World.cell?_of_block hb0).trans (HX.out.cell 1)⟩)
 have HFR := Lib.hid (show ∀ W : World, (∀ b, b < wy.heap.size -> (R 0).ownBlock ≠ some b -> W.heap[b]? = wy.heap[b]?) -> W.frozen? ⟨g, 0, none⟩ = false from fun W hW => by
  have hg0 : W.heap[g]? = wy.heap[g]? := hW g HG.out.lt fun e => by have := HG.out.rowLt (show 0 < 26 by omega) e; omega
  exact (World.frozen?_of_block hg0).trans (HG.out.free 0))
 have SB : SS wy := HS.out wy fun _ _ _ => rfl
 have HV0 := Lib.hid hv0
 have HBX := Lib.hid hbx
 clear hSS hv0 hbx
 refine wpAnyR_pure (i := 0) (oi := _) ?va0 rfl rfl (by kernel_rfl) (by decide) (fun _ _ _ h => h) rfl ?hya0 (fun _ => SB) ?resta0
 case hya0 => (intro W; go_simp; (try with_reducible rfl))
 try simp only [List.setIfInBounds_toArray, List.set_cons_zero, List.set_cons_succ]
 refine wpAnyR_pure (i := 1) (oi := _) ?va1 rfl rfl (by kernel_rfl) (by decide) (fun _ _ _ h => h) rfl ?hya1 (fun _ => SB) ?resta1
 case hya1 => (intro W; go_simp; (try with_reducible rfl))
 try simp only [List.setIfInBounds_toArray, List.set_cons_zero, List.set_cons_succ]
 refine wpAnyR_pure (i := 2) (oi := _) ?va2 rfl rfl (by kernel_rfl) (by decide) (fun _ _ _ h => h) rfl ?hya2 (fun _ => SB) ?resta2
 case hya2 => (intro W; go_simp; (try with_reducible rfl))
 try simp only [List.setIfInBounds_toArray, List.set_cons_zero, List.set_cons_succ]
 refine wpAnyR_pure (i := 3) (oi := _) ?va3 rfl rfl (by kernel_rfl) (by decide) (fun _ _ _ h => h) rfl ?hya3 (fun _ => SB) ?resta3
 case hya3 => (intro W; go_simp; (try with_reducible rfl))
 try simp only [List.setIfInBounds_toArray, List.set_cons_zero, List.set_cons_succ]
 refine wpAnyR_take (i := 4) (oi := _) ?va4 rfl rfl (by kernel_rfl) (fun _ _ _ h => h) rfl ?hya4 SB ?resta4
 case hya4 => (intro W hW; obtain ⟨E0, E1, E2⟩ := HB.out W hW; go_simp; (try with_reducible rfl))
 try simp only [List.setIfInBounds_toArray, List.set_cons_zero, List.set_cons_succ]
 refine wpAnyR_take (i := 5) (oi := _) ?va5 rfl rfl (by kernel_rfl) (fun _ _ _ h => h) rfl ?hya5 SB ?resta5
 case hya5 => (intro W hW; obtain ⟨E0, E1, E2⟩ := HB.out W hW; go_simp; (try with_reducible rfl))
 try simp only [List.setIfInBounds_toArray, List.set_cons_zero, List.set_cons_succ]
 refine wpAnyR_one (i := 6) (by kernel_rfl) rfl (fun K hK => ?_)
 try rw [if_pos (show Region.wanted _ _ = true from rfl)]
 go_simp
 have S6 : SS _ := HS.out (wy.alloc (Obj.cells #[Value.int IntKind.i64 (p : Int), Value.slice A3 xs.length c3] 66)) fun b hb _ => Below.heap_alloc _ _ _ hb
 refine hK.out _ _ (fun _ => S6) ?_
 clear hK K
 try simp only [List.setIfInBounds_toArray, List.set_cons_zero, List.set_cons_succ, Act.put]
 refine wpAnyR_one (i := 7) (by kernel_rfl) rfl (fun K hK => ?_)
 refine step_append_lies _ rfl (.tmp 8) (.tmp 10) 29 rfl (g + 1) 66 i0 (.agg #[.int .i64 0, .slice none 0 0]) 2 32 Tryz.underlying29 hi0 hz0 hz1 hz2 rfl (by decide) (.slice A0 XL.length c0) XL.length (flatX XL) rfl ?c1 ⟨wy.heap.size, 0, none⟩ 1 1 [.int .i64 p, .slice A3 xs.length c3] rfl rfl ?c4 ?c2 (by omega) (by unfold maxLen; omega) (by omega) ?c3 _ rfl ?c5
 case c1 => exact (HV0.out ▸ HG.out.list).alloc _
 case c4 => exact news2 _ _ _ _
 case c2 => intro u hu; simp at hu; rcases hu with rfl | rfl <;> rfl
 case c3 => have := HG.out.lt; simp; omega
 case c5 =>
 intro g2 cap w5 hown hgr hat _
 have HGW := Lib.hid (show Grew wy g R 0 0 (.slice (some ⟨g2, 0, none⟩) (XL.length + 1) cap) w5 from by
  have hgr' := grown_from_alloc hgr
  refine ⟨by rw [HV0.out]; exact hgr', fun b hb => ?_⟩
  have e : g2 = b := by simpa [Value.ownBlock] using hb
  subst e
  rw [HV0.out]
  rcases hat with hat | hat
  ·exact .inl hat
  ·exact .inr (by rw [hat]; simp))
 have HOW := Lib.hid hown
 have S5 : SS w5 := HS.out w5 fun b hb hne => HGW.out.grown.block b hb fun e => hne e.symm
 have f5 : w5.frozen? ⟨g, 0, none⟩ = false := HFR.out w5 fun b hb hne => HGW.out.grown.block b hb fun e => hne e.symm
 have c5 : w5.cell? ⟨g, 0, none⟩ = some (.slice A0 XL.length c0) := (HB.out w5 S5).1
 clear hown hgr hat
 refine hK.out _ _ (fun _ => S5) ?_
 clear hK K
 try simp only [List.setIfInBounds_toArray, List.set_cons_zero, List.set_cons_succ, Act.put]
 refine wpAnyR_pure (i := 8) (oi := _) ?va8 rfl rfl (by kernel_rfl) (by decide) (fun _ _ _ h => h) rfl ?hya8 (fun _ => S5) ?resta8
 case hya8 => (intro W; go_simp; (try with_reducible rfl))
 try simp only [List.setIfInBounds_toArray, List.set_cons_zero, List.set_cons_succ]
 refine wpAnyR_pure (i := 9) (oi := _) ?va9 rfl rfl (by kernel_rfl) (by decide) (fun _ _ _ h => h) rfl ?hya9 (fun _ => S5) ?resta9
 case hya9 => (intro W; go_simp; (try with_reducible rfl))
 try simp only [List.setIfInBounds_toArray, List.set_cons_zero, List.set_cons_succ]
 refine wpAnyR_one (i := 10) (by kernel_rfl) rfl (fun K hK => ?_)
 go_simp
 refine hK.out _ _ (fun hf => absurd hf (by decide)) ?_
 clear hK K
 refine wpAnyR_done (by kernel_rfl) ?_
 obtain ⟨R1, hR1⟩ : ∃ R1, R1 = updF R 0 (.slice (some ⟨g2, 0, none⟩) (XL.length + 1) cap) := ⟨_, rfl⟩
 obtain ⟨w6, hw6⟩ : ∃ w6, w6 = w5.setCell ⟨g, 0, none⟩ (.slice (some ⟨g2, 0, none⟩) (XL.length + 1) cap) := ⟨_, rfl⟩
 have HAY := Lib.hid (HA.out.on BY.out)
 have H6 := Lib.hid (show GrRaw w6 g (XL ++ [(((p : Int), xs), .slice A3 xs.length c3)]) E XP O La T R1 /\ KeepR g wy R w6 R1 from by
  rw [hw6, hR1]
  exact HG.out.growList HGW.out HOW.out HAY.out)
 have HA6 := Lib.hid (show ArgOk w6 g R1 (((p : Int), xs), .slice A3 xs.length c3) from HAY.out.keep H6.out.2)
 have X6 := Lib.hid (show Blk w6 bx 66 #[.int .i64 p, .slice A3 xs.length c3] /\ bx < w6.heap.size /\ bx ≠ g /\ ¬ RB R1 bx from by
  have hne : bx ≠ g := by have := HBX.out; omega
  have hnr : ¬ RB R bx := fun ⟨r, hr, e⟩ => by have := H.out.rowLt hr e; have := HBX.out; omega
  refine ⟨(H6.out.2.keep bx hsy hne hnr).trans HX.out, by have := H6.out.2.below.size; omega, hne, fun e => ?_⟩
  rcases H6.out.2.rows bx e with e2 | e2
  ·exact hnr e2
  ·omega)
 rw [<- hw6]
 clear hw6 hR1 S5 f5 c5 SB S6
 have q0 : w6.cell? ⟨bx, 0, none⟩ = some (.int .i64 p) := X6.out.1.cell 0
 have q1 : w6.cell? ⟨bx, 1, none⟩ = some (.slice A3 xs.length c3) := X6.out.1.cell 1
 clear q0 q1
 go_upto_region 2 with fail
 refine wp_region_rel (fun W => W.cell? ⟨g, 26 + p * 3, none⟩ = some (R1 (2 + p)) /\ W.cell? ⟨bx, 0, none⟩ = some (.int .i64 p) /\ W.cell? ⟨bx, 1, none⟩ = some (.slice A3 xs.length c3)) 18 19 (by kernel_rfl) rfl ?_
 obtain ⟨wz, hwz⟩ : ∃ wz, wz = w6.drew := ⟨_, rfl⟩
 have HG2 := Lib.hid (show GrRaw wz g (XL ++ [(((p : Int), xs), .slice A3 xs.length c3)]) E XP O La T R1 by rw [hwz]; exact H6.out.1.drew)
 have HK2 := Lib.hid (show KeepR g w R wz R1 by rw [hwz]; exact ((KeepR.of_below BY.out (Nat.le_of_lt hgl)).trans H6.out.2).drew)
 have HX2 := Lib.hid (show Blk wz bx 66 #[.int .i64 p, .slice A3 xs.length c3] /\ bx < wz.heap.size /\ bx ≠ g /\ ¬ RB R1 bx by rw [hwz]; exact X6.out)
 have HA2 := Lib.hid (show ArgOk wz g R1 (((p : Int), xs), .slice A3 xs.length c3) by rw [hwz]; exact HA6.out.on (Below.refl _ _).drew)
 rw [<- hwz]
 clear hwz
 obtain ⟨A1, c1, hv1⟩ := HG2.out.formP hp
 obtain ⟨S2, hS2⟩ : ∃ S2 : World -> Prop, S2 = (fun W => W.cell? ⟨g, 26 + p * 3, none⟩ = some (R1 (2 + p)) /\ W.cell? ⟨bx, 0, none⟩ = some (.int .i64 p) /\ W.cell? ⟨bx, 1, none⟩ = some (.slice A3 xs.length c3)) := ⟨_, rfl⟩
 rw [<- hS2]
 clear HB
 have HB := Lib.hid (show ∀ W, S2 W -> (W.cell? ⟨g, 26 + p * 3, none⟩ = some (.slice A1 (XP p).length c1) /\ W.cell? ⟨bx, 0, none⟩ = some (.int .i64 p) /\ W.cell? ⟨bx, 1, none⟩ = some (.slice A3 xs.length c3)) from by rw [hS2, hv1]; exact fun W hW => hW)
 have HS2 := Lib.hid (show ∀ W : World, (∀ b, b < wz.heap.size -> (R1 (2 + p)).ownBlock ≠ some b -> W.heap[b]? = wz.heap[b]?) -> S2 W from by
  rw [hS2]
  intro W hW
  have hg0 : W.heap[g]? = wz.heap[g]? := hW g HG2.out.lt fun e => by have := HG2.out.rowLt (show 2 + p < 26 by omega) e; omega
  have hb0 : W.heap[bx]? = wz.heap[bx]? := hW bx HX2.out.2.1 fun e => HX2.out.2.2.2 ⟨2 + p, by omega, e⟩
  exact ⟨(World.cell?_of_block hg0).trans (HG2.out.cellPred hp), (World.cell?_of_block hb0).trans (HX2.out.1.cell 0), (World.cell?_of_block hb0).trans (HX2.out.1.cell 1)⟩)
 have HFR2 := Lib.hid (show ∀ W : World, (∀ b, b < wz.heap.size -> (R1 (2 + p)).ownBlock ≠ some b -> W.heap[b]? = wz.heap[b]?) -> W.frozen? ⟨g, 26 + p * 3, none⟩ = false from fun W hW => by
  have hg0 : W.heap[g]? = wz.heap[g]? := hW g HG2.out.lt fun e => by have := HG2.out.rowLt (show 2 + p < 26 by omega) e; omega
  exact (World.frozen?_of_block hg0).trans (HG2.out.free _))
 have SB : S2 wz := HS2.out wz fun _ _ _ => rfl
 have HV1 := Lib.hid hv1
 clear hS2 hv1
 refine wpAnyR_pure (i := 0) (oi := _) ?vb0 rfl rfl (by kernel_rfl) (by decide) (fun _ _ _ h => h) rfl ?hyb0 (fun _ => SB) ?restb0
 case hyb0 => (intro W; go_simp; (try with_reducible rfl))
 try simp only [List.setIfInBounds_toArray, List.set_cons_zero, List.set_cons_succ]
 refine wpAnyR_pure (i := 1) (oi := _) ?vb1 rfl rfl (by kernel_rfl) (by decide) (fun _ _ _ h => h) rfl ?hyb1 (fun _ => SB) ?restb1
 case hyb1 => (intro W; go_simp; (try with_reducible rfl))
 try simp only [List.setIfInBounds_toArray, List.set_cons_zero, List.set_cons_succ]
 refine wpAnyR_take (i := 2) (oi := _) ?vb2 rfl rfl (by kernel_rfl) (fun _ _ _ h => h) rfl ?hyb2 SB ?restb2
 case hyb2 => (intro W hW; obtain ⟨E0, E1, E2⟩ := HB.out W hW; go_simp; (try with_reducible rfl))
 try simp only [List.setIfInBounds_toArray, List.set_cons_zero, List.set_cons_succ]
 refine wpAnyR_pure (i := 3) (oi := _) ?vb3 rfl rfl (by kernel_rfl) (by decide) (fun _ _ _ h => h) rfl ?hyb3 (fun _ => SB) ?restb3
 case hyb3 => (intro W; go_simp; (try with_reducible rfl))
 try simp only [List.setIfInBounds_toArray, List.set_cons_zero, List.set_cons_succ]
 refine wpAnyR_pure (i := 4) (oi := _) ?vb4 rfl rfl (by kernel_rfl) (by decide) (fun _ _ _ h => h) rfl ?hyb4 (fun _ => SB) ?restb4
 case hyb4 => (intro W; go_simp; (try with_reducible rfl))
 try simp only [List.setIfInBounds_toArray, List.set_cons_zero, List.set_cons_succ]
 refine wpAnyR_take (i := 5) (oi := _) ?vb5 rfl rfl (by kernel_rfl) (fun _ _ _ h => h) rfl ?hyb5 SB ?restb5
 case hyb5 => (intro W hW; obtain ⟨E0, E1, E2⟩ := HB.out W hW; go_simp; (try with_reducible rfl))
 try simp only [List.setIfInBounds_toArray, List.set_cons_zero, List.set_cons_succ]
 refine wpAnyR_pure (i := 6) (oi := _) ?vb6 rfl rfl (by kernel_rfl) (by decide) (fun _ _ _ h => h) rfl ?hyb6 (fun _ => SB) ?restb6
 case hyb6 => (intro W; go_simp; (try with_reducible rfl))
 try simp only [List.setIfInBounds_toArray, List.set_cons_zero, List.set_cons_succ]
 refine wpAnyR_pure (i := 7) (oi := _) ?vb7 rfl rfl (by kernel_rfl) (by decide) (fun _ _ _ h => h) rfl ?hyb7 (fun _ => SB) ?restb7
 case hyb7 => (intro W; go_simp; (try with_reducible rfl))
 try simp only [List.setIfInBounds_toArray, List.set_cons_zero, List.set_cons_succ]
 refine wpAnyR_pure (i := 8) (oi := _) ?vb8 rfl rfl (by kernel_rfl) (by decide) (fun _ _ _ h => h) rfl ?hyb8 (fun _ => SB) ?restb8
 case hyb8 => (intro W; go_simp; (try with_reducible rfl))
 try simp only [List.setIfInBounds_toArray, List.set_cons_zero, List.set_cons_succ]
 refine wpAnyR_pure (i := 9) (oi := _) ?vb9 rfl rfl (by kernel_rfl) (by decide) (fun _ _ _ h => h) rfl ?hyb9 (fun _ => SB) ?restb9
 case hyb9 => (intro W; go_simp; (try with_reducible rfl))
 try simp only [List.setIfInBounds_toArray, List.set_cons_zero, List.set_cons_succ]
 refine wpAnyR_pure (i := 14) (oi := _) ?vb14 rfl rfl (by kernel_rfl) (by decide) (fun _ _ _ h => h) rfl ?hyb14 (fun _ => SB) ?restb14
 case hyb14 => (intro W; go_simp; (try with_reducible rfl))
 try simp only [List.setIfInBounds_toArray, List.set_cons_zero, List.set_cons_succ]
 refine wpAnyR_pure (i := 15) (oi := _) ?vb15 rfl rfl (by kernel_rfl) (by decide) (fun _ _ _ h => h) rfl ?hyb15 (fun _ => SB) ?restb15
 case hyb15 => (intro W; go_simp; (try with_reducible rfl))
 try simp only [List.setIfInBounds_toArray, List.set_cons_zero, List.set_cons_succ]
 refine wpAnyR_take (i := 10) (oi := _) ?vb10 rfl rfl (by kernel_rfl) (fun _ _ _ h => h) rfl ?hyb10 SB ?restb10
 case hyb10 => (intro W hW; obtain ⟨E0, E1, E2⟩ := HB.out W hW; go_simp; (try with_reducible rfl))
 try simp only [List.setIfInBounds_toArray, List.set_cons_zero, List.set_cons_succ]
 refine wpAnyR_take (i := 11) (oi := _) ?vb11 rfl rfl (by kernel_rfl) (fun _ _ _ h => h) rfl ?hyb11 SB ?restb11
 case hyb11 => (intro W hW; obtain ⟨E0, E1, E2⟩ := HB.out W hW; go_simp; (try with_reducible rfl))
 try simp only [List.setIfInBounds_toArray, List.set_cons_zero, List.set_cons_succ]
 refine wpAnyR_one (i := 12) (by kernel_rfl) rfl (fun K hK => ?_)
 try rw [if_pos (show Region.wanted _ _ = true from rfl)]
 go_simp
 have S6 : S2 _ := HS2.out (wz.alloc (Obj.cells #[Value.int IntKind.i64 (p : Int), Value.slice A3 xs.length c3] 66)) fun b hb _ => Below.heap_alloc _ _ _ hb
 refine hK.out _ _ (fun _ => S6) ?_
 clear hK K
 try simp only [List.setIfInBounds_toArray, List.set_cons_zero, List.set_cons_succ, Act.put]
 refine wpAnyR_one (i := 13) (by kernel_rfl) rfl (fun K hK => ?_)
 refine step_append_lies _ rfl (.tmp 24) (.tmp 26) 29 rfl (g + 1) 66 i0 (.agg #[.int .i64 0, .slice none 0 0]) 2 32 Tryz.underlying29 hi0 hz0 hz1 hz2 rfl (by decide) (.slice A1 (XP p).length c1) (XP p).length (flatX (XP p)) rfl ?d1 ⟨wz.heap.size, 0, none⟩ 1 1 [.int .i64 p, .slice A3 xs.length c3] rfl rfl ?d4 ?d2 (by omega) (by unfold maxLen; omega) (by omega) ?d3 _ rfl ?d5
 case d1 => exact (HV1.out ▸ HG2.out.pred p hp).alloc _
 case d4 => exact news2 _ _ _ _
 case d2 => intro u hu; simp at hu; rcases hu with rfl | rfl <;> rfl
 case d3 => have := HG2.out.lt; simp; omega
 case d5 =>
 intro g3 cap3 w7 hown hgr hat _
 have HGW2 := Lib.hid (show Grew wz g R1 (2 + p) (26 + p * 3) (.slice (some ⟨g3, 0, none⟩) ((XP p).length + 1) cap3) w7 from by
  have hgr' := grown_from_alloc hgr
  refine ⟨by rw [HV1.out]; exact hgr', fun b hb => ?_⟩
  have e : g3 = b := by simpa [Value.ownBlock] using hb
  subst e
  rw [HV1.out]
  rcases hat with hat | hat
  ·exact .inl hat
  ·exact .inr (by rw [hat]; simp))
 have HOW2 := Lib.hid hown
 have S7 : S2 w7 := HS2.out w7 fun b hb hne => HGW2.out.grown.block b hb fun e => hne e.symm
 have f7 : w7.frozen? ⟨g, 26 + p * 3, none⟩ = false := HFR2.out w7 fun b hb hne => HGW2.out.grown.block b hb fun e => hne e.symm
 have c7 : w7.cell? ⟨g, 26 + p * 3, none⟩ = some (.slice A1 (XP p).length c1) := (HB.out w7 S7).1
 clear hown hgr hat
 refine hK.out _ _ (fun _ => S7) ?_
 clear hK K
 try simp only [List.setIfInBounds_toArray, List.set_cons_zero, List.set_cons_succ, Act.put]
 refine wpAnyR_pure (i := 16) (oi := _) ?vb16 rfl rfl (by kernel_rfl) (by decide) (fun _ _ _ h => h) rfl ?hyb16 (fun _ => S7) ?restb16
 case hyb16 => (intro W; go_simp; (try with_reducible rfl))
 try simp only [List.setIfInBounds_toArray, List.set_cons_zero, List.set_cons_succ]
 refine wpAnyR_pure (i := 17) (oi := _) ?vb17 rfl rfl (by kernel_rfl) (by decide) (fun _ _ _ h => h) rfl ?hyb17 (fun _ => S7) ?restb17
 case hyb17 => (intro W; go_simp; (try with_reducible rfl))
 try simp only [List.setIfInBounds_toArray, List.set_cons_zero, List.set_cons_succ]
 refine wpAnyR_one (i := 18) (by kernel_rfl) rfl (fun K hK => ?_)
 go_simp
 refine hK.out _ _ (fun hf => absurd hf (by decide)) ?_
 clear hK K
 refine wpAnyR_done (by kernel_rfl) ?_
 have HFIN := Lib.hid (HG2.out.growPred hp HGW2.out HOW2.out HA2.out)
 clear f7 c7 S7 SB S6
 go_wp2_with fail
 go_end0
 exact ⟨rfl, _, HFIN.out.1, HK2.out.trans HFIN.out.2⟩
open Go.RowKit
def factsX (X : List FV) : List LFact := X.map (·.1)
def ofX (X : List FV) (p : Nat) : List FV := X.filter fun x => decide (x.1.1 = (p : Int))
theorem factsX_len (X : List FV) : (factsX X).length = X.length := by simp [factsX]
theorem factsX_append (X Y : List FV) : factsX (X ++ Y) = factsX X ++ factsX Y := by simp [factsX]
theorem ofX_append (X Y : List FV) (p : Nat) : ofX (X ++ Y) p = ofX X p ++ ofX Y p := by simp [ofX]
theorem ofX_facts (X : List FV) (p : Nat) : factsX (ofX X p) = ofP (factsX X) p := by
 induction X with
 | nil => rfl
 | cons x X ih =>
  unfold ofX factsX ofP at ih ⊢
  by_cases e : x.1.1 = (p : Int)
  ·simp [List.filter_cons, e]
   simpa using ih
  ·simp [List.filter_cons, e]
   simpa using ih
theorem ofX_len (X : List FV) (p : Nat) : (ofX X p).length = (ofP (factsX X) p).length := by rw [<- ofX_facts, factsX_len]
theorem ofX_le (X : List FV) (p : Nat) : (ofX X p).length <= X.length := List.length_filter_le _ _
theorem ofX_push (X : List FV) (p : Nat) (xs : List Int) (a : Value) : updF (ofX X) p (ofX X p ++ [(((p : Int), xs), a)]) = ofX (X ++ [(((p : Int), xs), a)]) := by
 funext q
 rw [ofX_append]
 by_cases e : q = p
 ·subst e
  rw [updF_same]
  simp [ofX]
 ·rw [updF_ne _ _ e]
  have : ¬ ((p : Int) = (q : Int)) := by omega
  simp [ofX, this]
def cntX (X : List FV) (n : Nat) (p : Nat) : Nat := (ofP ((factsX X).take n) p).length
theorem cntX_push (X : List FV) (x : FV) {n : Nat} (h : n <= X.length) : cntX (X ++ [x]) n = cntX X n := by
 funext p
 unfold cntX
 rw [factsX_append, List.take_append_of_le_length (by rw [factsX_len]; exact h)]
theorem cntX_all (X : List FV) (p : Nat) : cntX X X.length p = (ofX X p).length := by
 unfold cntX
 rw [List.take_of_length_le (by rw [factsX_len]; exact Nat.le_refl _), <- ofX_len]
structure GrAt (w : World) (g : Nat) (X : List FV) (E : List Nat) (o e : Nat) (R : Nat -> Value) : Prop where
 raw : GrRaw w g X E (ofX X) (cntX X o) (cntX X e) (tabWith zeroT (factsX X)) R
 oe : o <= e
 eL : e <= X.length
section
variable {w w' : World} {g o e : Nat} {X : List FV} {E : List Nat} {R : Nat -> Value}
theorem GrAt.on (h : GrAt w g X E o e R) (hb : Below w.heap.size w w') : GrAt w' g X E o e R := ⟨h.raw.on hb, h.oe, h.eL⟩
theorem GrAt.drew (h : GrAt w g X E o e R) : GrAt w.drew g X E o e R := h.on (Below.refl _ _).drew
theorem GrAt.lt (h : GrAt w g X E o e R) : g < w.heap.size := h.raw.lt
end
theorem bit_fact {ar : List Int} {L : List LFact} {f : LFact} (ha : arityOk ar = true) (hL : ∀ x ∈ L, factFits ar x = true) (hf : factFits ar f = true) : ((tabWith zeroT L).getD f.1.toNat 0).testBit (numF f.2) = true <-> f ∈ L := by
 have hp : f.1.toNat < zeroT.length := by
  have h1 := (fits_parts hf).1
  have h2 : ar.length <= 24 := by simp only [arityOk, Bool.and_eq_true, decide_eq_true_eq] at ha; exact ha.1
  simp [zeroT]
  omega
 rw [tabWith_bit _ _ hp, zero_bit]
 constructor
 ·rintro (h | ⟨x, hx, h1, h2⟩)
  ·cases h
  ·rw [fact_of_bit ha hf (hL x hx) h1.symm h2.symm]
   exact hx
 ·intro h
  exact .inr ⟨f, h, rfl, rfl⟩
theorem setBit_same {T : List Nat} {p n : Nat} (hp : p < T.length) (h : (T.getD p 0).testBit n = true) : setBit T p n = T := by
 unfold setBit
 have e : T.getD p 0 ||| 2 ^ n = T.getD p 0 := by
  apply Nat.eq_of_testBit_eq
  intro i
  rw [Nat.testBit_or, Nat.testBit_two_pow]
  by_cases e : n = i
  ·subst e; rw [h]; rfl
  ·simp [e]
 rw [e]
 have e2 : T.getD p 0 = T[p] := by simp [hp]
 rw [e2, List.set_getElem_self]
theorem fit24 {ar : List Int} {f : LFact} (ha : arityOk ar = true) (hf : factFits ar f = true) : 0 <= f.1 /\ f.1 < 24 /\ f.2.length <= 2 /\ numF f.2 < 64 := by
 have h1 := fits_parts hf
 have h2 : ar.length <= 24 := by simp only [arityOk, Bool.and_eq_true, decide_eq_true_eq] at ha; exact ha.1
 have h3 := fits_short ha hf
 exact ⟨h1.1.1, by omega, h3, numF_64 h1.2 h3⟩
theorem rdX {w : World} {g : Nat} {R : Nat -> Value} {v : Value} {X : List FV} (h : w.ownsRow (g + 1) 66 2 v X.length (flatX X)) (ha : ∀ x ∈ X, ArgOk w g R x) {n : Nat} (hn : n <= X.length) {A : Option Addr} {c : Nat} (hv : v = .slice A X.length c) {c' : Nat} (hc : n <= c') :
 RdFacts w w.heap.size (.slice A n c') ((factsX X).take n) := by
 subst hv
 have hl : ((factsX X).take n).length = n := by simp [factsX]; omega
 refine ⟨A, c', by rw [hl], by rw [hl]; exact hc, fun h0 => ?_⟩
 rw [hl] at h0
 have hcells := @World.ownsRow.cells w (g + 1) 66 2 _ X.length (flatX X) h
 rcases h.2 with ⟨e, e0⟩ | ⟨b, cap, cur, e, hb, hg, _⟩
 ·omega
 ·injection e with e1 _ _
  subst e1
  refine ⟨b, 0, rfl, Blk.lt hg, fun k hk => ?_⟩
  have hkX : k < X.length := by rw [hl] at hk; omega
  obtain ⟨c0, c1⟩ := flatX_at X k hkX
  have d0 := hcells (g := b) rfl (k * 2) _ c0
  have d1 := hcells (g := b) rfl (k * 2 + 1) _ c1
  rw [Go.WideShapes.add_plain] at d0 d1
  have e3 : ((factsX X).take n)[k] = X[k].1 := by simp [factsX]
  rw [e3]
  exact ⟨X[k].2, d0, d1, (ha _ (List.getElem_mem hkX)).1⟩
open Go.RowKit
theorem FitL.snoc {ar : List Int} {L : List LFact} {f : LFact} (h : FitL ar L) (hf : factFits ar f = true) (hn : f ∉ L) : FitL ar (L ++ [f]) :=
 ⟨(Brings.step h.nodup hn).2.1, fun g hg => by
   rcases List.mem_append.1 hg with hg | hg
   ·exact h.fits g hg
   ·rw [List.mem_singleton.1 hg]; exact hf⟩
theorem Brings.fit {ar : List Int} {L L' : List LFact} {X : LFact -> Prop} (h : Brings L X L') (hL : FitL ar L) (hX : ∀ f, X f -> factFits ar f = true) : FitL ar L' :=
 ⟨h.2.1, fun f hf => ((h.2.2 f).1 hf).elim (hL.fits f) (hX f)⟩
theorem Brings.cast {L L' : List LFact} {X Y : LFact -> Prop} (h : Brings L X L') (e : ∀ f, X f <-> Y f) : Brings L Y L' := ⟨h.1, h.2.1, fun f => by rw [h.2.2, e]⟩
theorem GrAt.few {ar : List Int} {w : World} {g o e : Nat} {X : List FV} {E : List Nat} {R : Nat -> Value} (_h : GrAt w g X E o e R) (ha : arityOk ar = true) (hf : FitL ar (factsX X)) : X.length <= 1536 := by
 have := (facts_few ha hf.nodup hf.fits).1
 rw [factsX_len] at this
 exact this
theorem ArgOk.below {w : World} {g : Nat} {X : List FV} {E : List Nat} {o e : Nat} {R : Nat -> Value} {v : Value} {f : LFact} (h : GrAt w g X E o e R) (hr : RdInts w g v f.2) : ArgOk w g R (f, v) := by
 refine ⟨hr.more (Nat.le_of_lt h.lt), fun h0 b hb => ?_⟩
 obtain ⟨A, c, rfl, _, h1⟩ := hr
 obtain ⟨b2, o2, rfl, hb2, _⟩ := h1 h0
 have e2 : b2 = b := by simpa [Value.ownBlock] using hb
 subst e2
 exact ⟨by omega, fun ⟨r, hr, e⟩ => by have := h.raw.rowLt hr e; omega⟩
set_option maxHeartbeats 4000000 in
set_option maxRecDepth 100000 in
theorem bring_any (g : Nat) (ar : List Int) (har : arityOk ar = true) (X : List FV) (E : List Nat) (o e : Nat) (R : Nat -> Value) (v : Value) (fs : List LFact) (w : World) (h : GrAt w g X E o e R) (hX : FitL ar (factsX X)) (hr : RdFacts w g v fs) (hf : ∀ f ∈ fs, factFits ar f = true) (hn : fs.length <= 1048576) :
 Calls Tryz.prog 199 #[.pointer (some ⟨g, 0, none⟩), v] w fun e' w' =>
  e' = .returned (.tuple #[]) /\ ∃ X' R', GrAt w' g X' E o e R' /\ KeepR g w R w' R' /\ Brings (factsX X) (fun f => f ∈ fs) (factsX X') := by
 have H := Lib.hid hr
 have HG := Lib.hid h
 have HF := Lib.hid hf
 have HX := Lib.hid hX
 have HAR := Lib.hid har
 have hgw := h.lt
 obtain ⟨A, c, rfl, hc, _⟩ := hr
 clear h hf hX har
 go_enter Tryz.func199, Tryz.ntmps199
 go_wp2_with fail
 go_loopw [8] (fun i wr => ∃ (k : Nat) (X' : List FV) (R' : Nat -> Value), k <= fs.length /\ i = .int .i64 k /\ GrAt wr g X' E o e R' /\ KeepR g w R wr R' /\ Brings (factsX X) (fun f => f ∈ fs.take k) (factsX X')) (fun i _ => fs.length - (intOf i).toNat)
 case atStart => exact ⟨0, X, R, Nat.zero_le _, rfl, HG.out, KeepR.refl _ _ _, Brings.refl HX.out.nodup fun f hf => by simp at hf⟩
 case round =>
  obtain ⟨k, X', R', hk, rfl, hat, hkp, hbr⟩ := hrel
  by_cases hlt : k < fs.length
  ·have hsz := hkp.below.size
   obtain ⟨b, o3, A3, c3, rfl, hbB, k1, k2, k3⟩ := (H.out.below hkp.below (Nat.le_refl _)).get hlt
   have HCF := Lib.hid (HF.out _ (List.getElem_mem hlt))
   have HTK := Lib.hid (take_snoc fs k hlt)
   obtain ⟨f, hfe⟩ : ∃ f, f = fs[k] := ⟨_, rfl⟩
   rw [<- hfe] at HCF k1 k2 k3 HTK
   have h24 := fit24 HAR.out HCF.out
   obtain ⟨p, hpe⟩ : ∃ p : Nat, f.1 = (p : Int) := ⟨f.1.toNat, by have := h24.1; omega⟩
   obtain ⟨xs, hxs⟩ : ∃ xs, xs = f.2 := ⟨_, rfl⟩
   obtain rfl : f = ((p : Int), xs) := by rw [hxs, <- hpe]
   have hp24 : p < 24 := by have := h24.2.1; simp at this; omega
   obtain ⟨n, hne⟩ : ∃ n, n = numF xs := ⟨_, rfl⟩
   have hn64 : n < 64 := by rw [hne]; exact h24.2.2.2
   have HNE := Lib.hid hne
   have HXL := Lib.hid (show xs.all constOk = true /\ xs.length <= 2 from ⟨(fits_parts HCF.out).2, h24.2.2.1⟩)
   have HAT := Lib.hid hat
   have HKP := Lib.hid hkp
   have HBR := Lib.hid hbr
   have HFX := Lib.hid (hbr.fit HX.out fun f hf => HF.out f (List.mem_of_mem_take hf))
   have hfew := hat.few HAR.out HFX.out
   have hglr := hat.lt
   simp only at k1 k2 k3
   clear hfe hpe hne hxs h24 hat hkp hbr
   go_upto_region 3 with fail
   obtain ⟨wv, hwv⟩ : ∃ wv, wv = wr.alloc (Obj.cells #[Value.int IntKind.i64 (p : Int), Value.slice A3 xs.length c3] 66) := ⟨_, rfl⟩
   have bv : Below wr.heap.size wr wv := by rw [hwv]; exact below1 _ _
   have hgv : g < wv.heap.size := Nat.lt_of_lt_of_le hglr bv.size
   have z7 : Blk wv wr.heap.size 66 #[.int .i64 p, .slice A3 xs.length c3] := by rw [hwv]; exact Blk.new _ _ _
   have hvl : wr.heap.size < wv.heap.size := by rw [hwv]; simp
   obtain ⟨bx, hbx⟩ : ∃ bx, bx = wr.heap.size := ⟨_, rfl⟩
   rw [<- hwv]
   rw [<- hbx] at z7 hvl ⊢
   clear hwv k1 k2
   have RF := Lib.hid (show RdInts wv g (.slice A3 xs.length c3) xs from k3.below bv (by omega))
   have HGV := Lib.hid (show GrAt wv.drew g X' E o e R' from (HAT.out.on bv).drew)
   have HKV := Lib.hid (show KeepR g w R wv.drew R' from (HKP.out.trans (KeepR.of_below bv (Nat.le_of_lt hglr))).drew)
   have hZ := Lib.hid z7
   have q0 : wv.cell? ⟨bx, 0, none⟩ = some (.int .i64 p) := z7.cell 0
   have q1 : wv.cell? ⟨bx, 1, none⟩ = some (.slice A3 xs.length c3) := z7.cell 1
   have HBX := Lib.hid (show g < bx /\ ¬ RB R' bx from ⟨by omega, fun ⟨r, hr, e⟩ => by have := HAT.out.raw.rowLt hr e; omega⟩)
   clear k3 z7 hbx
   obtain ⟨SS, hSS⟩ : ∃ SS : World -> Prop, SS = (fun W => Below wv.heap.size wv W /\ W.cell? ⟨bx, 0, none⟩ = some (.int .i64 p) /\ W.cell? ⟨bx, 1, none⟩ = some (.slice A3 xs.length c3)) := ⟨_, rfl⟩
   have HB := Lib.hid (show ∀ W, SS W -> (Below wv.heap.size wv W /\ W.cell? ⟨bx, 0, none⟩ = some (.int .i64 p) /\ W.cell? ⟨bx, 1, none⟩ = some (.slice A3 xs.length c3)) from by rw [hSS]; exact fun W hW => hW)
   have HS := Lib.hid (show ∀ W, Below wv.heap.size wv W -> SS W from by
    rw [hSS]
    exact fun W hW => ⟨hW, (hW.cell (World.block_lt_of_cell? _ _ q0)).trans q0, (hW.cell (World.block_lt_of_cell? _ _ q1)).trans q1⟩)
   clear hSS
   have BB : Below wv.heap.size wv wv.drew := (Below.refl _ _).drew
   have SB := HS.out _ BB
   refine wp_region_rel SS 8 9 (by kernel_rfl) rfl ?_
   refine wpAnyR_pure (i := 0) (oi := _) ?va0 rfl rfl (by kernel_rfl) (by decide) (fun _ _ _ h => h) rfl ?hya0 (fun _ => SB) ?resta0
   case hya0 => (intro W; go_simp; (try with_reducible rfl))
   try simp only [List.setIfInBounds_toArray, List.set_cons_zero, List.set_cons_succ]
   refine wpAnyR_pure (i := 1) (oi := _) ?va1 rfl rfl (by kernel_rfl) (by decide) (fun _ _ _ h => h) rfl ?hya1 (fun _ => SB) ?resta1
   case hya1 => (intro W; go_simp; (try with_reducible rfl))
   try simp only [List.setIfInBounds_toArray, List.set_cons_zero, List.set_cons_succ]
   refine wpAnyR_pure (i := 2) (oi := _) ?va2 rfl rfl (by kernel_rfl) (by decide) (fun _ _ _ h => h) rfl ?hya2 (fun _ => SB) ?resta2
   case hya2 => (intro W; go_simp; (try with_reducible rfl))
   try simp only [List.setIfInBounds_toArray, List.set_cons_zero, List.set_cons_succ]
   refine wpAnyR_pure (i := 3) (oi := _) ?va3 rfl rfl (by kernel_rfl) (by decide) (fun _ _ _ h => h) rfl ?hya3 (fun _ => SB) ?resta3
   case hya3 => (intro W; go_simp; (try with_reducible rfl))
   try simp only [List.setIfInBounds_toArray, List.set_cons_zero, List.set_cons_succ]
   refine wpAnyR_take (i := 4) (oi := _) ?va4 rfl rfl (by kernel_rfl) (fun _ _ _ h => h) rfl ?hya4 SB ?resta4
   case hya4 => (intro W hW; obtain ⟨_, E0, E1⟩ := HB.out W hW; go_simp; (try with_reducible rfl))
   try simp only [List.setIfInBounds_toArray, List.set_cons_zero, List.set_cons_succ]
   refine wpAnyR_pure (i := 5) (oi := _) ?va5 rfl rfl (by kernel_rfl) (by decide) (fun _ _ _ h => h) rfl ?hya5 (fun _ => SB) ?resta5
   case hya5 => (intro W; go_simp; (try with_reducible rfl))
   try simp only [List.setIfInBounds_toArray, List.set_cons_zero, List.set_cons_succ]
   refine wpAnyR_take (i := 6) (oi := _) ?va6 rfl rfl (by kernel_rfl) (fun _ _ _ h => h) rfl ?hya6 SB ?resta6
   case hya6 => (intro W hW; obtain ⟨_, E0, E1⟩ := HB.out W hW; go_simp; (try with_reducible rfl))
   try simp only [List.setIfInBounds_toArray, List.set_cons_zero, List.set_cons_succ]
   refine wpAnyR_one (i := 7) (by kernel_rfl) rfl (fun K hK => ?_)
   try rw [if_pos (show Region.wanted _ _ = true from rfl)]
   go_simp
   refine (constantsNumber_any (.slice A3 xs.length c3) xs g _ (RF.out.below BB (by omega)) HXL.out.1 HXL.out.2).mono ?_
   rw [<- HNE.out]
   rintro e5 W5 ⟨rfl, rfl⟩
   refine hK.out _ _ (fun _ => SB) ?_
   clear hK K
   try simp only [List.setIfInBounds_toArray, List.set_cons_zero, List.set_cons_succ, Act.put]
   refine wpAnyR_one (i := 8) (by kernel_rfl) rfl (fun K hK => ?_)
   try rw [if_pos (show Region.wanted _ _ = true from rfl)]
   go_simp
   refine (addG_any g p n _ _ _ _ _ _ _ _ HGV.out.raw hp24 hn64).mono ?_
   rintro e6 W6 ⟨rfl, ht6, ho6⟩
   have H6 := Lib.hid (And.intro ht6 ho6)
   clear ht6 ho6
   refine hK.out _ _ (fun hf => absurd hf (by decide)) ?_
   clear hK K
   try simp only [List.setIfInBounds_toArray, List.set_cons_zero, List.set_cons_succ, Act.put]
   refine wpAnyR_done (by kernel_rfl) ?_
   clear SB HB HS BB
   have X6 := Lib.hid (show Blk W6 bx 66 #[.int .i64 p, .slice A3 xs.length c3] from (H6.out.2.keep bx hvl (by have := HBX.out.1; omega) HBX.out.2).trans hZ.out)
   have hbit := bit_fact HAR.out HFX.out.fits HCF.out
   simp only [Int.toNat_natCast] at hbit
   rw [<- HNE.out] at hbit
   clear q0 q1
   cases hb : ((tabWith zeroT (factsX X')).getD p 0).testBit n
   ·have hnot : ((p : Int), xs) ∉ factsX X' := fun hc => by rw [hbit.2 hc] at hb; cases hb
    have HNOT := Lib.hid hnot
    have q0 : W6.cell? ⟨bx, 0, none⟩ = some (.int .i64 p) := X6.out.cell 0
    have q1 : W6.cell? ⟨bx, 1, none⟩ = some (.slice A3 xs.length c3) := X6.out.cell 1
    have hap : ArgOk wv.drew g R' (((p : Int), xs), .slice A3 xs.length c3) := ArgOk.below HGV.out (RF.out.below (show Below wv.heap.size wv wv.drew from (Below.refl _ _).drew) (Nat.le_of_lt hgv))
    have CT := Lib.hid (take_any g p xs A3 c3 _ _ _ _ _ _ _ W6 H6.out.1 hp24 (hap.keep H6.out.2) (by omega) (by have := ofX_le X' p; omega))
    clear hnot hbit hb hap
    go_wp2_with (go_at_call 246; refine CT.out.mono ?_; rintro e7 W7 ⟨rfl, R7, h7, k7⟩; have H7 := Lib.hid (And.intro h7 k7); clear h7 k7)
    go_roundw
    case rel =>
     refine ⟨k + 1, X' ++ [(((p : Int), xs), .slice A3 xs.length c3)], R7, by omega, by go_num, ⟨?_, HAT.out.oe, by have := HAT.out.eL; simp; omega⟩, HKV.out.trans (H6.out.2.trans H7.out.2), ?_⟩
     ·have h7 := H7.out.1
      rw [ofX_push, <- cntX_push X' (((p : Int), xs), .slice A3 xs.length c3) (Nat.le_trans HAT.out.oe HAT.out.eL), <- cntX_push X' (((p : Int), xs), .slice A3 xs.length c3) HAT.out.eL] at h7
      rw [factsX_append, show factsX [((((p : Int), xs), Value.slice A3 xs.length c3) : FV)] = [((p : Int), xs)] from rfl, tabWith_snoc, Int.toNat_natCast, <- HNE.out]
      exact h7
     ·rw [factsX_append, HTK.out]
      refine HBR.out.trans (Brings.step HFX.out.nodup HNOT.out) fun f => ?_
      simp
    case measure => simp [intOf]; omega
   ·have hin : ((p : Int), xs) ∈ factsX X' := hbit.1 hb
    have HIN := Lib.hid hin
    have HBT := Lib.hid hb
    clear hin hbit hb
    go_wp2_with fail
    go_roundw
    case rel =>
     refine ⟨k + 1, X', R', by omega, by go_num, ⟨?_, HAT.out.oe, HAT.out.eL⟩, HKV.out.trans H6.out.2, ?_⟩
     ·have h6 := H6.out.1
      rw [setBit_same (by rw [HAT.out.raw.tl]; exact hp24) HBT.out] at h6
      exact h6
     ·rw [HTK.out]
      refine HBR.out.trans (Brings.refl HFX.out.nodup (X := fun f => f = ((p : Int), xs)) fun f hf => by rw [hf]; exact HIN.out) fun f => ?_
      simp
    case measure => simp [intOf]; omega
  ·have HFIN := Lib.hid (show GrAt wr g X' E o e R' /\ KeepR g w R wr R' /\ Brings (factsX X) (fun f => f ∈ fs) (factsX X') from by
    rw [show k = fs.length by omega, List.take_length] at hbr
    exact ⟨hat, hkp, hbr⟩)
   clear hat hkp hbr
   go_wp2_with fail
   go_end0
   exact ⟨rfl, _, _, HFIN.out.1, HFIN.out.2.1, HFIN.out.2.2⟩
open Go.RowKit
theorem rdW_only {w w' : World} {B B' : Nat} {v : Value} {S : List (List Int)} (h : RdW w B v S) (hB : B <= B') (hk : 0 < S.length -> ∀ b, v.ownBlock = some b -> w'.heap[b]? = w.heap[b]?) : RdW w' B' v S := by
 obtain ⟨A, c, rfl, hc, h⟩ := h
 refine ⟨A, c, rfl, hc, fun h0 => ?_⟩
 obtain ⟨b, o, rfl, hb, hx⟩ := h h0
 refine ⟨b, o, rfl, by omega, fun k hk' => ?_⟩
 rw [World.cell?_of_block (hk h0 b rfl)]
 exact hx k hk'
def SolOk (w : World) (g : Nat) (R : Nat -> Value) (v : Value) (S : List (List Int)) : Prop := RdW w w.heap.size v S /\ (0 < S.length -> ∀ b, v.ownBlock = some b -> b ≠ g /\ ¬ RB R b)
theorem SolOk.keep {w w' : World} {g : Nat} {R R' : Nat -> Value} {v : Value} {S : List (List Int)} (h : SolOk w g R v S) (k : KeepR g w R w' R') : SolOk w' g R' v S := by
 have hs := k.below.size
 have hlt : 0 < S.length -> ∀ b, v.ownBlock = some b -> b < w.heap.size := fun h0 b hb => by
  obtain ⟨A, c, e, _, h1⟩ := h.1
  obtain ⟨b2, o, rfl, hb2, _⟩ := h1 h0
  rw [e] at hb
  have : b2 = b := by simpa [Value.ownBlock] using hb
  omega
 refine ⟨rdW_only h.1 hs fun h0 b hb => k.keep b (hlt h0 b hb) (h.2 h0 b hb).1 (h.2 h0 b hb).2, fun h0 b hb => ⟨(h.2 h0 b hb).1, fun e => ?_⟩⟩
 rcases k.rows b e with e2 | e2
 ·exact (h.2 h0 b hb).2 e2
 ·have := hlt h0 b hb
  omega
theorem ArgOk.new {w w' : World} {g : Nat} {XL : List FV} {E : List Nat} {XP : Nat -> List FV} {O La : Nat -> Nat} {T : List Nat} {R : Nat -> Value} {v : Value} {f : LFact} (h : GrRaw w g XL E XP O La T R) (hr : OwnInts w' w.heap.size w'.heap.size v f.2) : ArgOk w' g R (f, v) := by
 refine ⟨hr.rd, fun _ b hb => ?_⟩
 have h1 := hr.lt hb
 have h2 := h.lt
 exact ⟨by omega, fun ⟨r, hr, e⟩ => by have := h.rowLt hr e; omega⟩
set_option maxHeartbeats 4000000 in
set_option maxRecDepth 100000 in
theorem bringHeads_any (g : Nat) (ar : List Int) (har : arityOk ar = true) (X : List FV) (E : List Nat) (o e : Nat) (R : Nat -> Value) (p : Nat) (aa : List Int) (v2 v : Value) (S : List (List Int)) (w : World) (h : GrAt w g X E o e R) (hX : FitL ar (factsX X))
 (hr : RdInts w g v2 aa) (ht : aa.all termOk = true) (hal : aa.length <= 2) (hS : SolOk w g R v S) (hb : ∀ b ∈ S, bindOk b = true) (hf : ∀ b ∈ S, factFits ar ((p : Int), aa.map (termVal b)) = true) (hn : S.length <= 1048576) :
 Calls Tryz.prog 201 #[.pointer (some ⟨g, 0, none⟩), .agg #[.int .i64 p, v2], v] w fun e' w' =>
  e' = .returned (.tuple #[]) /\ ∃ X' R', GrAt w' g X' E o e R' /\ KeepR g w R w' R' /\ Brings (factsX X) (fun f => ∃ b ∈ S, f = ((p : Int), aa.map (termVal b))) (factsX X') := by
 have HG := Lib.hid h
 have HF := Lib.hid hf
 have HX := Lib.hid hX
 have HAR := Lib.hid har
 have HS0 := Lib.hid hS
 have HT := Lib.hid ht
 have HBO := Lib.hid hb
 have H2 := Lib.hid hr
 have hgw := h.lt
 obtain ⟨A2, c2, rfl, hc2, _⟩ := hr
 obtain ⟨A, c, rfl, hc, _⟩ := hS.1
 clear h hf hX har hS ht hb
 go_enter Tryz.func201, Tryz.ntmps201
 go_wp2_with fail
 obtain ⟨bx, hbx⟩ : ∃ bx, bx = w.heap.size := ⟨_, rfl⟩
 obtain ⟨w1, hw1⟩ : ∃ w1, w1 = w.alloc (Obj.cells #[Value.int IntKind.i64 (p : Int), Value.slice A2 aa.length c2] 53) := ⟨_, rfl⟩
 have B1 := Lib.hid (show Below w.heap.size w w1 by rw [hw1]; exact below1 _ _)
 have X1 := Lib.hid (show Blk w1 bx 53 #[.int .i64 p, .slice A2 aa.length c2] by rw [hw1, hbx]; exact Blk.new _ _ _)
 have HBX := Lib.hid (show g < bx /\ ¬ RB R bx from ⟨by omega, fun ⟨r, hr, e⟩ => by have := HG.out.raw.rowLt hr e; omega⟩)
 rw [<- hw1]
 rw [<- hbx]
 have HK1 := Lib.hid (show KeepR g w R w1 R from KeepR.of_below B1.out (Nat.le_of_lt hgw))
 have HG1 := Lib.hid (show GrAt w1 g X E o e R from HG.out.on B1.out)
 clear hw1 hbx
 go_loopw [10] (fun i wr => ∃ (k : Nat) (X' : List FV) (R' : Nat -> Value), k <= S.length /\ i = .int .i64 k /\ GrAt wr g X' E o e R' /\ KeepR g w1 R wr R' /\ Brings (factsX X) (fun f => ∃ b ∈ S.take k, f = ((p : Int), aa.map (termVal b))) (factsX X')) (fun i _ => S.length - (intOf i).toNat)
 case atStart => exact ⟨0, X, R, Nat.zero_le _, rfl, HG1.out, KeepR.refl _ _ _, Brings.refl HX.out.nodup fun f hf => by simp at hf⟩
 case round =>
  obtain ⟨k, X', R', hk, rfl, hat, hkp, hbr⟩ := hrel
  by_cases hlt : k < S.length
  ·have hkw : KeepR g w R wr R' := HK1.out.trans hkp
   have hsz := hkw.below.size
   have hglr := hat.lt
   have XR := Lib.hid (show Blk wr bx 53 #[.int .i64 p, .slice A2 aa.length c2] /\ bx < wr.heap.size /\ ¬ RB R' bx from by
    have hl := X1.out.lt
    have hs2 := hkp.below.size
    refine ⟨(hkp.keep bx hl (by have := HBX.out.1; omega) HBX.out.2).trans X1.out, by omega, fun e => ?_⟩
    rcases hkp.rows bx e with e2 | e2
    ·exact HBX.out.2 e2
    ·omega)
   have hsr := (HS0.out.keep hkw).1
   obtain ⟨A7, c7, e7, hlc, hx⟩ := hsr
   injection e7 with e7 e9 e8
   clear e9
   subst e7 e8
   obtain ⟨b7, o7, rfl, _, hx⟩ := hx (by omega)
   obtain ⟨bs, hbs⟩ : ∃ bs, bs = S[k] := ⟨_, rfl⟩
   obtain ⟨m7, hm7⟩ : ∃ m7, m7 = encB bs := ⟨_, rfl⟩
   have hck : wr.cell? ⟨b7, o7 + k, none⟩ = some (.int .u32 ((m7 : Nat) : Int)) := by rw [hm7, hbs]; exact hx k hlt
   have HCF := Lib.hid (show factFits ar ((p : Int), aa.map (termVal bs)) = true by rw [hbs]; exact HF.out _ (List.getElem_mem hlt))
   have HBK := Lib.hid (show bindOk bs = true by rw [hbs]; exact HBO.out _ (List.getElem_mem hlt))
   have HTK := Lib.hid (show S.take (k + 1) = S.take k ++ [bs] by rw [hbs]; exact take_snoc S k hlt)
   obtain ⟨xs, hxs⟩ : ∃ xs, xs = aa.map (termVal bs) := ⟨_, rfl⟩
   rw [<- hxs] at HCF
   have HXS := Lib.hid hxs
   have hxl : xs.length = aa.length := by rw [hxs]; simp
   have HXLN := Lib.hid hxl
   have h24 := fit24 HAR.out HCF.out
   have hp24 : p < 24 := by have := h24.2.1; simp at this; omega
   obtain ⟨n, hne⟩ : ∃ n, n = numF xs := ⟨_, rfl⟩
   have hn64 : n < 64 := by rw [hne]; exact h24.2.2.2
   have HNE := Lib.hid hne
   have HM7 := Lib.hid hm7
   have HXL := Lib.hid (show xs.all constOk = true from (fits_parts HCF.out).2)
   have HAT := Lib.hid hat
   have HKP := Lib.hid hkw
   have HKP1 := Lib.hid hkp
   have HBR := Lib.hid hbr
   have HFX := Lib.hid (hbr.fit HX.out fun f ⟨b, hb, e⟩ => by rw [e]; exact HF.out b (List.mem_of_mem_take hb))
   have hfew := hat.few HAR.out HFX.out
   clear hbs hne hxs h24 hat hkp hkw hbr hx hm7 hxl hlc
   go_upto_region 4 with fail
   have RF := Lib.hid (show RdInts wr g (.slice A2 aa.length c2) aa from H2.out.below HKP.out.below (Nat.le_refl _))
   have HGV := Lib.hid (show GrAt wr.drew g X' E o e R' from HAT.out.drew)
   have HKV := Lib.hid (show KeepR g w1 R wr.drew R' from HKP1.out.drew)
   have q0 : wr.cell? ⟨bx, 0, none⟩ = some (.int .i64 p) := XR.out.1.cell 0
   have q1 : wr.cell? ⟨bx, 1, none⟩ = some (.slice A2 aa.length c2) := XR.out.1.cell 1
   obtain ⟨SS, hSS⟩ : ∃ SS : World -> Prop, SS = (fun W => Below wr.heap.size wr W /\ W.cell? ⟨bx, 0, none⟩ = some (.int .i64 p) /\ W.cell? ⟨bx, 1, none⟩ = some (.slice A2 aa.length c2)) := ⟨_, rfl⟩
   have HB := Lib.hid (show ∀ W, SS W -> (Below wr.heap.size wr W /\ W.cell? ⟨bx, 0, none⟩ = some (.int .i64 p) /\ W.cell? ⟨bx, 1, none⟩ = some (.slice A2 aa.length c2)) from by rw [hSS]; exact fun W hW => hW)
   have HS := Lib.hid (show ∀ W, Below wr.heap.size wr W -> SS W from by
    rw [hSS]
    exact fun W hW => ⟨hW, (hW.cell (World.block_lt_of_cell? _ _ q0)).trans q0, (hW.cell (World.block_lt_of_cell? _ _ q1)).trans q1⟩)
   clear hSS
   have BB : Below wr.heap.size wr wr.drew := (Below.refl _ _).drew
   have SB := HS.out _ BB
   refine wp_region_rel SS 9 10 (by kernel_rfl) rfl ?_
   refine wpAnyR_pure (i := 0) (oi := _) ?va0 rfl rfl (by kernel_rfl) (by decide) (fun _ _ _ h => h) rfl ?hya0 (fun _ => SB) ?resta0
   case hya0 => (intro W; go_simp; (try with_reducible rfl))
   try simp only [List.setIfInBounds_toArray, List.set_cons_zero, List.set_cons_succ]
   refine wpAnyR_pure (i := 1) (oi := _) ?va1 rfl rfl (by kernel_rfl) (by decide) (fun _ _ _ h => h) rfl ?hya1 (fun _ => SB) ?resta1
   case hya1 => (intro W; go_simp; (try with_reducible rfl))
   try simp only [List.setIfInBounds_toArray, List.set_cons_zero, List.set_cons_succ]
   refine wpAnyR_pure (i := 2) (oi := _) ?va2 rfl rfl (by kernel_rfl) (by decide) (fun _ _ _ h => h) rfl ?hya2 (fun _ => SB) ?resta2
   case hya2 => (intro W; go_simp; (try with_reducible rfl))
   try simp only [List.setIfInBounds_toArray, List.set_cons_zero, List.set_cons_succ]
   refine wpAnyR_pure (i := 3) (oi := _) ?va3 rfl rfl (by kernel_rfl) (by decide) (fun _ _ _ h => h) rfl ?hya3 (fun _ => SB) ?resta3
   case hya3 => (intro W; go_simp; (try with_reducible rfl))
   try simp only [List.setIfInBounds_toArray, List.set_cons_zero, List.set_cons_succ]
   refine wpAnyR_take (i := 4) (oi := _) ?va4 rfl rfl (by kernel_rfl) (fun _ _ _ h => h) rfl ?hya4 SB ?resta4
   case hya4 => (intro W hW; obtain ⟨_, E0, E1⟩ := HB.out W hW; go_simp; (try with_reducible rfl))
   try simp only [List.setIfInBounds_toArray, List.set_cons_zero, List.set_cons_succ]
   refine wpAnyR_pure (i := 5) (oi := _) ?va5 rfl rfl (by kernel_rfl) (by decide) (fun _ _ _ h => h) rfl ?hya5 (fun _ => SB) ?resta5
   case hya5 => (intro W; go_simp; (try with_reducible rfl))
   try simp only [List.setIfInBounds_toArray, List.set_cons_zero, List.set_cons_succ]
   refine wpAnyR_pure (i := 6) (oi := _) ?va6 rfl rfl (by kernel_rfl) (by decide) (fun _ _ _ h => h) rfl ?hya6 (fun _ => SB) ?resta6
   case hya6 => (intro W; go_simp; (try with_reducible rfl))
   try simp only [List.setIfInBounds_toArray, List.set_cons_zero, List.set_cons_succ]
   refine wpAnyR_take (i := 7) (oi := _) ?va7 rfl rfl (by kernel_rfl) (fun _ _ _ h => h) rfl ?hya7 SB ?resta7
   case hya7 => (intro W hW; obtain ⟨_, E0, E1⟩ := HB.out W hW; go_simp; (try with_reducible rfl))
   try simp only [List.setIfInBounds_toArray, List.set_cons_zero, List.set_cons_succ]
   refine wpAnyR_one (i := 8) (by kernel_rfl) rfl (fun K hK => ?_)
   try rw [if_pos (show Region.wanted _ _ = true from rfl)]
   go_simp
   have CN := number_any (.slice A2 aa.length c2) bs aa HBK.out HT.out g wr.drew (RF.out.below BB (Nat.le_of_lt hglr)) (by rw [<- HXS.out]; exact HXL.out) hal
   rw [<- HM7.out, <- HXS.out, <- HNE.out] at CN
   refine CN.mono ?_
   clear CN
   rintro e5 W5 ⟨rfl, rfl⟩
   refine hK.out _ _ (fun _ => SB) ?_
   clear hK K
   try simp only [List.setIfInBounds_toArray, List.set_cons_zero, List.set_cons_succ, Act.put]
   refine wpAnyR_one (i := 9) (by kernel_rfl) rfl (fun K hK => ?_)
   try rw [if_pos (show Region.wanted _ _ = true from rfl)]
   go_simp
   refine (addG_any g p n _ _ _ _ _ _ _ _ HGV.out.raw hp24 hn64).mono ?_
   rintro e6 W6 ⟨rfl, ht6, ho6⟩
   have H6 := Lib.hid (And.intro ht6 ho6)
   clear ht6 ho6
   refine hK.out _ _ (fun hf => absurd hf (by decide)) ?_
   clear hK K
   try simp only [List.setIfInBounds_toArray, List.set_cons_zero, List.set_cons_succ, Act.put]
   refine wpAnyR_done (by kernel_rfl) ?_
   clear SB HB HS BB
   have X6 := Lib.hid (show Blk W6 bx 53 #[.int .i64 p, .slice A2 aa.length c2] /\ bx < W6.heap.size from ⟨(H6.out.2.keep bx XR.out.2.1 (by have := HBX.out.1; omega) XR.out.2.2).trans XR.out.1, Nat.lt_of_lt_of_le XR.out.2.1 H6.out.2.below.size⟩)
   have hbit := bit_fact HAR.out HFX.out.fits HCF.out
   simp only [Int.toNat_natCast] at hbit
   rw [<- HNE.out] at hbit
   clear q0 q1 hck
   cases hb : ((tabWith zeroT (factsX X')).getD p 0).testBit n
   ·have hnot : ((p : Int), xs) ∉ factsX X' := fun hc => by rw [hbit.2 hc] at hb; cases hb
    have HNOT := Lib.hid hnot
    have HG6 := Lib.hid (show GrRaw W6 g X' E (ofX X') (cntX X' o) (cntX X' e) (setBit (tabWith zeroT (factsX X')) p n) R' from H6.out.1)
    have hg6 : g < W6.heap.size := HG6.out.lt
    have RF6 := Lib.hid (show RdInts W6 g (.slice A2 aa.length c2) aa from (RF.out.below (show Below wr.heap.size wr wr.drew from (Below.refl _ _).drew) (Nat.le_of_lt hglr)).below H6.out.2.below (Nat.le_refl _))
    have q0 : W6.cell? ⟨bx, 0, none⟩ = some (.int .i64 p) := X6.out.1.cell 0
    have q1 : W6.cell? ⟨bx, 1, none⟩ = some (.slice A2 aa.length c2) := X6.out.1.cell 1
    clear hnot hbit hb
    go_upto_region 5 with fail
    obtain ⟨SS, hSS⟩ : ∃ SS : World -> Prop, SS = (fun W => Below W6.heap.size W6 W /\ W.cell? ⟨bx, 0, none⟩ = some (.int .i64 p) /\ W.cell? ⟨bx, 1, none⟩ = some (.slice A2 aa.length c2)) := ⟨_, rfl⟩
    have HB := Lib.hid (show ∀ W, SS W -> (Below W6.heap.size W6 W /\ W.cell? ⟨bx, 0, none⟩ = some (.int .i64 p) /\ W.cell? ⟨bx, 1, none⟩ = some (.slice A2 aa.length c2)) from by rw [hSS]; exact fun W hW => hW)
    have HS := Lib.hid (show ∀ W, Below W6.heap.size W6 W -> SS W from by
     rw [hSS]
     exact fun W hW => ⟨hW, (hW.cell (World.block_lt_of_cell? _ _ q0)).trans q0, (hW.cell (World.block_lt_of_cell? _ _ q1)).trans q1⟩)
    clear hSS
    have BB : Below W6.heap.size W6 W6.drew := (Below.refl _ _).drew
    have SB := HS.out _ BB
    refine wp_region_rel SS 8 9 (by kernel_rfl) rfl ?_
    refine wpAnyR_pure (i := 0) (oi := _) ?vb0 rfl rfl (by kernel_rfl) (by decide) (fun _ _ _ h => h) rfl ?hyb0 (fun _ => SB) ?restb0
    case hyb0 => (intro W; go_simp; (try with_reducible rfl))
    try simp only [List.setIfInBounds_toArray, List.set_cons_zero, List.set_cons_succ]
    refine wpAnyR_pure (i := 1) (oi := _) ?vb1 rfl rfl (by kernel_rfl) (by decide) (fun _ _ _ h => h) rfl ?hyb1 (fun _ => SB) ?restb1
    case hyb1 => (intro W; go_simp; (try with_reducible rfl))
    try simp only [List.setIfInBounds_toArray, List.set_cons_zero, List.set_cons_succ]
    refine wpAnyR_take (i := 2) (oi := _) ?vb2 rfl rfl (by kernel_rfl) (fun _ _ _ h => h) rfl ?hyb2 SB ?restb2
    case hyb2 => (intro W hW; obtain ⟨_, E0, E1⟩ := HB.out W hW; go_simp; (try with_reducible rfl))
    try simp only [List.setIfInBounds_toArray, List.set_cons_zero, List.set_cons_succ]
    refine wpAnyR_pure (i := 3) (oi := _) ?vb3 rfl rfl (by kernel_rfl) (by decide) (fun _ _ _ h => h) rfl ?hyb3 (fun _ => SB) ?restb3
    case hyb3 => (intro W; go_simp; (try with_reducible rfl))
    try simp only [List.setIfInBounds_toArray, List.set_cons_zero, List.set_cons_succ]
    refine wpAnyR_pure (i := 4) (oi := _) ?vb4 rfl rfl (by kernel_rfl) (by decide) (fun _ _ _ h => h) rfl ?hyb4 (fun _ => SB) ?restb4
    case hyb4 => (intro W; go_simp; (try with_reducible rfl))
    try simp only [List.setIfInBounds_toArray, List.set_cons_zero, List.set_cons_succ]
    refine wpAnyR_take (i := 5) (oi := _) ?vb5 rfl rfl (by kernel_rfl) (fun _ _ _ h => h) rfl ?hyb5 SB ?restb5
    case hyb5 => (intro W hW; obtain ⟨_, E0, E1⟩ := HB.out W hW; go_simp; (try with_reducible rfl))
    try simp only [List.setIfInBounds_toArray, List.set_cons_zero, List.set_cons_succ]
    refine wpAnyR_one (i := 6) (by kernel_rfl) rfl (fun K hK => ?_)
    try rw [if_pos (show Region.wanted _ _ = true from rfl)]
    go_simp
    have CV := values_any (.slice A2 aa.length c2) bs aa HBK.out HT.out W6.drew ((RF6.out.below BB (Nat.le_of_lt hg6)).more (Nat.le_of_lt hg6)) (by omega)
    rw [<- HM7.out, <- HXS.out] at CV
    refine CV.mono ?_
    clear CV
    rintro e8 W8 ⟨A8, c8, rfl, o8, b8⟩
    have H8 := Lib.hid (And.intro o8 b8)
    clear o8 b8
    have SB8 := HS.out W8 (bthen BB H8.out.2)
    refine hK.out _ _ (fun _ => SB8) ?_
    clear hK K
    try simp only [List.setIfInBounds_toArray, List.set_cons_zero, List.set_cons_succ, Act.put]
    refine wpAnyR_pure (i := 7) (oi := _) ?vb7 rfl rfl (by kernel_rfl) (by decide) (fun _ _ _ h => h) rfl ?hyb7 (fun _ => SB8) ?restb7
    case hyb7 => (intro W; go_simp; (try with_reducible rfl))
    try simp only [List.setIfInBounds_toArray, List.set_cons_zero, List.set_cons_succ]
    refine wpAnyR_one (i := 8) (by kernel_rfl) rfl (fun K hK => ?_)
    try rw [if_pos (show Region.wanted _ _ = true from rfl)]
    go_simp
    have CT := take_any g p xs A8 c8 _ _ _ _ _ _ _ W8 (HG6.out.on (bthen BB H8.out.2)) hp24 (ArgOk.new HG6.out.drew (by rw [HXLN.out]; exact H8.out.1)) (by omega) (by have := ofX_le X' p; omega)
    rw [HXLN.out] at CT
    refine CT.mono ?_
    clear CT
    rintro e9 W9 ⟨rfl, R9, h9, k9⟩
    have H9 := Lib.hid (And.intro h9 ((KeepR.of_below (bthen BB H8.out.2) (Nat.le_of_lt hg6)).trans k9))
    clear h9 k9
    refine hK.out _ _ (fun hf => absurd hf (by decide)) ?_
    clear hK K
    try simp only [List.setIfInBounds_toArray, List.set_cons_zero, List.set_cons_succ, Act.put]
    refine wpAnyR_done (by kernel_rfl) ?_
    clear SB SB8 HB HS BB q0 q1
    go_wp2_with fail
    go_roundw
    case rel =>
     refine ⟨k + 1, X' ++ [(((p : Int), xs), .slice A8 aa.length c8)], R9, by omega, by go_num, ⟨?_, HAT.out.oe, by have := HAT.out.eL; simp; omega⟩, HKV.out.trans (H6.out.2.trans H9.out.2), ?_⟩
     ·have h7 := H9.out.1
      rw [ofX_push, <- cntX_push X' (((p : Int), xs), .slice A8 aa.length c8) (Nat.le_trans HAT.out.oe HAT.out.eL), <- cntX_push X' (((p : Int), xs), .slice A8 aa.length c8) HAT.out.eL] at h7
      rw [factsX_append, show factsX [((((p : Int), xs), Value.slice A8 aa.length c8) : FV)] = [((p : Int), xs)] from rfl, tabWith_snoc, Int.toNat_natCast, <- HNE.out]
      exact h7
     ·rw [factsX_append, HTK.out]
      refine HBR.out.trans (Brings.step HFX.out.nodup HNOT.out) fun f => ?_
      rw [HXS.out]
      simp
    case measure => simp [intOf]; omega
   ·have hin : ((p : Int), xs) ∈ factsX X' := hbit.1 hb
    have HIN := Lib.hid hin
    have HBT := Lib.hid hb
    clear hin hbit hb
    go_wp2_with fail
    go_roundw
    case rel =>
     refine ⟨k + 1, X', R', by omega, by go_num, ⟨?_, HAT.out.oe, HAT.out.eL⟩, HKV.out.trans H6.out.2, ?_⟩
     ·have h6 := H6.out.1
      rw [setBit_same (by rw [HAT.out.raw.tl]; exact hp24) HBT.out] at h6
      exact h6
     ·rw [HTK.out]
      refine HBR.out.trans (Brings.refl HFX.out.nodup (X := fun f => f = ((p : Int), xs)) fun f hf => by rw [hf]; exact HIN.out) fun f => ?_
      rw [HXS.out]
      simp
    case measure => simp [intOf]; omega
  ·have HFIN := Lib.hid (show GrAt wr g X' E o e R' /\ KeepR g w1 R wr R' /\ Brings (factsX X) (fun f => ∃ b ∈ S, f = ((p : Int), aa.map (termVal b))) (factsX X') from by
    rw [show k = S.length by omega, List.take_length] at hbr
    exact ⟨hat, hkp, hbr⟩)
   clear hat hkp hbr
   go_wp2_with fail
   go_end0
   exact ⟨rfl, _, _, HFIN.out.1, HK1.out.trans HFIN.out.2.1, HFIN.out.2.2⟩
open Go.RowKit
abbrev AV := Value × Value × Value
def flatA : List AV -> List Value
 | [] => []
 | u :: us => u.1 :: u.2.1 :: u.2.2 :: flatA us
theorem flatA_length : ∀ us : List AV, (flatA us).length = us.length * 3
 | [] => rfl
 | u :: us => by simp only [flatA, List.length_cons, flatA_length us]; omega
theorem flatA_append : ∀ us vs : List AV, flatA (us ++ vs) = flatA us ++ flatA vs
 | [], vs => rfl
 | u :: us, vs => by simp only [List.cons_append, flatA, flatA_append us vs]
theorem flatA_at : ∀ (us : List AV) (k : Nat) (h : k < us.length), (flatA us)[k * 3]? = some us[k].1 /\ (flatA us)[k * 3 + 1]? = some us[k].2.1 /\ (flatA us)[k * 3 + 2]? = some us[k].2.2
 | u :: us, 0, _ => ⟨rfl, rfl, rfl⟩
 | u :: us, k + 1, h => by
  have ih := flatA_at us k (by simpa using h)
  have e : ∀ r, (flatA (u :: us))[(k + 1) * 3 + r]? = (flatA us)[k * 3 + r]? := fun r => by
   rw [show (k + 1) * 3 + r = (k * 3 + r) + 1 + 1 + 1 by omega]
   rfl
  have e0 := e 0
  rw [Nat.add_zero, Nat.add_zero] at e0
  rw [e0, e 1, e 2]
  exact ih
def AtA (w : World) (g c : Nat) (us : List AV) : Prop :=
 ∃ cur, w.heap[g]? = some (.cells cur 301 (0, 0)) /\ us.length <= c /\ c <= maxLen /\ cur.size = c * 3 /\ cur.toList.take (us.length * 3) = flatA us
def RdAges (w : World) (B : Nat) (us : List AV) (ag : List LAge) : Prop := us.length = ag.length /\ ∀ k (h : k < us.length) (h2 : k < ag.length), RdFacts w B us[k].1 ag[k].1 /\ RdFacts w B us[k].2.1 ag[k].2.1 /\ RdFacts w B us[k].2.2 ag[k].2.2
section
variable {w w' : World} {g c lo hi B : Nat} {us : List AV} {ag : List LAge}
theorem AtA.lt (h : AtA w g c us) : g < w.heap.size := by
 obtain ⟨cur, hg, _⟩ := h
 exact Blk.lt hg
theorem AtA.cells (h : AtA w g c us) {k : Nat} (hk : k < us.length) : w.cell? ⟨g, k * 3, none⟩ = some us[k].1 /\ w.cell? ⟨g, k * 3 + 1, none⟩ = some us[k].2.1 /\ w.cell? ⟨g, k * 3 + 2, none⟩ = some us[k].2.2 := by
 obtain ⟨a, b, d⟩ := flatA_at us k hk
 obtain ⟨cur, hg, h1, h2, h3, h4⟩ := h
 have key : ∀ j, j < us.length * 3 -> w.cell? ⟨g, j, none⟩ = (flatA us)[j]? := fun j hj => by
  rw [Blk.cell hg, <- h4, List.getElem?_take_of_lt hj, Array.getElem?_toList]
 exact ⟨by rw [key _ (by omega), a], by rw [key _ (by omega), b], by rw [key _ (by omega), d]⟩
theorem AtA.frozen (h : AtA w g c us) (j : Nat) : w.frozen? ⟨g, j, none⟩ = false := by
 obtain ⟨cur, hg, _⟩ := h
 exact Blk.frozen hg j
theorem AtA.below (h : AtA w g c us) (hb : Below B w w') (hg : g < B) : AtA w' g c us := by
 obtain ⟨cur, e, r⟩ := h
 exact ⟨cur, (hb.block g hg).trans e, r⟩
theorem AtA.free (h : AtA w g c us) {j : Nat} (hj : j < c * 3) : ∃ x, w.cell? ⟨g, j, none⟩ = some x := by
 obtain ⟨cur, hg, h1, h2, h3, h4⟩ := h
 exact ⟨cur[j]'(by omega), by rw [Blk.cell hg, Array.getElem?_eq_getElem]⟩
theorem AtA.made (w : World) (cs : Array Value) (n : Nat) (hs : cs.size = n * 3) (hm : n <= maxLen) : AtA (w.alloc (.cells cs 301)) w.heap.size n [] :=
 ⟨cs, Blk.new _ _ _, Nat.zero_le _, hm, hs, by simp [flatA]⟩
theorem AtA.push (h : AtA w g c us) (hl : us.length < c) (u : AV) :
 AtA (w.setCells g (us.length * 3) [u.1, u.2.1, u.2.2]) g c (us ++ [u]) /\ Only g (g + 1) w (w.setCells g (us.length * 3) [u.1, u.2.1, u.2.2]) := by
 obtain ⟨cur, hg, h1, h2, h3, h4⟩ := h
 have hfl := flatA_length us
 obtain ⟨cur', g1, g2, g3, g4⟩ := setCells_all g [u.1, u.2.1, u.2.2] (us.length * 3) w cur _ hg (by simp; omega)
 refine ⟨⟨cur', g1, by simp; omega, h2, by omega, ?_⟩, g4⟩
 rw [flatA_append]
 apply List.ext_getElem?
 intro j
 rw [List.length_append, List.length_singleton]
 by_cases hj : j < (us.length + 1) * 3
 ·rw [List.getElem?_take_of_lt hj, Array.getElem?_toList, g3 j]
  by_cases hj2 : j < us.length * 3
  ·rw [if_neg (by simp; omega), List.getElem?_append_left (by omega), <- h4, List.getElem?_take_of_lt hj2, Array.getElem?_toList]
  ·rw [if_pos (by simp; omega), List.getElem?_append_right (by omega), hfl]
   rfl
 ·rw [List.getElem?_eq_none (by simp; omega), List.getElem?_eq_none (by simp [flatA, hfl]; omega)]
theorem RdAges.below {B' : Nat} (h : RdAges w B us ag) (hb : Below B' w w') (hB : B <= B') : RdAges w' B us ag := ⟨h.1, fun k h1 h2 => by
 obtain ⟨a, b, d⟩ := h.2 k h1 h2
 exact ⟨a.below hb hB, b.below hb hB, d.below hb hB⟩⟩
theorem RdAges.more {B' : Nat} (h : RdAges w B us ag) (hB : B <= B') : RdAges w B' us ag := ⟨h.1, fun k h1 h2 => by
 obtain ⟨a, b, d⟩ := h.2 k h1 h2
 exact ⟨a.more hB, b.more hB, d.more hB⟩⟩
theorem RdAges.snoc {u : AV} {a : LAge} (h : RdAges w B us ag) (h1 : RdFacts w B u.1 a.1) (h2 : RdFacts w B u.2.1 a.2.1) (h3 : RdFacts w B u.2.2 a.2.2) : RdAges w B (us ++ [u]) (ag ++ [a]) := by
 refine ⟨by simp [h.1], fun k k1 k2 => ?_⟩
 by_cases e : k < us.length
 ·have e' : k < ag.length := by rw [<- h.1]; exact e
  rw [List.getElem_append_left e, List.getElem_append_left e']
  exact h.2 k e e'
 ·have e2 : k = us.length := by simp at k1; omega
  subst e2
  have l1 := h.1
  have x1 : (us ++ [u])[us.length]'k1 = u := by simp
  have x2 : (ag ++ [a])[us.length]'k2 = a := by simp [l1]
  rw [x1, x2]
  exact ⟨h1, h2, h3⟩
end
theorem Tryz.infoAges : (Tryz.prog.info? 301).map (fun i => (i.zero, i.size, i.bytes)) = some (some (.agg #[.slice none 0 0, .slice none 0 0, .slice none 0 0]), 3, 72) := by kernel_rfl
theorem rdX_mid {w : World} {g : Nat} {R : Nat -> Value} {X : List FV} {A : Option Addr} {c : Nat} (h : w.ownsRow (g + 1) 66 2 (.slice A X.length c) X.length (flatX X)) (ha : ∀ x ∈ X, ArgOk w g R x) {a b : Nat} (hab : a <= b) (hb : b <= X.length) :
 RdFacts w w.heap.size (.slice (if c = a then A else A.map (·.add (a * 2))) (b - a) (c - a)) (((factsX X).take b).drop a) := by
 have hl : (((factsX X).take b).drop a).length = b - a := by simp [factsX]; omega
 have hcells := @World.ownsRow.cells w (g + 1) 66 2 _ X.length (flatX X) h
 have hXc : X.length <= c := by
  rcases h.2 with ⟨e, e0⟩ | ⟨b', cap, cur, e, _, _, h2, _⟩
  ·injection e with _ e2 e3; omega
  ·injection e with _ e2 e3; omega
 refine ⟨_, c - a, by rw [hl], by rw [hl]; omega, fun h0 => ?_⟩
 rw [hl] at h0
 rcases h.2 with ⟨e, e0⟩ | ⟨b', cap, cur, e, hb', hg, _⟩
 ·omega
 ·injection e with e1 _ _
  subst e1
  rw [if_neg (by omega)]
  refine ⟨b', 0 + a * 2, by simp [Addr.add]; (try omega), Blk.lt hg, fun k hk => ?_⟩
  have hkX : a + k < X.length := by rw [hl] at hk; omega
  obtain ⟨c0, c1⟩ := flatX_at X (a + k) hkX
  have d0 := hcells (g := b') rfl ((a + k) * 2) _ c0
  have d1 := hcells (g := b') rfl ((a + k) * 2 + 1) _ c1
  rw [Go.WideShapes.add_plain] at d0 d1
  have e3 : (((factsX X).take b).drop a)[k] = X[a + k].1 := by simp [factsX]
  rw [e3]
  refine ⟨X[a + k].2, ?_, ?_, (ha _ (List.getElem_mem hkX)).1⟩
  ·rw [show 0 + a * 2 + k * 2 = 0 + (a + k) * 2 by omega]; exact d0
  ·rw [show 0 + a * 2 + k * 2 + 1 = 0 + ((a + k) * 2 + 1) by omega]; exact d1
end Go.Proofs.YtmnolnmpglanfaaGreatDoor
