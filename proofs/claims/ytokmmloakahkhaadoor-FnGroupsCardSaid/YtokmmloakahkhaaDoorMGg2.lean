/-
  The law FnGroups: for every input the call returns true, and each argument reads behind it as it read before. Conditions: none but the row's own.
-/
import Derived.Test.YtokmmloakahkhaaDoorMLy1
import Derived.Test.YtokmmloakahkhaaDoorMLk2
import Derived.Test.YtokmmloakahkhaaDoorRows
import Derived.Test.YtokmmloakahkhaaDoorMLk1
import Derived.Test.YtokmmloakahkhaaDoorCards
import Derived.Test.YtokmmloakahkhaaDoorTie
import Derived.Lay
import Derived.SevenTiedAt
import Derived.Test.YtokmmloakahkhaaDoorMGg1
/-
  The walk of the law FnGroups.
-/
namespace Go.Proofs.YtokmmloakahkhaaDoor
open Go.RowKit

/-- What stands of the groups, checked program or none. -/
theorem groups_lim (p : LProg) : (∀ g ∈ groupsOfL p, ∀ x ∈ g, 0 ≤ x ∧ x.toNat < p.1.length) ∧ (∀ (i j : Nat) (hi : i < (groupsOfL p).length) (hj : j < (groupsOfL p).length), ∀ x ∈ (groupsOfL p)[i], x ∈ (groupsOfL p)[j] → i = j) ∧ ((groupsOfL p).map List.length).sum = (reachG p).length ∧ (groupsOfL p).length ≤ 24 ∧ ∀ g ∈ groupsOfL p, g.length ≤ 24 := by
  by_cases h : progOk p = true
  · have hA := groups_are h
    have hn := (asksOf_fits h).1
    refine ⟨hA.lim, hA.one, ?_, ?_, ?_⟩
    · rw [hA.many]; unfold reachG; rw [if_pos h]
    · unfold groupsOfL
      rw [if_pos h]
      have := runG_len (fwM (askT p) p.1.length) p.1.length p.1.length
      unfold groupsG
      rw [List.length_map]
      omega
    · intro g hg
      unfold groupsOfL at hg
      rw [if_pos h] at hg
      obtain ⟨q, _, rfl⟩ := List.mem_map.1 hg
      have := grpI_len (fwM (askT p) p.1.length) q p.1.length
      omega
  · have e := groups_no (p := p) (by simpa using h)
    rw [e]
    refine ⟨fun g hg => (by cases hg), fun i j hi => (by simp at hi), ?_, by simp, fun g hg => (by cases hg)⟩
    unfold reachG
    rw [if_neg h]
    rfl
where
  runG_len (T : Nat → Nat → Bool) (n : Nat) : ∀ r, (runG T n r).2.length ≤ r
    | 0 => by simp [runG]
    | r + 1 => by
      have ih := runG_len T n r
      unfold runG
      split
      · simp; omega
      · omega
/-- Where the groups stand, group by group. -/
def AtG (G : List (List Int)) (F : Nat → Nat) (j m : Nat) : Prop := (∀ (i : Nat) (hi : i < G.length), i < j → ∀ x ∈ G[i], F x.toNat = i) ∧ ∀ hj : j < G.length, ∀ x ∈ G[j].take m, F x.toNat = j
theorem AtG.next {G : List (List Int)} {F : Nat → Nat} {j : Nat} (hj : j < G.length) (h : AtG G F j G[j].length) : AtG G F (j + 1) 0 := by
  refine ⟨fun i hi hij x hx => ?_, fun hj2 x hx => by simp at hx⟩
  by_cases e : i = j
  · subst e
    have := h.2 hi x
    rw [List.take_length] at this
    exact this hx
  · exact h.1 i hi (by omega) x hx
theorem AtG.step {G : List (List Int)} {F : Nat → Nat} {j m : Nat} (hj : j < G.length) (hm : m < G[j].length) (hn : ∀ g ∈ G, ∀ x ∈ g, (0 : Int) ≤ x) (ho : ∀ (i j : Nat) (hi : i < G.length) (hj : j < G.length), ∀ x ∈ G[i], x ∈ G[j] → i = j) (h : AtG G F j m) : AtG G (fun k => if k = G[j][m].toNat then j else F k) j (m + 1) := by
  refine ⟨fun i hi hij x hx => ?_, fun hj2 x hx => ?_⟩
  · have hne : x.toNat ≠ G[j][m].toNat := fun e => by
      have h1 := hn _ (List.getElem_mem hi) x hx
      have h2 := hn _ (List.getElem_mem hj) _ (List.getElem_mem hm)
      have : x = G[j][m] := by omega
      subst this
      have := ho i j hi hj _ hx (List.getElem_mem hm)
      omega
    show (if x.toNat = G[j][m].toNat then j else F x.toNat) = i
    rw [if_neg hne]
    exact h.1 i hi hij x hx
  · show (if x.toNat = G[j][m].toNat then j else F x.toNat) = j
    split
    · rfl
    · rename_i hne
      rw [List.take_succ_eq_append_getElem hm] at hx
      rcases List.mem_append.1 hx with hx | hx
      · exact h.2 hj x hx
      · rw [List.mem_singleton.1 hx] at hne
        exact absurd rfl hne
def manyG (G : List (List Int)) (j : Nat) : Nat := ((G.take j).map List.length).sum
theorem manyG_step (G : List (List Int)) {j : Nat} (h : j < G.length) : manyG G (j + 1) = manyG G j + G[j].length := by
  unfold manyG
  rw [take_snoc G j h, List.map_append, List.sum_append]
  simp
theorem manyG_le (G : List (List Int)) (hg : ∀ g ∈ G, g.length ≤ 24) (j : Nat) : manyG G j ≤ 24 * j := by
  have h : ∀ l : List (List Int), (∀ g ∈ l, g.length ≤ 24) → (l.map List.length).sum ≤ l.length * 24 := fun l => by
    induction l with
    | nil => intro _; simp
    | cons x l ih =>
      intro h
      have h1 := ih fun g hg => h g (List.mem_cons_of_mem _ hg)
      have h2 := h x List.mem_cons_self
      simp only [List.map_cons, List.sum_cons, List.length_cons]
      omega
  have h1 := h (G.take j) fun g hg' => hg g (List.mem_of_mem_take hg')
  have h2 : (G.take j).length ≤ j := by simp; omega
  unfold manyG
  omega

set_option maxHeartbeats 8000000 in
set_option maxRecDepth 100000 in
theorem lawPlainGroups_any (v : Value) (code : List Nat) (w : World) (hr : RdBytes w w.heap.size v code) (_ : code.length ≤ maxLen) (hby : ∀ b ∈ code, b < 256) (hT : Tab w) :
    Calls Tryd.prog 5 #[v] w fun e w' => e = .returned (.bool true) ∧ Below w.heap.size w w' := by
  have HV := Lib.hid hr
  have HT := Lib.hid hT
  obtain ⟨Av, cv, rfl, hcv, _⟩ := hr
  clear hT
  go_enter Tryd.func5, Tryd.ntmps5
  by_cases hbig : 1048576 < code.length
  · have hd : decide ((1048576 : Int) < code.length) = true := by simp; omega
    go_wp2_with (fail)
    go_ret
    exact ⟨rfl, Below.refl _ _⟩
  have hd : decide ((1048576 : Int) < code.length) = false := by simp; omega
  have hbn : code.length ≤ 1073741824 := by omega
  go_upto_region 4 with (go_at_call 19; refine (drawGroupsOf_any _ code w HV.out hby hbn).mono ?_
                         rintro e w1 ⟨u, p, rfl, hdp, B1⟩
                         obtain ⟨A, A2, c, c2, rfl, ra, rr⟩ := hdp.rd
                         have hsz := hdp.sz
                         clear hdp)
  have HSZ := Lib.hid (show szP p ≤ 1048576 by omega)
  have hpn : p.1.length ≤ 100 := by unfold szP at hsz; omega
  obtain ⟨w2, hw2⟩ : ∃ w2, w2 = w1.alloc (Obj.cells #[Value.slice A p.1.length c, Value.slice A2 p.2.length c2] 26) := ⟨_, rfl⟩
  have b2 : Below w1.heap.size w1 w2 := by rw [hw2]; exact below1 _ _
  have BX : Blk w2 w1.heap.size 26 #[.slice A p.1.length c, .slice A2 p.2.length c2] := by rw [hw2]; exact Blk.new _ _ _
  rw [← hw2]
  clear hw2
  obtain ⟨D, hD⟩ : ∃ D, D = w1.heap.size := ⟨_, rfl⟩
  rw [← hD] at BX ⊢
  clear hD
  have B2 := Lib.hid (bthen B1 b2)
  have HPR := Lib.hid (show ∀ W, Below w2.heap.size w2 W → RdProg W W.heap.size (.agg #[.slice A p.1.length c, .slice A2 p.2.length c2]) p from fun W hW => ⟨_, _, rfl, (ra.on b2).on hW, (rr.on b2).on hW⟩)
  have HBX := Lib.hid (show ∀ W, Below w2.heap.size w2 W → W.cell? ⟨D, 0, none⟩ = some (.slice A p.1.length c) ∧ W.cell? ⟨D, 1, none⟩ = some (.slice A2 p.2.length c2) from fun W hW => ⟨(BX.below hW BX.lt).cell 0, (BX.below hW BX.lt).cell 1⟩)
  have HTT := Lib.hid (show ∀ W, Below w2.heap.size w2 W → Tab W from fun W hW => HT.out.below (bthen B2.out hW))
  obtain ⟨x0, x1⟩ := HBX.out _ (Below.refl _ _)
  have hDl := BX.lt
  obtain ⟨G, hG⟩ : ∃ G, G = groupsOfL p := ⟨_, rfl⟩
  have HG := Lib.hid hG
  have HLIM := Lib.hid (groups_lim p)
  rw [← hG] at HLIM
  have hgl : G.length ≤ 24 := HLIM.out.2.2.2.1
  have CG := Lib.hid (implGroupsOf_any _ p w2 (HPR.out _ (Below.refl _ _)) HSZ.out (HTT.out _ (Below.refl _ _)))
  have CSG := Lib.hid (fun W (hW : Below w2.heap.size w2 W) => specGroupsOf_any _ p W (HPR.out _ hW) HSZ.out)
  rw [← hG] at CG CSG
  clear hG BX b2 B1 ra rr hsz
  go_upto_region 5 with (go_at_call 20; refine CG.out.mono ?_; rintro e w3 ⟨A3, c3, rfl, o3, b3⟩)
  have B3 := Lib.hid b3
  have HG3 := Lib.hid o3.rd
  clear x0 x1 o3
  obtain ⟨x0, x1⟩ := HBX.out _ b3
  obtain ⟨R, hR⟩ : ∃ R, R = reachG p := ⟨_, rfl⟩
  have HR := Lib.hid hR
  have hrf := reachG_few p
  rw [← hR] at hrf
  have CRI := Lib.hid (implReachesG_any _ p w3 (HPR.out _ b3) HSZ.out (HTT.out _ b3))
  have CRS := Lib.hid (fun W (hW : Below w2.heap.size w2 W) => specReachesG_any _ p W (HPR.out _ hW) HSZ.out)
  rw [← hR] at CRI CRS
  clear hR b3
  obtain ⟨hrl24, hrn24⟩ := hrf
  go_upto_region 6 with (go_at_call 14; refine CRI.out.mono ?_; rintro e w4 ⟨A4, c4, rfl, o4, b4⟩)
  have B4 := Lib.hid (bthen B3.out b4)
  have HG4 := Lib.hid (HG3.out.on b4)
  have HR4 := Lib.hid o4
  clear x0 x1 o4 b4
  obtain ⟨K, hK⟩ : ∃ K, K = linksOf p := ⟨_, rfl⟩
  have CLI := Lib.hid (fun W (hW : Below w2.heap.size w2 W) => implLinksOf_any _ p W (HPR.out _ hW) HSZ.out (HTT.out _ hW))
  have CLS := Lib.hid (fun W (hW : Below w2.heap.size w2 W) => specLinksOf_any _ p W (HPR.out _ hW) HSZ.out)
  rw [← hK] at CLI CLS
  clear hK
  have hn1 : ((R.length : Int) != (R.length : Int)) = false := by simp
  have hn2 : ((K.length : Int) != (K.length : Int)) = false := by simp
  obtain ⟨SS, hSS⟩ : ∃ SS : World → Prop, SS = (fun W => W.cell? ⟨D, 0, none⟩ = some (.slice A p.1.length c) ∧ W.cell? ⟨D, 1, none⟩ = some (.slice A2 p.2.length c2)) := ⟨_, rfl⟩
  have HB := Lib.hid (show ∀ W, SS W → W.cell? ⟨D, 0, none⟩ = some (.slice A p.1.length c) ∧ W.cell? ⟨D, 1, none⟩ = some (.slice A2 p.2.length c2) from by rw [hSS]; exact fun W hW => hW)
  have HC := Lib.hid (show ∀ W, Below w2.heap.size w2 W → SS W from by rw [hSS]; exact fun W hW => HBX.out W hW)
  clear hSS
  refine wp_region_rel SS 21 22 (by kernel_rfl) rfl ?_
  have B4d := Lib.hid (bthen B4.out (Below.refl _ w4).drew)
  have BB4 := Lib.hid (show Below w4.heap.size w4 w4.drew from (Below.refl _ w4).drew)
  obtain ⟨wy, hwy⟩ : ∃ wy, wy = w4.drew := ⟨_, rfl⟩
  rw [← hwy] at B4d BB4 ⊢
  clear hwy
  have S0 := HC.out _ B4d.out
  refine wpAnyR_pure (i := 0) (oi := _) ?va0 rfl rfl (by kernel_rfl) (by decide) (fun _ _ _ h => h) rfl ?hya0 (fun _ => S0) ?resta0
  case hya0 => (intro W; go_simp; (try with_reducible rfl))
  try simp only [List.setIfInBounds_toArray, List.set_cons_zero, List.set_cons_succ]
  refine wpAnyR_take (i := 1) (oi := _) ?va1 rfl rfl (by kernel_rfl) (fun _ _ _ h => h) rfl ?hya1 S0 ?resta1
  case hya1 => (intro W hW; obtain ⟨d0, d1⟩ := HB.out W hW; go_simp; (try with_reducible rfl))
  try simp only [List.setIfInBounds_toArray, List.set_cons_zero, List.set_cons_succ]
  refine wpAnyR_one (i := 2) (by kernel_rfl) rfl (fun K hK => ?_)
  try rw [if_pos (show Region.wanted _ _ = true from rfl)]
  go_simp
  refine (CSG.out _ B4d.out).mono ?_
  rintro e w6 ⟨A6, c6, rfl, o6, b6⟩
  have B6 := Lib.hid (bthen B4d.out b6)
  have BB6 := Lib.hid (bthen BB4.out b6)
  have HW6 := Lib.hid o6.rd
  have S1 := HC.out _ B6.out
  clear o6 b6
  refine hK.out _ _ (fun _ => S1) ?_
  clear hK K
  try simp only [List.setIfInBounds_toArray, List.set_cons_zero, List.set_cons_succ, Act.put]
  refine wpAnyR_one (i := 3) (by kernel_rfl) rfl (fun K hK => ?_)
  try rw [if_pos (show Region.wanted _ _ = true from rfl)]
  go_simp
  refine (wrRows_any (.slice A3 G.length c3) (.slice A6 G.length c6) G w6 (HG4.out.on BB6.out) HW6.out (by omega) (fun g hg => by have := HLIM.out.2.2.2.2 g hg; omega)).mono ?_
  rintro e w7 ⟨rfl, b7⟩
  have B7 := Lib.hid (bthen B6.out b7)
  have BB7 := Lib.hid (bthen BB6.out b7)
  have S2 := HC.out _ B7.out
  clear b7
  refine hK.out _ _ (fun _ => S2) ?_
  clear hK K
  try simp only [List.setIfInBounds_toArray, List.set_cons_zero, List.set_cons_succ, Act.put]
  refine wpAnyR_pure (i := 4) (oi := _) (.bool false) rfl rfl (by kernel_rfl) (by decide) (fun _ _ _ h => h) rfl ?hyb4 (fun _ => S2) ?restb4
  case hyb4 => (intro W; go_simp; (try simp))
  try simp only [List.setIfInBounds_toArray, List.set_cons_zero, List.set_cons_succ]
  refine wpAnyR_pure (i := 5) (oi := _) (.bool false) rfl rfl (by kernel_rfl) (by decide) (fun _ _ _ h => h) rfl ?hyb5 (fun _ => S2) ?restb5
  case hyb5 => (intro W; go_simp; (try simp))
  try simp only [List.setIfInBounds_toArray, List.set_cons_zero, List.set_cons_succ]
  refine wpAnyR_pure (i := 6) (oi := _) ?vb6 rfl rfl (by kernel_rfl) (by decide) (fun _ _ _ h => h) rfl ?hyb6 (fun _ => S2) ?restb6
  case hyb6 => (intro W; go_simp; (try with_reducible rfl))
  try simp only [List.setIfInBounds_toArray, List.set_cons_zero, List.set_cons_succ]
  refine wpAnyR_pure (i := 7) (oi := _) ?vb7 rfl rfl (by kernel_rfl) (by decide) (fun _ _ _ h => h) rfl ?hyb7 (fun _ => S2) ?restb7
  case hyb7 => (intro W; go_simp; (try with_reducible rfl))
  try simp only [List.setIfInBounds_toArray, List.set_cons_zero, List.set_cons_succ]
  refine wpAnyR_take (i := 8) (oi := _) ?vb8 rfl rfl (by kernel_rfl) (fun _ _ _ h => h) rfl ?hyb8 S2 ?restb8
  case hyb8 => (intro W hW; obtain ⟨d0, d1⟩ := HB.out W hW; go_simp; (try with_reducible rfl))
  try simp only [List.setIfInBounds_toArray, List.set_cons_zero, List.set_cons_succ]
  refine wpAnyR_one (i := 9) (by kernel_rfl) rfl (fun K hK => ?_)
  try rw [if_pos (show Region.wanted _ _ = true from rfl)]
  go_simp
  refine (CRS.out _ B7.out).mono ?_
  rintro e w8 ⟨A8, c8, rfl, o8, b8⟩
  have B8 := Lib.hid (bthen B7.out b8)
  have BB8 := Lib.hid (bthen BB7.out b8)
  have S3 := HC.out _ B8.out
  clear o8 b8
  refine hK.out _ _ (fun _ => S3) ?_
  clear hK K
  try simp only [List.setIfInBounds_toArray, List.set_cons_zero, List.set_cons_succ, Act.put]
  refine wpAnyR_pure (i := 10) (oi := _) ?vc10 rfl rfl (by kernel_rfl) (by decide) (fun _ _ _ h => h) rfl ?hyc10 (fun _ => S3) ?restc10
  case hyc10 => (intro W; go_simp; (try with_reducible rfl))
  try simp only [List.setIfInBounds_toArray, List.set_cons_zero, List.set_cons_succ]
  refine wpAnyR_pure (i := 11) (oi := _) (.bool false) rfl rfl (by kernel_rfl) (by decide) (fun _ _ _ h => h) rfl ?hyc11 (fun _ => S3) ?restc11
  case hyc11 => (intro W; go_simp; (try simp))
  try simp only [List.setIfInBounds_toArray, List.set_cons_zero, List.set_cons_succ]
  refine wpAnyR_pure (i := 12) (oi := _) (.bool false) rfl rfl (by kernel_rfl) (by decide) (fun _ _ _ h => h) rfl ?hyc12 (fun _ => S3) ?restc12
  case hyc12 => (intro W; go_simp; (try simp))
  try simp only [List.setIfInBounds_toArray, List.set_cons_zero, List.set_cons_succ]
  refine wpAnyR_pure (i := 13) (oi := _) (.bool false) rfl rfl (by kernel_rfl) (by decide) (fun _ _ _ h => h) rfl ?hyc13 (fun _ => S3) ?restc13
  case hyc13 => (intro W; go_simp; (try simp))
  try simp only [List.setIfInBounds_toArray, List.set_cons_zero, List.set_cons_succ]
  refine wpAnyR_take (i := 14) (oi := _) ?vc14 rfl rfl (by kernel_rfl) (fun _ _ _ h => h) rfl ?hyc14 S3 ?restc14
  case hyc14 => (intro W hW; obtain ⟨d0, d1⟩ := HB.out W hW; go_simp; (try with_reducible rfl))
  try simp only [List.setIfInBounds_toArray, List.set_cons_zero, List.set_cons_succ]
  refine wpAnyR_take (i := 17) (oi := _) ?vc17 rfl rfl (by kernel_rfl) (fun _ _ _ h => h) rfl ?hyc17 S3 ?restc17
  case hyc17 => (intro W hW; obtain ⟨d0, d1⟩ := HB.out W hW; go_simp; (try with_reducible rfl))
  try simp only [List.setIfInBounds_toArray, List.set_cons_zero, List.set_cons_succ]
  refine wpAnyR_one (i := 15) (by kernel_rfl) rfl (fun K hK => ?_)
  try rw [if_pos (show Region.wanted _ _ = true from rfl)]
  go_simp
  refine (CLI.out _ B8.out).mono ?_
  rintro e w9 ⟨A9, c9, rfl, o9, b9⟩
  have B9 := Lib.hid (bthen B8.out b9)
  have BB9 := Lib.hid (bthen BB8.out b9)
  have S4 := HC.out _ B9.out
  clear o9 b9
  refine hK.out _ _ (fun _ => S4) ?_
  clear hK K
  try simp only [List.setIfInBounds_toArray, List.set_cons_zero, List.set_cons_succ, Act.put]
  refine wpAnyR_pure (i := 16) (oi := _) ?vd16 rfl rfl (by kernel_rfl) (by decide) (fun _ _ _ h => h) rfl ?hyd16 (fun _ => S4) ?restd16
  case hyd16 => (intro W; go_simp; (try with_reducible rfl))
  try simp only [List.setIfInBounds_toArray, List.set_cons_zero, List.set_cons_succ]
  refine wpAnyR_one (i := 18) (by kernel_rfl) rfl (fun K hK => ?_)
  try rw [if_pos (show Region.wanted _ _ = true from rfl)]
  go_simp
  refine (CLS.out _ B9.out).mono ?_
  rintro e w10 ⟨A10, c10, rfl, o10, b10⟩
  have B10 := Lib.hid (bthen B9.out b10)
  have BB10 := Lib.hid (bthen BB9.out b10)
  have S5 := HC.out _ B10.out
  clear o10 b10
  refine hK.out _ _ (fun _ => S5) ?_
  clear hK K
  try simp only [List.setIfInBounds_toArray, List.set_cons_zero, List.set_cons_succ, Act.put]
  refine wpAnyR_pure (i := 19) (oi := _) ?ve19 rfl rfl (by kernel_rfl) (by decide) (fun _ _ _ h => h) rfl ?hye19 (fun _ => S5) ?reste19
  case hye19 => (intro W; go_simp; (try with_reducible rfl))
  try simp only [List.setIfInBounds_toArray, List.set_cons_zero, List.set_cons_succ]
  refine wpAnyR_pure (i := 20) (oi := _) (.bool false) rfl rfl (by kernel_rfl) (by decide) (fun _ _ _ h => h) rfl ?hye20 (fun _ => S5) ?reste20
  case hye20 => (intro W; go_simp; (try simp))
  try simp only [List.setIfInBounds_toArray, List.set_cons_zero, List.set_cons_succ]
  refine wpAnyR_one (i := 21) (by kernel_rfl) rfl (fun K hK => ?_)
  go_simp
  refine hK.out _ _ (fun hf => absurd hf (by decide)) ?_
  clear hK K
  refine wpAnyR_done (by kernel_rfl) ?_
  have HG10 := Lib.hid (HG4.out.on BB10.out)
  have hmk := run_make_row' (P := Tryd.prog) 23 3 (.int .i64 0) 8 Tryd.underlying23 Tryd.infoInt rfl .i64 .i64 p.1.length (by omega) (by omega)
  obtain ⟨x0, x1⟩ := HBX.out _ B10.out
  have HM := Lib.hid (show (w10.alloc (.cells (madeCells #[.int .i64 0] p.1.length) 3)).rowIs w10.heap.size 3 p.1.length (fun _ => .int .i64 0) from World.rowIs_made w10 _ _ _)
  obtain ⟨w11, hw11⟩ : ∃ w11, w11 = w10.alloc (.cells (madeCells #[.int .i64 0] p.1.length) 3) := ⟨_, rfl⟩
  rw [← hw11] at HM
  have HBA := Lib.hid (show Below w10.heap.size w10 w11 by rw [hw11]; exact below1 _ _)
  have HGA := Lib.hid (HG10.out.on HBA.out)
  go_wp2_with fail
  rw [← hw11]
  clear hw11 x0 x1 hmk
  go_loopw [7, 53] (fun f i wr => ∃ (j : Nat) (F : Nat → Nat), j ≤ G.length ∧ i = .int .i64 j ∧ f = .int .i64 (manyG G j : Nat) ∧ AtG G F j 0 ∧ wr.rowIs w10.heap.size 3 p.1.length (fun k => .int .i64 (F k : Nat)) ∧ Only w10.heap.size (w10.heap.size + 1) w11 wr) (fun _ i _ => G.length - (intOf i).toNat)
  case atStart => exact ⟨0, fun _ => 0, Nat.zero_le _, rfl, rfl, ⟨fun i hi h => absurd h (by omega), fun hj x hx => by simp at hx⟩, HM.out, Only.refl _ _ _⟩
  case round =>
    obtain ⟨j, F, hj, rfl, rfl, hat, hrow, hon⟩ := hrel
    have HON := Lib.hid hon
    have HAT := Lib.hid hat
    have HROW := Lib.hid hrow
    clear hat hrow
    have hmj := manyG_le G HLIM.out.2.2.2.2 j
    obtain ⟨mj, hmje⟩ : ∃ mj, mj = manyG G j := ⟨_, rfl⟩
    rw [← hmje] at hmj ⊢
    have HMJ := Lib.hid hmje
    clear hmje
    by_cases hlt : j < G.length
    · obtain ⟨b5, o5, A5, c5, hA3, hb5, k0, r5⟩ := HG10.out.get hlt
      subst hA3
      have R5 := Lib.hid r5
      have BW := Lib.hid (Only.then_ HBA.out hon (Nat.le_refl _))
      have q0 := (BW.out.cell (p := ⟨b5, o5 + j, none⟩) hb5).trans k0
      have hgj : G[j].length ≤ 24 := HLIM.out.2.2.2.2 _ (List.getElem_mem hlt)
      clear hon k0 r5
      go_wp2_with fail
      clear q0
      obtain ⟨wo, rfl⟩ : ∃ wo, wo = wr := ⟨_, rfl⟩
      go_loopw [7, 60] (fun f i wr => ∃ (m : Nat) (F : Nat → Nat), m ≤ G[j].length ∧ i = .int .i64 m ∧ f = .int .i64 (mj + m : Nat) ∧ AtG G F j m ∧ wr.rowIs w10.heap.size 3 p.1.length (fun k => .int .i64 (F k : Nat)) ∧ Only w10.heap.size (w10.heap.size + 1) w11 wr) (fun _ i _ => G[j].length - (intOf i).toNat)
      case atStart => exact ⟨0, F, Nat.zero_le _, rfl, rfl, ⟨HAT.out.1, fun hj x hx => by simp at hx⟩, HROW.out, HON.out⟩
      case round =>
        obtain ⟨m, F2, hm, rfl, rfl, hat2, hrow2, hon2⟩ := hrel
        have HAT2 := Lib.hid hat2
        have HON2 := Lib.hid hon2
        have BW2 := Only.then_ HBA.out hon2 (Nat.le_refl _)
        by_cases hltm : m < G[j].length
        · obtain ⟨b6, o6, hA5, hb6, l0⟩ := (R5.out.on BW2).at_ hltm
          subst hA5
          obtain ⟨hx0, hx1⟩ := HLIM.out.1 _ (List.getElem_mem hlt) _ (List.getElem_mem hltm)
          obtain ⟨y, hy⟩ : ∃ y : Nat, G[j][m] = (y : Int) := ⟨G[j][m].toNat, by omega⟩
          have HY := Lib.hid hy
          rw [hy] at l0 hx1
          rw [Int.toNat_natCast] at hx1
          have hyI : (y : Int) < (p.1.length : Int) := by omega
          have c0 := hrow2.cell hx1
          have f0 := hrow2.frozen y
          have HROW2 := Lib.hid hrow2
          clear hy hx0 hat2 hon2 hrow2 BW2
          go_wp2_with fail
          go_roundw
          case rel =>
            refine ⟨m + 1, fun k => if k = G[j][m].toNat then j else F2 k, by omega, by go_num, by go_num, HAT2.out.step hlt hltm (fun g hg x hx => (HLIM.out.1 g hg x hx).1) HLIM.out.2.1, (HROW2.out.set y _).congr (fun k hk => ?_), HON2.out.setCell (by simp) _⟩
            rw [HY.out, Int.toNat_natCast]
            by_cases e : k = y
            · subst e; simp
            · simp [e]
          case measure => simp [intOf]; omega
        · have hme : m = G[j].length := by omega
          subst hme
          have HROW2 := Lib.hid hrow2
          clear hat2 hon2 hrow2 BW2
          go_wp2_with fail
          go_roundw
          case rel => exact ⟨j + 1, F2, by omega, by go_num, by rw [manyG_step G hlt, ← HMJ.out], HAT2.out.next hlt, HROW2.out, HON2.out⟩
          case measure => simp [intOf]; omega
    · have hje : j = G.length := by omega
      have hmr : mj = R.length := by
        rw [HMJ.out, hje]
        unfold manyG
        rw [List.take_length, HLIM.out.2.2.1, HR.out]
      subst hmr
      have hn3 : ((R.length : Int) != (R.length : Int)) = false := by simp
      have BWQ := Only.then_ HBA.out hon (Nat.le_refl _)
      have HBQ := Lib.hid (show Below w2.heap.size w2 wr from bthen B10.out BWQ)
      have HGQ := Lib.hid (HR4.out.below (bthen BB10.out BWQ) (Nat.le_refl _))
      obtain ⟨Ao, co, rs, e4, hrs, hbg, _, _⟩ := HGQ.out
      injection e4 with e41 _ e43
      subst e41
      subst e43
      have HBG := Lib.hid hbg
      have HRS := Lib.hid hrs
      have HATE := Lib.hid (show AtG G F G.length 0 from by rw [← hje]; exact HAT.out)
      obtain ⟨wq, hwq⟩ : ∃ wq, wq = wr := ⟨_, rfl⟩
      rw [← hwq] at HBQ HBG HROW ⊢
      clear hwq hje hon HON HAT BWQ HGQ hbg hrs
      -- of a checked program
      have HRF := Lib.hid (show 0 < R.length → progOk p = true ∧ R = ⟨p.1.length, p.1.length, fwM (askT p) p.1.length⟩ from fun h => by
        by_cases hp : progOk p = true
        · refine ⟨hp, ?_⟩
          rw [HR.out]
          unfold reachG
          rw [if_pos hp]
        · rw [HR.out] at h
          unfold reachG at h
          rw [if_neg hp] at h
          exact absurd h (Nat.lt_irrefl 0))
      have HALL := Lib.hid (show ∀ i k : Nat, i < R.length → k < R.length → R.n = R.length ∧ R.length = p.1.length ∧ recL p (i : Int) = R.T i i ∧ (R.T i k = true → F k ≤ F i) ∧ (i ≠ k → (F i = F k ↔ (R.T i k && R.T k i) = true)) from fun i k hi hk => by
        obtain ⟨hp, hRe⟩ := HRF.out (by omega)
        have hA := groups_are hp
        rw [← HG.out] at hA
        rw [hRe] at hi hk ⊢
        simp only at hi hk ⊢
        obtain ⟨gi, hgi, hmi⟩ := hA.all i hi
        obtain ⟨gk, hgk, hmk⟩ := hA.all k hk
        have fi : F i = gi := HATE.out.1 gi hgi hgi _ hmi
        have fk : F k = gk := HATE.out.1 gk hgk hgk _ hmk
        refine ⟨trivial, trivial, rec_self hp hi, fun ht => ?_, fun hne => ?_⟩
        · rw [fi, fk]
          exact hA.order gi gk hgi hgk i k hmi hmk ht
        · rw [fi, fk, Bool.and_eq_true]
          exact hA.same gi gk hgi hgk i k hmi hmk hne)
      go_wp2_with fail
      go_loopw [78] (fun i wr => ∃ i0 : Nat, i0 ≤ R.length ∧ i = .int .i64 i0 ∧ Below wq.heap.size wq wr) (fun i _ => R.length - (intOf i).toNat)
      case atStart => exact ⟨0, Nat.zero_le _, rfl, Below.refl _ _⟩
      case round =>
        obtain ⟨i, hi, rfl, hbe⟩ := hrel
        have BI := Lib.hid hbe
        by_cases hlti : i < R.length
        · have hgx : BGrid w3.heap.size wr R.n R.T A4 c4 rs := HBG.out.below hbe
          have hir : i < rs.length := by rw [HRS.out]; exact hlti
          obtain ⟨gh, rfl, hgh⟩ := hgx.form (by omega)
          obtain ⟨ri, hri⟩ : ∃ r, r = rs[i] := ⟨_, rfl⟩
          have r0 : wr.cell? ⟨gh, i, none⟩ = some (.slice (some ⟨ri, 0, none⟩) R.n R.n) := by rw [hri]; exact hgx.head hir
          have HRI := Lib.hid hri
          have HIR := Lib.hid hir
          clear hbe hgx hri
          go_upto_region 25 with fail
          go_wp2_with fail
          clear r0
          obtain ⟨wo, rfl⟩ : ∃ wo, wo = wr := ⟨_, rfl⟩
          go_loopw [85] (fun x wr => ∃ k : Nat, k ≤ R.n ∧ x = .int .i64 k ∧ Below wq.heap.size wq wr) (fun x _ => R.n - (intOf x).toNat)
          case atStart => exact ⟨0, Nat.zero_le _, rfl, BI.out⟩
          case round =>
            obtain ⟨k, hk, rfl, hbk⟩ := hrel
            have BK := Lib.hid hbk
            by_cases hltk : k < R.n
            · have HN1 := Lib.hid (HALL.out i i hlti hlti)
              have hkl : k < R.length := by rw [← HN1.out.1]; exact hltk
              have HAK := Lib.hid (HALL.out i k hlti hkl)
              have hgx : BGrid w3.heap.size wr R.n R.T (some ⟨gh, 0, none⟩) c4 rs := HBG.out.below hbk
              have hkr : k < rs.length := by rw [HRS.out]; exact hkl
              have hin : i < R.n := by rw [HN1.out.1]; exact hlti
              have hrw : wr.rowIs w10.heap.size 3 p.1.length (fun k => .int .i64 (F k : Nat)) := HROW.out.of_block (hbk.block _ HROW.out.lt)
              have r1 : wr.cell? ⟨ri, k, none⟩ = some (.bool (R.T i k)) := by rw [HRI.out]; exact (hgx.rows i HIR.out).cell hltk
              obtain ⟨rk, hrk⟩ : ∃ r, r = rs[k] := ⟨_, rfl⟩
              obtain ⟨tv, htv⟩ : ∃ tv, tv = R.T i k := ⟨_, rfl⟩
              obtain ⟨t2, ht2⟩ : ∃ t2, t2 = R.T k i := ⟨_, rfl⟩
              obtain ⟨fi, hfi⟩ : ∃ fi : Int, fi = ((F i : Nat) : Int) := ⟨_, rfl⟩
              obtain ⟨fk, hfk⟩ : ∃ fk : Int, fk = ((F k : Nat) : Int) := ⟨_, rfl⟩
              rw [← htv] at r1
              have M0 := later_cell (show wr.cell? ⟨rk, i, none⟩ = some (.bool t2) by rw [ht2, hrk]; exact (hgx.rows k hkr).cell hin)
              have M1 := later_cell (show wr.cell? ⟨gh, k, none⟩ = some (.slice (some ⟨rk, 0, none⟩) R.n R.n) by rw [hrk]; exact hgx.head hkr)
              have M2 := later_cell (show wr.cell? ⟨w10.heap.size, k, none⟩ = some (.int .i64 fk) by rw [hfk]; exact hrw.cell (by rw [← HN1.out.2.1]; exact hkl))
              have M3 := later_cell (show wr.cell? ⟨w10.heap.size, i, none⟩ = some (.int .i64 fi) by rw [hfi]; exact hrw.cell (by rw [← HN1.out.2.1]; exact hlti))
              have i1 : (k : Int) < (p.1.length : Int) := by rw [← HN1.out.2.1]; omega
              have i2 : (i : Int) < (p.1.length : Int) := by rw [← HN1.out.2.1]; omega
              have i3 : (k : Int) < (R.length : Int) := by omega
              have i4 : (i : Int) < (R.n : Int) := by omega
              have i5 : (i : Int) < (R.length : Int) := by omega
              have i6 : (k : Int) < (rs.length : Int) := by omega
              obtain ⟨e1, he1⟩ : ∃ e1, (fi == fk) = e1 := ⟨_, rfl⟩
              obtain ⟨e2, he2⟩ : ∃ e2, ((i : Int) != (k : Int)) = e2 := ⟨_, rfl⟩
              obtain ⟨gt, hgt⟩ : ∃ gt, decide (fi < fk) = gt := ⟨_, rfl⟩
              have HCS := Lib.hid (show (tv = false ∧ e1 = false) ∨ (tv = false ∧ e1 = true ∧ e2 = false) ∨ (tv = true ∧ gt = false ∧ e1 = false ∧ t2 = false) ∨ (tv = true ∧ gt = false ∧ e1 = false ∧ t2 = true ∧ e2 = false) ∨ (tv = true ∧ gt = false ∧ e1 = true ∧ e2 = false ∧ t2 = false) ∨ (tv = true ∧ gt = false ∧ e1 = true ∧ e2 = false ∧ t2 = true) ∨ (tv = true ∧ gt = false ∧ e1 = true ∧ e2 = true ∧ t2 = true) from by
                obtain ⟨_, _, _, h1, h2⟩ := HAK.out
                rw [← htv] at h1
                rw [← htv, ← ht2] at h2
                have hg : tv = true → gt = false := fun h => by rw [← hgt]; exact decide_eq_false (by have := h1 h; omega)
                have hc : e2 = true → e1 = (tv && t2) := fun h => by
                  have hne : i ≠ k := by
                    rintro rfl
                    rw [← he2] at h
                    simp at h
                  have := h2 hne
                  rw [← he1]
                  by_cases e : F i = F k
                  · rw [this.1 e, hfi, hfk, e]; simp
                  · have h3 : (tv && t2) = false := by
                      cases hx : (tv && t2)
                      · rfl
                      · exact absurd (this.2 hx) e
                    rw [h3]
                    rw [beq_eq_false_iff_ne]; omega
                clear h1 h2 he1 he2 hgt htv ht2 hfi hfk M0 r1
                revert hg hc
                cases tv <;> cases e1 <;> cases e2 <;> cases t2 <;> cases gt <;> simp)
              clear hbk hgx hrw htv ht2 hfi hfk hrk
              go_upto_region 28 with fail
              have HR1 := Lib.hid r1
              clear r1
              go_cut [133] (fun s wx => s = .bool false ∧ Below wr.heap.size wr wx)
              case first =>
                rcases HCS.out with ⟨rfl, rfl⟩ | ⟨rfl, rfl, rfl⟩ | ⟨rfl, rfl, rfl, rfl⟩ | ⟨rfl, rfl, rfl, rfl, rfl⟩ | ⟨rfl, rfl, rfl, rfl, rfl⟩ | ⟨rfl, rfl, rfl, rfl, rfl⟩ | ⟨rfl, rfl, rfl, rfl, rfl⟩
                all_goals
                  refine wp_region_later (by kernel_rfl) (by kernel_rfl) ?_
                  repeat (go_big_quiet_step (fail))
                  refine wpQuiet_nil ?_
                  rintro _ ⟨xq, rfl⟩
                  go_wp2_with (fail)
                  go_meet
                  exact ⟨rfl, xq.2⟩
              case rest =>
                obtain ⟨rfl, b8⟩ := hcut
                have HB8 := Lib.hid (bthen BK.out b8)
                clear b8 M0 M1 M2 M3 he1 he2 hgt
                go_wp2_with fail
                go_roundw
                case rel => exact ⟨k + 1, by omega, by go_num, HB8.out⟩
                case measure => simp [intOf]; omega
            · have HN1 := Lib.hid (HALL.out i i hlti hlti)
              have hgx : BGrid w3.heap.size wr R.n R.T (some ⟨gh, 0, none⟩) c4 rs := HBG.out.below hbk
              have r1 : wr.cell? ⟨ri, i, none⟩ = some (.bool (R.T i i)) := by rw [HRI.out]; exact (hgx.rows i HIR.out).cell (by rw [HN1.out.1]; exact hlti)
              obtain ⟨ti, hti⟩ : ∃ ti, ti = R.T i i := ⟨_, rfl⟩
              rw [← hti] at r1
              have M0 := later_cell r1
              obtain ⟨x0, x1⟩ := HBX.out _ (bthen HBQ.out hbk)
              have M1 := later_cell x0
              have M2 := later_cell x1
              have hin : (i : Int) < (R.n : Int) := by rw [HN1.out.1]; omega
              have D1 := Lib.hid (fun x : Later wr => later_of (show Calls Tryd.prog 25 #[.agg #[.slice A p.1.length c, .slice A2 p.2.length c2], .int .i64 (i : Int)] x.val fun e w' => e = .returned (.bool ti) ∧ Below x.val.heap.size x.val w' from by
                have := implRecursive_any (.agg #[.slice A p.1.length c, .slice A2 p.2.length c2]) p (i : Int) x.val (HPR.out _ (bthen HBQ.out (bthen hbk x.2))) HSZ.out (HTT.out _ (bthen HBQ.out (bthen hbk x.2)))
                rw [HN1.out.2.2.1, ← hti] at this
                exact this))
              have hn9 : (ti != ti) = false := by simp
              clear r1 x0 x1 hti hgx hbk
              go_upto_region 31 with fail
              go_cut [142] (fun s wx => s = .bool false ∧ Below wr.heap.size wr wx)
              case first =>
                refine wp_region_later (by kernel_rfl) (by kernel_rfl) ?_
                repeat (go_big_quiet_step ((go_at_call 25; exact D1.out _)))
                refine wpQuiet_nil ?_
                rintro _ ⟨xq, rfl⟩
                go_wp2_with (fail)
                go_meet
                exact ⟨rfl, xq.2⟩
              case rest =>
                obtain ⟨rfl, b8⟩ := hcut
                have HB8 := Lib.hid (bthen BK.out b8)
                clear b8 M0 M1 M2 hn9
                go_wp2_with fail
                go_roundw
                case rel => exact ⟨i + 1, by omega, by go_num, HB8.out⟩
                case measure => simp [intOf]; omega
        · obtain ⟨x0, x1⟩ := HBX.out _ (bthen HBQ.out hbe)
          have M1 := later_cell x0
          have M2 := later_cell x1
          obtain ⟨rq, hrq⟩ : ∃ rq, rq = recL p (-1) := ⟨_, rfl⟩
          have D1 := Lib.hid (fun x : Later wr => later_of (implRecursive_any (.agg #[.slice A p.1.length c, .slice A2 p.2.length c2]) p (-1) x.val (HPR.out _ (bthen HBQ.out (bthen hbe x.2))) HSZ.out (HTT.out _ (bthen HBQ.out (bthen hbe x.2)))))
          have D2 := Lib.hid (fun x : Later wr => later_of (specRecursive_any (.agg #[.slice A p.1.length c, .slice A2 p.2.length c2]) p (-1) x.val (HPR.out _ (bthen HBQ.out (bthen hbe x.2))) HSZ.out))
          rw [← hrq] at D1 D2
          have hn9 : (rq == rq) = true := by simp
          clear x0 x1 hrq hbe
          go_upto_region 34 with fail
          refine wp_region_later (by kernel_rfl) (by kernel_rfl) ?_
          repeat (go_big_quiet_step (first | (go_at_call 25; exact D1.out _) | (go_at_call 26; exact D2.out _)))
          refine wpQuiet_nil ?_
          rintro _ ⟨xq, rfl⟩
          go_wp2_with (fail)
          go_ret
          exact ⟨rfl, bthen B2.out (bthen HBQ.out (bthen BI.out xq.2))⟩

theorem lawPlainGroups_in (v : Value) (bs : List Nat) (w : World) (h : InBytes w v bs) (hT : Tab w) : Calls Tryd.prog 5 #[v] w fun e w' => e = .returned (.bool true) ∧ Below w.heap.size w w' :=
  lawPlainGroups_any v bs w h.1 h.2.1 h.2.2 hT

end Go.Proofs.YtokmmloakahkhaaDoor
namespace Go.Proofs.YtokmmloakahkhaaDoor
open Go.ChangeShapes Go.WideShapes Go.ChangeAt Go.RowKit

set_option maxRecDepth 100000 in
theorem fnGroups_lifted (os : Os) (started : os.Started) (H : Type) (enc : TypeId × Value → H) :
    ReturnsInHanded {} Tryd.checked os 5 .any (fun w args => (Rows.fnGroupsSpec.pre enc Tryd.prog Tryd.f5 [] false w args ∧ laidMetH Tryd.prog laidTabs w) ∧ sizedMet enc Tryd.prog Tryd.f5 (OpenSpec.ofChange Rows.fnGroupsSpec) false w args) (Rows.fnGroupsSpec.post enc Tryd.prog Tryd.f5 false true false false) := by
  refine returnsInHanded_of_change_and (C := Tryd.checked) (X := fun w _ => laidMetH Tryd.prog laidTabs w) (fun _ _ _ hh h => h.of_heap hh) Tryd.own started (by kernel_rfl) Tryd.func5
    (ChangeSpec.witness_shaped (enc := enc) (C := Tryd.checked) (os := os) (X := fun w _ => laidMetH Tryd.prog laidTabs w) false (World.laidAll Tryd.prog os laidTabs) #[.slice none 0 0] 8 (World.laidAll_os _ _ _)
      (World.shaped_of_ZipB (by kernel_rfl) (by kernel_rfl)) (by kernel_rfl) (by kernel_rfl) (by kernel_rfl)
      (by rw [MakeChecks.laidMetH_plain _ _ _ (by kernel_rfl)]; exact laidMet_laidAll _ (by kernel_rfl) (by kernel_rfl))) ?_
  intro W base args ds gs before hval0 hW _ _ hL _
  have hval : ∀ (j : Nat) t v, Tryd.f5.params[j]? = some t → args[j]? = some v → Value.okWide Tryd.prog W .any base t v := hval0
  have hW' := hW
  obtain ⟨p, q, hA0, hV, rfl, hfz, hnd⟩ := hW
  have hA : DataW.TrodAll enc Tryd.prog W 0 (fun _ => true) true Tryd.f5.params.toList args.toList ds p := hA0
  rw [Tryd.params5] at hA hval
  obtain ⟨v0, vs0, d0, ds0, p0, q0, hargs, rfl, rfl, h0, r0⟩ := trodAll_cons hA
  obtain ⟨rfl, rfl, rfl⟩ := trodAll_nil r0
  obtain rfl : args = #[v0] := by cases args; simp_all
  obtain ⟨rfl, rfl⟩ := trodVars_none hV
  have lt0 : ∀ x ∈ p0, x.block < W.heap.size := by obtain ⟨m, hm⟩ := h0; exact DataW.trod_lt m _ _ _ hm
  obtain ⟨x0, w0⟩ := open_inBytes (hval 0 22 v0 rfl rfl) h0
  clear hA0 hval0
  refine (lawPlainGroups_in v0 x0 W w0 (tab_of_laid hL)).mono fun e W' ⟨he, bel⟩ => ?_
  subst he
  exact ⟨_, rfl, _, _, _, [], _, [], hW', trodAll_mk1 (shut_bool Tryd.underlying4 _), (trodAll_cons_mk (Below.trod Tryd.laidOut (by kernel_rfl) (of_decide_eq_true (by kernel_rfl)) h0 bel lt0) trodAll_mk0), rfl, bel.frame _, fun h => by cases h⟩

theorem fnGroups_holds : Rows.FnGroupsSaid :=
  OpenClaim.holds_of_wide 5 Tryd.f5 rfl rfl rfl rfl rfl rfl rfl ⟨rfl, rfl, rfl, rfl, rfl⟩ rfl rfl rfl rfl rfl (by kernel_rfl) Tryd.func5 (by kernel_rfl)
    (of_decide_eq_true (by kernel_rfl)) (by unfold Func.isWrapper; rw [if_neg (of_decide_eq_false (by kernel_rfl))]; exact ⟨rfl, rfl⟩)
    (fun os started H enc _ => fnGroups_lifted os started H enc)

theorem fnGroupsCard_holds : Rows.FnGroupsCardSaid :=
  Claim7.holds_tied_plain_at .later [] [.data, .data] true (true, "6f994bc4384506fd34f3e771ee476e4cc97137f52f82e071fdf92e8a01e60b8a") false fnGroups_holds (fun _ h => by cases h) (by kernel_rfl) (fun _ h => by cases h) fnGroups_row_tie rfl ⟨rfl, rfl⟩ (by kernel_rfl) rfl
    (fun f fn hf hfn => by
      obtain rfl : f = 5 := Option.some.inj ((show Tryd.prog.funcNamed "loop.example/wholerules/laws.FnGroups" = some 5 by kernel_rfl).symm.trans hf) |>.symm
      obtain rfl : fn = Tryd.f5 := (Option.some.inj (Tryd.func5.symm.trans hfn)).symm
      exact ⟨by kernel_rfl, fun j t ht => by
        rw [Tryd.params5] at ht
        have hm : t ∈ [22] := by simpa using Array.mem_of_getElem? ht
        have hall : ([22].all fun u => !Tryd.prog.wantsStandIn u) = true := by kernel_rfl
        exact (show Tryd.prog.wantsStandIn t = false by simpa using List.all_eq_true.1 hall t hm)⟩)
    (by kernel_rfl)

end Go.Proofs.YtokmmloakahkhaaDoor
