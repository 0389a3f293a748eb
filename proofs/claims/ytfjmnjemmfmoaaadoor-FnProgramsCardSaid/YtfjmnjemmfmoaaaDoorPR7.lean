/-
  The law FnPrograms: for every input the call returns true, and each argument reads behind it as it read before. Conditions: none but the row's own.
-/
import Derived.Test.YtfjmnjemmfmoaaaDoorRows
import Derived.Test.YtfjmnjemmfmoaaaDoorCards
import Derived.Test.YtfjmnjemmfmoaaaDoorTie
import Derived.Lay
import Derived.SevenTiedAt
import Derived.Test.YtfjmnjemmfmoaaaDoorPR2
import Derived.Test.YtfjmnjemmfmoaaaDoorPR3
import Derived.Test.YtfjmnjemmfmoaaaDoorPR6
/-
  The walk of the law FnPrograms.
-/
namespace Go.Proofs.YtfjmnjemmfmoaaaDoor
open Go.RowKit

theorem sum_take2 (l : List Int) (f : Int → Nat) (k : Nat) (h : k < l.length) : ((l.take (k + 1)).map f).sum = ((l.take k).map f).sum + f l[k] := by
  rw [take_snoc l k h, List.map_append, List.sum_append]
  simp

/-- How many rules the first heads have. -/
def manyTo (p : LProg) (hs : List Int) (k : Nat) : Nat := ((hs.take k).map fun j => (rulesOf p j).length).sum
theorem manyTo_step (p : LProg) (hs : List Int) (k : Nat) (h : k < hs.length) : manyTo p hs (k + 1) = manyTo p hs k + (rulesOf p hs[k]).length := sum_take2 hs (fun j => (rulesOf p j).length) k h
theorem rulesOf_le (p : LProg) (k : Int) : (rulesOf p k).length ≤ p.2.length := rulesTo_length _ _ _

set_option maxHeartbeats 4000000 in
set_option maxRecDepth 100000 in
theorem lawPlainPrograms_any (v : Value) (code : List Nat) (w : World) (hr : RdBytes w w.heap.size v code) (_ : code.length ≤ maxLen) (hby : ∀ b ∈ code, b < 256) (hT : Tab w) :
    Calls Tryd.prog 4 #[v] w fun e w' => e = .returned (.bool true) ∧ Below w.heap.size w w' := by
  have HV := Lib.hid hr
  have HT := Lib.hid hT
  obtain ⟨Av, cv, rfl, hcv, _⟩ := hr
  clear hT
  go_enter Tryd.func4, Tryd.ntmps4
  by_cases hbig : 1048576 < code.length
  · have hd : decide ((1048576 : Int) < code.length) = true := by simp; omega
    go_wp2_with (fail)
    go_ret
    exact ⟨rfl, Below.refl _ _⟩
  have hd : decide ((1048576 : Int) < code.length) = false := by simp; omega
  have hbn : code.length ≤ 1073741824 := by omega
  go_wp2_with (fail)
  refine (drawProgramOk_any _ code w HV.out hby hbn).mono ?_
  rintro e w1 ⟨p, A, c, A2, c2, rfl, hsz, _, ra, rr, B1⟩
  have HA := Lib.hid ra
  have HR := Lib.hid rr
  have hs' := hsz
  unfold szP at hs'
  have hpl : p.2.length ≤ 100 := by omega
  have HSZ := Lib.hid (show szP p ≤ 1048576 by omega)
  clear ra rr hsz hs'
  go_upto_region 4 with fail
  obtain ⟨w3, hw3⟩ : ∃ w3, w3 = w1.alloc (Obj.cells #[Value.slice A p.1.length c, Value.slice A2 p.2.length c2] 40) := ⟨_, rfl⟩
  have b3 : Below w1.heap.size w1 w3 := by rw [hw3]; exact below1 _ _
  have BX : Blk w3 w1.heap.size 40 #[.slice A p.1.length c, .slice A2 p.2.length c2] := by rw [hw3]; exact Blk.new _ _ _
  rw [← hw3]
  clear hw3
  obtain ⟨D, hD⟩ : ∃ D, D = w1.heap.size := ⟨_, rfl⟩
  rw [← hD] at BX ⊢
  clear hD
  have B3 := Lib.hid (bthen B1 b3)
  have HPR := Lib.hid (show ∀ W, Below w3.heap.size w3 W → RdProg W W.heap.size (.agg #[.slice A p.1.length c, .slice A2 p.2.length c2]) p from fun W hW => ⟨_, _, rfl, (HA.out.on b3).on hW, (HR.out.on b3).on hW⟩)
  have HBX := Lib.hid (show ∀ W, Below w3.heap.size w3 W → Blk W D 40 #[.slice A p.1.length c, .slice A2 p.2.length c2] from fun W hW => BX.below hW BX.lt)
  have hDl := BX.lt
  have x0 : w3.cell? ⟨D, 0, none⟩ = some (.slice A p.1.length c) := BX.cell 0
  have x1 : w3.cell? ⟨D, 1, none⟩ = some (.slice A2 p.2.length c2) := BX.cell 1
  obtain ⟨po, hpo⟩ : ∃ po, po = progOk p := ⟨_, rfl⟩
  obtain ⟨hs, hhs⟩ : ∃ hs, hs = headsOf p := ⟨_, rfl⟩
  have HPO := Lib.hid hpo
  have HHS := Lib.hid hhs
  have hhl : hs.length ≤ 64 := by rw [hhs]; exact bitsOf_length _
  have hne : (po != po) = false := by simp
  clear hpo hhs BX b3 B1 HA HR
  go_wp2_with (fail)
  refine (implProgramOk_any _ p w3 (HPR.out _ (Below.refl _ _)) HSZ.out).mono ?_
  rw [← HPO.out]
  rintro e w4 ⟨rfl, b4⟩
  have x0 : w4.cell? ⟨D, 0, none⟩ = some (.slice A p.1.length c) := (HBX.out _ b4).cell 0
  have x1 : w4.cell? ⟨D, 1, none⟩ = some (.slice A2 p.2.length c2) := (HBX.out _ b4).cell 1
  have B4 := Lib.hid b4
  clear b4
  go_wp2_with (fail)
  refine (implHeadsOf_any _ p w4 (HPR.out _ B4.out) HSZ.out (HT.out.below (bthen B3.out B4.out))).mono ?_
  rw [← HHS.out]
  rintro e w5 ⟨A5, c5, rfl, o5, b5⟩
  have B5 := Lib.hid (bthen B4.out b5)
  have HH5 := Lib.hid (show ∀ W, Below w5.heap.size w5 W → RdInts W W.heap.size (.slice A5 hs.length c5) hs from fun W hW => o5.rd.on hW)
  clear o5 b5
  obtain ⟨SS, hSS⟩ : ∃ SS : World → Prop, SS = (fun W => W.cell? ⟨D, 0, none⟩ = some (.slice A p.1.length c) ∧ W.cell? ⟨D, 1, none⟩ = some (.slice A2 p.2.length c2)) := ⟨_, rfl⟩
  have HB := Lib.hid (show ∀ W, SS W → W.cell? ⟨D, 0, none⟩ = some (.slice A p.1.length c) ∧ W.cell? ⟨D, 1, none⟩ = some (.slice A2 p.2.length c2) from by rw [hSS]; exact fun W hW => hW)
  have HC := Lib.hid (show ∀ W, Below w3.heap.size w3 W → SS W from by rw [hSS]; exact fun W hW => ⟨(HBX.out W hW).cell 0, (HBX.out W hW).cell 1⟩)
  clear hSS x0 x1
  go_upto_region 6 with fail
  have B5d := Lib.hid (bthen B5.out (Below.refl _ w5).drew)
  have SB := HC.out _ B5d.out
  refine wp_region_rel SS 17 18 (by kernel_rfl) rfl ?_
  refine wpAnyR_pure (i := 0) (oi := _) ?v0 rfl rfl (by kernel_rfl) (by decide) (fun _ _ _ h => h) rfl ?hy0 (fun _ => SB) ?rest0
  case hy0 => (intro W; go_simp; (try with_reducible rfl))
  try simp only [List.setIfInBounds_toArray, List.set_cons_zero, List.set_cons_succ]
  refine wpAnyR_take (i := 1) (oi := _) ?v1 rfl rfl (by kernel_rfl) (fun _ _ _ h => h) rfl ?hy1 SB ?rest1
  case hy1 => (intro W hW; obtain ⟨E0, E1⟩ := HB.out W hW; go_simp; (try with_reducible rfl))
  try simp only [List.setIfInBounds_toArray, List.set_cons_zero, List.set_cons_succ]
  refine wpAnyR_one (i := 2) (by kernel_rfl) rfl (fun K hK => ?_)
  try rw [if_pos (show Region.wanted _ _ = true from rfl)]
  go_simp
  refine (specProgramOk_any _ p _ (HPR.out _ B5d.out) HSZ.out).mono ?_
  rw [← HPO.out]
  rintro e w6 ⟨rfl, b6⟩
  have B56 := Lib.hid (bthen (Below.refl _ w5).drew b6)
  have B6 := Lib.hid (bthen B5d.out b6)
  have S6 := HC.out _ B6.out
  clear b6
  refine hK.out _ _ (fun _ => S6) ?_
  clear hK K
  try simp only [List.setIfInBounds_toArray, List.set_cons_zero, List.set_cons_succ, Act.put]
  refine wpAnyR_pure (i := 3) (oi := _) (.bool false) rfl rfl (by kernel_rfl) (by decide) (fun _ _ _ h => h) rfl ?hy3 (fun _ => S6) ?rest3
  case hy3 => (intro W; go_simp; (try simp))
  try simp only [List.setIfInBounds_toArray, List.set_cons_zero, List.set_cons_succ]
  refine wpAnyR_pure (i := 4) (oi := _) (.bool false) rfl rfl (by kernel_rfl) (by decide) (fun _ _ _ h => h) rfl ?hy4 (fun _ => S6) ?rest4
  case hy4 => (intro W; go_simp; (try simp))
  try simp only [List.setIfInBounds_toArray, List.set_cons_zero, List.set_cons_succ]
  refine wpAnyR_pure (i := 5) (oi := _) ?v5 rfl rfl (by kernel_rfl) (by decide) (fun _ _ _ h => h) rfl ?hy5 (fun _ => S6) ?rest5
  case hy5 => (intro W; go_simp; (try with_reducible rfl))
  try simp only [List.setIfInBounds_toArray, List.set_cons_zero, List.set_cons_succ]
  refine wpAnyR_take (i := 6) (oi := _) ?v6 rfl rfl (by kernel_rfl) (fun _ _ _ h => h) rfl ?hy6 S6 ?rest6
  case hy6 => (intro W hW; obtain ⟨E0, E1⟩ := HB.out W hW; go_simp; (try with_reducible rfl))
  try simp only [List.setIfInBounds_toArray, List.set_cons_zero, List.set_cons_succ]
  refine wpAnyR_one (i := 7) (by kernel_rfl) rfl (fun K hK => ?_)
  try rw [if_pos (show Region.wanted _ _ = true from rfl)]
  go_simp
  refine (specHeadsOf_any _ p _ (HPR.out _ B6.out) HSZ.out).mono ?_
  rw [← HHS.out]
  rintro e w7 ⟨A7, c7, rfl, o7, b7⟩
  have B57 := Lib.hid (bthen B56.out b7)
  have B7 := Lib.hid (bthen B6.out b7)
  have HH7 := Lib.hid o7.rd
  have S7 := HC.out _ B7.out
  clear o7 b7
  refine hK.out _ _ (fun _ => S7) ?_
  clear hK K
  try simp only [List.setIfInBounds_toArray, List.set_cons_zero, List.set_cons_succ, Act.put]
  refine wpAnyR_one (i := 8) (by kernel_rfl) rfl (fun K hK => ?_)
  try rw [if_pos (show Region.wanted _ _ = true from rfl)]
  go_simp
  refine (wrInts_any _ _ hs hs _ (HH5.out _ B57.out) HH7.out (by omega) (by omega)).mono ?_
  rw [show decide (hs = hs) = true by simp]
  rintro e w8 ⟨rfl, b8⟩
  have B58 := Lib.hid (bthen B57.out b8)
  have B8 := Lib.hid (bthen B7.out b8)
  have S8 := HC.out _ B8.out
  clear b8
  refine hK.out _ _ (fun _ => S8) ?_
  clear hK K
  try simp only [List.setIfInBounds_toArray, List.set_cons_zero, List.set_cons_succ, Act.put]
  refine wpAnyR_pure (i := 9) (oi := _) (.bool false) rfl rfl (by kernel_rfl) (by decide) (fun _ _ _ h => h) rfl ?hy9 (fun _ => S8) ?rest9
  case hy9 => (intro W; go_simp; (try simp))
  try simp only [List.setIfInBounds_toArray, List.set_cons_zero, List.set_cons_succ]
  refine wpAnyR_pure (i := 10) (oi := _) (.bool false) rfl rfl (by kernel_rfl) (by decide) (fun _ _ _ h => h) rfl ?hy10 (fun _ => S8) ?rest10
  case hy10 => (intro W; go_simp; (try simp))
  try simp only [List.setIfInBounds_toArray, List.set_cons_zero, List.set_cons_succ]
  refine wpAnyR_pure (i := 11) (oi := _) (.bool false) rfl rfl (by kernel_rfl) (by decide) (fun _ _ _ h => h) rfl ?hy11 (fun _ => S8) ?rest11
  case hy11 => (intro W; go_simp; (try simp))
  try simp only [List.setIfInBounds_toArray, List.set_cons_zero, List.set_cons_succ]
  refine wpAnyR_take (i := 12) (oi := _) ?v12 rfl rfl (by kernel_rfl) (fun _ _ _ h => h) rfl ?hy12 S8 ?rest12
  case hy12 => (intro W hW; obtain ⟨E0, E1⟩ := HB.out W hW; go_simp; (try with_reducible rfl))
  try simp only [List.setIfInBounds_toArray, List.set_cons_zero, List.set_cons_succ]
  refine wpAnyR_take (i := 14) (oi := _) ?v14 rfl rfl (by kernel_rfl) (fun _ _ _ h => h) rfl ?hy14 S8 ?rest14
  case hy14 => (intro W hW; obtain ⟨E0, E1⟩ := HB.out W hW; go_simp; (try with_reducible rfl))
  try simp only [List.setIfInBounds_toArray, List.set_cons_zero, List.set_cons_succ]
  refine wpAnyR_one (i := 13) (by kernel_rfl) rfl (fun K hK => ?_)
  try rw [if_pos (show Region.wanted _ _ = true from rfl)]
  go_simp
  refine (implPositive_any _ p _ (HPR.out _ B8.out) HSZ.out).mono ?_
  rintro e w9 ⟨rfl, b9⟩
  have B59 := Lib.hid (bthen B58.out b9)
  have B9 := Lib.hid (bthen B8.out b9)
  have S9 := HC.out _ B9.out
  clear b9
  refine hK.out _ _ (fun _ => S9) ?_
  clear hK K
  try simp only [List.setIfInBounds_toArray, List.set_cons_zero, List.set_cons_succ, Act.put]
  refine wpAnyR_one (i := 15) (by kernel_rfl) rfl (fun K hK => ?_)
  try rw [if_pos (show Region.wanted _ _ = true from rfl)]
  go_simp
  refine (specPositive_any _ p _ (HPR.out _ B9.out) HSZ.out).mono ?_
  rintro e w10 ⟨rfl, b10⟩
  have B510 := Lib.hid (bthen B59.out b10)
  have B10 := Lib.hid (bthen B9.out b10)
  have S10 := HC.out _ B10.out
  clear b10
  refine hK.out _ _ (fun _ => S10) ?_
  clear hK K
  try simp only [List.setIfInBounds_toArray, List.set_cons_zero, List.set_cons_succ, Act.put]
  refine wpAnyR_pure (i := 16) (oi := _) (.bool false) rfl rfl (by kernel_rfl) (by decide) (fun _ _ _ h => h) rfl ?hy16 (fun _ => S10) ?rest16
  case hy16 => (intro W; go_simp; (try simp))
  try simp only [List.setIfInBounds_toArray, List.set_cons_zero, List.set_cons_succ]
  refine wpAnyR_one (i := 17) (by kernel_rfl) rfl (fun K hK => ?_)
  go_simp
  refine hK.out _ _ (fun hf => absurd hf (by decide)) ?_
  clear hK K
  refine wpAnyR_done (by kernel_rfl) ?_
  go_wp2_with (fail)
  have hs10 := B10.out.size
  go_loopw [6, 39] (fun m i wr => ∃ k : Nat, k ≤ hs.length ∧ i = .int .i64 k ∧ (∃ z : Nat, m = .int .i64 z ∧ z = manyTo p hs k ∧ z ≤ 100 * k) ∧ Below w10.heap.size w10 wr) (fun _ i _ => hs.length - (intOf i).toNat)
  case atStart => exact ⟨0, Nat.zero_le _, rfl, ⟨0, rfl, rfl, Nat.zero_le _⟩, Below.refl _ _⟩
  case round =>
    obtain ⟨k, hk, rfl, ⟨z, rfl, hz, hz2⟩, hbe⟩ := hrel
    have HZ := Lib.hid hz
    have BW := Lib.hid (bthen B10.out hbe)
    have B5W := Lib.hid (bthen B510.out hbe)
    have HBE := Lib.hid hbe
    clear hz hbe
    have x0 : wr.cell? ⟨D, 0, none⟩ = some (.slice A p.1.length c) := (HBX.out _ BW.out).cell 0
    have x1 : wr.cell? ⟨D, 1, none⟩ = some (.slice A2 p.2.length c2) := (HBX.out _ BW.out).cell 1
    by_cases hlt : k < hs.length
    · obtain ⟨bb, oo, e0, hbb, k0⟩ := (HH5.out _ B5W.out).at_ hlt
      subst e0
      obtain ⟨L, hL⟩ : ∃ L, L = rulesOf p hs[k] := ⟨_, rfl⟩
      have HL := Lib.hid hL
      have hLl : L.length ≤ p.2.length := by rw [hL]; exact rulesOf_le _ _
      have hLp : 0 < L.length := by rw [hL]; exact head_has (by rw [← HHS.out]; exact List.getElem_mem hlt)
      have hL0 : ((L.length : Int) == 0) = false := by rw [beq_eq_false_iff_ne]; omega
      clear hL
      obtain ⟨hd, hhd⟩ : ∃ hd, hd = hs[k] := ⟨_, rfl⟩
      have HHD := Lib.hid hhd
      rw [← hhd] at k0
      clear hhd
      go_wp2_with (first
        | (go_at_call 29; refine (implRulesOf_any _ p hd wr (HPR.out _ BW.out) HSZ.out).mono ?_
           rw [HHD.out, ← HL.out, ← HHD.out]
           rintro e wa ⟨Aa, ca, rfl, oa, ba⟩
           have Ba := Lib.hid (bthen BW.out ba)
           have BEa := Lib.hid (bthen HBE.out ba)
           have HLa := Lib.hid oa.rd
           have y0 : wa.cell? ⟨D, 0, none⟩ = some (.slice A p.1.length c) := (HBX.out _ Ba.out).cell 0
           have y1 : wa.cell? ⟨D, 1, none⟩ = some (.slice A2 p.2.length c2) := (HBX.out _ Ba.out).cell 1
           clear oa ba)
        | (go_at_call 30; refine (specRulesOf_any _ p hd wa (HPR.out _ Ba.out) HSZ.out).mono ?_
           rw [HHD.out, ← HL.out, ← HHD.out]
           rintro e wb ⟨Ab, cb, rfl, ob, bb2⟩
           have Bb := Lib.hid (bthen Ba.out bb2)
           have BEb := Lib.hid (bthen BEa.out bb2)
           have HLb := Lib.hid (And.intro (HLa.out.on bb2) ob.rd)
           clear ob bb2)
        | (go_at_call 17; refine (wrInts_any _ _ L L wb HLb.out.1 HLb.out.2 (by omega) (by omega)).mono ?_
           rw [show decide (L = L) = true by simp]
           rintro e wc ⟨rfl, bc⟩
           have BEc := Lib.hid (bthen BEb.out bc)
           clear bc))
      go_roundw
      case rel =>
        refine ⟨k + 1, by omega, by go_num, ⟨z + L.length, by go_num, ?_, by omega⟩, BEc.out⟩
        rw [manyTo_step p hs k hlt, ← HZ.out, ← HL.out]
      case measure => simp [intOf]; omega
    · have hke : k = hs.length := by omega
      have hzz : po = true → z = p.2.length := fun h => by
        rw [HZ.out, hke]
        unfold manyTo
        rw [List.take_length, HHS.out]
        exact heads_sum (by rw [← HPO.out]; exact h)
      clear hke
      cases po
      · clear hzz
        go_wp2_with (fail)
        go_ret
        exact ⟨rfl, bthen B3.out BW.out⟩
      · have hb : ((z : Int) == (p.2.length : Int)) = true := by rw [hzz rfl]; simp
        clear hzz
        go_wp2_with (fail)
        go_ret
        exact ⟨rfl, bthen B3.out BW.out⟩

theorem lawPlainPrograms_in (v : Value) (bs : List Nat) (w : World) (h : InBytes w v bs) (hT : Tab w) : Calls Tryd.prog 4 #[v] w fun e w' => e = .returned (.bool true) ∧ Below w.heap.size w w' :=
  lawPlainPrograms_any v bs w h.1 h.2.1 h.2.2 hT

end Go.Proofs.YtfjmnjemmfmoaaaDoor
namespace Go.Proofs.YtfjmnjemmfmoaaaDoor
open Go.ChangeShapes Go.WideShapes Go.ChangeAt Go.RowKit

set_option maxRecDepth 100000 in
theorem fnPrograms_lifted (os : Os) (started : os.Started) (H : Type) (enc : TypeId × Value → H) :
    ReturnsInHanded {} Tryd.checked os 4 .any (fun w args => (Rows.fnProgramsSpec.pre enc Tryd.prog Tryd.f4 [] false w args ∧ laidMetH Tryd.prog laidTabs w) ∧ sizedMet enc Tryd.prog Tryd.f4 (OpenSpec.ofChange Rows.fnProgramsSpec) false w args) (Rows.fnProgramsSpec.post enc Tryd.prog Tryd.f4 false true false false) := by
  refine returnsInHanded_of_change_and (C := Tryd.checked) (X := fun w _ => laidMetH Tryd.prog laidTabs w) (fun _ _ _ hh h => h.of_heap hh) Tryd.own started (by kernel_rfl) Tryd.func4
    (ChangeSpec.witness_shaped (enc := enc) (C := Tryd.checked) (os := os) (X := fun w _ => laidMetH Tryd.prog laidTabs w) false (World.laidAll Tryd.prog os laidTabs) #[.slice none 0 0] 8 (World.laidAll_os _ _ _)
      (World.shaped_of_ZipB (by kernel_rfl) (by kernel_rfl)) (by kernel_rfl) (by kernel_rfl) (by kernel_rfl)
      (by rw [MakeChecks.laidMetH_plain _ _ _ (by kernel_rfl)]; exact laidMet_laidAll _ (by kernel_rfl) (by kernel_rfl))) ?_
  intro W base args ds gs before hval0 hW _ _ hL _
  have hval : ∀ (j : Nat) t v, Tryd.f4.params[j]? = some t → args[j]? = some v → Value.okWide Tryd.prog W .any base t v := hval0
  have hW' := hW
  obtain ⟨p, q, hA0, hV, rfl, hfz, hnd⟩ := hW
  have hA : DataW.TrodAll enc Tryd.prog W 0 (fun _ => true) true Tryd.f4.params.toList args.toList ds p := hA0
  rw [Tryd.params4] at hA hval
  obtain ⟨v0, vs0, d0, ds0, p0, q0, hargs, rfl, rfl, h0, r0⟩ := trodAll_cons hA
  obtain ⟨rfl, rfl, rfl⟩ := trodAll_nil r0
  obtain rfl : args = #[v0] := by cases args; simp_all
  obtain ⟨rfl, rfl⟩ := trodVars_none hV
  have lt0 : ∀ x ∈ p0, x.block < W.heap.size := by obtain ⟨m, hm⟩ := h0; exact DataW.trod_lt m _ _ _ hm
  obtain ⟨x0, w0⟩ := open_inBytes (hval 0 22 v0 rfl rfl) h0
  clear hA0 hval0
  refine (lawPlainPrograms_in v0 x0 W w0 (tab_of_laid hL)).mono fun e W' ⟨he, bel⟩ => ?_
  subst he
  exact ⟨_, rfl, _, _, _, [], _, [], hW', trodAll_mk1 (shut_bool Tryd.underlying4 _), (trodAll_cons_mk (Below.trod Tryd.laidOut (by kernel_rfl) (of_decide_eq_true (by kernel_rfl)) h0 bel lt0) trodAll_mk0), rfl, bel.frame _, fun h => by cases h⟩

theorem fnPrograms_holds : Rows.FnProgramsSaid :=
  OpenClaim.holds_of_wide 4 Tryd.f4 rfl rfl rfl rfl rfl rfl rfl ⟨rfl, rfl, rfl, rfl, rfl⟩ rfl rfl rfl rfl rfl (by kernel_rfl) Tryd.func4 (by kernel_rfl)
    (of_decide_eq_true (by kernel_rfl)) (by unfold Func.isWrapper; rw [if_neg (of_decide_eq_false (by kernel_rfl))]; exact ⟨rfl, rfl⟩)
    (fun os started H enc _ => fnPrograms_lifted os started H enc)

theorem fnProgramsCard_holds : Rows.FnProgramsCardSaid :=
  Claim7.holds_tied_plain_at .later [] [.data, .data] true (true, "eb9f304200c1dc23c84bf0b304748481fb81b6d2ef45b766bfb609a6583c2c85") false fnPrograms_holds (fun _ h => by cases h) (by kernel_rfl) (fun _ h => by cases h) fnPrograms_row_tie rfl ⟨rfl, rfl⟩ (by kernel_rfl) rfl
    (fun f fn hf hfn => by
      obtain rfl : f = 4 := Option.some.inj ((show Tryd.prog.funcNamed "loop.example/wholerules/laws.FnPrograms" = some 4 by kernel_rfl).symm.trans hf) |>.symm
      obtain rfl : fn = Tryd.f4 := (Option.some.inj (Tryd.func4.symm.trans hfn)).symm
      exact ⟨by kernel_rfl, fun j t ht => by
        rw [Tryd.params4] at ht
        have hm : t ∈ [22] := by simpa using Array.mem_of_getElem? ht
        have hall : ([22].all fun u => !Tryd.prog.wantsStandIn u) = true := by kernel_rfl
        exact (show Tryd.prog.wantsStandIn t = false by simpa using List.all_eq_true.1 hall t hm)⟩)
    (by kernel_rfl)

end Go.Proofs.YtfjmnjemmfmoaaaDoor
