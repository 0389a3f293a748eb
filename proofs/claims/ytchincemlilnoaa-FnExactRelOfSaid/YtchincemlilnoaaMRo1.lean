/-
  The law FnExactRelOf: for every input the call returns true, and each argument reads behind it as it read before. Conditions: none but the row's own.
-/
import Derived.Test.YtchincemlilnoaaMRt4
import Derived.Test.YtchincemlilnoaaMRt5
import Derived.Test.YtchincemlilnoaaMRt3
import Derived.Test.YtchincemlilnoaaMRt2
import Derived.Test.YtchincemlilnoaaMRt1
import Derived.Test.YtchincemlilnoaaChecked
import Derived.Deep.SlicePairs
import Derived.ProofKit
import Derived.OpenShut
import Derived.ChangeOld
import Derived.WalkKit
import Derived.Deep.Slices
import Derived.Deep.Fields
import Derived.ChangeSame
import Derived.Lib.SmallJoins
import Derived.KernelRfl
import Derived.Deep.RegionHeld3
import Derived.Deep.DeepCutAuto
import Derived.Deep.RegionWith
import Derived.Test.YtchincemlilnoaaRows
/-
  RelEither of the specification.
-/
namespace Go.Proofs.Ytchincemlilnoaa
open Go.RowKit

open Classical in
noncomputable def eitherR (a b : LRel) : LRel := if RelP a ∧ RelP b ∧ a.1 = b.1 ∧ (putsB (a.2 ++ b.2)).length ≤ 2000 then (a.1, putsB (a.2 ++ b.2)) else (0, [])
theorem eitherR_yes {a b : LRel} (h1 : RelP a) (h2 : RelP b) (h3 : a.1 = b.1) (h4 : (putsB (a.2 ++ b.2)).length ≤ 2000) : eitherR a b = (a.1, putsB (a.2 ++ b.2)) := by
  unfold eitherR; rw [if_pos ⟨h1, h2, h3, h4⟩]
theorem eitherR_no {a b : LRel} (h : ¬ (RelP a ∧ RelP b ∧ a.1 = b.1 ∧ (putsB (a.2 ++ b.2)).length ≤ 2000)) : eitherR a b = (0, []) := by
  unfold eitherR; rw [if_neg h]
theorem eitherR_a {a b : LRel} (h : relB a = false) : eitherR a b = (0, []) := eitherR_no (by rintro ⟨h1, _⟩; rw [relB_true h1] at h; cases h)
theorem eitherR_b {a b : LRel} (h : relB b = false) : eitherR a b = (0, []) := eitherR_no (by rintro ⟨_, h1, _⟩; rw [relB_true h1] at h; cases h)
theorem eitherR_wide {a b : LRel} (h : a.1 ≠ b.1) : eitherR a b = (0, []) := eitherR_no (by rintro ⟨_, _, h1, _⟩; exact h h1)
theorem eitherR_many {a b : LRel} (h : 2000 < (putsB (a.2 ++ b.2)).length) : eitherR a b = (0, []) := eitherR_no (by rintro ⟨_, _, _, h1⟩; omega)
theorem rel_short {r : LRel} (hp : RelP r) : ∀ x ∈ r.2, (x.length : Int) = r.1 ∧ x.length ≤ 6 ∧ x.all constOk = true := fun x hx => by
  obtain ⟨k, hk, rfl⟩ := List.getElem_of_mem hx
  have h1 := hp.row hk
  have h2 := hp.hi
  exact ⟨h1, by omega, (hp.rows k hk hk).2.2⟩
theorem take_both (xss yss : List (List Int)) (k : Nat) : xss ++ yss.take k = (xss ++ yss).take (xss.length + k) := by
  induction xss with
  | nil => simp
  | cons x xs ih => rw [List.cons_append, List.cons_append, List.length_cons, Nat.add_right_comm, List.take_succ_cons, ih]
theorem eitherR_sz (a b : LRel) : szRows (eitherR a b).2 ≤ 1048576 := by
  unfold eitherR
  split
  · rename_i h
    obtain ⟨h1, h2, h3, h4⟩ := h
    have h5 : ∀ row ∈ putsB (a.2 ++ b.2), row.length ≤ 6 := fun row hr => by
      rcases List.mem_append.1 (putsB_mem.1 hr) with h | h
      · exact (rel_short h1 row h).2.1
      · exact (rel_short h2 row h).2.1
    have h6 := totSS_few h4 h5
    show (putsB (a.2 ++ b.2)).length + totSS (putsB (a.2 ++ b.2)) ≤ 1048576
    omega
  · simp [szRows, totSS]
theorem putsB_few {L : List (List Int)} {k : Nat} (h : ∀ x ∈ L, x.length ≤ 6) (hk : k ≤ L.length) : ∀ x ∈ putsB (L.take k), x.length ≤ 1048576 := fun x hx => by
  have := h x (List.mem_of_mem_take (((putsB_is L k hk).2.1 x).1 hx))
  omega

set_option maxHeartbeats 8000000 in
set_option maxRecDepth 100000 in
theorem specRelEither_any (v0 v1 : Value) (a b : LRel) (R : LRel) (hR : R = eitherR a b) (w : World) (h0 : RdRel w w.heap.size v0 a) (h1 : RdRel w w.heap.size v1 b)
    (s0 : szRows a.2 ≤ 1048576) (s1 : szRows b.2 ≤ 1048576) :
    Calls Try.prog 39 #[v0, v1] w fun e w' => ∃ A' c', e = .returned (.agg #[.int .i64 R.1, .slice A' R.2.length c']) ∧ WkRows w' w.heap.size w'.heap.size (.slice A' R.2.length c') R.2 ∧ Below w.heap.size w w' := by
  have HR := Lib.hid hR
  clear hR
  obtain ⟨a0, rfl, h0⟩ := h0
  have H0 := Lib.hid h0
  obtain ⟨A, c, rfl, _, _⟩ := h0
  obtain ⟨a1, rfl, h1⟩ := h1
  have H1 := Lib.hid h1
  obtain ⟨A1, c1, rfl, _, _⟩ := h1
  obtain ⟨m, xss⟩ := a
  obtain ⟨n, yss⟩ := b
  have S0 := Lib.hid s0
  have S1 := Lib.hid s1
  simp only at H0 H1 HR
  clear s0 s1
  go_enter Try.func39, Try.ntmps39
  go_wp2_with fail
  obtain ⟨w3, hw3⟩ : ∃ w3, w3 = ((w.alloc (Obj.cells #[Value.int IntKind.i64 m, Value.slice A xss.length c] 27)).alloc (Obj.cells #[Value.int IntKind.i64 n, Value.slice A1 yss.length c1] 27)).alloc (Obj.cells #[Value.int IntKind.i64 0, Value.slice none 0 0] 27) := ⟨_, rfl⟩
  have B3 : Below w.heap.size w w3 := by rw [hw3]; exact below3 _ _ _ _
  have s3' : w3.heap.size = w.heap.size + 3 := by rw [hw3]; simp
  have x0 : Blk w3 w.heap.size 27 #[.int .i64 m, .slice A xss.length c] := by rw [hw3]; exact ((Blk.new w _ _).alloc _).alloc _
  have x1 : Blk w3 (w.heap.size + 1) 27 #[.int .i64 n, .slice A1 yss.length c1] := by
    rw [hw3]
    simpa using (Blk.new (w.alloc (Obj.cells #[Value.int IntKind.i64 m, Value.slice A xss.length c] 27)) 27 #[.int .i64 n, .slice A1 yss.length c1]).alloc _
  have x2 : Blk w3 (w.heap.size + 2) 27 #[.int .i64 0, .slice none 0 0] := by
    rw [hw3]
    simpa using Blk.new ((w.alloc (Obj.cells #[Value.int IntKind.i64 m, Value.slice A xss.length c] 27)).alloc (Obj.cells #[Value.int IntKind.i64 n, Value.slice A1 yss.length c1] 27)) 27 #[.int .i64 0, .slice none 0 0]
  rw [← hw3]
  clear hw3
  obtain ⟨ok, hok⟩ : ∃ ok, ok = relB (m, xss) := ⟨_, rfl⟩
  have CR := specRelOk_any _ (m, xss) _ ⟨_, rfl, H0.out.on B3⟩ S0.out
  rw [← hok] at CR
  refine CR.mono ?_
  rintro e w4 ⟨rfl, hb4⟩
  have B4 := bthen B3 hb4
  have s4 := hb4.size
  have y0 := x0.below hb4 x0.lt
  have y1 := x1.below hb4 x1.lt
  have y2 := x2.below hb4 x2.lt
  clear x0 x1 x2 CR
  have q2 : w4.cell? ⟨w.heap.size + 1, 0, none⟩ = some (.int .i64 n) := y1.cell 0
  have q3 : w4.cell? ⟨w.heap.size + 1, 1, none⟩ = some (.slice A1 yss.length c1) := y1.cell 1
  have b1c0 : w4.cell? ⟨w.heap.size + 2, 0, none⟩ = some (.int .i64 0) := y2.cell 0
  have b1c1 : w4.cell? ⟨w.heap.size + 2, 1, none⟩ = some (.slice none 0 0) := y2.cell 1
  have b1f0 := y2.frozen 0
  have b1f1 := y2.frozen 1
  have HOK := Lib.hid hok
  clear hok
  cases ok
  · have HE := Lib.hid (show R = (0, []) by rw [HR.out]; exact eitherR_a HOK.out.symm)
    clear q2 q3
    go_wp2_with fail
    refine bodyPost_ret (v := .agg #[.int .i64 0, .slice none 0 0]) (by simp [results, Try.results39, go_sem, b1c0, b1c1]) rfl ?_
    rw [HE.out]
    exact ⟨none, 0, rfl, WkRows.nothing _ _ _, (B4.setCell (by simp <;> omega) _).setCell (by simp <;> omega) _⟩
  have HPa := Lib.hid (show RelP (m, xss) from relB_iff.1 HOK.out.symm)
  go_wp2_with fail
  obtain ⟨ok2, hok2⟩ : ∃ ok2, ok2 = relB (n, yss) := ⟨_, rfl⟩
  have CR := specRelOk_any _ (n, yss) _ ⟨_, rfl, H1.out.on B4⟩ S1.out
  rw [← hok2] at CR
  refine CR.mono ?_
  rintro e w5 ⟨rfl, hb5⟩
  have B5 := bthen B4 hb5
  have s5 := hb5.size
  have z0 := y0.below hb5 y0.lt
  have z1 := y1.below hb5 y1.lt
  have z2 := y2.below hb5 y2.lt
  clear y0 y1 y2 q2 q3 b1c0 b1c1 b1f0 b1f1 CR
  have b1c0 : w5.cell? ⟨w.heap.size + 2, 0, none⟩ = some (.int .i64 0) := z2.cell 0
  have b1c1 : w5.cell? ⟨w.heap.size + 2, 1, none⟩ = some (.slice none 0 0) := z2.cell 1
  have b1f0 := z2.frozen 0
  have b1f1 := z2.frozen 1
  have q4 : w5.cell? ⟨w.heap.size, 0, none⟩ = some (.int .i64 m) := z0.cell 0
  have q5 : w5.cell? ⟨w.heap.size + 1, 0, none⟩ = some (.int .i64 n) := z1.cell 0
  have HOK2 := Lib.hid hok2
  clear hok2
  cases ok2
  · have HE := Lib.hid (show R = (0, []) by rw [HR.out]; exact eitherR_b HOK2.out.symm)
    clear q4 q5
    go_wp2_with fail
    refine bodyPost_ret (v := .agg #[.int .i64 0, .slice none 0 0]) (by simp [results, Try.results39, go_sem, b1c0, b1c1]) rfl ?_
    rw [HE.out]
    exact ⟨none, 0, rfl, WkRows.nothing _ _ _, (B5.setCell (by simp <;> omega) _).setCell (by simp <;> omega) _⟩
  have HPb := Lib.hid (show RelP (n, yss) from relB_iff.1 HOK2.out.symm)
  by_cases hmn : ¬ m = n
  · have HE := Lib.hid (show R = (0, []) by rw [HR.out]; exact eitherR_wide hmn)
    have e1 : (m == n) = false := by simp [hmn]
    have e1' : (m != n) = true := by simp [hmn]
    clear hmn
    go_wp2_with fail
    refine bodyPost_ret (v := .agg #[.int .i64 0, .slice none 0 0]) (by simp [results, Try.results39, go_sem, b1c0, b1c1]) rfl ?_
    rw [HE.out]
    exact ⟨none, 0, rfl, WkRows.nothing _ _ _, (B5.setCell (by simp <;> omega) _).setCell (by simp <;> omega) _⟩
  have hmn : m = n := by omega
  have e1' : (m != n) = false := by simp [hmn]
  have q0 : w5.cell? ⟨w.heap.size, 0, none⟩ = some (.int .i64 m) := z0.cell 0
  have hm0 : 0 ≤ m := HPa.out.lo
  have hm6 : m ≤ 6 := HPa.out.hi
  have hxs : xss.length ≤ 2000 := HPa.out.many
  have hys : yss.length ≤ 2000 := HPb.out.many
  have e1 : (m == n) = true := by simp [hmn]
  have HX6 := Lib.hid (show (∀ x ∈ xss, x.length ≤ 6) ∧ (∀ x ∈ yss, x.length ≤ 6) from ⟨fun x hx => (rel_short HPa.out x hx).2.1, fun x hx => (rel_short HPb.out x hx).2.1⟩)
  have HX := Lib.hid (And.intro z0 (And.intro z1 z2))
  have HMN := Lib.hid hmn
  clear z0 z1 z2 hmn b1c0 b1c1 b1f0 b1f1
  go_upto_region 4 with fail
  obtain ⟨o9, ho9⟩ : ∃ o9, o9 = w5.heap.size := ⟨_, rfl⟩
  obtain ⟨w6, hw6⟩ : ∃ w6, w6 = w5.alloc (Obj.cells #[Value.int IntKind.i64 m, Value.slice none 0 0] 27) := ⟨_, rfl⟩
  have hb56 : Below w5.heap.size w5 w6 := by rw [hw6]; exact below1 _ _
  have x9 : Blk w6 o9 27 #[.int .i64 m, .slice none 0 0] := by rw [hw6, ho9]; exact Blk.new _ _ _
  have s6 : o9 < w6.heap.size := by rw [hw6, ho9]; simp
  have hlo : w.heap.size + 3 ≤ o9 := by omega
  rw [← hw6, ← ho9]
  have HO := Lib.hid (show PutAt w6.heap.size o9 w6 m (putsB ((xss ++ yss).take 0)) none 0 from PutAt.empty x9 s6 (Nat.le_refl _))
  have HY := Lib.hid (And.intro (HX.out.1.below hb56 HX.out.1.lt) (And.intro (HX.out.2.1.below hb56 HX.out.2.1.lt) (HX.out.2.2.below hb56 HX.out.2.2.lt)))
  have HB6 := Lib.hid (bthen B5 hb56)
  have hs60 := HB6.out.size
  clear hw6 ho9 x9 q0 hb56
  go_wp2_with fail
  go_loopw [6] (fun i wr => ∃ (k : Nat) (A' : Option Addr) (c' : Nat), k ≤ xss.length ∧ i = .int .i64 k ∧ PutAt w6.heap.size o9 wr m (putsB ((xss ++ yss).take k)) A' c' ∧ Below o9 w6 wr) (fun i _ => xss.length - (intOf i).toNat)
  case atStart => exact ⟨0, none, 0, Nat.zero_le _, rfl, HO.out, Below.refl _ _⟩
  case round =>
    obtain ⟨k, A', c', hk, rfl, hout, hbe⟩ := hrel
    obtain ⟨wi, rfl⟩ : ∃ wi, wi = wr := ⟨_, rfl⟩
    have HOUT := Lib.hid hout
    have HBE := Lib.hid hbe
    have BW := Lib.hid (show Below w.heap.size w wi from HB6.out.trans (hbe.mono (by omega)))
    have hsw := hbe.size
    have q1 : wi.cell? ⟨w.heap.size, 1, none⟩ = some (.slice A xss.length c) := (HY.out.1.below hbe (by omega)).cell 1
    clear hout hbe
    by_cases hlt : k < xss.length
    · obtain ⟨b, o, Ar, cr, rfl, hbB, k0, r0⟩ := (H0.out.below BW.out (Nat.le_refl _)).get hlt
      have hrow6 : xss[k].length ≤ 6 := HX6.out.1 _ (List.getElem_mem hlt)
      have hw0 := BW.out.size
      have HR0 := Lib.hid (r0.more hw0)
      have hkl : k < (xss ++ yss).length := by rw [List.length_append]; omega
      have HN := Lib.hid (show putsB ((xss ++ yss).take (k + 1)) = putB (putsB ((xss ++ yss).take k)) xss[k] by rw [putsB_take hkl, List.getElem_append_left hlt])
      have hl1 := (putsB_is (xss ++ yss) k (by omega)).2.2
      have HL7 := Lib.hid (putsB_few (L := xss ++ yss) (k := k) (fun x hx => (List.mem_append.1 hx).elim (HX6.out.1 x) (HX6.out.2 x)) (by omega))
      obtain ⟨M, hM⟩ : ∃ M, M = putsB ((xss ++ yss).take k) := ⟨_, rfl⟩
      obtain ⟨M2, hM2⟩ : ∃ M2, M2 = putB M xss[k] := ⟨_, rfl⟩
      rw [← hM] at HOUT HN hl1 HL7
      rw [← hM2] at HN
      have HM2 := Lib.hid hM2
      have q2 : wi.cell? ⟨o9, 1, none⟩ = some (.slice A' M.length c') := HOUT.out.box.cell 1
      have hkz : (0 : Int) ≤ (k : Int) := by omega
      have hki : (k : Int) < (xss.length : Int) := by omega
      clear hM hM2 r0 hkl
      go_upto_region 7 with fail
      obtain ⟨SS, hSS⟩ : ∃ SS : World → Prop, SS = (fun W => W.cell? ⟨o9, 1, none⟩ = some (.slice A' M.length c') ∧ W.cell? ⟨w.heap.size, 1, none⟩ = some (.slice (some ⟨b, o, none⟩) xss.length c) ∧ W.cell? ⟨b, o + k, none⟩ = some (.slice Ar xss[k].length cr)) := ⟨_, rfl⟩
      have l0 := World.block_lt_of_cell? _ _ q2
      have l1 := World.block_lt_of_cell? _ _ q1
      have l2 := World.block_lt_of_cell? _ _ k0
      have HSS := Lib.hid (show ∀ W, Below wi.heap.size wi W → SS W from by
        rw [hSS]
        exact fun W hW => ⟨(hW.cell l0).trans q2, (hW.cell l1).trans q1, (hW.cell l2).trans k0⟩)
      have HB := Lib.hid (show ∀ W, SS W → (W.cell? ⟨o9, 1, none⟩ = some (.slice A' M.length c') ∧ W.cell? ⟨w.heap.size, 1, none⟩ = some (.slice (some ⟨b, o, none⟩) xss.length c) ∧ W.cell? ⟨b, o + k, none⟩ = some (.slice Ar xss[k].length cr)) from by rw [hSS]; exact fun W hW => hW)
      clear hSS l0 l1 l2 q2 q1 k0
      refine wp_region_rel SS 10 11 (by kernel_rfl) rfl ?_
      obtain ⟨wy, hwy⟩ : ∃ wy, wy = wi.drew := ⟨_, rfl⟩
      have HBY := Lib.hid (show Below wi.heap.size wi wy by rw [hwy]; exact (Below.refl _ _).drew)
      rw [← hwy]
      clear hwy
      have hsy := HBY.out.size
      have S0 := Lib.hid (HSS.out _ HBY.out)
      refine wpAnyR_pure (i := 0) (oi := _) ?va0 rfl rfl (by kernel_rfl) (by decide) (fun _ _ _ h => h) rfl ?hya0 (fun _ => S0.out) ?resta0
      case hya0 => (intro W; go_simp; (try with_reducible rfl))
      try simp only [List.setIfInBounds_toArray, List.set_cons_zero, List.set_cons_succ]
      refine wpAnyR_take (i := 1) (oi := _) ?va1 rfl rfl (by kernel_rfl) (fun _ _ _ h => h) rfl ?hya1 S0.out ?resta1
      case hya1 => (intro W hW; obtain ⟨E0, E1, E2⟩ := HB.out W hW; go_simp; (try with_reducible rfl))
      try simp only [List.setIfInBounds_toArray, List.set_cons_zero, List.set_cons_succ]
      refine wpAnyR_pure (i := 2) (oi := _) ?va2 rfl rfl (by kernel_rfl) (by decide) (fun _ _ _ h => h) rfl ?hya2 (fun _ => S0.out) ?resta2
      case hya2 => (intro W; go_simp; (try with_reducible rfl))
      try simp only [List.setIfInBounds_toArray, List.set_cons_zero, List.set_cons_succ]
      refine wpAnyR_take (i := 3) (oi := _) ?va3 rfl rfl (by kernel_rfl) (fun _ _ _ h => h) rfl ?hya3 S0.out ?resta3
      case hya3 => (intro W hW; obtain ⟨E0, E1, E2⟩ := HB.out W hW; go_simp; (try with_reducible rfl))
      try simp only [List.setIfInBounds_toArray, List.set_cons_zero, List.set_cons_succ]
      refine wpAnyR_pure (i := 4) (oi := _) ?va4 rfl rfl (by kernel_rfl) (by decide) (fun _ _ _ h => h) rfl ?hya4 (fun _ => S0.out) ?resta4
      case hya4 => (intro W; go_simp; (try with_reducible rfl))
      try simp only [List.setIfInBounds_toArray, List.set_cons_zero, List.set_cons_succ]
      refine wpAnyR_pure (i := 5) (oi := _) ?va5 rfl rfl (by kernel_rfl) (by decide) (fun _ _ _ h => h) rfl ?hya5 (fun _ => S0.out) ?resta5
      case hya5 => (intro W; go_simp; (try with_reducible rfl))
      try simp only [List.setIfInBounds_toArray, List.set_cons_zero, List.set_cons_succ]
      refine wpAnyR_take (i := 6) (oi := _) ?va6 rfl rfl (by kernel_rfl) (fun _ _ _ h => h) rfl ?hya6 S0.out ?resta6
      case hya6 => (intro W hW; obtain ⟨E0, E1, E2⟩ := HB.out W hW; go_simp; (try with_reducible rfl))
      try simp only [List.setIfInBounds_toArray, List.set_cons_zero, List.set_cons_succ]
      refine wpAnyR_one (i := 7) (by kernel_rfl) rfl (fun K hK => ?_)
      try rw [if_pos (show Region.wanted _ _ = true from rfl)]
      go_simp
      refine (l3Copy_any (.slice Ar xss[k].length cr) xss[k] _ (HR0.out.on HBY.out) (by omega)).mono ?_
      rintro e W4 ⟨A6, c6, rfl, ho6, hb6⟩
      have HB4 := Lib.hid (bthen HBY.out hb6)
      have HO6 := Lib.hid (ho6.mono HBY.out.size (Nat.le_refl _))
      have HP4 := Lib.hid (HOUT.out.on HB4.out)
      have hs4 := HB4.out.size
      have S1 := Lib.hid (HSS.out _ HB4.out)
      clear ho6 hb6
      refine hK.out _ _ (fun _ => S1.out) ?_
      clear hK K
      try simp only [List.setIfInBounds_toArray, List.set_cons_zero, List.set_cons_succ, Act.put]
      refine wpAnyR_one (i := 8) (by kernel_rfl) rfl (fun K hK => ?_)
      try rw [if_pos (show Region.wanted _ _ = true from rfl)]
      go_simp
      refine (l3Put_any (.slice A' M.length c') (.slice A6 xss[k].length c6) M xss[k] M2 HM2.out w6.heap.size W4.heap.size W4 HP4.out.rows (HO6.out.mono (by omega) (Nat.le_refl _)) (Nat.le_refl _) (by omega) (by omega) HL7.out (by omega)).mono ?_
      rintro e W5 ⟨A7, c7, rfl, ho7, hb7⟩
      have HB5 := Lib.hid (bthen HB4.out hb7)
      have HPU := Lib.hid (HP4.out.put hb7 ho7)
      have hbx := HP4.out.box.below hb7 HP4.out.box.lt
      have g1 : W5.cell? ⟨o9, 1, none⟩ = some (.slice A' M.length c') := hbx.cell 1
      have g1f := hbx.frozen 1
      have S2 := Lib.hid (HSS.out _ HB5.out)
      clear ho7 hb7 hbx
      refine hK.out _ _ (fun _ => S2.out) ?_
      clear hK K
      try simp only [List.setIfInBounds_toArray, List.set_cons_zero, List.set_cons_succ, Act.put]
      refine wpAnyR_pure (i := 9) (oi := _) ?vb9 rfl rfl (by kernel_rfl) (by decide) (fun _ _ _ h => h) rfl ?hyb9 (fun _ => S2.out) ?restb9
      case hyb9 => (intro W; go_simp; (try with_reducible rfl))
      try simp only [List.setIfInBounds_toArray, List.set_cons_zero, List.set_cons_succ]
      refine wpAnyR_one (i := 10) (by kernel_rfl) rfl (fun K hK => ?_)
      go_simp
      refine hK.out _ _ (fun hf => absurd hf (by decide)) ?_
      clear hK K
      refine wpAnyR_done (by kernel_rfl) ?_
      go_wp2_with fail
      go_roundw
      case rel => exact ⟨k + 1, A7, c7, by omega, by go_num, by rw [HN.out]; exact HPU.out.1, HBE.out.trans ((HB4.out.mono (by omega)).trans HPU.out.2)⟩
      case measure => simp [intOf]; omega
    · have HO1 := Lib.hid (show PutAt w6.heap.size o9 wi m (putsB (xss ++ yss.take 0)) A' c' by
        have := HOUT.out
        rw [show k = xss.length by omega, List.take_append_of_le_length (Nat.le_refl _), List.take_length] at this
        simpa using this)
      clear HOUT
      have HBE1 := Lib.hid HBE.out
      go_wp2_with fail
      go_loopw [7] (fun i wr => ∃ (k : Nat) (A' : Option Addr) (c' : Nat), k ≤ yss.length ∧ i = .int .i64 k ∧ PutAt w6.heap.size o9 wr m (putsB (xss ++ yss.take k)) A' c' ∧ Below o9 w6 wr) (fun i _ => yss.length - (intOf i).toNat)
      case atStart => exact ⟨0, A', c', Nat.zero_le _, rfl, HO1.out, HBE1.out⟩
      clear HBE HBE1 HO1 BW hlt hk hsw q1
      case round =>
        obtain ⟨k, A', c', hk, rfl, hout, hbe⟩ := hrel
        obtain ⟨wi, rfl⟩ : ∃ wi, wi = wr := ⟨_, rfl⟩
        have HOUT := Lib.hid hout
        have HBE := Lib.hid hbe
        have BW := Lib.hid (show Below w.heap.size w wi from HB6.out.trans (hbe.mono (by omega)))
        have hsw := hbe.size
        have q1 : wi.cell? ⟨w.heap.size + 1, 1, none⟩ = some (.slice A1 yss.length c1) := (HY.out.2.1.below hbe (by omega)).cell 1
        clear hout hbe
        by_cases hlt : k < yss.length
        · obtain ⟨b, o, Ar, cr, rfl, hbB, k0, r0⟩ := (H1.out.below BW.out (Nat.le_refl _)).get hlt
          have hrow6 : yss[k].length ≤ 6 := HX6.out.2 _ (List.getElem_mem hlt)
          have hw0 := BW.out.size
          have HR0 := Lib.hid (r0.more hw0)
          have htk : xss ++ yss.take k = (xss ++ yss).take (xss.length + k) := take_both xss yss k
          have htk1 : xss ++ yss.take (k + 1) = (xss ++ yss).take (xss.length + k + 1) := take_both xss yss (k + 1)
          have hkl : xss.length + k < (xss ++ yss).length := by rw [List.length_append]; omega
          have HN := Lib.hid (show putsB (xss ++ yss.take (k + 1)) = putB (putsB (xss ++ yss.take k)) yss[k] by
            rw [htk1, htk, putsB_take hkl, List.getElem_append_right (by omega)]
            congr 2
            omega)
          have hl1 := (putsB_is (xss ++ yss) (xss.length + k) (by omega)).2.2
          have HL7 := Lib.hid (putsB_few (L := xss ++ yss) (k := xss.length + k) (fun x hx => (List.mem_append.1 hx).elim (HX6.out.1 x) (HX6.out.2 x)) (by omega))
          rw [← htk] at hl1 HL7
          obtain ⟨M, hM⟩ : ∃ M, M = putsB (xss ++ yss.take k) := ⟨_, rfl⟩
          obtain ⟨M2, hM2⟩ : ∃ M2, M2 = putB M yss[k] := ⟨_, rfl⟩
          rw [← hM] at HOUT HN hl1 HL7
          rw [← hM2] at HN
          have HM2 := Lib.hid hM2
          have q2 : wi.cell? ⟨o9, 1, none⟩ = some (.slice A' M.length c') := HOUT.out.box.cell 1
          have hkz : (0 : Int) ≤ (k : Int) := by omega
          have hki : (k : Int) < (yss.length : Int) := by omega
          clear hM hM2 r0 hkl htk htk1
          go_upto_region 11 with fail
          obtain ⟨SS, hSS⟩ : ∃ SS : World → Prop, SS = (fun W => W.cell? ⟨o9, 1, none⟩ = some (.slice A' M.length c') ∧ W.cell? ⟨w.heap.size + 1, 1, none⟩ = some (.slice (some ⟨b, o, none⟩) yss.length c1) ∧ W.cell? ⟨b, o + k, none⟩ = some (.slice Ar yss[k].length cr)) := ⟨_, rfl⟩
          have l0 := World.block_lt_of_cell? _ _ q2
          have l1 := World.block_lt_of_cell? _ _ q1
          have l2 := World.block_lt_of_cell? _ _ k0
          have HSS := Lib.hid (show ∀ W, Below wi.heap.size wi W → SS W from by
            rw [hSS]
            exact fun W hW => ⟨(hW.cell l0).trans q2, (hW.cell l1).trans q1, (hW.cell l2).trans k0⟩)
          have HB := Lib.hid (show ∀ W, SS W → (W.cell? ⟨o9, 1, none⟩ = some (.slice A' M.length c') ∧ W.cell? ⟨w.heap.size + 1, 1, none⟩ = some (.slice (some ⟨b, o, none⟩) yss.length c1) ∧ W.cell? ⟨b, o + k, none⟩ = some (.slice Ar yss[k].length cr)) from by rw [hSS]; exact fun W hW => hW)
          clear hSS l0 l1 l2 q2 q1 k0
          refine wp_region_rel SS 10 11 (by kernel_rfl) rfl ?_
          obtain ⟨wy, hwy⟩ : ∃ wy, wy = wi.drew := ⟨_, rfl⟩
          have HBY := Lib.hid (show Below wi.heap.size wi wy by rw [hwy]; exact (Below.refl _ _).drew)
          rw [← hwy]
          clear hwy
          have hsy := HBY.out.size
          have S0 := Lib.hid (HSS.out _ HBY.out)
          refine wpAnyR_pure (i := 0) (oi := _) ?vc0 rfl rfl (by kernel_rfl) (by decide) (fun _ _ _ h => h) rfl ?hyc0 (fun _ => S0.out) ?restc0
          case hyc0 => (intro W; go_simp; (try with_reducible rfl))
          try simp only [List.setIfInBounds_toArray, List.set_cons_zero, List.set_cons_succ]
          refine wpAnyR_take (i := 1) (oi := _) ?vc1 rfl rfl (by kernel_rfl) (fun _ _ _ h => h) rfl ?hyc1 S0.out ?restc1
          case hyc1 => (intro W hW; obtain ⟨E0, E1, E2⟩ := HB.out W hW; go_simp; (try with_reducible rfl))
          try simp only [List.setIfInBounds_toArray, List.set_cons_zero, List.set_cons_succ]
          refine wpAnyR_pure (i := 2) (oi := _) ?vc2 rfl rfl (by kernel_rfl) (by decide) (fun _ _ _ h => h) rfl ?hyc2 (fun _ => S0.out) ?restc2
          case hyc2 => (intro W; go_simp; (try with_reducible rfl))
          try simp only [List.setIfInBounds_toArray, List.set_cons_zero, List.set_cons_succ]
          refine wpAnyR_take (i := 3) (oi := _) ?vc3 rfl rfl (by kernel_rfl) (fun _ _ _ h => h) rfl ?hyc3 S0.out ?restc3
          case hyc3 => (intro W hW; obtain ⟨E0, E1, E2⟩ := HB.out W hW; go_simp; (try with_reducible rfl))
          try simp only [List.setIfInBounds_toArray, List.set_cons_zero, List.set_cons_succ]
          refine wpAnyR_pure (i := 4) (oi := _) ?vc4 rfl rfl (by kernel_rfl) (by decide) (fun _ _ _ h => h) rfl ?hyc4 (fun _ => S0.out) ?restc4
          case hyc4 => (intro W; go_simp; (try with_reducible rfl))
          try simp only [List.setIfInBounds_toArray, List.set_cons_zero, List.set_cons_succ]
          refine wpAnyR_pure (i := 5) (oi := _) ?vc5 rfl rfl (by kernel_rfl) (by decide) (fun _ _ _ h => h) rfl ?hyc5 (fun _ => S0.out) ?restc5
          case hyc5 => (intro W; go_simp; (try with_reducible rfl))
          try simp only [List.setIfInBounds_toArray, List.set_cons_zero, List.set_cons_succ]
          refine wpAnyR_take (i := 6) (oi := _) ?vc6 rfl rfl (by kernel_rfl) (fun _ _ _ h => h) rfl ?hyc6 S0.out ?restc6
          case hyc6 => (intro W hW; obtain ⟨E0, E1, E2⟩ := HB.out W hW; go_simp; (try with_reducible rfl))
          try simp only [List.setIfInBounds_toArray, List.set_cons_zero, List.set_cons_succ]
          refine wpAnyR_one (i := 7) (by kernel_rfl) rfl (fun K hK => ?_)
          try rw [if_pos (show Region.wanted _ _ = true from rfl)]
          go_simp
          refine (l3Copy_any (.slice Ar yss[k].length cr) yss[k] _ (HR0.out.on HBY.out) (by omega)).mono ?_
          rintro e W4 ⟨A6, c6, rfl, ho6, hb6⟩
          have HB4 := Lib.hid (bthen HBY.out hb6)
          have HO6 := Lib.hid (ho6.mono HBY.out.size (Nat.le_refl _))
          have HP4 := Lib.hid (HOUT.out.on HB4.out)
          have hs4 := HB4.out.size
          have S1 := Lib.hid (HSS.out _ HB4.out)
          clear ho6 hb6
          refine hK.out _ _ (fun _ => S1.out) ?_
          clear hK K
          try simp only [List.setIfInBounds_toArray, List.set_cons_zero, List.set_cons_succ, Act.put]
          refine wpAnyR_one (i := 8) (by kernel_rfl) rfl (fun K hK => ?_)
          try rw [if_pos (show Region.wanted _ _ = true from rfl)]
          go_simp
          refine (l3Put_any (.slice A' M.length c') (.slice A6 yss[k].length c6) M yss[k] M2 HM2.out w6.heap.size W4.heap.size W4 HP4.out.rows (HO6.out.mono (by omega) (Nat.le_refl _)) (Nat.le_refl _) (by omega) (by omega) HL7.out (by omega)).mono ?_
          rintro e W5 ⟨A7, c7, rfl, ho7, hb7⟩
          have HB5 := Lib.hid (bthen HB4.out hb7)
          have HPU := Lib.hid (HP4.out.put hb7 ho7)
          have hbx := HP4.out.box.below hb7 HP4.out.box.lt
          have g1 : W5.cell? ⟨o9, 1, none⟩ = some (.slice A' M.length c') := hbx.cell 1
          have g1f := hbx.frozen 1
          have S2 := Lib.hid (HSS.out _ HB5.out)
          clear ho7 hb7 hbx
          refine hK.out _ _ (fun _ => S2.out) ?_
          clear hK K
          try simp only [List.setIfInBounds_toArray, List.set_cons_zero, List.set_cons_succ, Act.put]
          refine wpAnyR_pure (i := 9) (oi := _) ?vd9 rfl rfl (by kernel_rfl) (by decide) (fun _ _ _ h => h) rfl ?hyd9 (fun _ => S2.out) ?restd9
          case hyd9 => (intro W; go_simp; (try with_reducible rfl))
          try simp only [List.setIfInBounds_toArray, List.set_cons_zero, List.set_cons_succ]
          refine wpAnyR_one (i := 10) (by kernel_rfl) rfl (fun K hK => ?_)
          go_simp
          refine hK.out _ _ (fun hf => absurd hf (by decide)) ?_
          clear hK K
          refine wpAnyR_done (by kernel_rfl) ?_
          go_wp2_with fail
          go_roundw
          case rel => exact ⟨k + 1, A7, c7, by omega, by go_num, by rw [HN.out]; exact HPU.out.1, HBE.out.trans ((HB4.out.mono (by omega)).trans HPU.out.2)⟩
          case measure => simp [intOf]; omega
        · have HO2 := Lib.hid (show PutAt w6.heap.size o9 wi m (putsB (xss ++ yss)) A' c' by
            have := HOUT.out
            rw [show k = yss.length by omega, List.take_length] at this
            exact this)
          clear HOUT
          have z1 := HY.out.2.2.below HBE.out (by omega)
          have b1c0 : wi.cell? ⟨w.heap.size + 2, 0, none⟩ = some (.int .i64 0) := z1.cell 0
          have b1c1 : wi.cell? ⟨w.heap.size + 2, 1, none⟩ = some (.slice none 0 0) := z1.cell 1
          have b1f0 := z1.frozen 0
          have b1f1 := z1.frozen 1
          have d0 : wi.cell? ⟨o9, 0, none⟩ = some (.int .i64 m) := HO2.out.box.cell 0
          have d1 : wi.cell? ⟨o9, 1, none⟩ = some (.slice A' (putsB (xss ++ yss)).length c') := HO2.out.box.cell 1
          have HRy := Lib.hid (fun h4 => HR.out.trans (eitherR_yes (a := (m, xss)) (b := (n, yss)) HPa.out HPb.out HMN.out h4))
          have HRn := Lib.hid (fun h4 => HR.out.trans (eitherR_many (a := (m, xss)) (b := (n, yss)) h4))
          simp only at HRy HRn
          obtain ⟨M, hM⟩ : ∃ M, M = putsB (xss ++ yss) := ⟨_, rfl⟩
          rw [← hM] at HO2 d1 HRy HRn
          clear hM z1
          by_cases hf : 2000 < M.length
          · have e2 : decide ((M.length : Int) > 2000) = true := decide_eq_true (by omega)
            have e3 : decide (2000 < (M.length : Int)) = true := decide_eq_true (by omega)
            have HE := Lib.hid (HRn.out hf)
            clear hf
            go_wp2_with fail
            refine bodyPost_ret (v := .agg #[.int .i64 0, .slice none 0 0]) (by simp [results, Try.results39, go_sem, b1c0, b1c1]) rfl ?_
            rw [HE.out]
            exact ⟨none, 0, rfl, WkRows.nothing _ _ _, (BW.out.setCell (by simp <;> omega) _).setCell (by simp <;> omega) _⟩
          · have e2 : decide ((M.length : Int) > 2000) = false := decide_eq_false (by omega)
            have e3 : decide (2000 < (M.length : Int)) = false := decide_eq_false (by omega)
            have HE := Lib.hid (HRy.out (by omega))
            clear hf
            go_wp2_with fail
            refine bodyPost_ret (v := .agg #[.int .i64 m, .slice A' M.length c']) (by simp [results, Try.results39, go_sem, b1c0, b1c1]) rfl ?_
            rw [HE.out]
            refine ⟨A', c', rfl, ?_, (BW.out.setCell (by simp <;> omega) _).setCell (by simp <;> omega) _⟩
            have hrw := HO2.out.rows
            have h1 := (hrw.only (Only.setCell (Only.refl 0 (w.heap.size + 3) wi) (p := ⟨w.heap.size + 2, 0, none⟩) ⟨Nat.zero_le _, by simp⟩ (.int .i64 m)) (.inr (by omega)))
            have h2 := (h1.only (Only.setCell (Only.refl 0 (w.heap.size + 3) _) (p := ⟨w.heap.size + 2, 1, none⟩) ⟨Nat.zero_le _, by simp⟩ (.slice A' M.length c')) (.inr (by omega)))
            exact h2.mono (by omega) (by simp)

end Go.Proofs.Ytchincemlilnoaa
/-
  haveConstants of the program (as in Quests, for seats that have no more).
-/
namespace Go.Proofs.Ytchincemlilnoaa
open Go.RowKit

set_option maxHeartbeats 1000000 in
set_option maxRecDepth 100000 in
theorem haveConstants_any (v : Value) (fs : List LFact) (R : Bool) (hR : constsL fs = R) (w : World) (h : RdFacts w w.heap.size v fs) (hn : fs.length ≤ 1048576) (ht : tot fs ≤ 1048576) :
    Calls Try.prog 57 #[v] w fun e w' => e = .returned (.bool R) ∧ Below w.heap.size w w' := by
  have H := Lib.hid h
  have HR := Lib.hid hR
  obtain ⟨A, c, rfl, hc, _⟩ := h
  clear hR
  go_enter Try.func57, Try.ntmps57
  go_wp2_with fail
  go_loopw [7] (fun i wr => ∃ k : Nat, k ≤ fs.length ∧ i = .int .i64 k ∧ ConstsFs fs k ∧ Below w.heap.size w wr) (fun i _ => fs.length - (intOf i).toNat)
  case atStart => exact ⟨0, Nat.zero_le _, rfl, fun j _ hj => absurd hj (by omega), Below.refl _ _⟩
  case round =>
    obtain ⟨k, hk, rfl, hs, hbe⟩ := hrel
    by_cases hlt : k < fs.length
    · obtain ⟨b, o, A3, c3, rfl, hbB, k1, k2, k3⟩ := (H.out.on hbe).get hlt
      have hln := len_le_tot fs k hlt
      have CA := Lib.hid (fun W (hW : Below wr.heap.size wr W) => areConstants_any (.slice A3 fs[k].2.length c3) fs[k].2 wr.heap.size W (k3.below hW (Nat.le_refl _)) (by omega))
      have HS := Lib.hid hs
      have HBE := Lib.hid hbe
      clear hs hbe k3
      cases hco : fs[k].2.all constOk
      · rw [hco] at CA
        have HE := Lib.hid (show R = false by
          rw [← HR.out]
          unfold constsL
          rw [List.all_eq_false]
          exact ⟨fs[k], List.getElem_mem hlt, by rw [hco]; simp⟩)
        clear hco
        go_wp2_with (go_at_call 49; refine (CA.out _ (below1 _ _)).mono ?_; rintro e w2 ⟨rfl, rfl⟩)
        go_ret
        exact ⟨ret_bool HE.out.symm, bthen HBE.out (below1 _ _)⟩
      · rw [hco] at CA
        have HE := Lib.hid (HS.out.step hlt hco)
        clear hco
        go_wp2_with (go_at_call 49; refine (CA.out _ (below1 _ _)).mono ?_; rintro e w2 ⟨rfl, rfl⟩)
        go_roundw
        case rel => exact ⟨k + 1, by omega, by go_num, HE.out, bthen HBE.out (below1 _ _)⟩
        case measure => simp [intOf]; omega
    · have HE := Lib.hid (show R = true by rw [← HR.out]; exact ConstsFs.all (by have := hs; rw [show k = fs.length by omega] at this; exact this))
      have HBE := Lib.hid hbe
      clear hs hbe
      go_wp2_with fail
      go_ret
      exact ⟨ret_bool HE.out.symm, HBE.out⟩

end Go.Proofs.Ytchincemlilnoaa
/-
  RelOf of the specification.
-/
namespace Go.Proofs.Ytchincemlilnoaa
open Go.RowKit

theorem totSS_two : ∀ {L : List (List Int)}, (∀ row ∈ L, row.length ≤ 2) → totSS L ≤ 2 * L.length
  | [], _ => by simp [totSS]
  | x :: L, h => by
    have h1 := h x List.mem_cons_self
    have h2 := totSS_two (L := L) fun row hr => h row (List.mem_cons_of_mem _ hr)
    have h3 : totSS (x :: L) = x.length + totSS L := by simp [totSS]
    rw [h3, List.length_cons]
    omega
def ofB (p q : Int) (f : LFact) : Bool := f.1 == p && (f.2.length : Int) == q
def ofRows (fs : List LFact) (p q : Int) : List (List Int) := (fs.filter (ofB p q)).map fun f => f.2
def ofR (fs : List LFact) (p q : Int) : LRel := if decide (0 ≤ q ∧ q ≤ 2) = true ∧ constsL fs = true then (q, putsB (ofRows fs p q)) else (0, [])
theorem ofR_yes {fs : List LFact} {p q : Int} (h1 : decide (0 ≤ q ∧ q ≤ 2) = true) (h2 : constsL fs = true) : ofR fs p q = (q, putsB (ofRows fs p q)) := by
  unfold ofR; rw [if_pos ⟨h1, h2⟩]
theorem ofR_wide {fs : List LFact} {p q : Int} (h1 : decide (0 ≤ q ∧ q ≤ 2) = false) : ofR fs p q = (0, []) := by
  unfold ofR; rw [if_neg (by rintro ⟨h, _⟩; rw [h1] at h; cases h)]
theorem ofR_consts {fs : List LFact} {p q : Int} (h1 : constsL fs = false) : ofR fs p q = (0, []) := by
  unfold ofR; rw [if_neg (by rintro ⟨_, h⟩; rw [h1] at h; cases h)]
theorem ofRows_yes {fs : List LFact} {p q : Int} {k : Nat} (h : k < fs.length) (e : ofB p q fs[k] = true) : ofRows (fs.take (k + 1)) p q = ofRows (fs.take k) p q ++ [fs[k].2] := by
  unfold ofRows
  rw [filter_take_yes h e, List.map_append]
  rfl
theorem ofRows_no {fs : List LFact} {p q : Int} {k : Nat} (h : k < fs.length) (e : ofB p q fs[k] = false) : ofRows (fs.take (k + 1)) p q = ofRows (fs.take k) p q := by
  unfold ofRows
  rw [filter_take_no h e]
theorem ofRows_len (fs : List LFact) (p q : Int) (k : Nat) : (ofRows (fs.take k) p q).length ≤ fs.length := by
  unfold ofRows
  rw [List.length_map]
  exact filter_len_le _ _ _
theorem ofRows_in {fs : List LFact} {p q : Int} {x : List Int} (h : x ∈ ofRows fs p q) : ∃ f ∈ fs, f.2 = x ∧ (x.length : Int) = q := by
  obtain ⟨f, hf, rfl⟩ := List.mem_map.1 h
  obtain ⟨h1, h2⟩ := List.mem_filter.1 hf
  refine ⟨f, h1, rfl, ?_⟩
  simp only [ofB, Bool.and_eq_true, beq_iff_eq] at h2
  exact h2.2
theorem puts_short {fs : List LFact} {p q : Int} (hq : q ≤ 2) (k : Nat) : ∀ x ∈ putsB (ofRows (fs.take k) p q), x.length ≤ 1048576 := fun x hx => by
  obtain ⟨_, _, _, h⟩ := ofRows_in (putsB_mem.1 hx)
  omega
theorem ofR_sz {fs : List LFact} {p q : Int} (h : fs.length ≤ 262144) : szRows (ofR fs p q).2 ≤ 1048576 := by
  unfold ofR
  split
  · rename_i h1
    have hq : 0 ≤ q ∧ q ≤ 2 := of_decide_eq_true h1.1
    have h2 : ∀ row ∈ putsB (ofRows fs p q), row.length ≤ 2 := fun x hx => by
      obtain ⟨_, _, _, h⟩ := ofRows_in (putsB_mem.1 hx)
      omega
    have h3 : (putsB (ofRows fs p q)).length ≤ fs.length := by
      have h4 := putsB_length (ofRows fs p q)
      have h5 := ofRows_len fs p q fs.length
      rw [List.take_length] at h5
      omega
    have h6 : totSS (putsB (ofRows fs p q)) ≤ 2 * (putsB (ofRows fs p q)).length := totSS_two h2
    show (putsB (ofRows fs p q)).length + totSS (putsB (ofRows fs p q)) ≤ 1048576
    omega
  · simp [szRows, totSS]

set_option maxHeartbeats 4000000 in
set_option maxRecDepth 100000 in
theorem specRelOf_any (v : Value) (fs : List LFact) (p q : Int) (R : LRel) (hR : R = ofR fs p q) (w : World) (h : RdFacts w w.heap.size v fs) (hn : fs.length ≤ 1048576) (ht : tot fs ≤ 1048576) :
    Calls Try.prog 19 #[v, .int .i64 p, .int .i64 q] w fun e w' => ∃ A' c', e = .returned (.agg #[.int .i64 R.1, .slice A' R.2.length c']) ∧ WkRows w' w.heap.size w'.heap.size (.slice A' R.2.length c') R.2 ∧ Below w.heap.size w w' := by
  have HR := Lib.hid hR
  have H := Lib.hid h
  obtain ⟨A, c, rfl, hc, _⟩ := h
  clear hR
  obtain ⟨qb, hqb⟩ : ∃ qb, qb = decide (0 ≤ q ∧ q ≤ 2) := ⟨_, rfl⟩
  have LI := Lib.hid (fun W => l1In_is (n := q) (lo := 0) (hi := 2) hqb.symm W)
  obtain ⟨kb, hkb⟩ : ∃ kb, kb = constsL fs := ⟨_, rfl⟩
  have LC := Lib.hid (fun W (hW : Below w.heap.size w W) => l3Consts_any (.slice A fs.length c) fs W.heap.size W (H.out.on hW) hn ht)
  rw [← hkb] at LC
  have HQB := Lib.hid hqb
  have HKB := Lib.hid hkb
  clear hqb hkb
  go_enter Try.func19, Try.ntmps19
  go_upto_region 2 with fail
  obtain ⟨o9, ho9⟩ : ∃ o9, o9 = w.heap.size + 1 := ⟨_, rfl⟩
  obtain ⟨w3, hw3⟩ : ∃ w3, w3 = (w.alloc (Obj.cells #[Value.int IntKind.i64 0, Value.slice none 0 0] 27)).alloc (Obj.cells #[Value.int IntKind.i64 q, Value.slice none 0 0] 27) := ⟨_, rfl⟩
  have B3 : Below w.heap.size w w3 := by rw [hw3]; exact below2 _ _ _
  have s3 : w3.heap.size = w.heap.size + 2 := by rw [hw3]; simp
  have x1 : Blk w3 w.heap.size 27 #[.int .i64 0, .slice none 0 0] := by rw [hw3]; exact (Blk.new w _ _).alloc _
  have x2 : Blk w3 o9 27 #[.int .i64 q, .slice none 0 0] := by
    rw [hw3, ho9]
    simpa using Blk.new (w.alloc (Obj.cells #[Value.int IntKind.i64 0, Value.slice none 0 0] 27)) 27 #[.int .i64 q, .slice none 0 0]
  rw [← hw3]
  clear hw3
  have b1c0 : w3.cell? ⟨w.heap.size, 0, none⟩ = some (.int .i64 0) := x1.cell 0
  have b1c1 : w3.cell? ⟨w.heap.size, 1, none⟩ = some (.slice none 0 0) := x1.cell 1
  have b1f0 := x1.frozen 0
  have b1f1 := x1.frozen 1
  have LC3 := Lib.hid (LC.out w3 B3)
  cases qb
  · have HE := Lib.hid (show R = (0, []) by rw [HR.out]; exact ofR_wide HQB.out.symm)
    go_wp2_with (go_at_call 47; refine (LI.out _).mono ?_; rintro e w' ⟨rfl, rfl⟩)
    refine bodyPost_ret (v := .agg #[.int .i64 0, .slice none 0 0]) (by simp [results, Try.results19, go_sem, b1c0, b1c1]) rfl ?_
    rw [HE.out]
    exact ⟨none, 0, rfl, WkRows.nothing _ _ _, (B3.setCell (by simp <;> omega) _).setCell (by simp <;> omega) _⟩
  cases kb
  · have HE := Lib.hid (show R = (0, []) by rw [HR.out]; exact ofR_consts HKB.out.symm)
    go_wp2_with (first | (go_at_call 47; refine (LI.out _).mono ?_; rintro e w' ⟨rfl, rfl⟩) | (go_at_call 53; refine LC3.out.mono ?_; rintro e w' ⟨rfl, rfl⟩))
    refine bodyPost_ret (v := .agg #[.int .i64 0, .slice none 0 0]) (by simp [results, Try.results19, go_sem, b1c0, b1c1]) rfl ?_
    rw [HE.out]
    exact ⟨none, 0, rfl, WkRows.nothing _ _ _, (B3.setCell (by simp <;> omega) _).setCell (by simp <;> omega) _⟩
  have hq : 0 ≤ q ∧ q ≤ 2 := of_decide_eq_true HQB.out.symm
  have hq2 : q ≤ 2 := hq.2
  have HF := Lib.hid (show R = (q, putsB (ofRows fs p q)) by rw [HR.out]; exact ofR_yes HQB.out.symm HKB.out.symm)
  have HO := Lib.hid (show PutAt w3.heap.size o9 w3 q (putsB (ofRows (fs.take 0) p q)) none 0 from PutAt.empty x2 (by omega) (Nat.le_refl _))
  have HX := Lib.hid x1
  have hlo : w.heap.size < o9 := by omega
  have HO9 := Lib.hid ho9
  have s3' : o9 < w3.heap.size := by omega
  clear hq x1 x2 b1c0 b1c1 b1f0 b1f1
  go_wp2_with (first | (go_at_call 47; refine (LI.out _).mono ?_; rintro e w' ⟨rfl, rfl⟩) | (go_at_call 53; refine LC3.out.mono ?_; rintro e w' ⟨rfl, rfl⟩))
  try rw [← ho9]
  clear ho9
  go_loopw [8] (fun i wr => ∃ (k : Nat) (A' : Option Addr) (c' : Nat), k ≤ fs.length ∧ i = .int .i64 k ∧ PutAt w3.heap.size o9 wr q (putsB (ofRows (fs.take k) p q)) A' c' ∧ Below o9 w3 wr) (fun i _ => fs.length - (intOf i).toNat)
  case atStart => exact ⟨0, none, 0, Nat.zero_le _, rfl, HO.out, Below.refl _ _⟩
  case round =>
    obtain ⟨k, A', c', hk, rfl, hout, hbe⟩ := hrel
    obtain ⟨wi, rfl⟩ : ∃ wi, wi = wr := ⟨_, rfl⟩
    have HOUT := Lib.hid hout
    have HBE := Lib.hid hbe
    have BW := Lib.hid (show Below w.heap.size w wi from B3.trans (hbe.mono (by omega)))
    have hsw := hbe.size
    clear hout hbe
    by_cases hlt : k < fs.length
    · obtain ⟨b, o, A3, c3, rfl, hbB, k1, k2, r0⟩ := (H.out.below BW.out (Nat.le_refl _)).get hlt
      have hw0 := BW.out.size
      have HR0 := Lib.hid (r0.more hw0)
      have hkz : (0 : Int) ≤ (k : Int) := by omega
      have hki : (k : Int) < (fs.length : Int) := by omega
      obtain ⟨e1, he1⟩ : ∃ e1, e1 = (fs[k].1 == p) := ⟨_, rfl⟩
      obtain ⟨e2, he2⟩ : ∃ e2, e2 = ((fs[k].2.length : Int) == q) := ⟨_, rfl⟩
      have g1' := he1.symm
      have g2' := he2.symm
      clear r0
      cases e1
      · have HN := Lib.hid (show putsB (ofRows (fs.take (k + 1)) p q) = putsB (ofRows (fs.take k) p q) by rw [ofRows_no hlt (by unfold ofB; rw [g1']; rfl)])
        clear he1 he2
        go_wp2_with fail
        go_roundw
        case rel => exact ⟨k + 1, A', c', by omega, by go_num, by rw [HN.out]; exact HOUT.out, HBE.out⟩
        case measure => simp [intOf]; omega
      cases e2
      · have HN := Lib.hid (show putsB (ofRows (fs.take (k + 1)) p q) = putsB (ofRows (fs.take k) p q) by rw [ofRows_no hlt (by unfold ofB; rw [g2', Bool.and_false])])
        clear he1 he2
        go_wp2_with fail
        go_roundw
        case rel => exact ⟨k + 1, A', c', by omega, by go_num, by rw [HN.out]; exact HOUT.out, HBE.out⟩
        case measure => simp [intOf]; omega
      have HN := Lib.hid (show putsB (ofRows (fs.take (k + 1)) p q) = putB (putsB (ofRows (fs.take k) p q)) fs[k].2 by rw [ofRows_yes hlt (by unfold ofB; rw [g1', g2']; rfl), putsB_snoc])
      have hrow6 : fs[k].2.length ≤ 2 := by have := of_decide_eq_true (p := (fs[k].2.length : Int) = q) (by simpa using g2'); omega
      have hl1 : (putsB (ofRows (fs.take k) p q)).length ≤ 1048576 := Nat.le_trans (putsB_length _) (Nat.le_trans (ofRows_len fs p q k) hn)
      have HL7 := Lib.hid (puts_short (fs := fs) (p := p) hq2 k)
      clear he1 he2
      go_upto_region 8 with fail
      obtain ⟨M, hM⟩ : ∃ M, M = putsB (ofRows (fs.take k) p q) := ⟨_, rfl⟩
      obtain ⟨M2, hM2⟩ : ∃ M2, M2 = putB M fs[k].2 := ⟨_, rfl⟩
      rw [← hM] at HOUT HN hl1 HL7
      rw [← hM2] at HN
      have HM2 := Lib.hid hM2
      have q2 : wi.cell? ⟨o9, 1, none⟩ = some (.slice A' M.length c') := HOUT.out.box.cell 1
      clear hM hM2 k1
      obtain ⟨SS, hSS⟩ : ∃ SS : World → Prop, SS = (fun W => W.cell? ⟨o9, 1, none⟩ = some (.slice A' M.length c') ∧ W.cell? ⟨b, o + k * 2 + 1, none⟩ = some (.slice A3 fs[k].2.length c3)) := ⟨_, rfl⟩
      have l0 := World.block_lt_of_cell? _ _ q2
      have l1 := World.block_lt_of_cell? _ _ k2
      have HSS := Lib.hid (show ∀ W, Below wi.heap.size wi W → SS W from by
        rw [hSS]
        exact fun W hW => ⟨(hW.cell l0).trans q2, (hW.cell l1).trans k2⟩)
      have HB := Lib.hid (show ∀ W, SS W → (W.cell? ⟨o9, 1, none⟩ = some (.slice A' M.length c') ∧ W.cell? ⟨b, o + k * 2 + 1, none⟩ = some (.slice A3 fs[k].2.length c3)) from by rw [hSS]; exact fun W hW => hW)
      clear hSS l0 l1 q2 k2
      refine wp_region_rel SS 10 11 (by kernel_rfl) rfl ?_
      obtain ⟨wy, hwy⟩ : ∃ wy, wy = wi.drew := ⟨_, rfl⟩
      have HBY := Lib.hid (show Below wi.heap.size wi wy by rw [hwy]; exact (Below.refl _ _).drew)
      rw [← hwy]
      clear hwy
      have hsy := HBY.out.size
      have S0 := Lib.hid (HSS.out _ HBY.out)
      refine wpAnyR_pure (i := 0) (oi := _) ?va0 rfl rfl (by kernel_rfl) (by decide) (fun _ _ _ h => h) rfl ?hya0 (fun _ => S0.out) ?resta0
      case hya0 => (intro W; go_simp; (try with_reducible rfl))
      try simp only [List.setIfInBounds_toArray, List.set_cons_zero, List.set_cons_succ]
      refine wpAnyR_take (i := 1) (oi := _) ?va1 rfl rfl (by kernel_rfl) (fun _ _ _ h => h) rfl ?hya1 S0.out ?resta1
      case hya1 => (intro W hW; obtain ⟨E0, E1⟩ := HB.out W hW; go_simp; (try with_reducible rfl))
      try simp only [List.setIfInBounds_toArray, List.set_cons_zero, List.set_cons_succ]
      refine wpAnyR_pure (i := 2) (oi := _) ?va2 rfl rfl (by kernel_rfl) (by decide) (fun _ _ _ h => h) rfl ?hya2 (fun _ => S0.out) ?resta2
      case hya2 => (intro W; go_simp; (try with_reducible rfl))
      try simp only [List.setIfInBounds_toArray, List.set_cons_zero, List.set_cons_succ]
      refine wpAnyR_pure (i := 3) (oi := _) ?va3 rfl rfl (by kernel_rfl) (by decide) (fun _ _ _ h => h) rfl ?hya3 (fun _ => S0.out) ?resta3
      case hya3 => (intro W; go_simp; (try with_reducible rfl))
      try simp only [List.setIfInBounds_toArray, List.set_cons_zero, List.set_cons_succ]
      refine wpAnyR_pure (i := 4) (oi := _) ?va4 rfl rfl (by kernel_rfl) (by decide) (fun _ _ _ h => h) rfl ?hya4 (fun _ => S0.out) ?resta4
      case hya4 => (intro W; go_simp; (try with_reducible rfl))
      try simp only [List.setIfInBounds_toArray, List.set_cons_zero, List.set_cons_succ]
      refine wpAnyR_pure (i := 5) (oi := _) ?va5 rfl rfl (by kernel_rfl) (by decide) (fun _ _ _ h => h) rfl ?hya5 (fun _ => S0.out) ?resta5
      case hya5 => (intro W; go_simp; (try with_reducible rfl))
      try simp only [List.setIfInBounds_toArray, List.set_cons_zero, List.set_cons_succ]
      refine wpAnyR_take (i := 6) (oi := _) ?va6 rfl rfl (by kernel_rfl) (fun _ _ _ h => h) rfl ?hya6 S0.out ?resta6
      case hya6 => (intro W hW; obtain ⟨E0, E1⟩ := HB.out W hW; go_simp; (try with_reducible rfl))
      try simp only [List.setIfInBounds_toArray, List.set_cons_zero, List.set_cons_succ]
      refine wpAnyR_one (i := 7) (by kernel_rfl) rfl (fun K hK => ?_)
      try rw [if_pos (show Region.wanted _ _ = true from rfl)]
      go_simp
      refine (l3Copy_any (.slice A3 fs[k].2.length c3) fs[k].2 _ (HR0.out.on HBY.out) (by omega)).mono ?_
      rintro e W4 ⟨A6, c6, rfl, ho6, hb6⟩
      have HB4 := Lib.hid (bthen HBY.out hb6)
      have HO6 := Lib.hid (ho6.mono HBY.out.size (Nat.le_refl _))
      have HP4 := Lib.hid (HOUT.out.on HB4.out)
      have hs4 := HB4.out.size
      have S1 := Lib.hid (HSS.out _ HB4.out)
      clear ho6 hb6
      refine hK.out _ _ (fun _ => S1.out) ?_
      clear hK K
      try simp only [List.setIfInBounds_toArray, List.set_cons_zero, List.set_cons_succ, Act.put]
      refine wpAnyR_one (i := 8) (by kernel_rfl) rfl (fun K hK => ?_)
      try rw [if_pos (show Region.wanted _ _ = true from rfl)]
      go_simp
      refine (l3Put_any (.slice A' M.length c') (.slice A6 fs[k].2.length c6) M fs[k].2 M2 HM2.out w3.heap.size W4.heap.size W4 HP4.out.rows (HO6.out.mono (by omega) (Nat.le_refl _)) (Nat.le_refl _) (by omega) (by omega) HL7.out (by omega)).mono ?_
      rintro e W5 ⟨A7, c7, rfl, ho7, hb7⟩
      have HB5 := Lib.hid (bthen HB4.out hb7)
      have HPU := Lib.hid (HP4.out.put hb7 ho7)
      have hbx := HP4.out.box.below hb7 HP4.out.box.lt
      have g1 : W5.cell? ⟨o9, 1, none⟩ = some (.slice A' M.length c') := hbx.cell 1
      have g1f := hbx.frozen 1
      have S2 := Lib.hid (HSS.out _ HB5.out)
      clear ho7 hb7 hbx
      refine hK.out _ _ (fun _ => S2.out) ?_
      clear hK K
      try simp only [List.setIfInBounds_toArray, List.set_cons_zero, List.set_cons_succ, Act.put]
      refine wpAnyR_pure (i := 9) (oi := _) ?vb9 rfl rfl (by kernel_rfl) (by decide) (fun _ _ _ h => h) rfl ?hyb9 (fun _ => S2.out) ?restb9
      case hyb9 => (intro W; go_simp; (try with_reducible rfl))
      try simp only [List.setIfInBounds_toArray, List.set_cons_zero, List.set_cons_succ]
      refine wpAnyR_one (i := 10) (by kernel_rfl) rfl (fun K hK => ?_)
      go_simp
      refine hK.out _ _ (fun hf => absurd hf (by decide)) ?_
      clear hK K
      refine wpAnyR_done (by kernel_rfl) ?_
      go_wp2_with fail
      go_roundw
      case rel => exact ⟨k + 1, A7, c7, by omega, by go_num, by rw [HN.out]; exact HPU.out.1, HBE.out.trans ((HB4.out.mono (by omega)).trans HPU.out.2)⟩
      case measure => simp [intOf]; omega
    · have hkn : k = fs.length := by omega
      have HO2 := Lib.hid (show PutAt w3.heap.size o9 wi q (putsB (ofRows fs p q)) A' c' by have := HOUT.out; rw [hkn, List.take_length] at this; exact this)
      have z1 := HX.out.below HBE.out hlo
      have b1c0 : wi.cell? ⟨w.heap.size, 0, none⟩ = some (.int .i64 0) := z1.cell 0
      have b1c1 : wi.cell? ⟨w.heap.size, 1, none⟩ = some (.slice none 0 0) := z1.cell 1
      have b1f0 := z1.frozen 0
      have b1f1 := z1.frozen 1
      have d0 : wi.cell? ⟨o9, 0, none⟩ = some (.int .i64 q) := HO2.out.box.cell 0
      have d1 : wi.cell? ⟨o9, 1, none⟩ = some (.slice A' (putsB (ofRows fs p q)).length c') := HO2.out.box.cell 1
      obtain ⟨M, hM⟩ : ∃ M, M = putsB (ofRows fs p q) := ⟨_, rfl⟩
      rw [← hM] at HO2 d1 HF
      clear hkn hM HOUT z1
      go_wp2_with fail
      refine bodyPost_ret (v := .agg #[.int .i64 q, .slice A' M.length c']) (by simp [results, Try.results19, go_sem, b1c0, b1c1]) rfl ?_
      rw [HF.out]
      refine ⟨A', c', rfl, ?_, (BW.out.setCell (by simp <;> omega) _).setCell (by simp <;> omega) _⟩
      have hrw := HO2.out.rows
      have h1 := (hrw.only (Only.setCell (Only.refl 0 (w.heap.size + 1) wi) (p := ⟨w.heap.size, 0, none⟩) ⟨Nat.zero_le _, by simp⟩ (.int .i64 q)) (.inr (by omega)))
      have h2 := (h1.only (Only.setCell (Only.refl 0 (w.heap.size + 1) _) (p := ⟨w.heap.size, 1, none⟩) ⟨Nat.zero_le _, by simp⟩ (.slice A' M.length c')) (.inr (by omega)))
      exact h2.mono (by omega) (by simp)

end Go.Proofs.Ytchincemlilnoaa
/-
  RelOf of the program.
-/
namespace Go.Proofs.Ytchincemlilnoaa
open Go.RowKit

theorem const_at {fs : List LFact} (h : constsL fs = true) {k : Nat} (hk : k < fs.length) : fs[k].2.all constOk = true := by
  unfold constsL at h
  exact List.all_eq_true.1 h _ (List.getElem_mem hk)
theorem totSS_even {n : Nat} : ∀ {L : List (List Int)}, (∀ row ∈ L, row.length = n) → totSS L = n * L.length
  | [], _ => by simp [totSS]
  | x :: L, h => by
    have h1 := h x List.mem_cons_self
    have h2 := totSS_even (L := L) fun row hr => h row (List.mem_cons_of_mem _ hr)
    have h3 : totSS (x :: L) = x.length + totSS L := by simp [totSS]
    rw [h3, List.length_cons, Nat.mul_add]
    omega
theorem ofRows_tot (p q : Int) : ∀ fs : List LFact, (ofRows fs p q).length + totSS (ofRows fs p q) ≤ fs.length + tot fs
  | [] => by simp [ofRows, totSS]
  | f :: fs => by
    have ih := ofRows_tot p q fs
    have h1 : tot (f :: fs) = f.2.length + tot fs := by simp [tot]
    rw [h1, List.length_cons]
    unfold ofRows at ih ⊢
    rw [List.filter_cons]
    split
    · rw [List.map_cons, List.length_cons]
      have h2 : ∀ (x : List Int) (L : List (List Int)), totSS (x :: L) = x.length + totSS L := fun x L => by simp [totSS]
      rw [h2]
      omega
    · omega
theorem ofR_fits (fs : List LFact) (p q : Int) : szRows (ofR fs p q).2 ≤ fs.length + tot fs := by
  unfold ofR
  split
  · rename_i h1
    have hq : 0 ≤ q ∧ q ≤ 2 := of_decide_eq_true h1.1
    obtain ⟨n, rfl⟩ := Int.eq_ofNat_of_zero_le hq.1
    have h2 : ∀ row ∈ ofRows fs p n, row.length = n := fun x hx => by
      obtain ⟨_, _, _, h⟩ := ofRows_in hx
      omega
    have h3 : totSS (putsB (ofRows fs p n)) = n * (putsB (ofRows fs p n)).length := totSS_even fun x hx => h2 x (putsB_mem.1 hx)
    have h4 := totSS_even h2
    have h5 := putsB_length (ofRows fs p n)
    have h6 := ofRows_tot p n fs
    have h7 : n * (putsB (ofRows fs p n)).length ≤ n * (ofRows fs p n).length := Nat.mul_le_mul_left _ h5
    show (putsB (ofRows fs p n)).length + totSS (putsB (ofRows fs p n)) ≤ _
    omega
  · simp [szRows, totSS]
theorem numF_small {xs : List Int} (h : xs.all constOk = true) (hl : xs.length ≤ 2) : numF xs < 36 := by
  have h1 := numF_lt_pow h
  have h2 : (6 : Nat) ^ xs.length ≤ 6 ^ 2 := Nat.pow_le_pow_right (by decide) hl
  omega

set_option maxHeartbeats 4000000 in
set_option maxRecDepth 100000 in
theorem implRelOf_any (v : Value) (fs : List LFact) (p q : Int) (R : LRel) (hR : R = ofR fs p q) (w : World) (h : RdFacts w w.heap.size v fs) (hn : fs.length ≤ 1048576) (ht : tot fs ≤ 1048576) :
    Calls Try.prog 21 #[v, .int .i64 p, .int .i64 q] w fun e w' => ∃ A' c', e = .returned (.agg #[.int .i64 R.1, .slice A' R.2.length c']) ∧ OwnRows w' w.heap.size w'.heap.size (.slice A' R.2.length c') R.2 ∧ Below w.heap.size w w' := by
  have HR := Lib.hid hR
  have H := Lib.hid h
  obtain ⟨A, c, rfl, hc, _⟩ := h
  clear hR
  obtain ⟨i0, hi0, hz0, hz1, hz2⟩ := info_parts Try.infoInt
  go_enter Try.func21, Try.ntmps21
  go_upto_region 1 with fail
  obtain ⟨w3, hw3⟩ : ∃ w3, w3 = w.alloc (Obj.cells #[Value.int IntKind.i64 0, Value.slice none 0 0] 27) := ⟨_, rfl⟩
  have B3 : Below w.heap.size w w3 := by rw [hw3]; exact below1 _ _
  have s3 : w3.heap.size = w.heap.size + 1 := by rw [hw3]; simp
  have x1 : Blk w3 w.heap.size 27 #[.int .i64 0, .slice none 0 0] := by rw [hw3]; exact Blk.new w _ _
  rw [← hw3]
  clear hw3
  have b1c0 : w3.cell? ⟨w.heap.size, 0, none⟩ = some (.int .i64 0) := x1.cell 0
  have b1c1 : w3.cell? ⟨w.heap.size, 1, none⟩ = some (.slice none 0 0) := x1.cell 1
  have b1f0 := x1.frozen 0
  have b1f1 := x1.frozen 1
  by_cases hq0 : q < 0
  · have d0 : decide (q < 0) = true := decide_eq_true hq0
    have HE := Lib.hid (show R = (0, []) by rw [HR.out]; exact ofR_wide (decide_eq_false (by omega)))
    clear hq0
    go_wp2_with fail
    refine bodyPost_ret (v := .agg #[.int .i64 0, .slice none 0 0]) (by simp [results, Try.results21, go_sem, b1c0, b1c1]) rfl ?_
    rw [HE.out]
    exact ⟨none, 0, rfl, OwnRows.none _ _ _, (B3.setCell (by simp <;> omega) _).setCell (by simp <;> omega) _⟩
  have d0 : decide (q < 0) = false := decide_eq_false hq0
  by_cases hq2 : 2 < q
  · have d1 : decide (q > 2) = true := decide_eq_true hq2
    have d2 : decide (2 < q) = true := decide_eq_true hq2
    have HE := Lib.hid (show R = (0, []) by rw [HR.out]; exact ofR_wide (decide_eq_false (by omega)))
    clear hq2 hq0
    go_wp2_with fail
    refine bodyPost_ret (v := .agg #[.int .i64 0, .slice none 0 0]) (by simp [results, Try.results21, go_sem, b1c0, b1c1]) rfl ?_
    rw [HE.out]
    exact ⟨none, 0, rfl, OwnRows.none _ _ _, (B3.setCell (by simp <;> omega) _).setCell (by simp <;> omega) _⟩
  have d1 : decide (q > 2) = false := decide_eq_false hq2
  have d2 : decide (2 < q) = false := decide_eq_false hq2
  obtain ⟨pl, rfl⟩ := Int.eq_ofNat_of_zero_le (show 0 ≤ q by omega)
  have HP2 := Lib.hid (show pl ≤ 2 by omega)
  clear hq0 hq2
  obtain ⟨kb, hkb⟩ : ∃ kb, kb = constsL fs := ⟨_, rfl⟩
  have HC := Lib.hid (haveConstants_any (.slice A fs.length c) fs kb hkb.symm w3 (H.out.on B3) hn ht)
  have HKB := Lib.hid hkb
  have HX := Lib.hid x1
  clear hkb x1
  go_wp2_with fail
  refine HC.out.mono ?_
  rintro e w4 ⟨rfl, hb4⟩
  have B4 := bthen B3 hb4
  have s4 := hb4.size
  have y1 := HX.out.below hb4 HX.out.lt
  clear b1c0 b1c1 b1f0 b1f1
  have b1c0 : w4.cell? ⟨w.heap.size, 0, none⟩ = some (.int .i64 0) := y1.cell 0
  have b1c1 : w4.cell? ⟨w.heap.size, 1, none⟩ = some (.slice none 0 0) := y1.cell 1
  have b1f0 := y1.frozen 0
  have b1f1 := y1.frozen 1
  cases kb
  · have HE := Lib.hid (show R = (0, []) by rw [HR.out]; exact ofR_consts HKB.out.symm)
    go_wp2_with fail
    refine bodyPost_ret (v := .agg #[.int .i64 0, .slice none 0 0]) (by simp [results, Try.results21, go_sem, b1c0, b1c1]) rfl ?_
    rw [HE.out]
    exact ⟨none, 0, rfl, OwnRows.none _ _ _, (B4.setCell (by simp <;> omega) _).setCell (by simp <;> omega) _⟩
  have HF := Lib.hid (show R = ((pl : Int), putsB (ofRows fs p pl)) by rw [HR.out]; exact ofR_yes (decide_eq_true (by have := HP2.out; omega)) HKB.out.symm)
  have HY := Lib.hid y1
  have hw4 : w.heap.size < w4.heap.size := by omega
  clear y1 b1c0 b1c1 b1f0 b1f1
  go_wp2_with fail
  go_loopw [7, 24] (fun o i wr => ∃ (k : Nat) (A' : Option Addr) (c' : Nat) (zs : List Int), k ≤ fs.length ∧ i = .int .i64 k ∧ o = .slice A' zs.length c' ∧ Hid (zs = (ofRows (fs.take k) p pl).map numI) ∧ ColI w4 wr zs A' c') (fun _ i _ => fs.length - (intOf i).toNat)
  case atStart => exact ⟨0, none, 0, [], Nat.zero_le _, rfl, rfl, Lib.hid (by simp [ofRows]), ColI.nil (Below.refl _ _)⟩
  case round =>
    obtain ⟨k, A', c', zs, hk, rfl, rfl, HZ, hci⟩ := hrel
    have HCI := Lib.hid hci
    have BW := Lib.hid (bthen B4 hci.below)
    have hzl : zs.length ≤ 1048576 := by
      rw [HZ.out, List.length_map]
      exact Nat.le_trans (ofRows_len fs p pl k) hn
    have hsw := hci.below.size
    clear hci
    by_cases hlt : k < fs.length
    · obtain ⟨b, o, A3, c3, rfl, hbB, k1, k2, r0⟩ := (H.out.on BW.out).get hlt
      have hkz : (0 : Int) ≤ (k : Int) := by omega
      have hki : (k : Int) < (fs.length : Int) := by omega
      obtain ⟨e1, he1⟩ : ∃ e1, e1 = (fs[k].1 == p) := ⟨_, rfl⟩
      obtain ⟨e2, he2⟩ : ∃ e2, e2 = ((fs[k].2.length : Int) == (pl : Int)) := ⟨_, rfl⟩
      have g1' := he1.symm
      have g2' := he2.symm
      have HR0 := Lib.hid r0
      clear r0
      cases e1
      · have HN := Lib.hid (show zs = (ofRows (fs.take (k + 1)) p pl).map numI by rw [HZ.out, ofRows_no hlt (by unfold ofB; rw [g1']; rfl)])
        clear he1 he2
        go_wp2_with fail
        go_roundw
        case rel => exact ⟨k + 1, A', c', zs, by omega, by go_num, rfl, HN, ⟨HCI.out.below.alloc HCI.out.below.size _, (HCI.out.own.below (below1 _ _) (Nat.le_refl _)).mono (Nat.le_refl _) (by simp)⟩⟩
        case measure => simp [intOf]; omega
      cases e2
      · have HN := Lib.hid (show zs = (ofRows (fs.take (k + 1)) p pl).map numI by rw [HZ.out, ofRows_no hlt (by unfold ofB; rw [g2', Bool.and_false])])
        clear he1 he2
        go_wp2_with fail
        go_roundw
        case rel => exact ⟨k + 1, A', c', zs, by omega, by go_num, rfl, HN, ⟨HCI.out.below.alloc HCI.out.below.size _, (HCI.out.own.below (below1 _ _) (Nat.le_refl _)).mono (Nat.le_refl _) (by simp)⟩⟩
        case measure => simp [intOf]; omega
      have HN := Lib.hid (show zs ++ [((numF fs[k].2 : Nat) : Int)] = (ofRows (fs.take (k + 1)) p pl).map numI by
        rw [HZ.out, ofRows_yes hlt (by unfold ofB; rw [g1', g2']; rfl), List.map_append]
        rfl)
      have hl2 : fs[k].2.length ≤ 2 := by have := of_decide_eq_true (p := (fs[k].2.length : Int) = (pl : Int)) (by simpa using g2'); have := HP2.out; omega
      have CN := Lib.hid (fun W (hW : Below wr.heap.size wr W) => constantsNumber_any (.slice A3 fs[k].2.length c3) fs[k].2 wr.heap.size W (HR0.out.below hW (Nat.le_refl _)) (const_at HKB.out.symm hlt) hl2)
      have hN36 := numF_small (const_at HKB.out.symm hlt) hl2
      obtain ⟨Nn, hNn⟩ : ∃ Nn, Nn = numF fs[k].2 := ⟨_, rfl⟩
      rw [← hNn] at CN HN hN36
      clear he1 he2 hNn
      go_wp2_with (first | (go_at_call 58; refine (CN.out _ (below1 _ _)).mono ?_; rintro e w2 ⟨rfl, rfl⟩) | (at_builtin; refine wpList_append_lies _ rfl (.tmp 39) (.tmp 43) 42 rfl w4.heap.size 3 i0 (.int .i64 0) 1 8 Try.underlying42 hi0 hz0 hz1 hz2 rfl (by decide) (.slice A' zs.length c') zs.length (zs.map (Value.int .i64)) rfl ?c1 ⟨_, 0, none⟩ 1 1 [.int .i64 (Nn : Int)] rfl rfl (news1s _ _ _ _ (by simp)) ?c2 (by omega) (by unfold maxLen; omega) (by omega) ?c3 _ rfl ?_))
      case c1 => exact ((HCI.out.own.below (below1 _ _) (Nat.le_refl _)).1).alloc _
      case c2 => first | rfl | (intro u hu; simp at hu; subst hu; rfl)
      case c3 => simp; omega
      intro g cap w5 hown hg _ _
      have hcol := HCI.out.push (below1 _ _) hg hown
      rw [HN.out] at hcol
      have hlen : zs.length + 1 = ((ofRows (fs.take (k + 1)) p pl).map numI).length := by rw [← HN.out]; simp
      rw [hlen]
      have HC2 := Lib.hid hcol
      clear hcol hlen hown hg
      go_wp2_with fail
      go_roundw
      case rel => exact ⟨k + 1, _, _, _, by omega, by go_num, rfl, Lib.hid rfl, HC2.out⟩
      case measure => simp [intOf]; omega
    · have HZ2 := Lib.hid (show zs = (ofRows fs p pl).map numI by rw [HZ.out, show k = fs.length by omega, List.take_length])
      have hrows : ∀ x ∈ ofRows fs p pl, x.length = pl ∧ x.all constOk = true := fun x hx => by
        obtain ⟨f, hf, e, hl⟩ := ofRows_in hx
        obtain ⟨j, hj, rfl⟩ := List.getElem_of_mem hf
        exact ⟨by omega, by rw [← e]; exact const_at HKB.out.symm hj⟩
      have HN := Lib.hid (show numRows zs pl = putsB (ofRows fs p pl) by rw [HZ2.out]; exact numRows_puts hrows)
      have HK := Lib.hid (show ∀ z, z ∈ zs → 0 ≤ z ∧ z ≤ 1048576 by rw [HZ2.out]; exact numI_small hrows (by have := HP2.out; omega))
      have NR := Lib.hid (numbersRel_any pl (.slice A' zs.length c') zs w4.heap.size wr.heap.size wr HCI.out.own (Nat.le_refl _) hsw HK.out (by have := HP2.out; omega) hzl)
      rw [HN.out] at NR
      obtain ⟨F, hF⟩ : ∃ F, F = putsB (ofRows fs p pl) := ⟨_, rfl⟩
      rw [← hF] at HF NR
      clear hF hrows
      go_wp2_with fail
      refine NR.out.mono ?_
      rintro e w8 ⟨A8, c8, rfl, ho8, hb8⟩
      have hb48 : Below w4.heap.size w4 w8 := HCI.out.below.trans hb8
      have z7 := HY.out.below hb48 HY.out.lt
      have s8 := hb48.size
      have b1c0 : w8.cell? ⟨w.heap.size, 0, none⟩ = some (.int .i64 0) := z7.cell 0
      have b1c1 : w8.cell? ⟨w.heap.size, 1, none⟩ = some (.slice none 0 0) := z7.cell 1
      have b1f0 := z7.frozen 0
      have b1f1 := z7.frozen 1
      have B7 := bthen B4 hb48
      have HO := Lib.hid ho8
      clear ho8 z7 hb8 hb48
      go_wp2_with fail
      refine bodyPost_ret (v := .agg #[.int .i64 pl, .slice A8 F.length c8]) (by simp [results, Try.results21, go_sem, b1c0, b1c1]) rfl ?_
      rw [HF.out]
      refine ⟨A8, c8, rfl, ?_, (B7.setCell (by simp <;> omega) _).setCell (by simp <;> omega) _⟩
      have hrw := HO.out
      have h1 := (hrw.only (Only.setCell (Only.refl 0 (w.heap.size + 1) w8) (p := ⟨w.heap.size, 0, none⟩) ⟨Nat.zero_le _, by simp⟩ (.int .i64 pl)) (.inr (by omega)))
      have h2 := (h1.only (Only.setCell (Only.refl 0 (w.heap.size + 1) _) (p := ⟨w.heap.size, 1, none⟩) ⟨Nat.zero_le _, by simp⟩ (.slice A8 F.length c8)) (.inr (by omega)))
      exact h2.mono (by omega) (by simp)

end Go.Proofs.Ytchincemlilnoaa
/-
  Marks and sizes of lists of facts, in the one form that the laws' walks ask.
-/
namespace Go.Proofs.Ytchincemlilnoaa
open Go.RowKit

def szF (fs : List LFact) : Nat := fs.length + tot fs
/-- The marks from k on stand in a row of facts, and end at z. -/
def HdFacts (w : World) (lo hi : Nat) (v : Value) (fs : List LFact) (k z : Int) : Prop := OwnFacts w lo hi v (markF k fs) ∧ z = endF k fs ∧ 0 ≤ k ∧ k ≤ 4294967296 ∧ szF fs ≤ 1073741824
theorem HdFacts.below {w w' : World} {lo hi B : Nat} {v : Value} {fs : List LFact} {k z : Int} (h : HdFacts w lo hi v fs k z) (hb : Below B w w') (hB : hi ≤ B) : HdFacts w' lo hi v fs k z := ⟨h.1.below hb hB, h.2⟩
theorem HdFacts.only {w w' : World} {lo hi lo' hi' : Nat} {v : Value} {fs : List LFact} {k z : Int} (h : HdFacts w lo hi v fs k z) (ho : Only lo' hi' w w') (hd : hi ≤ lo' ∨ hi' ≤ lo) : HdFacts w' lo hi v fs k z := ⟨h.1.only ho hd, h.2⟩

theorem um_facts {v : Value} {fs : List LFact} {lo hi : Nat} {w : World} (k : Int) (h : OwnFacts w lo hi v fs) (hk0 : 0 ≤ k) (hk : k ≤ 4294967296) (hs : szF fs ≤ 1073741824) :
    Calls Try.prog 23 #[v, .int .i64 k] w fun e w' => ∃ z, e = .returned (.int .i64 z) ∧ k ≤ z ∧ z ≤ k + szF fs ∧ HdFacts w' lo hi v fs k z ∧ Only lo hi w w' :=
  (markFactS_any v fs k lo hi w h hk0 hk (by unfold szF at hs; omega) (by unfold szF at hs; omega)).mono fun _ _ ⟨he, ho, hg⟩ =>
    ⟨_, he, by unfold endF; omega, by unfold endF szF; omega, ⟨ho, rfl, hk0, hk, hs⟩, hg⟩

theorem us_facts {v : Value} {fs : List LFact} {left : Int} {w : World} (h : RdFacts w w.heap.size v fs) (h0 : 0 ≤ left) (hl : left ≤ 1048576) (hn : fs.length ≤ maxLen) (hm : ∀ k (h : k < fs.length), fs[k].2.length ≤ maxLen) :
    Calls Try.prog 18 #[v, .int .i64 left] w fun e w' => ∃ z, e = .returned (.int .i64 z) ∧ (z = -1 ∨ (0 ≤ z ∧ z + szF fs = left)) ∧ Below w.heap.size w w' :=
  (szFactS_any v fs left w h h0 hl (by unfold maxLen at hn; omega) (fun k hk => by have := hm k hk; unfold maxLen at this; omega)).mono fun _ _ ⟨r, he, hr, hb⟩ => ⟨r, he, hr.imp id fun ⟨a, b⟩ => ⟨a, by unfold szF; omega⟩, hb⟩

end Go.Proofs.Ytchincemlilnoaa
/-
  What comes in, opened into the words of the Base text.
-/
namespace Go.Proofs.Ytchincemlilnoaa
open Go.ChangeShapes Go.WideShapes Go.ChangeAt Go.RowKit Go.Joins Go.Deep

section
variable {H : Type} {enc : TypeId × Value → H} {W : World}

def InFact (W : World) (v : Value) (f : LFact) : Prop := RdFact W W.heap.size v f ∧ f.2.length ≤ maxLen
def InFacts (W : World) (v : Value) (fs : List LFact) : Prop := RdFacts W W.heap.size v fs ∧ fs.length ≤ maxLen ∧ ∀ k (h : k < fs.length), fs[k].2.length ≤ maxLen

theorem Try.cells63 : Try.prog.cellsOf 63 = 2 := by kernel_rfl
set_option maxRecDepth 100000 in
theorem open_inFact {v : Value} {d : DataW H} {p : List MemPlace} {b0 : Nat} (hv : Value.okWide Try.prog W .any b0 63 v) (h : DataW.Trod enc Try.prog W 0 (fun _ => true) true 63 v d p) :
    ∃ f, InFact W v f := by
  obtain ⟨v0, v1, y0, y1, n, rfl, _, _, h0, h1⟩ := open_agg2 Try.underlying63 (by kernel_rfl) Try.cells63 hv h
  obtain ⟨m, e0, _, _⟩ := DataW.trod_int Try.underlying3 h0
  simp at e0
  subst e0
  obtain ⟨xs, hx⟩ := open_inInts_cells h1
  exact ⟨(m, xs), ⟨v1, rfl, hx.1⟩, hx.2⟩

set_option maxRecDepth 100000 in
theorem open_inFacts {v : Value} {d : DataW H} {p : List MemPlace} {b0 : Nat} (hv : Value.okWide Try.prog W .any b0 31 v) (h : DataW.Trod enc Try.prog W 0 (fun _ => true) true 31 v d p) :
    ∃ fs, InFacts W v fs := by
  obtain ⟨a, len, cap, rfl⟩ := okWide_slice Try.underlying31 hv
  obtain ⟨fuel, hf⟩ := h
  rcases open_slice_pairs Try.underlying31 Try.underlying63 Try.cells63 rfl rfl Try.cells3 Try.cells42 hf with ⟨hcs, _⟩ | ⟨a', len', cap', m, n, V0, V1, D0, D1, P0, P1, hcs, _, hl, hm, hmm, _, hx⟩
  · simp [Value.cells] at hcs
    obtain ⟨rfl, rfl, rfl⟩ := hcs
    exact ⟨[], ⟨none, 0, rfl, by simp, fun h => absurd h (by simp)⟩, by simp, fun k h => absurd h (by simp)⟩
  · simp [Value.cells] at hcs
    obtain ⟨rfl, rfl, rfl⟩ := hcs
    simp at hmm
    subst hmm
    obtain ⟨F, hF⟩ := choose_lt (α := LFact) (n := len) (p := fun i f => V0 i = .int .i64 f.1 ∧ InInts W (V1 i) f.2) (fun i hi => by
      obtain ⟨_, _, h0, h1⟩ := hx i (by omega)
      obtain ⟨q, e0, _, _⟩ := DataW.trod_int Try.underlying3 h0
      obtain ⟨xs, hxs⟩ := open_inInts_cells h1
      simp at e0
      exact ⟨(q, xs), e0, hxs⟩)
    refine ⟨(List.range len).map F, ⟨some a', m, by simp, by simpa using hl, fun hn => ?_⟩, by simp; omega, fun k hk => ?_⟩
    · simp at hn
      obtain ⟨b, off, spot⟩ := a'
      have hspot : spot = none := by simpa [Addr.add] using World.cell?_spot (hx 0 (by omega)).1
      subst hspot
      have hb : b < W.heap.size := by simpa [Addr.add] using World.block_lt_of_cell? _ _ (hx 0 (by omega)).1
      refine ⟨b, off, rfl, hb, fun k hk => ?_⟩
      simp at hk
      obtain ⟨c0, c1, _, _⟩ := hx k (by omega)
      obtain ⟨e0, e1⟩ := hF k hk
      rw [Go.WideShapes.add_plain, e0] at c0
      rw [Go.WideShapes.add_plain] at c1
      exact ⟨V1 k, by simpa using c0, by simpa [Nat.add_assoc] using c1, by simpa using e1.1⟩
    · simp at hk ⊢
      exact (hF k hk).2.2
end

end Go.Proofs.Ytchincemlilnoaa
/-
  The walk of the law on RelOf (written by wip/genlaw.py).
-/
namespace Go.Proofs.Ytchincemlilnoaa
open Go.RowKit

set_option maxHeartbeats 4000000 in
set_option maxRecDepth 100000 in
theorem lawRelOf_any (v0 : Value) (fs : List LFact) (p : Int) (q : Int) (w : World) (h0 : RdFacts w w.heap.size v0 fs) (n0 : fs.length ≤ maxLen) (m0 : ∀ k (h : k < fs.length), fs[k].2.length ≤ maxLen) :
    Calls Try.prog 4 #[v0, .int .i64 p, .int .i64 q] w fun e w' => e = .returned (.bool true) ∧ Below w.heap.size w w' := by
  have H0 := Lib.hid h0
  obtain ⟨A0, c0, rfl, hc0, _⟩ := h0
  go_enter Try.func4, Try.ntmps4
  go_wp2_with (fail)
  refine (us_facts H0.out (by omega) (by omega) n0 m0).mono ?_
  rintro e w1 ⟨z0, rfl, hz0, hbz0⟩
  have s_w1 := hbz0.size
  have B_w1 := hbz0
  rcases hz0 with rfl | ⟨zp0, zs0⟩
  · go_wp2_with (fail)
    go_ret
    exact ⟨rfl, B_w1⟩
  have zn0 : ¬ z0 < 0 := by omega
  have r0 : szF fs ≤ 1048576 := by omega
  have zl0 : z0 ≤ 1048576 := by omega
  have ZS0 := Lib.hid zs0
  clear zs0 zn0
  have zn0 : ¬ z0 < 0 := by omega
  obtain ⟨R0, hR0⟩ : ∃ R, R = ofR fs p q := ⟨_, rfl⟩
  have HR0 := Lib.hid hR0
  have HRs0 := Lib.hid (show szRows R0.2 ≤ 1048576 by rw [hR0]; exact Nat.le_trans (ofR_fits fs p q) (by unfold szF at *; omega))
  have R0s := HRs0.out
  clear hR0
  go_wp2_with (fail)
  refine (toFactS_any _ fs _ (H0.out.on B_w1) (by unfold szF at *; omega) (by unfold szF at *; omega)).mono ?_
  rintro e w2 ⟨P1, d1, rfl, o1, hb1⟩
  have s_w2 := hb1.size
  have B_w2 := bthen B_w1 hb1
  go_wp2_with (fail)
  refine (specRelOf_any _ fs p q _ rfl _ (o1.rd.more (by omega)) (by unfold szF at r0; omega) (by unfold szF at r0; omega)).mono ?_
  rw [← HR0.out]
  rintro e w3 ⟨Q2_0, f2_0, rfl, o2_0, hb2⟩
  have s_w3 := hb2.size
  have tw0_3 := o1.below hb2 (by omega)
  clear o1
  have B_w3 := bthen B_w2 hb2
  go_wp2_with (fail)
  obtain ⟨w4, hw_w4⟩ : ∃ W', W' = w3.alloc (Obj.cells #[Value.int IntKind.i64 R0.1, Value.slice Q2_0 R0.2.length f2_0] 27) := ⟨_, rfl⟩
  rw [← hw_w4]
  have hb_w4 : Below w3.heap.size w3 w4 := by rw [hw_w4]; exact below1 _ _
  have bw0_n : Blk w4 w3.heap.size 27 #[.int .i64 R0.1, .slice Q2_0 R0.2.length f2_0] := by rw [hw_w4]; exact Blk.new _ _ _
  have bw0_nl := bw0_n.lt
  clear hw_w4
  have s_w4 := hb_w4.size
  have w0_4 := o2_0.below hb_w4 (by omega)
  clear o2_0
  have B_w4 := bthen B_w3 hb_w4
  refine (toFactS_any _ fs _ (H0.out.on B_w4) (by unfold szF at *; omega) (by unfold szF at *; omega)).mono ?_
  rintro e w5 ⟨P3, d3, rfl, o3, hb3⟩
  have s_w5 := hb3.size
  have w0_5 := w0_4.below hb3 (by omega)
  clear w0_4
  have bw0_5 := bw0_n.below hb3 (by first | exact bw0_n.lt | omega)
  clear bw0_n
  have bw0_5_l := bw0_5.lt
  have B_w5 := bthen B_w4 hb3
  have q1 : w5.cell? ⟨w3.heap.size, 0, none⟩ = some (.int .i64 R0.1) := bw0_5.cell 0
  have q2 : w5.cell? ⟨w3.heap.size, 1, none⟩ = some (.slice Q2_0 R0.2.length f2_0) := bw0_5.cell 1
  go_wp2_with (fail)
  clear q1 q2
  refine (implRelOf_any _ fs p q _ rfl _ (o3.rd.more (by omega)) (by unfold szF at r0; omega) (by unfold szF at r0; omega)).mono ?_
  rw [← HR0.out]
  rintro e w6 ⟨Q4_0, f4_0, rfl, o4_0, hb4⟩
  have s_w6 := hb4.size
  have w0_6 := w0_5.below hb4 (by omega)
  clear w0_5
  have bw0_6 := bw0_5.below hb4 (by first | exact bw0_5.lt | omega)
  clear bw0_5
  have bw0_6_l := bw0_6.lt
  have x0_6 := o3.below hb4 (by omega)
  clear o3
  have B_w6 := bthen B_w5 hb4
  have q3 : w6.cell? ⟨w3.heap.size, 0, none⟩ = some (.int .i64 R0.1) := bw0_6.cell 0
  have q4 : w6.cell? ⟨w3.heap.size, 1, none⟩ = some (.slice Q2_0 R0.2.length f2_0) := bw0_6.cell 1
  go_wp2_with (fail)
  clear q3 q4
  obtain ⟨w7, hw_w7⟩ : ∃ W', W' = w6.alloc (Obj.cells #[Value.int IntKind.i64 R0.1, Value.slice Q4_0 R0.2.length f4_0] 27) := ⟨_, rfl⟩
  rw [← hw_w7]
  have hb_w7 : Below w6.heap.size w6 w7 := by rw [hw_w7]; exact below1 _ _
  have bg0_n : Blk w7 w6.heap.size 27 #[.int .i64 R0.1, .slice Q4_0 R0.2.length f4_0] := by rw [hw_w7]; exact Blk.new _ _ _
  have bg0_nl := bg0_n.lt
  clear hw_w7
  have s_w7 := hb_w7.size
  have w0_7 := w0_6.below hb_w7 (by omega)
  clear w0_6
  have bw0_7 := bw0_6.below hb_w7 (by first | exact bw0_6.lt | omega)
  clear bw0_6
  have bw0_7_l := bw0_7.lt
  have x0_7 := x0_6.below hb_w7 (by omega)
  clear x0_6
  have g0_7 := o4_0.below hb_w7 (by omega)
  clear o4_0
  have B_w7 := bthen B_w6 hb_w7
  refine (eqRel_any _ _ R0 R0 _ ⟨_, rfl, g0_7.rd.more (by omega)⟩ ⟨_, rfl, w0_7.rd.more (by omega)⟩ rfl (by omega)).mono ?_
  rintro e w8 ⟨rfl, hb5⟩
  rw [show decide (R0 = R0) = true by simp]
  have s_w8 := hb5.size
  have w0_8 := w0_7.below hb5 (by omega)
  clear w0_7
  have bw0_8 := bw0_7.below hb5 (by first | exact bw0_7.lt | omega)
  clear bw0_7
  have bw0_8_l := bw0_8.lt
  have x0_8 := x0_7.below hb5 (by omega)
  clear x0_7
  have g0_8 := g0_7.below hb5 (by omega)
  clear g0_7
  have bg0_8 := bg0_n.below hb5 (by first | exact bg0_n.lt | omega)
  clear bg0_n
  have bg0_8_l := bg0_8.lt
  have B_w8 := bthen B_w7 hb5
  have q5 : w8.cell? ⟨w3.heap.size, 0, none⟩ = some (.int .i64 R0.1) := bw0_8.cell 0
  have q6 : w8.cell? ⟨w3.heap.size, 1, none⟩ = some (.slice Q2_0 R0.2.length f2_0) := bw0_8.cell 1
  have q7 : w8.cell? ⟨w6.heap.size, 0, none⟩ = some (.int .i64 R0.1) := bg0_8.cell 0
  have q8 : w8.cell? ⟨w6.heap.size, 1, none⟩ = some (.slice Q4_0 R0.2.length f4_0) := bg0_8.cell 1
  go_wp2_with (fail)
  clear q5 q6 q7 q8
  refine (toFactS_any _ fs _ (H0.out.on B_w8) (by unfold szF at *; omega) (by unfold szF at *; omega)).mono ?_
  rintro e w9 ⟨P6, d6, rfl, o6, hb6⟩
  have s_w9 := hb6.size
  have w0_9 := w0_8.below hb6 (by omega)
  clear w0_8
  have bw0_9 := bw0_8.below hb6 (by first | exact bw0_8.lt | omega)
  clear bw0_8
  have bw0_9_l := bw0_9.lt
  have x0_9 := x0_8.below hb6 (by omega)
  clear x0_8
  have g0_9 := g0_8.below hb6 (by omega)
  clear g0_8
  have bg0_9 := bg0_8.below hb6 (by first | exact bg0_8.lt | omega)
  clear bg0_8
  have bg0_9_l := bg0_9.lt
  have B_w9 := bthen B_w8 hb6
  have q9 : w9.cell? ⟨w3.heap.size, 0, none⟩ = some (.int .i64 R0.1) := bw0_9.cell 0
  have q10 : w9.cell? ⟨w3.heap.size, 1, none⟩ = some (.slice Q2_0 R0.2.length f2_0) := bw0_9.cell 1
  have q11 : w9.cell? ⟨w6.heap.size, 0, none⟩ = some (.int .i64 R0.1) := bg0_9.cell 0
  have q12 : w9.cell? ⟨w6.heap.size, 1, none⟩ = some (.slice Q4_0 R0.2.length f4_0) := bg0_9.cell 1
  go_wp2_with (fail)
  clear q9 q10 q11 q12
  refine (eqFactS_any _ _ fs fs _ (x0_9.rd.more (by omega)) (o6.rd.more (by omega)) (by unfold szF at *; omega) (by unfold szF at *; omega) (by unfold szF at *; omega) (by unfold szF at *; omega)).mono ?_
  rintro e w10 ⟨rfl, hb7⟩
  rw [show decide (fs = fs) = true by simp]
  have s_w10 := hb7.size
  have w0_10 := w0_9.below hb7 (by omega)
  clear w0_9
  have bw0_10 := bw0_9.below hb7 (by first | exact bw0_9.lt | omega)
  clear bw0_9
  have bw0_10_l := bw0_10.lt
  have x0_10 := x0_9.below hb7 (by omega)
  clear x0_9
  have g0_10 := g0_9.below hb7 (by omega)
  clear g0_9
  have bg0_10 := bg0_9.below hb7 (by first | exact bg0_9.lt | omega)
  clear bg0_9
  have bg0_10_l := bg0_10.lt
  have B_w10 := bthen B_w9 hb7
  have q13 : w10.cell? ⟨w3.heap.size, 0, none⟩ = some (.int .i64 R0.1) := bw0_10.cell 0
  have q14 : w10.cell? ⟨w3.heap.size, 1, none⟩ = some (.slice Q2_0 R0.2.length f2_0) := bw0_10.cell 1
  have q15 : w10.cell? ⟨w6.heap.size, 0, none⟩ = some (.int .i64 R0.1) := bg0_10.cell 0
  have q16 : w10.cell? ⟨w6.heap.size, 1, none⟩ = some (.slice Q4_0 R0.2.length f4_0) := bg0_10.cell 1
  go_wp2_with (fail)
  clear q13 q14 q15 q16
  refine (um_facts 1 x0_10 (by omega) (by omega) (by omega)).mono ?_
  rintro e w11 ⟨k8, rfl, ka8, kb8, _, on8⟩
  have s_w11 := on8.size
  have w0_11 := w0_10.only on8 (by first | exact .inl (by omega) | exact .inr (by omega) | omega)
  clear w0_10
  have bw0_11 := bw0_10.only on8 (by first | exact .inl (by omega) | exact .inr (by omega) | omega)
  clear bw0_10
  have bw0_11_l := bw0_11.lt
  have g0_11 := g0_10.only on8 (by first | exact .inl (by omega) | exact .inr (by omega) | omega)
  clear g0_10
  have bg0_11 := bg0_10.only on8 (by first | exact .inl (by omega) | exact .inr (by omega) | omega)
  clear bg0_10
  have bg0_11_l := bg0_11.lt
  have B_w11 := Only.then_ B_w10 on8 (by omega)
  have kn : ¬ k8 < 0 := by omega
  have kd : decide (k8 < 0) = false := by simp; omega
  have q17 : w11.cell? ⟨w3.heap.size, 0, none⟩ = some (.int .i64 R0.1) := bw0_11.cell 0
  have q18 : w11.cell? ⟨w3.heap.size, 1, none⟩ = some (.slice Q2_0 R0.2.length f2_0) := bw0_11.cell 1
  have q19 : w11.cell? ⟨w6.heap.size, 0, none⟩ = some (.int .i64 R0.1) := bg0_11.cell 0
  have q20 : w11.cell? ⟨w6.heap.size, 1, none⟩ = some (.slice Q4_0 R0.2.length f4_0) := bg0_11.cell 1
  go_wp2_with (fail)
  clear q17 q18 q19 q20
  refine (eqRel_any _ _ R0 R0 _ ⟨_, rfl, g0_11.rd.more (by omega)⟩ ⟨_, rfl, w0_11.rd.more (by omega)⟩ rfl (by omega)).mono ?_
  rintro e w12 ⟨rfl, hb9⟩
  rw [show decide (R0 = R0) = true by simp]
  have s_w12 := hb9.size
  have w0_12 := w0_11.below hb9 (by omega)
  clear w0_11
  have bw0_12 := bw0_11.below hb9 (by first | exact bw0_11.lt | omega)
  clear bw0_11
  have bw0_12_l := bw0_12.lt
  have g0_12 := g0_11.below hb9 (by omega)
  clear g0_11
  have bg0_12 := bg0_11.below hb9 (by first | exact bg0_11.lt | omega)
  clear bg0_11
  have bg0_12_l := bg0_12.lt
  have B_w12 := bthen B_w11 hb9
  have q21 : w12.cell? ⟨w3.heap.size, 0, none⟩ = some (.int .i64 R0.1) := bw0_12.cell 0
  have q22 : w12.cell? ⟨w3.heap.size, 1, none⟩ = some (.slice Q2_0 R0.2.length f2_0) := bw0_12.cell 1
  have q23 : w12.cell? ⟨w6.heap.size, 0, none⟩ = some (.int .i64 R0.1) := bg0_12.cell 0
  have q24 : w12.cell? ⟨w6.heap.size, 1, none⟩ = some (.slice Q4_0 R0.2.length f4_0) := bg0_12.cell 1
  go_wp2_with (fail)
  clear q21 q22 q23 q24
  refine (um_rel 1 g0_12 (by omega) (by omega) (by omega) (by have := HRs0.out; omega)).mono ?_
  rintro e w13 ⟨m10, rfl, ma10, mb10, hd10, on10⟩
  have mb10' := HRs0.out
  have s_w13 := on10.size
  have w0_13 := w0_12.only on10 (by first | exact .inl (by omega) | exact .inr (by omega) | omega)
  clear w0_12
  have bw0_13 := bw0_12.only on10 (by first | exact .inl (by omega) | exact .inr (by omega) | omega)
  clear bw0_12
  have bw0_13_l := bw0_13.lt
  have bg0_13 := bg0_12.only on10 (by first | exact .inl (by omega) | exact .inr (by omega) | omega)
  clear bg0_12
  have bg0_13_l := bg0_13.lt
  have B_w13 := Only.then_ B_w12 on10 (by omega)
  have mn : ¬ m10 < 0 := by omega
  have me : (m10 != m10) = false := by simp
  have q25 : w13.cell? ⟨w3.heap.size, 0, none⟩ = some (.int .i64 R0.1) := bw0_13.cell 0
  have q26 : w13.cell? ⟨w3.heap.size, 1, none⟩ = some (.slice Q2_0 R0.2.length f2_0) := bw0_13.cell 1
  have q27 : w13.cell? ⟨w6.heap.size, 0, none⟩ = some (.int .i64 R0.1) := bg0_13.cell 0
  have q28 : w13.cell? ⟨w6.heap.size, 1, none⟩ = some (.slice Q4_0 R0.2.length f4_0) := bg0_13.cell 1
  go_wp2_with (fail)
  clear q25 q26 q27 q28
  refine (uh_rel hd10 (by omega)).mono ?_
  rintro e w14 ⟨rfl, hb11⟩
  have s_w14 := hb11.size
  have w0_14 := w0_13.below hb11 (by omega)
  clear w0_13
  have bw0_14 := bw0_13.below hb11 (by first | exact bw0_13.lt | omega)
  clear bw0_13
  have bw0_14_l := bw0_14.lt
  have bg0_14 := bg0_13.below hb11 (by first | exact bg0_13.lt | omega)
  clear bg0_13
  have bg0_14_l := bg0_14.lt
  have d0_14 := hd10.below hb11 (by omega)
  clear hd10
  have B_w14 := bthen B_w13 hb11
  have q29 : w14.cell? ⟨w3.heap.size, 0, none⟩ = some (.int .i64 R0.1) := bw0_14.cell 0
  have q30 : w14.cell? ⟨w3.heap.size, 1, none⟩ = some (.slice Q2_0 R0.2.length f2_0) := bw0_14.cell 1
  have q31 : w14.cell? ⟨w6.heap.size, 0, none⟩ = some (.int .i64 R0.1) := bg0_14.cell 0
  have q32 : w14.cell? ⟨w6.heap.size, 1, none⟩ = some (.slice Q4_0 R0.2.length f4_0) := bg0_14.cell 1
  go_wp2_with (fail)
  clear q29 q30 q31 q32
  refine (toFactS_any _ fs _ (H0.out.on B_w14) (by unfold szF at *; omega) (by unfold szF at *; omega)).mono ?_
  rintro e w15 ⟨P12, d12, rfl, o12, hb12⟩
  have s_w15 := hb12.size
  have w0_15 := w0_14.below hb12 (by omega)
  clear w0_14
  have bw0_15 := bw0_14.below hb12 (by first | exact bw0_14.lt | omega)
  clear bw0_14
  have bw0_15_l := bw0_15.lt
  have bg0_15 := bg0_14.below hb12 (by first | exact bg0_14.lt | omega)
  clear bg0_14
  have bg0_15_l := bg0_15.lt
  have d0_15 := d0_14.below hb12 (by omega)
  clear d0_14
  have B_w15 := bthen B_w14 hb12
  have q33 : w15.cell? ⟨w3.heap.size, 0, none⟩ = some (.int .i64 R0.1) := bw0_15.cell 0
  have q34 : w15.cell? ⟨w3.heap.size, 1, none⟩ = some (.slice Q2_0 R0.2.length f2_0) := bw0_15.cell 1
  have q35 : w15.cell? ⟨w6.heap.size, 0, none⟩ = some (.int .i64 R0.1) := bg0_15.cell 0
  have q36 : w15.cell? ⟨w6.heap.size, 1, none⟩ = some (.slice Q4_0 R0.2.length f4_0) := bg0_15.cell 1
  go_wp2_with (fail)
  clear q33 q34 q35 q36
  refine (implRelOf_any _ fs p q _ rfl _ (o12.rd.more (by omega)) (by unfold szF at r0; omega) (by unfold szF at r0; omega)).mono ?_
  rw [← HR0.out]
  rintro e w16 ⟨Q13_0, f13_0, rfl, o13_0, hb13⟩
  have s_w16 := hb13.size
  have w0_16 := w0_15.below hb13 (by omega)
  clear w0_15
  have bw0_16 := bw0_15.below hb13 (by first | exact bw0_15.lt | omega)
  clear bw0_15
  have bw0_16_l := bw0_16.lt
  have bg0_16 := bg0_15.below hb13 (by first | exact bg0_15.lt | omega)
  clear bg0_15
  have bg0_16_l := bg0_16.lt
  have d0_16 := d0_15.below hb13 (by omega)
  clear d0_15
  have th0_16 := o12.below hb13 (by omega)
  clear o12
  have B_w16 := bthen B_w15 hb13
  have q37 : w16.cell? ⟨w3.heap.size, 0, none⟩ = some (.int .i64 R0.1) := bw0_16.cell 0
  have q38 : w16.cell? ⟨w3.heap.size, 1, none⟩ = some (.slice Q2_0 R0.2.length f2_0) := bw0_16.cell 1
  have q39 : w16.cell? ⟨w6.heap.size, 0, none⟩ = some (.int .i64 R0.1) := bg0_16.cell 0
  have q40 : w16.cell? ⟨w6.heap.size, 1, none⟩ = some (.slice Q4_0 R0.2.length f4_0) := bg0_16.cell 1
  go_wp2_with (fail)
  clear q37 q38 q39 q40
  obtain ⟨w17, hw_w17⟩ : ∃ W', W' = w16.alloc (Obj.cells #[Value.int IntKind.i64 R0.1, Value.slice Q13_0 R0.2.length f13_0] 27) := ⟨_, rfl⟩
  rw [← hw_w17]
  have hb_w17 : Below w16.heap.size w16 w17 := by rw [hw_w17]; exact below1 _ _
  have bh0_n : Blk w17 w16.heap.size 27 #[.int .i64 R0.1, .slice Q13_0 R0.2.length f13_0] := by rw [hw_w17]; exact Blk.new _ _ _
  have bh0_nl := bh0_n.lt
  clear hw_w17
  have s_w17 := hb_w17.size
  have w0_17 := w0_16.below hb_w17 (by omega)
  clear w0_16
  have bw0_17 := bw0_16.below hb_w17 (by first | exact bw0_16.lt | omega)
  clear bw0_16
  have bw0_17_l := bw0_17.lt
  have bg0_17 := bg0_16.below hb_w17 (by first | exact bg0_16.lt | omega)
  clear bg0_16
  have bg0_17_l := bg0_17.lt
  have d0_17 := d0_16.below hb_w17 (by omega)
  clear d0_16
  have h0_17 := o13_0.below hb_w17 (by omega)
  clear o13_0
  have B_w17 := bthen B_w16 hb_w17
  refine (eqRel_any _ _ R0 R0 _ ⟨_, rfl, h0_17.rd.more (by omega)⟩ ⟨_, rfl, w0_17.rd.more (by omega)⟩ rfl (by omega)).mono ?_
  rintro e w18 ⟨rfl, hb14⟩
  rw [show decide (R0 = R0) = true by simp]
  have s_w18 := hb14.size
  have w0_18 := w0_17.below hb14 (by omega)
  clear w0_17
  have bw0_18 := bw0_17.below hb14 (by first | exact bw0_17.lt | omega)
  clear bw0_17
  have bw0_18_l := bw0_18.lt
  have bg0_18 := bg0_17.below hb14 (by first | exact bg0_17.lt | omega)
  clear bg0_17
  have bg0_18_l := bg0_18.lt
  have d0_18 := d0_17.below hb14 (by omega)
  clear d0_17
  have h0_18 := h0_17.below hb14 (by omega)
  clear h0_17
  have bh0_18 := bh0_n.below hb14 (by first | exact bh0_n.lt | omega)
  clear bh0_n
  have bh0_18_l := bh0_18.lt
  have B_w18 := bthen B_w17 hb14
  have q41 : w18.cell? ⟨w3.heap.size, 0, none⟩ = some (.int .i64 R0.1) := bw0_18.cell 0
  have q42 : w18.cell? ⟨w3.heap.size, 1, none⟩ = some (.slice Q2_0 R0.2.length f2_0) := bw0_18.cell 1
  have q43 : w18.cell? ⟨w6.heap.size, 0, none⟩ = some (.int .i64 R0.1) := bg0_18.cell 0
  have q44 : w18.cell? ⟨w6.heap.size, 1, none⟩ = some (.slice Q4_0 R0.2.length f4_0) := bg0_18.cell 1
  have q45 : w18.cell? ⟨w16.heap.size, 0, none⟩ = some (.int .i64 R0.1) := bh0_18.cell 0
  have q46 : w18.cell? ⟨w16.heap.size, 1, none⟩ = some (.slice Q13_0 R0.2.length f13_0) := bh0_18.cell 1
  go_wp2_with (fail)
  clear q41 q42 q43 q44 q45 q46
  refine (uh_rel d0_18 (by omega)).mono ?_
  rintro e w19 ⟨rfl, hb15⟩
  have s_w19 := hb15.size
  have w0_19 := w0_18.below hb15 (by omega)
  clear w0_18
  have bw0_19 := bw0_18.below hb15 (by first | exact bw0_18.lt | omega)
  clear bw0_18
  have bw0_19_l := bw0_19.lt
  have bg0_19 := bg0_18.below hb15 (by first | exact bg0_18.lt | omega)
  clear bg0_18
  have bg0_19_l := bg0_19.lt
  have d0_19 := d0_18.below hb15 (by omega)
  clear d0_18
  have h0_19 := h0_18.below hb15 (by omega)
  clear h0_18
  have bh0_19 := bh0_18.below hb15 (by first | exact bh0_18.lt | omega)
  clear bh0_18
  have bh0_19_l := bh0_19.lt
  have B_w19 := bthen B_w18 hb15
  have q47 : w19.cell? ⟨w3.heap.size, 0, none⟩ = some (.int .i64 R0.1) := bw0_19.cell 0
  have q48 : w19.cell? ⟨w3.heap.size, 1, none⟩ = some (.slice Q2_0 R0.2.length f2_0) := bw0_19.cell 1
  have q49 : w19.cell? ⟨w6.heap.size, 0, none⟩ = some (.int .i64 R0.1) := bg0_19.cell 0
  have q50 : w19.cell? ⟨w6.heap.size, 1, none⟩ = some (.slice Q4_0 R0.2.length f4_0) := bg0_19.cell 1
  have q51 : w19.cell? ⟨w16.heap.size, 0, none⟩ = some (.int .i64 R0.1) := bh0_19.cell 0
  have q52 : w19.cell? ⟨w16.heap.size, 1, none⟩ = some (.slice Q13_0 R0.2.length f13_0) := bh0_19.cell 1
  go_wp2_with (fail)
  clear q47 q48 q49 q50 q51 q52
  go_ret
  exact ⟨rfl, B_w19⟩

theorem lawRelOf_in (v0 : Value) (v1 : Value) (v2 : Value) (fs : List LFact) (p : Int) (q : Int) (w : World) (h0 : InFacts w v0 fs) (h1 : InInt v1 p) (h2 : InInt v2 q) : Calls Try.prog 4 #[v0, v1, v2] w fun e w' => e = .returned (.bool true) ∧ Below w.heap.size w w' :=
  h1.1 ▸ h2.1 ▸ lawRelOf_any v0 fs p q w h0.1 h0.2.1 h0.2.2

end Go.Proofs.Ytchincemlilnoaa
namespace Go.Proofs.Ytchincemlilnoaa
open Go.ChangeShapes Go.WideShapes Go.ChangeAt Go.RowKit

set_option maxRecDepth 100000 in
theorem fnExactRelOf_lifted (os : Os) (started : os.Started) (H : Type) (enc : TypeId × Value → H) :
    ReturnsInHanded {} Try.checked os 4 .any (Rows.fnExactRelOfSpec.pre6 enc Try.prog Try.f4 Rows.fnExactRelOfRow.domain false) (Rows.fnExactRelOfSpec.post enc Try.prog Try.f4 false true false false) := by
  refine returnsInHanded_of_change (C := Try.checked) Try.own started (by kernel_rfl) Try.func4
    (ChangeSpec.witness6 (enc := enc) (C := Try.checked) false ⟨#[], #[.slice none 0 0, .int .i64 0, .int .i64 0], []⟩ 8 (by kernel_rfl) (by kernel_rfl) (by kernel_rfl) (by kernel_rfl)) ?_
  intro W base args ds gs before hval0 hW hcnd _
  have hval : ∀ (j : Nat) t v, Try.f4.params[j]? = some t → args[j]? = some v → Value.okWide Try.prog W .any base t v := hval0
  have hW' := hW
  obtain ⟨p, q, hA0, hV, rfl, hfz, hnd⟩ := hW
  have hA : DataW.TrodAll enc Try.prog W 0 (fun _ => true) true Try.f4.params.toList args.toList ds p := hA0
  rw [Try.params4] at hA hval
  obtain ⟨v0, vs0, d0, ds0, p0, q0, hargs, rfl, rfl, h0, r0⟩ := trodAll_cons hA
  obtain ⟨v1, vs1, d1, ds1, p1, q1, rfl, rfl, rfl, h1, r1⟩ := trodAll_cons r0
  obtain ⟨v2, vs2, d2, ds2, p2, q2, rfl, rfl, rfl, h2, r2⟩ := trodAll_cons r1
  obtain ⟨rfl, rfl, rfl⟩ := trodAll_nil r2
  obtain rfl : args = #[v0, v1, v2] := by cases args; simp_all
  obtain ⟨rfl, rfl⟩ := trodVars_none hV
  have lt0 : ∀ x ∈ p0, x.block < W.heap.size := by obtain ⟨m, hm⟩ := h0; exact DataW.trod_lt m _ _ _ hm
  obtain ⟨x0, w0⟩ := open_inFacts (hval 0 31 v0 rfl rfl) h0
  have lt1 : ∀ x ∈ p1, x.block < W.heap.size := by obtain ⟨m, hm⟩ := h1; exact DataW.trod_lt m _ _ _ hm
  obtain ⟨x1, w1⟩ := open_inInt (hval 1 3 v1 rfl rfl) h1
  have lt2 : ∀ x ∈ p2, x.block < W.heap.size := by obtain ⟨m, hm⟩ := h2; exact DataW.trod_lt m _ _ _ hm
  obtain ⟨x2, w2⟩ := open_inInt (hval 2 3 v2 rfl rfl) h2
  clear hA0 hval0
  refine (lawRelOf_in v0 v1 v2 x0 x1 x2 W w0 w1 w2).mono fun e W' ⟨he, bel⟩ => ?_
  subst he
  exact ⟨_, rfl, _, _, _, [], _, [], hW', trodAll_mk1 (shut_bool Try.underlying4 _), (trodAll_cons_mk (Below.trod Try.laidOut (by kernel_rfl) (of_decide_eq_true (by kernel_rfl)) h0 bel lt0) (trodAll_cons_mk (Below.trod Try.laidOut (by kernel_rfl) (of_decide_eq_true (by kernel_rfl)) h1 bel lt1) (trodAll_cons_mk (Below.trod Try.laidOut (by kernel_rfl) (of_decide_eq_true (by kernel_rfl)) h2 bel lt2) trodAll_mk0))), rfl, bel.frame _, fun h => by cases h⟩

theorem fnExactRelOf_holds : Rows.FnExactRelOfSaid :=
  OpenClaim.holds_of_wide 4 Try.f4 rfl rfl rfl rfl rfl rfl rfl ⟨rfl, rfl, rfl, rfl, rfl⟩ rfl rfl rfl rfl rfl (by kernel_rfl) Try.func4 (by kernel_rfl)
    (of_decide_eq_true (by kernel_rfl)) (by unfold Func.isWrapper; rw [if_neg (of_decide_eq_false (by kernel_rfl))]; exact ⟨rfl, rfl⟩)
    (fun os started H enc _ => fnExactRelOf_lifted os started H enc)

end Go.Proofs.Ytchincemlilnoaa
