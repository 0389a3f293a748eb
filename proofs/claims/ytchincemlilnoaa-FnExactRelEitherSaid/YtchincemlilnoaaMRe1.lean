/-
  Texts that the claim's last one imports, laid together: part 1 of 2. No condition of its own.
-/
import Derived.Test.YtchincemlilnoaaMRt4
import Derived.Test.YtchincemlilnoaaMRt5
/-
  RelEither of the specification.
-/
namespace Go.Proofs.Ytchincemlilnoaa
open Go.RowKit

open Classical in
noncomputable def eitherR (a b : LRel) : LRel := if RelP a ∧ RelP b ∧ a.1 = b.1 ∧ (putsB (a.2 ++ b.2)).length ≤ 2000 then (a.1, putsB (a.2 ++ b.2)) else (0, [])
theorem eitherR_yes {a b : LRel} (h1 : RelP a) (h2 : RelP b) (h3 : a.1 = b.1) (h4 : (putsB (a.2 ++ b.2)).length ≤ 2000) : eitherR a b = (a.1, putsB (a.2 ++ b.2)) := by
  unfold eitherR; rw [if_pos ⟨h1, h2, h3, h4⟩]
theorem eitherR_no {a b : LRel} (h : ¬ (RelP a ∧ RelP b ∧ a.1 = b.1 ∧ (putsB (a.2 ++ b.2)).length ≤ 2000)) : eitherR a b = (0, []) := by
  unfold eitherR; rw [if_neg h]
theorem eitherR_a {a b : LRel} (h : relB a = false) : eitherR a b = (0, []) := eitherR_no (by rintro ⟨h1, _⟩; rw [relB_true h1] at h; cases h)
theorem eitherR_b {a b : LRel} (h : relB b = false) : eitherR a b = (0, []) := eitherR_no (by rintro ⟨_, h1, _⟩; rw [relB_true h1] at h; cases h)
theorem eitherR_wide {a b : LRel} (h : a.1 ≠ b.1) : eitherR a b = (0, []) := eitherR_no (by rintro ⟨_, _, h1, _⟩; exact h h1)
theorem eitherR_many {a b : LRel} (h : 2000 < (putsB (a.2 ++ b.2)).length) : eitherR a b = (0, []) := eitherR_no (by rintro ⟨_, _, _, h1⟩; omega)
theorem rel_short {r : LRel} (hp : RelP r) : ∀ x ∈ r.2, (x.length : Int) = r.1 ∧ x.length ≤ 6 ∧ x.all constOk = true := fun x hx => by
  obtain ⟨k, hk, rfl⟩ := List.getElem_of_mem hx
  have h1 := hp.row hk
  have h2 := hp.hi
  exact ⟨h1, by omega, (hp.rows k hk hk).2.2⟩
theorem take_both (xss yss : List (List Int)) (k : Nat) : xss ++ yss.take k = (xss ++ yss).take (xss.length + k) := by
  induction xss with
  | nil => simp
  | cons x xs ih => rw [List.cons_append, List.cons_append, List.length_cons, Nat.add_right_comm, List.take_succ_cons, ih]
theorem eitherR_sz (a b : LRel) : szRows (eitherR a b).2 ≤ 1048576 := by
  unfold eitherR
  split
  · rename_i h
    obtain ⟨h1, h2, h3, h4⟩ := h
    have h5 : ∀ row ∈ putsB (a.2 ++ b.2), row.length ≤ 6 := fun row hr => by
      rcases List.mem_append.1 (putsB_mem.1 hr) with h | h
      · exact (rel_short h1 row h).2.1
      · exact (rel_short h2 row h).2.1
    have h6 := totSS_few h4 h5
    show (putsB (a.2 ++ b.2)).length + totSS (putsB (a.2 ++ b.2)) ≤ 1048576
    omega
  · simp [szRows, totSS]
theorem putsB_few {L : List (List Int)} {k : Nat} (h : ∀ x ∈ L, x.length ≤ 6) (hk : k ≤ L.length) : ∀ x ∈ putsB (L.take k), x.length ≤ 1048576 := fun x hx => by
  have := h x (List.mem_of_mem_take (((putsB_is L k hk).2.1 x).1 hx))
  omega

set_option maxHeartbeats 8000000 in
set_option maxRecDepth 100000 in
theorem specRelEither_any (v0 v1 : Value) (a b : LRel) (R : LRel) (hR : R = eitherR a b) (w : World) (h0 : RdRel w w.heap.size v0 a) (h1 : RdRel w w.heap.size v1 b)
    (s0 : szRows a.2 ≤ 1048576) (s1 : szRows b.2 ≤ 1048576) :
    Calls Try.prog 39 #[v0, v1] w fun e w' => ∃ A' c', e = .returned (.agg #[.int .i64 R.1, .slice A' R.2.length c']) ∧ WkRows w' w.heap.size w'.heap.size (.slice A' R.2.length c') R.2 ∧ Below w.heap.size w w' := by
  have HR := Lib.hid hR
  clear hR
  obtain ⟨a0, rfl, h0⟩ := h0
  have H0 := Lib.hid h0
  obtain ⟨A, c, rfl, _, _⟩ := h0
  obtain ⟨a1, rfl, h1⟩ := h1
  have H1 := Lib.hid h1
  obtain ⟨A1, c1, rfl, _, _⟩ := h1
  obtain ⟨m, xss⟩ := a
  obtain ⟨n, yss⟩ := b
  have S0 := Lib.hid s0
  have S1 := Lib.hid s1
  simp only at H0 H1 HR
  clear s0 s1
  go_enter Try.func39, Try.ntmps39
  go_wp2_with fail
  obtain ⟨w3, hw3⟩ : ∃ w3, w3 = ((w.alloc (Obj.cells #[Value.int IntKind.i64 m, Value.slice A xss.length c] 27)).alloc (Obj.cells #[Value.int IntKind.i64 n, Value.slice A1 yss.length c1] 27)).alloc (Obj.cells #[Value.int IntKind.i64 0, Value.slice none 0 0] 27) := ⟨_, rfl⟩
  have B3 : Below w.heap.size w w3 := by rw [hw3]; exact below3 _ _ _ _
  have s3' : w3.heap.size = w.heap.size + 3 := by rw [hw3]; simp
  have x0 : Blk w3 w.heap.size 27 #[.int .i64 m, .slice A xss.length c] := by rw [hw3]; exact ((Blk.new w _ _).alloc _).alloc _
  have x1 : Blk w3 (w.heap.size + 1) 27 #[.int .i64 n, .slice A1 yss.length c1] := by
    rw [hw3]
    simpa using (Blk.new (w.alloc (Obj.cells #[Value.int IntKind.i64 m, Value.slice A xss.length c] 27)) 27 #[.int .i64 n, .slice A1 yss.length c1]).alloc _
  have x2 : Blk w3 (w.heap.size + 2) 27 #[.int .i64 0, .slice none 0 0] := by
    rw [hw3]
    simpa using Blk.new ((w.alloc (Obj.cells #[Value.int IntKind.i64 m, Value.slice A xss.length c] 27)).alloc (Obj.cells #[Value.int IntKind.i64 n, Value.slice A1 yss.length c1] 27)) 27 #[.int .i64 0, .slice none 0 0]
  rw [← hw3]
  clear hw3
  obtain ⟨ok, hok⟩ : ∃ ok, ok = relB (m, xss) := ⟨_, rfl⟩
  have CR := specRelOk_any _ (m, xss) _ ⟨_, rfl, H0.out.on B3⟩ S0.out
  rw [← hok] at CR
  refine CR.mono ?_
  rintro e w4 ⟨rfl, hb4⟩
  have B4 := bthen B3 hb4
  have s4 := hb4.size
  have y0 := x0.below hb4 x0.lt
  have y1 := x1.below hb4 x1.lt
  have y2 := x2.below hb4 x2.lt
  clear x0 x1 x2 CR
  have q2 : w4.cell? ⟨w.heap.size + 1, 0, none⟩ = some (.int .i64 n) := y1.cell 0
  have q3 : w4.cell? ⟨w.heap.size + 1, 1, none⟩ = some (.slice A1 yss.length c1) := y1.cell 1
  have b1c0 : w4.cell? ⟨w.heap.size + 2, 0, none⟩ = some (.int .i64 0) := y2.cell 0
  have b1c1 : w4.cell? ⟨w.heap.size + 2, 1, none⟩ = some (.slice none 0 0) := y2.cell 1
  have b1f0 := y2.frozen 0
  have b1f1 := y2.frozen 1
  have HOK := Lib.hid hok
  clear hok
  cases ok
  · have HE := Lib.hid (show R = (0, []) by rw [HR.out]; exact eitherR_a HOK.out.symm)
    clear q2 q3
    go_wp2_with fail
    refine bodyPost_ret (v := .agg #[.int .i64 0, .slice none 0 0]) (by simp [results, Try.results39, go_sem, b1c0, b1c1]) rfl ?_
    rw [HE.out]
    exact ⟨none, 0, rfl, WkRows.nothing _ _ _, (B4.setCell (by simp <;> omega) _).setCell (by simp <;> omega) _⟩
  have HPa := Lib.hid (show RelP (m, xss) from relB_iff.1 HOK.out.symm)
  go_wp2_with fail
  obtain ⟨ok2, hok2⟩ : ∃ ok2, ok2 = relB (n, yss) := ⟨_, rfl⟩
  have CR := specRelOk_any _ (n, yss) _ ⟨_, rfl, H1.out.on B4⟩ S1.out
  rw [← hok2] at CR
  refine CR.mono ?_
  rintro e w5 ⟨rfl, hb5⟩
  have B5 := bthen B4 hb5
  have s5 := hb5.size
  have z0 := y0.below hb5 y0.lt
  have z1 := y1.below hb5 y1.lt
  have z2 := y2.below hb5 y2.lt
  clear y0 y1 y2 q2 q3 b1c0 b1c1 b1f0 b1f1 CR
  have b1c0 : w5.cell? ⟨w.heap.size + 2, 0, none⟩ = some (.int .i64 0) := z2.cell 0
  have b1c1 : w5.cell? ⟨w.heap.size + 2, 1, none⟩ = some (.slice none 0 0) := z2.cell 1
  have b1f0 := z2.frozen 0
  have b1f1 := z2.frozen 1
  have q4 : w5.cell? ⟨w.heap.size, 0, none⟩ = some (.int .i64 m) := z0.cell 0
  have q5 : w5.cell? ⟨w.heap.size + 1, 0, none⟩ = some (.int .i64 n) := z1.cell 0
  have HOK2 := Lib.hid hok2
  clear hok2
  cases ok2
  · have HE := Lib.hid (show R = (0, []) by rw [HR.out]; exact eitherR_b HOK2.out.symm)
    clear q4 q5
    go_wp2_with fail
    refine bodyPost_ret (v := .agg #[.int .i64 0, .slice none 0 0]) (by simp [results, Try.results39, go_sem, b1c0, b1c1]) rfl ?_
    rw [HE.out]
    exact ⟨none, 0, rfl, WkRows.nothing _ _ _, (B5.setCell (by simp <;> omega) _).setCell (by simp <;> omega) _⟩
  have HPb := Lib.hid (show RelP (n, yss) from relB_iff.1 HOK2.out.symm)
  by_cases hmn : ¬ m = n
  · have HE := Lib.hid (show R = (0, []) by rw [HR.out]; exact eitherR_wide hmn)
    have e1 : (m == n) = false := by simp [hmn]
    have e1' : (m != n) = true := by simp [hmn]
    clear hmn
    go_wp2_with fail
    refine bodyPost_ret (v := .agg #[.int .i64 0, .slice none 0 0]) (by simp [results, Try.results39, go_sem, b1c0, b1c1]) rfl ?_
    rw [HE.out]
    exact ⟨none, 0, rfl, WkRows.nothing _ _ _, (B5.setCell (by simp <;> omega) _).setCell (by simp <;> omega) _⟩
  have hmn : m = n := by omega
  have e1' : (m != n) = false := by simp [hmn]
  have q0 : w5.cell? ⟨w.heap.size, 0, none⟩ = some (.int .i64 m) := z0.cell 0
  have hm0 : 0 ≤ m := HPa.out.lo
  have hm6 : m ≤ 6 := HPa.out.hi
  have hxs : xss.length ≤ 2000 := HPa.out.many
  have hys : yss.length ≤ 2000 := HPb.out.many
  have e1 : (m == n) = true := by simp [hmn]
  have HX6 := Lib.hid (show (∀ x ∈ xss, x.length ≤ 6) ∧ (∀ x ∈ yss, x.length ≤ 6) from ⟨fun x hx => (rel_short HPa.out x hx).2.1, fun x hx => (rel_short HPb.out x hx).2.1⟩)
  have HX := Lib.hid (And.intro z0 (And.intro z1 z2))
  have HMN := Lib.hid hmn
  clear z0 z1 z2 hmn b1c0 b1c1 b1f0 b1f1
  go_upto_region 4 with fail
  obtain ⟨o9, ho9⟩ : ∃ o9, o9 = w5.heap.size := ⟨_, rfl⟩
  obtain ⟨w6, hw6⟩ : ∃ w6, w6 = w5.alloc (Obj.cells #[Value.int IntKind.i64 m, Value.slice none 0 0] 27) := ⟨_, rfl⟩
  have hb56 : Below w5.heap.size w5 w6 := by rw [hw6]; exact below1 _ _
  have x9 : Blk w6 o9 27 #[.int .i64 m, .slice none 0 0] := by rw [hw6, ho9]; exact Blk.new _ _ _
  have s6 : o9 < w6.heap.size := by rw [hw6, ho9]; simp
  have hlo : w.heap.size + 3 ≤ o9 := by omega
  rw [← hw6, ← ho9]
  have HO := Lib.hid (show PutAt w6.heap.size o9 w6 m (putsB ((xss ++ yss).take 0)) none 0 from PutAt.empty x9 s6 (Nat.le_refl _))
  have HY := Lib.hid (And.intro (HX.out.1.below hb56 HX.out.1.lt) (And.intro (HX.out.2.1.below hb56 HX.out.2.1.lt) (HX.out.2.2.below hb56 HX.out.2.2.lt)))
  have HB6 := Lib.hid (bthen B5 hb56)
  have hs60 := HB6.out.size
  clear hw6 ho9 x9 q0 hb56
  go_wp2_with fail
  go_loopw [6] (fun i wr => ∃ (k : Nat) (A' : Option Addr) (c' : Nat), k ≤ xss.length ∧ i = .int .i64 k ∧ PutAt w6.heap.size o9 wr m (putsB ((xss ++ yss).take k)) A' c' ∧ Below o9 w6 wr) (fun i _ => xss.length - (intOf i).toNat)
  case atStart => exact ⟨0, none, 0, Nat.zero_le _, rfl, HO.out, Below.refl _ _⟩
  case round =>
    obtain ⟨k, A', c', hk, rfl, hout, hbe⟩ := hrel
    obtain ⟨wi, rfl⟩ : ∃ wi, wi = wr := ⟨_, rfl⟩
    have HOUT := Lib.hid hout
    have HBE := Lib.hid hbe
    have BW := Lib.hid (show Below w.heap.size w wi from HB6.out.trans (hbe.mono (by omega)))
    have hsw := hbe.size
    have q1 : wi.cell? ⟨w.heap.size, 1, none⟩ = some (.slice A xss.length c) := (HY.out.1.below hbe (by omega)).cell 1
    clear hout hbe
    by_cases hlt : k < xss.length
    · obtain ⟨b, o, Ar, cr, rfl, hbB, k0, r0⟩ := (H0.out.below BW.out (Nat.le_refl _)).get hlt
      have hrow6 : xss[k].length ≤ 6 := HX6.out.1 _ (List.getElem_mem hlt)
      have hw0 := BW.out.size
      have HR0 := Lib.hid (r0.more hw0)
      have hkl : k < (xss ++ yss).length := by rw [List.length_append]; omega
      have HN := Lib.hid (show putsB ((xss ++ yss).take (k + 1)) = putB (putsB ((xss ++ yss).take k)) xss[k] by rw [putsB_take hkl, List.getElem_append_left hlt])
      have hl1 := (putsB_is (xss ++ yss) k (by omega)).2.2
      have HL7 := Lib.hid (putsB_few (L := xss ++ yss) (k := k) (fun x hx => (List.mem_append.1 hx).elim (HX6.out.1 x) (HX6.out.2 x)) (by omega))
      obtain ⟨M, hM⟩ : ∃ M, M = putsB ((xss ++ yss).take k) := ⟨_, rfl⟩
      obtain ⟨M2, hM2⟩ : ∃ M2, M2 = putB M xss[k] := ⟨_, rfl⟩
      rw [← hM] at HOUT HN hl1 HL7
      rw [← hM2] at HN
      have HM2 := Lib.hid hM2
      have q2 : wi.cell? ⟨o9, 1, none⟩ = some (.slice A' M.length c') := HOUT.out.box.cell 1
      have hkz : (0 : Int) ≤ (k : Int) := by omega
      have hki : (k : Int) < (xss.length : Int) := by omega
      clear hM hM2 r0 hkl
      go_upto_region 7 with fail
      obtain ⟨SS, hSS⟩ : ∃ SS : World → Prop, SS = (fun W => W.cell? ⟨o9, 1, none⟩ = some (.slice A' M.length c') ∧ W.cell? ⟨w.heap.size, 1, none⟩ = some (.slice (some ⟨b, o, none⟩) xss.length c) ∧ W.cell? ⟨b, o + k, none⟩ = some (.slice Ar xss[k].length cr)) := ⟨_, rfl⟩
      have l0 := World.block_lt_of_cell? _ _ q2
      have l1 := World.block_lt_of_cell? _ _ q1
      have l2 := World.block_lt_of_cell? _ _ k0
      have HSS := Lib.hid (show ∀ W, Below wi.heap.size wi W → SS W from by
        rw [hSS]
        exact fun W hW => ⟨(hW.cell l0).trans q2, (hW.cell l1).trans q1, (hW.cell l2).trans k0⟩)
      have HB := Lib.hid (show ∀ W, SS W → (W.cell? ⟨o9, 1, none⟩ = some (.slice A' M.length c') ∧ W.cell? ⟨w.heap.size, 1, none⟩ = some (.slice (some ⟨b, o, none⟩) xss.length c) ∧ W.cell? ⟨b, o + k, none⟩ = some (.slice Ar xss[k].length cr)) from by rw [hSS]; exact fun W hW => hW)
      clear hSS l0 l1 l2 q2 q1 k0
      refine wp_region_rel SS 10 11 (by kernel_rfl) rfl ?_
      obtain ⟨wy, hwy⟩ : ∃ wy, wy = wi.drew := ⟨_, rfl⟩
      have HBY := Lib.hid (show Below wi.heap.size wi wy by rw [hwy]; exact (Below.refl _ _).drew)
      rw [← hwy]
      clear hwy
      have hsy := HBY.out.size
      have S0 := Lib.hid (HSS.out _ HBY.out)
      refine wpAnyR_pure (i := 0) (oi := _) ?va0 rfl rfl (by kernel_rfl) (by decide) (fun _ _ _ h => h) rfl ?hya0 (fun _ => S0.out) ?resta0
      case hya0 => (intro W; go_simp; (try with_reducible rfl))
      try simp only [List.setIfInBounds_toArray, List.set_cons_zero, List.set_cons_succ]
      refine wpAnyR_take (i := 1) (oi := _) ?va1 rfl rfl (by kernel_rfl) (fun _ _ _ h => h) rfl ?hya1 S0.out ?resta1
      case hya1 => (intro W hW; obtain ⟨E0, E1, E2⟩ := HB.out W hW; go_simp; (try with_reducible rfl))
      try simp only [List.setIfInBounds_toArray, List.set_cons_zero, List.set_cons_succ]
      refine wpAnyR_pure (i := 2) (oi := _) ?va2 rfl rfl (by kernel_rfl) (by decide) (fun _ _ _ h => h) rfl ?hya2 (fun _ => S0.out) ?resta2
      case hya2 => (intro W; go_simp; (try with_reducible rfl))
      try simp only [List.setIfInBounds_toArray, List.set_cons_zero, List.set_cons_succ]
      refine wpAnyR_take (i := 3) (oi := _) ?va3 rfl rfl (by kernel_rfl) (fun _ _ _ h => h) rfl ?hya3 S0.out ?resta3
      case hya3 => (intro W hW; obtain ⟨E0, E1, E2⟩ := HB.out W hW; go_simp; (try with_reducible rfl))
      try simp only [List.setIfInBounds_toArray, List.set_cons_zero, List.set_cons_succ]
      refine wpAnyR_pure (i := 4) (oi := _) ?va4 rfl rfl (by kernel_rfl) (by decide) (fun _ _ _ h => h) rfl ?hya4 (fun _ => S0.out) ?resta4
      case hya4 => (intro W; go_simp; (try with_reducible rfl))
      try simp only [List.setIfInBounds_toArray, List.set_cons_zero, List.set_cons_succ]
      refine wpAnyR_pure (i := 5) (oi := _) ?va5 rfl rfl (by kernel_rfl) (by decide) (fun _ _ _ h => h) rfl ?hya5 (fun _ => S0.out) ?resta5
      case hya5 => (intro W; go_simp; (try with_reducible rfl))
      try simp only [List.setIfInBounds_toArray, List.set_cons_zero, List.set_cons_succ]
      refine wpAnyR_take (i := 6) (oi := _) ?va6 rfl rfl (by kernel_rfl) (fun _ _ _ h => h) rfl ?hya6 S0.out ?resta6
      case hya6 => (intro W hW; obtain ⟨E0, E1, E2⟩ := HB.out W hW; go_simp; (try with_reducible rfl))
      try simp only [List.setIfInBounds_toArray, List.set_cons_zero, List.set_cons_succ]
      refine wpAnyR_one (i := 7) (by kernel_rfl) rfl (fun K hK => ?_)
      try rw [if_pos (show Region.wanted _ _ = true from rfl)]
      go_simp
      refine (l3Copy_any (.slice Ar xss[k].length cr) xss[k] _ (HR0.out.on HBY.out) (by omega)).mono ?_
      rintro e W4 ⟨A6, c6, rfl, ho6, hb6⟩
      have HB4 := Lib.hid (bthen HBY.out hb6)
      have HO6 := Lib.hid (ho6.mono HBY.out.size (Nat.le_refl _))
      have HP4 := Lib.hid (HOUT.out.on HB4.out)
      have hs4 := HB4.out.size
      have S1 := Lib.hid (HSS.out _ HB4.out)
      clear ho6 hb6
      refine hK.out _ _ (fun _ => S1.out) ?_
      clear hK K
      try simp only [List.setIfInBounds_toArray, List.set_cons_zero, List.set_cons_succ, Act.put]
      refine wpAnyR_one (i := 8) (by kernel_rfl) rfl (fun K hK => ?_)
      try rw [if_pos (show Region.wanted _ _ = true from rfl)]
      go_simp
      refine (l3Put_any (.slice A' M.length c') (.slice A6 xss[k].length c6) M xss[k] M2 HM2.out w6.heap.size W4.heap.size W4 HP4.out.rows (HO6.out.mono (by omega) (Nat.le_refl _)) (Nat.le_refl _) (by omega) (by omega) HL7.out (by omega)).mono ?_
      rintro e W5 ⟨A7, c7, rfl, ho7, hb7⟩
      have HB5 := Lib.hid (bthen HB4.out hb7)
      have HPU := Lib.hid (HP4.out.put hb7 ho7)
      have hbx := HP4.out.box.below hb7 HP4.out.box.lt
      have g1 : W5.cell? ⟨o9, 1, none⟩ = some (.slice A' M.length c') := hbx.cell 1
      have g1f := hbx.frozen 1
      have S2 := Lib.hid (HSS.out _ HB5.out)
      clear ho7 hb7 hbx
      refine hK.out _ _ (fun _ => S2.out) ?_
      clear hK K
      try simp only [List.setIfInBounds_toArray, List.set_cons_zero, List.set_cons_succ, Act.put]
      refine wpAnyR_pure (i := 9) (oi := _) ?vb9 rfl rfl (by kernel_rfl) (by decide) (fun _ _ _ h => h) rfl ?hyb9 (fun _ => S2.out) ?restb9
      case hyb9 => (intro W; go_simp; (try with_reducible rfl))
      try simp only [List.setIfInBounds_toArray, List.set_cons_zero, List.set_cons_succ]
      refine wpAnyR_one (i := 10) (by kernel_rfl) rfl (fun K hK => ?_)
      go_simp
      refine hK.out _ _ (fun hf => absurd hf (by decide)) ?_
      clear hK K
      refine wpAnyR_done (by kernel_rfl) ?_
      go_wp2_with fail
      go_roundw
      case rel => exact ⟨k + 1, A7, c7, by omega, by go_num, by rw [HN.out]; exact HPU.out.1, HBE.out.trans ((HB4.out.mono (by omega)).trans HPU.out.2)⟩
      case measure => simp [intOf]; omega
    · have HO1 := Lib.hid (show PutAt w6.heap.size o9 wi m (putsB (xss ++ yss.take 0)) A' c' by
        have := HOUT.out
        rw [show k = xss.length by omega, List.take_append_of_le_length (Nat.le_refl _), List.take_length] at this
        simpa using this)
      clear HOUT
      have HBE1 := Lib.hid HBE.out
      go_wp2_with fail
      go_loopw [7] (fun i wr => ∃ (k : Nat) (A' : Option Addr) (c' : Nat), k ≤ yss.length ∧ i = .int .i64 k ∧ PutAt w6.heap.size o9 wr m (putsB (xss ++ yss.take k)) A' c' ∧ Below o9 w6 wr) (fun i _ => yss.length - (intOf i).toNat)
      case atStart => exact ⟨0, A', c', Nat.zero_le _, rfl, HO1.out, HBE1.out⟩
      clear HBE HBE1 HO1 BW hlt hk hsw q1
      case round =>
        obtain ⟨k, A', c', hk, rfl, hout, hbe⟩ := hrel
        obtain ⟨wi, rfl⟩ : ∃ wi, wi = wr := ⟨_, rfl⟩
        have HOUT := Lib.hid hout
        have HBE := Lib.hid hbe
        have BW := Lib.hid (show Below w.heap.size w wi from HB6.out.trans (hbe.mono (by omega)))
        have hsw := hbe.size
        have q1 : wi.cell? ⟨w.heap.size + 1, 1, none⟩ = some (.slice A1 yss.length c1) := (HY.out.2.1.below hbe (by omega)).cell 1
        clear hout hbe
        by_cases hlt : k < yss.length
        · obtain ⟨b, o, Ar, cr, rfl, hbB, k0, r0⟩ := (H1.out.below BW.out (Nat.le_refl _)).get hlt
          have hrow6 : yss[k].length ≤ 6 := HX6.out.2 _ (List.getElem_mem hlt)
          have hw0 := BW.out.size
          have HR0 := Lib.hid (r0.more hw0)
          have htk : xss ++ yss.take k = (xss ++ yss).take (xss.length + k) := take_both xss yss k
          have htk1 : xss ++ yss.take (k + 1) = (xss ++ yss).take (xss.length + k + 1) := take_both xss yss (k + 1)
          have hkl : xss.length + k < (xss ++ yss).length := by rw [List.length_append]; omega
          have HN := Lib.hid (show putsB (xss ++ yss.take (k + 1)) = putB (putsB (xss ++ yss.take k)) yss[k] by
            rw [htk1, htk, putsB_take hkl, List.getElem_append_right (by omega)]
            congr 2
            omega)
          have hl1 := (putsB_is (xss ++ yss) (xss.length + k) (by omega)).2.2
          have HL7 := Lib.hid (putsB_few (L := xss ++ yss) (k := xss.length + k) (fun x hx => (List.mem_append.1 hx).elim (HX6.out.1 x) (HX6.out.2 x)) (by omega))
          rw [← htk] at hl1 HL7
          obtain ⟨M, hM⟩ : ∃ M, M = putsB (xss ++ yss.take k) := ⟨_, rfl⟩
          obtain ⟨M2, hM2⟩ : ∃ M2, M2 = putB M yss[k] := ⟨_, rfl⟩
          rw [← hM] at HOUT HN hl1 HL7
          rw [← hM2] at HN
          have HM2 := Lib.hid hM2
          have q2 : wi.cell? ⟨o9, 1, none⟩ = some (.slice A' M.length c') := HOUT.out.box.cell 1
          have hkz : (0 : Int) ≤ (k : Int) := by omega
          have hki : (k : Int) < (yss.length : Int) := by omega
          clear hM hM2 r0 hkl htk htk1
          go_upto_region 11 with fail
          obtain ⟨SS, hSS⟩ : ∃ SS : World → Prop, SS = (fun W => W.cell? ⟨o9, 1, none⟩ = some (.slice A' M.length c') ∧ W.cell? ⟨w.heap.size + 1, 1, none⟩ = some (.slice (some ⟨b, o, none⟩) yss.length c1) ∧ W.cell? ⟨b, o + k, none⟩ = some (.slice Ar yss[k].length cr)) := ⟨_, rfl⟩
          have l0 := World.block_lt_of_cell? _ _ q2
          have l1 := World.block_lt_of_cell? _ _ q1
          have l2 := World.block_lt_of_cell? _ _ k0
          have HSS := Lib.hid (show ∀ W, Below wi.heap.size wi W → SS W from by
            rw [hSS]
            exact fun W hW => ⟨(hW.cell l0).trans q2, (hW.cell l1).trans q1, (hW.cell l2).trans k0⟩)
          have HB := Lib.hid (show ∀ W, SS W → (W.cell? ⟨o9, 1, none⟩ = some (.slice A' M.length c') ∧ W.cell? ⟨w.heap.size + 1, 1, none⟩ = some (.slice (some ⟨b, o, none⟩) yss.length c1) ∧ W.cell? ⟨b, o + k, none⟩ = some (.slice Ar yss[k].length cr)) from by rw [hSS]; exact fun W hW => hW)
          clear hSS l0 l1 l2 q2 q1 k0
          refine wp_region_rel SS 10 11 (by kernel_rfl) rfl ?_
          obtain ⟨wy, hwy⟩ : ∃ wy, wy = wi.drew := ⟨_, rfl⟩
          have HBY := Lib.hid (show Below wi.heap.size wi wy by rw [hwy]; exact (Below.refl _ _).drew)
          rw [← hwy]
          clear hwy
          have hsy := HBY.out.size
          have S0 := Lib.hid (HSS.out _ HBY.out)
          refine wpAnyR_pure (i := 0) (oi := _) ?vc0 rfl rfl (by kernel_rfl) (by decide) (fun _ _ _ h => h) rfl ?hyc0 (fun _ => S0.out) ?restc0
          case hyc0 => (intro W; go_simp; (try with_reducible rfl))
          try simp only [List.setIfInBounds_toArray, List.set_cons_zero, List.set_cons_succ]
          refine wpAnyR_take (i := 1) (oi := _) ?vc1 rfl rfl (by kernel_rfl) (fun _ _ _ h => h) rfl ?hyc1 S0.out ?restc1
          case hyc1 => (intro W hW; obtain ⟨E0, E1, E2⟩ := HB.out W hW; go_simp; (try with_reducible rfl))
          try simp only [List.setIfInBounds_toArray, List.set_cons_zero, List.set_cons_succ]
          refine wpAnyR_pure (i := 2) (oi := _) ?vc2 rfl rfl (by kernel_rfl) (by decide) (fun _ _ _ h => h) rfl ?hyc2 (fun _ => S0.out) ?restc2
          case hyc2 => (intro W; go_simp; (try with_reducible rfl))
          try simp only [List.setIfInBounds_toArray, List.set_cons_zero, List.set_cons_succ]
          refine wpAnyR_take (i := 3) (oi := _) ?vc3 rfl rfl (by kernel_rfl) (fun _ _ _ h => h) rfl ?hyc3 S0.out ?restc3
          case hyc3 => (intro W hW; obtain ⟨E0, E1, E2⟩ := HB.out W hW; go_simp; (try with_reducible rfl))
          try simp only [List.setIfInBounds_toArray, List.set_cons_zero, List.set_cons_succ]
          refine wpAnyR_pure (i := 4) (oi := _) ?vc4 rfl rfl (by kernel_rfl) (by decide) (fun _ _ _ h => h) rfl ?hyc4 (fun _ => S0.out) ?restc4
          case hyc4 => (intro W; go_simp; (try with_reducible rfl))
          try simp only [List.setIfInBounds_toArray, List.set_cons_zero, List.set_cons_succ]
          refine wpAnyR_pure (i := 5) (oi := _) ?vc5 rfl rfl (by kernel_rfl) (by decide) (fun _ _ _ h => h) rfl ?hyc5 (fun _ => S0.out) ?restc5
          case hyc5 => (intro W; go_simp; (try with_reducible rfl))
          try simp only [List.setIfInBounds_toArray, List.set_cons_zero, List.set_cons_succ]
          refine wpAnyR_take (i := 6) (oi := _) ?vc6 rfl rfl (by kernel_rfl) (fun _ _ _ h => h) rfl ?hyc6 S0.out ?restc6
          case hyc6 => (intro W hW; obtain ⟨E0, E1, E2⟩ := HB.out W hW; go_simp; (try with_reducible rfl))
          try simp only [List.setIfInBounds_toArray, List.set_cons_zero, List.set_cons_succ]
          refine wpAnyR_one (i := 7) (by kernel_rfl) rfl (fun K hK => ?_)
          try rw [if_pos (show Region.wanted _ _ = true from rfl)]
          go_simp
          refine (l3Copy_any (.slice Ar yss[k].length cr) yss[k] _ (HR0.out.on HBY.out) (by omega)).mono ?_
          rintro e W4 ⟨A6, c6, rfl, ho6, hb6⟩
          have HB4 := Lib.hid (bthen HBY.out hb6)
          have HO6 := Lib.hid (ho6.mono HBY.out.size (Nat.le_refl _))
          have HP4 := Lib.hid (HOUT.out.on HB4.out)
          have hs4 := HB4.out.size
          have S1 := Lib.hid (HSS.out _ HB4.out)
          clear ho6 hb6
          refine hK.out _ _ (fun _ => S1.out) ?_
          clear hK K
          try simp only [List.setIfInBounds_toArray, List.set_cons_zero, List.set_cons_succ, Act.put]
          refine wpAnyR_one (i := 8) (by kernel_rfl) rfl (fun K hK => ?_)
          try rw [if_pos (show Region.wanted _ _ = true from rfl)]
          go_simp
          refine (l3Put_any (.slice A' M.length c') (.slice A6 yss[k].length c6) M yss[k] M2 HM2.out w6.heap.size W4.heap.size W4 HP4.out.rows (HO6.out.mono (by omega) (Nat.le_refl _)) (Nat.le_refl _) (by omega) (by omega) HL7.out (by omega)).mono ?_
          rintro e W5 ⟨A7, c7, rfl, ho7, hb7⟩
          have HB5 := Lib.hid (bthen HB4.out hb7)
          have HPU := Lib.hid (HP4.out.put hb7 ho7)
          have hbx := HP4.out.box.below hb7 HP4.out.box.lt
          have g1 : W5.cell? ⟨o9, 1, none⟩ = some (.slice A' M.length c') := hbx.cell 1
          have g1f := hbx.frozen 1
          have S2 := Lib.hid (HSS.out _ HB5.out)
          clear ho7 hb7 hbx
          refine hK.out _ _ (fun _ => S2.out) ?_
          clear hK K
          try simp only [List.setIfInBounds_toArray, List.set_cons_zero, List.set_cons_succ, Act.put]
          refine wpAnyR_pure (i := 9) (oi := _) ?vd9 rfl rfl (by kernel_rfl) (by decide) (fun _ _ _ h => h) rfl ?hyd9 (fun _ => S2.out) ?restd9
          case hyd9 => (intro W; go_simp; (try with_reducible rfl))
          try simp only [List.setIfInBounds_toArray, List.set_cons_zero, List.set_cons_succ]
          refine wpAnyR_one (i := 10) (by kernel_rfl) rfl (fun K hK => ?_)
          go_simp
          refine hK.out _ _ (fun hf => absurd hf (by decide)) ?_
          clear hK K
          refine wpAnyR_done (by kernel_rfl) ?_
          go_wp2_with fail
          go_roundw
          case rel => exact ⟨k + 1, A7, c7, by omega, by go_num, by rw [HN.out]; exact HPU.out.1, HBE.out.trans ((HB4.out.mono (by omega)).trans HPU.out.2)⟩
          case measure => simp [intOf]; omega
        · have HO2 := Lib.hid (show PutAt w6.heap.size o9 wi m (putsB (xss ++ yss)) A' c' by
            have := HOUT.out
            rw [show k = yss.length by omega, List.take_length] at this
            exact this)
          clear HOUT
          have z1 := HY.out.2.2.below HBE.out (by omega)
          have b1c0 : wi.cell? ⟨w.heap.size + 2, 0, none⟩ = some (.int .i64 0) := z1.cell 0
          have b1c1 : wi.cell? ⟨w.heap.size + 2, 1, none⟩ = some (.slice none 0 0) := z1.cell 1
          have b1f0 := z1.frozen 0
          have b1f1 := z1.frozen 1
          have d0 : wi.cell? ⟨o9, 0, none⟩ = some (.int .i64 m) := HO2.out.box.cell 0
          have d1 : wi.cell? ⟨o9, 1, none⟩ = some (.slice A' (putsB (xss ++ yss)).length c') := HO2.out.box.cell 1
          have HRy := Lib.hid (fun h4 => HR.out.trans (eitherR_yes (a := (m, xss)) (b := (n, yss)) HPa.out HPb.out HMN.out h4))
          have HRn := Lib.hid (fun h4 => HR.out.trans (eitherR_many (a := (m, xss)) (b := (n, yss)) h4))
          simp only at HRy HRn
          obtain ⟨M, hM⟩ : ∃ M, M = putsB (xss ++ yss) := ⟨_, rfl⟩
          rw [← hM] at HO2 d1 HRy HRn
          clear hM z1
          by_cases hf : 2000 < M.length
          · have e2 : decide ((M.length : Int) > 2000) = true := decide_eq_true (by omega)
            have e3 : decide (2000 < (M.length : Int)) = true := decide_eq_true (by omega)
            have HE := Lib.hid (HRn.out hf)
            clear hf
            go_wp2_with fail
            refine bodyPost_ret (v := .agg #[.int .i64 0, .slice none 0 0]) (by simp [results, Try.results39, go_sem, b1c0, b1c1]) rfl ?_
            rw [HE.out]
            exact ⟨none, 0, rfl, WkRows.nothing _ _ _, (BW.out.setCell (by simp <;> omega) _).setCell (by simp <;> omega) _⟩
          · have e2 : decide ((M.length : Int) > 2000) = false := decide_eq_false (by omega)
            have e3 : decide (2000 < (M.length : Int)) = false := decide_eq_false (by omega)
            have HE := Lib.hid (HRy.out (by omega))
            clear hf
            go_wp2_with fail
            refine bodyPost_ret (v := .agg #[.int .i64 m, .slice A' M.length c']) (by simp [results, Try.results39, go_sem, b1c0, b1c1]) rfl ?_
            rw [HE.out]
            refine ⟨A', c', rfl, ?_, (BW.out.setCell (by simp <;> omega) _).setCell (by simp <;> omega) _⟩
            have hrw := HO2.out.rows
            have h1 := (hrw.only (Only.setCell (Only.refl 0 (w.heap.size + 3) wi) (p := ⟨w.heap.size + 2, 0, none⟩) ⟨Nat.zero_le _, by simp⟩ (.int .i64 m)) (.inr (by omega)))
            have h2 := (h1.only (Only.setCell (Only.refl 0 (w.heap.size + 3) _) (p := ⟨w.heap.size + 2, 1, none⟩) ⟨Nat.zero_le _, by simp⟩ (.slice A' M.length c')) (.inr (by omega)))
            exact h2.mono (by omega) (by simp)

end Go.Proofs.Ytchincemlilnoaa
/-
  numbersRel of the program once more, with what it leaves alone: all but the numbers' own block.
-/
namespace Go.Proofs.Ytchincemlilnoaa
open Go.RowKit

theorem Only.of_low {lo hi B : Nat} {w0 w w' : World} (h : Only lo hi w0 w) (hb : Below B w w') (hB : w0.heap.size ≤ B) : Only lo hi w0 w' :=
  ⟨hb.os.trans h.os, hb.tape.trans h.tape, hb.output.trans h.output, Nat.le_trans h.size hb.size, fun k hk ho => (hb.block k (by omega)).trans (h.block k hk ho)⟩

theorem Only.atNew {lo hi : Nat} {w W : World} (h : Only lo hi w W) {p : Addr} (hp : w.heap.size ≤ p.block) (u : Value) : Only lo hi w (W.setCell p u) :=
  ⟨h.os, h.tape, h.output, by simpa using h.size, fun k hk ho => (Below.heap_setCell _ _ _ _ (by omega)).trans (h.block k hk ho)⟩
theorem OwnInts.apartRel {w : World} {lo hi : Nat} {v : Value} {zs : List Int} (h : OwnInts w lo hi v zs) {g : Nat} {cs : Array Value} (hx : Blk w g 27 cs) : v.ownBlock ≠ some g := fun e => by
  rcases h.rowI with ⟨rfl, _⟩ | ⟨g', c, cur, rfl, _, _, _, hg, _⟩
  · cases e
  · have e2 : g' = g := by simpa [Value.ownBlock] using e
    subst e2
    have h3 := hx.symm.trans hg
    simp at h3
/-- The tight bounds of an owned row. -/
theorem OwnInts.tight {w : World} {lo hi : Nat} {v : Value} {zs : List Int} (h : OwnInts w lo hi v zs) (hlo : lo ≤ w.heap.size) :
    ∃ l r, OwnInts w l r v zs ∧ lo ≤ l ∧ l ≤ w.heap.size ∧ r ≤ w.heap.size ∧ ∀ g cs, Blk w g 27 cs → g < l ∨ r ≤ g := by
  have ha : ∀ g cs, Blk w g 27 cs → v.ownBlock ≠ some g := fun g cs hx => h.apartRel hx
  have hl := fun g (hg : v.ownBlock = some g) => h.lt hg
  rcases h.rowI with ⟨rfl, rfl⟩ | ⟨g', c, cur, rfl, _, _, hgs, _, _⟩
  · exact ⟨w.heap.size, w.heap.size, OwnInts.none _ _ _, hlo, Nat.le_refl _, Nat.le_refl _, fun g cs hx => .inl hx.lt⟩
  · refine ⟨g', g' + 1, ?_, (hl g' rfl).1, Nat.le_of_lt hgs, hgs, fun g cs hx => ?_⟩
    · obtain ⟨⟨h0, h⟩, hlt⟩ := h
      refine ⟨⟨h0, ?_⟩, fun b hb => ?_⟩
      · rcases h with ⟨e, _⟩ | ⟨g1, cap, cur1, e, hb, hrest⟩
        · cases e
        · refine .inr ⟨g1, cap, cur1, e, ?_, hrest⟩
          injection e with e1 _ _
          injection e1 with e1
          injection e1 with e1
          omega
      · simp [Value.ownBlock] at hb
        omega
    · have h5 := ha g cs hx
      have : g' ≠ g := fun e => h5 (by rw [← e]; rfl)
      omega

set_option maxHeartbeats 4000000 in
set_option maxRecDepth 100000 in
theorem numbersRel_only (p : Nat) (v : Value) (zs : List Int) (lo hi : Nat) (w : World) (h : OwnInts w lo hi v zs) (hhi : hi ≤ w.heap.size) (hlo : lo ≤ w.heap.size) (hz : ∀ z, z ∈ zs → 0 ≤ z ∧ z ≤ 1048576) (hp : p ≤ 6) (hn : zs.length ≤ 1048576) :
    Calls Try.prog 59 #[.int .i64 p, v] w fun e w' => ∃ A' c', e = .returned (.agg #[.int .i64 p, .slice A' (numRows zs p).length c']) ∧ OwnRows w' w.heap.size w'.heap.size (.slice A' (numRows zs p).length c') (numRows zs p) ∧ Only lo hi w w' := by
  have H := Lib.hid h
  have HZ := Lib.hid (show ∀ (k : Nat) (hk : k < (Lib.compact (sortI zs)).length), ∃ n : Nat, (Lib.compact (sortI zs))[k] = (n : Int) ∧ n ≤ 1048576 from fun k hk => by
    have := hz _ (sortI_mem.1 (compact_mem.1 (List.getElem_mem hk)))
    exact ⟨((Lib.compact (sortI zs))[k]).toNat, by omega, by omega⟩)
  have hcn : (Lib.compact (sortI zs)).length ≤ 1048576 := Nat.le_trans (compact_len _) (by rw [sortI_length]; exact hn)
  clear h hz
  obtain ⟨i0, hi0, hz0, hz1, hz2⟩ := info_parts Try.infoIntS
  go_enter Try.func59, Try.ntmps59
  go_wp2_with fail
  obtain ⟨w1, hw1⟩ : ∃ w1, w1 = w.alloc (Obj.cells #[Value.int IntKind.i64 0, Value.slice none 0 0] 27) := ⟨_, rfl⟩
  have B1 : Below w.heap.size w w1 := by rw [hw1]; exact below1 _ _
  have s1 : w1.heap.size = w.heap.size + 1 := by rw [hw1]; simp
  have x0 : Blk w1 w.heap.size 27 #[.int .i64 0, .slice none 0 0] := by rw [hw1]; exact Blk.new _ _ _
  rw [← hw1]
  clear hw1
  refine (sortI_any v zs lo hi w1 (H.out.below B1 hhi) hn).mono ?_
  rintro e w2 ⟨rfl, ho2, hb2⟩
  have s2 := hb2.size
  have O2 := Lib.hid (show Only lo hi w w2 from (Only.of_below B1).trans hb2)
  have x2 := hb2.blk x0 (.inr hhi)
  have HS2 := Lib.hid ho2
  clear x0 ho2 hb2
  go_upto_region 3 with fail
  obtain ⟨o9, ho9⟩ : ∃ o9, o9 = w2.heap.size := ⟨_, rfl⟩
  obtain ⟨w3, hw3⟩ : ∃ w3, w3 = w2.alloc (Obj.cells #[Value.int IntKind.i64 (p : Int), Value.slice none 0 0] 27) := ⟨_, rfl⟩
  have hb23 : Below w2.heap.size w2 w3 := by rw [hw3]; exact below1 _ _
  have x9 : Blk w3 o9 27 #[.int .i64 (p : Int), .slice none 0 0] := by rw [hw3, ho9]; exact Blk.new _ _ _
  have s3 : w3.heap.size = o9 + 1 := by rw [hw3, ho9]; simp
  rw [← hw3, ← ho9]
  have hh9 : hi ≤ o9 := by omega
  have hl9 : lo ≤ o9 := by omega
  have h09 : w.heap.size < o9 := by omega
  have HS9 := Lib.hid s3
  have HS3 := Lib.hid (show OwnInts w3 lo hi v (sortI zs) from HS2.out.below hb23 (by omega))
  have HX := Lib.hid (show Blk w3 w.heap.size 27 #[.int .i64 0, .slice none 0 0] from x2.below hb23 (by omega))
  have O3 := Lib.hid (show Only lo hi w w3 from O2.out.trans (Only.of_below hb23))
  have hs29 : w2.heap.size = o9 := ho9.symm
  have HO9 := Lib.hid hs29
  clear hw3 x2 hb23 HS2 O2 ho9 hs29 s3
  obtain ⟨cs, hcs⟩ : ∃ cs, cs = Lib.compact (sortI zs) := ⟨_, rfl⟩
  have HR := Lib.hid (show numRows zs p = cs.map fun z => digits z.toNat p by rw [hcs]; rfl)
  rw [← hcs] at HZ hcn
  have CO := Lib.hid (compactI_any v (sortI zs) lo hi w3 HS3.out (by rw [sortI_length]; exact hn))
  rw [← hcs] at CO
  clear hcs
  go_wp2_with (go_at_call 83; refine CO.out.mono ?_; rintro e w4 ⟨A, c, rfl, ho4, hb4⟩)
  have s4 := hb4.size
  have h39 : o9 + 1 ≤ w3.heap.size := by rw [HS9.out]; exact Nat.le_refl _
  have HO4 := Lib.hid ho4
  have O4 := Lib.hid (show Only lo hi w w4 from O3.out.trans hb4)
  have X4 := Lib.hid (hb4.blk HX.out (.inr hhi))
  have HO := Lib.hid (show OutAt w4.heap.size o9 w4 p [] none 0 [] from OutAt.empty (hb4.blk x9 (.inr hh9)) (by omega) (Nat.le_refl _))
  clear ho4 hb4 x9
  go_loopw [7, 15] (fun _ i wr => ∃ (k : Nat) (A' : Option Addr) (c' : Nat) (av : List Value), k ≤ cs.length ∧ i = .int .i64 k ∧ OutAt w4.heap.size o9 wr p ((cs.take k).map fun z => digits z.toNat p) A' c' av ∧ Below o9 w4 wr) (fun _ i _ => cs.length - (intOf i).toNat)
  case atStart => exact ⟨0, none, 0, [], Nat.zero_le _, rfl, by simpa using HO.out, Below.refl _ _⟩
  case round =>
    obtain ⟨k, A', c', av, hk, rfl, hout, hbe⟩ := hrel
    obtain ⟨wi, rfl⟩ : ∃ wi, wi = wr := ⟨_, rfl⟩
    have HOI := Lib.hid hout
    have HBE := Lib.hid hbe
    have hsi := hbe.size
    have hoi := hout.le
    clear hout hbe
    by_cases hlt : k < cs.length
    · obtain ⟨A5, c5, e5, _, hx⟩ := (HO4.out.below HBE.out hh9).rd
      injection e5 with e5 _ e6
      subst e5 e6
      obtain ⟨b, o, rfl, hb, hx⟩ := hx (by omega)
      have k0 : wi.cell? ⟨b, o + k, none⟩ = some (.int .i64 cs[k]) := hx k hlt
      obtain ⟨n, hn1, hn2⟩ := HZ.out k hlt
      rw [hn1] at k0
      obtain ⟨M, hM⟩ : ∃ M, M = (cs.take k).map fun z => digits z.toNat p := ⟨_, rfl⟩
      have HN := Lib.hid (show M ++ [digits n p] = (cs.take (k + 1)).map fun z => digits z.toNat p by
        rw [take_snoc cs k hlt, List.map_append, ← hM, hn1]
        simp)
      have hMl : M.length ≤ k := by rw [hM, List.length_map, List.length_take]; omega
      rw [← hM] at HOI
      have q9 : wi.cell? ⟨o9, 1, none⟩ = some (.slice A' M.length c') := HOI.out.box.cell 1
      clear hM hx hn1
      go_upto_region 6 with fail
      obtain ⟨SS, hSS⟩ : ∃ SS : World → Prop, SS = (fun W => W.cell? ⟨o9, 1, none⟩ = some (.slice A' M.length c')) := ⟨_, rfl⟩
      have HSS := Lib.hid (show ∀ W, Below w4.heap.size wi W → SS W from by
        rw [hSS]
        exact fun W hW => (hW.cell (p := ⟨o9, 1, none⟩) (by simp; omega)).trans q9)
      have HB := Lib.hid (show ∀ W, SS W → (W.cell? ⟨o9, 1, none⟩ = some (.slice A' M.length c') ∧ True) from by rw [hSS]; exact fun W hW => ⟨hW, trivial⟩)
      clear hSS q9 k0
      refine wp_region_rel SS 8 9 (by kernel_rfl) rfl ?_
      obtain ⟨wy, hwy⟩ : ∃ wy, wy = wi.drew := ⟨_, rfl⟩
      have HBY := Lib.hid (show Below wi.heap.size wi wy by rw [hwy]; exact (Below.refl _ _).drew)
      rw [← hwy]
      clear hwy
      have hsy := HBY.out.size
      have S0' := Lib.hid (HSS.out _ (HBY.out.mono hoi))
      refine wpAnyR_pure (i := 0) (oi := _) ?va0 rfl rfl (by kernel_rfl) (by decide) (fun _ _ _ h => h) rfl ?hya0 (fun _ => S0'.out) ?resta0
      case hya0 => (intro W; go_simp; (try with_reducible rfl))
      try simp only [List.setIfInBounds_toArray, List.set_cons_zero, List.set_cons_succ]
      refine wpAnyR_take (i := 1) (oi := _) ?va1 rfl rfl (by kernel_rfl) (fun _ _ _ h => h) rfl ?hya1 S0'.out ?resta1
      case hya1 => (intro W hW; obtain ⟨E0, _⟩ := HB.out W hW; go_simp; (try with_reducible rfl))
      try simp only [List.setIfInBounds_toArray, List.set_cons_zero, List.set_cons_succ]
      refine wpAnyR_pure (i := 2) (oi := _) ?va2 rfl rfl (by kernel_rfl) (by decide) (fun _ _ _ h => h) rfl ?hya2 (fun _ => S0'.out) ?resta2
      case hya2 => (intro W; go_simp; (try with_reducible rfl))
      try simp only [List.setIfInBounds_toArray, List.set_cons_zero, List.set_cons_succ]
      refine wpAnyR_pure (i := 3) (oi := _) ?va3 rfl rfl (by kernel_rfl) (by decide) (fun _ _ _ h => h) rfl ?hya3 (fun _ => S0'.out) ?resta3
      case hya3 => (intro W; go_simp; (try with_reducible rfl))
      try simp only [List.setIfInBounds_toArray, List.set_cons_zero, List.set_cons_succ]
      refine wpAnyR_one (i := 4) (by kernel_rfl) rfl (fun K hK => ?_)
      try rw [if_pos (show Region.wanted _ _ = true from rfl)]
      go_simp
      refine (constantDigits_six n p wy hn2 hp).mono ?_
      rintro e W5 ⟨A6, c6, rfl, ho6, hb6⟩
      have HO7 := Lib.hid (show OwnInts W5 wi.heap.size W5.heap.size (.slice A6 p c6) (digits n p) ∧ Below wi.heap.size wi W5 from ⟨ho6.mono HBY.out.size (Nat.le_refl _), bthen HBY.out hb6⟩)
      have S2 := Lib.hid (HSS.out _ (HO7.out.2.mono hoi))
      obtain ⟨rw', hrw'⟩ : ∃ r, r = digits n p := ⟨_, rfl⟩
      rw [← hrw'] at HO7 HN
      clear hrw' ho6 hb6
      refine hK.out _ _ (fun _ => S2.out) ?_
      clear hK K
      try simp only [List.setIfInBounds_toArray, List.set_cons_zero, List.set_cons_succ, Act.put]
      refine wpAnyR_one (i := 5) (by kernel_rfl) rfl (fun K hK => ?_)
      try rw [if_pos (show Region.wanted _ _ = true from rfl)]
      go_simp
      have S3 := Lib.hid (HSS.out _ ((bthen HO7.out.2 (below1 W5 (Obj.cells #[Value.slice A6 p c6] 42))).mono hoi))
      refine hK.out _ _ (fun _ => S3.out) ?_
      clear hK K
      try simp only [List.setIfInBounds_toArray, List.set_cons_zero, List.set_cons_succ, Act.put]
      refine wpAnyR_one (i := 6) (by kernel_rfl) rfl (fun K hK => ?_)
      refine step_append_lies _ rfl (.tmp 20) (.tmp 24) 22 rfl w4.heap.size 42 i0 (.slice none 0 0) 1 24 Try.underlying22 hi0 hz0 hz1 hz2 rfl (by decide) (.slice A' M.length c') M.length av rfl ?c1 ⟨W5.heap.size, 0, none⟩ 1 1 [.slice A6 p c6] rfl rfl ?c4 ?c2 (by omega) (by unfold maxLen; omega) (by omega) ?c3 _ rfl ?c5
      case c1 => exact (HOI.out.on HO7.out.2).row.alloc _
      case c4 => exact World.news_of_block (cs := #[.slice A6 p c6]) (heap_alloc_new W5 _)
      case c2 => intro u hu; simp at hu; subst hu; rfl
      case c3 => have := HO7.out.2.size; simp; omega
      case c5 =>
      intro g2 cap w7 hown hgr hat _
      have hpush := HOI.out.push (xs := rw') HO7.out.2 HO7.out.1 hgr hown
      have hgrown := HOI.out.grown HO7.out.2 hgr
      have S4 := Lib.hid (HSS.out w7 hgrown)
      have hbx := HOI.out.box.below hgrown (by omega)
      have g1 : w7.cell? ⟨o9, 1, none⟩ = some (.slice A' M.length c') := hbx.cell 1
      have g1f := hbx.frozen 1
      have HPU := Lib.hid hpush
      clear hpush hown hgr hat hgrown hbx
      refine hK.out _ _ (fun _ => S4.out) ?_
      clear hK K
      try simp only [List.setIfInBounds_toArray, Act.put]
      refine wpAnyR_pure (i := 7) (oi := _) ?vb8 rfl rfl (by kernel_rfl) (by decide) (fun _ _ _ h => h) rfl ?hyb8 (fun _ => S4.out) ?restb8
      case hyb8 => (intro W; go_simp; (try with_reducible rfl))
      try simp only [List.setIfInBounds_toArray, List.set_cons_zero, List.set_cons_succ]
      refine wpAnyR_one (i := 8) (by kernel_rfl) rfl (fun K hK => ?_)
      go_simp
      refine hK.out _ _ (fun hf => absurd hf (by decide)) ?_
      clear hK K
      refine wpAnyR_done (by kernel_rfl) ?_
      go_wp2_with fail
      go_roundw
      case rel => exact ⟨k + 1, _, _, _, by omega, by go_num, by rw [← HN.out]; exact HPU.out.1, HBE.out.trans HPU.out.2⟩
      case measure => simp [intOf]; omega
    · have hkn : k = cs.length := by omega
      obtain ⟨M, hM⟩ : ∃ M, M = (cs.take k).map fun z => digits z.toNat p := ⟨_, rfl⟩
      have HN := Lib.hid (show numRows zs p = M by rw [hM, HR.out, hkn, List.take_length])
      rw [← hM] at HOI
      have z1 := X4.out.below HBE.out h09
      have b1c0 : wi.cell? ⟨w.heap.size, 0, none⟩ = some (.int .i64 0) := z1.cell 0
      have b1c1 : wi.cell? ⟨w.heap.size, 1, none⟩ = some (.slice none 0 0) := z1.cell 1
      have b1f0 := z1.frozen 0
      have b1f1 := z1.frozen 1
      have d0 : wi.cell? ⟨o9, 0, none⟩ = some (.int .i64 p) := HOI.out.box.cell 0
      have d1 : wi.cell? ⟨o9, 1, none⟩ = some (.slice A' M.length c') := HOI.out.box.cell 1
      clear hkn z1 hM
      go_wp2_with fail
      refine bodyPost_ret (v := .agg #[.int .i64 p, .slice A' M.length c']) (by simp [results, Try.results59, go_sem, b1c0, b1c1]) rfl ?_
      rw [HN.out]
      refine ⟨A', c', rfl, ?_, ((O4.out.of_low HBE.out (by omega)).atNew (by simp) _).atNew (by simp) _⟩
      have hrw := HOI.out.rows
      have h1 := (hrw.only (Only.setCell (Only.refl 0 (w.heap.size + 1) wi) (p := ⟨w.heap.size, 0, none⟩) ⟨Nat.zero_le _, by simp⟩ (.int .i64 p)) (.inr (by omega)))
      have h2 := (h1.only (Only.setCell (Only.refl 0 (w.heap.size + 1) _) (p := ⟨w.heap.size, 1, none⟩) ⟨Nat.zero_le _, by simp⟩ (.slice A' M.length c')) (.inr (by omega)))
      exact h2.mono (by omega) (by simp)

end Go.Proofs.Ytchincemlilnoaa
/-
  RelEither of the program.
-/
namespace Go.Proofs.Ytchincemlilnoaa
open Go.RowKit

theorem keys_up {r : LRel} {p : Nat} (hp : RelP r) (e : (p : Int) = r.1) : keysI r.2 (upI p) = r.2.map numI := by
  unfold keysI
  apply List.map_congr_left
  intro x hx
  have h1 := (rel_short hp x hx).1
  have h2 : p = x.length := by omega
  rw [h2, pickC_up]
  rfl

set_option maxHeartbeats 16000000 in
set_option maxRecDepth 100000 in
theorem implRelEither_any (v0 v1 : Value) (a b : LRel) (R : LRel) (hR : R = eitherR a b) (w : World) (h0 : RdRel w w.heap.size v0 a) (h1 : RdRel w w.heap.size v1 b)
    (s0 : szRows a.2 ≤ 1048576) (s1 : szRows b.2 ≤ 1048576) :
    Calls Try.prog 40 #[v0, v1] w fun e w' => ∃ A' c', e = .returned (.agg #[.int .i64 R.1, .slice A' R.2.length c']) ∧ OwnRows w' w.heap.size w'.heap.size (.slice A' R.2.length c') R.2 ∧ Below w.heap.size w w' := by
  have HR := Lib.hid hR
  clear hR
  obtain ⟨a0, rfl, h0⟩ := h0
  have H0 := Lib.hid h0
  obtain ⟨A, c, rfl, _, _⟩ := h0
  obtain ⟨a1, rfl, h1⟩ := h1
  have H1 := Lib.hid h1
  obtain ⟨A1, c1, rfl, _, _⟩ := h1
  obtain ⟨m, xss⟩ := a
  obtain ⟨n, yss⟩ := b
  have S0 := Lib.hid s0
  have S1 := Lib.hid s1
  simp only at H0 H1 HR
  clear s0 s1
  go_enter Try.func40, Try.ntmps40
  go_wp2_with fail
  obtain ⟨w3, hw3⟩ : ∃ w3, w3 = ((w.alloc (Obj.cells #[Value.int IntKind.i64 m, Value.slice A xss.length c] 27)).alloc (Obj.cells #[Value.int IntKind.i64 n, Value.slice A1 yss.length c1] 27)).alloc (Obj.cells #[Value.int IntKind.i64 0, Value.slice none 0 0] 27) := ⟨_, rfl⟩
  have B3 : Below w.heap.size w w3 := by rw [hw3]; exact below3 _ _ _ _
  have s3' : w3.heap.size = w.heap.size + 3 := by rw [hw3]; simp
  have x0 : Blk w3 w.heap.size 27 #[.int .i64 m, .slice A xss.length c] := by rw [hw3]; exact ((Blk.new w _ _).alloc _).alloc _
  have x1 : Blk w3 (w.heap.size + 1) 27 #[.int .i64 n, .slice A1 yss.length c1] := by
    rw [hw3]
    simpa using (Blk.new (w.alloc (Obj.cells #[Value.int IntKind.i64 m, Value.slice A xss.length c] 27)) 27 #[.int .i64 n, .slice A1 yss.length c1]).alloc _
  have x2 : Blk w3 (w.heap.size + 2) 27 #[.int .i64 0, .slice none 0 0] := by
    rw [hw3]
    simpa using Blk.new ((w.alloc (Obj.cells #[Value.int IntKind.i64 m, Value.slice A xss.length c] 27)).alloc (Obj.cells #[Value.int IntKind.i64 n, Value.slice A1 yss.length c1] 27)) 27 #[.int .i64 0, .slice none 0 0]
  rw [← hw3]
  clear hw3
  obtain ⟨ok, hok⟩ : ∃ ok, ok = relB (m, xss) := ⟨_, rfl⟩
  have CR := implRelOk_any _ (m, xss) _ ⟨_, rfl, H0.out.on B3⟩ S0.out
  rw [← hok] at CR
  refine CR.mono ?_
  rintro e w4 ⟨rfl, hb4⟩
  have B4 := bthen B3 hb4
  have s4 := hb4.size
  have y0 := x0.below hb4 x0.lt
  have y1 := x1.below hb4 x1.lt
  have y2 := x2.below hb4 x2.lt
  clear x0 x1 x2 CR
  have q2 : w4.cell? ⟨w.heap.size + 1, 0, none⟩ = some (.int .i64 n) := y1.cell 0
  have q3 : w4.cell? ⟨w.heap.size + 1, 1, none⟩ = some (.slice A1 yss.length c1) := y1.cell 1
  have b1c0 : w4.cell? ⟨w.heap.size + 2, 0, none⟩ = some (.int .i64 0) := y2.cell 0
  have b1c1 : w4.cell? ⟨w.heap.size + 2, 1, none⟩ = some (.slice none 0 0) := y2.cell 1
  have b1f0 := y2.frozen 0
  have b1f1 := y2.frozen 1
  have HOK := Lib.hid hok
  clear hok
  cases ok
  · have HE := Lib.hid (show R = (0, []) by rw [HR.out]; exact eitherR_a HOK.out.symm)
    clear q2 q3
    go_wp2_with fail
    refine bodyPost_ret (v := .agg #[.int .i64 0, .slice none 0 0]) (by simp [results, Try.results40, go_sem, b1c0, b1c1]) rfl ?_
    rw [HE.out]
    exact ⟨none, 0, rfl, OwnRows.none _ _ _, (B4.setCell (by simp <;> omega) _).setCell (by simp <;> omega) _⟩
  have HPa := Lib.hid (show RelP (m, xss) from relB_iff.1 HOK.out.symm)
  go_wp2_with fail
  obtain ⟨ok2, hok2⟩ : ∃ ok2, ok2 = relB (n, yss) := ⟨_, rfl⟩
  have CR := implRelOk_any _ (n, yss) _ ⟨_, rfl, H1.out.on B4⟩ S1.out
  rw [← hok2] at CR
  refine CR.mono ?_
  rintro e w5 ⟨rfl, hb5⟩
  have B5 := bthen B4 hb5
  have s5 := hb5.size
  have z0 := y0.below hb5 y0.lt
  have z1 := y1.below hb5 y1.lt
  have z2 := y2.below hb5 y2.lt
  clear y0 y1 y2 q2 q3 b1c0 b1c1 b1f0 b1f1 CR
  have b1c0 : w5.cell? ⟨w.heap.size + 2, 0, none⟩ = some (.int .i64 0) := z2.cell 0
  have b1c1 : w5.cell? ⟨w.heap.size + 2, 1, none⟩ = some (.slice none 0 0) := z2.cell 1
  have b1f0 := z2.frozen 0
  have b1f1 := z2.frozen 1
  have q4 : w5.cell? ⟨w.heap.size, 0, none⟩ = some (.int .i64 m) := z0.cell 0
  have q5 : w5.cell? ⟨w.heap.size + 1, 0, none⟩ = some (.int .i64 n) := z1.cell 0
  have HOK2 := Lib.hid hok2
  clear hok2
  cases ok2
  · have HE := Lib.hid (show R = (0, []) by rw [HR.out]; exact eitherR_b HOK2.out.symm)
    clear q4 q5
    go_wp2_with fail
    refine bodyPost_ret (v := .agg #[.int .i64 0, .slice none 0 0]) (by simp [results, Try.results40, go_sem, b1c0, b1c1]) rfl ?_
    rw [HE.out]
    exact ⟨none, 0, rfl, OwnRows.none _ _ _, (B5.setCell (by simp <;> omega) _).setCell (by simp <;> omega) _⟩
  have HPb := Lib.hid (show RelP (n, yss) from relB_iff.1 HOK2.out.symm)
  by_cases hmn : ¬ m = n
  · have HE := Lib.hid (show R = (0, []) by rw [HR.out]; exact eitherR_wide hmn)
    have e1 : (m == n) = false := by simp [hmn]
    have e1' : (m != n) = true := by simp [hmn]
    clear hmn
    go_wp2_with fail
    refine bodyPost_ret (v := .agg #[.int .i64 0, .slice none 0 0]) (by simp [results, Try.results40, go_sem, b1c0, b1c1]) rfl ?_
    rw [HE.out]
    exact ⟨none, 0, rfl, OwnRows.none _ _ _, (B5.setCell (by simp <;> omega) _).setCell (by simp <;> omega) _⟩
  have hmn : m = n := by omega
  have e1' : (m != n) = false := by simp [hmn]
  have hm0 : 0 ≤ m := HPa.out.lo
  have hm6 : m ≤ 6 := HPa.out.hi
  obtain ⟨p, rfl⟩ := Int.eq_ofNat_of_zero_le hm0
  subst hmn
  have hp6 : p ≤ 6 := by omega
  have HP6 := Lib.hid hp6
  have hxs : xss.length ≤ 2000 := HPa.out.many
  have hys : yss.length ≤ 2000 := HPb.out.many
  obtain ⟨i1, hi1, hy0, hy1, hy2⟩ := info_parts Try.infoInt
  have q0 : w5.cell? ⟨w.heap.size, 1, none⟩ = some (.slice A xss.length c) := z0.cell 1
  have HX := Lib.hid (And.intro z0 (And.intro z1 z2))
  have CO := Lib.hid (columns_any (.agg #[.int .i64 (p : Int), .slice A xss.length c]) ((p : Int), xss) p rfl w5 ⟨_, rfl, H0.out.on B5⟩ (by omega))
  rw [upI_length] at CO
  clear z0 z1 z2 b1c0 b1c1 b1f0 b1f1 hm0
  go_wp2_with (go_at_call 76; refine CO.out.mono ?_; rintro e w6 ⟨A9, c9, rfl, ho6, hb6⟩)
  have B6 := Lib.hid (bthen B5 hb6)
  have s6 := hb6.size
  have RC := Lib.hid (show RdInts w6 w6.heap.size (.slice A9 p c9) (upI p) from by have := ho6.rd; exact this)
  have HY := Lib.hid (And.intro (HX.out.1.below hb6 HX.out.1.lt) (And.intro (HX.out.2.1.below hb6 HX.out.2.1.lt) (HX.out.2.2.below hb6 HX.out.2.2.lt)))
  have c00 : w6.cell? ⟨w.heap.size, 0, none⟩ = some (.int .i64 p) := HY.out.1.cell 0
  have c01 : w6.cell? ⟨w.heap.size, 1, none⟩ = some (.slice A xss.length c) := HY.out.1.cell 1
  have c10' : w6.cell? ⟨w.heap.size + 1, 0, none⟩ = some (.int .i64 p) := HY.out.2.1.cell 0
  have c11 : w6.cell? ⟨w.heap.size + 1, 1, none⟩ = some (.slice A1 yss.length c1) := HY.out.2.1.cell 1
  have HCa := Lib.hid (show (upI p).all (colIn (p : Int)) = true from upI_in rfl)
  obtain ⟨KA, hKA⟩ : ∃ KA, KA = keysI xss (upI p) := ⟨_, rfl⟩
  obtain ⟨KB, hKB⟩ : ∃ KB, KB = keysI yss (upI p) := ⟨_, rfl⟩
  have hla : KA.length = xss.length := by rw [hKA, keysI_length]
  have hlb : KB.length = yss.length := by rw [hKB, keysI_length]
  have hKAl : KA.length ≤ 2000 := by omega
  have hKBl : KB.length ≤ 2000 := by omega
  have NA := Lib.hid (show ∀ V, Below w6.heap.size w6 V → Calls Try.prog 69 #[.agg #[.int .i64 (p : Int), .slice A xss.length c], .slice A9 p c9] V fun e w' => ∃ A' c', e = .returned (.slice A' KA.length c') ∧ OwnInts w' V.heap.size w'.heap.size (.slice A' KA.length c') KA ∧ Below V.heap.size V w' from fun V hV => by
    rw [hKA]
    exact relNumbers_any _ _ ((p : Int), xss) (upI p) V ⟨_, rfl, H0.out.on (bthen B6.out hV)⟩ (RC.out.on hV) HPa.out HCa.out (by rw [upI_length]; exact HP6.out))
  have NB := Lib.hid (show ∀ V, Below w6.heap.size w6 V → Calls Try.prog 69 #[.agg #[.int .i64 (p : Int), .slice A1 yss.length c1], .slice A9 p c9] V fun e w' => ∃ A' c', e = .returned (.slice A' KB.length c') ∧ OwnInts w' V.heap.size w'.heap.size (.slice A' KB.length c') KB ∧ Below V.heap.size V w' from fun V hV => by
    rw [hKB]
    exact relNumbers_any _ _ ((p : Int), yss) (upI p) V ⟨_, rfl, H1.out.on (bthen B6.out hV)⟩ (RC.out.on hV) HPb.out HCa.out (by rw [upI_length]; exact HP6.out))
  have hkm : KA ++ KB = (xss ++ yss).map numI := by
    rw [hKA, hKB, keys_up (r := ((p : Int), xss)) HPa.out rfl, keys_up (r := ((p : Int), yss)) HPb.out rfl, List.map_append]
  have hrows : ∀ x ∈ xss ++ yss, x.length = p ∧ x.all constOk = true := fun x hx => by
    rcases List.mem_append.1 hx with h | h
    · have := rel_short HPa.out x h
      exact ⟨by have := this.1; simp only at this; omega, this.2.2⟩
    · have := rel_short HPb.out x h
      exact ⟨by have := this.1; simp only at this; omega, this.2.2⟩
  have HN := Lib.hid (show numRows (KA ++ KB) p = putsB (xss ++ yss) by rw [hkm]; exact numRows_puts hrows)
  have HK := Lib.hid (show (∀ z, z ∈ KA ++ KB → 0 ≤ z ∧ z ≤ 1048576) ∧ (KA ++ KB).length ≤ 1048576 from ⟨by rw [hkm]; exact numI_small hrows HP6.out, by rw [List.length_append]; omega⟩)
  have HRy := Lib.hid (fun h4 => HR.out.trans (eitherR_yes (a := ((p : Int), xss)) (b := ((p : Int), yss)) HPa.out HPb.out rfl h4))
  have HRn := Lib.hid (fun h4 => HR.out.trans (eitherR_many (a := ((p : Int), xss)) (b := ((p : Int), yss)) h4))
  simp only at HRy HRn
  obtain ⟨F, hF⟩ : ∃ F, F = putsB (xss ++ yss) := ⟨_, rfl⟩
  rw [← hF] at HRy HRn HN
  clear hF hkm hrows hla hlb hKA hKB ho6 hb6 q0
  go_upto_region 4 with fail
  go_cut [6] (fun s wx => ∃ (A10 : Option Addr) (c10 gx lox hix : Nat), s = .pointer (some ⟨gx, 0, none⟩) ∧ BoxRel OwnRows w6 wx gx lox hix ((p : Int), F) A10 c10)
  case first =>
    obtain ⟨SS, hSS⟩ : ∃ SS : World → Prop, SS = (fun W => W.cell? ⟨w.heap.size, 0, none⟩ = some (.int .i64 p) ∧ W.cell? ⟨w.heap.size, 1, none⟩ = some (.slice A xss.length c) ∧ W.cell? ⟨w.heap.size + 1, 0, none⟩ = some (.int .i64 p) ∧ W.cell? ⟨w.heap.size + 1, 1, none⟩ = some (.slice A1 yss.length c1)) := ⟨_, rfl⟩
    have l0 := World.block_lt_of_cell? _ _ c00
    have l1 := World.block_lt_of_cell? _ _ c10'
    have HSS := Lib.hid (show ∀ W, Below w6.heap.size w6 W → SS W from by
      rw [hSS]
      exact fun W hW => ⟨(hW.cell l0).trans c00, (hW.cell (p := ⟨w.heap.size, 1, none⟩) l0).trans c01, (hW.cell l1).trans c10', (hW.cell (p := ⟨w.heap.size + 1, 1, none⟩) l1).trans c11⟩)
    have HB := Lib.hid (show ∀ W, SS W → (W.cell? ⟨w.heap.size, 0, none⟩ = some (.int .i64 p) ∧ W.cell? ⟨w.heap.size, 1, none⟩ = some (.slice A xss.length c) ∧ W.cell? ⟨w.heap.size + 1, 0, none⟩ = some (.int .i64 p) ∧ W.cell? ⟨w.heap.size + 1, 1, none⟩ = some (.slice A1 yss.length c1)) from by rw [hSS]; exact fun W hW => hW)
    clear hSS c00 c01 c10' c11 l0 l1
    refine wp_region_rel SS 11 12 (by kernel_rfl) rfl ?_
    obtain ⟨wy, hwy⟩ : ∃ wy, wy = w6.drew := ⟨_, rfl⟩
    have HBY := Lib.hid (show Below w6.heap.size w6 wy by rw [hwy]; exact (Below.refl _ _).drew)
    rw [← hwy]
    clear hwy
    have hsy := HBY.out.size
    have S0 := Lib.hid (HSS.out _ HBY.out)
    refine wpAnyR_pure (i := 0) (oi := _) ?va0 rfl rfl (by kernel_rfl) (by decide) (fun _ _ _ h => h) rfl ?hya0 (fun _ => S0.out) ?resta0
    case hya0 => (intro W; go_simp; (try with_reducible rfl))
    try simp only [List.setIfInBounds_toArray, List.set_cons_zero, List.set_cons_succ]
    refine wpAnyR_take (i := 1) (oi := _) ?va1 rfl rfl (by kernel_rfl) (fun _ _ _ h => h) rfl ?hya1 S0.out ?resta1
    case hya1 => (intro W hW; obtain ⟨E0, E1, E2, E3⟩ := HB.out W hW; go_simp; (try with_reducible rfl))
    try simp only [List.setIfInBounds_toArray, List.set_cons_zero, List.set_cons_succ]
    refine wpAnyR_take (i := 2) (oi := _) ?va2 rfl rfl (by kernel_rfl) (fun _ _ _ h => h) rfl ?hya2 S0.out ?resta2
    case hya2 => (intro W hW; obtain ⟨E0, E1, E2, E3⟩ := HB.out W hW; go_simp; (try with_reducible rfl))
    try simp only [List.setIfInBounds_toArray, List.set_cons_zero, List.set_cons_succ]
    refine wpAnyR_pure (i := 3) (oi := _) ?va3 rfl rfl (by kernel_rfl) (by decide) (fun _ _ _ h => h) rfl ?hya3 (fun _ => S0.out) ?resta3
    case hya3 => (intro W; go_simp; (try with_reducible rfl))
    try simp only [List.setIfInBounds_toArray, List.set_cons_zero, List.set_cons_succ]
    refine wpAnyR_take (i := 5) (oi := _) ?va5 rfl rfl (by kernel_rfl) (fun _ _ _ h => h) rfl ?hya5 S0.out ?resta5
    case hya5 => (intro W hW; obtain ⟨E0, E1, E2, E3⟩ := HB.out W hW; go_simp; (try with_reducible rfl))
    try simp only [List.setIfInBounds_toArray, List.set_cons_zero, List.set_cons_succ]
    refine wpAnyR_pure (i := 6) (oi := _) ?va6 rfl rfl (by kernel_rfl) (by decide) (fun _ _ _ h => h) rfl ?hya6 (fun _ => S0.out) ?resta6
    case hya6 => (intro W; go_simp; (try with_reducible rfl))
    try simp only [List.setIfInBounds_toArray, List.set_cons_zero, List.set_cons_succ]
    refine wpAnyR_two (i := 4) (j := 10) (by kernel_rfl) rfl rfl (fun K hK => ?_) (fun K hK => ?_)
    · skip
      try rw [if_pos (show Region.wanted _ _ = true from rfl)]
      go_simp
      refine (NA.out wy HBY.out).mono ?_
      rintro e V1 ⟨A4, c4, rfl, o1, g1⟩
      have z1 := g1.size
      have zz1 := HBY.out.size
      have b1 := bthen HBY.out g1
      have oo1 := o1.mono (lo' := w6.heap.size) (by omega) (Nat.le_refl _)
      have SB1 := HSS.out _ b1
      refine hK.out _ _ (fun _ => SB1) ?_
      clear hK K
      try simp only [List.setIfInBounds_toArray, List.set_cons_zero, List.set_cons_succ, Act.put]
      refine wpAnyR_two (i := 7) (j := 10) (by kernel_rfl) rfl rfl (fun K hK => ?_) (fun K hK => ?_)
      · skip
        try rw [if_pos (show Region.wanted _ _ = true from rfl)]
        go_simp
        refine (NB.out V1 b1).mono ?_
        rintro e V2 ⟨A7, c7, rfl, o2, g2⟩
        have z2 := g2.size
        have zz2 := b1.size
        have b2 := bthen b1 g2
        have oo2 := o2.mono (lo' := w6.heap.size) (by omega) (Nat.le_refl _)
        have oo1_2 := oo1.below g2 (by omega)
        have SB2 := HSS.out _ b2
        refine hK.out _ _ (fun _ => SB2) ?_
        clear hK K
        try simp only [List.setIfInBounds_toArray, List.set_cons_zero, List.set_cons_succ, Act.put]
        refine wpAnyR_two (i := 8) (j := 10) (by kernel_rfl) rfl rfl (fun K hK => ?_) (fun K hK => ?_)
        · skip
          have z3 := b2.size
          refine step_append_rd _ rfl (.tmp 29) (.tmp 32) 42 rfl w6.heap.size 3 i1 (.int .i64 0) 8 Try.underlying42 hi1 hy0 hy1 hy2 rfl (.slice A4 KA.length c4) KA.length (KA.map (Value.int .i64)) rfl oo1_2.1 V2.heap.size _ KB rfl ?d1_3 (by unfold maxLen; omega) (by omega) (by omega) ?d2_3
          case d1_3 => exact oo2.rd.more (by omega)
          case d2_3 =>
          intro A8 c8 V3 hown8 hg8 _
          have o3 : OwnInts V3 w6.heap.size V3.heap.size (.slice A8 (KA.length + KB.length) c8) (KA ++ KB) := ⟨by rw [List.length_append, List.map_append]; exact hown8, fun g hg => (hown8.lt g hg).2⟩
          have b3 : Below w6.heap.size w6 V3 := Below.grown b2 hg8 (by omega) (fun k hk => (oo1_2.lt hk).1)
          have y3 : V2.heap.size ≤ V3.heap.size := hg8.size
          have SB3 := HSS.out _ b3
          clear hown8 hg8
          refine hK.out _ _ (fun _ => SB3) ?_
          clear hK K
          try simp only [List.setIfInBounds_toArray, Act.put]
          refine wpAnyR_two (i := 9) (j := 10) (by kernel_rfl) rfl rfl (fun K hK => ?_) (fun K hK => ?_)
          · skip
            try rw [if_pos (show Region.wanted _ _ = true from rfl)]
            go_simp
            have z4 := b3.size
            obtain ⟨l4, r4, t4, hl4, hm4, hr4, hx4⟩ := o3.tight (by omega)
            refine (numbersRel_only p (.slice A8 (KA.length + KB.length) c8) (KA ++ KB) l4 r4 V3 t4 hr4 hm4 HK.out.1 HP6.out HK.out.2).mono ?_
            rw [HN.out]
            rintro e V4 ⟨A10, c10, rfl, o4, g4⟩
            have y4 := g4.size
            have b4 := b3.trans (g4.below hl4 (by omega))
            have SB4 := HSS.out _ b4
            refine hK.out _ _ (fun _ => SB4) ?_
            clear hK K
            try simp only [List.setIfInBounds_toArray, List.set_cons_zero, List.set_cons_succ, Act.put]
            refine wpAnyR_one (i := 10) (by kernel_rfl) rfl (fun K hK => ?_)
            try rw [if_pos (show Region.wanted _ _ = true from rfl)]
            go_simp
            obtain ⟨V5, hWn⟩ : ∃ W', W' = V4.alloc (Obj.cells #[Value.int IntKind.i64 0, Value.slice none 0 0] 27) := ⟨_, rfl⟩
            obtain ⟨gx5, hgx5⟩ : ∃ g, g = V4.heap.size := ⟨_, rfl⟩
            rw [← hWn, ← hgx5]
            have g5 : Below V4.heap.size V4 V5 := by rw [hWn]; exact below1 _ _
            have X5 : Blk V5 gx5 27 #[.int .i64 0, .slice none 0 0] := by rw [hWn, hgx5]; exact Blk.new _ _ _
            have z5 := g5.size
            have y5 := X5.lt
            have HGX5 := Lib.hid hgx5
            have gle5 : w6.heap.size ≤ gx5 := by have := b4.size; omega
            have geq5 : V4.heap.size ≤ gx5 := by omega
            have gsz5 : gx5 < V5.heap.size := y5
            clear hWn hgx5
            have b5 := bthen b4 g5
            have o4_5 := o4.below g5 (by omega)
            have SB5 := HSS.out _ b5
            refine hK.out _ _ (fun _ => SB5) ?_
            clear hK K
            try simp only [List.setIfInBounds_toArray, List.set_cons_zero, List.set_cons_succ, Act.put]
            refine wpAnyR_one (i := 11) (by kernel_rfl) rfl (fun K hK => ?_)
            try rw [if_pos (show Region.wanted _ _ = true from rfl)]
            have c0 := X5.cell 0
            have c1 := X5.cell 1
            have f0 := X5.frozen 0
            have f1 := X5.frozen 1
            simp at c0 c1
            go_simp
            refine hK.out _ _ (fun hf => absurd hf (by decide)) ?_
            clear hK K c0 c1 f0 f1
            refine wpAnyR_done (by kernel_rfl) ?_
            go_wp2_with fail
            go_meet
            exact ⟨A10, c10, gx5, _, _, rfl, BoxRel.made (O := OwnRows) (fun h a b => h.only a b) (r := ((p : Int), F)) b5 X5 o4_5 (by omega) (by omega) (by omega) (by omega)⟩
          · skip
            try rw [if_pos (show Region.wanted _ _ = true from rfl)]
            go_simp
            obtain ⟨V7, hWn⟩ : ∃ W', W' = V3.alloc (Obj.cells #[Value.int IntKind.i64 0, Value.slice none 0 0] 27) := ⟨_, rfl⟩
            obtain ⟨gx7, hgx7⟩ : ∃ g, g = V3.heap.size := ⟨_, rfl⟩
            rw [← hWn, ← hgx7]
            have g7 : Below V3.heap.size V3 V7 := by rw [hWn]; exact below1 _ _
            have X7 : Blk V7 gx7 27 #[.int .i64 0, .slice none 0 0] := by rw [hWn, hgx7]; exact Blk.new _ _ _
            have z7 := g7.size
            have y7 := X7.lt
            have HGX7 := Lib.hid hgx7
            have gle7 : w6.heap.size ≤ gx7 := by have := b3.size; omega
            have geq7 : V3.heap.size ≤ gx7 := by omega
            have gsz7 : gx7 < V7.heap.size := y7
            clear hWn hgx7
            have b7 := bthen b3 g7
            have o3_7 := o3.below g7 (by omega)
            have SB7 := HSS.out _ b7
            refine hK.out _ _ (fun _ => SB7) ?_
            clear hK K
            try simp only [List.setIfInBounds_toArray, List.set_cons_zero, List.set_cons_succ, Act.put]
            refine wpAnyR_one (i := 9) (by kernel_rfl) rfl (fun K hK => ?_)
            try rw [if_pos (show Region.wanted _ _ = true from rfl)]
            go_simp
            have z8 := b7.size
            obtain ⟨l8, r8, t8, hl8, hm8, hr8, hx8⟩ := o3_7.tight (by omega)
            refine (numbersRel_only p (.slice A8 (KA.length + KB.length) c8) (KA ++ KB) l8 r8 V7 t8 hr8 hm8 HK.out.1 HP6.out HK.out.2).mono ?_
            rw [HN.out]
            rintro e V8 ⟨A10, c10, rfl, o8, g8⟩
            have y8 := g8.size
            have b8 := b7.trans (g8.below hl8 (by omega))
            have X8 := g8.blk X7 (hx8 _ _ X7)
            have xlt8 := X7.lt
            have SB8 := HSS.out _ b8
            refine hK.out _ _ (fun _ => SB8) ?_
            clear hK K
            try simp only [List.setIfInBounds_toArray, List.set_cons_zero, List.set_cons_succ, Act.put]
            refine wpAnyR_one (i := 11) (by kernel_rfl) rfl (fun K hK => ?_)
            try rw [if_pos (show Region.wanted _ _ = true from rfl)]
            have c0 := X8.cell 0
            have c1 := X8.cell 1
            have f0 := X8.frozen 0
            have f1 := X8.frozen 1
            simp at c0 c1
            go_simp
            refine hK.out _ _ (fun hf => absurd hf (by decide)) ?_
            clear hK K c0 c1 f0 f1
            refine wpAnyR_done (by kernel_rfl) ?_
            go_wp2_with fail
            go_meet
            exact ⟨A10, c10, gx7, _, _, rfl, BoxRel.made (O := OwnRows) (fun h a b => h.only a b) (r := ((p : Int), F)) b8 X8 o8 (by omega) (by omega) (by omega) (by omega)⟩
        · skip
          try rw [if_pos (show Region.wanted _ _ = true from rfl)]
          go_simp
          obtain ⟨V10, hWn⟩ : ∃ W', W' = V2.alloc (Obj.cells #[Value.int IntKind.i64 0, Value.slice none 0 0] 27) := ⟨_, rfl⟩
          obtain ⟨gx10, hgx10⟩ : ∃ g, g = V2.heap.size := ⟨_, rfl⟩
          rw [← hWn, ← hgx10]
          have g10 : Below V2.heap.size V2 V10 := by rw [hWn]; exact below1 _ _
          have X10 : Blk V10 gx10 27 #[.int .i64 0, .slice none 0 0] := by rw [hWn, hgx10]; exact Blk.new _ _ _
          have z10 := g10.size
          have y10 := X10.lt
          have HGX10 := Lib.hid hgx10
          have gle10 : w6.heap.size ≤ gx10 := by have := b2.size; omega
          have geq10 : V2.heap.size ≤ gx10 := by omega
          have gsz10 : gx10 < V10.heap.size := y10
          clear hWn hgx10
          have b10 := bthen b2 g10
          have oo1_2_10 := oo1_2.below g10 (by omega)
          have oo2_10 := oo2.below g10 (by omega)
          have SB10 := HSS.out _ b10
          refine hK.out _ _ (fun _ => SB10) ?_
          clear hK K
          try simp only [List.setIfInBounds_toArray, List.set_cons_zero, List.set_cons_succ, Act.put]
          refine wpAnyR_one (i := 8) (by kernel_rfl) rfl (fun K hK => ?_)
          have z11 := b10.size
          refine step_append_rd _ rfl (.tmp 29) (.tmp 32) 42 rfl w6.heap.size 3 i1 (.int .i64 0) 8 Try.underlying42 hi1 hy0 hy1 hy2 rfl (.slice A4 KA.length c4) KA.length (KA.map (Value.int .i64)) rfl oo1_2_10.1 V10.heap.size _ KB rfl ?d1_11 (by unfold maxLen; omega) (by omega) (by omega) ?d2_11
          case d1_11 => exact oo2_10.rd.more (by omega)
          case d2_11 =>
          intro A8 c8 V11 hown8 hg8 _
          have o11 : OwnInts V11 w6.heap.size V11.heap.size (.slice A8 (KA.length + KB.length) c8) (KA ++ KB) := ⟨by rw [List.length_append, List.map_append]; exact hown8, fun g hg => (hown8.lt g hg).2⟩
          have b11 : Below w6.heap.size w6 V11 := Below.grown b10 hg8 (by omega) (fun k hk => (oo1_2_10.lt hk).1)
          have y11 : V10.heap.size ≤ V11.heap.size := hg8.size
          have X11 := (hg8.block gx10 X10.lt (fun e => oo1_2_10.apartRel X10 e.symm)).trans X10
          change Blk V11 gx10 27 #[.int .i64 0, .slice none 0 0] at X11
          have SB11 := HSS.out _ b11
          clear hown8 hg8
          refine hK.out _ _ (fun _ => SB11) ?_
          clear hK K
          try simp only [List.setIfInBounds_toArray, Act.put]
          refine wpAnyR_one (i := 9) (by kernel_rfl) rfl (fun K hK => ?_)
          try rw [if_pos (show Region.wanted _ _ = true from rfl)]
          go_simp
          have z12 := b11.size
          obtain ⟨l12, r12, t12, hl12, hm12, hr12, hx12⟩ := o11.tight (by omega)
          refine (numbersRel_only p (.slice A8 (KA.length + KB.length) c8) (KA ++ KB) l12 r12 V11 t12 hr12 hm12 HK.out.1 HP6.out HK.out.2).mono ?_
          rw [HN.out]
          rintro e V12 ⟨A10, c10, rfl, o12, g12⟩
          have y12 := g12.size
          have b12 := b11.trans (g12.below hl12 (by omega))
          have X12 := g12.blk X11 (hx12 _ _ X11)
          have xlt12 := X11.lt
          have SB12 := HSS.out _ b12
          refine hK.out _ _ (fun _ => SB12) ?_
          clear hK K
          try simp only [List.setIfInBounds_toArray, List.set_cons_zero, List.set_cons_succ, Act.put]
          refine wpAnyR_one (i := 11) (by kernel_rfl) rfl (fun K hK => ?_)
          try rw [if_pos (show Region.wanted _ _ = true from rfl)]
          have c0 := X12.cell 0
          have c1 := X12.cell 1
          have f0 := X12.frozen 0
          have f1 := X12.frozen 1
          simp at c0 c1
          go_simp
          refine hK.out _ _ (fun hf => absurd hf (by decide)) ?_
          clear hK K c0 c1 f0 f1
          refine wpAnyR_done (by kernel_rfl) ?_
          go_wp2_with fail
          go_meet
          exact ⟨A10, c10, gx10, _, _, rfl, BoxRel.made (O := OwnRows) (fun h a b => h.only a b) (r := ((p : Int), F)) b12 X12 o12 (by omega) (by omega) (by omega) (by omega)⟩
      · skip
        try rw [if_pos (show Region.wanted _ _ = true from rfl)]
        go_simp
        obtain ⟨V14, hWn⟩ : ∃ W', W' = V1.alloc (Obj.cells #[Value.int IntKind.i64 0, Value.slice none 0 0] 27) := ⟨_, rfl⟩
        obtain ⟨gx14, hgx14⟩ : ∃ g, g = V1.heap.size := ⟨_, rfl⟩
        rw [← hWn, ← hgx14]
        have g14 : Below V1.heap.size V1 V14 := by rw [hWn]; exact below1 _ _
        have X14 : Blk V14 gx14 27 #[.int .i64 0, .slice none 0 0] := by rw [hWn, hgx14]; exact Blk.new _ _ _
        have z14 := g14.size
        have y14 := X14.lt
        have HGX14 := Lib.hid hgx14
        have gle14 : w6.heap.size ≤ gx14 := by have := b1.size; omega
        have geq14 : V1.heap.size ≤ gx14 := by omega
        have gsz14 : gx14 < V14.heap.size := y14
        clear hWn hgx14
        have b14 := bthen b1 g14
        have oo1_14 := oo1.below g14 (by omega)
        have SB14 := HSS.out _ b14
        refine hK.out _ _ (fun _ => SB14) ?_
        clear hK K
        try simp only [List.setIfInBounds_toArray, List.set_cons_zero, List.set_cons_succ, Act.put]
        refine wpAnyR_one (i := 7) (by kernel_rfl) rfl (fun K hK => ?_)
        try rw [if_pos (show Region.wanted _ _ = true from rfl)]
        go_simp
        refine (NB.out V14 b14).mono ?_
        rintro e V15 ⟨A7, c7, rfl, o15, g15⟩
        have z15 := g15.size
        have zz15 := b14.size
        have b15 := bthen b14 g15
        have oo15 := o15.mono (lo' := w6.heap.size) (by omega) (Nat.le_refl _)
        have oo1_14_15 := oo1_14.below g15 (by omega)
        have X15 := X14.below g15 X14.lt
        have SB15 := HSS.out _ b15
        refine hK.out _ _ (fun _ => SB15) ?_
        clear hK K
        try simp only [List.setIfInBounds_toArray, List.set_cons_zero, List.set_cons_succ, Act.put]
        refine wpAnyR_one (i := 8) (by kernel_rfl) rfl (fun K hK => ?_)
        have z16 := b15.size
        refine step_append_rd _ rfl (.tmp 29) (.tmp 32) 42 rfl w6.heap.size 3 i1 (.int .i64 0) 8 Try.underlying42 hi1 hy0 hy1 hy2 rfl (.slice A4 KA.length c4) KA.length (KA.map (Value.int .i64)) rfl oo1_14_15.1 V15.heap.size _ KB rfl ?d1_16 (by unfold maxLen; omega) (by omega) (by omega) ?d2_16
        case d1_16 => exact oo15.rd.more (by omega)
        case d2_16 =>
        intro A8 c8 V16 hown8 hg8 _
        have o16 : OwnInts V16 w6.heap.size V16.heap.size (.slice A8 (KA.length + KB.length) c8) (KA ++ KB) := ⟨by rw [List.length_append, List.map_append]; exact hown8, fun g hg => (hown8.lt g hg).2⟩
        have b16 : Below w6.heap.size w6 V16 := Below.grown b15 hg8 (by omega) (fun k hk => (oo1_14_15.lt hk).1)
        have y16 : V15.heap.size ≤ V16.heap.size := hg8.size
        have X16 := (hg8.block gx14 X15.lt (fun e => oo1_14_15.apartRel X15 e.symm)).trans X15
        change Blk V16 gx14 27 #[.int .i64 0, .slice none 0 0] at X16
        have SB16 := HSS.out _ b16
        clear hown8 hg8
        refine hK.out _ _ (fun _ => SB16) ?_
        clear hK K
        try simp only [List.setIfInBounds_toArray, Act.put]
        refine wpAnyR_one (i := 9) (by kernel_rfl) rfl (fun K hK => ?_)
        try rw [if_pos (show Region.wanted _ _ = true from rfl)]
        go_simp
        have z17 := b16.size
        obtain ⟨l17, r17, t17, hl17, hm17, hr17, hx17⟩ := o16.tight (by omega)
        refine (numbersRel_only p (.slice A8 (KA.length + KB.length) c8) (KA ++ KB) l17 r17 V16 t17 hr17 hm17 HK.out.1 HP6.out HK.out.2).mono ?_
        rw [HN.out]
        rintro e V17 ⟨A10, c10, rfl, o17, g17⟩
        have y17 := g17.size
        have b17 := b16.trans (g17.below hl17 (by omega))
        have X17 := g17.blk X16 (hx17 _ _ X16)
        have xlt17 := X16.lt
        have SB17 := HSS.out _ b17
        refine hK.out _ _ (fun _ => SB17) ?_
        clear hK K
        try simp only [List.setIfInBounds_toArray, List.set_cons_zero, List.set_cons_succ, Act.put]
        refine wpAnyR_one (i := 11) (by kernel_rfl) rfl (fun K hK => ?_)
        try rw [if_pos (show Region.wanted _ _ = true from rfl)]
        have c0 := X17.cell 0
        have c1 := X17.cell 1
        have f0 := X17.frozen 0
        have f1 := X17.frozen 1
        simp at c0 c1
        go_simp
        refine hK.out _ _ (fun hf => absurd hf (by decide)) ?_
        clear hK K c0 c1 f0 f1
        refine wpAnyR_done (by kernel_rfl) ?_
        go_wp2_with fail
        go_meet
        exact ⟨A10, c10, gx14, _, _, rfl, BoxRel.made (O := OwnRows) (fun h a b => h.only a b) (r := ((p : Int), F)) b17 X17 o17 (by omega) (by omega) (by omega) (by omega)⟩
    · skip
      try rw [if_pos (show Region.wanted _ _ = true from rfl)]
      go_simp
      obtain ⟨V19, hWn⟩ : ∃ W', W' = wy.alloc (Obj.cells #[Value.int IntKind.i64 0, Value.slice none 0 0] 27) := ⟨_, rfl⟩
      obtain ⟨gx19, hgx19⟩ : ∃ g, g = wy.heap.size := ⟨_, rfl⟩
      rw [← hWn, ← hgx19]
      have g19 : Below wy.heap.size wy V19 := by rw [hWn]; exact below1 _ _
      have X19 : Blk V19 gx19 27 #[.int .i64 0, .slice none 0 0] := by rw [hWn, hgx19]; exact Blk.new _ _ _
      have z19 := g19.size
      have y19 := X19.lt
      have HGX19 := Lib.hid hgx19
      have gle19 : w6.heap.size ≤ gx19 := by have := HBY.out.size; omega
      have geq19 : wy.heap.size ≤ gx19 := by omega
      have gsz19 : gx19 < V19.heap.size := y19
      clear hWn hgx19
      have b19 := bthen HBY.out g19
      have SB19 := HSS.out _ b19
      refine hK.out _ _ (fun _ => SB19) ?_
      clear hK K
      try simp only [List.setIfInBounds_toArray, List.set_cons_zero, List.set_cons_succ, Act.put]
      refine wpAnyR_one (i := 4) (by kernel_rfl) rfl (fun K hK => ?_)
      try rw [if_pos (show Region.wanted _ _ = true from rfl)]
      go_simp
      refine (NA.out V19 b19).mono ?_
      rintro e V20 ⟨A4, c4, rfl, o20, g20⟩
      have z20 := g20.size
      have zz20 := b19.size
      have b20 := bthen b19 g20
      have oo20 := o20.mono (lo' := w6.heap.size) (by omega) (Nat.le_refl _)
      have X20 := X19.below g20 X19.lt
      have SB20 := HSS.out _ b20
      refine hK.out _ _ (fun _ => SB20) ?_
      clear hK K
      try simp only [List.setIfInBounds_toArray, List.set_cons_zero, List.set_cons_succ, Act.put]
      refine wpAnyR_one (i := 7) (by kernel_rfl) rfl (fun K hK => ?_)
      try rw [if_pos (show Region.wanted _ _ = true from rfl)]
      go_simp
      refine (NB.out V20 b20).mono ?_
      rintro e V21 ⟨A7, c7, rfl, o21, g21⟩
      have z21 := g21.size
      have zz21 := b20.size
      have b21 := bthen b20 g21
      have oo21 := o21.mono (lo' := w6.heap.size) (by omega) (Nat.le_refl _)
      have oo20_21 := oo20.below g21 (by omega)
      have X21 := X20.below g21 X20.lt
      have SB21 := HSS.out _ b21
      refine hK.out _ _ (fun _ => SB21) ?_
      clear hK K
      try simp only [List.setIfInBounds_toArray, List.set_cons_zero, List.set_cons_succ, Act.put]
      refine wpAnyR_one (i := 8) (by kernel_rfl) rfl (fun K hK => ?_)
      have z22 := b21.size
      refine step_append_rd _ rfl (.tmp 29) (.tmp 32) 42 rfl w6.heap.size 3 i1 (.int .i64 0) 8 Try.underlying42 hi1 hy0 hy1 hy2 rfl (.slice A4 KA.length c4) KA.length (KA.map (Value.int .i64)) rfl oo20_21.1 V21.heap.size _ KB rfl ?d1_22 (by unfold maxLen; omega) (by omega) (by omega) ?d2_22
      case d1_22 => exact oo21.rd.more (by omega)
      case d2_22 =>
      intro A8 c8 V22 hown8 hg8 _
      have o22 : OwnInts V22 w6.heap.size V22.heap.size (.slice A8 (KA.length + KB.length) c8) (KA ++ KB) := ⟨by rw [List.length_append, List.map_append]; exact hown8, fun g hg => (hown8.lt g hg).2⟩
      have b22 : Below w6.heap.size w6 V22 := Below.grown b21 hg8 (by omega) (fun k hk => (oo20_21.lt hk).1)
      have y22 : V21.heap.size ≤ V22.heap.size := hg8.size
      have X22 := (hg8.block gx19 X21.lt (fun e => oo20_21.apartRel X21 e.symm)).trans X21
      change Blk V22 gx19 27 #[.int .i64 0, .slice none 0 0] at X22
      have SB22 := HSS.out _ b22
      clear hown8 hg8
      refine hK.out _ _ (fun _ => SB22) ?_
      clear hK K
      try simp only [List.setIfInBounds_toArray, Act.put]
      refine wpAnyR_one (i := 9) (by kernel_rfl) rfl (fun K hK => ?_)
      try rw [if_pos (show Region.wanted _ _ = true from rfl)]
      go_simp
      have z23 := b22.size
      obtain ⟨l23, r23, t23, hl23, hm23, hr23, hx23⟩ := o22.tight (by omega)
      refine (numbersRel_only p (.slice A8 (KA.length + KB.length) c8) (KA ++ KB) l23 r23 V22 t23 hr23 hm23 HK.out.1 HP6.out HK.out.2).mono ?_
      rw [HN.out]
      rintro e V23 ⟨A10, c10, rfl, o23, g23⟩
      have y23 := g23.size
      have b23 := b22.trans (g23.below hl23 (by omega))
      have X23 := g23.blk X22 (hx23 _ _ X22)
      have xlt23 := X22.lt
      have SB23 := HSS.out _ b23
      refine hK.out _ _ (fun _ => SB23) ?_
      clear hK K
      try simp only [List.setIfInBounds_toArray, List.set_cons_zero, List.set_cons_succ, Act.put]
      refine wpAnyR_one (i := 11) (by kernel_rfl) rfl (fun K hK => ?_)
      try rw [if_pos (show Region.wanted _ _ = true from rfl)]
      have c0 := X23.cell 0
      have c1 := X23.cell 1
      have f0 := X23.frozen 0
      have f1 := X23.frozen 1
      simp at c0 c1
      go_simp
      refine hK.out _ _ (fun hf => absurd hf (by decide)) ?_
      clear hK K c0 c1 f0 f1
      refine wpAnyR_done (by kernel_rfl) ?_
      go_wp2_with fail
      go_meet
      exact ⟨A10, c10, gx19, _, _, rfl, BoxRel.made (O := OwnRows) (fun h a b => h.only a b) (r := ((p : Int), F)) b23 X23 o23 (by omega) (by omega) (by omega) (by omega)⟩
  case rest =>
    obtain ⟨A10, c10, gx, lox, hix, rfl, bx⟩ := hcut
    clear c00 c01 c10' c11
    generalize wc = w7 at *
    have hb7 := bx.below
    have gl := bx.glo
    have gt := bx.glt
    have ll := bx.lole
    have hh := bx.hile
    have BXB := Lib.hid bx.box
    have BXR := Lib.hid bx.rows
    have BW := Lib.hid (bthen B6.out hb7)
    have z1 := HY.out.2.2.below hb7 HY.out.2.2.lt
    have b1c0 : w7.cell? ⟨w.heap.size + 2, 0, none⟩ = some (.int .i64 0) := z1.cell 0
    have b1c1 : w7.cell? ⟨w.heap.size + 2, 1, none⟩ = some (.slice none 0 0) := z1.cell 1
    have b1f0 := z1.frozen 0
    have b1f1 := z1.frozen 1
    have d0 : w7.cell? ⟨gx, 0, none⟩ = some (.int .i64 p) := BXB.out.cell 0
    have d1 : w7.cell? ⟨gx, 1, none⟩ = some (.slice A10 F.length c10) := BXB.out.cell 1
    clear z1 bx hb7
    by_cases hf : 2000 < F.length
    · have e2 : decide ((F.length : Int) > 2000) = true := decide_eq_true (by omega)
      have e3 : decide (2000 < (F.length : Int)) = true := decide_eq_true (by omega)
      have HE := Lib.hid (HRn.out hf)
      clear hf
      go_wp2_with fail
      refine bodyPost_ret (v := .agg #[.int .i64 0, .slice none 0 0]) (by simp [results, Try.results40, go_sem, b1c0, b1c1]) rfl ?_
      rw [HE.out]
      exact ⟨none, 0, rfl, OwnRows.none _ _ _, (BW.out.setCell (by simp <;> omega) _).setCell (by simp <;> omega) _⟩
    · have e2 : decide ((F.length : Int) > 2000) = false := decide_eq_false (by omega)
      have e3 : decide (2000 < (F.length : Int)) = false := decide_eq_false (by omega)
      have HE := Lib.hid (HRy.out (by omega))
      clear hf
      go_wp2_with fail
      refine bodyPost_ret (v := .agg #[.int .i64 p, .slice A10 F.length c10]) (by simp [results, Try.results40, go_sem, b1c0, b1c1]) rfl ?_
      rw [HE.out]
      refine ⟨A10, c10, rfl, ?_, (BW.out.setCell (by simp <;> omega) _).setCell (by simp <;> omega) _⟩
      have hrw := BXR.out
      have h1 := (hrw.only (Only.setCell (Only.refl 0 (w.heap.size + 3) w7) (p := ⟨w.heap.size + 2, 0, none⟩) ⟨Nat.zero_le _, by simp⟩ (.int .i64 p)) (.inr (by omega)))
      have h2 := (h1.only (Only.setCell (Only.refl 0 (w.heap.size + 3) _) (p := ⟨w.heap.size + 2, 1, none⟩) ⟨Nat.zero_le _, by simp⟩ (.slice A10 F.length c10)) (.inr (by omega)))
      exact h2.mono (by omega) (by simpa using hh)

end Go.Proofs.Ytchincemlilnoaa
