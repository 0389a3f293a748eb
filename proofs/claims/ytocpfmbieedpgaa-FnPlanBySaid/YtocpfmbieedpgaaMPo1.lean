/-
  The law FnExactPlanOf: for every input the call returns true, and each argument reads behind it as it read before. Conditions: none but the row's own.
-/
import Derived.Test.YtocpfmbieedpgaaMPb4
import Derived.Test.YtocpfmbieedpgaaMPb5
import Derived.Test.YtocpfmbieedpgaaMPb1
import Derived.Test.YtocpfmbieedpgaaMPb2
import Derived.Deep.RegionHeld3
import Derived.Deep.DeepCutAuto
import Derived.Deep.RegionWith
import Derived.Test.YtocpfmbieedpgaaRows
/-
  The walks of l10First and PlanOf of the specification.
-/
namespace Go.Proofs.Ytocpfmbieedpgaa
open Go.RowKit

/-- A slice's length, for a measure. -/
def lenOf : Value → Nat
  | .slice _ n _ => n
  | _ => 0

set_option maxHeartbeats 8000000 in
set_option maxRecDepth 100000 in
theorem l10First_any (v : Value) (r : LRule) (w : World) (h : RdRule w w.heap.size v r) (hs : szR r ≤ 1048576) (hsf : ruleSafe r = true) (hT : ∀ l ∈ r.2, l.2.2.all termOk = true) :
    Calls Try.prog 48 #[v] w fun e w' => ∃ A' c', e = .returned (.slice A' (soonOrd r.2 r.2.length).length c') ∧ OwnInts w' w.heap.size w'.heap.size (.slice A' (soonOrd r.2 r.2.length).length c') (soonOrd r.2 r.2.length) ∧ Below w.heap.size w w' := by
  obtain ⟨i0, hi0, hz0, hz1, hz2⟩ := info_parts Try.infoInt
  have HSF := Lib.hid hsf
  have HT := Lib.hid hT
  clear hsf hT
  obtain ⟨hd, b⟩ := r
  have hss := hs
  unfold szR at hss
  simp only at hss
  obtain ⟨a1, a2, rfl, h2a, h2b⟩ := h
  have H2B := Lib.hid h2b
  obtain ⟨A1, c1, rfl, hc1, _⟩ := h2a
  obtain ⟨A2, c2, rfl, hc2, _⟩ := h2b
  simp only at hc1 hc2 H2B HSF HT
  have hmk4 := make4
  have hmkU := run_make_row' (P := Try.prog) 92 4 (.bool false) 1 Try.underlying92 Try.infoBoolQ rfl .i64 .i64 b.length (by omega) (by omega)
  obtain ⟨w1, hw1⟩ : ∃ w1, w1 = w.alloc (Obj.cells #[Value.int IntKind.i64 hd.1, Value.slice A1 hd.2.length c1, Value.slice A2 b.length c2] 28) := ⟨_, rfl⟩
  have s1 : w1.heap.size = w.heap.size + 1 := by rw [hw1]; simp
  have hb1 : Below w.heap.size w w1 := by rw [hw1]; exact below1 _ _
  have x1 : Blk w1 w.heap.size 28 #[.int .i64 hd.1, .slice A1 hd.2.length c1, .slice A2 b.length c2] := by rw [hw1]; exact Blk.new _ _ _
  obtain ⟨w3, hw3⟩ : ∃ w3, w3 = w1.alloc (.cells (madeCells #[.bool false] 4) 4) := ⟨_, rfl⟩
  obtain ⟨w4, hw4⟩ : ∃ w4, w4 = w3.alloc (.cells (madeCells #[.bool false] b.length) 4) := ⟨_, rfl⟩
  have s3 : w3.heap.size = w.heap.size + 2 := by rw [hw3]; simp [s1]
  have s4 : w4.heap.size = w.heap.size + 3 := by rw [hw4]; simp [s3]
  obtain ⟨w5, hw5⟩ : ∃ w5, w5 = w4.alloc (.cells #[] 3) := ⟨_, rfl⟩
  have HM0 := Lib.hid (show MkRow w5 (w.heap.size + 1) 0 from by
    have h0 : MkRow w3 w1.heap.size 0 := by rw [hw3]; exact MkRow.made _
    have h1 : MkRow w4 w1.heap.size 0 := by rw [hw4]; exact h0.below (below1 _ _) h0.lt
    rw [hw5, ← s1]
    exact h1.below (below1 _ _) h1.lt)
  have HU0 := Lib.hid (show w5.rowIs (w.heap.size + 2) 4 b.length (fun j => .bool ((soonOrd b 0).contains (j : Int))) from by
    have h0 : w4.rowIs w3.heap.size 4 b.length (fun _ => .bool false) := by rw [hw4]; exact World.rowIs_made _ _ _ _
    rw [s3] at h0
    rw [hw5]
    exact (h0.alloc _).congr fun _ _ => by simp [soonOrd])
  have HO0 := Lib.hid (show OwnInts w5 (w.heap.size + 3) w5.heap.size (.slice (some ⟨w.heap.size + 3, 0, none⟩) 0 0) (soonOrd b 0) from by
    rw [hw5, ← s4]
    exact ⟨World.ownsRow_made w4 #[] 0 (Nat.le_refl _) (by decide) rfl, fun q hq => by simp [Value.ownBlock] at hq; subst hq; simp⟩)
  have B35 : Below w1.heap.size w1 w5 := by rw [hw5, hw4, hw3]; exact below3 _ _ _ _
  have B0 := Lib.hid (bthen hb1 B35)
  have X0 := Lib.hid (x1.below B35 x1.lt)
  have q1 : (w1.alloc (.cells (madeCells #[.bool false] 4) 4)).cell? ⟨w.heap.size, 2, none⟩ = some (.slice A2 b.length c2) := ((x1.below (below1 _ _) x1.lt).cell 2)
  have q0 : w1.cell? ⟨w.heap.size, 2, none⟩ = some (.slice A2 b.length c2) := x1.cell 2
  clear x1 hb1 B35
  go_enter Try.func48, Try.ntmps48
  go_upto_region 1 with fail
  rw [← hw1]
  clear hw1
  go_upto_region 4 with fail
  rw [← hw3, ← hw4, ← hw5]
  clear hw3 hw4 hw5 hmk4 hmkU q0 q1
  go_wp2_with fail
  go_loopw [5, 6, 7] (fun p _ _ wr => ∃ (k : Nat) (A' : Option Addr) (c' : Nat), k ≤ b.length ∧ p = .slice A' k c' ∧ OwnInts wr (w.heap.size + 3) wr.heap.size (.slice A' k c') (soonOrd b k) ∧ MkRow wr (w.heap.size + 1) (ordMask b (soonOrd b k)) ∧ wr.rowIs (w.heap.size + 2) 4 b.length (fun j => .bool ((soonOrd b k).contains (j : Int))) ∧ Blk wr w.heap.size 28 #[.int .i64 hd.1, .slice A1 hd.2.length c1, .slice A2 b.length c2] ∧ Below w.heap.size w wr) (fun p _ _ _ => b.length - lenOf p)
  case atStart => exact ⟨0, _, _, Nat.zero_le _, rfl, HO0.out, HM0.out, HU0.out, X0.out, B0.out⟩
  case round =>
    obtain ⟨k, A', c', hk, rfl, ho, hm, hu, hx, hbe⟩ := hrel
    obtain ⟨wo, hwo⟩ : ∃ wo, wo = wr := ⟨_, rfl⟩
    subst hwo
    have HO := Lib.hid ho
    have HM := Lib.hid hm
    have HU := Lib.hid hu
    have XO := Lib.hid hx
    have BO := Lib.hid hbe
    have hg1 := hm.lt
    have hg2 := hu.lt
    have hg0 := hx.lt
    have q2 : wo.cell? ⟨w.heap.size, 2, none⟩ = some (.slice A2 b.length c2) := hx.cell 2
    clear ho hm hu hx hbe
    by_cases hlt : k < b.length
    · obtain ⟨n, hn, hnl⟩ := soon_range (r := (hd, b)) HSF.out hlt
      simp only at hn hnl
      have hnx : soonOrd b k ++ [(n : Int)] = soonOrd b (k + 1) := by rw [← hn]; rfl
      have HNX := Lib.hid hnx
      have HOM := Lib.hid (show ordMask b (soonOrd b (k + 1)) = ordMask b (soonOrd b k) ||| maskOf b[n].2.2 by rw [← hnx, ordMask_snoc, litAt_get rfl hnl])
      have HNN := Lib.hid hn
      obtain ⟨b3, o3, u0, u1, u2, hA2, hbB3, k0, k1, k2, rfl, rfl, p3⟩ := H2B.out.get hnl
      subst hA2
      have HA3 := Lib.hid p3
      obtain ⟨A4, c4, rfl, hc4, _⟩ := p3
      have KK2 := Lib.hid k2
      have hle := len_le_totL b n hnl
      have hn0 : (0 : Int) ≤ (n : Int) := by omega
      have hn1 : (n : Int) < (b.length : Int) := by omega
      have hcu := HU.out.cell hnl
      have hfu := HU.out.frozen n
      clear hn hnx k0 k1 k2
      go_wp2_with fail
      go_loopw [6, 7] (fun f i wr => ∃ (j : Nat) (at_ : Int), j ≤ b.length ∧ i = .int .i64 j ∧ f = .int .i64 at_ ∧ soonFrom b (soonOrd b k) (ordMask b (soonOrd b k)) j at_ = soonL b (soonOrd b k) (ordMask b (soonOrd b k)) ∧ wr = wo) (fun _ i _ => b.length - (intOf i).toNat)
      case atStart => exact ⟨0, -1, Nat.zero_le _, rfl, rfl, rfl, rfl⟩
      case round =>
        obtain ⟨j, at_, hj, rfl, rfl, hsn, hww⟩ := hrel
        have hww2 := hww.symm
        subst hww2
        have HSN := Lib.hid hsn
        clear hsn
        by_cases hjl : j < b.length
        · obtain ⟨b4, o4, v0, v1, v2, hA4, hbB4, m0, m1, m2, rfl, rfl, p4⟩ := H2B.out.get hjl
          have HA4 := Lib.hid p4
          obtain ⟨A5, c5, rfl, hc5, _⟩ := p4
          injection hA4 with hA4
          injection hA4 with hA4 hA5 _
          subst hA4
          subst hA5
          have hle4 := len_le_totL b j hjl
          have m0 := (BO.out.cell (p := ⟨b3, o3 + j * 3, none⟩) hbB4).trans m0
          have m1 := (BO.out.cell (p := ⟨b3, o3 + j * 3 + 1, none⟩) hbB4).trans m1
          have m2 := (BO.out.cell (p := ⟨b3, o3 + j * 3 + 2, none⟩) hbB4).trans m2
          have hcj := HU.out.cell hjl
          have hji : (j : Int) < (b.length : Int) := by omega
          have hj0 : (0 : Int) ≤ (j : Int) := by omega
          have CO := Lib.hid (l10Open_any (w.heap.size + 1) (ordMask b (soonOrd b k)) (.slice A5 b[j].2.2.length c5) b[j].2.2 _ wo HM.out (HA4.out.on BO.out) (HT.out _ (List.getElem_mem hjl)) (by omega))
          obtain ⟨cc, hcc⟩ : ∃ cc, cc = (soonOrd b k).contains (j : Int) := ⟨_, rfl⟩
          obtain ⟨op, hop⟩ : ∃ op, op = openB b[j].2.2 (ordMask b (soonOrd b k)) := ⟨_, rfl⟩
          rw [← hcc] at hcj
          rw [← hop] at CO
          have HCC := Lib.hid hcc
          have HOP := Lib.hid hop
          clear hcc hop hle4 hbB4
          cases cc
          · cases op
            · have HATN := Lib.hid (show (j : Int) = (n : Int) by rw [← HNN.out, ← HSN.out, soonFrom_here hjl HCC.out.symm HOP.out.symm])
              have hjn : n = j := by have := HATN.out; omega
              subst hjn
              clear hcu
              go_upto_region 14 with (go_at_call 92; refine CO.out.mono ?_; rintro e w6 ⟨rfl, rfl⟩)
              clear m0 m1 m2
              go_upto_region 15 with fail
              obtain ⟨w6, hw6⟩ : ∃ w6, w6 = wo.setCell ⟨w.heap.size + 2, n, none⟩ (.bool true) := ⟨_, rfl⟩
              have O6 : Only (w.heap.size + 2) (w.heap.size + 3) wo w6 := by rw [hw6]; exact (Only.refl _ _ _).setCell (p := ⟨w.heap.size + 2, n, none⟩) ⟨Nat.le_refl _, by show w.heap.size + 2 < w.heap.size + 3; omega⟩ _
              have B6 := Lib.hid (Only.then_ BO.out O6 (by omega))
              have HO6 := Lib.hid ((HO.out.only O6 (.inr (Nat.le_refl _))).mono (Nat.le_refl _) O6.size)
              have HM6 := Lib.hid (HM.out.only O6 (.inl (by omega)))
              have X6 := Lib.hid ((XO.out).only O6 (.inl (by omega)))
              have HU6 := Lib.hid (show w6.rowIs (w.heap.size + 2) 4 b.length (fun j => .bool ((soonOrd b (k + 1)).contains (j : Int))) from by
                rw [hw6]
                exact (HU.out.set n (.bool true)).congr fun j _ => by
                  show (if j = n then Value.bool true else .bool _) = .bool _
                  rw [← HNX.out]
                  by_cases e : j = n
                  · subst e; simp
                  · have : ¬ (j : Int) = (n : Int) := by omega
                    simp [e, this])
              have s6 := O6.size
              rw [← hw6]
              clear hw6 O6
              obtain ⟨Q, hQ⟩ : ∃ Q, Q = soonOrd b k := ⟨_, rfl⟩
              have HQ := Lib.hid hQ
              have HQL := Lib.hid (show Q.length = k by rw [hQ, soonOrd_len])
              rw [← hQ] at HO6
              clear hQ
              go_upto_region 16 with (at_builtin; refine wpList_append_lies _ rfl (.tmp 57) (.tmp 59) 23 rfl (w.heap.size + 3) 3 i0 (.int .i64 0) 1 8 Try.underlying23 hi0 hz0 hz1 hz2 rfl (by decide) (.slice A' k c') k (Q.map (Value.int .i64)) rfl ?c1x ⟨w6.heap.size, 0, none⟩ 1 1 [.int .i64 (n : Int)] rfl rfl (news1o _ _ _) ?c2x (by omega) (by unfold maxLen; omega) (by omega) ?c3x _ rfl ?_)
              case c1x => have h0 := HO6.out.1; rw [HQL.out] at h0; exact h0.alloc _
              case c2x => first | (intro u hu; simp at hu; subst hu; rfl) | rfl
              case c3x => first | (simp; omega) | omega
              intro g2 cap w10 hown hgr hat _
              have hgf := grown_from_alloc hgr
              have hne : ∀ q, q < w.heap.size + 3 → some q ≠ (Value.slice A' k c').ownBlock := fun q hq e => by
                have h1 := HO6.out.1
                rw [HQL.out] at h1
                have := h1.lt q e.symm
                omega
              have hsame : ∀ q, q < w6.heap.size → q < w.heap.size + 3 → w10.heap[q]? = w6.heap[q]? := fun q h1 h2 => hgf.block q h1 (hne q h2)
              have B10 := Lib.hid (show Below w.heap.size w w10 from (B6.out.alloc B6.out.size _).grown hgr (by have := B6.out.size; simp; omega) (fun q hq => by have h0 := HO6.out.1; rw [HQL.out] at h0; have := (h0.lt q hq).1; omega))
              have HO10 := Lib.hid (show OwnInts w10 (w.heap.size + 3) w10.heap.size (.slice (some ⟨g2, 0, none⟩) (k + 1) cap) (soonOrd b (k + 1)) from by
                rw [← HNX.out, ← HQ.out]
                refine ⟨?_, fun q hq => (hown.lt q hq).2⟩
                rw [List.map_append, List.length_append, List.length_singleton, HQL.out]
                exact hown)
              have HM10 := Lib.hid (show MkRow w10 (w.heap.size + 1) (ordMask b (soonOrd b k)) from (hsame _ HM6.out.lt (by omega)).trans HM6.out)
              have HU10 := Lib.hid (HU6.out.of_block (hsame _ HU6.out.lt (by omega)))
              have X10 := Lib.hid (show Blk w10 w.heap.size 28 #[.int .i64 hd.1, .slice A1 hd.2.length c1, .slice (some ⟨b3, o3, none⟩) b.length c2] from (hsame _ X6.out.lt (by omega)).trans X6.out)
              have v2 : w10.cell? ⟨w.heap.size, 2, none⟩ = some (.slice (some ⟨b3, o3, none⟩) b.length c2) := X10.out.cell 2
              have n2 := (B10.out.cell (p := ⟨b3, o3 + n * 3 + 2, none⟩) hbB3).trans KK2.out
              have CM := Lib.hid (l2Mark_any (w.heap.size + 1) (ordMask b (soonOrd b k)) (.slice A4 b[n].2.2.length c4) b[n].2.2 w10 HM10.out ((HA3.out.below B10.out (Nat.le_refl _)).more (by omega)) (by omega))
              clear hown hgr hat hgf hne hsame
              go_wp2_with (go_at_call 64; refine CM.out.mono ?_; rintro e w11 ⟨rfl, m11, on11⟩)
              rw [maskFrom_eq, ← HOM.out] at m11
              have B11 := Lib.hid (Only.then_ B10.out on11 (by omega))
              have HO11 := Lib.hid ((HO10.out.only on11 (.inr (by omega))).mono (Nat.le_refl _) on11.size)
              have HU11 := Lib.hid (rowIs_only HU10.out on11 (.inr (by omega)))
              have X11 := Lib.hid (X10.out.only on11 (.inl (by omega)))
              go_roundw
              case rel => exact ⟨k + 1, _, _, by omega, rfl, HO11.out, m11, HU11.out, X11.out, B11.out⟩
              case measure => simp [lenOf]; omega
            · have HN := Lib.hid (soonFrom_on (at_ := at_) hjl HCC.out.symm HOP.out.symm)
              by_cases h0 : at_ < 0
              · have hd0 : decide (at_ < 0) = true := by simpa using h0
                by_cases h1 : b[j].1 = 0
                · have e1 : (b[j].1 == 0) = true := by rw [beq_iff_eq]; exact h1
                  have HN2 := Lib.hid (show soonFrom b (soonOrd b k) (ordMask b (soonOrd b k)) (j + 1) (j : Int) = soonL b (soonOrd b k) (ordMask b (soonOrd b k)) by rw [← HSN.out, HN.out, if_pos ⟨h0, h1⟩])
                  clear h0 h1
                  go_wp2_with (go_at_call 92; refine CO.out.mono ?_; rintro e w6 ⟨rfl, rfl⟩)
                  go_roundw
                  case rel => exact ⟨j + 1, _, by omega, by go_num, rfl, HN2.out, trivial⟩
                  case measure => simp [intOf]; omega
                · have e1 : (b[j].1 == 0) = false := by rw [beq_eq_false_iff_ne]; exact h1
                  have HN2 := Lib.hid (show soonFrom b (soonOrd b k) (ordMask b (soonOrd b k)) (j + 1) at_ = soonL b (soonOrd b k) (ordMask b (soonOrd b k)) by rw [← HSN.out, HN.out, if_neg (fun hh => h1 hh.2)])
                  clear h0 h1
                  go_wp2_with (go_at_call 92; refine CO.out.mono ?_; rintro e w6 ⟨rfl, rfl⟩)
                  go_roundw
                  case rel => exact ⟨j + 1, _, by omega, by go_num, rfl, HN2.out, trivial⟩
                  case measure => simp [intOf]; omega
              · have hd0 : decide (at_ < 0) = false := by simp; omega
                have HN2 := Lib.hid (show soonFrom b (soonOrd b k) (ordMask b (soonOrd b k)) (j + 1) at_ = soonL b (soonOrd b k) (ordMask b (soonOrd b k)) by rw [← HSN.out, HN.out, if_neg (fun hh => h0 hh.1)])
                clear h0
                go_wp2_with (go_at_call 92; refine CO.out.mono ?_; rintro e w6 ⟨rfl, rfl⟩)
                go_roundw
                case rel => exact ⟨j + 1, _, by omega, by go_num, rfl, HN2.out, trivial⟩
                case measure => simp [intOf]; omega
          · have HN2 := Lib.hid (show soonFrom b (soonOrd b k) (ordMask b (soonOrd b k)) (j + 1) at_ = soonL b (soonOrd b k) (ordMask b (soonOrd b k)) by rw [← HSN.out, soonFrom_done hjl HCC.out.symm])
            go_wp2_with fail
            go_roundw
            case rel => exact ⟨j + 1, _, by omega, by go_num, rfl, HN2.out, trivial⟩
            case measure => simp [intOf]; omega
        · have HATN := Lib.hid (show at_ = (n : Int) by rw [← HNN.out, ← HSN.out, soonFrom_end hjl])
          have hat2 : at_ = (n : Int) := HATN.out
          subst hat2
          go_upto_region 15 with fail
          obtain ⟨w6, hw6⟩ : ∃ w6, w6 = wo.setCell ⟨w.heap.size + 2, n, none⟩ (.bool true) := ⟨_, rfl⟩
          have O6 : Only (w.heap.size + 2) (w.heap.size + 3) wo w6 := by rw [hw6]; exact (Only.refl _ _ _).setCell (p := ⟨w.heap.size + 2, n, none⟩) ⟨Nat.le_refl _, by show w.heap.size + 2 < w.heap.size + 3; omega⟩ _
          have B6 := Lib.hid (Only.then_ BO.out O6 (by omega))
          have HO6 := Lib.hid ((HO.out.only O6 (.inr (Nat.le_refl _))).mono (Nat.le_refl _) O6.size)
          have HM6 := Lib.hid (HM.out.only O6 (.inl (by omega)))
          have X6 := Lib.hid ((XO.out).only O6 (.inl (by omega)))
          have HU6 := Lib.hid (show w6.rowIs (w.heap.size + 2) 4 b.length (fun j => .bool ((soonOrd b (k + 1)).contains (j : Int))) from by
            rw [hw6]
            exact (HU.out.set n (.bool true)).congr fun j _ => by
              show (if j = n then Value.bool true else .bool _) = .bool _
              rw [← HNX.out]
              by_cases e : j = n
              · subst e; simp
              · have : ¬ (j : Int) = (n : Int) := by omega
                simp [e, this])
          have s6 := O6.size
          rw [← hw6]
          clear hw6 O6
          obtain ⟨Q, hQ⟩ : ∃ Q, Q = soonOrd b k := ⟨_, rfl⟩
          have HQ := Lib.hid hQ
          have HQL := Lib.hid (show Q.length = k by rw [hQ, soonOrd_len])
          rw [← hQ] at HO6
          clear hQ
          go_upto_region 16 with (at_builtin; refine wpList_append_lies _ rfl (.tmp 57) (.tmp 59) 23 rfl (w.heap.size + 3) 3 i0 (.int .i64 0) 1 8 Try.underlying23 hi0 hz0 hz1 hz2 rfl (by decide) (.slice A' k c') k (Q.map (Value.int .i64)) rfl ?c1y ⟨w6.heap.size, 0, none⟩ 1 1 [.int .i64 (n : Int)] rfl rfl (news1o _ _ _) ?c2y (by omega) (by unfold maxLen; omega) (by omega) ?c3y _ rfl ?_)
          case c1y => have h0 := HO6.out.1; rw [HQL.out] at h0; exact h0.alloc _
          case c2y => first | (intro u hu; simp at hu; subst hu; rfl) | rfl
          case c3y => first | (simp; omega) | omega
          intro g2 cap w10 hown hgr hat _
          have hgf := grown_from_alloc hgr
          have hne : ∀ q, q < w.heap.size + 3 → some q ≠ (Value.slice A' k c').ownBlock := fun q hq e => by
            have h1 := HO6.out.1
            rw [HQL.out] at h1
            have := h1.lt q e.symm
            omega
          have hsame : ∀ q, q < w6.heap.size → q < w.heap.size + 3 → w10.heap[q]? = w6.heap[q]? := fun q h1 h2 => hgf.block q h1 (hne q h2)
          have B10 := Lib.hid (show Below w.heap.size w w10 from (B6.out.alloc B6.out.size _).grown hgr (by have := B6.out.size; simp; omega) (fun q hq => by have h0 := HO6.out.1; rw [HQL.out] at h0; have := (h0.lt q hq).1; omega))
          have HO10 := Lib.hid (show OwnInts w10 (w.heap.size + 3) w10.heap.size (.slice (some ⟨g2, 0, none⟩) (k + 1) cap) (soonOrd b (k + 1)) from by
            rw [← HNX.out, ← HQ.out]
            refine ⟨?_, fun q hq => (hown.lt q hq).2⟩
            rw [List.map_append, List.length_append, List.length_singleton, HQL.out]
            exact hown)
          have HM10 := Lib.hid (show MkRow w10 (w.heap.size + 1) (ordMask b (soonOrd b k)) from (hsame _ HM6.out.lt (by omega)).trans HM6.out)
          have HU10 := Lib.hid (HU6.out.of_block (hsame _ HU6.out.lt (by omega)))
          have X10 := Lib.hid (show Blk w10 w.heap.size 28 #[.int .i64 hd.1, .slice A1 hd.2.length c1, .slice (some ⟨b3, o3, none⟩) b.length c2] from (hsame _ X6.out.lt (by omega)).trans X6.out)
          have v2 : w10.cell? ⟨w.heap.size, 2, none⟩ = some (.slice (some ⟨b3, o3, none⟩) b.length c2) := X10.out.cell 2
          have n2 := (B10.out.cell (p := ⟨b3, o3 + n * 3 + 2, none⟩) hbB3).trans KK2.out
          have CM := Lib.hid (l2Mark_any (w.heap.size + 1) (ordMask b (soonOrd b k)) (.slice A4 b[n].2.2.length c4) b[n].2.2 w10 HM10.out ((HA3.out.below B10.out (Nat.le_refl _)).more (by omega)) (by omega))
          clear hown hgr hat hgf hne hsame
          go_wp2_with (go_at_call 64; refine CM.out.mono ?_; rintro e w11 ⟨rfl, m11, on11⟩)
          rw [maskFrom_eq, ← HOM.out] at m11
          have B11 := Lib.hid (Only.then_ B10.out on11 (by omega))
          have HO11 := Lib.hid ((HO10.out.only on11 (.inr (by omega))).mono (Nat.le_refl _) on11.size)
          have HU11 := Lib.hid (rowIs_only HU10.out on11 (.inr (by omega)))
          have X11 := Lib.hid (X10.out.only on11 (.inl (by omega)))
          go_roundw
          case rel => exact ⟨k + 1, _, _, by omega, rfl, HO11.out, m11, HU11.out, X11.out, B11.out⟩
          case measure => simp [lenOf]; omega
    · obtain rfl : k = b.length := by omega
      have HLE := Lib.hid (soonOrd_len b b.length)
      go_wp2_with fail
      go_ret
      refine ⟨A', c', by rw [HLE.out]; rfl, ?_, BO.out⟩
      rw [HLE.out]
      exact HO.out.mono (by omega) (Nat.le_refl _)

set_option maxHeartbeats 4000000 in
set_option maxRecDepth 100000 in
theorem specPlanOf_any (v v2 : Value) (ar : List Int) (r : LRule) (w : World) (h : RdInts w w.heap.size v ar) (h2 : RdRule w w.heap.size v2 r) (hr : ar.length ≤ 1048576) (hs : szR r ≤ 1048576) :
    Calls Try.prog 12 #[v, v2] w fun e w' => ∃ A' c', e = .returned (.slice A' (planOfL ar r).length c') ∧ OwnOps w' w.heap.size w'.heap.size (.slice A' (planOfL ar r).length c') (planOfL ar r) ∧ Below w.heap.size w w' := by
  have H := Lib.hid h
  have H2 := Lib.hid h2
  obtain ⟨hd, b⟩ := r
  have hss := hs
  unfold szR at hss
  simp only at hss
  obtain ⟨A, c, rfl, hc, _⟩ := h
  obtain ⟨a1, a2, rfl, h2a, h2b⟩ := h2
  obtain ⟨A1, c1, rfl, hc1, _⟩ := h2a
  obtain ⟨A2, c2, rfl, hc2, _⟩ := h2b
  simp only at hc1 hc2
  obtain ⟨w1, hw1⟩ : ∃ w1, w1 = w.alloc (Obj.cells #[Value.int IntKind.i64 hd.1, Value.slice A1 hd.2.length c1, Value.slice A2 b.length c2] 28) := ⟨_, rfl⟩
  have HB1 := Lib.hid (show Below w.heap.size w w1 by rw [hw1]; exact below1 _ _)
  have X1 := Lib.hid (show Blk w1 w.heap.size 28 #[.int .i64 hd.1, .slice A1 hd.2.length c1, .slice A2 b.length c2] by rw [hw1]; exact Blk.new _ _ _)
  have q0 : w1.cell? ⟨w.heap.size, 0, none⟩ = some (.int .i64 hd.1) := X1.out.cell 0
  have q1 : w1.cell? ⟨w.heap.size, 1, none⟩ = some (.slice A1 hd.2.length c1) := X1.out.cell 1
  have q2 : w1.cell? ⟨w.heap.size, 2, none⟩ = some (.slice A2 b.length c2) := X1.out.cell 2
  have CR := Lib.hid (specRuleOk_any (.slice A ar.length c) (.agg #[.int .i64 hd.1, .slice A1 hd.2.length c1, .slice A2 b.length c2]) ar (hd, b) w1 (H.out.on HB1.out) (H2.out.on HB1.out) hr hs)
  obtain ⟨ro, hro⟩ : ∃ ro, ro = ruleOk ar (hd, b) := ⟨_, rfl⟩
  rw [← hro] at CR
  have HRO := Lib.hid hro
  clear hro
  cases ro
  · have HL := Lib.hid (show planOfL ar (hd, b) = [] by unfold planOfL; rw [← HRO.out]; rfl)
    go_enter Try.func12, Try.ntmps12
    go_upto_region 1 with fail
    rw [← hw1]
    clear hw1
    go_wp2_with (go_at_call 15; refine CR.out.mono ?_; rintro e w2 ⟨rfl, b2⟩)
    go_ret
    refine ⟨none, 0, by rw [HL.out]; rfl, ?_, bthen HB1.out b2⟩
    rw [HL.out]
    exact OwnOps.nil
  · have HPB := Lib.hid (planOf_by (r := (hd, b)) HRO.out.symm)
    have HSF := Lib.hid (ruleOk_safe HRO.out.symm)
    have HT := Lib.hid (ruleOk_terms HRO.out.symm)
    go_enter Try.func12, Try.ntmps12
    go_upto_region 1 with fail
    rw [← hw1]
    clear hw1
    go_upto_region 3 with (go_at_call 15; refine CR.out.mono ?_; rintro e w2 ⟨rfl, b2⟩)
    have x2 := X1.out.below b2 X1.out.lt
    have B2 := Lib.hid (bthen HB1.out b2)
    have X2 := Lib.hid x2
    obtain ⟨SS, hSS⟩ : ∃ SS : World → Prop, SS = (fun W => W.cell? ⟨w.heap.size, 0, none⟩ = some (.int .i64 hd.1) ∧ W.cell? ⟨w.heap.size, 1, none⟩ = some (.slice A1 hd.2.length c1) ∧ W.cell? ⟨w.heap.size, 2, none⟩ = some (.slice A2 b.length c2)) := ⟨_, rfl⟩
    have HB := Lib.hid (show ∀ W, SS W → (W.cell? ⟨w.heap.size, 0, none⟩ = some (.int .i64 hd.1) ∧ W.cell? ⟨w.heap.size, 1, none⟩ = some (.slice A1 hd.2.length c1) ∧ W.cell? ⟨w.heap.size, 2, none⟩ = some (.slice A2 b.length c2)) from by rw [hSS]; exact fun W hW => hW)
    have HS := Lib.hid (show ∀ W, Below w2.heap.size w2 W → SS W from by
      rw [hSS]
      exact fun W hW => ⟨(X2.out.below hW X2.out.lt).cell 0, (X2.out.below hW X2.out.lt).cell 1, (X2.out.below hW X2.out.lt).cell 2⟩)
    clear hSS x2 b2 q0 q1 q2
    refine wp_region_rel SS 4 10 (by kernel_rfl) rfl ?_
    obtain ⟨wy, hwy⟩ : ∃ wy, wy = w2.drew := ⟨_, rfl⟩
    have BY : Below w2.heap.size w2 wy := by rw [hwy]; exact (Below.refl _ _).drew
    rw [← hwy]
    clear hwy
    have S0 := HS.out _ BY
    refine wpAnyR_pure (i := 0) (oi := _) ?va0 rfl rfl (by kernel_rfl) (by decide) (fun _ _ _ h => h) rfl ?hya0 (fun _ => S0) ?resta0
    case hya0 => (intro W; go_simp; (try with_reducible rfl))
    try simp only [List.setIfInBounds_toArray, List.set_cons_zero, List.set_cons_succ]
    refine wpAnyR_take (i := 1) (oi := _) ?va1 rfl rfl (by kernel_rfl) (fun _ _ _ h => h) rfl ?hya1 S0 ?resta1
    case hya1 => (intro W hW; obtain ⟨d0, d1, d2⟩ := HB.out W hW; go_simp; (try with_reducible rfl))
    try simp only [List.setIfInBounds_toArray, List.set_cons_zero, List.set_cons_succ]
    refine wpAnyR_take (i := 2) (oi := _) ?va2 rfl rfl (by kernel_rfl) (fun _ _ _ h => h) rfl ?hya2 S0 ?resta2
    case hya2 => (intro W hW; obtain ⟨d0, d1, d2⟩ := HB.out W hW; go_simp; (try with_reducible rfl))
    try simp only [List.setIfInBounds_toArray, List.set_cons_zero, List.set_cons_succ]
    refine wpAnyR_one (i := 3) (by kernel_rfl) rfl (fun K hK => ?_)
    try rw [if_pos (show Region.wanted _ _ = true from rfl)]
    go_simp
    refine (l10First_any (.agg #[.int .i64 hd.1, .slice A1 hd.2.length c1, .slice A2 b.length c2]) (hd, b) wy ((H2.out.on B2.out).on BY) hs HSF.out.1 HT.out.2).mono ?_
    rintro e w3 ⟨A3, c3, rfl, o3, b3⟩
    have O3 := Lib.hid o3
    have B3 := Lib.hid (bthen (bthen B2.out BY) b3)
    have S3 := HS.out _ (bthen BY b3)
    refine hK.out _ _ (fun _ => S3) ?_
    clear hK K o3
    refine wpAnyR_one (i := 4) (by kernel_rfl) rfl (fun K hK => ?_)
    try rw [if_pos (show Region.wanted _ _ = true from rfl)]
    go_simp
    refine (specPlanBy_any (.slice A ar.length c) (.agg #[.int .i64 hd.1, .slice A1 hd.2.length c1, .slice A2 b.length c2]) (.slice A3 (soonOrd b b.length).length c3) ar (hd, b) (soonOrd b b.length) w3 (H.out.on B3.out) (H2.out.on B3.out) O3.out.rd hr hs (by rw [soonOrd_len]; omega)).mono ?_
    rw [HPB.out.1, HPB.out.2]
    rintro e w4 ⟨A4, c4, rfl, o4, b4⟩
    have O4 := Lib.hid (o4.mono B3.out.size (Nat.le_refl _))
    have B4 := Lib.hid (bthen B3.out b4)
    have S4 := HS.out _ (bthen (bthen BY b3) b4)
    refine hK.out _ _ (fun _ => S4) ?_
    clear hK K o4
    refine wpAnyR_pure (i := 5) (oi := _) ?vb5 rfl rfl (by kernel_rfl) (by decide) (fun _ _ _ h => h) rfl ?hyb5 (fun _ => S4) ?restb5
    case hyb5 => (intro W; go_simp; (try with_reducible rfl))
    try simp only [List.setIfInBounds_toArray, List.set_cons_zero, List.set_cons_succ]
    refine wpAnyR_pure (i := 6) (oi := _) ?vb6 rfl rfl (by kernel_rfl) (by decide) (fun _ _ _ h => h) rfl ?hyb6 (fun _ => S4) ?restb6
    case hyb6 => (intro W; go_simp; (try with_reducible rfl))
    try simp only [List.setIfInBounds_toArray, List.set_cons_zero, List.set_cons_succ]
    refine wpAnyR_pure (i := 7) (oi := _) ?vb7 rfl rfl (by kernel_rfl) (by decide) (fun _ _ _ h => h) rfl ?hyb7 (fun _ => S4) ?restb7
    case hyb7 => (intro W; go_simp; (try with_reducible rfl))
    try simp only [List.setIfInBounds_toArray, List.set_cons_zero, List.set_cons_succ]
    refine wpAnyR_one (i := 8) (by kernel_rfl) rfl (fun K hK => ?_)
    try rw [if_pos (show Region.wanted _ _ = true from rfl)]
    go_simp
    refine hK.out _ _ (fun _ => S4) ?_
    clear hK K
    refine wpAnyR_one (i := 9) (by kernel_rfl) rfl (fun K hK => ?_)
    go_simp
    refine hK.out _ _ (fun hf => absurd hf (by decide)) ?_
    clear hK K
    refine wpAnyR_done (by kernel_rfl) ?_
    go_wp2_with fail
    go_ret
    exact ⟨A4, c4, rfl, O4.out, B4.out⟩

end Go.Proofs.Ytocpfmbieedpgaa
/-
  The walk of the law on PlanOf (written by wip/genlaw.py).
-/
namespace Go.Proofs.Ytocpfmbieedpgaa
open Go.RowKit

set_option maxHeartbeats 8000000 in
set_option maxRecDepth 100000 in
theorem lawPlanOf_any (v0 : Value) (v1 : Value) (ar : List Int) (r : LRule) (w : World) (h0 : RdInts w w.heap.size v0 ar) (h1 : RdRule w w.heap.size v1 r) (n1 : ruleLens r) :
    Calls Try.prog 6 #[v0, v1] w fun e w' => e = .returned (.bool true) ∧ Below w.heap.size w w' := by
  have H0 := Lib.hid h0
  obtain ⟨A0, c0, rfl, hc0, _⟩ := h0
  have H1 := Lib.hid h1
  obtain ⟨_, _, rfl, ⟨A1, c1, rfl, hc1, _⟩, ⟨A1b, c1b, rfl, hc1b, _⟩⟩ := h1
  by_cases g0 : 1048576 < ar.length
  · go_enter Try.func6, Try.ntmps6
    go_wp2_with (fail)
    go_ret
    exact ⟨rfl, below1 _ _⟩
  have r0 : ar.length ≤ 1048576 := by omega
  go_enter Try.func6, Try.ntmps6
  go_wp2_with (fail)
  obtain ⟨w1, hw_w1⟩ : ∃ W', W' = w.alloc (Obj.cells #[Value.int IntKind.i64 r.1.1, Value.slice A1 r.1.2.length c1, Value.slice A1b r.2.length c1b] 52) := ⟨_, rfl⟩
  rw [← hw_w1]
  have B_w1 : Below w.heap.size w w1 := by rw [hw_w1]; exact below1 _ _
  have bx1 : Blk w1 (w.heap.size + 0) 52 #[.int .i64 r.1.1, .slice A1 r.1.2.length c1, .slice A1b r.2.length c1b] := by
    rw [hw_w1]
    have := (Blk.new w 52 #[.int .i64 r.1.1, .slice A1 r.1.2.length c1, .slice A1b r.2.length c1b])
    simpa using this
  have bx1_l := bx1.lt
  rw [Nat.add_zero] at bx1 bx1_l
  have s_w1 := B_w1.size
  clear hw_w1
  refine (us_rule (H1.out.on B_w1) (by omega) (by omega) n1).mono ?_
  rintro e w2 ⟨z1, rfl, hz1, hbz1⟩
  have s_w2 := hbz1.size
  have bx1_1 := bx1.below hbz1 (by first | exact bx1.lt | omega)
  clear bx1
  have bx1_1_l := bx1_1.lt
  have B_w2 := bthen B_w1 hbz1
  rcases hz1 with rfl | ⟨zp1, zs1⟩
  · go_wp2_with (fail)
    go_ret
    exact ⟨rfl, B_w2⟩
  have zn1 : ¬ z1 < 0 := by omega
  have r1 : szR r ≤ 1048576 := by omega
  have zl1 : z1 ≤ 1048576 := by omega
  have ZS1 := Lib.hid zs1
  clear zs1 zn1
  have zn1 : ¬ z1 < 0 := by omega
  obtain ⟨R0, hR0⟩ : ∃ R, R = planOfL ar r := ⟨_, rfl⟩
  have HR0 := Lib.hid hR0
  have HRs0 := Lib.hid (show szL R0 ≤ 64 by rw [hR0]; exact planOf_sz ar r)
  clear hR0
  have q1 : w2.cell? ⟨w.heap.size, 0, none⟩ = some (.int .i64 r.1.1) := bx1_1.cell 0
  have q2 : w2.cell? ⟨w.heap.size, 1, none⟩ = some (.slice A1 r.1.2.length c1) := bx1_1.cell 1
  have q3 : w2.cell? ⟨w.heap.size, 2, none⟩ = some (.slice A1b r.2.length c1b) := bx1_1.cell 2
  go_upto_region 7 with fail
  clear q1 q2 q3
  have HS_w2 := Lib.hid (show ∀ W, Below w2.heap.size w2 W → (Below w2.heap.size w2 W ∧ W.cell? ⟨w.heap.size, 0, none⟩ = some (.int .i64 r.1.1) ∧ W.cell? ⟨w.heap.size, 1, none⟩ = some (.slice A1 r.1.2.length c1) ∧ W.cell? ⟨w.heap.size, 2, none⟩ = some (.slice A1b r.2.length c1b)) from fun W hW => ⟨hW, (bx1_1.below hW bx1_1_l).cell 0, (bx1_1.below hW bx1_1_l).cell 1, (bx1_1.below hW bx1_1_l).cell 2⟩)
  go_cut [6] (fun s0 wx => ∃ (Q_0 : Option Addr) (f_0 : Nat), s0 = .slice Q_0 R0.length f_0 ∧ OwnOps wx w2.heap.size wx.heap.size (.slice Q_0 R0.length f_0) R0 ∧ Below w2.heap.size w2 wx)
  case first =>
    go_region_held3 (fun W => Below w2.heap.size w2 W ∧ W.cell? ⟨w.heap.size, 0, none⟩ = some (.int .i64 r.1.1) ∧ W.cell? ⟨w.heap.size, 1, none⟩ = some (.slice A1 r.1.2.length c1) ∧ W.cell? ⟨w.heap.size, 2, none⟩ = some (.slice A1b r.2.length c1b))
      (first | exact HS_w2.out _ (Below.refl _ _) | exact HS_w2.out _ (Below.refl _ _).drew | exact HS_w2.out _ (bthen (And.left (by assumption)) (by assumption)))
      (first
        | (go_at_call 24; refine (toIntS_any _ ar _ ?_ (by omega)).mono ?_; exact H0.out.on (bthen B_w2 (And.left (by assumption))); rintro e w_0 ⟨P0, d0, rfl, o0, g0⟩)
        | (go_at_call 29; refine (toRule_own _ r _ ?_ (by omega)).mono ?_; exact H1.out.on (bthen B_w2 (And.left (by assumption))); rintro e w_1 ⟨P1, d1, P1b, d1b, rfl, o1, g1⟩)
        | (go_at_call 12; refine (specPlanOf_any _ _ ar r _ ((o0.rd.on g1)) (o1.rd) (by omega) (by omega)).mono ?_; rw [← HR0.out]; rintro e w_r ⟨Q_0, f_0, rfl, oo_0, hb_r⟩))
    all_goals (go_wp2_with fail; go_meet; exact ⟨_, _, rfl, oo_0.mono (Nat.le_trans g0.size (g1.size)) (Nat.le_refl _), And.left (by assumption)⟩)
  case rest =>
    obtain ⟨Q1_0, f1_0, rfl, o1_0, hb1⟩ := hcut
    clear HS_w2
    generalize wc = w3 at *
    have s_w3 := hb1.size
    have bx1_2 := bx1_1.below hb1 (by first | exact bx1_1.lt | omega)
    clear bx1_1
    have bx1_2_l := bx1_2.lt
    have B_w3 := bthen B_w2 hb1
    have q4 : w3.cell? ⟨w.heap.size, 0, none⟩ = some (.int .i64 r.1.1) := bx1_2.cell 0
    have q5 : w3.cell? ⟨w.heap.size, 1, none⟩ = some (.slice A1 r.1.2.length c1) := bx1_2.cell 1
    have q6 : w3.cell? ⟨w.heap.size, 2, none⟩ = some (.slice A1b r.2.length c1b) := bx1_2.cell 2
    go_wp2_with (fail)
    clear q4 q5 q6
    refine (toIntS_any _ ar _ (H0.out.on B_w3) (by omega)).mono ?_
    rintro e w4 ⟨P2, d2, rfl, o2, hb2⟩
    have s_w4 := hb2.size
    have bx1_3 := bx1_2.below hb2 (by first | exact bx1_2.lt | omega)
    clear bx1_2
    have bx1_3_l := bx1_3.lt
    have w0_3 := o1_0.below hb2 (by omega)
    clear o1_0
    have B_w4 := bthen B_w3 hb2
    have q7 : w4.cell? ⟨w.heap.size, 0, none⟩ = some (.int .i64 r.1.1) := bx1_3.cell 0
    have q8 : w4.cell? ⟨w.heap.size, 1, none⟩ = some (.slice A1 r.1.2.length c1) := bx1_3.cell 1
    have q9 : w4.cell? ⟨w.heap.size, 2, none⟩ = some (.slice A1b r.2.length c1b) := bx1_3.cell 2
    go_wp2_with (fail)
    clear q7 q8 q9
    refine (toRule_own _ r _ (H1.out.on B_w4) (by omega)).mono ?_
    rintro e w5 ⟨P3, d3, P3b, d3b, rfl, o3, hb3⟩
    have s_w5 := hb3.size
    have bx1_4 := bx1_3.below hb3 (by first | exact bx1_3.lt | omega)
    clear bx1_3
    have bx1_4_l := bx1_4.lt
    have w0_4 := w0_3.below hb3 (by omega)
    clear w0_3
    have x0_4 := o2.below hb3 (by omega)
    clear o2
    have B_w5 := bthen B_w4 hb3
    have q10 : w5.cell? ⟨w.heap.size, 0, none⟩ = some (.int .i64 r.1.1) := bx1_4.cell 0
    have q11 : w5.cell? ⟨w.heap.size, 1, none⟩ = some (.slice A1 r.1.2.length c1) := bx1_4.cell 1
    have q12 : w5.cell? ⟨w.heap.size, 2, none⟩ = some (.slice A1b r.2.length c1b) := bx1_4.cell 2
    go_wp2_with (fail)
    clear q10 q11 q12
    obtain ⟨w6, hw_w6⟩ : ∃ W', W' = w5.alloc (Obj.cells #[Value.int IntKind.i64 r.1.1, Value.slice P3 r.1.2.length d3, Value.slice P3b r.2.length d3b] 28) := ⟨_, rfl⟩
    rw [← hw_w6]
    have hb_w6 : Below w5.heap.size w5 w6 := by rw [hw_w6]; exact below1 _ _
    have bxx1_n : Blk w6 w5.heap.size 28 #[.int .i64 r.1.1, .slice P3 r.1.2.length d3, .slice P3b r.2.length d3b] := by rw [hw_w6]; exact Blk.new _ _ _
    have bxx1_nl := bxx1_n.lt
    clear hw_w6
    have s_w6 := hb_w6.size
    have bx1_5 := bx1_4.below hb_w6 (by first | exact bx1_4.lt | omega)
    clear bx1_4
    have bx1_5_l := bx1_5.lt
    have w0_5 := w0_4.below hb_w6 (by omega)
    clear w0_4
    have x0_5 := x0_4.below hb_w6 (by omega)
    clear x0_4
    have x1_5 := o3.below hb_w6 (by omega)
    clear o3
    have B_w6 := bthen B_w5 hb_w6
    refine (implPlanOf_any _ _ ar r _ (x0_5.rd.more (by omega)) (x1_5.rd.more (by omega)) (by omega) (by omega)).mono ?_
    rw [← HR0.out]
    rintro e w7 ⟨Q4_0, f4_0, rfl, o4_0, hb4⟩
    have s_w7 := hb4.size
    have bx1_6 := bx1_5.below hb4 (by first | exact bx1_5.lt | omega)
    clear bx1_5
    have bx1_6_l := bx1_6.lt
    have w0_6 := w0_5.below hb4 (by omega)
    clear w0_5
    have x0_6 := x0_5.below hb4 (by omega)
    clear x0_5
    have x1_6 := x1_5.below hb4 (by omega)
    clear x1_5
    have bxx1_6 := bxx1_n.below hb4 (by first | exact bxx1_n.lt | omega)
    clear bxx1_n
    have bxx1_6_l := bxx1_6.lt
    have B_w7 := bthen B_w6 hb4
    have q13 : w7.cell? ⟨w.heap.size, 0, none⟩ = some (.int .i64 r.1.1) := bx1_6.cell 0
    have q14 : w7.cell? ⟨w.heap.size, 1, none⟩ = some (.slice A1 r.1.2.length c1) := bx1_6.cell 1
    have q15 : w7.cell? ⟨w.heap.size, 2, none⟩ = some (.slice A1b r.2.length c1b) := bx1_6.cell 2
    have q16 : w7.cell? ⟨w5.heap.size, 0, none⟩ = some (.int .i64 r.1.1) := bxx1_6.cell 0
    have q17 : w7.cell? ⟨w5.heap.size, 1, none⟩ = some (.slice P3 r.1.2.length d3) := bxx1_6.cell 1
    have q18 : w7.cell? ⟨w5.heap.size, 2, none⟩ = some (.slice P3b r.2.length d3b) := bxx1_6.cell 2
    go_wp2_with (fail)
    clear q13 q14 q15 q16 q17 q18
    refine (eqOpS_any _ _ R0 R0 _ (o4_0.rd.more (by omega)) (w0_6.rd.more (by omega)) (by have := HRs0.out; unfold szL at this; omega) (by have := HRs0.out; unfold szL at this; omega) (by have := HRs0.out; unfold szL at this; omega) (by have := HRs0.out; unfold szL at this; omega)).mono ?_
    rintro e w8 ⟨rfl, hb5⟩
    rw [show decide (R0 = R0) = true by simp]
    have s_w8 := hb5.size
    have bx1_7 := bx1_6.below hb5 (by first | exact bx1_6.lt | omega)
    clear bx1_6
    have bx1_7_l := bx1_7.lt
    have w0_7 := w0_6.below hb5 (by omega)
    clear w0_6
    have x0_7 := x0_6.below hb5 (by omega)
    clear x0_6
    have x1_7 := x1_6.below hb5 (by omega)
    clear x1_6
    have bxx1_7 := bxx1_6.below hb5 (by first | exact bxx1_6.lt | omega)
    clear bxx1_6
    have bxx1_7_l := bxx1_7.lt
    have g0_7 := o4_0.below hb5 (by omega)
    clear o4_0
    have B_w8 := bthen B_w7 hb5
    have q19 : w8.cell? ⟨w.heap.size, 0, none⟩ = some (.int .i64 r.1.1) := bx1_7.cell 0
    have q20 : w8.cell? ⟨w.heap.size, 1, none⟩ = some (.slice A1 r.1.2.length c1) := bx1_7.cell 1
    have q21 : w8.cell? ⟨w.heap.size, 2, none⟩ = some (.slice A1b r.2.length c1b) := bx1_7.cell 2
    have q22 : w8.cell? ⟨w5.heap.size, 0, none⟩ = some (.int .i64 r.1.1) := bxx1_7.cell 0
    have q23 : w8.cell? ⟨w5.heap.size, 1, none⟩ = some (.slice P3 r.1.2.length d3) := bxx1_7.cell 1
    have q24 : w8.cell? ⟨w5.heap.size, 2, none⟩ = some (.slice P3b r.2.length d3b) := bxx1_7.cell 2
    go_wp2_with (fail)
    clear q19 q20 q21 q22 q23 q24
    refine (toIntS_any _ ar _ (H0.out.on B_w8) (by omega)).mono ?_
    rintro e w9 ⟨P6, d6, rfl, o6, hb6⟩
    have s_w9 := hb6.size
    have bx1_8 := bx1_7.below hb6 (by first | exact bx1_7.lt | omega)
    clear bx1_7
    have bx1_8_l := bx1_8.lt
    have w0_8 := w0_7.below hb6 (by omega)
    clear w0_7
    have x0_8 := x0_7.below hb6 (by omega)
    clear x0_7
    have x1_8 := x1_7.below hb6 (by omega)
    clear x1_7
    have bxx1_8 := bxx1_7.below hb6 (by first | exact bxx1_7.lt | omega)
    clear bxx1_7
    have bxx1_8_l := bxx1_8.lt
    have g0_8 := g0_7.below hb6 (by omega)
    clear g0_7
    have B_w9 := bthen B_w8 hb6
    have q25 : w9.cell? ⟨w.heap.size, 0, none⟩ = some (.int .i64 r.1.1) := bx1_8.cell 0
    have q26 : w9.cell? ⟨w.heap.size, 1, none⟩ = some (.slice A1 r.1.2.length c1) := bx1_8.cell 1
    have q27 : w9.cell? ⟨w.heap.size, 2, none⟩ = some (.slice A1b r.2.length c1b) := bx1_8.cell 2
    have q28 : w9.cell? ⟨w5.heap.size, 0, none⟩ = some (.int .i64 r.1.1) := bxx1_8.cell 0
    have q29 : w9.cell? ⟨w5.heap.size, 1, none⟩ = some (.slice P3 r.1.2.length d3) := bxx1_8.cell 1
    have q30 : w9.cell? ⟨w5.heap.size, 2, none⟩ = some (.slice P3b r.2.length d3b) := bxx1_8.cell 2
    go_wp2_with (fail)
    clear q25 q26 q27 q28 q29 q30
    refine (eqIntS_any _ _ ar ar _ (x0_8.rd.more (by omega)) (o6.rd.more (by omega)) (by omega) (by omega)).mono ?_
    rintro e w10 ⟨rfl, hb7⟩
    rw [show decide (ar = ar) = true by simp]
    have s_w10 := hb7.size
    have bx1_9 := bx1_8.below hb7 (by first | exact bx1_8.lt | omega)
    clear bx1_8
    have bx1_9_l := bx1_9.lt
    have w0_9 := w0_8.below hb7 (by omega)
    clear w0_8
    have x0_9 := x0_8.below hb7 (by omega)
    clear x0_8
    have x1_9 := x1_8.below hb7 (by omega)
    clear x1_8
    have bxx1_9 := bxx1_8.below hb7 (by first | exact bxx1_8.lt | omega)
    clear bxx1_8
    have bxx1_9_l := bxx1_9.lt
    have g0_9 := g0_8.below hb7 (by omega)
    clear g0_8
    have B_w10 := bthen B_w9 hb7
    have q31 : w10.cell? ⟨w.heap.size, 0, none⟩ = some (.int .i64 r.1.1) := bx1_9.cell 0
    have q32 : w10.cell? ⟨w.heap.size, 1, none⟩ = some (.slice A1 r.1.2.length c1) := bx1_9.cell 1
    have q33 : w10.cell? ⟨w.heap.size, 2, none⟩ = some (.slice A1b r.2.length c1b) := bx1_9.cell 2
    have q34 : w10.cell? ⟨w5.heap.size, 0, none⟩ = some (.int .i64 r.1.1) := bxx1_9.cell 0
    have q35 : w10.cell? ⟨w5.heap.size, 1, none⟩ = some (.slice P3 r.1.2.length d3) := bxx1_9.cell 1
    have q36 : w10.cell? ⟨w5.heap.size, 2, none⟩ = some (.slice P3b r.2.length d3b) := bxx1_9.cell 2
    go_upto_region 15 with fail
    clear q31 q32 q33 q34 q35 q36
    have HS_w10 := Lib.hid (show ∀ W, Below w10.heap.size w10 W → (Below w10.heap.size w10 W ∧ W.cell? ⟨w.heap.size, 0, none⟩ = some (.int .i64 r.1.1) ∧ W.cell? ⟨w.heap.size, 1, none⟩ = some (.slice A1 r.1.2.length c1) ∧ W.cell? ⟨w.heap.size, 2, none⟩ = some (.slice A1b r.2.length c1b) ∧ W.cell? ⟨w5.heap.size, 0, none⟩ = some (.int .i64 r.1.1) ∧ W.cell? ⟨w5.heap.size, 1, none⟩ = some (.slice P3 r.1.2.length d3) ∧ W.cell? ⟨w5.heap.size, 2, none⟩ = some (.slice P3b r.2.length d3b)) from fun W hW => ⟨hW, (bx1_9.below hW bx1_9_l).cell 0, (bx1_9.below hW bx1_9_l).cell 1, (bx1_9.below hW bx1_9_l).cell 2, (bxx1_9.below hW bxx1_9_l).cell 0, (bxx1_9.below hW bxx1_9_l).cell 1, (bxx1_9.below hW bxx1_9_l).cell 2⟩)
    have RX_w10 := Lib.hid (show RdRule w10 w10.heap.size (.agg #[.int .i64 r.1.1, .slice P3 r.1.2.length d3, .slice P3b r.2.length d3b]) r from x1_9.rd.more (by omega))
    go_cut [47] (fun s wx => s = .bool false ∧ Below w10.heap.size w10 wx)
    case first =>
      go_region_held3 (fun W => Below w10.heap.size w10 W ∧ W.cell? ⟨w.heap.size, 0, none⟩ = some (.int .i64 r.1.1) ∧ W.cell? ⟨w.heap.size, 1, none⟩ = some (.slice A1 r.1.2.length c1) ∧ W.cell? ⟨w.heap.size, 2, none⟩ = some (.slice A1b r.2.length c1b) ∧ W.cell? ⟨w5.heap.size, 0, none⟩ = some (.int .i64 r.1.1) ∧ W.cell? ⟨w5.heap.size, 1, none⟩ = some (.slice P3 r.1.2.length d3) ∧ W.cell? ⟨w5.heap.size, 2, none⟩ = some (.slice P3b r.2.length d3b))
        (first | exact HS_w10.out _ (Below.refl _ _) | exact HS_w10.out _ (Below.refl _ _).drew | exact HS_w10.out _ (bthen (And.left (by assumption)) (by assumption)))
        (first
          | (go_at_call 29; refine (toRule_own _ r _ ?_ (by omega)).mono ?_; exact H1.out.on (bthen B_w10 (And.left (by assumption))); rintro e wf ⟨Af, cf, Ag, cg, rfl, hof, hbf⟩)
          | (go_at_call 30; refine (eqRule_any _ _ r r _ ?_ ?_ (by omega) (by omega)).mono ?_; exact (RX_w10.out.on (And.left (by assumption))); exact hof.rd; rw [show decide (r = r) = true by simp]; rintro e wg ⟨rfl, hbg⟩))
      all_goals (go_wp2_with fail; go_meet; exact ⟨rfl, And.left (by assumption)⟩)
    case rest =>
      obtain ⟨rfl, hb8⟩ := hcut
      clear HS_w10 RX_w10
      generalize wc = w11 at *
      have s_w11 := hb8.size
      have bx1_10 := bx1_9.below hb8 (by first | exact bx1_9.lt | omega)
      clear bx1_9
      have bx1_10_l := bx1_10.lt
      have w0_10 := w0_9.below hb8 (by omega)
      clear w0_9
      have x0_10 := x0_9.below hb8 (by omega)
      clear x0_9
      have x1_10 := x1_9.below hb8 (by omega)
      clear x1_9
      have bxx1_10 := bxx1_9.below hb8 (by first | exact bxx1_9.lt | omega)
      clear bxx1_9
      have bxx1_10_l := bxx1_10.lt
      have g0_10 := g0_9.below hb8 (by omega)
      clear g0_9
      have B_w11 := bthen B_w10 hb8
      have q37 : w11.cell? ⟨w.heap.size, 0, none⟩ = some (.int .i64 r.1.1) := bx1_10.cell 0
      have q38 : w11.cell? ⟨w.heap.size, 1, none⟩ = some (.slice A1 r.1.2.length c1) := bx1_10.cell 1
      have q39 : w11.cell? ⟨w.heap.size, 2, none⟩ = some (.slice A1b r.2.length c1b) := bx1_10.cell 2
      have q40 : w11.cell? ⟨w5.heap.size, 0, none⟩ = some (.int .i64 r.1.1) := bxx1_10.cell 0
      have q41 : w11.cell? ⟨w5.heap.size, 1, none⟩ = some (.slice P3 r.1.2.length d3) := bxx1_10.cell 1
      have q42 : w11.cell? ⟨w5.heap.size, 2, none⟩ = some (.slice P3b r.2.length d3b) := bxx1_10.cell 2
      go_wp2_with (fail)
      clear q37 q38 q39 q40 q41 q42
      refine (um_ints 1 x0_10 (by omega) (by omega) (by omega)).mono ?_
      rintro e w12 ⟨k9, rfl, ka9, kb9, _, on9⟩
      have s_w12 := on9.size
      have bx1_11 := bx1_10.only on9 (by first | exact .inl (by omega) | exact .inr (by omega) | omega)
      clear bx1_10
      have bx1_11_l := bx1_11.lt
      have w0_11 := w0_10.only on9 (by first | exact .inl (by omega) | exact .inr (by omega) | omega)
      clear w0_10
      have x1_11 := x1_10.only on9 (by first | exact .inl (by omega) | exact .inr (by omega) | omega) (by omega)
      clear x1_10
      have bxx1_11 := bxx1_10.only on9 (by first | exact .inl (by omega) | exact .inr (by omega) | omega)
      clear bxx1_10
      have bxx1_11_l := bxx1_11.lt
      have g0_11 := g0_10.only on9 (by first | exact .inl (by omega) | exact .inr (by omega) | omega)
      clear g0_10
      have B_w12 := Only.then_ B_w11 on9 (by omega)
      have q43 : w12.cell? ⟨w.heap.size, 0, none⟩ = some (.int .i64 r.1.1) := bx1_11.cell 0
      have q44 : w12.cell? ⟨w.heap.size, 1, none⟩ = some (.slice A1 r.1.2.length c1) := bx1_11.cell 1
      have q45 : w12.cell? ⟨w.heap.size, 2, none⟩ = some (.slice A1b r.2.length c1b) := bx1_11.cell 2
      have q46 : w12.cell? ⟨w5.heap.size, 0, none⟩ = some (.int .i64 r.1.1) := bxx1_11.cell 0
      have q47 : w12.cell? ⟨w5.heap.size, 1, none⟩ = some (.slice P3 r.1.2.length d3) := bxx1_11.cell 1
      have q48 : w12.cell? ⟨w5.heap.size, 2, none⟩ = some (.slice P3b r.2.length d3b) := bxx1_11.cell 2
      go_wp2_with (fail)
      clear q43 q44 q45 q46 q47 q48
      refine (um_rule k9 x1_11 (by omega) (by omega) (by omega)).mono ?_
      rintro e w13 ⟨k10, rfl, ka10, kb10, _, on10⟩
      have s_w13 := on10.size
      have bx1_12 := bx1_11.only on10 (by first | exact .inl (by omega) | exact .inr (by omega) | omega)
      clear bx1_11
      have bx1_12_l := bx1_12.lt
      have w0_12 := w0_11.only on10 (by first | exact .inl (by omega) | exact .inr (by omega) | omega)
      clear w0_11
      have bxx1_12 := bxx1_11.only on10 (by first | exact .inl (by omega) | exact .inr (by omega) | omega)
      clear bxx1_11
      have bxx1_12_l := bxx1_12.lt
      have g0_12 := g0_11.only on10 (by first | exact .inl (by omega) | exact .inr (by omega) | omega)
      clear g0_11
      have B_w13 := Only.then_ B_w12 on10 (by omega)
      have kn : ¬ k10 < 0 := by omega
      have kd : decide (k10 < 0) = false := by simp; omega
      have q49 : w13.cell? ⟨w.heap.size, 0, none⟩ = some (.int .i64 r.1.1) := bx1_12.cell 0
      have q50 : w13.cell? ⟨w.heap.size, 1, none⟩ = some (.slice A1 r.1.2.length c1) := bx1_12.cell 1
      have q51 : w13.cell? ⟨w.heap.size, 2, none⟩ = some (.slice A1b r.2.length c1b) := bx1_12.cell 2
      have q52 : w13.cell? ⟨w5.heap.size, 0, none⟩ = some (.int .i64 r.1.1) := bxx1_12.cell 0
      have q53 : w13.cell? ⟨w5.heap.size, 1, none⟩ = some (.slice P3 r.1.2.length d3) := bxx1_12.cell 1
      have q54 : w13.cell? ⟨w5.heap.size, 2, none⟩ = some (.slice P3b r.2.length d3b) := bxx1_12.cell 2
      go_wp2_with (fail)
      clear q49 q50 q51 q52 q53 q54
      refine (eqOpS_any _ _ R0 R0 _ (g0_12.rd.more (by omega)) (w0_12.rd.more (by omega)) (by have := HRs0.out; unfold szL at this; omega) (by have := HRs0.out; unfold szL at this; omega) (by have := HRs0.out; unfold szL at this; omega) (by have := HRs0.out; unfold szL at this; omega)).mono ?_
      rintro e w14 ⟨rfl, hb11⟩
      rw [show decide (R0 = R0) = true by simp]
      have s_w14 := hb11.size
      have bx1_13 := bx1_12.below hb11 (by first | exact bx1_12.lt | omega)
      clear bx1_12
      have bx1_13_l := bx1_13.lt
      have w0_13 := w0_12.below hb11 (by omega)
      clear w0_12
      have bxx1_13 := bxx1_12.below hb11 (by first | exact bxx1_12.lt | omega)
      clear bxx1_12
      have bxx1_13_l := bxx1_13.lt
      have g0_13 := g0_12.below hb11 (by omega)
      clear g0_12
      have B_w14 := bthen B_w13 hb11
      have q55 : w14.cell? ⟨w.heap.size, 0, none⟩ = some (.int .i64 r.1.1) := bx1_13.cell 0
      have q56 : w14.cell? ⟨w.heap.size, 1, none⟩ = some (.slice A1 r.1.2.length c1) := bx1_13.cell 1
      have q57 : w14.cell? ⟨w.heap.size, 2, none⟩ = some (.slice A1b r.2.length c1b) := bx1_13.cell 2
      have q58 : w14.cell? ⟨w5.heap.size, 0, none⟩ = some (.int .i64 r.1.1) := bxx1_13.cell 0
      have q59 : w14.cell? ⟨w5.heap.size, 1, none⟩ = some (.slice P3 r.1.2.length d3) := bxx1_13.cell 1
      have q60 : w14.cell? ⟨w5.heap.size, 2, none⟩ = some (.slice P3b r.2.length d3b) := bxx1_13.cell 2
      go_wp2_with (fail)
      clear q55 q56 q57 q58 q59 q60
      refine (um_opsr 1 g0_13 (by omega) (by omega) (by have := HRs0.out; omega)).mono ?_
      rintro e w15 ⟨m12, rfl, ma12, mb12, hd12, on12⟩
      have mb12' := HRs0.out
      have s_w15 := on12.size
      have bx1_14 := bx1_13.only on12 (by first | exact .inl (by omega) | exact .inr (by omega) | omega)
      clear bx1_13
      have bx1_14_l := bx1_14.lt
      have w0_14 := w0_13.only on12 (by first | exact .inl (by omega) | exact .inr (by omega) | omega)
      clear w0_13
      have bxx1_14 := bxx1_13.only on12 (by first | exact .inl (by omega) | exact .inr (by omega) | omega)
      clear bxx1_13
      have bxx1_14_l := bxx1_14.lt
      have B_w15 := Only.then_ B_w14 on12 (by omega)
      have mn : ¬ m12 < 0 := by omega
      have me : (m12 != m12) = false := by simp
      have q61 : w15.cell? ⟨w.heap.size, 0, none⟩ = some (.int .i64 r.1.1) := bx1_14.cell 0
      have q62 : w15.cell? ⟨w.heap.size, 1, none⟩ = some (.slice A1 r.1.2.length c1) := bx1_14.cell 1
      have q63 : w15.cell? ⟨w.heap.size, 2, none⟩ = some (.slice A1b r.2.length c1b) := bx1_14.cell 2
      have q64 : w15.cell? ⟨w5.heap.size, 0, none⟩ = some (.int .i64 r.1.1) := bxx1_14.cell 0
      have q65 : w15.cell? ⟨w5.heap.size, 1, none⟩ = some (.slice P3 r.1.2.length d3) := bxx1_14.cell 1
      have q66 : w15.cell? ⟨w5.heap.size, 2, none⟩ = some (.slice P3b r.2.length d3b) := bxx1_14.cell 2
      go_wp2_with (fail)
      clear q61 q62 q63 q64 q65 q66
      refine (uh_opsr hd12 (by omega)).mono ?_
      rintro e w16 ⟨rfl, hb13⟩
      have s_w16 := hb13.size
      have bx1_15 := bx1_14.below hb13 (by first | exact bx1_14.lt | omega)
      clear bx1_14
      have bx1_15_l := bx1_15.lt
      have w0_15 := w0_14.below hb13 (by omega)
      clear w0_14
      have bxx1_15 := bxx1_14.below hb13 (by first | exact bxx1_14.lt | omega)
      clear bxx1_14
      have bxx1_15_l := bxx1_15.lt
      have d0_15 := hd12.below hb13 (by omega)
      clear hd12
      have B_w16 := bthen B_w15 hb13
      have q67 : w16.cell? ⟨w.heap.size, 0, none⟩ = some (.int .i64 r.1.1) := bx1_15.cell 0
      have q68 : w16.cell? ⟨w.heap.size, 1, none⟩ = some (.slice A1 r.1.2.length c1) := bx1_15.cell 1
      have q69 : w16.cell? ⟨w.heap.size, 2, none⟩ = some (.slice A1b r.2.length c1b) := bx1_15.cell 2
      have q70 : w16.cell? ⟨w5.heap.size, 0, none⟩ = some (.int .i64 r.1.1) := bxx1_15.cell 0
      have q71 : w16.cell? ⟨w5.heap.size, 1, none⟩ = some (.slice P3 r.1.2.length d3) := bxx1_15.cell 1
      have q72 : w16.cell? ⟨w5.heap.size, 2, none⟩ = some (.slice P3b r.2.length d3b) := bxx1_15.cell 2
      go_upto_region 30 with fail
      clear q67 q68 q69 q70 q71 q72
      have HS_w16 := Lib.hid (show ∀ W, Below w16.heap.size w16 W → (Below w16.heap.size w16 W ∧ W.cell? ⟨w.heap.size, 0, none⟩ = some (.int .i64 r.1.1) ∧ W.cell? ⟨w.heap.size, 1, none⟩ = some (.slice A1 r.1.2.length c1) ∧ W.cell? ⟨w.heap.size, 2, none⟩ = some (.slice A1b r.2.length c1b) ∧ W.cell? ⟨w5.heap.size, 0, none⟩ = some (.int .i64 r.1.1) ∧ W.cell? ⟨w5.heap.size, 1, none⟩ = some (.slice P3 r.1.2.length d3) ∧ W.cell? ⟨w5.heap.size, 2, none⟩ = some (.slice P3b r.2.length d3b)) from fun W hW => ⟨hW, (bx1_15.below hW bx1_15_l).cell 0, (bx1_15.below hW bx1_15_l).cell 1, (bx1_15.below hW bx1_15_l).cell 2, (bxx1_15.below hW bxx1_15_l).cell 0, (bxx1_15.below hW bxx1_15_l).cell 1, (bxx1_15.below hW bxx1_15_l).cell 2⟩)
      go_cut [13] (fun s0 wx => ∃ (Q_0 : Option Addr) (f_0 : Nat), s0 = .slice Q_0 R0.length f_0 ∧ OwnOps wx w16.heap.size wx.heap.size (.slice Q_0 R0.length f_0) R0 ∧ Below w16.heap.size w16 wx)
      case first =>
        go_region_held3 (fun W => Below w16.heap.size w16 W ∧ W.cell? ⟨w.heap.size, 0, none⟩ = some (.int .i64 r.1.1) ∧ W.cell? ⟨w.heap.size, 1, none⟩ = some (.slice A1 r.1.2.length c1) ∧ W.cell? ⟨w.heap.size, 2, none⟩ = some (.slice A1b r.2.length c1b) ∧ W.cell? ⟨w5.heap.size, 0, none⟩ = some (.int .i64 r.1.1) ∧ W.cell? ⟨w5.heap.size, 1, none⟩ = some (.slice P3 r.1.2.length d3) ∧ W.cell? ⟨w5.heap.size, 2, none⟩ = some (.slice P3b r.2.length d3b))
          (first | exact HS_w16.out _ (Below.refl _ _) | exact HS_w16.out _ (Below.refl _ _).drew | exact HS_w16.out _ (bthen (And.left (by assumption)) (by assumption)))
          (first
            | (go_at_call 24; refine (toIntS_any _ ar _ ?_ (by omega)).mono ?_; exact H0.out.on (bthen B_w16 (And.left (by assumption))); rintro e w_0 ⟨P0, d0, rfl, o0, g0⟩)
            | (go_at_call 29; refine (toRule_own _ r _ ?_ (by omega)).mono ?_; exact H1.out.on (bthen B_w16 (And.left (by assumption))); rintro e w_1 ⟨P1, d1, P1b, d1b, rfl, o1, g1⟩)
            | (go_at_call 11; refine (implPlanOf_any _ _ ar r _ ((o0.rd.on g1)) (o1.rd) (by omega) (by omega)).mono ?_; rw [← HR0.out]; rintro e w_r ⟨Q_0, f_0, rfl, oo_0, hb_r⟩))
        all_goals (go_wp2_with fail; go_meet; exact ⟨_, _, rfl, oo_0.mono (Nat.le_trans g0.size (g1.size)) (Nat.le_refl _), And.left (by assumption)⟩)
      case rest =>
        obtain ⟨Q14_0, f14_0, rfl, o14_0, hb14⟩ := hcut
        clear HS_w16
        generalize wc = w17 at *
        have s_w17 := hb14.size
        have bx1_16 := bx1_15.below hb14 (by first | exact bx1_15.lt | omega)
        clear bx1_15
        have bx1_16_l := bx1_16.lt
        have w0_16 := w0_15.below hb14 (by omega)
        clear w0_15
        have bxx1_16 := bxx1_15.below hb14 (by first | exact bxx1_15.lt | omega)
        clear bxx1_15
        have bxx1_16_l := bxx1_16.lt
        have d0_16 := d0_15.below hb14 (by omega)
        clear d0_15
        have B_w17 := bthen B_w16 hb14
        have q73 : w17.cell? ⟨w.heap.size, 0, none⟩ = some (.int .i64 r.1.1) := bx1_16.cell 0
        have q74 : w17.cell? ⟨w.heap.size, 1, none⟩ = some (.slice A1 r.1.2.length c1) := bx1_16.cell 1
        have q75 : w17.cell? ⟨w.heap.size, 2, none⟩ = some (.slice A1b r.2.length c1b) := bx1_16.cell 2
        have q76 : w17.cell? ⟨w5.heap.size, 0, none⟩ = some (.int .i64 r.1.1) := bxx1_16.cell 0
        have q77 : w17.cell? ⟨w5.heap.size, 1, none⟩ = some (.slice P3 r.1.2.length d3) := bxx1_16.cell 1
        have q78 : w17.cell? ⟨w5.heap.size, 2, none⟩ = some (.slice P3b r.2.length d3b) := bxx1_16.cell 2
        go_wp2_with (fail)
        clear q73 q74 q75 q76 q77 q78
        refine (eqOpS_any _ _ R0 R0 _ (o14_0.rd.more (by omega)) (w0_16.rd.more (by omega)) (by have := HRs0.out; unfold szL at this; omega) (by have := HRs0.out; unfold szL at this; omega) (by have := HRs0.out; unfold szL at this; omega) (by have := HRs0.out; unfold szL at this; omega)).mono ?_
        rintro e w18 ⟨rfl, hb15⟩
        rw [show decide (R0 = R0) = true by simp]
        have s_w18 := hb15.size
        have bx1_17 := bx1_16.below hb15 (by first | exact bx1_16.lt | omega)
        clear bx1_16
        have bx1_17_l := bx1_17.lt
        have w0_17 := w0_16.below hb15 (by omega)
        clear w0_16
        have bxx1_17 := bxx1_16.below hb15 (by first | exact bxx1_16.lt | omega)
        clear bxx1_16
        have bxx1_17_l := bxx1_17.lt
        have d0_17 := d0_16.below hb15 (by omega)
        clear d0_16
        have h0_17 := o14_0.below hb15 (by omega)
        clear o14_0
        have B_w18 := bthen B_w17 hb15
        have q79 : w18.cell? ⟨w.heap.size, 0, none⟩ = some (.int .i64 r.1.1) := bx1_17.cell 0
        have q80 : w18.cell? ⟨w.heap.size, 1, none⟩ = some (.slice A1 r.1.2.length c1) := bx1_17.cell 1
        have q81 : w18.cell? ⟨w.heap.size, 2, none⟩ = some (.slice A1b r.2.length c1b) := bx1_17.cell 2
        have q82 : w18.cell? ⟨w5.heap.size, 0, none⟩ = some (.int .i64 r.1.1) := bxx1_17.cell 0
        have q83 : w18.cell? ⟨w5.heap.size, 1, none⟩ = some (.slice P3 r.1.2.length d3) := bxx1_17.cell 1
        have q84 : w18.cell? ⟨w5.heap.size, 2, none⟩ = some (.slice P3b r.2.length d3b) := bxx1_17.cell 2
        go_wp2_with (fail)
        clear q79 q80 q81 q82 q83 q84
        refine (uh_opsr d0_17 (by omega)).mono ?_
        rintro e w19 ⟨rfl, hb16⟩
        have s_w19 := hb16.size
        have bx1_18 := bx1_17.below hb16 (by first | exact bx1_17.lt | omega)
        clear bx1_17
        have bx1_18_l := bx1_18.lt
        have w0_18 := w0_17.below hb16 (by omega)
        clear w0_17
        have bxx1_18 := bxx1_17.below hb16 (by first | exact bxx1_17.lt | omega)
        clear bxx1_17
        have bxx1_18_l := bxx1_18.lt
        have d0_18 := d0_17.below hb16 (by omega)
        clear d0_17
        have h0_18 := h0_17.below hb16 (by omega)
        clear h0_17
        have B_w19 := bthen B_w18 hb16
        have q85 : w19.cell? ⟨w.heap.size, 0, none⟩ = some (.int .i64 r.1.1) := bx1_18.cell 0
        have q86 : w19.cell? ⟨w.heap.size, 1, none⟩ = some (.slice A1 r.1.2.length c1) := bx1_18.cell 1
        have q87 : w19.cell? ⟨w.heap.size, 2, none⟩ = some (.slice A1b r.2.length c1b) := bx1_18.cell 2
        have q88 : w19.cell? ⟨w5.heap.size, 0, none⟩ = some (.int .i64 r.1.1) := bxx1_18.cell 0
        have q89 : w19.cell? ⟨w5.heap.size, 1, none⟩ = some (.slice P3 r.1.2.length d3) := bxx1_18.cell 1
        have q90 : w19.cell? ⟨w5.heap.size, 2, none⟩ = some (.slice P3b r.2.length d3b) := bxx1_18.cell 2
        go_wp2_with (fail)
        clear q85 q86 q87 q88 q89 q90
        go_ret
        exact ⟨rfl, B_w19⟩

theorem lawPlanOf_in (v0 : Value) (v1 : Value) (ar : List Int) (r : LRule) (w : World) (h0 : InInts w v0 ar) (h1 : InRule w v1 r) : Calls Try.prog 6 #[v0, v1] w fun e w' => e = .returned (.bool true) ∧ Below w.heap.size w w' :=
  lawPlanOf_any v0 v1 ar r w h0.1 h1.1 (ruleLens_in h1.2)

end Go.Proofs.Ytocpfmbieedpgaa
namespace Go.Proofs.Ytocpfmbieedpgaa
open Go.ChangeShapes Go.WideShapes Go.ChangeAt Go.RowKit

set_option maxRecDepth 100000 in
theorem fnExactPlanOf_lifted (os : Os) (started : os.Started) (H : Type) (enc : TypeId × Value → H) :
    ReturnsInHanded {} Try.checked os 6 .any (Rows.fnExactPlanOfSpec.pre6 enc Try.prog Try.f6 Rows.fnExactPlanOfRow.domain false) (Rows.fnExactPlanOfSpec.post enc Try.prog Try.f6 false true false false) := by
  refine returnsInHanded_of_change (C := Try.checked) Try.own started (by kernel_rfl) Try.func6
    (ChangeSpec.witness6 (enc := enc) (C := Try.checked) false ⟨#[], #[.slice none 0 0, .agg #[.int .i64 0, .slice none 0 0, .slice none 0 0]], []⟩ 8 (by kernel_rfl) (by kernel_rfl) (by kernel_rfl) (by kernel_rfl)) ?_
  intro W base args ds gs before hval0 hW hcnd _
  have hval : ∀ (j : Nat) t v, Try.f6.params[j]? = some t → args[j]? = some v → Value.okWide Try.prog W .any base t v := hval0
  have hW' := hW
  obtain ⟨p, q, hA0, hV, rfl, hfz, hnd⟩ := hW
  have hA : DataW.TrodAll enc Try.prog W 0 (fun _ => true) true Try.f6.params.toList args.toList ds p := hA0
  rw [Try.params6] at hA hval
  obtain ⟨v0, vs0, d0, ds0, p0, q0, hargs, rfl, rfl, h0, r0⟩ := trodAll_cons hA
  obtain ⟨v1, vs1, d1, ds1, p1, q1, rfl, rfl, rfl, h1, r1⟩ := trodAll_cons r0
  obtain ⟨rfl, rfl, rfl⟩ := trodAll_nil r1
  obtain rfl : args = #[v0, v1] := by cases args; simp_all
  obtain ⟨rfl, rfl⟩ := trodVars_none hV
  have lt0 : ∀ x ∈ p0, x.block < W.heap.size := by obtain ⟨m, hm⟩ := h0; exact DataW.trod_lt m _ _ _ hm
  obtain ⟨x0, w0⟩ := open_inInts (hval 0 23 v0 rfl rfl) h0
  have lt1 : ∀ x ∈ p1, x.block < W.heap.size := by obtain ⟨m, hm⟩ := h1; exact DataW.trod_lt m _ _ _ hm
  obtain ⟨x1, w1⟩ := open_inRule (hval 1 52 v1 rfl rfl) h1
  clear hA0 hval0
  refine (lawPlanOf_in v0 v1 x0 x1 W w0 w1).mono fun e W' ⟨he, bel⟩ => ?_
  subst he
  exact ⟨_, rfl, _, _, _, [], _, [], hW', trodAll_mk1 (shut_bool Try.underlying4 _), (trodAll_cons_mk (Below.trod Try.laidOut (by kernel_rfl) (of_decide_eq_true (by kernel_rfl)) h0 bel lt0) (trodAll_cons_mk (Below.trod Try.laidOut (by kernel_rfl) (of_decide_eq_true (by kernel_rfl)) h1 bel lt1) trodAll_mk0)), rfl, bel.frame _, fun h => by cases h⟩

theorem fnExactPlanOf_holds : Rows.FnExactPlanOfSaid :=
  OpenClaim.holds_of_wide 6 Try.f6 rfl rfl rfl rfl rfl rfl rfl ⟨rfl, rfl, rfl, rfl, rfl⟩ rfl rfl rfl rfl rfl (by kernel_rfl) Try.func6 (by kernel_rfl)
    (of_decide_eq_true (by kernel_rfl)) (by unfold Func.isWrapper; rw [if_neg (of_decide_eq_false (by kernel_rfl))]; exact ⟨rfl, rfl⟩)
    (fun os started H enc _ => fnExactPlanOf_lifted os started H enc)

end Go.Proofs.Ytocpfmbieedpgaa
