/-
  The law FnExactPlanBy: for every input the call returns true, and each argument reads behind it as it read before. Conditions: none but the row's own.
-/
import Derived.Deep.RegionHeld3
import Derived.Deep.DeepCutAuto
import Derived.Deep.RegionWith
import Derived.Test.YtocpfmbieedpgaaRows
import Derived.Test.YtocpfmbieedpgaaMPb1
import Derived.Test.YtocpfmbieedpgaaMPb2
import Derived.Test.YtocpfmbieedpgaaMPb3
import Derived.Test.YtocpfmbieedpgaaMPb4
/-
  The walks of PlanBy, soonest, soonestOrder, PlanOf of the program.
-/
namespace Go.Proofs.Ytocpfmbieedpgaa
open Go.RowKit

set_option maxHeartbeats 2000000 in
set_option maxRecDepth 100000 in
theorem implPlanBy_any (v v2 v3 : Value) (ar : List Int) (r : LRule) (os : List Int) (w : World) (h : RdInts w w.heap.size v ar) (h2 : RdRule w w.heap.size v2 r) (h3 : RdInts w w.heap.size v3 os) (hr : ar.length ≤ 1048576) (hs : szR r ≤ 1048576) (hl : os.length ≤ 1048576) :
    Calls Try.prog 17 #[v, v2, v3] w fun e w' => ∃ A' c', e = .returned (.tuple #[.slice A' (planByL ar r os).length c', .bool (planByK ar r os)]) ∧ OwnOps w' w.heap.size w'.heap.size (.slice A' (planByL ar r os).length c') (planByL ar r os) ∧ Below w.heap.size w w' := by
  have H := Lib.hid h
  have H2 := Lib.hid h2
  have H3 := Lib.hid h3
  obtain ⟨hd, b⟩ := r
  have hss := hs
  unfold szR at hss
  simp only at hss
  obtain ⟨A, c, rfl, hc, _⟩ := h
  obtain ⟨a1, a2, rfl, h2a, h2b⟩ := h2
  have H2B := Lib.hid h2b
  obtain ⟨A1, c1, rfl, hc1, _⟩ := h2a
  obtain ⟨A2, c2, rfl, hc2, _⟩ := h2b
  obtain ⟨A3, c3, rfl, hc3, _⟩ := h3
  simp only at hc1 hc2
  obtain ⟨w1, hw1⟩ : ∃ w1, w1 = w.alloc (Obj.cells #[Value.int IntKind.i64 hd.1, Value.slice A1 hd.2.length c1, Value.slice A2 b.length c2] 28) := ⟨_, rfl⟩
  have HB1 := Lib.hid (show Below w.heap.size w w1 by rw [hw1]; exact below1 _ _)
  have X1 := Lib.hid (show Blk w1 w.heap.size 28 #[.int .i64 hd.1, .slice A1 hd.2.length c1, .slice A2 b.length c2] by rw [hw1]; exact Blk.new _ _ _)
  have q0 : w1.cell? ⟨w.heap.size, 0, none⟩ = some (.int .i64 hd.1) := X1.out.cell 0
  have q1 : w1.cell? ⟨w.heap.size, 1, none⟩ = some (.slice A1 hd.2.length c1) := X1.out.cell 1
  have q2 : w1.cell? ⟨w.heap.size, 2, none⟩ = some (.slice A2 b.length c2) := X1.out.cell 2
  have CR := Lib.hid (implRuleOk_any (.slice A ar.length c) (.agg #[.int .i64 hd.1, .slice A1 hd.2.length c1, .slice A2 b.length c2]) ar (hd, b) w1 (H.out.on HB1.out) (H2.out.on HB1.out) hr hs)
  obtain ⟨ro, hro⟩ : ∃ ro, ro = ruleOk ar (hd, b) := ⟨_, rfl⟩
  rw [← hro] at CR
  have HRO := Lib.hid hro
  clear hro
  cases ro
  · have HK := Lib.hid (show planByK ar (hd, b) os = false by unfold planByK; rw [← HRO.out]; rfl)
    have HL := Lib.hid (planBy_no HK.out)
    go_enter Try.func17, Try.ntmps17
    go_upto_region 1 with fail
    rw [← hw1]
    clear hw1
    go_wp2_with (go_at_call 14; refine CR.out.mono ?_; rintro e w2 ⟨rfl, b2⟩)
    refine bodyPost_ret (v := .tuple #[.slice none 0 0, .bool false]) (by simp [results, Try.results17, go_sem]) rfl ?_
    refine ⟨none, 0, by rw [HK.out, HL.out]; rfl, ?_, bthen HB1.out b2⟩
    rw [HL.out]
    exact OwnOps.nil
  · obtain ⟨oo, hoo⟩ : ∃ oo, oo = orderOk b os := ⟨_, rfl⟩
    have CF := Lib.hid (fun (W : World) (hW : Below w1.heap.size w1 W) => orderFits_any (.slice A2 b.length c2) (.slice A3 os.length c3) b os W ((H2B.out.on HB1.out).on hW) ((H3.out.on HB1.out).on hW) (by omega) hl)
    rw [← hoo] at CF
    have HOO := Lib.hid hoo
    clear hoo
    cases oo
    · have HK := Lib.hid (show planByK ar (hd, b) os = false by unfold planByK; rw [← HRO.out, ← HOO.out]; rfl)
      have HL := Lib.hid (planBy_no HK.out)
      go_enter Try.func17, Try.ntmps17
      go_upto_region 1 with fail
      rw [← hw1]
      clear hw1
      go_wp2_with (first
        | (go_at_call 14; refine CR.out.mono ?_; rintro e w2 ⟨rfl, b2⟩; have x2 := X1.out.below b2 X1.out.lt; have t2 : w2.cell? ⟨w.heap.size, 2, none⟩ = some (.slice A2 b.length c2) := x2.cell 2)
        | (go_at_call 55; refine (CF.out _ b2).mono ?_; rintro e w3 ⟨rfl, b3⟩))
      refine bodyPost_ret (v := .tuple #[.slice none 0 0, .bool false]) (by simp [results, Try.results17, go_sem]) rfl ?_
      refine ⟨none, 0, by rw [HK.out, HL.out]; rfl, ?_, bthen (bthen HB1.out b2) b3⟩
      rw [HL.out]
      exact OwnOps.nil
    · have HK := Lib.hid (show planByK ar (hd, b) os = true by unfold planByK; rw [← HRO.out, ← HOO.out]; rfl)
      have HL := Lib.hid (planBy_yes HK.out)
      go_enter Try.func17, Try.ntmps17
      go_upto_region 1 with fail
      rw [← hw1]
      clear hw1
      go_upto_region 3 with (first
        | (go_at_call 14; refine CR.out.mono ?_; rintro e w2 ⟨rfl, b2⟩; have x2 := X1.out.below b2 X1.out.lt; have t2 : w2.cell? ⟨w.heap.size, 2, none⟩ = some (.slice A2 b.length c2) := x2.cell 2)
        | (go_at_call 55; refine (CF.out _ b2).mono ?_; rintro e w3 ⟨rfl, b3⟩))
      have x3 := x2.below b3 x2.lt
      have B3 := bthen (bthen HB1.out b2) b3
      have y0 : w3.cell? ⟨w.heap.size, 0, none⟩ = some (.int .i64 hd.1) := x3.cell 0
      have y1 : w3.cell? ⟨w.heap.size, 1, none⟩ = some (.slice A1 hd.2.length c1) := x3.cell 1
      have y2 : w3.cell? ⟨w.heap.size, 2, none⟩ = some (.slice A2 b.length c2) := x3.cell 2
      have CP := Lib.hid (planIn_any (.agg #[.int .i64 hd.1, .slice A1 hd.2.length c1, .slice A2 b.length c2]) (.slice A3 os.length c3) (hd, b) os w3 (H2.out.on B3) (H3.out.on B3) hs (ruleOk_kinds HRO.out.symm) (orderOk_range HOO.out.symm).2 hl)
      clear x2 x3 t2 q0 q1 q2 b3
      go_wp2_with (go_at_call 46; refine CP.out.mono ?_; rintro e w4 ⟨A4, c4, rfl, o4, b4⟩)
      refine bodyPost_ret (v := .tuple #[.slice A4 (planFor (hd, b) os).length c4, .bool true]) (by simp [results, Try.results17, go_sem]) rfl ?_
      refine ⟨A4, c4, by rw [HK.out, HL.out], ?_, bthen B3 b4⟩
      rw [HL.out]
      exact o4.mono B3.size (Nat.le_refl _)

set_option maxHeartbeats 2000000 in
set_option maxRecDepth 100000 in
theorem soonest_any (v v2 : Value) (b : List LLit) (done : List Int) (m : Nat) (w : World) (h : RdLits w w.heap.size v b) (h2 : RdInts w w.heap.size v2 done) (hl : b.length ≤ 1048576) (ht : totL b ≤ 1048576) (hd : done.length ≤ 1048576) (hm : m < 16) :
    Calls Try.prog 91 #[v, v2, .int .u64 (m : Nat)] w fun e w' => e = .returned (.int .i64 (soonL b done m)) ∧ Below w.heap.size w w' := by
  have H := Lib.hid h
  have H2 := Lib.hid h2
  obtain ⟨A, c, rfl, hc, _⟩ := h
  obtain ⟨A2, c2, rfl, hc2, _⟩ := h2
  have HM := Lib.hid hm
  obtain ⟨M, hM⟩ : ∃ M : Int, M = ((m : Nat) : Int) := ⟨_, rfl⟩
  rw [← hM]
  have HMM := Lib.hid hM
  clear hM hm
  go_enter Try.func91, Try.ntmps91
  go_wp2_with (fail)
  go_loopw [7, 8, 9, 12] (fun f _ _ i wr => ∃ (k : Nat) (at_ : Int), k ≤ b.length ∧ i = .int .i64 k ∧ f = .int .i64 at_ ∧ soonFrom b done m k at_ = soonL b done m ∧ Below w.heap.size w wr) (fun _ _ _ i _ => b.length - (intOf i).toNat)
  case atStart => exact ⟨0, -1, Nat.zero_le _, rfl, rfl, rfl, Below.refl _ _⟩
  case round =>
    obtain ⟨k, at_, hk, rfl, rfl, hs, hbe⟩ := hrel
    have HS := Lib.hid hs
    clear hs
    by_cases hlt : k < b.length
    · obtain ⟨b3, o3, u0, u1, u2, rfl, hbB3, k0, k1, k2, rfl, rfl, p3⟩ := H.out.get hlt
      have HA3 := Lib.hid p3
      obtain ⟨A4, c4, rfl, hc4, _⟩ := p3
      have k0 := (hbe.cell (p := ⟨b3, o3 + k * 3, none⟩) hbB3).trans k0
      have k1 := (hbe.cell (p := ⟨b3, o3 + k * 3 + 1, none⟩) hbB3).trans k1
      have k2 := (hbe.cell (p := ⟨b3, o3 + k * 3 + 2, none⟩) hbB3).trans k2
      have hle := len_le_totL b k hlt
      obtain ⟨w4, hw4⟩ : ∃ w4, w4 = wr.alloc (Obj.cells #[.int .i64 b[k].1, .int .i64 b[k].2.1, .slice A4 b[k].2.2.length c4] 81) := ⟨_, rfl⟩
      have B4 : Below w.heap.size w w4 := by rw [hw4]; exact bthen hbe (below1 _ _)
      have x4 : Blk w4 wr.heap.size 81 #[.int .i64 b[k].1, .int .i64 b[k].2.1, .slice A4 b[k].2.2.length c4] := by rw [hw4]; exact Blk.new _ _ _
      have CC := Lib.hid (containsI_any (.slice A2 done.length c2) done (k : Int) _ w4 (H2.out.on B4) hd)
      have CK := Lib.hid (areKnown_any (.slice A4 b[k].2.2.length c4) b[k].2.2 m _ w4 (HA3.out.on B4) (by omega) HM.out)
      rw [← HMM.out] at CK
      obtain ⟨cc, hcc⟩ : ∃ cc, cc = done.contains (k : Int) := ⟨_, rfl⟩
      obtain ⟨op, hop⟩ : ∃ op, op = openB b[k].2.2 m := ⟨_, rfl⟩
      rw [← hcc] at CC
      rw [← hop] at CK
      have HCC := Lib.hid hcc
      have HOP := Lib.hid hop
      clear hcc hop
      go_upto_region 5 with fail
      rw [← hw4]
      clear hw4 k0 k1 k2
      have t0 : w4.cell? ⟨wr.heap.size, 0, none⟩ = some (.int .i64 b[k].1) := x4.cell 0
      have t1 : w4.cell? ⟨wr.heap.size, 1, none⟩ = some (.int .i64 b[k].2.1) := x4.cell 1
      have t2 : w4.cell? ⟨wr.heap.size, 2, none⟩ = some (.slice A4 b[k].2.2.length c4) := x4.cell 2
      cases cc
      · cases op
        · have HE := Lib.hid (show soonL b done m = (k : Int) by rw [← HS.out]; exact soonFrom_here hlt HCC.out.symm HOP.out.symm)
          go_wp2_with (first | (go_at_call 99; refine CC.out.mono ?_; rintro e w5 ⟨rfl, rfl⟩) | (go_at_call 57; refine CK.out.mono ?_; rintro e w6 ⟨rfl, rfl⟩))
          go_ret
          exact ⟨ret_int HE.out.symm, B4⟩
        · have HN := Lib.hid (soonFrom_on (at_ := at_) hlt HCC.out.symm HOP.out.symm)
          by_cases h0 : at_ < 0
          · have hd0 : decide (at_ < 0) = true := by simpa using h0
            by_cases h1 : b[k].1 = 0
            · have e1 : (b[k].1 == 0) = true := by rw [beq_iff_eq]; exact h1
              have HN2 := Lib.hid (show soonFrom b done m (k + 1) (k : Int) = soonL b done m by rw [← HS.out, HN.out, if_pos ⟨h0, h1⟩])
              clear h0 h1
              go_wp2_with (first | (go_at_call 99; refine CC.out.mono ?_; rintro e w5 ⟨rfl, rfl⟩) | (go_at_call 57; refine CK.out.mono ?_; rintro e w6 ⟨rfl, rfl⟩))
              go_roundw
              case rel => exact ⟨k + 1, _, by omega, by go_num, rfl, HN2.out, B4⟩
              case measure => simp [intOf]; omega
            · have e1 : (b[k].1 == 0) = false := by rw [beq_eq_false_iff_ne]; exact h1
              have HN2 := Lib.hid (show soonFrom b done m (k + 1) at_ = soonL b done m by rw [← HS.out, HN.out, if_neg (fun hh => h1 hh.2)])
              clear h0 h1
              go_wp2_with (first | (go_at_call 99; refine CC.out.mono ?_; rintro e w5 ⟨rfl, rfl⟩) | (go_at_call 57; refine CK.out.mono ?_; rintro e w6 ⟨rfl, rfl⟩))
              go_roundw
              case rel => exact ⟨k + 1, _, by omega, by go_num, rfl, HN2.out, B4⟩
              case measure => simp [intOf]; omega
          · have hd0 : decide (at_ < 0) = false := by simp; omega
            have HN2 := Lib.hid (show soonFrom b done m (k + 1) at_ = soonL b done m by rw [← HS.out, HN.out, if_neg (fun hh => h0 hh.1)])
            clear h0
            go_wp2_with (first | (go_at_call 99; refine CC.out.mono ?_; rintro e w5 ⟨rfl, rfl⟩) | (go_at_call 57; refine CK.out.mono ?_; rintro e w6 ⟨rfl, rfl⟩))
            go_roundw
            case rel => exact ⟨k + 1, _, by omega, by go_num, rfl, HN2.out, B4⟩
            case measure => simp [intOf]; omega
      · have HN2 := Lib.hid (show soonFrom b done m (k + 1) at_ = soonL b done m by rw [← HS.out, soonFrom_done hlt HCC.out.symm])
        go_wp2_with (go_at_call 99; refine CC.out.mono ?_; rintro e w5 ⟨rfl, rfl⟩)
        go_roundw
        case rel => exact ⟨k + 1, _, by omega, by go_num, rfl, HN2.out, B4⟩
        case measure => simp [intOf]; omega
    · have HE := Lib.hid (show soonL b done m = at_ by rw [← HS.out, soonFrom_end hlt])
      go_wp2_with (fail)
      go_ret
      exact ⟨ret_int HE.out.symm, hbe⟩

set_option maxHeartbeats 2000000 in
set_option maxRecDepth 100000 in
theorem soonestOrder_any (v : Value) (r : LRule) (w : World) (hr : ruleSafe r = true) (h : RdLits w w.heap.size v r.2) (hs : szR r ≤ 1048576) :
    Calls Try.prog 47 #[v] w fun e w' => ∃ A' c', e = .returned (.slice A' (soonOrd r.2 r.2.length).length c') ∧ OwnInts w' w.heap.size w'.heap.size (.slice A' (soonOrd r.2 r.2.length).length c') (soonOrd r.2 r.2.length) ∧ Below w.heap.size w w' := by
  obtain ⟨i0, hi0, hz0, hz1, hz2⟩ := info_parts Try.infoInt
  have HR := Lib.hid hr
  obtain ⟨hd, b⟩ := r
  unfold szR at hs
  simp only at hs h HR
  have hmk := fun W => run_make_rowN (P := Try.prog) 23 3 i0 (.int .i64 0) Try.underlying23 hi0 hz0 .i64 .i64 0 b.length (Nat.zero_le _) (by rw [hz2]; omega) (by omega) W
  rw [hz1] at hmk
  simp only [Value.cells, Nat.mul_one] at hmk
  rw [show ((0 : Nat) : Int) = 0 from rfl] at hmk
  have H := Lib.hid h
  obtain ⟨A, c, rfl, hc, _⟩ := h
  clear hr
  obtain ⟨w1, hw1⟩ : ∃ w1, w1 = w.alloc (Obj.cells (madeCells #[Value.int IntKind.i64 0] b.length) 3) := ⟨_, rfl⟩
  have HB1 := Lib.hid (show Below w.heap.size w w1 by rw [hw1]; exact below1 _ _)
  have HO1 := Lib.hid (show OwnInts w1 w.heap.size w1.heap.size (.slice (some ⟨w.heap.size, 0, none⟩) 0 b.length) [] by
    rw [hw1]
    exact ⟨World.ownsRow_made w _ b.length (Nat.le_refl _) (by unfold maxLen; omega) (by simp [madeCells]), fun g hg => by simp [Value.ownBlock] at hg; subst hg; simp⟩)
  go_enter Try.func47, Try.ntmps47
  go_upto_region 2 with fail
  rw [← hw1]
  clear hw1 hmk
  go_wp2_with fail
  go_loopw [3, 4, 5, 11] (fun p m _ i wr => ∃ (k : Nat) (A' : Option Addr) (c' : Nat), k ≤ b.length ∧ i = .int .i64 k ∧ m = .int .u64 ((ordMask b (soonOrd b k) : Nat) : Int) ∧ p = .slice A' k c' ∧ OwnInts wr w.heap.size wr.heap.size (.slice A' k c') (soonOrd b k) ∧ Below w.heap.size w wr) (fun _ _ _ i _ => b.length - (intOf i).toNat)
  case atStart => exact ⟨0, _, _, Nat.zero_le _, rfl, rfl, rfl, HO1.out, HB1.out⟩
  case round =>
    obtain ⟨k, A', c', hk, rfl, rfl, rfl, ho, hbe⟩ := hrel
    have HO := Lib.hid ho
    have HL := Lib.hid (soonOrd_len b k)
    clear ho
    by_cases hlt : k < b.length
    · obtain ⟨n, hn, hnl⟩ := soon_range (r := (hd, b)) HR.out hlt
      simp only at hn hnl
      have HN := Lib.hid hn
      have hnx : soonOrd b k ++ [(n : Int)] = soonOrd b (k + 1) := by rw [← hn]; rfl
      have hom : ordMask b (soonOrd b (k + 1)) = ordMask b (soonOrd b k) ||| maskOf b[n].2.2 := by rw [← hnx, ordMask_snoc, litAt_get rfl hnl]
      have HM := Lib.hid (And.intro (ordMask_lt b (soonOrd b k)) (And.intro hom hnx))
      have hrdQ : RdInts wr wr.heap.size (.slice A' k c') (soonOrd b k) := HO.out.rd
      have CS := Lib.hid (soonest_any (.slice A b.length c) (.slice A' k c') b (soonOrd b k) (ordMask b (soonOrd b k)) wr (H.out.on hbe) hrdQ (by omega) (by omega) (by rw [HL.out]; omega) HM.out.1)
      rw [hn] at CS
      obtain ⟨b3, o3, u0, u1, u2, rfl, hbB3, k0, k1, k2, rfl, rfl, p3⟩ := H.out.get hnl
      have HA3 := Lib.hid p3
      obtain ⟨A4, c4, rfl, hc4, _⟩ := p3
      have hle := len_le_totL b n hnl
      have hn0 : (0 : Int) ≤ (n : Int) := by omega
      have hn1 : (n : Int) < (b.length : Int) := by omega
      obtain ⟨Q, hQ⟩ : ∃ Q, Q = soonOrd b k := ⟨_, rfl⟩
      have HQ := Lib.hid hQ
      have HQL := Lib.hid (show Q.length = k by rw [hQ]; exact HL.out)
      rw [← hQ] at HO
      clear hn hnx hom hrdQ hQ
      go_upto_region 6 with (go_at_call 91; refine CS.out.mono ?_; rintro e w3 ⟨rfl, b3'⟩)
      have HO3 := Lib.hid (show OwnInts w3 w.heap.size w3.heap.size (.slice A' k c') Q from (HO.out.below b3' (Nat.le_refl _)).mono (Nat.le_refl _) b3'.size)
      have B3 := bthen hbe b3'
      clear b3'
      go_upto_region 7 with (at_builtin; refine wpList_append_lies _ rfl (.tmp 17) (.tmp 19) 23 rfl w.heap.size 3 i0 (.int .i64 0) 1 8 Try.underlying23 hi0 hz0 hz1 hz2 rfl (by decide) (.slice A' k c') k (Q.map (Value.int .i64)) rfl ?c1 ⟨w3.heap.size, 0, none⟩ 1 1 [.int .i64 (n : Int)] rfl rfl (news1o _ _ _) ?c2 (by omega) (by unfold maxLen; omega) (by omega) ?c3 _ rfl ?_)
      case c1 => have h0 := HO3.out.1; rw [HQL.out] at h0; exact h0.alloc _
      case c2 => intro u hu; simp at hu; subst hu; rfl
      case c3 => have := B3.size; simp; omega
      intro g2 cap w5 hown hg hat _
      have B5 := Lib.hid (show Below w.heap.size w w5 from (B3.alloc B3.size _).grown hg (by have := B3.size; simp; omega) (fun q hq => by have h0 := HO3.out.1; rw [HQL.out] at h0; exact (h0.lt q hq).1))
      have HO5 := Lib.hid (show OwnInts w5 w.heap.size w5.heap.size (.slice (some ⟨g2, 0, none⟩) (k + 1) cap) (soonOrd b (k + 1)) from by
        rw [← HM.out.2.2, ← HQ.out]
        refine ⟨?_, fun q hq => (hown.lt q hq).2⟩
        rw [List.map_append, List.length_append, List.length_singleton, HQL.out]
        exact hown)
      have n0 := (B5.out.cell (p := ⟨b3, o3 + n * 3, none⟩) hbB3).trans k0
      have n1 := (B5.out.cell (p := ⟨b3, o3 + n * 3 + 1, none⟩) hbB3).trans k1
      have n2 := (B5.out.cell (p := ⟨b3, o3 + n * 3 + 2, none⟩) hbB3).trans k2
      have CV := Lib.hid (argVars_any (.slice A4 b[n].2.2.length c4) b[n].2.2 _ w5 (HA3.out.on B5.out) (by omega))
      have HW := Lib.hid (show bits .or .u64 ((ordMask b (soonOrd b k) : Nat) : Int) ((maskOf b[n].2.2 : Nat) : Int) = ((ordMask b (soonOrd b (k + 1)) : Nat) : Int) by rw [or_word HM.out.1 (maskOf_lt _), HM.out.2.1])
      clear hown hg hat k0 k1 k2
      go_wp2_with (go_at_call 58; refine CV.out.mono ?_; rintro e w6 ⟨rfl, rfl⟩)
      go_roundw
      case rel => exact ⟨k + 1, _, _, by omega, by go_num, by rw [← HW.out], rfl, HO5.out, B5.out⟩
      case measure => simp [intOf]; omega
    · obtain rfl : k = b.length := by omega
      go_wp2_with fail
      go_ret
      refine ⟨A', c', by rw [HL.out]; rfl, ?_, hbe⟩
      rw [HL.out]
      exact HO.out

set_option maxHeartbeats 2000000 in
set_option maxRecDepth 100000 in
theorem implPlanOf_any (v v2 : Value) (ar : List Int) (r : LRule) (w : World) (h : RdInts w w.heap.size v ar) (h2 : RdRule w w.heap.size v2 r) (hr : ar.length ≤ 1048576) (hs : szR r ≤ 1048576) :
    Calls Try.prog 11 #[v, v2] w fun e w' => ∃ A' c', e = .returned (.slice A' (planOfL ar r).length c') ∧ OwnOps w' w.heap.size w'.heap.size (.slice A' (planOfL ar r).length c') (planOfL ar r) ∧ Below w.heap.size w w' := by
  have H := Lib.hid h
  have H2 := Lib.hid h2
  obtain ⟨hd, b⟩ := r
  have hss := hs
  unfold szR at hss
  simp only at hss
  obtain ⟨A, c, rfl, hc, _⟩ := h
  obtain ⟨a1, a2, rfl, h2a, h2b⟩ := h2
  have H2B := Lib.hid h2b
  obtain ⟨A1, c1, rfl, hc1, _⟩ := h2a
  obtain ⟨A2, c2, rfl, hc2, _⟩ := h2b
  simp only at hc1 hc2
  obtain ⟨w1, hw1⟩ : ∃ w1, w1 = w.alloc (Obj.cells #[Value.int IntKind.i64 hd.1, Value.slice A1 hd.2.length c1, Value.slice A2 b.length c2] 28) := ⟨_, rfl⟩
  have HB1 := Lib.hid (show Below w.heap.size w w1 by rw [hw1]; exact below1 _ _)
  have X1 := Lib.hid (show Blk w1 w.heap.size 28 #[.int .i64 hd.1, .slice A1 hd.2.length c1, .slice A2 b.length c2] by rw [hw1]; exact Blk.new _ _ _)
  have q0 : w1.cell? ⟨w.heap.size, 0, none⟩ = some (.int .i64 hd.1) := X1.out.cell 0
  have q1 : w1.cell? ⟨w.heap.size, 1, none⟩ = some (.slice A1 hd.2.length c1) := X1.out.cell 1
  have q2 : w1.cell? ⟨w.heap.size, 2, none⟩ = some (.slice A2 b.length c2) := X1.out.cell 2
  have CR := Lib.hid (implRuleOk_any (.slice A ar.length c) (.agg #[.int .i64 hd.1, .slice A1 hd.2.length c1, .slice A2 b.length c2]) ar (hd, b) w1 (H.out.on HB1.out) (H2.out.on HB1.out) hr hs)
  obtain ⟨ro, hro⟩ : ∃ ro, ro = ruleOk ar (hd, b) := ⟨_, rfl⟩
  rw [← hro] at CR
  have HRO := Lib.hid hro
  clear hro
  cases ro
  · have HL := Lib.hid (show planOfL ar (hd, b) = [] by unfold planOfL; rw [← HRO.out]; rfl)
    go_enter Try.func11, Try.ntmps11
    go_upto_region 1 with fail
    rw [← hw1]
    clear hw1
    go_wp2_with (go_at_call 14; refine CR.out.mono ?_; rintro e w2 ⟨rfl, b2⟩)
    go_ret
    refine ⟨none, 0, by rw [HL.out]; rfl, ?_, bthen HB1.out b2⟩
    rw [HL.out]
    exact OwnOps.nil
  · have HL := Lib.hid (show planOfL ar (hd, b) = planFor (hd, b) (soonOrd b b.length) by unfold planOfL; rw [← HRO.out]; rfl)
    have hsafe := ruleOk_safe HRO.out.symm
    have HSF := Lib.hid hsafe
    have HOK := Lib.hid (show ∀ i ∈ soonOrd b b.length, 0 ≤ i ∧ i < (b.length : Int) from (orderOk_range (soonOrd_order (r := (hd, b)) hsafe.1)).2)
    clear hsafe
    go_enter Try.func11, Try.ntmps11
    go_upto_region 1 with fail
    rw [← hw1]
    clear hw1
    go_upto_region 3 with (go_at_call 14; refine CR.out.mono ?_; rintro e w2 ⟨rfl, b2⟩)
    have x2 := X1.out.below b2 X1.out.lt
    have B2 := Lib.hid (bthen HB1.out b2)
    have X2 := Lib.hid x2
    obtain ⟨SS, hSS⟩ : ∃ SS : World → Prop, SS = (fun W => W.cell? ⟨w.heap.size, 0, none⟩ = some (.int .i64 hd.1) ∧ W.cell? ⟨w.heap.size, 1, none⟩ = some (.slice A1 hd.2.length c1) ∧ W.cell? ⟨w.heap.size, 2, none⟩ = some (.slice A2 b.length c2)) := ⟨_, rfl⟩
    have HB := Lib.hid (show ∀ W, SS W → (W.cell? ⟨w.heap.size, 0, none⟩ = some (.int .i64 hd.1) ∧ W.cell? ⟨w.heap.size, 1, none⟩ = some (.slice A1 hd.2.length c1) ∧ W.cell? ⟨w.heap.size, 2, none⟩ = some (.slice A2 b.length c2)) from by rw [hSS]; exact fun W hW => hW)
    have HS := Lib.hid (show ∀ W, Below w2.heap.size w2 W → SS W from by
      rw [hSS]
      exact fun W hW => ⟨(X2.out.below hW X2.out.lt).cell 0, (X2.out.below hW X2.out.lt).cell 1, (X2.out.below hW X2.out.lt).cell 2⟩)
    clear hSS x2 b2 q0 q1 q2
    refine wp_region_rel SS 4 6 (by kernel_rfl) rfl ?_
    obtain ⟨wy, hwy⟩ : ∃ wy, wy = w2.drew := ⟨_, rfl⟩
    have BY : Below w2.heap.size w2 wy := by rw [hwy]; exact (Below.refl _ _).drew
    rw [← hwy]
    clear hwy
    have S0 := HS.out _ BY
    refine wpAnyR_take (i := 0) (oi := _) ?va0 rfl rfl (by kernel_rfl) (fun _ _ _ h => h) rfl ?hya0 S0 ?resta0
    case hya0 => (intro W hW; obtain ⟨d0, d1, d2⟩ := HB.out W hW; go_simp; (try with_reducible rfl))
    try simp only [List.setIfInBounds_toArray, List.set_cons_zero, List.set_cons_succ]
    refine wpAnyR_pure (i := 1) (oi := _) ?va1 rfl rfl (by kernel_rfl) (by decide) (fun _ _ _ h => h) rfl ?hya1 (fun _ => S0) ?resta1
    case hya1 => (intro W; go_simp; (try with_reducible rfl))
    try simp only [List.setIfInBounds_toArray, List.set_cons_zero, List.set_cons_succ]
    refine wpAnyR_take (i := 2) (oi := _) ?va2 rfl rfl (by kernel_rfl) (fun _ _ _ h => h) rfl ?hya2 S0 ?resta2
    case hya2 => (intro W hW; obtain ⟨d0, d1, d2⟩ := HB.out W hW; go_simp; (try with_reducible rfl))
    try simp only [List.setIfInBounds_toArray, List.set_cons_zero, List.set_cons_succ]
    refine wpAnyR_one (i := 3) (by kernel_rfl) rfl (fun K hK => ?_)
    try rw [if_pos (show Region.wanted _ _ = true from rfl)]
    go_simp
    refine (soonestOrder_any (.slice A2 b.length c2) (hd, b) wy HSF.out.1 ((H2B.out.on B2.out).on BY) hs).mono ?_
    rintro e w3 ⟨A3, c3, rfl, o3, b3⟩
    have O3 := Lib.hid o3
    have B3 := Lib.hid (bthen (bthen B2.out BY) b3)
    have S3 := HS.out _ (bthen BY b3)
    refine hK.out _ _ (fun _ => S3) ?_
    clear hK K o3
    refine wpAnyR_one (i := 4) (by kernel_rfl) rfl (fun K hK => ?_)
    try rw [if_pos (show Region.wanted _ _ = true from rfl)]
    go_simp
    refine (planIn_any (.agg #[.int .i64 hd.1, .slice A1 hd.2.length c1, .slice A2 b.length c2]) (.slice A3 (soonOrd b b.length).length c3) (hd, b) (soonOrd b b.length) w3 (H2.out.on B3.out) O3.out.rd hs (ruleOk_kinds HRO.out.symm) HOK.out (by rw [soonOrd_len]; omega)).mono ?_
    rintro e w4 ⟨A4, c4, rfl, o4, b4⟩
    have O4 := Lib.hid (o4.mono B3.out.size (Nat.le_refl _))
    have B4 := Lib.hid (bthen B3.out b4)
    refine hK.out _ _ (fun hf => absurd hf (by decide)) ?_
    clear hK K o4
    refine wpAnyR_one (i := 5) (by kernel_rfl) rfl (fun K hK => ?_)
    go_simp
    refine hK.out _ _ (fun hf => absurd hf (by decide)) ?_
    clear hK K
    refine wpAnyR_done (by kernel_rfl) ?_
    go_wp2_with fail
    go_ret
    refine ⟨A4, c4, by rw [HL.out]; rfl, ?_, B4.out⟩
    rw [HL.out]
    exact O4.out

end Go.Proofs.Ytocpfmbieedpgaa
/-
  Sizes and marks of operations that come in, in the one form that the laws' walks ask.
-/
namespace Go.Proofs.Ytocpfmbieedpgaa
open Go.RowKit

theorem us_ops {v : Value} {ls : List LLit} {left : Int} {w : World} (h : RdLits w w.heap.size v ls) (h0 : 0 ≤ left) (hl : left ≤ 1048576) (hn : ls.length ≤ maxLen) (hm : ∀ k (h : k < ls.length), ls[k].2.2.length ≤ maxLen) :
    Calls Try.prog 22 #[v, .int .i64 left] w fun e w' => ∃ z, e = .returned (.int .i64 z) ∧ (z = -1 ∨ (0 ≤ z ∧ z + szL ls = left)) ∧ Below w.heap.size w w' :=
  (szOpS_any v ls left w h h0 hl (by unfold maxLen at hn; omega) (fun k hk => by have := hm k hk; unfold maxLen at this; omega)).mono fun _ _ ⟨r, he, hr, hb⟩ => ⟨r, he, hr.imp id fun ⟨a, b⟩ => ⟨a, by unfold szL; omega⟩, hb⟩

set_option maxHeartbeats 1000000 in
set_option maxRecDepth 100000 in
theorem wmarkOpS_any (v : Value) (ls : List LLit) (k : Int) (lo hi : Nat) (w : World) (h : WrLits w lo hi v ls) (hk0 : 0 ≤ k) (hk : k ≤ 4294967296) (hn : ls.length ≤ 1073741824) (ht : totL ls ≤ 1073741824) :
    Calls Try.prog 33 #[v, .int .i64 k] w fun e w' => e = .returned (.int .i64 (endL k ls)) ∧ Marked lo hi w w' := by
  have H := Lib.hid h
  obtain ⟨A, c, rfl, _⟩ := h
  go_enter Try.func33, Try.ntmps33
  go_wp2_with (fail)
  go_loopw [1, 5] (fun m i wr => ∃ (j : Nat) (q : Int), j ≤ ls.length ∧ i = .int .i64 j ∧ m = .int .i64 q ∧ q = k + 2 * (j : Int) + (totL (ls.take j) : Int) ∧ Marked lo hi w wr) (fun _ i _ => ls.length - (intOf i).toNat)
  case atStart => exact ⟨0, k, Nat.zero_le _, rfl, rfl, by simp [totL], Marked.refl _ _ _⟩
  case round =>
    obtain ⟨j, q, hj, rfl, rfl, hq, hm⟩ := hrel
    by_cases hlt : j < ls.length
    · obtain ⟨A', c', e, _, hx⟩ := H.out.marked hm
      injection e with e1 _ e3
      subst e1
      subst e3
      obtain ⟨b, o, rfl, h1, h2, hx⟩ := hx (by omega)
      obtain ⟨⟨f0, f1⟩, u0, u1, u2, c0, c1, c2, ⟨x, rfl⟩, ⟨y, rfl⟩, hI⟩ := hx j hlt
      have m0 := Marked.store (p := ⟨b, o + j * 3, none⟩) ⟨h1, h2⟩ c0 q
      obtain ⟨y', c1'⟩ := m0.int c1
      have f1' := (m0.frozen ⟨b, o + j * 3 + 1, none⟩ (World.block_lt_of_cell? _ _ c1)).trans f1
      have m1 := Marked.store (p := ⟨b, o + j * 3 + 1, none⟩) ⟨h1, h2⟩ c1' (q + 1)
      have hI2 := hI.marked (m0.trans m1)
      obtain ⟨A3, c3, rfl, _⟩ := hI
      have c2' := (m0.trans m1).slice c2
      have htk := totL_take ls j hlt
      have hle := sum_at (fun l : LLit => l.2.2.length) ls j hlt
      have htl : totL (ls.take j) ≤ totL ls := by
        have := congrArg (fun l => (l.map (fun l : LLit => l.2.2.length)).sum) (List.take_append_drop j ls)
        simp only [List.map_append, List.sum_append] at this
        unfold totL
        omega
      have hle2 : ls[j].2.2.length ≤ totL ls := hle
      clear hle
      have hq0 : 0 ≤ q := by omega
      have hq1 : q ≤ 8589934592 := by omega
      have HI := Lib.hid hI2
      have HM := Lib.hid (hm.trans (m0.trans m1))
      have HQ := Lib.hid (show q + 1 + 1 + (ls[j].2.2.length : Int) = k + 2 * ((j + 1 : Nat) : Int) + (totL (ls.take (j + 1)) : Int) by rw [htk]; omega)
      clear hx m0 m1 hI2 htk htl hq
      go_wp2_with (fail)
      refine (wmarkIntS_any _ _ (q + 1 + 1) lo hi _ HI.out (by omega) (by omega)).mono ?_
      rintro e w3 ⟨rfl, hm3⟩
      have HM3 := Lib.hid (HM.out.trans hm3)
      go_wp2_with (fail)
      go_roundw
      case rel => exact ⟨j + 1, _, by omega, by go_num, rfl, HQ.out, HM3.out⟩
      case measure => simp [intOf]; omega
    · have hkn : j = ls.length := by omega
      have HK := Lib.hid (show q = endL k ls by rw [hq, hkn, List.take_length]; rfl)
      clear hkn hq
      go_wp2_with (fail)
      go_ret
      exact ⟨ret_int HK.out, hm⟩

theorem um_ops {v : Value} {ls : List LLit} {lo hi : Nat} {w : World} (k : Int) (h : OwnLits w lo hi v ls) (hk0 : 0 ≤ k) (hk : k ≤ 4294967296) (hs : szL ls ≤ 1073741824) :
    Calls Try.prog 33 #[v, .int .i64 k] w fun e w' => ∃ z, e = .returned (.int .i64 z) ∧ k ≤ z ∧ z ≤ k + 2 * szL ls ∧ True ∧ Only lo hi w w' :=
  (wmarkOpS_any v ls k lo hi w h.wr hk0 hk (by unfold szL at hs; omega) (by unfold szL at hs; omega)).mono fun _ _ ⟨he, hm⟩ =>
    ⟨_, he, by unfold endL; omega, by unfold endL szL; omega, trivial, hm.only⟩

end Go.Proofs.Ytocpfmbieedpgaa
/-
  Marks on rows of operations that are results, read again, in the form that the laws' walks ask.
-/
namespace Go.Proofs.Ytocpfmbieedpgaa
open Go.RowKit

set_option maxHeartbeats 1000000 in
set_option maxRecDepth 100000 in
theorem lmarkOpS_any (v : Value) (ls : List LLit) (ps : List Addr) (k : Int) (lo hi : Nat) (w : World) (h : LvLits w lo hi v ls ps) (hnd : ps.Nodup) (hk0 : 0 ≤ k) (hk : k ≤ 4294967296) (hn : ps.length ≤ 1073741824) :
    Calls Try.prog 33 #[v, .int .i64 k] w fun e w' => e = .returned (.int .i64 (k + ps.length)) ∧ SeqAt lo hi k ps w w' := by
  have H := Lib.hid h
  have HND := Lib.hid hnd
  clear hnd
  obtain ⟨A, c, rfl, hc, h0, h⟩ := h
  have hcap : ls.length ≤ 9223372036854775807 := by
    rcases Nat.eq_zero_or_pos ls.length with e | hp
    · omega
    · obtain ⟨b, o, qs, rfl, h1, h2, rfl, hx⟩ := h hp
      have : ∀ j, j ≤ ls.length → j ≤ (preL (litEl b o qs) j).length := by
        intro j
        induction j with
        | zero => intro _; omega
        | succ j ih =>
          intro hj
          have := ih (by omega)
          rw [preL_succ, List.length_append]
          simp [litEl]
          omega
      have := this ls.length (Nat.le_refl _)
      omega
  rcases Nat.eq_zero_or_pos ls.length with hz | hp
  · have hps := h0 hz
    subst hps
    have HZ := Lib.hid hz
    have hz' : ¬ (0 : Int) < (ls.length : Int) := by omega
    clear hz h h0
    go_enter Try.func33, Try.ntmps33
    go_wp2_with (fail)
    go_loopw [1, 5] (fun m i wr => i = .int .i64 0 ∧ m = .int .i64 k ∧ wr = w) (fun _ i _ => 0)
    case atStart => exact ⟨rfl, rfl, rfl⟩
    case round =>
      obtain ⟨rfl, rfl, rfl⟩ := hrel
      go_wp2_with (fail)
      go_ret
      exact ⟨ret_int (by simp), SeqAt.below (Below.refl _ _)⟩
  · obtain ⟨b, o, qs, rfl, h1, h2, rfl, hx⟩ := h hp
    have HX := Lib.hid hx
    clear hx h
    go_enter Try.func33, Try.ntmps33
    go_wp2_with (fail)
    go_loopw [1, 5] (fun m i wr => ∃ (j : Nat) (q : Int), j ≤ ls.length ∧ i = .int .i64 j ∧ m = .int .i64 q ∧ q = k + ((preL (litEl b o qs) j).length : Int) ∧ SeqAt lo hi k (preL (litEl b o qs) j) w wr) (fun _ i _ => ls.length - (intOf i).toNat)
    case atStart => exact ⟨0, k, Nat.zero_le _, rfl, rfl, by simp [preL_zero], SeqAt.below (Below.refl _ _)⟩
    case round =>
      obtain ⟨j, q, hj, rfl, rfl, hq, hs⟩ := hrel
      by_cases hlt : j < ls.length
      · obtain ⟨⟨f0, f1⟩, x, y, u2, c0, c1, c2, hI⟩ := HX.out j hlt
        have hlen := litEl_len (b := b) (o := o) hI
        have hpl : (preL (litEl b o qs) (j + 1)).length ≤ (preL (litEl b o qs) ls.length).length := preL_length_le hlt
        rw [preL_succ, List.length_append, hlen] at hpl
        obtain ⟨x', d0⟩ := hs.marked.int c0
        obtain ⟨y', d1⟩ := hs.marked.int c1
        have hI2 := hI.marked hs.marked
        have g0 : wr.frozen? ⟨b, o + j * 3, none⟩ = false := (hs.marked.frozen _ (World.block_lt_of_cell? _ _ c0)).trans f0
        have g1 : wr.frozen? ⟨b, o + j * 3 + 1, none⟩ = false := (hs.marked.frozen _ (World.block_lt_of_cell? _ _ c1)).trans f1
        obtain ⟨A3, c3, rfl, hcc3, hl3, _⟩ := hI
        have d2 := hs.marked.slice c2
        have m0 := SeqAt.store (lo := lo) (hi := hi) (p := ⟨b, o + j * 3, none⟩) ⟨h1, h2⟩ d0 q
        obtain ⟨y2, e1⟩ := m0.marked.int d1
        have e2 := m0.marked.slice d2
        have k1 : (wr.setCell ⟨b, o + j * 3, none⟩ (.int .i64 q)).frozen? ⟨b, o + j * 3 + 1, none⟩ = false := (m0.marked.frozen _ (World.block_lt_of_cell? _ _ d1)).trans g1
        have m1 := SeqAt.store (lo := lo) (hi := hi) (p := ⟨b, o + j * 3 + 1, none⟩) ⟨h1, h2⟩ e1 (q + 1)
        have e3 := m1.marked.slice e2
        have hI3 := (hI2.marked m0.marked).marked m1.marked
        have HI := Lib.hid hI3
        have HS := Lib.hid (And.intro hs (And.intro m0 (And.intro m1 hq)))
        have hq0 : 0 ≤ q := by omega
        have hq1 : q ≤ 8589934592 := by omega
        have hl3' : ls[j].2.2.length ≤ 1073741824 := by omega
        have HLE := Lib.hid hlen
        clear hI2 hI3 m0 m1 hs hq hlen hpl e2 d2 c2 c0 c1 hl3
        go_wp2_with (fail)
        refine (lmarkIntS_any _ _ (qs j) (q + 1 + 1) lo hi _ HI.out (by omega) (by omega)).mono ?_
        rintro e w3 ⟨rfl, hm3⟩
        obtain ⟨hs, m0, m1, hq⟩ := HS.out
        have hnd := preL_nodup HND.out hlt
        have hst : SeqAt lo hi k (preL (litEl b o qs) (j + 1)) w w3 := by
          rw [preL_succ]
          refine hs.append ?_ (fun p hp hp2 => (List.nodup_append.1 hnd).2.2 p hp p hp2 rfl)
          rw [← hq]
          have hn2 := (List.nodup_append.1 hnd).2.1
          have hm01 := m0.append (qs := [⟨b, o + j * 3 + 1, none⟩]) (by simpa using m1) (by simp [litEl] at hn2 ⊢)
          refine hm01.append (qs := qs j) ?_ (fun p hp hp2 => ?_)
          · simpa [Int.add_assoc] using hm3
          · simp only [litEl, List.nodup_cons, List.mem_cons, not_or] at hn2
            simp only [List.mem_append, List.mem_singleton] at hp
            rcases hp with rfl | rfl
            · exact hn2.1.2 hp2
            · exact hn2.2.1 hp2
        have HQ := Lib.hid (And.intro (show q + 1 + 1 + (ls[j].2.2.length : Int) = k + ((preL (litEl b o qs) (j + 1)).length : Int) by
          rw [preL_succ, List.length_append, HLE.out, hq]
          omega) hst)
        clear hs m0 m1 hq hnd hst hm3
        go_wp2_with (fail)
        go_roundw
        case rel => exact ⟨j + 1, _, by omega, by go_num, rfl, HQ.out.1, HQ.out.2⟩
        case measure => simp [intOf]; omega
      · have hkn : j = ls.length := by omega
        have HK := Lib.hid (show q = k + ((preL (litEl b o qs) ls.length).length : Int) by rw [hq, hkn])
        have HS := Lib.hid (show SeqAt lo hi k (preL (litEl b o qs) ls.length) w wr by rw [hkn] at hs; exact hs)
        clear hkn hs hq
        go_wp2_with (fail)
        go_ret
        exact ⟨ret_int HK.out, HS.out⟩

set_option maxHeartbeats 1000000 in
set_option maxRecDepth 100000 in
theorem lheldOpS_any (v : Value) (ls : List LLit) (ps : List Addr) (k : Int) (lo hi : Nat) (w : World) (h : LvLits w lo hi v ls ps) (hh : HoldsFrom w k ps) (hk0 : 0 ≤ k) (hk : k ≤ 4294967296) (hn : ps.length ≤ 1073741824) :
    Calls Try.prog 34 #[v, .int .i64 k] w fun e w' => e = .returned (.int .i64 (k + ps.length)) ∧ w = w' := by
  have HH := Lib.hid hh
  clear hh
  obtain ⟨A, c, rfl, hc, h0, h⟩ := h
  rcases Nat.eq_zero_or_pos ls.length with hz | hp
  · have hps := h0 hz
    subst hps
    have hz' : ¬ (0 : Int) < (ls.length : Int) := by omega
    clear hz h h0
    go_enter Try.func34, Try.ntmps34
    go_wp2_with (fail)
    go_loop [1, 5] (fun m i => i = .int .i64 0 ∧ m = .int .i64 k) (fun _ i => 0)
    case atStart => exact ⟨rfl, rfl⟩
    case round =>
      obtain ⟨rfl, rfl⟩ := hrel
      go_wp2_with (fail)
      go_ret
      exact ⟨ret_int (by simp), rfl⟩
  · obtain ⟨b, o, qs, rfl, h1, h2, rfl, hx⟩ := h hp
    have HX := Lib.hid hx
    clear hx h
    have hcap := preL_lits_le b o qs ls.length
    go_enter Try.func34, Try.ntmps34
    go_wp2_with (fail)
    go_loop [1, 5] (fun m i => ∃ (j : Nat) (q : Int), j ≤ ls.length ∧ i = .int .i64 j ∧ m = .int .i64 q ∧ q = k + ((preL (litEl b o qs) j).length : Int)) (fun _ i => ls.length - (intOf i).toNat)
    case atStart => exact ⟨0, k, Nat.zero_le _, rfl, rfl, by simp [preL_zero]⟩
    case round =>
      obtain ⟨j, q, hj, rfl, rfl, hq⟩ := hrel
      by_cases hlt : j < ls.length
      · obtain ⟨_, x, y, u2, c0, c1, c2, hI⟩ := HX.out j hlt
        have hlen := litEl_len (b := b) (o := o) hI
        have hpl : (preL (litEl b o qs) (j + 1)).length ≤ (preL (litEl b o qs) ls.length).length := preL_length_le hlt
        rw [preL_succ, List.length_append, hlen] at hpl
        have hel := preL_holds HH.out hlt
        rw [← hq] at hel
        have e0 := hel 0 (by simp [litEl])
        have e1 := hel 1 (by simp [litEl])
        have hqs : HoldsFrom w (q + 1 + 1) (qs j) := by
          have := HoldsFrom.right (ps := [⟨b, o + j * 3, none⟩, ⟨b, o + j * 3 + 1, none⟩]) (qs := qs j) hel
          simpa [Int.add_assoc] using this
        simp only [litEl, List.getElem_cons_zero, List.getElem_cons_succ] at e0 e1
        have e0' : w.cell? ⟨b, o + j * 3, none⟩ = some (.int .i64 q) := by simpa using e0
        have e1' : w.cell? ⟨b, o + j * 3 + 1, none⟩ = some (.int .i64 (q + 1)) := by simpa using e1
        have HI := Lib.hid (And.intro hI hqs)
        obtain ⟨A3, c3, rfl, hcc3, hl3, _⟩ := hI
        have hq0 : 0 ≤ q := by omega
        have hq1 : q ≤ 8589934592 := by omega
        have hl3' : ls[j].2.2.length ≤ 1073741824 := by omega
        have t0 : (q != q) = false := by simp
        have t1 : (q + 1 != q + 1) = false := by simp
        have HQ := Lib.hid (show q + 1 + 1 + (ls[j].2.2.length : Int) = k + ((preL (litEl b o qs) (j + 1)).length : Int) by
          rw [preL_succ, List.length_append, hlen, hq]
          omega)
        clear hel hqs e0 e1 hq hlen hpl c0 c1 hl3
        go_wp2_with (fail)
        refine (lheldIntS_any _ _ (qs j) (q + 1 + 1) lo hi _ HI.out.1 HI.out.2 (by omega) (by omega)).mono ?_
        rintro e w3 ⟨rfl, rfl⟩
        have hneg : ¬ q + 1 + 1 + (ls[j].2.2.length : Int) < 0 := by omega
        go_wp2_with (fail)
        go_round
        case rel => exact ⟨j + 1, _, by omega, by go_num, rfl, HQ.out⟩
        case measure => simp [intOf]; omega
      · have hkn : j = ls.length := by omega
        have HK := Lib.hid (show q = k + ((preL (litEl b o qs) ls.length).length : Int) by rw [hq, hkn])
        clear hkn hq
        go_wp2_with (fail)
        go_ret
        exact ⟨ret_int HK.out, rfl⟩

/-- Leaves lie where their row does. -/
theorem LvLits.block {w : World} {lo hi : Nat} {v : Value} {os : List LLit} {ps : List Addr} (h : LvLits w lo hi v os ps) {p : Addr} (hp : p ∈ ps) : lo ≤ p.block ∧ p.block < hi := by
  obtain ⟨A, c, rfl, _, h0, h⟩ := h
  rcases Nat.eq_zero_or_pos os.length with hz | hn
  · rw [h0 hz] at hp; cases hp
  · obtain ⟨b, o, qs, rfl, h1, h2, rfl, hx⟩ := h hn
    obtain ⟨j, hj, hp⟩ := mem_preL.1 hp
    obtain ⟨_, _, _, u2, _, _, _, hI⟩ := hx j hj
    simp only [litEl, List.mem_cons] at hp
    rcases hp with rfl | rfl | hp
    · exact ⟨h1, h2⟩
    · exact ⟨h1, h2⟩
    · exact hI.block hp
theorem LvLits.leavesLen {w : World} {lo hi : Nat} {v : Value} {os : List LLit} {ps : List Addr} (h : LvLits w lo hi v os ps) : ps.length = 2 * os.length + totL os := by
  obtain ⟨A, c, rfl, _, h0, h⟩ := h
  rcases Nat.eq_zero_or_pos os.length with hz | hn
  · rw [h0 hz, List.eq_nil_of_length_eq_zero hz]; rfl
  · obtain ⟨b, o, qs, rfl, h1, h2, rfl, hx⟩ := h hn
    have : ∀ j, j ≤ os.length → (preL (litEl b o qs) j).length = 2 * j + totL (os.take j) := by
      intro j
      induction j with
      | zero => intro _; simp [preL_zero, totL]
      | succ j ih =>
        intro hj
        obtain ⟨_, _, _, u2, _, _, _, hI⟩ := hx j (by omega)
        have h1 := litEl_len (b := b) (o := o) hI
        have h2 := totL_take os j (by omega)
        rw [preL_succ, List.length_append, ih (by omega), h1, h2]
        omega
    have h3 := this os.length (Nat.le_refl _)
    rw [List.take_length] at h3
    exact h3
theorem LvInts.keep {w w' : World} {lo hi n : Nat} {v : Value} {ps : List Addr} (h : LvInts w lo hi v n ps) (hk : ∀ g, lo ≤ g → g < hi → w'.heap[g]? = w.heap[g]?) : LvInts w' lo hi v n ps := by
  obtain ⟨A, c, rfl, hcc, hl, h⟩ := h
  refine ⟨A, c, rfl, hcc, hl, fun hn => ?_⟩
  obtain ⟨b, o, rfl, h1, h2, hp, hx⟩ := h hn
  have hb := hk b h1 h2
  refine ⟨b, o, rfl, h1, h2, hp, fun k hk => ?_⟩
  obtain ⟨hf, x, hc⟩ := hx k hk
  exact ⟨(World.frozen?_of_block (w := w) hb).trans hf, x, (World.cell?_of_block (w := w) hb).trans hc⟩
theorem LvLits.keep {w w' : World} {lo hi : Nat} {v : Value} {os : List LLit} {ps : List Addr} (h : LvLits w lo hi v os ps) (hk : ∀ g, lo ≤ g → g < hi → w'.heap[g]? = w.heap[g]?) : LvLits w' lo hi v os ps := by
  obtain ⟨A, c, rfl, hc, h0, h⟩ := h
  refine ⟨A, c, rfl, hc, h0, fun hn => ?_⟩
  obtain ⟨b, o, qs, rfl, h1, h2, hp, hx⟩ := h hn
  have hb := hk b h1 h2
  refine ⟨b, o, qs, rfl, h1, h2, hp, fun k hk2 => ?_⟩
  obtain ⟨⟨f0, f1⟩, x, y, u2, c0, c1, c2, hI⟩ := hx k hk2
  exact ⟨⟨(World.frozen?_of_block (w := w) hb).trans f0, (World.frozen?_of_block (w := w) hb).trans f1⟩, x, y, u2, (World.cell?_of_block (w := w) hb).trans c0, (World.cell?_of_block (w := w) hb).trans c1, (World.cell?_of_block (w := w) hb).trans c2, hI.keep hk⟩

/-- The marks from k on stand in a row of operations, and end at z. -/
def HdOps (w : World) (lo hi : Nat) (v : Value) (os : List LLit) (k z : Int) : Prop :=
  (∃ ps, LvLits w lo hi v os ps ∧ HoldsFrom w k ps) ∧ z = k + 2 * (os.length : Int) + (totL os : Int) ∧ 0 ≤ k ∧ k ≤ 4294967296 ∧ szL os ≤ 268435456
theorem HdOps.kept {w w' : World} {lo hi : Nat} {v : Value} {os : List LLit} {k z : Int} (h : HdOps w lo hi v os k z) (hk : ∀ g, lo ≤ g → g < hi → w'.heap[g]? = w.heap[g]?) : HdOps w' lo hi v os k z := by
  obtain ⟨⟨ps, h1, h2⟩, h3⟩ := h
  exact ⟨⟨ps, h1.keep hk, h2.kept fun p hp => World.cell?_of_block (w := w) (hk p.block (h1.block hp).1 (h1.block hp).2)⟩, h3⟩
theorem HdOps.below {w w' : World} {lo hi B : Nat} {v : Value} {os : List LLit} {k z : Int} (h : HdOps w lo hi v os k z) (hb : Below B w w') (hB : hi ≤ B) : HdOps w' lo hi v os k z := h.kept fun g _ h2 => hb.block g (by omega)

theorem um_opsr {v : Value} {os : List LLit} {lo hi : Nat} {w : World} (k : Int) (h : OwnOps w lo hi v os) (hk0 : 0 ≤ k) (hk : k ≤ 4294967296) (hs : szL os ≤ 268435456) :
    Calls Try.prog 33 #[v, .int .i64 k] w fun e w' => ∃ z, e = .returned (.int .i64 z) ∧ k ≤ z ∧ z ≤ k + 2 * szL os ∧ HdOps w' lo hi v os k z ∧ Only lo hi w w' := by
  obtain ⟨ps, h1, h2⟩ := h.leaves
  have hl := h1.leavesLen
  unfold szL at hs ⊢
  exact (lmarkOpS_any v os ps k lo hi w h1 h2 hk0 hk (by omega)).mono fun _ _ ⟨he, hm⟩ =>
    ⟨_, he, by omega, by omega, ⟨⟨ps, h1.marked hm.marked, hm.holds⟩, by omega, hk0, hk, by unfold szL; omega⟩, hm.marked.only⟩

theorem uh_opsr {v : Value} {os : List LLit} {lo hi : Nat} {w : World} {k z : Int} (h : HdOps w lo hi v os k z) (_ : hi ≤ w.heap.size) :
    Calls Try.prog 34 #[v, .int .i64 k] w fun e w' => e = .returned (.int .i64 z) ∧ Below w.heap.size w w' := by
  obtain ⟨⟨ps, h1, h2⟩, h3, h4, h5, h6⟩ := h
  have hl := h1.leavesLen
  unfold szL at h6
  exact (lheldOpS_any v os ps k lo hi w h1 h2 h4 h5 (by omega)).mono fun _ _ ⟨he, hw⟩ => ⟨by rw [he, h3]; congr 2; omega, hw ▸ Below.refl _ _⟩

end Go.Proofs.Ytocpfmbieedpgaa
/-
  What comes in, its lengths.
-/
namespace Go.Proofs.Ytocpfmbieedpgaa
open Go.RowKit

theorem ruleLens_in {r : LRule} (h : ruleFitsIn r) : ruleLens r := by
  obtain ⟨h1, h2, h3⟩ := h
  unfold maxLen at *
  exact ⟨by omega, by omega, fun k hk => by have := h3 k hk; omega⟩
theorem progLens_in {p : LProg} (h : p.1.length ≤ maxLen ∧ p.2.length ≤ maxLen ∧ ∀ k (h : k < p.2.length), ruleFitsIn p.2[k]) : progLens p := by
  obtain ⟨h1, h2, h3⟩ := h
  refine ⟨?_, ?_, fun k hk => ruleLens_in (h3 k hk)⟩ <;> (unfold maxLen at *; omega)

end Go.Proofs.Ytocpfmbieedpgaa
/-
  Rules that a call has made, and their sizes and marks, in the one form that the laws' walks ask.
-/
namespace Go.Proofs.Ytocpfmbieedpgaa
open Go.RowKit

/-- A rule whose two rows stand in blocks from lo on and below hi. -/
def OwnRuleV (w : World) (lo hi : Nat) (v : Value) (r : LRule) : Prop := ∃ a b, v = .agg #[.int .i64 r.1.1, a, b] ∧ OwnInts w lo hi a r.1.2 ∧ OwnLits w lo hi b r.2
theorem RdRule.more {w : World} {B B' : Nat} {v : Value} {r : LRule} (h : RdRule w B v r) (hB : B ≤ B') : RdRule w B' v r := by
  obtain ⟨a, b, rfl, h1, h2⟩ := h
  exact ⟨a, b, rfl, h1.more hB, h2.more hB⟩
theorem OwnRuleV.below {w w' : World} {lo hi B : Nat} {v : Value} {r : LRule} (h : OwnRuleV w lo hi v r) (hb : Below B w w') (hB : hi ≤ B) : OwnRuleV w' lo hi v r := by
  obtain ⟨a, b, rfl, h1, h2⟩ := h
  exact ⟨a, b, rfl, h1.below hb hB, h2.below hb hB⟩
theorem OwnRuleV.only {w w' : World} {lo hi lo' hi' : Nat} {v : Value} {r : LRule} (h : OwnRuleV w lo hi v r) (ho : Only lo' hi' w w') (hd : hi ≤ lo' ∨ hi' ≤ lo) (hh : hi ≤ w.heap.size) : OwnRuleV w' lo hi v r := by
  obtain ⟨a, b, rfl, h1, h2⟩ := h
  exact ⟨a, b, rfl, h1.only ho hd, h2.only ho hd hh⟩
theorem OwnRuleV.rd {w : World} {lo hi : Nat} {v : Value} {r : LRule} (h : OwnRuleV w lo hi v r) : RdRule w hi v r := by
  obtain ⟨a, b, rfl, h1, h2⟩ := h
  exact ⟨a, b, rfl, h1.rd, h2.rd⟩

theorem toRule_own (v : Value) (r : LRule) (w : World) (h : RdRule w w.heap.size v r) (hn : szR r ≤ 1048576) :
    Calls Try.prog 29 #[v] w fun e w' => ∃ A c A2 c2, e = .returned (.agg #[.int .i64 r.1.1, .slice A r.1.2.length c, .slice A2 r.2.length c2]) ∧ OwnRuleV w' w.heap.size w'.heap.size (.agg #[.int .i64 r.1.1, .slice A r.1.2.length c, .slice A2 r.2.length c2]) r ∧ Below w.heap.size w w' :=
  (toRule_any v r w h hn).mono fun _ _ ⟨A, c, A2, c2, he, h1, h2, hb⟩ => ⟨A, c, A2, c2, he, ⟨_, _, rfl, h1, h2⟩, hb⟩

theorem us_rule {v : Value} {r : LRule} {left : Int} {w : World} (h : RdRule w w.heap.size v r) (h0 : 0 ≤ left) (hl : left ≤ 1048576) (hn : ruleLens r) :
    Calls Try.prog 28 #[v, .int .i64 left] w fun e w' => ∃ z, e = .returned (.int .i64 z) ∧ (z = -1 ∨ (0 ≤ z ∧ z + szR r = left)) ∧ Below w.heap.size w w' :=
  szRule_any v r left w h h0 hl hn

theorem um_rule {v : Value} {r : LRule} {lo hi : Nat} {w : World} (k : Int) (h : OwnRuleV w lo hi v r) (hk0 : 0 ≤ k) (hk : k ≤ 1073741824) (hs : szR r ≤ 1048576) :
    Calls Try.prog 32 #[v, .int .i64 k] w fun e w' => ∃ z, e = .returned (.int .i64 z) ∧ k ≤ z ∧ z ≤ k + 2 * (szR r : Int) ∧ True ∧ Only lo hi w w' := by
  obtain ⟨a, b, rfl, h1, h2⟩ := h
  exact (wmarkRule_any _ a b r k lo hi w h1.wr h2.wr hk0 hk (by omega)).mono fun _ _ ⟨he, hm⟩ => ⟨_, he, by unfold endR endL; omega, by unfold endR endL szR; omega, trivial, hm.only⟩

end Go.Proofs.Ytocpfmbieedpgaa
/-
  Marks on integers, in the one form that the laws' walks ask.
-/
namespace Go.Proofs.Ytocpfmbieedpgaa
open Go.RowKit

/-- The marks from k on stand in a row of integers, and end at z. -/
def HdInts (w : World) (lo hi : Nat) (v : Value) (xs : List Int) (k z : Int) : Prop := OwnInts w lo hi v (seqI k xs.length) ∧ z = k + xs.length ∧ 0 ≤ k ∧ k ≤ 4294967296 ∧ xs.length ≤ 1073741824
theorem HdInts.below {w w' : World} {lo hi B : Nat} {v : Value} {xs : List Int} {k z : Int} (h : HdInts w lo hi v xs k z) (hb : Below B w w') (hB : hi ≤ B) : HdInts w' lo hi v xs k z := ⟨h.1.below hb hB, h.2⟩
theorem HdInts.only {w w' : World} {lo hi lo' hi' : Nat} {v : Value} {xs : List Int} {k z : Int} (h : HdInts w lo hi v xs k z) (ho : Only lo' hi' w w') (hd : hi ≤ lo' ∨ hi' ≤ lo) : HdInts w' lo hi v xs k z := ⟨h.1.only ho hd, h.2⟩

theorem um_ints {v : Value} {xs : List Int} {lo hi : Nat} {w : World} (k : Int) (h : OwnInts w lo hi v xs) (hk0 : 0 ≤ k) (hk : k ≤ 4294967296) (hs : xs.length ≤ 1073741824) :
    Calls Try.prog 31 #[v, .int .i64 k] w fun e w' => ∃ z, e = .returned (.int .i64 z) ∧ k ≤ z ∧ z ≤ k + xs.length ∧ HdInts w' lo hi v xs k z ∧ Only lo hi w w' :=
  (markIntS_any v xs k lo hi w h hk0 (by omega)).mono fun _ _ ⟨he, ho, hg⟩ =>
    ⟨_, he, by omega, Int.le_refl _, ⟨ho, rfl, hk0, hk, hs⟩, Only.of_grown hg (fun g hg' => by have := h.lt hg'; omega)⟩

theorem uh_ints {v : Value} {xs : List Int} {lo hi : Nat} {w : World} {k z : Int} (h : HdInts w lo hi v xs k z) (hh : hi ≤ w.heap.size) :
    Calls Try.prog 78 #[v, .int .i64 k] w fun e w' => e = .returned (.int .i64 z) ∧ Below w.heap.size w w' :=
  (heldIntS_any v xs.length k w (h.1.rd.more hh) h.2.2.1 (by have := h.2.2.2.1; have := h.2.2.2.2; omega)).mono fun _ _ ⟨he, hw⟩ => ⟨by rw [he, h.2.1], hw ▸ Below.refl _ _⟩

end Go.Proofs.Ytocpfmbieedpgaa
/-
  The walk of the law on PlanBy (written by wip/genlaw.py).
-/
namespace Go.Proofs.Ytocpfmbieedpgaa
open Go.RowKit

set_option maxHeartbeats 8000000 in
set_option maxRecDepth 100000 in
theorem lawPlanBy_any (v0 : Value) (v1 : Value) (v2 : Value) (ar : List Int) (r : LRule) (os : List Int) (w : World) (h0 : RdInts w w.heap.size v0 ar) (h1 : RdRule w w.heap.size v1 r) (h2 : RdInts w w.heap.size v2 os) (n1 : ruleLens r) :
    Calls Try.prog 7 #[v0, v1, v2] w fun e w' => e = .returned (.bool true) ∧ Below w.heap.size w w' := by
  have H0 := Lib.hid h0
  obtain ⟨A0, c0, rfl, hc0, _⟩ := h0
  have H1 := Lib.hid h1
  obtain ⟨_, _, rfl, ⟨A1, c1, rfl, hc1, _⟩, ⟨A1b, c1b, rfl, hc1b, _⟩⟩ := h1
  have H2 := Lib.hid h2
  obtain ⟨A2, c2, rfl, hc2, _⟩ := h2
  by_cases g0 : 1048576 < ar.length
  · go_enter Try.func7, Try.ntmps7
    go_wp2_with (fail)
    go_ret
    exact ⟨rfl, below1 _ _⟩
  have r0 : ar.length ≤ 1048576 := by omega
  by_cases g2 : 1048576 < os.length
  · go_enter Try.func7, Try.ntmps7
    go_wp2_with (fail)
    go_ret
    exact ⟨rfl, below1 _ _⟩
  have r2 : os.length ≤ 1048576 := by omega
  go_enter Try.func7, Try.ntmps7
  go_wp2_with (fail)
  obtain ⟨w1, hw_w1⟩ : ∃ W', W' = w.alloc (Obj.cells #[Value.int IntKind.i64 r.1.1, Value.slice A1 r.1.2.length c1, Value.slice A1b r.2.length c1b] 52) := ⟨_, rfl⟩
  rw [← hw_w1]
  have B_w1 : Below w.heap.size w w1 := by rw [hw_w1]; exact below1 _ _
  have bx1 : Blk w1 (w.heap.size + 0) 52 #[.int .i64 r.1.1, .slice A1 r.1.2.length c1, .slice A1b r.2.length c1b] := by
    rw [hw_w1]
    have := (Blk.new w 52 #[.int .i64 r.1.1, .slice A1 r.1.2.length c1, .slice A1b r.2.length c1b])
    simpa using this
  have bx1_l := bx1.lt
  rw [Nat.add_zero] at bx1 bx1_l
  have s_w1 := B_w1.size
  clear hw_w1
  refine (us_rule (H1.out.on B_w1) (by omega) (by omega) n1).mono ?_
  rintro e w2 ⟨z1, rfl, hz1, hbz1⟩
  have s_w2 := hbz1.size
  have bx1_1 := bx1.below hbz1 (by first | exact bx1.lt | omega)
  clear bx1
  have bx1_1_l := bx1_1.lt
  have B_w2 := bthen B_w1 hbz1
  rcases hz1 with rfl | ⟨zp1, zs1⟩
  · go_wp2_with (fail)
    go_ret
    exact ⟨rfl, B_w2⟩
  have zn1 : ¬ z1 < 0 := by omega
  have r1 : szR r ≤ 1048576 := by omega
  have zl1 : z1 ≤ 1048576 := by omega
  have ZS1 := Lib.hid zs1
  clear zs1 zn1
  have zn1 : ¬ z1 < 0 := by omega
  obtain ⟨R0, hR0⟩ : ∃ R, R = planByL ar r os := ⟨_, rfl⟩
  have HR0 := Lib.hid hR0
  obtain ⟨R1, hR1⟩ : ∃ R, R = planByK ar r os := ⟨_, rfl⟩
  have HR1 := Lib.hid hR1
  have HRs0 := Lib.hid (show szL R0 ≤ 64 by rw [hR0]; exact planBy_sz ar r os)
  clear hR0 hR1
  have gb1 : (R1 != R1) = false := by simp
  have q1 : w2.cell? ⟨w.heap.size, 0, none⟩ = some (.int .i64 r.1.1) := bx1_1.cell 0
  have q2 : w2.cell? ⟨w.heap.size, 1, none⟩ = some (.slice A1 r.1.2.length c1) := bx1_1.cell 1
  have q3 : w2.cell? ⟨w.heap.size, 2, none⟩ = some (.slice A1b r.2.length c1b) := bx1_1.cell 2
  go_upto_region 9 with fail
  clear q1 q2 q3
  have HS_w2 := Lib.hid (show ∀ W, Below w2.heap.size w2 W → (Below w2.heap.size w2 W ∧ W.cell? ⟨w.heap.size, 0, none⟩ = some (.int .i64 r.1.1) ∧ W.cell? ⟨w.heap.size, 1, none⟩ = some (.slice A1 r.1.2.length c1) ∧ W.cell? ⟨w.heap.size, 2, none⟩ = some (.slice A1b r.2.length c1b)) from fun W hW => ⟨hW, (bx1_1.below hW bx1_1_l).cell 0, (bx1_1.below hW bx1_1_l).cell 1, (bx1_1.below hW bx1_1_l).cell 2⟩)
  go_cut [8, 9] (fun s0 s1 wx => ∃ (Q_0 : Option Addr) (f_0 : Nat), s0 = .slice Q_0 R0.length f_0 ∧ s1 = .bool R1 ∧ OwnOps wx w2.heap.size wx.heap.size (.slice Q_0 R0.length f_0) R0 ∧ Below w2.heap.size w2 wx)
  case first =>
    go_region_held3 (fun W => Below w2.heap.size w2 W ∧ W.cell? ⟨w.heap.size, 0, none⟩ = some (.int .i64 r.1.1) ∧ W.cell? ⟨w.heap.size, 1, none⟩ = some (.slice A1 r.1.2.length c1) ∧ W.cell? ⟨w.heap.size, 2, none⟩ = some (.slice A1b r.2.length c1b))
      (first | exact HS_w2.out _ (Below.refl _ _) | exact HS_w2.out _ (Below.refl _ _).drew | exact HS_w2.out _ (bthen (And.left (by assumption)) (by assumption)))
      (first
        | (go_at_call 24; refine (toIntS_any _ ar _ ?_ (by omega)).mono ?_; exact H0.out.on (bthen B_w2 (And.left (by assumption))); rintro e w_0 ⟨P0, d0, rfl, o0, g0⟩)
        | (go_at_call 29; refine (toRule_own _ r _ ?_ (by omega)).mono ?_; exact H1.out.on (bthen B_w2 (And.left (by assumption))); rintro e w_1 ⟨P1, d1, P1b, d1b, rfl, o1, g1⟩)
        | (go_at_call 24; refine (toIntS_any _ os _ ?_ (by omega)).mono ?_; exact H2.out.on (bthen B_w2 (And.left (by assumption))); rintro e w_2 ⟨P2, d2, rfl, o2, g2⟩)
        | (go_at_call 20; refine (specPlanBy_any _ _ _ ar r os _ (((o0.rd.on g1).on g2)) ((o1.rd.on g2)) (o2.rd) (by omega) (by omega) (by omega)).mono ?_; rw [← HR0.out]; try rw [← HR1.out]; rintro e w_r ⟨Q_0, f_0, rfl, oo_0, hb_r⟩))
    all_goals (go_wp2_with fail; go_meet; exact ⟨_, _, rfl, rfl, oo_0.mono (Nat.le_trans g0.size (Nat.le_trans g1.size (g2.size))) (Nat.le_refl _), And.left (by assumption)⟩)
  case rest =>
    obtain ⟨Q1_0, f1_0, rfl, rfl, o1_0, hb1⟩ := hcut
    clear HS_w2
    generalize wc = w3 at *
    have s_w3 := hb1.size
    have bx1_2 := bx1_1.below hb1 (by first | exact bx1_1.lt | omega)
    clear bx1_1
    have bx1_2_l := bx1_2.lt
    have B_w3 := bthen B_w2 hb1
    have q4 : w3.cell? ⟨w.heap.size, 0, none⟩ = some (.int .i64 r.1.1) := bx1_2.cell 0
    have q5 : w3.cell? ⟨w.heap.size, 1, none⟩ = some (.slice A1 r.1.2.length c1) := bx1_2.cell 1
    have q6 : w3.cell? ⟨w.heap.size, 2, none⟩ = some (.slice A1b r.2.length c1b) := bx1_2.cell 2
    go_wp2_with (fail)
    clear q4 q5 q6
    refine (toIntS_any _ ar _ (H0.out.on B_w3) (by omega)).mono ?_
    rintro e w4 ⟨P2, d2, rfl, o2, hb2⟩
    have s_w4 := hb2.size
    have bx1_3 := bx1_2.below hb2 (by first | exact bx1_2.lt | omega)
    clear bx1_2
    have bx1_3_l := bx1_3.lt
    have w0_3 := o1_0.below hb2 (by omega)
    clear o1_0
    have B_w4 := bthen B_w3 hb2
    have q7 : w4.cell? ⟨w.heap.size, 0, none⟩ = some (.int .i64 r.1.1) := bx1_3.cell 0
    have q8 : w4.cell? ⟨w.heap.size, 1, none⟩ = some (.slice A1 r.1.2.length c1) := bx1_3.cell 1
    have q9 : w4.cell? ⟨w.heap.size, 2, none⟩ = some (.slice A1b r.2.length c1b) := bx1_3.cell 2
    go_wp2_with (fail)
    clear q7 q8 q9
    refine (toRule_own _ r _ (H1.out.on B_w4) (by omega)).mono ?_
    rintro e w5 ⟨P3, d3, P3b, d3b, rfl, o3, hb3⟩
    have s_w5 := hb3.size
    have bx1_4 := bx1_3.below hb3 (by first | exact bx1_3.lt | omega)
    clear bx1_3
    have bx1_4_l := bx1_4.lt
    have w0_4 := w0_3.below hb3 (by omega)
    clear w0_3
    have x0_4 := o2.below hb3 (by omega)
    clear o2
    have B_w5 := bthen B_w4 hb3
    have q10 : w5.cell? ⟨w.heap.size, 0, none⟩ = some (.int .i64 r.1.1) := bx1_4.cell 0
    have q11 : w5.cell? ⟨w.heap.size, 1, none⟩ = some (.slice A1 r.1.2.length c1) := bx1_4.cell 1
    have q12 : w5.cell? ⟨w.heap.size, 2, none⟩ = some (.slice A1b r.2.length c1b) := bx1_4.cell 2
    go_wp2_with (fail)
    clear q10 q11 q12
    obtain ⟨w6, hw_w6⟩ : ∃ W', W' = w5.alloc (Obj.cells #[Value.int IntKind.i64 r.1.1, Value.slice P3 r.1.2.length d3, Value.slice P3b r.2.length d3b] 28) := ⟨_, rfl⟩
    rw [← hw_w6]
    have hb_w6 : Below w5.heap.size w5 w6 := by rw [hw_w6]; exact below1 _ _
    have bxx1_n : Blk w6 w5.heap.size 28 #[.int .i64 r.1.1, .slice P3 r.1.2.length d3, .slice P3b r.2.length d3b] := by rw [hw_w6]; exact Blk.new _ _ _
    have bxx1_nl := bxx1_n.lt
    clear hw_w6
    have s_w6 := hb_w6.size
    have bx1_5 := bx1_4.below hb_w6 (by first | exact bx1_4.lt | omega)
    clear bx1_4
    have bx1_5_l := bx1_5.lt
    have w0_5 := w0_4.below hb_w6 (by omega)
    clear w0_4
    have x0_5 := x0_4.below hb_w6 (by omega)
    clear x0_4
    have x1_5 := o3.below hb_w6 (by omega)
    clear o3
    have B_w6 := bthen B_w5 hb_w6
    refine (toIntS_any _ os _ (H2.out.on B_w6) (by omega)).mono ?_
    rintro e w7 ⟨P4, d4, rfl, o4, hb4⟩
    have s_w7 := hb4.size
    have bx1_6 := bx1_5.below hb4 (by first | exact bx1_5.lt | omega)
    clear bx1_5
    have bx1_6_l := bx1_6.lt
    have w0_6 := w0_5.below hb4 (by omega)
    clear w0_5
    have x0_6 := x0_5.below hb4 (by omega)
    clear x0_5
    have x1_6 := x1_5.below hb4 (by omega)
    clear x1_5
    have bxx1_6 := bxx1_n.below hb4 (by first | exact bxx1_n.lt | omega)
    clear bxx1_n
    have bxx1_6_l := bxx1_6.lt
    have B_w7 := bthen B_w6 hb4
    have q13 : w7.cell? ⟨w.heap.size, 0, none⟩ = some (.int .i64 r.1.1) := bx1_6.cell 0
    have q14 : w7.cell? ⟨w.heap.size, 1, none⟩ = some (.slice A1 r.1.2.length c1) := bx1_6.cell 1
    have q15 : w7.cell? ⟨w.heap.size, 2, none⟩ = some (.slice A1b r.2.length c1b) := bx1_6.cell 2
    have q16 : w7.cell? ⟨w5.heap.size, 0, none⟩ = some (.int .i64 r.1.1) := bxx1_6.cell 0
    have q17 : w7.cell? ⟨w5.heap.size, 1, none⟩ = some (.slice P3 r.1.2.length d3) := bxx1_6.cell 1
    have q18 : w7.cell? ⟨w5.heap.size, 2, none⟩ = some (.slice P3b r.2.length d3b) := bxx1_6.cell 2
    go_wp2_with (fail)
    clear q13 q14 q15 q16 q17 q18
    refine (implPlanBy_any _ _ _ ar r os _ (x0_6.rd.more (by omega)) (x1_6.rd.more (by omega)) (o4.rd.more (by omega)) (by omega) (by omega) (by omega)).mono ?_
    rw [← HR0.out]
    try rw [← HR1.out]
    rintro e w8 ⟨Q5_0, f5_0, rfl, o5_0, hb5⟩
    have s_w8 := hb5.size
    have bx1_7 := bx1_6.below hb5 (by first | exact bx1_6.lt | omega)
    clear bx1_6
    have bx1_7_l := bx1_7.lt
    have w0_7 := w0_6.below hb5 (by omega)
    clear w0_6
    have x0_7 := x0_6.below hb5 (by omega)
    clear x0_6
    have x1_7 := x1_6.below hb5 (by omega)
    clear x1_6
    have bxx1_7 := bxx1_6.below hb5 (by first | exact bxx1_6.lt | omega)
    clear bxx1_6
    have bxx1_7_l := bxx1_7.lt
    have x2_7 := o4.below hb5 (by omega)
    clear o4
    have B_w8 := bthen B_w7 hb5
    have q19 : w8.cell? ⟨w.heap.size, 0, none⟩ = some (.int .i64 r.1.1) := bx1_7.cell 0
    have q20 : w8.cell? ⟨w.heap.size, 1, none⟩ = some (.slice A1 r.1.2.length c1) := bx1_7.cell 1
    have q21 : w8.cell? ⟨w.heap.size, 2, none⟩ = some (.slice A1b r.2.length c1b) := bx1_7.cell 2
    have q22 : w8.cell? ⟨w5.heap.size, 0, none⟩ = some (.int .i64 r.1.1) := bxx1_7.cell 0
    have q23 : w8.cell? ⟨w5.heap.size, 1, none⟩ = some (.slice P3 r.1.2.length d3) := bxx1_7.cell 1
    have q24 : w8.cell? ⟨w5.heap.size, 2, none⟩ = some (.slice P3b r.2.length d3b) := bxx1_7.cell 2
    go_wp2_with (fail)
    clear q19 q20 q21 q22 q23 q24
    refine (eqOpS_any _ _ R0 R0 _ (o5_0.rd.more (by omega)) (w0_7.rd.more (by omega)) (by have := HRs0.out; unfold szL at this; omega) (by have := HRs0.out; unfold szL at this; omega) (by have := HRs0.out; unfold szL at this; omega) (by have := HRs0.out; unfold szL at this; omega)).mono ?_
    rintro e w9 ⟨rfl, hb6⟩
    rw [show decide (R0 = R0) = true by simp]
    have s_w9 := hb6.size
    have bx1_8 := bx1_7.below hb6 (by first | exact bx1_7.lt | omega)
    clear bx1_7
    have bx1_8_l := bx1_8.lt
    have w0_8 := w0_7.below hb6 (by omega)
    clear w0_7
    have x0_8 := x0_7.below hb6 (by omega)
    clear x0_7
    have x1_8 := x1_7.below hb6 (by omega)
    clear x1_7
    have bxx1_8 := bxx1_7.below hb6 (by first | exact bxx1_7.lt | omega)
    clear bxx1_7
    have bxx1_8_l := bxx1_8.lt
    have x2_8 := x2_7.below hb6 (by omega)
    clear x2_7
    have g0_8 := o5_0.below hb6 (by omega)
    clear o5_0
    have B_w9 := bthen B_w8 hb6
    have q25 : w9.cell? ⟨w.heap.size, 0, none⟩ = some (.int .i64 r.1.1) := bx1_8.cell 0
    have q26 : w9.cell? ⟨w.heap.size, 1, none⟩ = some (.slice A1 r.1.2.length c1) := bx1_8.cell 1
    have q27 : w9.cell? ⟨w.heap.size, 2, none⟩ = some (.slice A1b r.2.length c1b) := bx1_8.cell 2
    have q28 : w9.cell? ⟨w5.heap.size, 0, none⟩ = some (.int .i64 r.1.1) := bxx1_8.cell 0
    have q29 : w9.cell? ⟨w5.heap.size, 1, none⟩ = some (.slice P3 r.1.2.length d3) := bxx1_8.cell 1
    have q30 : w9.cell? ⟨w5.heap.size, 2, none⟩ = some (.slice P3b r.2.length d3b) := bxx1_8.cell 2
    go_wp2_with (fail)
    clear q25 q26 q27 q28 q29 q30
    refine (toIntS_any _ ar _ (H0.out.on B_w9) (by omega)).mono ?_
    rintro e w10 ⟨P7, d7, rfl, o7, hb7⟩
    have s_w10 := hb7.size
    have bx1_9 := bx1_8.below hb7 (by first | exact bx1_8.lt | omega)
    clear bx1_8
    have bx1_9_l := bx1_9.lt
    have w0_9 := w0_8.below hb7 (by omega)
    clear w0_8
    have x0_9 := x0_8.below hb7 (by omega)
    clear x0_8
    have x1_9 := x1_8.below hb7 (by omega)
    clear x1_8
    have bxx1_9 := bxx1_8.below hb7 (by first | exact bxx1_8.lt | omega)
    clear bxx1_8
    have bxx1_9_l := bxx1_9.lt
    have x2_9 := x2_8.below hb7 (by omega)
    clear x2_8
    have g0_9 := g0_8.below hb7 (by omega)
    clear g0_8
    have B_w10 := bthen B_w9 hb7
    have q31 : w10.cell? ⟨w.heap.size, 0, none⟩ = some (.int .i64 r.1.1) := bx1_9.cell 0
    have q32 : w10.cell? ⟨w.heap.size, 1, none⟩ = some (.slice A1 r.1.2.length c1) := bx1_9.cell 1
    have q33 : w10.cell? ⟨w.heap.size, 2, none⟩ = some (.slice A1b r.2.length c1b) := bx1_9.cell 2
    have q34 : w10.cell? ⟨w5.heap.size, 0, none⟩ = some (.int .i64 r.1.1) := bxx1_9.cell 0
    have q35 : w10.cell? ⟨w5.heap.size, 1, none⟩ = some (.slice P3 r.1.2.length d3) := bxx1_9.cell 1
    have q36 : w10.cell? ⟨w5.heap.size, 2, none⟩ = some (.slice P3b r.2.length d3b) := bxx1_9.cell 2
    go_wp2_with (fail)
    clear q31 q32 q33 q34 q35 q36
    refine (eqIntS_any _ _ ar ar _ (x0_9.rd.more (by omega)) (o7.rd.more (by omega)) (by omega) (by omega)).mono ?_
    rintro e w11 ⟨rfl, hb8⟩
    rw [show decide (ar = ar) = true by simp]
    have s_w11 := hb8.size
    have bx1_10 := bx1_9.below hb8 (by first | exact bx1_9.lt | omega)
    clear bx1_9
    have bx1_10_l := bx1_10.lt
    have w0_10 := w0_9.below hb8 (by omega)
    clear w0_9
    have x0_10 := x0_9.below hb8 (by omega)
    clear x0_9
    have x1_10 := x1_9.below hb8 (by omega)
    clear x1_9
    have bxx1_10 := bxx1_9.below hb8 (by first | exact bxx1_9.lt | omega)
    clear bxx1_9
    have bxx1_10_l := bxx1_10.lt
    have x2_10 := x2_9.below hb8 (by omega)
    clear x2_9
    have g0_10 := g0_9.below hb8 (by omega)
    clear g0_9
    have B_w11 := bthen B_w10 hb8
    have q37 : w11.cell? ⟨w.heap.size, 0, none⟩ = some (.int .i64 r.1.1) := bx1_10.cell 0
    have q38 : w11.cell? ⟨w.heap.size, 1, none⟩ = some (.slice A1 r.1.2.length c1) := bx1_10.cell 1
    have q39 : w11.cell? ⟨w.heap.size, 2, none⟩ = some (.slice A1b r.2.length c1b) := bx1_10.cell 2
    have q40 : w11.cell? ⟨w5.heap.size, 0, none⟩ = some (.int .i64 r.1.1) := bxx1_10.cell 0
    have q41 : w11.cell? ⟨w5.heap.size, 1, none⟩ = some (.slice P3 r.1.2.length d3) := bxx1_10.cell 1
    have q42 : w11.cell? ⟨w5.heap.size, 2, none⟩ = some (.slice P3b r.2.length d3b) := bxx1_10.cell 2
    go_upto_region 18 with fail
    clear q37 q38 q39 q40 q41 q42
    have HS_w11 := Lib.hid (show ∀ W, Below w11.heap.size w11 W → (Below w11.heap.size w11 W ∧ W.cell? ⟨w.heap.size, 0, none⟩ = some (.int .i64 r.1.1) ∧ W.cell? ⟨w.heap.size, 1, none⟩ = some (.slice A1 r.1.2.length c1) ∧ W.cell? ⟨w.heap.size, 2, none⟩ = some (.slice A1b r.2.length c1b) ∧ W.cell? ⟨w5.heap.size, 0, none⟩ = some (.int .i64 r.1.1) ∧ W.cell? ⟨w5.heap.size, 1, none⟩ = some (.slice P3 r.1.2.length d3) ∧ W.cell? ⟨w5.heap.size, 2, none⟩ = some (.slice P3b r.2.length d3b)) from fun W hW => ⟨hW, (bx1_10.below hW bx1_10_l).cell 0, (bx1_10.below hW bx1_10_l).cell 1, (bx1_10.below hW bx1_10_l).cell 2, (bxx1_10.below hW bxx1_10_l).cell 0, (bxx1_10.below hW bxx1_10_l).cell 1, (bxx1_10.below hW bxx1_10_l).cell 2⟩)
    have RX_w11 := Lib.hid (show RdRule w11 w11.heap.size (.agg #[.int .i64 r.1.1, .slice P3 r.1.2.length d3, .slice P3b r.2.length d3b]) r from x1_10.rd.more (by omega))
    go_cut [72] (fun s wx => s = .bool false ∧ Below w11.heap.size w11 wx)
    case first =>
      go_region_held3 (fun W => Below w11.heap.size w11 W ∧ W.cell? ⟨w.heap.size, 0, none⟩ = some (.int .i64 r.1.1) ∧ W.cell? ⟨w.heap.size, 1, none⟩ = some (.slice A1 r.1.2.length c1) ∧ W.cell? ⟨w.heap.size, 2, none⟩ = some (.slice A1b r.2.length c1b) ∧ W.cell? ⟨w5.heap.size, 0, none⟩ = some (.int .i64 r.1.1) ∧ W.cell? ⟨w5.heap.size, 1, none⟩ = some (.slice P3 r.1.2.length d3) ∧ W.cell? ⟨w5.heap.size, 2, none⟩ = some (.slice P3b r.2.length d3b))
        (first | exact HS_w11.out _ (Below.refl _ _) | exact HS_w11.out _ (Below.refl _ _).drew | exact HS_w11.out _ (bthen (And.left (by assumption)) (by assumption)))
        (first
          | (go_at_call 29; refine (toRule_own _ r _ ?_ (by omega)).mono ?_; exact H1.out.on (bthen B_w11 (And.left (by assumption))); rintro e wf ⟨Af, cf, Ag, cg, rfl, hof, hbf⟩)
          | (go_at_call 30; refine (eqRule_any _ _ r r _ ?_ ?_ (by omega) (by omega)).mono ?_; exact (RX_w11.out.on (And.left (by assumption))); exact hof.rd; rw [show decide (r = r) = true by simp]; rintro e wg ⟨rfl, hbg⟩))
      all_goals (go_wp2_with fail; go_meet; exact ⟨rfl, And.left (by assumption)⟩)
    case rest =>
      obtain ⟨rfl, hb9⟩ := hcut
      clear HS_w11 RX_w11
      generalize wc = w12 at *
      have s_w12 := hb9.size
      have bx1_11 := bx1_10.below hb9 (by first | exact bx1_10.lt | omega)
      clear bx1_10
      have bx1_11_l := bx1_11.lt
      have w0_11 := w0_10.below hb9 (by omega)
      clear w0_10
      have x0_11 := x0_10.below hb9 (by omega)
      clear x0_10
      have x1_11 := x1_10.below hb9 (by omega)
      clear x1_10
      have bxx1_11 := bxx1_10.below hb9 (by first | exact bxx1_10.lt | omega)
      clear bxx1_10
      have bxx1_11_l := bxx1_11.lt
      have x2_11 := x2_10.below hb9 (by omega)
      clear x2_10
      have g0_11 := g0_10.below hb9 (by omega)
      clear g0_10
      have B_w12 := bthen B_w11 hb9
      have q43 : w12.cell? ⟨w.heap.size, 0, none⟩ = some (.int .i64 r.1.1) := bx1_11.cell 0
      have q44 : w12.cell? ⟨w.heap.size, 1, none⟩ = some (.slice A1 r.1.2.length c1) := bx1_11.cell 1
      have q45 : w12.cell? ⟨w.heap.size, 2, none⟩ = some (.slice A1b r.2.length c1b) := bx1_11.cell 2
      have q46 : w12.cell? ⟨w5.heap.size, 0, none⟩ = some (.int .i64 r.1.1) := bxx1_11.cell 0
      have q47 : w12.cell? ⟨w5.heap.size, 1, none⟩ = some (.slice P3 r.1.2.length d3) := bxx1_11.cell 1
      have q48 : w12.cell? ⟨w5.heap.size, 2, none⟩ = some (.slice P3b r.2.length d3b) := bxx1_11.cell 2
      go_wp2_with (fail)
      clear q43 q44 q45 q46 q47 q48
      refine (toIntS_any _ os _ (H2.out.on B_w12) (by omega)).mono ?_
      rintro e w13 ⟨P10, d10, rfl, o10, hb10⟩
      have s_w13 := hb10.size
      have bx1_12 := bx1_11.below hb10 (by first | exact bx1_11.lt | omega)
      clear bx1_11
      have bx1_12_l := bx1_12.lt
      have w0_12 := w0_11.below hb10 (by omega)
      clear w0_11
      have x0_12 := x0_11.below hb10 (by omega)
      clear x0_11
      have x1_12 := x1_11.below hb10 (by omega)
      clear x1_11
      have bxx1_12 := bxx1_11.below hb10 (by first | exact bxx1_11.lt | omega)
      clear bxx1_11
      have bxx1_12_l := bxx1_12.lt
      have x2_12 := x2_11.below hb10 (by omega)
      clear x2_11
      have g0_12 := g0_11.below hb10 (by omega)
      clear g0_11
      have B_w13 := bthen B_w12 hb10
      have q49 : w13.cell? ⟨w.heap.size, 0, none⟩ = some (.int .i64 r.1.1) := bx1_12.cell 0
      have q50 : w13.cell? ⟨w.heap.size, 1, none⟩ = some (.slice A1 r.1.2.length c1) := bx1_12.cell 1
      have q51 : w13.cell? ⟨w.heap.size, 2, none⟩ = some (.slice A1b r.2.length c1b) := bx1_12.cell 2
      have q52 : w13.cell? ⟨w5.heap.size, 0, none⟩ = some (.int .i64 r.1.1) := bxx1_12.cell 0
      have q53 : w13.cell? ⟨w5.heap.size, 1, none⟩ = some (.slice P3 r.1.2.length d3) := bxx1_12.cell 1
      have q54 : w13.cell? ⟨w5.heap.size, 2, none⟩ = some (.slice P3b r.2.length d3b) := bxx1_12.cell 2
      go_wp2_with (fail)
      clear q49 q50 q51 q52 q53 q54
      refine (eqIntS_any _ _ os os _ (x2_12.rd.more (by omega)) (o10.rd.more (by omega)) (by omega) (by omega)).mono ?_
      rintro e w14 ⟨rfl, hb11⟩
      rw [show decide (os = os) = true by simp]
      have s_w14 := hb11.size
      have bx1_13 := bx1_12.below hb11 (by first | exact bx1_12.lt | omega)
      clear bx1_12
      have bx1_13_l := bx1_13.lt
      have w0_13 := w0_12.below hb11 (by omega)
      clear w0_12
      have x0_13 := x0_12.below hb11 (by omega)
      clear x0_12
      have x1_13 := x1_12.below hb11 (by omega)
      clear x1_12
      have bxx1_13 := bxx1_12.below hb11 (by first | exact bxx1_12.lt | omega)
      clear bxx1_12
      have bxx1_13_l := bxx1_13.lt
      have x2_13 := x2_12.below hb11 (by omega)
      clear x2_12
      have g0_13 := g0_12.below hb11 (by omega)
      clear g0_12
      have B_w14 := bthen B_w13 hb11
      have q55 : w14.cell? ⟨w.heap.size, 0, none⟩ = some (.int .i64 r.1.1) := bx1_13.cell 0
      have q56 : w14.cell? ⟨w.heap.size, 1, none⟩ = some (.slice A1 r.1.2.length c1) := bx1_13.cell 1
      have q57 : w14.cell? ⟨w.heap.size, 2, none⟩ = some (.slice A1b r.2.length c1b) := bx1_13.cell 2
      have q58 : w14.cell? ⟨w5.heap.size, 0, none⟩ = some (.int .i64 r.1.1) := bxx1_13.cell 0
      have q59 : w14.cell? ⟨w5.heap.size, 1, none⟩ = some (.slice P3 r.1.2.length d3) := bxx1_13.cell 1
      have q60 : w14.cell? ⟨w5.heap.size, 2, none⟩ = some (.slice P3b r.2.length d3b) := bxx1_13.cell 2
      go_wp2_with (fail)
      clear q55 q56 q57 q58 q59 q60
      refine (um_ints 1 x0_13 (by omega) (by omega) (by omega)).mono ?_
      rintro e w15 ⟨k12, rfl, ka12, kb12, _, on12⟩
      have s_w15 := on12.size
      have bx1_14 := bx1_13.only on12 (by first | exact .inl (by omega) | exact .inr (by omega) | omega)
      clear bx1_13
      have bx1_14_l := bx1_14.lt
      have w0_14 := w0_13.only on12 (by first | exact .inl (by omega) | exact .inr (by omega) | omega)
      clear w0_13
      have x1_14 := x1_13.only on12 (by first | exact .inl (by omega) | exact .inr (by omega) | omega) (by omega)
      clear x1_13
      have bxx1_14 := bxx1_13.only on12 (by first | exact .inl (by omega) | exact .inr (by omega) | omega)
      clear bxx1_13
      have bxx1_14_l := bxx1_14.lt
      have x2_14 := x2_13.only on12 (by first | exact .inl (by omega) | exact .inr (by omega) | omega)
      clear x2_13
      have g0_14 := g0_13.only on12 (by first | exact .inl (by omega) | exact .inr (by omega) | omega)
      clear g0_13
      have B_w15 := Only.then_ B_w14 on12 (by omega)
      have q61 : w15.cell? ⟨w.heap.size, 0, none⟩ = some (.int .i64 r.1.1) := bx1_14.cell 0
      have q62 : w15.cell? ⟨w.heap.size, 1, none⟩ = some (.slice A1 r.1.2.length c1) := bx1_14.cell 1
      have q63 : w15.cell? ⟨w.heap.size, 2, none⟩ = some (.slice A1b r.2.length c1b) := bx1_14.cell 2
      have q64 : w15.cell? ⟨w5.heap.size, 0, none⟩ = some (.int .i64 r.1.1) := bxx1_14.cell 0
      have q65 : w15.cell? ⟨w5.heap.size, 1, none⟩ = some (.slice P3 r.1.2.length d3) := bxx1_14.cell 1
      have q66 : w15.cell? ⟨w5.heap.size, 2, none⟩ = some (.slice P3b r.2.length d3b) := bxx1_14.cell 2
      go_wp2_with (fail)
      clear q61 q62 q63 q64 q65 q66
      refine (um_rule k12 x1_14 (by omega) (by omega) (by omega)).mono ?_
      rintro e w16 ⟨k13, rfl, ka13, kb13, _, on13⟩
      have s_w16 := on13.size
      have bx1_15 := bx1_14.only on13 (by first | exact .inl (by omega) | exact .inr (by omega) | omega)
      clear bx1_14
      have bx1_15_l := bx1_15.lt
      have w0_15 := w0_14.only on13 (by first | exact .inl (by omega) | exact .inr (by omega) | omega)
      clear w0_14
      have bxx1_15 := bxx1_14.only on13 (by first | exact .inl (by omega) | exact .inr (by omega) | omega)
      clear bxx1_14
      have bxx1_15_l := bxx1_15.lt
      have x2_15 := x2_14.only on13 (by first | exact .inl (by omega) | exact .inr (by omega) | omega)
      clear x2_14
      have g0_15 := g0_14.only on13 (by first | exact .inl (by omega) | exact .inr (by omega) | omega)
      clear g0_14
      have B_w16 := Only.then_ B_w15 on13 (by omega)
      have q67 : w16.cell? ⟨w.heap.size, 0, none⟩ = some (.int .i64 r.1.1) := bx1_15.cell 0
      have q68 : w16.cell? ⟨w.heap.size, 1, none⟩ = some (.slice A1 r.1.2.length c1) := bx1_15.cell 1
      have q69 : w16.cell? ⟨w.heap.size, 2, none⟩ = some (.slice A1b r.2.length c1b) := bx1_15.cell 2
      have q70 : w16.cell? ⟨w5.heap.size, 0, none⟩ = some (.int .i64 r.1.1) := bxx1_15.cell 0
      have q71 : w16.cell? ⟨w5.heap.size, 1, none⟩ = some (.slice P3 r.1.2.length d3) := bxx1_15.cell 1
      have q72 : w16.cell? ⟨w5.heap.size, 2, none⟩ = some (.slice P3b r.2.length d3b) := bxx1_15.cell 2
      go_wp2_with (fail)
      clear q67 q68 q69 q70 q71 q72
      refine (um_ints k13 x2_15 (by omega) (by omega) (by omega)).mono ?_
      rintro e w17 ⟨k14, rfl, ka14, kb14, _, on14⟩
      have s_w17 := on14.size
      have bx1_16 := bx1_15.only on14 (by first | exact .inl (by omega) | exact .inr (by omega) | omega)
      clear bx1_15
      have bx1_16_l := bx1_16.lt
      have w0_16 := w0_15.only on14 (by first | exact .inl (by omega) | exact .inr (by omega) | omega)
      clear w0_15
      have bxx1_16 := bxx1_15.only on14 (by first | exact .inl (by omega) | exact .inr (by omega) | omega)
      clear bxx1_15
      have bxx1_16_l := bxx1_16.lt
      have g0_16 := g0_15.only on14 (by first | exact .inl (by omega) | exact .inr (by omega) | omega)
      clear g0_15
      have B_w17 := Only.then_ B_w16 on14 (by omega)
      have kn : ¬ k14 < 0 := by omega
      have kd : decide (k14 < 0) = false := by simp; omega
      have q73 : w17.cell? ⟨w.heap.size, 0, none⟩ = some (.int .i64 r.1.1) := bx1_16.cell 0
      have q74 : w17.cell? ⟨w.heap.size, 1, none⟩ = some (.slice A1 r.1.2.length c1) := bx1_16.cell 1
      have q75 : w17.cell? ⟨w.heap.size, 2, none⟩ = some (.slice A1b r.2.length c1b) := bx1_16.cell 2
      have q76 : w17.cell? ⟨w5.heap.size, 0, none⟩ = some (.int .i64 r.1.1) := bxx1_16.cell 0
      have q77 : w17.cell? ⟨w5.heap.size, 1, none⟩ = some (.slice P3 r.1.2.length d3) := bxx1_16.cell 1
      have q78 : w17.cell? ⟨w5.heap.size, 2, none⟩ = some (.slice P3b r.2.length d3b) := bxx1_16.cell 2
      go_wp2_with (fail)
      clear q73 q74 q75 q76 q77 q78
      refine (eqOpS_any _ _ R0 R0 _ (g0_16.rd.more (by omega)) (w0_16.rd.more (by omega)) (by have := HRs0.out; unfold szL at this; omega) (by have := HRs0.out; unfold szL at this; omega) (by have := HRs0.out; unfold szL at this; omega) (by have := HRs0.out; unfold szL at this; omega)).mono ?_
      rintro e w18 ⟨rfl, hb15⟩
      rw [show decide (R0 = R0) = true by simp]
      have s_w18 := hb15.size
      have bx1_17 := bx1_16.below hb15 (by first | exact bx1_16.lt | omega)
      clear bx1_16
      have bx1_17_l := bx1_17.lt
      have w0_17 := w0_16.below hb15 (by omega)
      clear w0_16
      have bxx1_17 := bxx1_16.below hb15 (by first | exact bxx1_16.lt | omega)
      clear bxx1_16
      have bxx1_17_l := bxx1_17.lt
      have g0_17 := g0_16.below hb15 (by omega)
      clear g0_16
      have B_w18 := bthen B_w17 hb15
      have q79 : w18.cell? ⟨w.heap.size, 0, none⟩ = some (.int .i64 r.1.1) := bx1_17.cell 0
      have q80 : w18.cell? ⟨w.heap.size, 1, none⟩ = some (.slice A1 r.1.2.length c1) := bx1_17.cell 1
      have q81 : w18.cell? ⟨w.heap.size, 2, none⟩ = some (.slice A1b r.2.length c1b) := bx1_17.cell 2
      have q82 : w18.cell? ⟨w5.heap.size, 0, none⟩ = some (.int .i64 r.1.1) := bxx1_17.cell 0
      have q83 : w18.cell? ⟨w5.heap.size, 1, none⟩ = some (.slice P3 r.1.2.length d3) := bxx1_17.cell 1
      have q84 : w18.cell? ⟨w5.heap.size, 2, none⟩ = some (.slice P3b r.2.length d3b) := bxx1_17.cell 2
      go_wp2_with (fail)
      clear q79 q80 q81 q82 q83 q84
      refine (um_opsr 1 g0_17 (by omega) (by omega) (by have := HRs0.out; omega)).mono ?_
      rintro e w19 ⟨m16, rfl, ma16, mb16, hd16, on16⟩
      have mb16' := HRs0.out
      have s_w19 := on16.size
      have bx1_18 := bx1_17.only on16 (by first | exact .inl (by omega) | exact .inr (by omega) | omega)
      clear bx1_17
      have bx1_18_l := bx1_18.lt
      have w0_18 := w0_17.only on16 (by first | exact .inl (by omega) | exact .inr (by omega) | omega)
      clear w0_17
      have bxx1_18 := bxx1_17.only on16 (by first | exact .inl (by omega) | exact .inr (by omega) | omega)
      clear bxx1_17
      have bxx1_18_l := bxx1_18.lt
      have B_w19 := Only.then_ B_w18 on16 (by omega)
      have mn : ¬ m16 < 0 := by omega
      have me : (m16 != m16) = false := by simp
      have q85 : w19.cell? ⟨w.heap.size, 0, none⟩ = some (.int .i64 r.1.1) := bx1_18.cell 0
      have q86 : w19.cell? ⟨w.heap.size, 1, none⟩ = some (.slice A1 r.1.2.length c1) := bx1_18.cell 1
      have q87 : w19.cell? ⟨w.heap.size, 2, none⟩ = some (.slice A1b r.2.length c1b) := bx1_18.cell 2
      have q88 : w19.cell? ⟨w5.heap.size, 0, none⟩ = some (.int .i64 r.1.1) := bxx1_18.cell 0
      have q89 : w19.cell? ⟨w5.heap.size, 1, none⟩ = some (.slice P3 r.1.2.length d3) := bxx1_18.cell 1
      have q90 : w19.cell? ⟨w5.heap.size, 2, none⟩ = some (.slice P3b r.2.length d3b) := bxx1_18.cell 2
      go_wp2_with (fail)
      clear q85 q86 q87 q88 q89 q90
      refine (uh_opsr hd16 (by omega)).mono ?_
      rintro e w20 ⟨rfl, hb17⟩
      have s_w20 := hb17.size
      have bx1_19 := bx1_18.below hb17 (by first | exact bx1_18.lt | omega)
      clear bx1_18
      have bx1_19_l := bx1_19.lt
      have w0_19 := w0_18.below hb17 (by omega)
      clear w0_18
      have bxx1_19 := bxx1_18.below hb17 (by first | exact bxx1_18.lt | omega)
      clear bxx1_18
      have bxx1_19_l := bxx1_19.lt
      have d0_19 := hd16.below hb17 (by omega)
      clear hd16
      have B_w20 := bthen B_w19 hb17
      have q91 : w20.cell? ⟨w.heap.size, 0, none⟩ = some (.int .i64 r.1.1) := bx1_19.cell 0
      have q92 : w20.cell? ⟨w.heap.size, 1, none⟩ = some (.slice A1 r.1.2.length c1) := bx1_19.cell 1
      have q93 : w20.cell? ⟨w.heap.size, 2, none⟩ = some (.slice A1b r.2.length c1b) := bx1_19.cell 2
      have q94 : w20.cell? ⟨w5.heap.size, 0, none⟩ = some (.int .i64 r.1.1) := bxx1_19.cell 0
      have q95 : w20.cell? ⟨w5.heap.size, 1, none⟩ = some (.slice P3 r.1.2.length d3) := bxx1_19.cell 1
      have q96 : w20.cell? ⟨w5.heap.size, 2, none⟩ = some (.slice P3b r.2.length d3b) := bxx1_19.cell 2
      go_upto_region 36 with fail
      clear q91 q92 q93 q94 q95 q96
      have HS_w20 := Lib.hid (show ∀ W, Below w20.heap.size w20 W → (Below w20.heap.size w20 W ∧ W.cell? ⟨w.heap.size, 0, none⟩ = some (.int .i64 r.1.1) ∧ W.cell? ⟨w.heap.size, 1, none⟩ = some (.slice A1 r.1.2.length c1) ∧ W.cell? ⟨w.heap.size, 2, none⟩ = some (.slice A1b r.2.length c1b) ∧ W.cell? ⟨w5.heap.size, 0, none⟩ = some (.int .i64 r.1.1) ∧ W.cell? ⟨w5.heap.size, 1, none⟩ = some (.slice P3 r.1.2.length d3) ∧ W.cell? ⟨w5.heap.size, 2, none⟩ = some (.slice P3b r.2.length d3b)) from fun W hW => ⟨hW, (bx1_19.below hW bx1_19_l).cell 0, (bx1_19.below hW bx1_19_l).cell 1, (bx1_19.below hW bx1_19_l).cell 2, (bxx1_19.below hW bxx1_19_l).cell 0, (bxx1_19.below hW bxx1_19_l).cell 1, (bxx1_19.below hW bxx1_19_l).cell 2⟩)
      go_cut [18, 19] (fun s0 s1 wx => ∃ (Q_0 : Option Addr) (f_0 : Nat), s0 = .slice Q_0 R0.length f_0 ∧ s1 = .bool R1 ∧ OwnOps wx w20.heap.size wx.heap.size (.slice Q_0 R0.length f_0) R0 ∧ Below w20.heap.size w20 wx)
      case first =>
        go_region_held3 (fun W => Below w20.heap.size w20 W ∧ W.cell? ⟨w.heap.size, 0, none⟩ = some (.int .i64 r.1.1) ∧ W.cell? ⟨w.heap.size, 1, none⟩ = some (.slice A1 r.1.2.length c1) ∧ W.cell? ⟨w.heap.size, 2, none⟩ = some (.slice A1b r.2.length c1b) ∧ W.cell? ⟨w5.heap.size, 0, none⟩ = some (.int .i64 r.1.1) ∧ W.cell? ⟨w5.heap.size, 1, none⟩ = some (.slice P3 r.1.2.length d3) ∧ W.cell? ⟨w5.heap.size, 2, none⟩ = some (.slice P3b r.2.length d3b))
          (first | exact HS_w20.out _ (Below.refl _ _) | exact HS_w20.out _ (Below.refl _ _).drew | exact HS_w20.out _ (bthen (And.left (by assumption)) (by assumption)))
          (first
            | (go_at_call 24; refine (toIntS_any _ ar _ ?_ (by omega)).mono ?_; exact H0.out.on (bthen B_w20 (And.left (by assumption))); rintro e w_0 ⟨P0, d0, rfl, o0, g0⟩)
            | (go_at_call 29; refine (toRule_own _ r _ ?_ (by omega)).mono ?_; exact H1.out.on (bthen B_w20 (And.left (by assumption))); rintro e w_1 ⟨P1, d1, P1b, d1b, rfl, o1, g1⟩)
            | (go_at_call 24; refine (toIntS_any _ os _ ?_ (by omega)).mono ?_; exact H2.out.on (bthen B_w20 (And.left (by assumption))); rintro e w_2 ⟨P2, d2, rfl, o2, g2⟩)
            | (go_at_call 17; refine (implPlanBy_any _ _ _ ar r os _ (((o0.rd.on g1).on g2)) ((o1.rd.on g2)) (o2.rd) (by omega) (by omega) (by omega)).mono ?_; rw [← HR0.out]; try rw [← HR1.out]; rintro e w_r ⟨Q_0, f_0, rfl, oo_0, hb_r⟩))
        all_goals (go_wp2_with fail; go_meet; exact ⟨_, _, rfl, rfl, oo_0.mono (Nat.le_trans g0.size (Nat.le_trans g1.size (g2.size))) (Nat.le_refl _), And.left (by assumption)⟩)
      case rest =>
        obtain ⟨Q18_0, f18_0, rfl, rfl, o18_0, hb18⟩ := hcut
        clear HS_w20
        generalize wc = w21 at *
        have s_w21 := hb18.size
        have bx1_20 := bx1_19.below hb18 (by first | exact bx1_19.lt | omega)
        clear bx1_19
        have bx1_20_l := bx1_20.lt
        have w0_20 := w0_19.below hb18 (by omega)
        clear w0_19
        have bxx1_20 := bxx1_19.below hb18 (by first | exact bxx1_19.lt | omega)
        clear bxx1_19
        have bxx1_20_l := bxx1_20.lt
        have d0_20 := d0_19.below hb18 (by omega)
        clear d0_19
        have B_w21 := bthen B_w20 hb18
        have q97 : w21.cell? ⟨w.heap.size, 0, none⟩ = some (.int .i64 r.1.1) := bx1_20.cell 0
        have q98 : w21.cell? ⟨w.heap.size, 1, none⟩ = some (.slice A1 r.1.2.length c1) := bx1_20.cell 1
        have q99 : w21.cell? ⟨w.heap.size, 2, none⟩ = some (.slice A1b r.2.length c1b) := bx1_20.cell 2
        have q100 : w21.cell? ⟨w5.heap.size, 0, none⟩ = some (.int .i64 r.1.1) := bxx1_20.cell 0
        have q101 : w21.cell? ⟨w5.heap.size, 1, none⟩ = some (.slice P3 r.1.2.length d3) := bxx1_20.cell 1
        have q102 : w21.cell? ⟨w5.heap.size, 2, none⟩ = some (.slice P3b r.2.length d3b) := bxx1_20.cell 2
        go_wp2_with (fail)
        clear q97 q98 q99 q100 q101 q102
        refine (eqOpS_any _ _ R0 R0 _ (o18_0.rd.more (by omega)) (w0_20.rd.more (by omega)) (by have := HRs0.out; unfold szL at this; omega) (by have := HRs0.out; unfold szL at this; omega) (by have := HRs0.out; unfold szL at this; omega) (by have := HRs0.out; unfold szL at this; omega)).mono ?_
        rintro e w22 ⟨rfl, hb19⟩
        rw [show decide (R0 = R0) = true by simp]
        have s_w22 := hb19.size
        have bx1_21 := bx1_20.below hb19 (by first | exact bx1_20.lt | omega)
        clear bx1_20
        have bx1_21_l := bx1_21.lt
        have w0_21 := w0_20.below hb19 (by omega)
        clear w0_20
        have bxx1_21 := bxx1_20.below hb19 (by first | exact bxx1_20.lt | omega)
        clear bxx1_20
        have bxx1_21_l := bxx1_21.lt
        have d0_21 := d0_20.below hb19 (by omega)
        clear d0_20
        have h0_21 := o18_0.below hb19 (by omega)
        clear o18_0
        have B_w22 := bthen B_w21 hb19
        have q103 : w22.cell? ⟨w.heap.size, 0, none⟩ = some (.int .i64 r.1.1) := bx1_21.cell 0
        have q104 : w22.cell? ⟨w.heap.size, 1, none⟩ = some (.slice A1 r.1.2.length c1) := bx1_21.cell 1
        have q105 : w22.cell? ⟨w.heap.size, 2, none⟩ = some (.slice A1b r.2.length c1b) := bx1_21.cell 2
        have q106 : w22.cell? ⟨w5.heap.size, 0, none⟩ = some (.int .i64 r.1.1) := bxx1_21.cell 0
        have q107 : w22.cell? ⟨w5.heap.size, 1, none⟩ = some (.slice P3 r.1.2.length d3) := bxx1_21.cell 1
        have q108 : w22.cell? ⟨w5.heap.size, 2, none⟩ = some (.slice P3b r.2.length d3b) := bxx1_21.cell 2
        go_wp2_with (fail)
        clear q103 q104 q105 q106 q107 q108
        refine (uh_opsr d0_21 (by omega)).mono ?_
        rintro e w23 ⟨rfl, hb20⟩
        have s_w23 := hb20.size
        have bx1_22 := bx1_21.below hb20 (by first | exact bx1_21.lt | omega)
        clear bx1_21
        have bx1_22_l := bx1_22.lt
        have w0_22 := w0_21.below hb20 (by omega)
        clear w0_21
        have bxx1_22 := bxx1_21.below hb20 (by first | exact bxx1_21.lt | omega)
        clear bxx1_21
        have bxx1_22_l := bxx1_22.lt
        have d0_22 := d0_21.below hb20 (by omega)
        clear d0_21
        have h0_22 := h0_21.below hb20 (by omega)
        clear h0_21
        have B_w23 := bthen B_w22 hb20
        have q109 : w23.cell? ⟨w.heap.size, 0, none⟩ = some (.int .i64 r.1.1) := bx1_22.cell 0
        have q110 : w23.cell? ⟨w.heap.size, 1, none⟩ = some (.slice A1 r.1.2.length c1) := bx1_22.cell 1
        have q111 : w23.cell? ⟨w.heap.size, 2, none⟩ = some (.slice A1b r.2.length c1b) := bx1_22.cell 2
        have q112 : w23.cell? ⟨w5.heap.size, 0, none⟩ = some (.int .i64 r.1.1) := bxx1_22.cell 0
        have q113 : w23.cell? ⟨w5.heap.size, 1, none⟩ = some (.slice P3 r.1.2.length d3) := bxx1_22.cell 1
        have q114 : w23.cell? ⟨w5.heap.size, 2, none⟩ = some (.slice P3b r.2.length d3b) := bxx1_22.cell 2
        go_wp2_with (fail)
        clear q109 q110 q111 q112 q113 q114
        go_ret
        exact ⟨rfl, B_w23⟩

theorem lawPlanBy_in (v0 : Value) (v1 : Value) (v2 : Value) (ar : List Int) (r : LRule) (os : List Int) (w : World) (h0 : InInts w v0 ar) (h1 : InRule w v1 r) (h2 : InInts w v2 os) : Calls Try.prog 7 #[v0, v1, v2] w fun e w' => e = .returned (.bool true) ∧ Below w.heap.size w w' :=
  lawPlanBy_any v0 v1 v2 ar r os w h0.1 h1.1 h2.1 (ruleLens_in h1.2)

end Go.Proofs.Ytocpfmbieedpgaa
namespace Go.Proofs.Ytocpfmbieedpgaa
open Go.ChangeShapes Go.WideShapes Go.ChangeAt Go.RowKit

set_option maxRecDepth 100000 in
theorem fnExactPlanBy_lifted (os : Os) (started : os.Started) (H : Type) (enc : TypeId × Value → H) :
    ReturnsInHanded {} Try.checked os 7 .any (Rows.fnExactPlanBySpec.pre6 enc Try.prog Try.f7 Rows.fnExactPlanByRow.domain false) (Rows.fnExactPlanBySpec.post enc Try.prog Try.f7 false true false false) := by
  refine returnsInHanded_of_change (C := Try.checked) Try.own started (by kernel_rfl) Try.func7
    (ChangeSpec.witness6 (enc := enc) (C := Try.checked) false ⟨#[], #[.slice none 0 0, .agg #[.int .i64 0, .slice none 0 0, .slice none 0 0], .slice none 0 0], []⟩ 8 (by kernel_rfl) (by kernel_rfl) (by kernel_rfl) (by kernel_rfl)) ?_
  intro W base args ds gs before hval0 hW hcnd _
  have hval : ∀ (j : Nat) t v, Try.f7.params[j]? = some t → args[j]? = some v → Value.okWide Try.prog W .any base t v := hval0
  have hW' := hW
  obtain ⟨p, q, hA0, hV, rfl, hfz, hnd⟩ := hW
  have hA : DataW.TrodAll enc Try.prog W 0 (fun _ => true) true Try.f7.params.toList args.toList ds p := hA0
  rw [Try.params7] at hA hval
  obtain ⟨v0, vs0, d0, ds0, p0, q0, hargs, rfl, rfl, h0, r0⟩ := trodAll_cons hA
  obtain ⟨v1, vs1, d1, ds1, p1, q1, rfl, rfl, rfl, h1, r1⟩ := trodAll_cons r0
  obtain ⟨v2, vs2, d2, ds2, p2, q2, rfl, rfl, rfl, h2, r2⟩ := trodAll_cons r1
  obtain ⟨rfl, rfl, rfl⟩ := trodAll_nil r2
  obtain rfl : args = #[v0, v1, v2] := by cases args; simp_all
  obtain ⟨rfl, rfl⟩ := trodVars_none hV
  have lt0 : ∀ x ∈ p0, x.block < W.heap.size := by obtain ⟨m, hm⟩ := h0; exact DataW.trod_lt m _ _ _ hm
  obtain ⟨x0, w0⟩ := open_inInts (hval 0 23 v0 rfl rfl) h0
  have lt1 : ∀ x ∈ p1, x.block < W.heap.size := by obtain ⟨m, hm⟩ := h1; exact DataW.trod_lt m _ _ _ hm
  obtain ⟨x1, w1⟩ := open_inRule (hval 1 52 v1 rfl rfl) h1
  have lt2 : ∀ x ∈ p2, x.block < W.heap.size := by obtain ⟨m, hm⟩ := h2; exact DataW.trod_lt m _ _ _ hm
  obtain ⟨x2, w2⟩ := open_inInts (hval 2 23 v2 rfl rfl) h2
  clear hA0 hval0
  refine (lawPlanBy_in v0 v1 v2 x0 x1 x2 W w0 w1 w2).mono fun e W' ⟨he, bel⟩ => ?_
  subst he
  exact ⟨_, rfl, _, _, _, [], _, [], hW', trodAll_mk1 (shut_bool Try.underlying4 _), (trodAll_cons_mk (Below.trod Try.laidOut (by kernel_rfl) (of_decide_eq_true (by kernel_rfl)) h0 bel lt0) (trodAll_cons_mk (Below.trod Try.laidOut (by kernel_rfl) (of_decide_eq_true (by kernel_rfl)) h1 bel lt1) (trodAll_cons_mk (Below.trod Try.laidOut (by kernel_rfl) (of_decide_eq_true (by kernel_rfl)) h2 bel lt2) trodAll_mk0))), rfl, bel.frame _, fun h => by cases h⟩

theorem fnExactPlanBy_holds : Rows.FnExactPlanBySaid :=
  OpenClaim.holds_of_wide 7 Try.f7 rfl rfl rfl rfl rfl rfl rfl ⟨rfl, rfl, rfl, rfl, rfl⟩ rfl rfl rfl rfl rfl (by kernel_rfl) Try.func7 (by kernel_rfl)
    (of_decide_eq_true (by kernel_rfl)) (by unfold Func.isWrapper; rw [if_neg (of_decide_eq_false (by kernel_rfl))]; exact ⟨rfl, rfl⟩)
    (fun os started H enc _ => fnExactPlanBy_lifted os started H enc)

end Go.Proofs.Ytocpfmbieedpgaa
