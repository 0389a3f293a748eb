/-
  The law FnExactProofCut: for every input the call returns true, and each argument reads behind it as it read before. Conditions: none but the row's own.
-/
import Derived.Test.YtcoelmhlkfignaaMUs1
import Derived.Test.YtcoelmhlkfignaaMUs3
import Derived.Deep.RegionHeld3
import Derived.Deep.DeepCutAuto
import Derived.Deep.RegionWith
import Derived.Test.YtcoelmhlkfignaaRows
import Derived.Test.YtcoelmhlkfignaaMCu1
/-
  The walk of the specification's ProofCut.
-/
namespace Go.Proofs.Ytcoelmhlkfignaa
open Go.RowKit

/-- Both rows as they begin. -/
theorem cut_begin {w w3 : World} {g n : Nat} {N : Nat → Bool} {ss : List LStep} (hg : w.heap.size ≤ g) (hb : Below w.heap.size w w3) (hm : w3.rowIs g 4 n (fun j => .bool (N j))) :
    PlSt (g + 1) g n N ((w3.alloc (.cells #[] 3)).alloc (.cells #[] 46)) 0 (some ⟨w3.heap.size, 0, none⟩) 0 [] ∧ ColSt (g + 1) w ((w3.alloc (.cells #[] 3)).alloc (.cells #[] 46)) (cutTo ss N 0) (some ⟨w3.heap.size + 1, 0, none⟩) 0 [] := by
  have hlt := hm.lt
  refine ⟨⟨?_, fun i hi => absurd hi (by simp), (hm.alloc _).alloc _, Nat.lt_succ_self _⟩, ?_⟩
  · have h1 : OwnInts (w3.alloc (.cells #[] 3)) (g + 1) (w3.alloc (.cells #[] 3)).heap.size (.slice (some ⟨w3.heap.size, 0, none⟩) 0 0) [] := ⟨World.ownsRow_made w3 #[] 0 hlt (by decide) rfl, fun q hq => by simp [Value.ownBlock] at hq; subst hq; simp⟩
    exact (h1.below (below1 _ _) (Nat.le_refl _)).mono (Nat.le_refl _) (by simp)
  · have h2 := ColSt.empty (lo := g + 1) (w := w) (wr := w3.alloc (.cells #[] 3)) (hb.alloc hb.size _) (by omega) (by simp; omega)
    simpa [cutTo] using h2

set_option maxHeartbeats 4000000 in
set_option maxRecDepth 100000 in
theorem specProofCut_any (v : Value) (ss : List LStep) (at_ : Int) (w : World) (h : RdSteps w w.heap.size v ss) (hl : ss.length ≤ 1048576) (ht : totS ss ≤ 1048576) :
    Calls Try.prog 17 #[v, .int .i64 at_] w fun e w' => ∃ A' c', e = .returned (.tuple #[.slice A' (cutL ss at_).length c', .bool (cutOk ss at_)]) ∧ OwnSteps w' w.heap.size w'.heap.size (.slice A' (cutL ss at_).length c') (cutL ss at_) ∧ Below w.heap.size w w' := by
  obtain ⟨i0, hi0, hz0, hz1, hz2⟩ := info_parts Try.infoStep
  obtain ⟨i1, hi1, hy0, hy1, hy2⟩ := info_parts Try.infoInt
  have H := Lib.hid h
  obtain ⟨A, c, rfl, hc, _⟩ := h
  by_cases hf : formed ss = true
  · have CN := Lib.hid (show Calls Try.prog 21 #[.slice A ss.length c] w fun e w' => e = .returned (.bool true) ∧ w = w' from by rw [← hf]; exact l8Formed_any _ ss _ H.out hl ht)
    by_cases h1 : 0 ≤ at_ ∧ at_ < (ss.length : Int)
    · obtain ⟨a, rfl⟩ : ∃ a : Nat, at_ = (a : Int) := ⟨at_.toNat, by omega⟩
      have ha : a < ss.length := by omega
      have CI := Lib.hid (show Calls Try.prog 31 #[.int .i64 (a : Int), .int .i64 0, .int .i64 ((ss.length : Int) - 1)] w fun e w' => e = .returned (.bool true) ∧ w = w' from by
        rw [← (show decide (0 ≤ (a : Int) ∧ (a : Int) ≤ (ss.length : Int) - 1) = true by simp; omega)]
        exact l1In_any _ _ _ _)
      obtain ⟨e1, e2⟩ := cutL_yes hf ha
      rw [e2, e1]
      have HF := Lib.hid hf
      have hmk := run_make_row' (P := Try.prog) 54 4 (.bool false) 1 Try.underlying54 Try.infoBoolP rfl .i64 .i64 ss.length (by omega) (by omega)
      obtain ⟨N, hN⟩ : ∃ N, N = needB ss a := ⟨_, rfl⟩
      have HNE := Lib.hid hN
      rw [← hN]
      clear hf e1 e2 hN h1
      go_enter Try.func17, Try.ntmps17
      go_upto_region 3 with (first
        | (go_at_call 21; refine CN.out.mono ?_; rintro e w1 ⟨rfl, rfl⟩)
        | (go_at_call 31; refine CI.out.mono ?_; rintro e w1 ⟨rfl, rfl⟩))
      go_upto_region 4 with fail
      obtain ⟨g, hg⟩ : ∃ g, g = w.heap.size := ⟨_, rfl⟩
      obtain ⟨w1, hw1⟩ : ∃ w1, w1 = w.alloc (Obj.cells (madeCells #[Value.bool false] ss.length) 4) := ⟨_, rfl⟩
      have HR1 := Lib.hid (show w1.rowIs g 4 ss.length (fun j => .bool ((fun _ => false : Nat → Bool) j)) from by rw [hw1, hg]; exact World.rowIs_made _ _ _ _)
      have HB1 := Lib.hid (show Below w.heap.size w w1 by rw [hw1]; exact below1 _ _)
      have CL := Lib.hid (l8Need_any ss g hl ht HF.out (a + 1) a (by omega) ha (fun _ => false) (.slice A ss.length c) w1 (by rw [hg]; exact H.out.below HB1.out (Nat.le_refl _)) HR1.out (fun j _ hj => (by simp at hj)))
      have HG := Lib.hid hg
      rw [← hw1, ← hg]
      clear hw1 hg
      go_upto_region 5 with (go_at_call 32; refine CL.out.mono ?_; rintro e w3 ⟨rfl, M', r3, m3, o3⟩; have H3 := Lib.hid (And.intro r3 (And.intro m3 o3)); clear r3 m3 o3)
      have HM3 := Lib.hid (show w3.rowIs g 4 ss.length (fun j => .bool (N j)) from H3.out.1.congr fun j _ => by
        have h1 := H3.out.2.1 j
        have h2 := needB_iff (ss := ss) (i := a) (l := j)
        rw [← HNE.out] at h2
        have : M' j = N j := by cases e1 : M' j <;> cases e2 : N j <;> simp_all
        simp [this])
      have HB3 := Lib.hid (show Below w.heap.size w w3 from HB1.out.trans (H3.out.2.2.below (by rw [HG.out]; exact Nat.le_refl _) HB1.out.size))
      go_upto_region 7 with fail
      obtain ⟨w5, hw5⟩ : ∃ w5, w5 = (w3.alloc (Obj.cells #[] 3)).alloc (Obj.cells #[] 46) := ⟨_, rfl⟩
      have HBG := Lib.hid (show PlSt (g + 1) g ss.length N w5 0 (some ⟨w3.heap.size, 0, none⟩) 0 [] ∧ ColSt (g + 1) w w5 (cutTo ss N 0) (some ⟨w3.heap.size + 1, 0, none⟩) 0 [] from by rw [hw5]; exact cut_begin (by rw [HG.out]; exact Nat.le_refl _) HB3.out HM3.out)
      try rw [← hw5]
      clear hw5
      go_wp2_with fail
      go_loopw [7, 8, 9] (fun p o i wr => ∃ (k : Nat) (AP : Option Addr) (cp : Nat) (A' : Option Addr) (c' : Nat) (av : List Value), k ≤ a + 1 ∧ i = .int .i64 k ∧ p = .slice AP k cp ∧ o = .slice A' (cntN N k) c' ∧ PlSt (g + 1) g ss.length N wr k AP cp av ∧ ColSt (g + 1) w wr (cutTo ss N k) A' c' av) (fun _ _ i _ => a + 1 - (intOf i).toNat)
      case atStart => exact ⟨0, _, 0, _, 0, [], Nat.zero_le _, rfl, rfl, rfl, HBG.out.1, HBG.out.2⟩
      case round =>
        obtain ⟨k, AP, cp, A', c', av, hk, rfl, rfl, rfl, hpl, hcol⟩ := hrel
        have HPL := Lib.hid hpl
        have HCOL := Lib.hid hcol
        have HPN := Lib.hid (plsN_len N k)
        have HCN := Lib.hid (cutTo_len ss N k)
        have hcle := cntN_le N k
        clear hpl hcol
        by_cases hlt : k ≤ a
        · have hki : (k : Int) ≤ (a : Int) := by omega
          have hks : k < ss.length := by omega
          have hksi : (k : Int) < (ss.length : Int) := by omega
          obtain ⟨P, hP⟩ : ∃ P, P = plsN N k := ⟨_, rfl⟩
          have HP := Lib.hid hP
          obtain ⟨m, hm⟩ : ∃ m, m = cntN N k := ⟨_, rfl⟩
          have HM := Lib.hid hm
          rw [← hm] at hcle ⊢
          clear hP hm
          go_upto_region 11 with (at_builtin; go_loud (refine wpList_append_lies _ rfl (.tmp 37) (.tmp 40) 38 rfl (g + 1) 3 i1 (.int .i64 0) 1 8 Try.underlying38 hi1 hy0 hy1 hy2 rfl (by decide) (.slice AP k cp) k (P.map (Value.int .i64)) rfl ?c1 ⟨wr.heap.size, 0, none⟩ 1 1 [.int .i64 (m : Int)] rfl rfl (news1 _ _ _) ?c2 (by omega) (by unfold maxLen; omega) (by omega) ?c3 _ rfl ?_))
          case c1 => have h0 := HPL.out.own.1; rw [← HP.out] at h0; rw [show P.length = k by rw [HP.out, HPN.out]] at h0; exact h0.alloc _
          case c2 => intro u hu; simp at hu; subst hu; rfl
          case c3 => have := HCOL.out.lo2; simp; omega
          intro g2 cap w4 hown hg hat _
          have hpush := PlSt.push (N := N) (k := k) (w4 := w4) (g2 := g2) (cap := cap) HPL.out HCOL.out (by rw [HPN.out]; exact hg) (by rw [HPN.out, ← HM.out, ← HP.out]; exact hown) (by rw [HPN.out]; simpa using hat)
          have HPL := Lib.hid hpush.1
          have HCOL := Lib.hid hpush.2.1
          clear hpush hown hg hat
          have q0 := HPL.out.marks.cell hks
          have hgl := HPL.out.marks.lt
          obtain ⟨nk, hnk⟩ : ∃ nk, nk = N k := ⟨_, rfl⟩
          rw [← hnk] at q0
          cases nk
          · have HS := Lib.hid (cutTo_no (ss := ss) hnk.symm)
            have HC1 := Lib.hid (cntN_no hnk.symm)
            clear hnk
            go_wp2_with fail
            go_roundw
            case rel => exact ⟨k + 1, _, _, _, _, av, by omega, by go_num, rfl, by rw [HC1.out, HM.out], HPL.out, by rw [HS.out]; exact HCOL.out⟩
            case measure => simp [intOf]; omega
          · have HNK := Lib.hid hnk.symm
            clear hnk
            obtain ⟨b, o, A1, c1, A2, c2, A3, c3, rfl, hbB, ⟨k0, k1, k2, k3, k4⟩, r1, r2, r3⟩ := H.out.get hks
            have BE := HCOL.out.below
            have k0 := (BE.cell (p := ⟨b, o + k * 5, none⟩) hbB).trans k0
            have k1 := (BE.cell (p := ⟨b, o + k * 5 + 1, none⟩) hbB).trans k1
            have k2 := (BE.cell (p := ⟨b, o + k * 5 + 2, none⟩) hbB).trans k2
            have k3 := (BE.cell (p := ⟨b, o + k * 5 + 3, none⟩) hbB).trans k3
            have k4 := (BE.cell (p := ⟨b, o + k * 5 + 4, none⟩) hbB).trans k4
            have hln := szSt_le_totS ss k hks
            have HLN := Lib.hid (show szSt ss[k] ≤ 1048576 by omega)
            have HRR := Lib.hid (And.intro r1 (And.intro r2 r3))
            have HBB := Lib.hid hbB
            clear r1 r2 r3 hln
            go_upto_region 12 with fail
            have CF := Lib.hid (show ∀ W, Below w4.heap.size w4 W → Calls Try.prog 33 #[.agg #[.int .i64 ss[k].1.1, .slice A1 ss[k].1.2.length c1]] W fun e w' => ∃ A' c', e = .returned (.agg #[.int .i64 ss[k].1.1, .slice A' ss[k].1.2.length c']) ∧ OwnInts w' W.heap.size w'.heap.size (.slice A' ss[k].1.2.length c') ss[k].1.2 ∧ Below W.heap.size W w' from fun W hW =>
              l1Copy_any _ ss[k].1 W ⟨_, rfl, (HRR.out.1.on HCOL.out.below).on hW⟩ (by have := HLN.out; unfold szSt at this; omega))
            have CI3 := Lib.hid (show ∀ W, Below w4.heap.size w4 W → Calls Try.prog 34 #[.slice A2 ss[k].2.2.1.length c2] W fun e w' => ∃ A' c', e = .returned (.slice A' ss[k].2.2.1.length c') ∧ OwnInts w' W.heap.size w'.heap.size (.slice A' ss[k].2.2.1.length c') ss[k].2.2.1 ∧ Below W.heap.size W w' from fun W hW =>
              l3Copy_any _ ss[k].2.2.1 W ((HRR.out.2.1.on HCOL.out.below).on hW) (by have := HLN.out; unfold szSt at this; omega))
            obtain ⟨SS, hSS⟩ : ∃ SS : World → Prop, SS = (fun W => Below w4.heap.size w4 W ∧ W.cell? ⟨b, o + k * 5, none⟩ = some (.int .i64 ss[k].1.1) ∧ W.cell? ⟨b, o + k * 5 + 1, none⟩ = some (.slice A1 ss[k].1.2.length c1) ∧ W.cell? ⟨b, o + k * 5 + 2, none⟩ = some (.int .i64 ss[k].2.1) ∧ W.cell? ⟨b, o + k * 5 + 3, none⟩ = some (.slice A2 ss[k].2.2.1.length c2)) := ⟨_, rfl⟩
            have HBQ := Lib.hid (show ∀ W, SS W → (Below w4.heap.size w4 W ∧ W.cell? ⟨b, o + k * 5, none⟩ = some (.int .i64 ss[k].1.1) ∧ W.cell? ⟨b, o + k * 5 + 1, none⟩ = some (.slice A1 ss[k].1.2.length c1) ∧ W.cell? ⟨b, o + k * 5 + 2, none⟩ = some (.int .i64 ss[k].2.1) ∧ W.cell? ⟨b, o + k * 5 + 3, none⟩ = some (.slice A2 ss[k].2.2.1.length c2)) from by rw [hSS]; exact fun W hW => hW)
            have HS := Lib.hid (show ∀ W, Below w4.heap.size w4 W → SS W from by
              rw [hSS]
              exact fun W hW => ⟨hW, (hW.cell (World.block_lt_of_cell? _ _ k0)).trans k0, (hW.cell (World.block_lt_of_cell? _ _ k1)).trans k1, (hW.cell (World.block_lt_of_cell? _ _ k2)).trans k2, (hW.cell (World.block_lt_of_cell? _ _ k3)).trans k3⟩)
            clear hSS
            go_cut [10] (fun s10 wx => ∃ (gb : Nat) (P1 : Option Addr) (d1 : Nat) (P2 : Option Addr) (d2 : Nat), s10 = .pointer (some ⟨gb, 0, none⟩) ∧ BoxSt w4 wx gb ss[k] [] P1 d1 P2 d2 none 0)
            case first =>
              have BB : Below w4.heap.size w4 w4.drew := (Below.refl _ _).drew
              have SB := HS.out _ BB
              refine wp_region_rel SS 19 20 (by kernel_rfl) rfl ?_
              refine wpAnyR_pure (i := 0) (oi := _) ?v0 rfl rfl (by kernel_rfl) (by decide) (fun _ _ _ h => h) rfl ?hy0 (fun _ => SB) ?rest0
              case hy0 => (intro W; go_simp; (try with_reducible rfl))
              try simp only [List.setIfInBounds_toArray, List.set_cons_zero, List.set_cons_succ]
              refine wpAnyR_pure (i := 1) (oi := _) ?v1 rfl rfl (by kernel_rfl) (by decide) (fun _ _ _ h => h) rfl ?hy1 (fun _ => SB) ?rest1
              case hy1 => (intro W; go_simp; (try with_reducible rfl))
              try simp only [List.setIfInBounds_toArray, List.set_cons_zero, List.set_cons_succ]
              refine wpAnyR_pure (i := 2) (oi := _) ?v2 rfl rfl (by kernel_rfl) (by decide) (fun _ _ _ h => h) rfl ?hy2 (fun _ => SB) ?rest2
              case hy2 => (intro W; go_simp; (try with_reducible rfl))
              try simp only [List.setIfInBounds_toArray, List.set_cons_zero, List.set_cons_succ]
              refine wpAnyR_pure (i := 3) (oi := _) ?v3 rfl rfl (by kernel_rfl) (by decide) (fun _ _ _ h => h) rfl ?hy3 (fun _ => SB) ?rest3
              case hy3 => (intro W; go_simp; (try with_reducible rfl))
              try simp only [List.setIfInBounds_toArray, List.set_cons_zero, List.set_cons_succ]
              refine wpAnyR_take (i := 4) (oi := _) ?v4 rfl rfl (by kernel_rfl) (fun _ _ _ h => h) rfl ?hy4 SB ?rest4
              case hy4 => (intro W hW; obtain ⟨_, E0, E1, E2, E3⟩ := HBQ.out W hW; go_simp; (try with_reducible rfl))
              try simp only [List.setIfInBounds_toArray, List.set_cons_zero, List.set_cons_succ]
              refine wpAnyR_pure (i := 6) (oi := _) ?v6 rfl rfl (by kernel_rfl) (by decide) (fun _ _ _ h => h) rfl ?hy6 (fun _ => SB) ?rest6
              case hy6 => (intro W; go_simp; (try with_reducible rfl))
              try simp only [List.setIfInBounds_toArray, List.set_cons_zero, List.set_cons_succ]
              refine wpAnyR_pure (i := 7) (oi := _) ?v7 rfl rfl (by kernel_rfl) (by decide) (fun _ _ _ h => h) rfl ?hy7 (fun _ => SB) ?rest7
              case hy7 => (intro W; go_simp; (try with_reducible rfl))
              try simp only [List.setIfInBounds_toArray, List.set_cons_zero, List.set_cons_succ]
              refine wpAnyR_pure (i := 8) (oi := _) ?v8 rfl rfl (by kernel_rfl) (by decide) (fun _ _ _ h => h) rfl ?hy8 (fun _ => SB) ?rest8
              case hy8 => (intro W; go_simp; (try with_reducible rfl))
              try simp only [List.setIfInBounds_toArray, List.set_cons_zero, List.set_cons_succ]
              refine wpAnyR_pure (i := 9) (oi := _) ?v9 rfl rfl (by kernel_rfl) (by decide) (fun _ _ _ h => h) rfl ?hy9 (fun _ => SB) ?rest9
              case hy9 => (intro W; go_simp; (try with_reducible rfl))
              try simp only [List.setIfInBounds_toArray, List.set_cons_zero, List.set_cons_succ]
              refine wpAnyR_take (i := 10) (oi := _) ?v10 rfl rfl (by kernel_rfl) (fun _ _ _ h => h) rfl ?hy10 SB ?rest10
              case hy10 => (intro W hW; obtain ⟨_, E0, E1, E2, E3⟩ := HBQ.out W hW; go_simp; (try with_reducible rfl))
              try simp only [List.setIfInBounds_toArray, List.set_cons_zero, List.set_cons_succ]
              refine wpAnyR_pure (i := 11) (oi := _) ?v11 rfl rfl (by kernel_rfl) (by decide) (fun _ _ _ h => h) rfl ?hy11 (fun _ => SB) ?rest11
              case hy11 => (intro W; go_simp; (try with_reducible rfl))
              try simp only [List.setIfInBounds_toArray, List.set_cons_zero, List.set_cons_succ]
              refine wpAnyR_pure (i := 12) (oi := _) ?v12 rfl rfl (by kernel_rfl) (by decide) (fun _ _ _ h => h) rfl ?hy12 (fun _ => SB) ?rest12
              case hy12 => (intro W; go_simp; (try with_reducible rfl))
              try simp only [List.setIfInBounds_toArray, List.set_cons_zero, List.set_cons_succ]
              refine wpAnyR_pure (i := 13) (oi := _) ?v13 rfl rfl (by kernel_rfl) (by decide) (fun _ _ _ h => h) rfl ?hy13 (fun _ => SB) ?rest13
              case hy13 => (intro W; go_simp; (try with_reducible rfl))
              try simp only [List.setIfInBounds_toArray, List.set_cons_zero, List.set_cons_succ]
              refine wpAnyR_pure (i := 14) (oi := _) ?v14 rfl rfl (by kernel_rfl) (by decide) (fun _ _ _ h => h) rfl ?hy14 (fun _ => SB) ?rest14
              case hy14 => (intro W; go_simp; (try with_reducible rfl))
              try simp only [List.setIfInBounds_toArray, List.set_cons_zero, List.set_cons_succ]
              refine wpAnyR_take (i := 15) (oi := _) ?v15 rfl rfl (by kernel_rfl) (fun _ _ _ h => h) rfl ?hy15 SB ?rest15
              case hy15 => (intro W hW; obtain ⟨_, E0, E1, E2, E3⟩ := HBQ.out W hW; go_simp; (try with_reducible rfl))
              try simp only [List.setIfInBounds_toArray, List.set_cons_zero, List.set_cons_succ]
              refine wpAnyR_two (i := 5) (j := 18) (by kernel_rfl) rfl rfl (fun K hK => ?_) (fun K hK => ?_)
              · try rw [if_pos (show Region.wanted _ _ = true from rfl)]
                go_simp
                refine (CF.out _ BB).mono ?_
                rintro e W1 ⟨P1, d1, rfl, o1, b1⟩
                have BB1 := bthen BB b1
                have SB := HS.out _ BB1
                have z1 := b1.size
                refine hK.out _ _ (fun _ => SB) ?_
                clear hK K
                try simp only [List.setIfInBounds_toArray, List.set_cons_zero, List.set_cons_succ, Act.put]
                refine wpAnyR_two (i := 16) (j := 18) (by kernel_rfl) rfl rfl (fun K hK => ?_) (fun K hK => ?_)
                · try rw [if_pos (show Region.wanted _ _ = true from rfl)]
                  go_simp
                  refine (CI3.out _ BB1).mono ?_
                  rintro e W2 ⟨P2, d2, rfl, o2, b2⟩
                  have BB2 := bthen BB1 b2
                  have SB := HS.out _ BB2
                  have z2 := b2.size
                  refine hK.out _ _ (fun _ => SB) ?_
                  clear hK K
                  try simp only [List.setIfInBounds_toArray, List.set_cons_zero, List.set_cons_succ, Act.put]
                  refine wpAnyR_pure (i := 17) (oi := _) ?v17a rfl rfl (by kernel_rfl) (by decide) (fun _ _ _ h => h) rfl ?hy17a (fun _ => SB) ?rest17a
                  case hy17a => (intro W; go_simp; (try with_reducible rfl))
                  try simp only [List.setIfInBounds_toArray, List.set_cons_zero, List.set_cons_succ]
                  refine wpAnyR_one (i := 18) (by kernel_rfl) rfl (fun K hK => ?_)
                  try rw [if_pos (show Region.wanted _ _ = true from rfl)]
                  go_simp
                  obtain ⟨W3, hWn⟩ : ∃ W3, W3 = W2.alloc (Obj.cells #[Value.int IntKind.i64 0, Value.slice none 0 0, Value.int IntKind.i64 0, Value.slice none 0 0, Value.slice none 0 0] 46) := ⟨_, rfl⟩
                  try rw [show (w4.alloc (Obj.cells #[Value.int IntKind.i64 0, Value.slice none 0 0, Value.int IntKind.i64 0, Value.slice none 0 0, Value.slice none 0 0] 46)).drew = w4.drew.alloc (Obj.cells #[Value.int IntKind.i64 0, Value.slice none 0 0, Value.int IntKind.i64 0, Value.slice none 0 0, Value.slice none 0 0] 46) from rfl]
                  rw [← hWn]
                  have b3 : Below W2.heap.size W2 W3 := by rw [hWn]; exact below1 _ _
                  have X : Blk W3 W2.heap.size 46 #[Value.int IntKind.i64 0, Value.slice none 0 0, Value.int IntKind.i64 0, Value.slice none 0 0, Value.slice none 0 0] := by rw [hWn]; exact Blk.new _ _ _
                  have BB3 := bthen BB2 b3
                  have SB := HS.out _ BB3
                  have z3 := X.lt
                  have z3s := b3.size
                  clear hWn
                  refine hK.out _ _ (fun _ => SB) ?_
                  clear hK K
                  try simp only [List.setIfInBounds_toArray, List.set_cons_zero, List.set_cons_succ, Act.put]
                  refine wpAnyR_one (i := 19) (by kernel_rfl) rfl (fun K hK => ?_)
                  try rw [if_pos (show Region.wanted _ _ = true from rfl)]
                  have y0 := X.cell 0
                  have y1 := X.cell 1
                  have y2 := X.cell 2
                  have y3 := X.cell 3
                  have y4 := X.cell 4
                  have f0 := X.frozen 0
                  have f1 := X.frozen 1
                  have f2 := X.frozen 2
                  have f3 := X.frozen 3
                  have f4 := X.frozen 4
                  simp at y0 y1 y2 y3 y4
                  go_simp
                  refine hK.out _ _ (fun hf => absurd hf (by decide)) ?_
                  clear hK K y0 y1 y2 y3 y4 f0 f1 f2 f3 f4
                  refine wpAnyR_done (by kernel_rfl) ?_
                  go_wp2_with (fail)
                  go_meet
                  exact ⟨_, P1, d1, P2, d2, rfl, BoxSt.made BB3 BB2.size X ((o1.below b2 (Nat.le_refl _)).below b3 z2) (o2.below b3 (Nat.le_refl _)) BB.size (Nat.le_refl _) z1 z3s (by omega) (.inr z2) (.inr (Nat.le_refl _))⟩
                · try rw [if_pos (show Region.wanted _ _ = true from rfl)]
                  go_simp
                  obtain ⟨W2, hWn⟩ : ∃ W2, W2 = W1.alloc (Obj.cells #[Value.int IntKind.i64 0, Value.slice none 0 0, Value.int IntKind.i64 0, Value.slice none 0 0, Value.slice none 0 0] 46) := ⟨_, rfl⟩
                  try rw [show (w4.alloc (Obj.cells #[Value.int IntKind.i64 0, Value.slice none 0 0, Value.int IntKind.i64 0, Value.slice none 0 0, Value.slice none 0 0] 46)).drew = w4.drew.alloc (Obj.cells #[Value.int IntKind.i64 0, Value.slice none 0 0, Value.int IntKind.i64 0, Value.slice none 0 0, Value.slice none 0 0] 46) from rfl]
                  rw [← hWn]
                  have b3 : Below W1.heap.size W1 W2 := by rw [hWn]; exact below1 _ _
                  have X : Blk W2 W1.heap.size 46 #[Value.int IntKind.i64 0, Value.slice none 0 0, Value.int IntKind.i64 0, Value.slice none 0 0, Value.slice none 0 0] := by rw [hWn]; exact Blk.new _ _ _
                  have BB2 := bthen BB1 b3
                  have SB := HS.out _ BB2
                  have z3 := X.lt
                  have z3s := b3.size
                  clear hWn
                  refine hK.out _ _ (fun _ => SB) ?_
                  clear hK K
                  try simp only [List.setIfInBounds_toArray, List.set_cons_zero, List.set_cons_succ, Act.put]
                  refine wpAnyR_one (i := 16) (by kernel_rfl) rfl (fun K hK => ?_)
                  try rw [if_pos (show Region.wanted _ _ = true from rfl)]
                  go_simp
                  refine (CI3.out _ BB2).mono ?_
                  rintro e W3 ⟨P2, d2, rfl, o2, b2⟩
                  have BB3 := bthen BB2 b2
                  have SB := HS.out _ BB3
                  have z2 := b2.size
                  have X := X.below b2 z3
                  refine hK.out _ _ (fun _ => SB) ?_
                  clear hK K
                  try simp only [List.setIfInBounds_toArray, List.set_cons_zero, List.set_cons_succ, Act.put]
                  refine wpAnyR_pure (i := 17) (oi := _) ?v17b rfl rfl (by kernel_rfl) (by decide) (fun _ _ _ h => h) rfl ?hy17b (fun _ => SB) ?rest17b
                  case hy17b => (intro W; go_simp; (try with_reducible rfl))
                  try simp only [List.setIfInBounds_toArray, List.set_cons_zero, List.set_cons_succ]
                  refine wpAnyR_one (i := 19) (by kernel_rfl) rfl (fun K hK => ?_)
                  try rw [if_pos (show Region.wanted _ _ = true from rfl)]
                  have y0 := X.cell 0
                  have y1 := X.cell 1
                  have y2 := X.cell 2
                  have y3 := X.cell 3
                  have y4 := X.cell 4
                  have f0 := X.frozen 0
                  have f1 := X.frozen 1
                  have f2 := X.frozen 2
                  have f3 := X.frozen 3
                  have f4 := X.frozen 4
                  simp at y0 y1 y2 y3 y4
                  go_simp
                  refine hK.out _ _ (fun hf => absurd hf (by decide)) ?_
                  clear hK K y0 y1 y2 y3 y4 f0 f1 f2 f3 f4
                  refine wpAnyR_done (by kernel_rfl) ?_
                  go_wp2_with (fail)
                  go_meet
                  exact ⟨_, P1, d1, P2, d2, rfl, BoxSt.made BB3 BB1.size X ((o1.below b3 (Nat.le_refl _)).below b2 z3s) o2 BB.size z3s z1 (Nat.le_refl _) (by omega) (.inr (Nat.le_refl _)) (.inl z3)⟩
              · try rw [if_pos (show Region.wanted _ _ = true from rfl)]
                go_simp
                obtain ⟨W1, hWn⟩ : ∃ W1, W1 = w4.drew.alloc (Obj.cells #[Value.int IntKind.i64 0, Value.slice none 0 0, Value.int IntKind.i64 0, Value.slice none 0 0, Value.slice none 0 0] 46) := ⟨_, rfl⟩
                try rw [show (w4.alloc (Obj.cells #[Value.int IntKind.i64 0, Value.slice none 0 0, Value.int IntKind.i64 0, Value.slice none 0 0, Value.slice none 0 0] 46)).drew = w4.drew.alloc (Obj.cells #[Value.int IntKind.i64 0, Value.slice none 0 0, Value.int IntKind.i64 0, Value.slice none 0 0, Value.slice none 0 0] 46) from rfl]
                rw [← hWn]
                have b3 : Below w4.drew.heap.size w4.drew W1 := by rw [hWn]; exact below1 _ _
                have X : Blk W1 w4.heap.size 46 #[Value.int IntKind.i64 0, Value.slice none 0 0, Value.int IntKind.i64 0, Value.slice none 0 0, Value.slice none 0 0] := by rw [hWn]; exact Blk.new _ _ _
                have BB1 := bthen BB b3
                have SB := HS.out _ BB1
                have z3 := X.lt
                have z3s := b3.size
                clear hWn
                refine hK.out _ _ (fun _ => SB) ?_
                clear hK K
                try simp only [List.setIfInBounds_toArray, List.set_cons_zero, List.set_cons_succ, Act.put]
                refine wpAnyR_one (i := 5) (by kernel_rfl) rfl (fun K hK => ?_)
                try rw [if_pos (show Region.wanted _ _ = true from rfl)]
                go_simp
                refine (CF.out _ BB1).mono ?_
                rintro e W2 ⟨P1, d1, rfl, o1, b1⟩
                have BB2 := bthen BB1 b1
                have SB := HS.out _ BB2
                have z1 := b1.size
                have X := X.below b1 z3
                refine hK.out _ _ (fun _ => SB) ?_
                clear hK K
                try simp only [List.setIfInBounds_toArray, List.set_cons_zero, List.set_cons_succ, Act.put]
                refine wpAnyR_one (i := 16) (by kernel_rfl) rfl (fun K hK => ?_)
                try rw [if_pos (show Region.wanted _ _ = true from rfl)]
                go_simp
                refine (CI3.out _ BB2).mono ?_
                rintro e W3 ⟨P2, d2, rfl, o2, b2⟩
                have BB3 := bthen BB2 b2
                have SB := HS.out _ BB3
                have z2 := b2.size
                have X := X.below b2 (Nat.lt_of_lt_of_le z3 z1)
                refine hK.out _ _ (fun _ => SB) ?_
                clear hK K
                try simp only [List.setIfInBounds_toArray, List.set_cons_zero, List.set_cons_succ, Act.put]
                refine wpAnyR_pure (i := 17) (oi := _) ?v17c rfl rfl (by kernel_rfl) (by decide) (fun _ _ _ h => h) rfl ?hy17c (fun _ => SB) ?rest17c
                case hy17c => (intro W; go_simp; (try with_reducible rfl))
                try simp only [List.setIfInBounds_toArray, List.set_cons_zero, List.set_cons_succ]
                refine wpAnyR_one (i := 19) (by kernel_rfl) rfl (fun K hK => ?_)
                try rw [if_pos (show Region.wanted _ _ = true from rfl)]
                have y0 := X.cell 0
                have y1 := X.cell 1
                have y2 := X.cell 2
                have y3 := X.cell 3
                have y4 := X.cell 4
                have f0 := X.frozen 0
                have f1 := X.frozen 1
                have f2 := X.frozen 2
                have f3 := X.frozen 3
                have f4 := X.frozen 4
                simp at y0 y1 y2 y3 y4
                go_simp
                refine hK.out _ _ (fun hf => absurd hf (by decide)) ?_
                clear hK K y0 y1 y2 y3 y4 f0 f1 f2 f3 f4
                refine wpAnyR_done (by kernel_rfl) ?_
                go_wp2_with (fail)
                go_meet
                exact ⟨_, P1, d1, P2, d2, rfl, BoxSt.made BB3 BB.size X (o1.below b2 (Nat.le_refl _)) o2 BB1.size (Nat.le_refl _) z1 (Nat.le_refl _) z2 (.inl z3) (.inl (Nat.lt_of_lt_of_le z3 z1))⟩
            case rest =>
              obtain ⟨gb, P1, d1, P2, d2, rfl, hbox⟩ := hcut
              have HBOX := Lib.hid hbox
              obtain ⟨F, hF⟩ : ∃ F, F = (cutStep N ss[k]).2.2.2 := ⟨_, rfl⟩
              have HFE := Lib.hid hF
              have hFl : F.length = ss[k].2.2.2.length := by rw [hF]; simp [cutStep]
              have HRP := Lib.hid (show RdInts w4 w4.heap.size (.slice (some ⟨g2, 0, none⟩) (k + 1) cap) (plsN N (k + 1)) from by have := HPL.out.own.rd; rw [plsN_len] at this; exact this)
              have hln := HLN.out
              unfold szSt at hln
              clear hbox hF q0 k0 k1 k2 k3 CF CI3 HBQ HS
              go_wp2_with fail
              go_loopw [11] (fun x wy => ∃ (j : Nat) (P3 : Option Addr) (d3 : Nat), j ≤ ss[k].2.2.2.length ∧ x = .int .i64 j ∧ BoxSt w4 wy gb ss[k] (F.take j) P1 d1 P2 d2 P3 d3) (fun x _ => ss[k].2.2.2.length - (intOf x).toNat)
              case atStart => exact ⟨0, _, _, Nat.zero_le _, rfl, HBOX.out⟩
              case round =>
                obtain ⟨j, P3, d3, hj, rfl, hbox⟩ := hrel
                have HB := Lib.hid hbox
                have hfl : (F.take j).length = j := by rw [List.length_take]; omega
                have x4 : wr.cell? ⟨gb, 4, none⟩ = some (.slice P3 j d3) := by have := hbox.blk.cell 4; rw [hfl] at this; exact this
                have f4 := hbox.blk.frozen 4
                have hgbl := hbox.blk.lt
                have HBW := Lib.hid hbox.below
                have k4 := (HBW.out.cell (World.block_lt_of_cell? _ _ k4)).trans k4
                clear hbox
                by_cases hjl : j < ss[k].2.2.2.length
                · obtain ⟨b', o', rfl, hb', q1⟩ := ((HRR.out.2.2.on HCOL.out.below).on HBW.out).getS hjl
                  obtain ⟨z0, z1, z2⟩ := cut_from HF.out hks (by rw [← HNE.out]; exact HNK.out) _ (List.getElem_mem hjl)
                  obtain ⟨fn, hfn⟩ : ∃ n : Nat, ss[k].2.2.2[j] = (n : Int) := ⟨ss[k].2.2.2[j].toNat, by omega⟩
                  rw [hfn] at q1 z0 z1
                  have hfk : fn < k + 1 := by omega
                  have hfki : (fn : Int) < (k : Int) + 1 := by omega
                  obtain ⟨b2, o2, e2, hb2, x1⟩ := (HRP.out.on HBW.out).getS (k := fn) (by rw [plsN_len]; exact hfk)
                  injection e2 with e2
                  injection e2 with e2 e3 _
                  subst e2 e3
                  rw [plsN_at N (k := k + 1) (j := fn) (by rw [plsN_len]; exact hfk)] at x1
                  simp only [Nat.zero_add] at x1
                  obtain ⟨y, hy⟩ : ∃ y, y = cntN N fn := ⟨_, rfl⟩
                  rw [← hy] at x1
                  have HFS := Lib.hid (show F.take (j + 1) = F.take j ++ [(y : Int)] from by
                    rw [take_snoc F j (by rw [hFl]; exact hjl)]
                    congr 2
                    simp only [HFE.out, cutStep, List.getElem_map, hfn, hy, Int.toNat_natCast])
                  have hji : (j : Int) < (ss[k].2.2.2.length : Int) := by omega
                  obtain ⟨fs, hfs⟩ : ∃ fs, fs = F.take j := ⟨_, rfl⟩
                  have HFF := Lib.hid hfs
                  have HOW := Lib.hid (show wr.ownsRow w4.heap.size 3 1 (.slice P3 j d3) j (fs.map (Value.int .i64)) from by have := HB.out.o3.1; rw [hfl, ← hfs] at this; exact this)
                  rw [← hfs] at HB hfl HFS
                  have HFL := Lib.hid hfl
                  clear hfs hfn z2 hy hb' hb2 hFl hfl
                  have h4s : w4.heap.size ≤ wr.heap.size := HBW.out.size
                  have HBL := Lib.hid hgbl
                  go_upto_region 16 with fail
                  go_region_law (first
                    | (refine step_append_lies _ rfl (.tmp 75) (.tmp 87) 38 rfl w4.heap.size 3 i1 (.int .i64 0) 1 8 Try.underlying38 hi1 hy0 hy1 hy2 rfl (by decide) (.slice P3 j d3) j (fs.map (Value.int .i64)) rfl ?_ ⟨_, 0, none⟩ 1 1 [.int .i64 (y : Int)] rfl rfl ?_ ?_ (by omega) (by unfold maxLen; omega) (by omega) ?_ _ rfl ?_
                       · exact own_alloc_drew HOW.out _
                       · exact news_alloc_drew wr _ _
                       · intro u hu; simp at hu; subst hu; rfl
                       · simp; omega
                       intro g3 cap3 w6 hown hgr hat hlt2
                       have hgg := grown_from_alloc_drew (w := wr) hgr
                       have hst := BoxSt.step (g2 := g3) (cap := cap3) (x := (y : Int)) (w4 := w6) HB.out (by rw [HFL.out]; exact hgg) (by rw [HFL.out]; exact hown) (by
                         rw [HFL.out]
                         rcases hat with hat | hat
                         · exact .inl hat
                         · exact .inr (by rw [hat]; simp))
                       rw [HFL.out, ← HFS.out] at hst
                       have hne : some gb ≠ (Value.slice P3 j d3).ownBlock := fun e => blk_ne_row HOW.out HB.out.blk (by decide) e.symm
                       have e1 : w6.cell? ⟨gb, 4, none⟩ = some (.slice P3 j d3) := hgg.cell x4 hne
                       have e2 : w6.frozen? ⟨gb, 4, none⟩ = false := (hgg.frozen_far _ HBL.out hne).trans f4
                       have HS := Lib.hid hst
                       clear hst hgg hown hgr hat))
                  all_goals
                    go_wp2_with (fail)
                    go_roundw
                    case rel => exact ⟨j + 1, _, _, by omega, by go_num, HS.out⟩
                    case measure => simp [intOf]; omega
                · have hjn : F.take j = (cutStep N ss[k]).2.2.2 := by rw [HFE.out, List.take_of_length_le (by rw [← HFE.out, hFl]; omega)]
                  obtain rfl : j = ss[k].2.2.2.length := by omega
                  obtain ⟨y0, y1, y2, y3⟩ : wr.cell? ⟨gb, 0, none⟩ = some (.int .i64 ss[k].1.1) ∧ wr.cell? ⟨gb, 1, none⟩ = some (.slice P1 ss[k].1.2.length d1) ∧ wr.cell? ⟨gb, 2, none⟩ = some (.int .i64 ss[k].2.1) ∧ wr.cell? ⟨gb, 3, none⟩ = some (.slice P2 ss[k].2.2.1.length d2) := ⟨HB.out.blk.cell 0, HB.out.blk.cell 1, HB.out.blk.cell 2, HB.out.blk.cell 3⟩
                  have HO3 := Lib.hid (show OwnInts wr w4.heap.size wr.heap.size (.slice P3 ss[k].2.2.2.length d3) (cutStep N ss[k]).2.2.2 ∧ (∀ q, (Value.slice P1 ss[k].1.2.length d1).ownBlock = some q → (Value.slice P3 ss[k].2.2.2.length d3).ownBlock ≠ some q) ∧ (∀ q, (Value.slice P2 ss[k].2.2.1.length d2).ownBlock = some q → (Value.slice P3 ss[k].2.2.2.length d3).ownBlock ≠ some q) from by
                    have h1 := HB.out.o3
                    have h2 := HB.out.n13
                    have h3 := HB.out.n23
                    rw [hfl] at h1 h2 h3
                    rw [hjn] at h1
                    exact ⟨h1, h2, h3⟩)
                  have HS := Lib.hid (show cutTo ss N (k + 1) = cutTo ss N k ++ [cutStep N ss[k]] from cutTo_yes hks HNK.out)
                  have HC1 := Lib.hid (cntN_yes HNK.out)
                  have HCL := Lib.hid (show (cutTo ss N k).length = m by rw [HM.out, HCN.out])
                  have h4s : w4.heap.size ≤ wr.heap.size := HBW.out.size
                  clear hjn hfl hFl hj hjl
                  go_wp2_with (at_builtin; go_loud (refine wpList_append_lies _ rfl (.tmp 90) (.tmp 92) 25 rfl (g + 1) 46 i0 (.agg #[.int .i64 0, .slice none 0 0, .int .i64 0, .slice none 0 0, .slice none 0 0]) 5 88 Try.underlying25 hi0 hz0 hz1 hz2 rfl (by decide) (.slice A' m c') m (flat5 (heads (cutTo ss N k)) av) rfl ?c1 ⟨wr.heap.size, 0, none⟩ 1 1 [.int .i64 ss[k].1.1, .slice P1 ss[k].1.2.length d1, .int .i64 ss[k].2.1, .slice P2 ss[k].2.2.1.length d2, .slice P3 ss[k].2.2.2.length d3] rfl rfl (news5 _ _ _ _ _ _ _) ?c2 (by omega) (by unfold maxLen; omega) (by omega) ?c3 _ rfl ?_))
                  case c1 =>
                    have h0 := HCOL.out.own
                    have h1 := ownsRow_below h0.row h0.lt HBW.out (Nat.le_refl _)
                    rw [heads_length, HCL.out] at h1
                    exact h1.alloc _
                  case c2 => intro u hu; simp at hu; rcases hu with rfl | rfl | rfl | rfl | rfl <;> rfl
                  case c3 => have := HCOL.out.lo2; simp; omega
                  intro g3 cap3 w6 hown hgr hat _
                  have hpush := ColSt.push (g := g3) (cap := cap3) (s := cutStep N ss[k]) (a := .slice P1 ss[k].1.2.length d1) (b := .slice P2 ss[k].2.2.1.length d2) (d := .slice P3 ss[k].2.2.2.length d3) HCOL.out HS.out HBW.out HB.out.o1 HB.out.o2 HO3.out.1 HB.out.n12 HO3.out.2.1 HO3.out.2.2 (by rw [HCL.out]; exact hgr) (by rw [HCL.out]; exact hown)
                  have hkept := PlSt.kept (w4 := w6) (ps := [.slice P1 ss[k].1.2.length d1, .slice P2 ss[k].2.2.1.length d2, .slice P3 ss[k].2.2.2.length d3]) HPL.out HCOL.out HBW.out (fun i hi q hq => by
                    match i, hi with
                    | 0, _ => exact (HB.out.o1.lt hq).1
                    | 1, _ => exact (HB.out.o2.lt hq).1
                    | 2, _ => exact (HO3.out.1.lt hq).1) (by rw [HCL.out]; exact hgr)
                  have HPU := Lib.hid (And.intro hpush.1 hkept)
                  have hml : m + 1 = cntN N (k + 1) := by rw [HC1.out, HM.out]
                  clear hpush hkept hown hgr hat
                  go_wp2_with (fail)
                  go_roundw
                  case rel => exact ⟨k + 1, _, _, _, _, _, by omega, by go_num, rfl, by rw [hml], HPU.out.2, HPU.out.1⟩
                  case measure => simp [intOf]; omega
        · have hka : k = a + 1 := by omega
          have HO := Lib.hid (show OwnSteps wr w.heap.size wr.heap.size (.slice A' (cutTo ss N (a + 1)).length c') (cutTo ss N (a + 1)) from by have := HCOL.out.steps; rw [hka] at this; exact this)
          have HB := Lib.hid HCOL.out.below
          have HL := Lib.hid (show cntN N k = (cutTo ss N (a + 1)).length by rw [← HCN.out, hka])
          have hkk : ¬ ((k : Int) ≤ (a : Int)) := by omega
          rw [HL.out]
          clear hcle
          go_wp2_with fail
          refine bodyPost_ret (v := .tuple #[.slice A' (cutTo ss N (a + 1)).length c', .bool true]) (by simp [results, Try.results17, go_sem]) rfl ?_
          exact ⟨_, _, rfl, HO.out, HB.out⟩
    · have h0 := cutOk_range (ss := ss) (at_ := at_) h1
      have CI := Lib.hid (show Calls Try.prog 31 #[.int .i64 at_, .int .i64 0, .int .i64 ((ss.length : Int) - 1)] w fun e w' => e = .returned (.bool false) ∧ w = w' from by
        rw [← (show decide (0 ≤ at_ ∧ at_ ≤ (ss.length : Int) - 1) = false by simp; omega)]
        exact l1In_any _ _ _ _)
      rw [cutL_no h0, h0]
      clear h0 hf h1
      go_enter Try.func17, Try.ntmps17
      go_wp2_with (first
        | (go_at_call 21; refine CN.out.mono ?_; rintro e w1 ⟨rfl, rfl⟩)
        | (go_at_call 31; refine CI.out.mono ?_; rintro e w1 ⟨rfl, rfl⟩))
      refine bodyPost_ret (v := .tuple #[.slice none 0 0, .bool false]) (by simp [results, Try.results17, go_sem]) rfl ?_
      exact ⟨none, 0, rfl, OwnSteps.nil _ _ _, Below.refl _ _⟩
  · have hf' : formed ss = false := by simpa using hf
    have h0 := cutOk_formed (at_ := at_) hf'
    rw [cutL_no h0, h0]
    have CN := Lib.hid (show Calls Try.prog 21 #[.slice A ss.length c] w fun e w' => e = .returned (.bool false) ∧ w = w' from by rw [← hf']; exact l8Formed_any _ ss _ H.out hl ht)
    clear h0 hf hf'
    go_enter Try.func17, Try.ntmps17
    go_wp2_with (go_at_call 21; refine CN.out.mono ?_; rintro e w1 ⟨rfl, rfl⟩)
    refine bodyPost_ret (v := .tuple #[.slice none 0 0, .bool false]) (by simp [results, Try.results17, go_sem]) rfl ?_
    exact ⟨none, 0, rfl, OwnSteps.nil _ _ _, Below.refl _ _⟩

end Go.Proofs.Ytcoelmhlkfignaa
/-
  The walk of the law on ProofCut (written by wip/genlaw.py).
-/
namespace Go.Proofs.Ytcoelmhlkfignaa
open Go.RowKit

set_option maxHeartbeats 4000000 in
set_option maxRecDepth 100000 in
theorem lawProofCut_any (v0 : Value) (ss : List LStep) (a : Int) (w : World) (h0 : RdSteps w w.heap.size v0 ss) (n0 : ss.length ≤ maxLen) (m0 : ∀ k (h : k < ss.length), stepFits ss[k]) :
    Calls Try.prog 5 #[v0, .int .i64 a] w fun e w' => e = .returned (.bool true) ∧ Below w.heap.size w w' := by
  have H0 := Lib.hid h0
  obtain ⟨A0, c0, rfl, hc0, _⟩ := h0
  go_enter Try.func5, Try.ntmps5
  go_wp2_with (fail)
  refine (us_steps H0.out (by omega) (by omega) n0 m0).mono ?_
  rintro e w1 ⟨z0, rfl, hz0, hbz0⟩
  have s_w1 := hbz0.size
  have B_w1 := hbz0
  rcases hz0 with rfl | ⟨zp0, zs0⟩
  · go_wp2_with (fail)
    go_ret
    exact ⟨rfl, B_w1⟩
  have zn0 : ¬ z0 < 0 := by omega
  have r0 : (ss.length + totS ss) ≤ 1048576 := by omega
  have zl0 : z0 ≤ 1048576 := by omega
  have ZS0 := Lib.hid zs0
  clear zs0 zn0
  have zn0 : ¬ z0 < 0 := by omega
  obtain ⟨R0, hR0⟩ : ∃ R, R = cutL ss a := ⟨_, rfl⟩
  have HR0 := Lib.hid hR0
  obtain ⟨R1, hR1⟩ : ∃ R, R = cutOk ss a := ⟨_, rfl⟩
  have HR1 := Lib.hid hR1
  have rs0 : szSS ss ≤ 2097152 := by unfold szSS; omega
  have HRs0 := Lib.hid (show R0.length ≤ 1048576 ∧ totS R0 ≤ 1048576 ∧ szSS R0 ≤ 1073741824 by rw [hR0]; have := cutL_bound ss a; unfold szSS; omega)
  clear hR0 hR1
  have gb1 : (R1 != R1) = false := by simp
  go_wp2_with (fail)
  refine (toStepS_any _ ss _ (H0.out.on B_w1) (by omega) (by omega)).mono ?_
  rintro e w2 ⟨P1, d1, rfl, o1, hb1⟩
  have s_w2 := hb1.size
  have B_w2 := bthen B_w1 hb1
  go_wp2_with (fail)
  refine (specProofCut_any _ ss a _ (o1.rd.more (by omega)) (by omega) (by omega)).mono ?_
  rw [← HR0.out]
  try rw [← HR1.out]
  rintro e w3 ⟨Q2_0, f2_0, rfl, o2_0, hb2⟩
  have s_w3 := hb2.size
  have tw0_3 := o1.below hb2 (by omega)
  clear o1
  have B_w3 := bthen B_w2 hb2
  go_wp2_with (fail)
  refine (toStepS_any _ ss _ (H0.out.on B_w3) (by omega) (by omega)).mono ?_
  rintro e w4 ⟨P3, d3, rfl, o3, hb3⟩
  have s_w4 := hb3.size
  have w0_4 := o2_0.below hb3 (by omega)
  clear o2_0
  have B_w4 := bthen B_w3 hb3
  go_wp2_with (fail)
  refine (implProofCut_any _ ss a _ (o3.rd.more (by omega)) (by omega) (by omega)).mono ?_
  rw [← HR0.out]
  try rw [← HR1.out]
  rintro e w5 ⟨Q4_0, f4_0, rfl, o4_0, hb4⟩
  have s_w5 := hb4.size
  have w0_5 := w0_4.below hb4 (by omega)
  clear w0_4
  have x0_5 := o3.below hb4 (by omega)
  clear o3
  have B_w5 := bthen B_w4 hb4
  go_wp2_with (fail)
  refine (eqStepS_any _ _ R0 R0 _ (o4_0.rd.more (by omega)) (w0_5.rd.more (by omega)) (by have := HRs0.out; omega) (by have := HRs0.out; omega) (by have := HRs0.out; omega) (by have := HRs0.out; omega)).mono ?_
  rintro e w6 ⟨rfl, hb5⟩
  rw [show decide (R0 = R0) = true by simp]
  have s_w6 := hb5.size
  have w0_6 := w0_5.below hb5 (by omega)
  clear w0_5
  have x0_6 := x0_5.below hb5 (by omega)
  clear x0_5
  have g0_6 := o4_0.below hb5 (by omega)
  clear o4_0
  have B_w6 := bthen B_w5 hb5
  go_wp2_with (fail)
  refine (toStepS_any _ ss _ (H0.out.on B_w6) (by omega) (by omega)).mono ?_
  rintro e w7 ⟨P6, d6, rfl, o6, hb6⟩
  have s_w7 := hb6.size
  have w0_7 := w0_6.below hb6 (by omega)
  clear w0_6
  have x0_7 := x0_6.below hb6 (by omega)
  clear x0_6
  have g0_7 := g0_6.below hb6 (by omega)
  clear g0_6
  have B_w7 := bthen B_w6 hb6
  go_wp2_with (fail)
  refine (eqStepS_any _ _ ss ss _ (x0_7.rd.more (by omega)) (o6.rd.more (by omega)) (by omega) (by omega) (by omega) (by omega)).mono ?_
  rintro e w8 ⟨rfl, hb7⟩
  rw [show decide (ss = ss) = true by simp]
  have s_w8 := hb7.size
  have w0_8 := w0_7.below hb7 (by omega)
  clear w0_7
  have x0_8 := x0_7.below hb7 (by omega)
  clear x0_7
  have g0_8 := g0_7.below hb7 (by omega)
  clear g0_7
  have B_w8 := bthen B_w7 hb7
  go_wp2_with (fail)
  refine (um_steps 1 x0_8 (by omega) (by omega) (by omega)).mono ?_
  rintro e w9 ⟨k8, rfl, ka8, kb8, _, on8⟩
  have s_w9 := on8.size
  have w0_9 := w0_8.only on8 (by first | exact .inl (by omega) | exact .inr (by omega))
  clear w0_8
  have g0_9 := g0_8.only on8 (by first | exact .inl (by omega) | exact .inr (by omega))
  clear g0_8
  have B_w9 := Only.then_ B_w8 on8 (by omega)
  have kn : ¬ k8 < 0 := by omega
  have kd : decide (k8 < 0) = false := by simp; omega
  go_wp2_with (fail)
  refine (eqStepS_any _ _ R0 R0 _ (g0_9.rd.more (by omega)) (w0_9.rd.more (by omega)) (by have := HRs0.out; omega) (by have := HRs0.out; omega) (by have := HRs0.out; omega) (by have := HRs0.out; omega)).mono ?_
  rintro e w10 ⟨rfl, hb9⟩
  rw [show decide (R0 = R0) = true by simp]
  have s_w10 := hb9.size
  have w0_10 := w0_9.below hb9 (by omega)
  clear w0_9
  have g0_10 := g0_9.below hb9 (by omega)
  clear g0_9
  have B_w10 := bthen B_w9 hb9
  go_wp2_with (fail)
  refine (um_steps 1 g0_10 (by omega) (by omega) (by have := HRs0.out; omega)).mono ?_
  rintro e w11 ⟨m10, rfl, ma10, mb10, hd10, on10⟩
  have mb10' := HRs0.out
  have s_w11 := on10.size
  have w0_11 := w0_10.only on10 (by first | exact .inl (by omega) | exact .inr (by omega))
  clear w0_10
  have B_w11 := Only.then_ B_w10 on10 (by omega)
  have mn : ¬ m10 < 0 := by omega
  have me : (m10 != m10) = false := by simp
  go_wp2_with (fail)
  refine (uh_steps hd10 (by omega)).mono ?_
  rintro e w12 ⟨rfl, hb11⟩
  have s_w12 := hb11.size
  have w0_12 := w0_11.below hb11 (by omega)
  clear w0_11
  have d0_12 := hd10.below hb11 (by omega)
  clear hd10
  have B_w12 := bthen B_w11 hb11
  go_wp2_with (fail)
  refine (toStepS_any _ ss _ (H0.out.on B_w12) (by omega) (by omega)).mono ?_
  rintro e w13 ⟨P12, d12, rfl, o12, hb12⟩
  have s_w13 := hb12.size
  have w0_13 := w0_12.below hb12 (by omega)
  clear w0_12
  have d0_13 := d0_12.below hb12 (by omega)
  clear d0_12
  have B_w13 := bthen B_w12 hb12
  go_wp2_with (fail)
  refine (implProofCut_any _ ss a _ (o12.rd.more (by omega)) (by omega) (by omega)).mono ?_
  rw [← HR0.out]
  try rw [← HR1.out]
  rintro e w14 ⟨Q13_0, f13_0, rfl, o13_0, hb13⟩
  have s_w14 := hb13.size
  have w0_14 := w0_13.below hb13 (by omega)
  clear w0_13
  have d0_14 := d0_13.below hb13 (by omega)
  clear d0_13
  have th0_14 := o12.below hb13 (by omega)
  clear o12
  have B_w14 := bthen B_w13 hb13
  go_wp2_with (fail)
  refine (eqStepS_any _ _ R0 R0 _ (o13_0.rd.more (by omega)) (w0_14.rd.more (by omega)) (by have := HRs0.out; omega) (by have := HRs0.out; omega) (by have := HRs0.out; omega) (by have := HRs0.out; omega)).mono ?_
  rintro e w15 ⟨rfl, hb14⟩
  rw [show decide (R0 = R0) = true by simp]
  have s_w15 := hb14.size
  have w0_15 := w0_14.below hb14 (by omega)
  clear w0_14
  have d0_15 := d0_14.below hb14 (by omega)
  clear d0_14
  have h0_15 := o13_0.below hb14 (by omega)
  clear o13_0
  have B_w15 := bthen B_w14 hb14
  go_wp2_with (fail)
  refine (uh_steps d0_15 (by omega)).mono ?_
  rintro e w16 ⟨rfl, hb15⟩
  have s_w16 := hb15.size
  have w0_16 := w0_15.below hb15 (by omega)
  clear w0_15
  have d0_16 := d0_15.below hb15 (by omega)
  clear d0_15
  have h0_16 := h0_15.below hb15 (by omega)
  clear h0_15
  have B_w16 := bthen B_w15 hb15
  go_wp2_with (fail)
  go_ret
  exact ⟨rfl, B_w16⟩

theorem lawProofCut_in (v0 : Value) (v1 : Value) (ss : List LStep) (a : Int) (w : World) (h0 : InSteps w v0 ss) (h1 : InInt v1 a) : Calls Try.prog 5 #[v0, v1] w fun e w' => e = .returned (.bool true) ∧ Below w.heap.size w w' :=
  h1.1 ▸ lawProofCut_any v0 ss a w h0.1 h0.2.1 h0.2.2

end Go.Proofs.Ytcoelmhlkfignaa
namespace Go.Proofs.Ytcoelmhlkfignaa
open Go.ChangeShapes Go.WideShapes Go.ChangeAt Go.RowKit

set_option maxRecDepth 100000 in
theorem fnExactProofCut_lifted (os : Os) (started : os.Started) (H : Type) (enc : TypeId × Value → H) :
    ReturnsInHanded {} Try.checked os 5 .any (Rows.fnExactProofCutSpec.pre6 enc Try.prog Try.f5 Rows.fnExactProofCutRow.domain false) (Rows.fnExactProofCutSpec.post enc Try.prog Try.f5 false true false false) := by
  refine returnsInHanded_of_change (C := Try.checked) Try.own started (by kernel_rfl) Try.func5
    (ChangeSpec.witness6 (enc := enc) (C := Try.checked) false ⟨#[], #[.slice none 0 0, .int .i64 0], []⟩ 8 (by kernel_rfl) (by kernel_rfl) (by kernel_rfl) (by kernel_rfl)) ?_
  intro W base args ds gs before hval0 hW hcnd _
  have hval : ∀ (j : Nat) t v, Try.f5.params[j]? = some t → args[j]? = some v → Value.okWide Try.prog W .any base t v := hval0
  have hW' := hW
  obtain ⟨p, q, hA0, hV, rfl, hfz, hnd⟩ := hW
  have hA : DataW.TrodAll enc Try.prog W 0 (fun _ => true) true Try.f5.params.toList args.toList ds p := hA0
  rw [Try.params5] at hA hval
  obtain ⟨v0, vs0, d0, ds0, p0, q0, hargs, rfl, rfl, h0, r0⟩ := trodAll_cons hA
  obtain ⟨v1, vs1, d1, ds1, p1, q1, rfl, rfl, rfl, h1, r1⟩ := trodAll_cons r0
  obtain ⟨rfl, rfl, rfl⟩ := trodAll_nil r1
  obtain rfl : args = #[v0, v1] := by cases args; simp_all
  obtain ⟨rfl, rfl⟩ := trodVars_none hV
  have lt0 : ∀ x ∈ p0, x.block < W.heap.size := by obtain ⟨m, hm⟩ := h0; exact DataW.trod_lt m _ _ _ hm
  obtain ⟨x0, w0⟩ := open_inSteps (hval 0 22 v0 rfl rfl) h0
  have lt1 : ∀ x ∈ p1, x.block < W.heap.size := by obtain ⟨m, hm⟩ := h1; exact DataW.trod_lt m _ _ _ hm
  obtain ⟨x1, w1⟩ := open_inInt (hval 1 3 v1 rfl rfl) h1
  clear hA0 hval0
  refine (lawProofCut_in v0 v1 x0 x1 W w0 w1).mono fun e W' ⟨he, bel⟩ => ?_
  subst he
  exact ⟨_, rfl, _, _, _, [], _, [], hW', trodAll_mk1 (shut_bool Try.underlying4 _), (trodAll_cons_mk (Below.trod Try.laidOut (by kernel_rfl) (of_decide_eq_true (by kernel_rfl)) h0 bel lt0) (trodAll_cons_mk (Below.trod Try.laidOut (by kernel_rfl) (of_decide_eq_true (by kernel_rfl)) h1 bel lt1) trodAll_mk0)), rfl, bel.frame _, fun h => by cases h⟩

theorem fnExactProofCut_holds : Rows.FnExactProofCutSaid :=
  OpenClaim.holds_of_wide 5 Try.f5 rfl rfl rfl rfl rfl rfl rfl ⟨rfl, rfl, rfl, rfl, rfl⟩ rfl rfl rfl rfl rfl (by kernel_rfl) Try.func5 (by kernel_rfl)
    (of_decide_eq_true (by kernel_rfl)) (by unfold Func.isWrapper; rw [if_neg (of_decide_eq_false (by kernel_rfl))]; exact ⟨rfl, rfl⟩)
    (fun os started H enc _ => fnExactProofCut_lifted os started H enc)

end Go.Proofs.Ytcoelmhlkfignaa
