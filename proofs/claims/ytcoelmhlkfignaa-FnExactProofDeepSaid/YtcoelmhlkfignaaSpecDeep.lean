/-
  The walk of the specification's ProofDeep.
-/
import Derived.Test.YtcoelmhlkfignaaDeep
import Derived.Test.YtcoelmhlkfignaaColW
import Derived.Maps.AppendAt
import Derived.Deep.AppendLies
namespace Go.Proofs.Ytcoelmhlkfignaa
open Go.RowKit

theorem deeps_len {ss : List LStep} {k : Nat} (h : k ≤ ss.length) : (deeps (ss.take k)).length = k := deeps_length k _ (by simp; omega)

set_option maxHeartbeats 2000000 in
set_option maxRecDepth 100000 in
theorem specProofDeep_any (v : Value) (ss : List LStep) (w : World) (h : RdSteps w w.heap.size v ss) (hl : ss.length ≤ 1048576) (ht : totS ss ≤ 1048576) :
    Calls Try.prog 7 #[v] w fun e w' => e = .returned (.int .i64 (deepL ss)) ∧ Below w.heap.size w w' := by
  obtain ⟨i0, hi0, hz0, hz1, hz2⟩ := info_parts Try.infoInt
  have H := Lib.hid h
  obtain ⟨A, c, rfl, hc, _⟩ := h
  by_cases hf : formed ss = true
  · have CN := Lib.hid (show ∀ W, Below w.heap.size w W → Calls Try.prog 21 #[.slice A ss.length c] W fun e w' => e = .returned (.bool true) ∧ W = w' from fun W hW => by rw [← hf]; exact l8Formed_any _ ss _ (H.out.on hW) hl ht)
    by_cases h0 : ss.length = 0
    · have he : ((ss.length : Int) == 0) = true := by simp [h0]
      have HE := Lib.hid (show deepL ss = -1 by unfold deepL; rw [if_pos (.inl h0)])
      clear h0 hf
      go_enter Try.func7, Try.ntmps7
      go_wp2_with (go_at_call 21; refine (CN.out _ (Below.refl _ _)).mono ?_; rintro e w1 ⟨rfl, rfl⟩)
      go_ret
      exact ⟨ret_int HE.out.symm, Below.refl _ _⟩
    · have he : ((ss.length : Int) == 0) = false := by rw [beq_eq_false_iff_ne]; omega
      have h0' : 0 < ss.length := by omega
      have HF := Lib.hid hf
      have HD := Lib.hid (deepL_last h0' hf)
      have C0 := Lib.hid (ColI.empty (Below.refl w.heap.size w))
      clear hf h0
      go_enter Try.func7, Try.ntmps7
      go_wp2_with (go_at_call 21; refine (CN.out _ (Below.refl _ _)).mono ?_; rintro e w1 ⟨rfl, rfl⟩)
      go_loopw [3, 4] (fun o i wr => ∃ (k : Nat) (A' : Option Addr) (c' : Nat), k ≤ ss.length ∧ i = .int .i64 k ∧ o = .slice A' k c' ∧ ColI w wr (deeps (ss.take k)) A' c') (fun _ i _ => ss.length - (intOf i).toNat)
      case atStart => exact ⟨0, _, 0, Nat.zero_le _, rfl, rfl, by simpa [deeps] using C0.out⟩
      case round =>
        obtain ⟨k, A', c', hk, rfl, rfl, hr⟩ := hrel
        have hdl := deeps_len hk
        by_cases hlt : k < ss.length
        · have BE := hr.below
          obtain ⟨b, o, A1, c1, A2, c2, A3, c3, rfl, hbB, ⟨k0, k1, k2, k3, k4⟩, r1, r2, r3⟩ := (H.out.on BE).get hlt
          have hln := szSt_le_totS ss k hlt
          unfold szSt at hln
          have HR := Lib.hid r3
          have HC := Lib.hid hr
          have HDb := Lib.hid (deeps_bound k (ss.take k) (by simp; omega))
          have HDs := Lib.hid (deeps_take hlt)
          have HRD := Lib.hid (show RdInts wr wr.heap.size (.slice A' k c') (deeps (ss.take k)) by have := hr.own.rd; rw [hdl] at this; exact this)
          obtain ⟨D, hD⟩ : ∃ D, D = deeps (ss.take k) := ⟨_, rfl⟩
          rw [← hD] at HDb HDs HRD HC hdl
          have HDl := Lib.hid hdl
          clear r1 r2 r3 hr BE hD hdl
          go_wp2_with (fail)
          go_loop [5, 6] (fun x i => ∃ (m : Nat) (d : Int), m ≤ ss[k].2.2.2.length ∧ i = .int .i64 m ∧ x = .int .i64 d ∧ d = deepAt D (ss[k].2.2.2.take m)) (fun _ i => ss[k].2.2.2.length - (intOf i).toNat)
          case atStart => exact ⟨0, 0, Nat.zero_le _, rfl, rfl, rfl⟩
          case round =>
            obtain ⟨m, d, hm, rfl, rfl, hd⟩ := hrel
            have hdb := deepAt_bound (ds := D) (M := (k : Int)) (by omega) HDb.out _ (ss[k].2.2.2.take m) rfl
            rw [← hd] at hdb
            by_cases hlm : m < ss[k].2.2.2.length
            · obtain ⟨b', o', rfl, hb', q0⟩ := HR.out.getS hlm
              obtain ⟨z0, z1⟩ := aheadB_at (formed_at HF.out hlt) hlm
              obtain ⟨fn, hfn⟩ : ∃ n : Nat, ss[k].2.2.2[m] = (n : Int) := ⟨ss[k].2.2.2[m].toNat, by omega⟩
              have HST := Lib.hid (deepAt_step (ds := D) hlm)
              rw [hfn] at q0 z0 z1 HST
              have hfk : fn < k := by omega
              obtain ⟨b2, o2, rfl, hb2, x1⟩ := HRD.out.getS (k := fn) (by have := HDl.out; omega)
              obtain ⟨e, he'⟩ : ∃ e, e = D[fn]'(by have := HDl.out; omega) := ⟨_, rfl⟩
              have hge : D.getD fn 0 = e := by rw [he', List.getD_eq_getElem?_getD, List.getElem?_eq_getElem]; rfl
              have heb := HDb.out fn
              rw [hge] at heb
              rw [← he'] at x1
              obtain ⟨d0, d1⟩ := hdb
              obtain ⟨e0, e1⟩ := heb
              have hfi : (fn : Int) < (k : Int) := by omega
              have HST2 := Lib.hid (show deepAt D (ss[k].2.2.2.take (m + 1)) = max d (e + 1) by rw [HST.out, hd, ← hge]; simp)
              have HHF := Lib.hid hfn
              clear hfn HST hd he' hb' hge hb2
              by_cases hgt : d < e + 1
              · have HN := Lib.hid (show e + 1 = deepAt D (ss[k].2.2.2.take (m + 1)) by rw [HST2.out]; omega)
                go_wp2_with (fail)
                go_round
                case rel => exact ⟨m + 1, _, by omega, by go_num, rfl, HN.out⟩
                case measure => simp [intOf]; omega
              · have HN := Lib.hid (show d = deepAt D (ss[k].2.2.2.take (m + 1)) by rw [HST2.out]; omega)
                go_wp2_with (fail)
                go_round
                case rel => exact ⟨m + 1, _, by omega, by go_num, rfl, HN.out⟩
                case measure => simp [intOf]; omega
            · have hme : m = ss[k].2.2.2.length := by omega
              have HN := Lib.hid (show deeps (ss.take (k + 1)) = D ++ [d] by rw [HDs.out, hd, hme, List.take_length])
              clear hme hd hdb
              go_wp2_with (at_builtin; refine wpList_append_lies _ rfl (.tmp 58) (.tmp 60) 38 rfl w.heap.size 3 i0 (.int .i64 0) 1 8 Try.underlying38 hi0 hz0 hz1 hz2 rfl (by decide) (.slice A' k c') k (D.map (Value.int .i64)) rfl ?c1 ⟨_, 0, none⟩ 1 1 [.int .i64 d] rfl rfl (news1s _ _ _ _ (by simp)) ?c2 (by omega) (by unfold maxLen; omega) (by omega) ?c3 _ rfl ?_)
              case c1 => have := HC.out.own.1; rw [HDl.out] at this; exact this.alloc _
              case c2 => first | rfl | (intro u hu; simp at hu; subst hu; rfl)
              case c3 => have := HC.out.below.size; simp; omega
              intro g cap w4 hown hg _ _
              have hcol := HC.out.push (x := d) (g := g) (cap := cap) (Below.refl _ _) (by rw [HDl.out]; exact hg) (by rw [HDl.out]; exact hown)
              rw [← HN.out] at hcol
              have HC2 := Lib.hid hcol
              clear hcol hown hg
              go_wp2_with (fail)
              go_roundw
              case rel => exact ⟨k + 1, _, _, by omega, by go_num, rfl, HC2.out⟩
              case measure => simp [intOf]; omega
        · have hkn : k = ss.length := by omega
          have hrd := hr.own.rd
          rw [hdl] at hrd
          obtain ⟨b2, o2, rfl, hb2, x1⟩ := hrd.getS (k := ss.length - 1) (by omega)
          have HL := Lib.hid (show (deeps (ss.take k))[ss.length - 1]'(by omega) = deepL ss by
            have hg : (deeps ss)[ss.length - 1]? = (deeps (ss.take k))[ss.length - 1]? := by rw [hkn, List.take_length]
            rw [HD.out, List.getD_eq_getElem?_getD, hg, List.getElem?_eq_getElem (by omega)]; rfl)
          rw [HL.out] at x1
          have HB := Lib.hid hr.below
          obtain ⟨R, hR⟩ : ∃ R, R = deepL ss := ⟨_, rfl⟩
          rw [← hR] at x1
          have HR := Lib.hid hR
          have hkk : (k : Int) - 1 = (ss.length : Int) - 1 := by omega
          subst hkn
          clear hr hrd hb2 hR hdl HL
          go_wp2_with (fail)
          go_ret
          exact ⟨ret_int HR.out, HB.out⟩
  · have CN := Lib.hid (show ∀ W, Below w.heap.size w W → Calls Try.prog 21 #[.slice A ss.length c] W fun e w' => e = .returned (.bool false) ∧ W = w' from fun W hW => by
      have hf' : formed ss = false := by simpa using hf
      rw [← hf']; exact l8Formed_any _ ss _ (H.out.on hW) hl ht)
    have HE := Lib.hid (show deepL ss = -1 by unfold deepL; rw [if_pos (.inr (by simpa using hf))])
    clear hf
    go_enter Try.func7, Try.ntmps7
    go_wp2_with (go_at_call 21; refine (CN.out _ (Below.refl _ _)).mono ?_; rintro e w1 ⟨rfl, rfl⟩)
    go_ret
    exact ⟨ret_int HE.out.symm, Below.refl _ _⟩

end Go.Proofs.Ytcoelmhlkfignaa
