/-
  slices.CompactFunc at facts by sameFact.
-/
import Derived.Test.YtehjhdihaloalaaCompactP
namespace Go.Proofs.Ytehjhdihaloalaa
open Go.RowKit Go.Sort

/-- What a call of sameFact asks, at two places of a row, in any later world. -/
theorem same_at {w0 : World} {g c : Nat} {fs : List LFact} {av : List Value} (hrow : AtRow w0 g c fs av) (hrd : RdArgs w0 g av fs) (hl : ∀ k (hk : k < fs.length), fs[k].2.length ≤ 1048576) {i j : Nat} (hi : i < fs.length) (hj : j < fs.length)
    (hi' : i < av.length) (hj' : j < av.length) (x : Later w0) :
    Calls Try.prog 100 #[.agg #[.int .i64 fs[i].1, av[i]], .agg #[.int .i64 fs[j].1, av[j]]] x.val fun e w' => e = .returned (.bool (decide (fs[i] = fs[j]))) ∧ Below x.val.heap.size x.val w' := by
  have hg := Nat.le_of_lt hrow.lt
  have h1 := ((hrd.2 i hi hi' hi).more hg).on x.2
  have h2 := ((hrd.2 j hj hj' hj).more hg).on x.2
  refine (sameFact_grow _ _ fs[i] fs[j] x.val ⟨_, rfl, h1⟩ ⟨_, rfl, h2⟩ (hl i hi) (hl j hj)).mono fun e w' ⟨he, hG⟩ => ⟨by rw [he, same_iff], hG.below⟩

theorem AtRow.cells {w : World} {g c : Nat} {fs : List LFact} {av : List Value} (h : AtRow w g c fs av) (hl : av.length = fs.length) {k : Nat} (hk : k < fs.length) (hk' : k < av.length) :
    w.cell? ⟨g, k * 2, none⟩ = some (.int .i64 fs[k].1) ∧ w.cell? ⟨g, k * 2 + 1, none⟩ = some av[k] := by
  obtain ⟨c0, c1⟩ := flat_at fs av hl k hk hk'
  exact ⟨by rw [h.cell (by omega), c0], by rw [h.cell (by omega), c1]⟩

set_option maxHeartbeats 4000000 in
set_option maxRecDepth 100000 in
theorem compactF_any (g c : Nat) (fs : List LFact) (av : List Value) (w : World) (hrow : AtRow w g c fs av) (hrd : RdArgs w g av fs) (hn : fs.length ≤ 4194304) (hl : ∀ k (hk : k < fs.length), fs[k].2.length ≤ 1048576) :
    Calls Try.prog 99 #[.slice (some ⟨g, 0, none⟩) fs.length c, .func (.func 100) #[] #[]] w fun e w' =>
      ∃ av', e = .returned (.slice (some ⟨g, 0, none⟩) (compactL fs).length c) ∧ AtRow w' g c (compactL fs) av' ∧ RdArgs w' g av' (compactL fs) ∧ Only g (g + 1) w w' := by
  have hlc := hrow.len
  have hcm : c ≤ maxLen := by obtain ⟨_, _, _, h, _⟩ := hrow; exact h
  have hcm2 : c ≤ 9223372036854775807 := by unfold maxLen at hcm; omega
  by_cases h2 : fs.length < 2
  · have HE := Lib.hid (show compactL fs = fs by
      match fs, h2 with
      | [], _ => rfl
      | [f], _ => rfl)
    have h2I : (fs.length : Int) < 2 := by omega
    have HR := Lib.hid (And.intro hrow hrd)
    clear hrow hrd h2
    go_enter Try.func99, Try.ntmps99
    go_wp2_with (fail)
    go_ret
    rw [HE.out]
    exact ⟨av, rfl, HR.out.1, HR.out.2, Only.refl _ _ _⟩
  · have h2I : ¬ (fs.length : Int) < 2 := by omega
    have hg := hrow.lt
    have hav := hrd.1
    have HR := Lib.hid (And.intro hrow hrd)
    have HAV := Lib.hid hav
    clear hrow hrd h2 hav
    go_enter Try.func99, Try.ntmps99
    go_wp2_with (fail)
    go_loopw [5] (fun i wr => ∃ j : Nat, j + 1 ≤ fs.length ∧ i = .int .i64 ((j + 1 : Nat) : Int) ∧ compactL (fs.take (j + 1)) = fs.take (j + 1) ∧ Below w.heap.size w wr) (fun i _ => fs.length - (intOf i).toNat)
    case atStart => exact ⟨0, by omega, rfl, by
      rw [take_snoc fs 0 (by omega)]
      rfl, Below.refl _ _⟩
    case round =>
      obtain ⟨j, hj, rfl, hcp, hbe⟩ := hrel
      have hrow := HR.out.1.below hbe hg
      have hrd := HR.out.2.below hbe (Nat.le_of_lt hg)
      by_cases hlt : j + 1 < fs.length
      · have hj1 : j < fs.length := by omega
        have hja : j < av.length := by have := HAV.out; omega
        have hja1 : j + 1 < av.length := by have := HAV.out; omega
        obtain ⟨a0, a1⟩ := hrow.cells HAV.out hlt hja1
        obtain ⟨b0, b1⟩ := hrow.cells HAV.out hj1 hja
        have A0 := later_cell a0
        have A1 := later_cell a1
        have B0 := later_cell b0
        have B1 := later_cell b1
        have CS := Lib.hid (same_at hrow hrd hl hlt hj1 hja1 hja)
        have HC := Lib.hid hcp
        have HST := Lib.hid (compact_step hlt)
        have HRR := Lib.hid (And.intro hrow hrd)
        obtain ⟨va, hva⟩ : ∃ va, va = av[j + 1] := ⟨_, rfl⟩
        obtain ⟨vb, hvb⟩ : ∃ vb, vb = av[j] := ⟨_, rfl⟩
        rw [← hva] at A1 CS
        rw [← hvb] at B1 CS
        obtain ⟨Aa, ca, hfa, _⟩ := hrd.2 (j + 1) hlt hja1 hlt
        obtain ⟨Ab, cb, hfb, _⟩ := hrd.2 j hj1 hja hj1
        rw [← hva] at hfa
        rw [← hvb] at hfb
        subst hfa hfb
        clear hcp hrow hrd a0 a1 b0 b1 hva hvb
        by_cases he : fs[j + 1] = fs[j]
        · -- the first two that are the same
          have hd : decide (fs[j + 1] = fs[j]) = true := decide_eq_true he
          rw [hd] at CS
          have HE := Lib.hid he
          clear he hd
          go_wp2_with (fail)
          refine wp_region_later (by kernel_rfl) (by kernel_rfl) ?_
          repeat (go_big_quiet_step ((go_at_call 100; exact later_of (CS.out _))))
          refine wpQuiet_nil ?_
          rintro _ ⟨xq, rfl⟩
          go_wp2_with (fail)
          have HLN := Lib.hid (show compactL (fs.take (j + 1 + 1)) = fs.take (j + 1) by
            rw [show j + 1 + 1 = j + 2 from rfl, HST.out, if_pos HE.out.symm, HC.out])
          have HAll := Lib.hid (show ∀ f ∈ fs, f.2.length ≤ 1048576 from fun f hf => by
            obtain ⟨q, hq, rfl⟩ := List.getElem_of_mem hf
            exact hl q hq)
          clear A0 A1 B0 B1
          go_loopw [5, 7] (fun m k wr => ∃ (i m' : Nat) (fw : List LFact) (aw : List Value), i + 1 ≤ fs.length - (j + 1) ∧ k = .int .i64 ((i + 1 : Nat) : Int) ∧ m = .int .i64 (m' : Nat) ∧ m' ≤ j + 1 + i ∧ fw.length = fs.length ∧ fw.take m' = compactL (fs.take (j + 1 + i + 1)) ∧ m' = (compactL (fs.take (j + 1 + i + 1))).length ∧ fw.drop (j + 1 + i) = fs.drop (j + 1 + i) ∧
              (∀ f ∈ fw, f.2.length ≤ 1048576) ∧ AtRow wr g c fw aw ∧ RdArgs wr g aw fw ∧ Only g (g + 1) w wr) (fun _ k _ => fs.length - (intOf k).toNat)
          case atStart =>
            exact ⟨0, j + 1, fs, av, by omega, rfl, rfl, by omega, rfl, HLN.out.symm, by rw [HLN.out, List.length_take]; omega, rfl, HAll.out, HRR.out.1.keep (xq.2.block g (Nat.lt_of_lt_of_le hg hbe.size)), HRR.out.2.below xq.2 (Nat.le_trans (Nat.le_of_lt hg) hbe.size), (Only.of_below hbe).trans (Only.of_below xq.2)⟩
          case round =>
            obtain ⟨i, m, fw, aw, hi, rfl, rfl, hm, hfl, htk, hml, hdr, hal, hrow, hrd, hon⟩ := hrel
            have hgr := hrow.lt
            have haw := hrd.1
            by_cases hlt2 : i + 1 < fs.length - (j + 1)
            · have hq1 : j + 1 + i + 1 < fs.length := by omega
              have hq0 : j + 1 + i < fs.length := by omega
              have hq1f : j + 1 + i + 1 < fw.length := by omega
              have hq0f : j + 1 + i < fw.length := by omega
              have hq1a : j + 1 + i + 1 < aw.length := by omega
              have hq0a : j + 1 + i < aw.length := by omega
              have hma : m < aw.length := by omega
              have hmf : m < fw.length := by omega
              have e0 : fw[j + 1 + i] = fs[j + 1 + i] := by
                have h1 := congrArg (fun l => l[0]?) hdr
                simpa [hq0, hq0f] using h1
              have e1 : fw[j + 1 + i + 1] = fs[j + 1 + i + 1] := by
                have h1 := congrArg (fun l => l[1]?) hdr
                simpa [hq1, hq1f] using h1
              obtain ⟨a0, a1⟩ := hrow.cells haw hq1f hq1a
              obtain ⟨b0, b1⟩ := hrow.cells haw hq0f hq0a
              obtain ⟨d0, d1⟩ := hrow.cells haw hmf hma
              rw [show (j + 1 + i + 1) * 2 = (j + 1) * 2 + (i + 1) * 2 by omega] at a0 a1
              rw [show (j + 1 + i) * 2 = (j + 1) * 2 + i * 2 by omega] at b0 b1
              have CS2 := Lib.hid (same_at hrow hrd (fun k hk => hal _ (List.getElem_mem hk)) hq1f hq0f hq1a hq0a)
              have HST2 := Lib.hid (compact_step hq1)
              obtain ⟨va, hva⟩ : ∃ va, va = aw[j + 1 + i + 1] := ⟨_, rfl⟩
              obtain ⟨vb, hvb⟩ : ∃ vb, vb = aw[j + 1 + i] := ⟨_, rfl⟩
              obtain ⟨Aa, ca, hfa, hfx⟩ := hrd.2 (j + 1 + i + 1) hq1f hq1a hq1f
              obtain ⟨Ab, cb, hfb, _⟩ := hrd.2 (j + 1 + i) hq0f hq0a hq0f
              have RA := hrd.2 (j + 1 + i + 1) hq1f hq1a hq1f
              rw [← hva] at a1 CS2 hfa RA
              rw [← hvb] at b1 CS2 hfb
              subst hfa hfb
              rw [e1] at a0 a1 CS2 RA
              rw [e0] at b0 b1 CS2
              have A0 := later_cell a0
              have A1 := later_cell a1
              have B0 := later_cell b0
              have B1 := later_cell b1
              have HQ := Lib.hid (And.intro hrow (And.intro hrd (And.intro hon (And.intro htk (And.intro hml (And.intro hdr RA))))))
              have HAL := Lib.hid hal
              have HF := Lib.hid (And.intro hfl haw)
              clear hva hvb a0 a1 b0 b1 e0 e1 hrow hrd hon htk hml hdr RA hal hfx
              by_cases he2 : fs[j + 1 + i + 1] = fs[j + 1 + i]
              · have hd2 : decide (fs[j + 1 + i + 1] = fs[j + 1 + i]) = true := decide_eq_true he2
                rw [hd2] at CS2
                have HN := Lib.hid (show compactL (fs.take (j + 1 + (i + 1) + 1)) = compactL (fs.take (j + 1 + i + 1)) by
                  rw [show j + 1 + (i + 1) + 1 = j + 1 + i + 2 by omega, HST2.out, if_pos he2.symm])
                clear he2 hd2 d0 d1
                go_wp2_with (fail)
                refine wp_region_later (by kernel_rfl) (by kernel_rfl) ?_
                repeat (go_big_quiet_step ((go_at_call 100; exact later_of (CS2.out _))))
                refine wpQuiet_nil ?_
                rintro _ ⟨xr, rfl⟩
                go_wp2_with (fail)
                go_roundw
                case rel =>
                  obtain ⟨h1, h2, h3, h4, h5, h6, h7⟩ := HQ.out
                  refine ⟨i + 1, m, fw, aw, by omega, by go_num, rfl, by omega, HF.out.1, by rw [HN.out]; exact h4, by rw [HN.out]; exact h5, ?_, HAL.out, h1.keep (xr.2.block g hgr), h2.below xr.2 (Nat.le_of_lt hgr), h3.trans (Only.of_below xr.2)⟩
                  have := congrArg (List.drop 1) h6
                  rwa [List.drop_drop, List.drop_drop] at this
                case measure => simp [intOf]; omega
              · have hd2 : decide (fs[j + 1 + i + 1] = fs[j + 1 + i]) = false := decide_eq_false he2
                rw [hd2] at CS2
                have HN := Lib.hid (show compactL (fs.take (j + 1 + (i + 1) + 1)) = compactL (fs.take (j + 1 + i + 1)) ++ [fs[j + 1 + i + 1]] by
                  rw [show j + 1 + (i + 1) + 1 = j + 1 + i + 2 by omega, HST2.out, if_neg (fun e => he2 e.symm)])
                clear he2 hd2
                go_wp2_with (fail)
                refine wp_region_later (by kernel_rfl) (by kernel_rfl) ?_
                repeat (go_big_quiet_step ((go_at_call 100; exact later_of (CS2.out _))))
                refine wpQuiet_nil ?_
                rintro _ ⟨xr, rfl⟩
                have D0 := later_cell d0 xr
                have D1 := later_cell d1 xr
                have hrx := HQ.out.1.keep (xr.2.block g hgr)
                have F0 := hrx.frozen (m * 2)
                have F1 := hrx.frozen (m * 2 + 1)
                have hset := hrx.set HF.out.2 hmf fs[j + 1 + i + 1] (.slice Aa fs[j + 1 + i + 1].2.length ca)
                have HSET := Lib.hid hset
                have hbx := xr.2
                obtain ⟨Vd, hVd⟩ : ∃ Vd, Vd = aw[m] := ⟨_, rfl⟩
                rw [← hVd] at D1
                clear hset hrx d0 d1 hVd
                go_wp2_with (fail)
                go_roundw
                case rel =>
                  obtain ⟨h1, h2, h3, h4, h5, h6, h7⟩ := HQ.out
                  have o1 : Only g (g + 1) xr.val ((xr.val.setCell ⟨g, m * 2, none⟩ (.int .i64 fs[j + 1 + i + 1].1)).setCell ⟨g, m * 2 + 1, none⟩ (.slice Aa fs[j + 1 + i + 1].2.length ca)) :=
                    Only.setCell (p := ⟨g, m * 2 + 1, none⟩) (Only.setCell (p := ⟨g, m * 2, none⟩) (Only.refl g (g + 1) xr.val) ⟨Nat.le_refl g, Nat.lt_succ_self g⟩ _) ⟨Nat.le_refl g, Nat.lt_succ_self g⟩ _
                  have o2 := (h3.trans (Only.of_below xr.2)).trans o1
                  refine ⟨i + 1, m + 1, fw.set m fs[j + 1 + i + 1], aw.set m (.slice Aa fs[j + 1 + i + 1].2.length ca), by omega, by go_num, by go_num, by omega, by rw [List.length_set]; exact HF.out.1, ?_, ?_, ?_, ?_, HSET.out, ?_, o2⟩
                  · rw [HN.out, ← h4, List.take_set, take_snoc fw m hmf, List.set_append_right _ _ (by simp; omega)]
                    simp [Nat.min_eq_left (Nat.le_of_lt hmf)]
                  · rw [HN.out, List.length_append, ← h5]
                    rfl
                  · rw [List.drop_set_of_lt (by omega)]
                    have := congrArg (List.drop 1) h6
                    rwa [List.drop_drop, List.drop_drop] at this
                  · intro f hf
                    rcases List.mem_or_eq_of_mem_set hf with hf | rfl
                    · exact HAL.out f hf
                    · exact hl _ hq1
                  · have hbw : Below g wr ((xr.val.setCell ⟨g, m * 2, none⟩ (.int .i64 fs[j + 1 + i + 1].1)).setCell ⟨g, m * 2 + 1, none⟩ (.slice Aa fs[j + 1 + i + 1].2.length ca)) := ((Only.of_below xr.2).trans o1).below (Nat.le_refl _) (Nat.le_of_lt hgr)
                    have h2b := h2.below hbw (Nat.le_refl _)
                    refine ⟨by simp [h2.1], fun q q1 q2 q3 => ?_⟩
                    by_cases eq : m = q
                    · subst eq
                      simpa using h7.below hbw (Nat.le_refl _)
                    · have := h2b.2 q (by simpa using q1) (by simpa using q2) (by simpa using q3)
                      simpa [List.getElem_set_ne eq] using this
                case measure => simp [intOf]; omega
            · have hn1 : j + 1 + i + 1 = fs.length := by omega
              have hmn : m < fw.length := by omega
              obtain ⟨WC, hcl, hoc, hac⟩ := run_clear_facts hrow hmn (c - m)
              rw [hfl] at hcl
              have HX := Lib.hid (show fw.take m = compactL fs ∧ m = (compactL fs).length by
                rw [hn1, List.take_length] at htk hml
                exact ⟨htk, hml⟩)
              have HQ := Lib.hid (And.intro (hac haw) (And.intro hrd (And.intro (hon.trans hoc) (hoc.below (Nat.le_refl _) (Nat.le_of_lt hgr)))))
              have hmn2 : m ≤ fs.length := by omega
              have hmc : m ≤ c := by omega
              clear hrow hrd hon htk hml hdr hal hoc hac
              go_wp2_with (simp only [hcl])
              go_ret
              obtain ⟨h1, h2, h3, h4⟩ := HQ.out
              rw [← HX.out.1] at *
              refine ⟨aw.take m, ?_, h1, ?_, h3⟩
              · congr 2
                simp
                omega
              · have h2b := h2.below h4 (Nat.le_refl _)
                refine ⟨by simp [h2.1], fun q q1 q2 q3 => ?_⟩
                simp at q1 q2 q3
                have := h2b.2 q (by omega) (by omega) (by omega)
                simpa using this
        · have hd : decide (fs[j + 1] = fs[j]) = false := decide_eq_false he
          rw [hd] at CS
          have HN := Lib.hid (show compactL (fs.take (j + 1 + 1)) = fs.take (j + 1 + 1) by
            rw [show j + 1 + 1 = j + 2 from rfl, HST.out, if_neg (fun e => he e.symm), HC.out, ← take_snoc fs (j + 1) hlt])
          clear he hd
          go_wp2_with (fail)
          refine wp_region_later (by kernel_rfl) (by kernel_rfl) ?_
          repeat (go_big_quiet_step ((go_at_call 100; exact later_of (CS.out _))))
          refine wpQuiet_nil ?_
          rintro _ ⟨xq, rfl⟩
          go_wp2_with (fail)
          go_roundw
          case rel => exact ⟨j + 1, by omega, by go_num, HN.out, bthen hbe xq.2⟩
          case measure => simp [intOf]; omega
      · have HE := Lib.hid (show compactL fs = fs by
          have e : fs.take (j + 1) = fs := by rw [show j + 1 = fs.length by omega, List.take_length]
          rw [e] at hcp
          exact hcp)
        have HRR := Lib.hid (And.intro hrow hrd)
        clear hcp hrow hrd
        go_wp2_with (fail)
        go_ret
        rw [HE.out]
        exact ⟨av, rfl, HRR.out.1, HRR.out.2, Only.of_below hbe⟩

end Go.Proofs.Ytehjhdihaloalaa
