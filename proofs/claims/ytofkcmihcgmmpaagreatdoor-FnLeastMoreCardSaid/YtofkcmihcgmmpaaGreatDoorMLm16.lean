/-
  The law FnLeastMore: for every input the call returns true, and each argument reads behind it as it read before. Conditions: none but the row's own.
-/
import Derived.Shelf.SlSortCmp.NoneTotal
import Derived.Test.YtofkcmihcgmmpaaGreatDoorRows
import Derived.Test.YtofkcmihcgmmpaaGreatDoorCards
import Derived.Test.YtofkcmihcgmmpaaGreatDoorTie
import Derived.Lay
import Derived.SevenTiedAt
import Derived.Test.YtofkcmihcgmmpaaGreatDoorPlainLeastMoreJoin
import Derived.Test.YtofkcmihcgmmpaaGreatDoorJFum
import Derived.Test.YtofkcmihcgmmpaaGreatDoorJFug
import Derived.Test.YtofkcmihcgmmpaaGreatDoorPlainLeastMoreGoes
import Derived.Test.YtofkcmihcgmmpaaGreatDoorMLm1
import Derived.Test.YtofkcmihcgmmpaaGreatDoorMLm2
import Derived.Test.YtofkcmihcgmmpaaGreatDoorMLm7
import Derived.Test.YtofkcmihcgmmpaaGreatDoorMLm10
import Derived.Test.YtofkcmihcgmmpaaGreatDoorMLm11
import Derived.Test.YtofkcmihcgmmpaaGreatDoorMLm15
namespace Go.Proofs.YtofkcmihcgmmpaaGreatDoor
set_option maxRecDepth 100000
open Go.RowKit Go.Sort
theorem zmy {w0 : World} {g c : Nat} {fs : List zd} {av : List Value} (hrow : zaV w0 g c fs av) (hrd : zaw w0 g av fs) (hl : ∀ k (hk : k < fs.length), fs[k].2.length <= 1048576) {i j : Nat} (hi : i < fs.length) (hj : j < fs.length)
 (hi' : i < av.length) (hj' : j < av.length) (x : zb6 w0) :
 Calls Tryz.prog 87 #[.agg #[.int .i64 fs[i].1, av[i]], .agg #[.int .i64 fs[j].1, av[j]]] x.val fun e w' => e = .returned (.bool (decide (fs[i] = fs[j]))) /\ Below x.val.heap.size x.val w' := by
 have hg := Nat.le_of_lt hrow.lt
 have h1 := ((hrd.2 i hi hi' hi).more hg).on x.2
 have h2 := ((hrd.2 j hj hj' hj).more hg).on x.2
 refine (zjf _ _ fs[i] fs[j] x.val ⟨_, rfl, h1⟩ ⟨_, rfl, h2⟩ (hl i hi) (hl j hj)).mono fun e w' ⟨he, hG⟩ => ⟨by rw [he, znB], hG.below⟩
theorem zaV.cells {w : World} {g c : Nat} {fs : List zd} {av : List Value} (h : zaV w g c fs av) (hl : av.length = fs.length) {k : Nat} (hk : k < fs.length) (hk' : k < av.length) :
 w.cell? ⟨g, k * 2, none⟩ = some (.int .i64 fs[k].1) /\ w.cell? ⟨g, k * 2 + 1, none⟩ = some av[k] := by
 obtain ⟨c0, c1⟩ := zdw fs av hl k hk hk'
 exact ⟨by rw [h.cell (by omega), c0], by rw [h.cell (by omega), c1]⟩
set_option maxHeartbeats 4000000 in
theorem zky (g c : Nat) (fs : List zd) (av : List Value) (w : World) (hrow : zaV w g c fs av) (hrd : zaw w g av fs) (hn : fs.length <= 4194304) (hl : ∀ k (hk : k < fs.length), fs[k].2.length <= 1048576) :
 Calls Tryz.prog 86 #[.slice (some ⟨g, 0, none⟩) fs.length c, .func (.func 87) #[] #[]] w fun e w' =>
  ∃ av', e = .returned (.slice (some ⟨g, 0, none⟩) (zG fs).length c) /\ zaV w' g c (zG fs) av' /\ zaw w' g av' (zG fs) /\ zj g (g + 1) w w' := by
 have hlc := hrow.len
 have hcm : c <= maxLen := by obtain ⟨_, _, _, h, _⟩ := hrow; exact h
 have hcm2 : c <= 9223372036854775807 := by unfold maxLen at hcm; omega
 by_cases h2 : fs.length < 2
 ·have HE := Lib.hid (show zG fs = fs by
   match fs, h2 with
   | [], _ => rfl
   | [f], _ => rfl)
  have h2I : (fs.length : Int) < 2 := by omega
  have HR := Lib.hid (And.intro hrow hrd)
  clear hrow hrd h2
  go_enter Tryz.func86, Tryz.ntmps86
  go_wp2_with (fail)
  go_ret
  rw [HE.out]
  exact ⟨av, rfl, HR.out.1, HR.out.2, zj.refl _ _ _⟩
 ·have h2I : ¬ (fs.length : Int) < 2 := by omega
  have hg := hrow.lt
  have hav := hrd.1
  have HR := Lib.hid (And.intro hrow hrd)
  have HAV := Lib.hid hav
  clear hrow hrd h2 hav
  go_enter Tryz.func86, Tryz.ntmps86
  go_wp2_with (fail)
  go_loopw [5] (fun i wr => ∃ j : Nat, j + 1 <= fs.length /\ i = .int .i64 ((j + 1 : Nat) : Int) /\ zG (fs.take (j + 1)) = fs.take (j + 1) /\ Below w.heap.size w wr) (fun i _ => fs.length - (intOf i).toNat)
  case atStart => exact ⟨0, by omega, rfl, by
   rw [zE fs 0 (by omega)]
   rfl, Below.refl _ _⟩
  case round =>
   obtain ⟨j, hj, rfl, hcp, hbe⟩ := hrel
   have hrow := HR.out.1.below hbe hg
   have hrd := HR.out.2.below hbe (Nat.le_of_lt hg)
   by_cases hlt : j + 1 < fs.length
   ·have hj1 : j < fs.length := by omega
    have hja : j < av.length := by have := HAV.out; omega
    have hja1 : j + 1 < av.length := by have := HAV.out; omega
    obtain ⟨a0, a1⟩ := hrow.cells HAV.out hlt hja1
    obtain ⟨b0, b1⟩ := hrow.cells HAV.out hj1 hja
    have A0 := zF a0
    have A1 := zF a1
    have B0 := zF b0
    have B1 := zF b1
    have CS := Lib.hid (zmy hrow hrd hl hlt hj1 hja1 hja)
    have HC := Lib.hid hcp
    have HST := Lib.hid (zgS hlt)
    have HRR := Lib.hid (And.intro hrow hrd)
    obtain ⟨va, hva⟩ : ∃ va, va = av[j + 1] := ⟨_, rfl⟩
    obtain ⟨vb, hvb⟩ : ∃ vb, vb = av[j] := ⟨_, rfl⟩
    rw [<- hva] at A1 CS
    rw [<- hvb] at B1 CS
    obtain ⟨Aa, ca, hfa, _⟩ := hrd.2 (j + 1) hlt hja1 hlt
    obtain ⟨Ab, cb, hfb, _⟩ := hrd.2 j hj1 hja hj1
    rw [<- hva] at hfa
    rw [<- hvb] at hfb
    subst hfa hfb
    clear hcp hrow hrd a0 a1 b0 b1 hva hvb
    by_cases he : fs[j + 1] = fs[j]
    ·-- the first two that are the same
     have hd : decide (fs[j + 1] = fs[j]) = true := decide_eq_true he
     rw [hd] at CS
     have HE := Lib.hid he
     clear he hd
     go_wp2_with (fail)
     refine zJ (by kernel_rfl) (by kernel_rfl) ?_
     repeat (go_big_quiet_step ((go_at_call 87; exact zaz (CS.out _))))
     refine wpQuiet_nil ?_
     rintro _ ⟨xq, rfl⟩
     go_wp2_with (fail)
     have HLN := Lib.hid (show zG (fs.take (j + 1 + 1)) = fs.take (j + 1) by
      rw [show j + 1 + 1 = j + 2 from rfl, HST.out, if_pos HE.out.symm, HC.out])
     have HAll := Lib.hid (show ∀ f ∈ fs, f.2.length <= 1048576 from fun f hf => by
      obtain ⟨q, hq, rfl⟩ := List.getElem_of_mem hf
      exact hl q hq)
     clear A0 A1 B0 B1
     go_loopw [5, 7] (fun m k wr => ∃ (i m' : Nat) (fw : List zd) (aw : List Value), i + 1 <= fs.length - (j + 1) /\ k = .int .i64 ((i + 1 : Nat) : Int) /\ m = .int .i64 (m' : Nat) /\ m' <= j + 1 + i /\ fw.length = fs.length /\ fw.take m' = zG (fs.take (j + 1 + i + 1)) /\ m' = (zG (fs.take (j + 1 + i + 1))).length /\ fw.drop (j + 1 + i) = fs.drop (j + 1 + i) /\
      (∀ f ∈ fw, f.2.length <= 1048576) /\ zaV wr g c fw aw /\ zaw wr g aw fw /\ zj g (g + 1) w wr) (fun _ k _ => fs.length - (intOf k).toNat)
     case atStart =>
      exact ⟨0, j + 1, fs, av, by omega, rfl, rfl, by omega, rfl, HLN.out.symm, by rw [HLN.out, List.length_take]; omega, rfl, HAll.out, HRR.out.1.keep (xq.2.block g (Nat.lt_of_lt_of_le hg hbe.size)), HRR.out.2.below xq.2 (Nat.le_trans (Nat.le_of_lt hg) hbe.size), (zj.of_below hbe).trans (zj.of_below xq.2)⟩
     case round =>
      obtain ⟨i, m, fw, aw, hi, rfl, rfl, hm, hfl, htk, hml, hdr, hal, hrow, hrd, hon⟩ := hrel
      have hgr := hrow.lt
      have haw := hrd.1
      by_cases hlt2 : i + 1 < fs.length - (j + 1)
      ·have hq1 : j + 1 + i + 1 < fs.length := by omega
       have hq0 : j + 1 + i < fs.length := by omega
       have hq1f : j + 1 + i + 1 < fw.length := by omega
       have hq0f : j + 1 + i < fw.length := by omega
       have hq1a : j + 1 + i + 1 < aw.length := by omega
       have hq0a : j + 1 + i < aw.length := by omega
       have hma : m < aw.length := by omega
       have hmf : m < fw.length := by omega
       have e0 : fw[j + 1 + i] = fs[j + 1 + i] := by
        have h1 := congrArg (fun l => l[0]?) hdr
        simpa [hq0, hq0f] using h1
       have e1 : fw[j + 1 + i + 1] = fs[j + 1 + i + 1] := by
        have h1 := congrArg (fun l => l[1]?) hdr
        simpa [hq1, hq1f] using h1
       obtain ⟨a0, a1⟩ := hrow.cells haw hq1f hq1a
       obtain ⟨b0, b1⟩ := hrow.cells haw hq0f hq0a
       obtain ⟨d0, d1⟩ := hrow.cells haw hmf hma
       rw [show (j + 1 + i + 1) * 2 = (j + 1) * 2 + (i + 1) * 2 by omega] at a0 a1
       rw [show (j + 1 + i) * 2 = (j + 1) * 2 + i * 2 by omega] at b0 b1
       have CS2 := Lib.hid (zmy hrow hrd (fun k hk => hal _ (List.getElem_mem hk)) hq1f hq0f hq1a hq0a)
       have HST2 := Lib.hid (zgS hq1)
       obtain ⟨va, hva⟩ : ∃ va, va = aw[j + 1 + i + 1] := ⟨_, rfl⟩
       obtain ⟨vb, hvb⟩ : ∃ vb, vb = aw[j + 1 + i] := ⟨_, rfl⟩
       obtain ⟨Aa, ca, hfa, hfx⟩ := hrd.2 (j + 1 + i + 1) hq1f hq1a hq1f
       obtain ⟨Ab, cb, hfb, _⟩ := hrd.2 (j + 1 + i) hq0f hq0a hq0f
       have RA := hrd.2 (j + 1 + i + 1) hq1f hq1a hq1f
       rw [<- hva] at a1 CS2 hfa RA
       rw [<- hvb] at b1 CS2 hfb
       subst hfa hfb
       rw [e1] at a0 a1 CS2 RA
       rw [e0] at b0 b1 CS2
       have A0 := zF a0
       have A1 := zF a1
       have B0 := zF b0
       have B1 := zF b1
       have HQ := Lib.hid (And.intro hrow (And.intro hrd (And.intro hon (And.intro htk (And.intro hml (And.intro hdr RA))))))
       have HAL := Lib.hid hal
       have HF := Lib.hid (And.intro hfl haw)
       clear hva hvb a0 a1 b0 b1 e0 e1 hrow hrd hon htk hml hdr RA hal hfx
       by_cases he2 : fs[j + 1 + i + 1] = fs[j + 1 + i]
       ·have hd2 : decide (fs[j + 1 + i + 1] = fs[j + 1 + i]) = true := decide_eq_true he2
        rw [hd2] at CS2
        have HN := Lib.hid (show zG (fs.take (j + 1 + (i + 1) + 1)) = zG (fs.take (j + 1 + i + 1)) by
         rw [show j + 1 + (i + 1) + 1 = j + 1 + i + 2 by omega, HST2.out, if_pos he2.symm])
        clear he2 hd2 d0 d1
        go_wp2_with (fail)
        refine zJ (by kernel_rfl) (by kernel_rfl) ?_
        repeat (go_big_quiet_step ((go_at_call 87; exact zaz (CS2.out _))))
        refine wpQuiet_nil ?_
        rintro _ ⟨xr, rfl⟩
        go_wp2_with (fail)
        go_roundw
        case rel =>
         obtain ⟨h1, h2, h3, h4, h5, h6, h7⟩ := HQ.out
         refine ⟨i + 1, m, fw, aw, by omega, by go_num, rfl, by omega, HF.out.1, by rw [HN.out]; exact h4, by rw [HN.out]; exact h5, ?_, HAL.out, h1.keep (xr.2.block g hgr), h2.below xr.2 (Nat.le_of_lt hgr), h3.trans (zj.of_below xr.2)⟩
         have := congrArg (List.drop 1) h6
         rwa [List.drop_drop, List.drop_drop] at this
        case measure => simp [intOf]; omega
       ·have hd2 : decide (fs[j + 1 + i + 1] = fs[j + 1 + i]) = false := decide_eq_false he2
        rw [hd2] at CS2
        have HN := Lib.hid (show zG (fs.take (j + 1 + (i + 1) + 1)) = zG (fs.take (j + 1 + i + 1)) ++ [fs[j + 1 + i + 1]] by
         rw [show j + 1 + (i + 1) + 1 = j + 1 + i + 2 by omega, HST2.out, if_neg (fun e => he2 e.symm)])
        clear he2 hd2
        go_wp2_with (fail)
        refine zJ (by kernel_rfl) (by kernel_rfl) ?_
        repeat (go_big_quiet_step ((go_at_call 87; exact zaz (CS2.out _))))
        refine wpQuiet_nil ?_
        rintro _ ⟨xr, rfl⟩
        have D0 := zF d0 xr
        have D1 := zF d1 xr
        have hrx := HQ.out.1.keep (xr.2.block g hgr)
        have F0 := hrx.frozen (m * 2)
        have F1 := hrx.frozen (m * 2 + 1)
        have hset := hrx.set HF.out.2 hmf fs[j + 1 + i + 1] (.slice Aa fs[j + 1 + i + 1].2.length ca)
        have HSET := Lib.hid hset
        have hbx := xr.2
        obtain ⟨Vd, hVd⟩ : ∃ Vd, Vd = aw[m] := ⟨_, rfl⟩
        rw [<- hVd] at D1
        clear hset hrx d0 d1 hVd
        go_wp2_with (fail)
        go_roundw
        case rel =>
         obtain ⟨h1, h2, h3, h4, h5, h6, h7⟩ := HQ.out
         have o1 : zj g (g + 1) xr.val ((xr.val.setCell ⟨g, m * 2, none⟩ (.int .i64 fs[j + 1 + i + 1].1)).setCell ⟨g, m * 2 + 1, none⟩ (.slice Aa fs[j + 1 + i + 1].2.length ca)) :=
          zj.setCell (p := ⟨g, m * 2 + 1, none⟩) (zj.setCell (p := ⟨g, m * 2, none⟩) (zj.refl g (g + 1) xr.val) ⟨Nat.le_refl g, Nat.lt_succ_self g⟩ _) ⟨Nat.le_refl g, Nat.lt_succ_self g⟩ _
         have o2 := (h3.trans (zj.of_below xr.2)).trans o1
         refine ⟨i + 1, m + 1, fw.set m fs[j + 1 + i + 1], aw.set m (.slice Aa fs[j + 1 + i + 1].2.length ca), by omega, by go_num, by go_num, by omega, by rw [List.length_set]; exact HF.out.1, ?_, ?_, ?_, ?_, HSET.out, ?_, o2⟩
         ·rw [HN.out, <- h4, List.take_set, zE fw m hmf, List.set_append_right _ _ (by simp; omega)]
          simp [Nat.min_eq_left (Nat.le_of_lt hmf)]
         ·rw [HN.out, List.length_append, <- h5]
          rfl
         ·rw [List.drop_set_of_lt (by omega)]
          have := congrArg (List.drop 1) h6
          rwa [List.drop_drop, List.drop_drop] at this
         ·intro f hf
          rcases List.mem_or_eq_of_mem_set hf with hf | rfl
          ·exact HAL.out f hf
          ·exact hl _ hq1
         ·have hbw : Below g wr ((xr.val.setCell ⟨g, m * 2, none⟩ (.int .i64 fs[j + 1 + i + 1].1)).setCell ⟨g, m * 2 + 1, none⟩ (.slice Aa fs[j + 1 + i + 1].2.length ca)) := ((zj.of_below xr.2).trans o1).below (Nat.le_refl _) (Nat.le_of_lt hgr)
          have h2b := h2.below hbw (Nat.le_refl _)
          refine ⟨by simp [h2.1], fun q q1 q2 q3 => ?_⟩
          by_cases eq : m = q
          ·subst eq
           simpa using h7.below hbw (Nat.le_refl _)
          ·have := h2b.2 q (by simpa using q1) (by simpa using q2) (by simpa using q3)
           simpa [List.getElem_set_ne eq] using this
        case measure => simp [intOf]; omega
      ·have hn1 : j + 1 + i + 1 = fs.length := by omega
       have hmn : m < fw.length := by omega
       obtain ⟨WC, hcl, hoc, hac⟩ := zhU hrow hmn (c - m)
       rw [hfl] at hcl
       have HX := Lib.hid (show fw.take m = zG fs /\ m = (zG fs).length by
        rw [hn1, List.take_length] at htk hml
        exact ⟨htk, hml⟩)
       have HQ := Lib.hid (And.intro (hac haw) (And.intro hrd (And.intro (hon.trans hoc) (hoc.below (Nat.le_refl _) (Nat.le_of_lt hgr)))))
       have hmn2 : m <= fs.length := by omega
       have hmc : m <= c := by omega
       clear hrow hrd hon htk hml hdr hal hoc hac
       go_wp2_with (simp only [hcl])
       go_ret
       obtain ⟨h1, h2, h3, h4⟩ := HQ.out
       rw [<- HX.out.1] at *
       refine ⟨aw.take m, ?_, h1, ?_, h3⟩
       ·congr 2
        simp
        omega
       ·have h2b := h2.below h4 (Nat.le_refl _)
        refine ⟨by simp [h2.1], fun q q1 q2 q3 => ?_⟩
        simp at q1 q2 q3
        have := h2b.2 q (by omega) (by omega) (by omega)
        simpa using this
    ·have hd : decide (fs[j + 1] = fs[j]) = false := decide_eq_false he
     rw [hd] at CS
     have HN := Lib.hid (show zG (fs.take (j + 1 + 1)) = fs.take (j + 1 + 1) by
      rw [show j + 1 + 1 = j + 2 from rfl, HST.out, if_neg (fun e => he e.symm), HC.out, <- zE fs (j + 1) hlt])
     clear he hd
     go_wp2_with (fail)
     refine zJ (by kernel_rfl) (by kernel_rfl) ?_
     repeat (go_big_quiet_step ((go_at_call 87; exact zaz (CS.out _))))
     refine wpQuiet_nil ?_
     rintro _ ⟨xq, rfl⟩
     go_wp2_with (fail)
     go_roundw
     case rel => exact ⟨j + 1, by omega, by go_num, HN.out, zf hbe xq.2⟩
     case measure => simp [intOf]; omega
   ·have HE := Lib.hid (show zG fs = fs by
     have e : fs.take (j + 1) = fs := by rw [show j + 1 = fs.length by omega, List.take_length]
     rw [e] at hcp
     exact hcp)
    have HRR := Lib.hid (And.intro hrow hrd)
    clear hcp hrow hrd
    go_wp2_with (fail)
    go_ret
    rw [HE.out]
    exact ⟨av, rfl, HRR.out.1, HRR.out.2, zj.of_below hbe⟩
open Go.RowKit
set_option maxHeartbeats 400000 in
theorem zjp (v : Value) (fs : List zd) (w : World) (h : zt w w.heap.size v fs) (hl : fs.length <= 4194304) (hn : tot fs <= 1048576) :
 Calls Tryz.prog 47 #[v] w fun e w' => ∃ A' c', e = .returned (.slice A' fs.length c') /\ zp w' w.heap.size w'.heap.size (.slice A' fs.length c') fs /\ Below w.heap.size w w' := by
 obtain ⟨i0, hi0, hz0, hz1, hz2⟩ := info_parts Tryz.infoFact
 have hmk := fun W => zbL (P := Tryz.prog) 27 39 i0 (.agg #[.int .i64 0, .slice none 0 0]) Tryz.underlying27 hi0 hz0 .i64 .i64 fs.length fs.length (Nat.le_refl _) (by rw [hz2]; omega) (by omega) W
 rw [hz1] at hmk
 simp only [Value.cells] at hmk
 have H := Lib.hid h
 obtain ⟨A, c, rfl, hc, _⟩ := h
 go_enter Tryz.func47, Tryz.ntmps47
 go_wp2_with (fail)
 go_loopw [4, 5, 11] (fun _ _ i wr => ∃ (k : Nat) (av : List Value), k <= fs.length /\ i = .int .i64 k /\ ze4 w wr fs k av) (fun _ _ i _ => fs.length - (intOf i).toNat)
 case atStart => exact ⟨0, [], Nat.zero_le _, rfl, ze4.start w fs⟩
 case round =>
  obtain ⟨k, av, hk, rfl, hr⟩ := hrel
  by_cases hlt : k < fs.length
  ·obtain ⟨b, o, A3, c3, rfl, hbB, k1, k2, k3⟩ := (H.out.on hr.below).get hlt
   have K3 := Lib.hid (show z8 wr wr.heap.size (.agg #[.int .i64 fs[k].1, .slice A3 fs[k].2.length c3]) fs[k] from ⟨_, rfl, k3⟩)
   have hln := zaH fs k hlt
   clear k3
   go_wp2_with (fail)
   refine (zkv _ fs[k] _ (K3.out.on (ze _ _)) (by omega)).mono ?_
   rintro e w4 ⟨A4, c4, rfl, ho4, hb4⟩
   have hb5 := zf (ze _ _) hb4
   have ho5 : zg w4 wr.heap.size w4.heap.size _ _ := ho4.mono (by simp) (Nat.le_refl _)
   obtain ⟨r1, r2, r3, r4⟩ := hr.room hlt hb5
   have hstep := hr.step hlt hb5 ho5
   clear ho4 ho5 hb4
   go_wp2_with (fail)
   go_roundw
   case rel => exact ⟨k + 1, _, by omega, by go_num, hstep⟩
   case measure => simp [intOf]; omega
  ·have hkn : k = fs.length := by omega
   have HO := Lib.hid (show zp wr w.heap.size wr.heap.size (.slice (some ⟨w.heap.size, 0, none⟩) fs.length fs.length) fs from ze4.done (by rw [<- hkn]; exact hr) (by unfold maxLen; omega))
   have hbe := hr.below
   clear hkn hr
   go_wp2_with (fail)
   go_ret
   exact ⟨_, _, rfl, HO.out, hbe⟩
open Go.RowKit Go.Sort
theorem ziY (w : World) :
 Calls Tryz.prog 86 #[.slice none 0 0, .func (.func 87) #[] #[]] w fun e w' => e = .returned (.slice none 0 0) /\ w = w' := by
 go_enter Tryz.func86, Tryz.ntmps86
 go_wp2_with (fail)
 go_ret
 exact ⟨rfl, rfl⟩
theorem zoo {fs : List zd} {n : Nat} (h : tot fs <= n) : ∀ k (hk : k < fs.length), fs[k].2.length <= n := fun k hk => Nat.le_trans (zaH fs k hk) h
set_option maxHeartbeats 1000000 in
theorem zlk (v : Value) (fs : List zd) (w : World) (h : zt w w.heap.size v fs) (hn : fs.length <= 2097152) (ht : tot fs <= 1048576) :
 Calls Tryz.prog 48 #[v] w fun e w' => ∃ A' c', e = .returned (.slice A' (zD fs).length c') /\ zt w' w'.heap.size (.slice A' (zD fs).length c') (zD fs) /\ Below w.heap.size w w' := by
 obtain ⟨A, c, av, rfl, ha, hc⟩ := h.heads
 have HA := Lib.hid (And.intro ha hc)
 clear h ha hc
 go_enter Tryz.func48, Tryz.ntmps48
 go_wp2_with (fail)
 refine (zn8 A c fs av w HA.out.1 HA.out.2 (by omega)).mono ?_
 rintro e w1 ⟨A1, c1, rfl, hrow, hb1⟩
 rcases hrow.row.2 with ⟨e1, h0⟩ | ⟨g, cap, cur, e1, hbg, hgg, r1, r2, r3, r4⟩
 ·injection e1 with e1 _ e3
  subst e1
  subst e3
  have hfs : fs = [] := List.eq_nil_of_length_eq_zero h0
  subst hfs
  have HS := Lib.hid (show zD [] = [] from rfl)
  have hs := AnyF.slices_SortFunc_none Tryz.sortFact none 0 (.func (.func 32) #[] #[]) w1
  clear hrow h0
  go_wp2_with (fail)
  refine Calls.mono hs ?_
  rintro e w2 ⟨rfl, rfl⟩
  go_wp2_with (fail)
  refine (ziY _).mono ?_
  rintro e w2 ⟨rfl, rfl⟩
  go_wp2_with (fail)
  go_ret
  rw [HS.out]
  exact ⟨none, 0, rfl, ⟨none, 0, rfl, by simp, fun h => absurd h (by simp)⟩, hb1⟩
 ·injection e1 with e1 _ e3
  subst e1
  subst e3
  have hat : zaV w1 g c1 fs av := ⟨cur, hgg, r1, r2, r3, r4⟩
  have hrd : zaw w1 g av fs := ((HA.out.1.below hb1 (Nat.le_refl _)).more hbg)
  have hlen := zoo ht
  have hs := zmP g c1 fs av w1 hat hrd (by omega) hlen
  clear hrow hat hgg r1 r2 r3 r4
  go_wp2_with (fail)
  refine hs.mono ?_
  rintro e w2 ⟨rfl, fs', av', hp, hup, hat2, hrd2, ho2⟩
  have hl2 : ∀ k (hk : k < fs'.length), fs'[k].2.length <= 1048576 := fun k hk => by
   obtain ⟨q, hq, e⟩ := List.getElem_of_mem (hp.mem_iff.1 (List.getElem_mem hk))
   rw [<- e]
   exact hlen q hq
  have hk := zky g c1 fs' av' w2 hat2 hrd2 (by rw [hp.length_eq]; omega) hl2
  have HC := Lib.hid (show zG fs' = zD fs from zjq hup fun x => hp.mem_iff)
  rw [show fs.length = fs'.length from hp.length_eq.symm]
  have HB2 := Lib.hid (show Below w.heap.size w w2 from zj.then_ hb1 ho2 hbg)
  have hg1 := hat2.lt
  clear hs hp hup hat2 hrd2 hl2 hlen hrd
  go_wp2_with (fail)
  refine hk.mono ?_
  rw [HC.out]
  rintro e w3 ⟨av3, rfl, hat3, hrd3, ho3⟩
  have HR := Lib.hid (show zt w3 w3.heap.size (.slice (some ⟨g, 0, none⟩) (zD fs).length c1) (zD fs) from
   (zfa.facts (base := 0) ⟨hat3.row hrd3.1 (Nat.zero_le _), hrd3.more (Nat.le_of_lt hat3.lt)⟩))
  have HB3 := Lib.hid (show Below w.heap.size w w3 from zj.then_ HB2.out ho3 hbg)
  clear hk hat3 hrd3 ho3 ho2
  go_wp2_with (fail)
  go_ret
  exact ⟨_, c1, rfl, HR.out, HB3.out⟩
set_option maxHeartbeats 1000000 in
theorem zfN (v v2 : Value) (xs ys : List zd) (w : World) (h : zt w w.heap.size v xs) (h2 : zt w w.heap.size v2 ys) (hn : xs.length + ys.length <= 1048576) (ht : tot xs + tot ys <= 1048576) :
 Calls Tryz.prog 16 #[v, v2] w fun e w' => ∃ A' c', e = .returned (.slice A' (zD (xs ++ ys)).length c') /\ zp w' w.heap.size w'.heap.size (.slice A' (zD (xs ++ ys)).length c') (zD (xs ++ ys)) /\ Below w.heap.size w w' := by
 have H := Lib.hid h
 have H2 := Lib.hid h2
 obtain ⟨A, c, rfl, hc, _⟩ := h
 obtain ⟨A2, c2, rfl, hc2, _⟩ := h2
 obtain ⟨zs, hzs⟩ : ∃ zs, zs = xs ++ ys := ⟨_, rfl⟩
 have HZ := Lib.hid hzs
 have HZB := Lib.hid (show zs.length <= 2097152 /\ tot zs <= 1048576 from ⟨by rw [hzs, List.length_append]; omega, by rw [hzs, zc0]; exact ht⟩)
 have HL := Lib.hid (show (zD zs).length <= 4194304 /\ tot (zD zs) <= 1048576 by
  have hbd := zdd zs
  have := HZB.out
  omega)
 rw [<- hzs]
 clear hzs
 go_enter Tryz.func16, Tryz.ntmps16
 go_wp2_with (fail)
 obtain ⟨w1, hw1⟩ : ∃ w1, w1 = w.alloc (Obj.cells #[Value.slice A xs.length c, Value.slice A2 ys.length c2] 27) := ⟨_, rfl⟩
 have B1 : Below w.heap.size w w1 := by rw [hw1]; exact ze _ _
 have b1 : Blk w1 w.heap.size 27 #[.slice A xs.length c, .slice A2 ys.length c2] := by rw [hw1]; exact Blk.new _ _ _
 rw [<- hw1]
 clear hw1
 refine (zml w.heap.size _ _ _ xs ys w1 (b1.cell 0) (b1.cell 1) (H.out.on B1) (H2.out.on B1) (by omega)).mono ?_
 rw [<- HZ.out]
 rintro e w3 ⟨A3, c3, av3, rfl, hr3, hb3⟩
 have B3 := zf B1 hb3
 have R3 := Lib.hid hr3.facts
 clear b1 hr3
 go_wp2_with (fail)
 refine (zlk _ zs w3 R3.out HZB.out.1 HZB.out.2).mono ?_
 rintro e w4 ⟨A4, c4, rfl, hr4, hb4⟩
 have B4 := zf B3 hb4
 have R4 := Lib.hid hr4
 clear hr4
 go_wp2_with (fail)
 refine (zjp _ (zD zs) w4 R4.out HL.out.1 HL.out.2).mono ?_
 rintro e w5 ⟨A5, c5, rfl, ho5, hb5⟩
 have HO := Lib.hid (And.intro ho5 (zf B4 hb5))
 have s4 := B4.size
 clear ho5
 go_wp2_with (fail)
 go_ret
 exact ⟨A5, c5, rfl, HO.out.1.mono s4 (Nat.le_refl _), HO.out.2⟩
open Go.RowKit
theorem znl (xs : List Int) : zaq xs xs = 0 := by
 induction xs with
 | nil => simp [zaq]
 | cons x xs ih => simp [zaq, ih]
theorem ziT (f : zd) : zk f f = 0 := by simp [zk, znl]
set_option maxHeartbeats 1000000 in
theorem zhp (v v2 : Value) (fs : List zd) (w : World) (h : zt w w.heap.size v fs) (h2 : zt w w.heap.size v2 fs) (hn : fs.length <= 1048576) (ht : tot fs <= 1048576) :
 Calls Tryz.prog 8 #[v, v2] w fun e w' => e = .returned (.bool true) /\ Below w.heap.size w w' := by
 have H := Lib.hid h
 have H2 := Lib.hid h2
 obtain ⟨A, c, rfl, hc, _⟩ := h
 obtain ⟨A2, c2, rfl, hc2, _⟩ := h2
 have hnn : ((fs.length : Int) != (fs.length : Int)) = false := by simp
 go_enter Tryz.func8, Tryz.ntmps8
 go_wp2_with (fail)
 go_loopw [5, 13] (fun _ i wr => ∃ k : Nat, k <= fs.length /\ i = .int .i64 k /\ Below w.heap.size w wr) (fun _ i _ => fs.length - (intOf i).toNat)
 case atStart => exact ⟨0, Nat.zero_le _, rfl, Below.refl _ _⟩
 case round =>
  obtain ⟨k, hk, rfl, hbe⟩ := hrel
  by_cases hlt : k < fs.length
  ·obtain ⟨b, o, A3, c3, rfl, hbB, k1, k2, k3⟩ := (H.out.on hbe).get hlt
   have K3 := Lib.hid (show z8 wr wr.heap.size (.agg #[.int .i64 fs[k].1, .slice A3 fs[k].2.length c3]) fs[k] from ⟨_, rfl, k3⟩)
   obtain ⟨b', o', A4, c4, rfl, hbB', m1, m2, m3⟩ := (H2.out.on hbe).get hlt
   have K4 := Lib.hid (show z8 wr wr.heap.size (.agg #[.int .i64 fs[k].1, .slice A4 fs[k].2.length c4]) fs[k] from ⟨_, rfl, m3⟩)
   have hln := zaH fs k hlt
   have L1 := zF k1
   have L2 := zF k2
   have M1 := zF m1
   have M2 := zF m2
   have CO := Lib.hid (fun x : zb6 wr => (zef _ _ fs[k] fs[k] x.val (K3.out.on x.2) (K4.out.on x.2) (by omega) (by omega)).mono fun e w' (hh : e = .returned (.int .i64 (zk fs[k] fs[k])) /\ Below x.val.heap.size x.val w') => (⟨by rw [hh.1, ziT], hh.2⟩ : e = .returned (.int .i64 0) /\ Below x.val.heap.size x.val w'))
   clear k1 k2 k3 m1 m2 m3
   go_wp2_with (fail)
   refine zJ (by kernel_rfl) (by kernel_rfl) ?_
   repeat (go_big_quiet_step ((go_at_call 32; exact zaz (CO.out _))))
   refine wpQuiet_nil ?_
   rintro _ ⟨xq, rfl⟩
   go_wp2_with (fail)
   go_roundw
   case rel => exact ⟨k + 1, by omega, by go_num, zf hbe xq.2⟩
   case measure => simp [intOf]; omega
  ·have hkn : k = fs.length := by omega
   have hdk : decide ((k : Int) < (fs.length : Int)) = false := by simp; omega
   go_wp2_with (fail)
   go_ret
   exact ⟨rfl, hbe⟩
open Go.ChangeShapes Go.WideShapes Go.ChangeAt Go.RowKit Go.Joins Go.Deep
theorem Tryz.cells5 : Tryz.prog.cellsOf 5 = 1 := by kernel_rfl
def zmJ (W : World) (v : Value) (bs : List Nat) : Prop := zcf W W.heap.size v bs /\ bs.length <= maxLen /\ ∀ b ∈ bs, b < 256
theorem zi0 {n : Int} (h : (Lit.int .u8 n).wf = true) : 0 <= n /\ n < 256 := by
 simp only [Lit.wf, Bool.and_eq_true, decide_eq_true_eq] at h
 have h1 : IntKind.u8.min = 0 := by decide
 have h2 : IntKind.u8.max = 255 := by decide
 omega
theorem zke {H : Type} {enc : TypeId × Value -> H} {W : World} {v : Value} {d : DataW H} {p : List MemPlace} {b0 : Nat} (hv : Value.okWide Tryz.prog W .any b0 22 v) (h : DataW.Trod enc Tryz.prog W 0 (fun _ => true) true 22 v d p) :
 ∃ bs, zmJ W v bs := by
 obtain ⟨a, len, cap, rfl⟩ := okWide_slice Tryz.underlying22 hv
 obtain ⟨fuel, hf⟩ := h
 have hf : DataW.trod enc Tryz.prog W 0 (fun _ => true) true fuel 22 [.slice a len cap] = some (d, p) := by simpa [Value.cells] using hf
 rcases open_ints Tryz.underlying22 Tryz.underlying5 Tryz.cells5 hf with ⟨hcs, _⟩ | ⟨a, len, cap, zs, hcs, _, hl, hm, hz, _, hcell, hwz⟩
 ·simp at hcs
  obtain ⟨rfl, rfl, rfl⟩ := hcs
  exact ⟨[], ⟨none, 0, rfl, by simp, fun h => absurd h (by simp)⟩, by simp, by simp⟩
 ·simp at hcs
  obtain ⟨rfl, rfl, rfl⟩ := hcs
  simp at hz
  refine ⟨(zs.take len).map Int.toNat, ⟨some a, cap, ?_, by simp; omega, fun hn => ?_⟩, by simp; omega, ?_⟩
  ·congr 1
   simp
   omega
  ·have hlen : (zs.take len).length = len := by simp; omega
   simp only [List.length_map, hlen] at hn
   obtain ⟨b, o, rfl, hc⟩ := ints_at hcell (by omega)
   refine ⟨b, o, rfl, World.block_lt_of_cell? _ _ (hc 0 (by omega)), fun k hk => ?_⟩
   simp only [List.length_map, hlen] at hk
   have hw := zi0 (hwz zs[k] (List.getElem_mem (by omega)))
   rw [hc k (by omega)]
   simp [show k < zs.length by omega]
   omega
  ·intro b hb
   rw [List.mem_map] at hb
   obtain ⟨z, hz1, rfl⟩ := hb
   have := zi0 (hwz z (List.mem_of_mem_take hz1))
   omega
open Go.RowKit
set_option maxHeartbeats 8000000 in
theorem ze7 (v : Value) (code : List Nat) (w : World) (hr : zcf w w.heap.size v code) (_ : code.length <= maxLen) (hby : ∀ b ∈ code, b < 256) (hT : Tab w) :
 Calls Tryz.prog 5 #[v] w fun e w' => e = .returned (.bool true) /\ Below w.heap.size w w' := by
 have HV := Lib.hid hr
 have HT := Lib.hid hT
 obtain ⟨Av, cv, rfl, hcv, _⟩ := hr
 clear hT
 go_enter Tryz.func5, Tryz.ntmps5
 by_cases hbig : 1048576 < code.length
 ·have hd : decide ((1048576 : Int) < code.length) = true := by simp; omega
  go_wp2_with (fail)
  go_ret
  exact ⟨rfl, Below.refl _ _⟩
 have hd : decide ((1048576 : Int) < code.length) = false := by simp; omega
 have hbn : code.length <= 1073741824 := by omega
 go_upto_region 4 with (go_at_call 26; refine (zgQ _ code w HV.out hby hbn).mono ?_
                        rintro e w1 ⟨u, p, Al, cl, ls, Am, cm, ms, rfl, hdp, ⟨rl, rm⟩, ⟨hl1, hl2⟩, ⟨hm1, hm2⟩, B1⟩
                        obtain ⟨A, A2, c, c2, rfl, ra, rr⟩ := hdp.rd
                        have hsz := hdp.sz
                        clear hdp)
 have HSZ := Lib.hid (show szP p <= 1048576 by omega)
 obtain ⟨w2, hw2⟩ : ∃ w2, w2 = w1.alloc (Obj.cells #[Value.slice A p.1.length c, Value.slice A2 p.2.length c2] 26) := ⟨_, rfl⟩
 have b2 : Below w1.heap.size w1 w2 := by rw [hw2]; exact ze _ _
 have BX : Blk w2 w1.heap.size 26 #[.slice A p.1.length c, .slice A2 p.2.length c2] := by rw [hw2]; exact Blk.new _ _ _
 rw [<- hw2]
 clear hw2
 obtain ⟨D, hD⟩ : ∃ D, D = w1.heap.size := ⟨_, rfl⟩
 rw [<- hD] at BX ⊢
 clear hD
 have B2 := Lib.hid (zf B1 b2)
 have HPR := Lib.hid (show ∀ W, Below w2.heap.size w2 W -> zbI W W.heap.size (.agg #[.slice A p.1.length c, .slice A2 p.2.length c2]) p from fun W hW => ⟨_, _, rfl, (ra.on b2).on hW, (rr.on b2).on hW⟩)
 have HAR := Lib.hid (show ∀ W, Below w2.heap.size w2 W -> zv W W.heap.size (.slice A p.1.length c) p.1 from fun W hW => (ra.on b2).on hW)
 have HBX := Lib.hid (show ∀ W, Below w2.heap.size w2 W -> W.cell? ⟨D, 0, none⟩ = some (.slice A p.1.length c) /\ W.cell? ⟨D, 1, none⟩ = some (.slice A2 p.2.length c2) from fun W hW => ⟨(BX.below hW BX.lt).cell 0, (BX.below hW BX.lt).cell 1⟩)
 have HTT := Lib.hid (show ∀ W, Below w2.heap.size w2 W -> Tab W from fun W hW => HT.out.below (zf B2.out hW))
 obtain ⟨x0, x1⟩ := HBX.out _ (Below.refl _ _)
 have hDl := BX.lt
 have hpn : p.1.length <= 100 := by unfold szP at hsz; omega
 have hpr : p.2.length <= 100 := by unfold szP at hsz; omega
 have HLS := Lib.hid (show ∀ W, Below w2.heap.size w2 W -> zt W W.heap.size (.slice Al ls.length cl) ls from fun W hW => (rl.on b2).on hW)
 have HMS := Lib.hid (show ∀ W, Below w2.heap.size w2 W -> zt W W.heap.size (.slice Am ms.length cm) ms from fun W hW => (rm.on b2).on hW)
 obtain ⟨L, hL⟩ : ∃ L, L = zcj p ls ms := ⟨_, rfl⟩
 have HL := Lib.hid hL
 have HLF := Lib.hid (show L.length <= 1536 /\ tot L <= 3072 by rw [hL]; exact zlZ p ls ms)
 have hll := HLF.out.1
 have CI := Lib.hid (zgz _ (.slice Al ls.length cl) (.slice Am ms.length cm) p ls ms w2 (HPR.out _ (Below.refl _ _)) (HLS.out _ (Below.refl _ _)) (HMS.out _ (Below.refl _ _)) HSZ.out (by omega) (by omega) (by omega) (by omega) (HTT.out _ (Below.refl _ _)))
 have CS := Lib.hid (fun W (hW : Below w2.heap.size w2 W) => zgl _ (.slice Al ls.length cl) (.slice Am ms.length cm) p ls ms W (HPR.out _ hW) (HLS.out _ hW) (HMS.out _ hW) HSZ.out (by omega) (by omega) (by omega) (by omega))
 rw [<- hL] at CI CS
 clear hL BX b2 B1 ra rr rl rm hsz
 go_upto_region 5 with (go_at_call 27; refine CI.out.mono ?_; rintro e w3 ⟨A3, c3, rfl, o3, b3⟩)
 have B3 := Lib.hid b3
 have HL3 := Lib.hid o3.rd
 clear o3 b3 x0 x1
 obtain ⟨po, hpo⟩ : ∃ po, po = zah p := ⟨_, rfl⟩
 have HPO := Lib.hid hpo
 have CPI := Lib.hid (fun W (hW : Below w2.heap.size w2 W) => zc4 (.agg #[.slice A p.1.length c, .slice A2 p.2.length c2]) p W (HPR.out _ hW) HSZ.out)
 have CPS := Lib.hid (fun W (hW : Below w2.heap.size w2 W) => zb8 (.agg #[.slice A p.1.length c, .slice A2 p.2.length c2]) p W (HPR.out _ hW) HSZ.out)
 rw [<- hpo] at CPI CPS
 clear hpo
 obtain ⟨SS, hSS⟩ : ∃ SS : World -> Prop, SS = (fun W => W.cell? ⟨D, 0, none⟩ = some (.slice A p.1.length c) /\ W.cell? ⟨D, 1, none⟩ = some (.slice A2 p.2.length c2)) := ⟨_, rfl⟩
 have HB := Lib.hid (show ∀ W, SS W -> W.cell? ⟨D, 0, none⟩ = some (.slice A p.1.length c) /\ W.cell? ⟨D, 1, none⟩ = some (.slice A2 p.2.length c2) from by rw [hSS]; exact fun W hW => hW)
 have HC := Lib.hid (show ∀ W, Below w2.heap.size w2 W -> SS W from by rw [hSS]; exact fun W hW => HBX.out W hW)
 clear hSS
 refine zx SS 13 14 (by kernel_rfl) rfl ?_
 have B3d := Lib.hid (zf B3.out (Below.refl _ w3).drew)
 have BB3 := Lib.hid (show Below w3.heap.size w3 w3.drew from (Below.refl _ w3).drew)
 obtain ⟨wy, hwy⟩ : ∃ wy, wy = w3.drew := ⟨_, rfl⟩
 rw [<- hwy] at B3d BB3 ⊢
 clear hwy
 have S0 := HC.out _ B3d.out
 refine za (i := 0) (oi := _) ?va0 rfl rfl (by kernel_rfl) (by decide) (fun _ _ _ h => h) rfl ?hya0 (fun _ => S0) ?resta0
 case hya0 => (intro W; go_simp; (try with_reducible rfl))
 try simp only [zs.a, zs.b, zs.c]
 refine za (i := 2) (oi := _) ?va2 rfl rfl (by kernel_rfl) (by decide) (fun _ _ _ h => h) rfl ?hya2 (fun _ => S0) ?resta2
 case hya2 => (intro W; go_simp; (try with_reducible rfl))
 try simp only [zs.a, zs.b, zs.c]
 refine za (i := 3) (oi := _) ?va3 rfl rfl (by kernel_rfl) (by decide) (fun _ _ _ h => h) rfl ?hya3 (fun _ => S0) ?resta3
 case hya3 => (intro W; go_simp; (try with_reducible rfl))
 try simp only [zs.a, zs.b, zs.c]
 refine zl (i := 1) (oi := _) ?va1 rfl rfl (by kernel_rfl) (fun _ _ _ h => h) rfl ?hya1 S0 ?resta1
 case hya1 => (intro W hW; obtain ⟨d0, d1⟩ := HB.out W hW; go_simp; (try with_reducible rfl))
 try simp only [zs.a, zs.b, zs.c]
 refine zh (i := 4) (by kernel_rfl) rfl (fun K hK => ?_)
 try rw [if_pos (show Region.wanted _ _ = true from rfl)]
 go_simp
 refine (CS.out _ B3d.out).mono ?_
 rintro e w6 ⟨A6, c6, rfl, o6, b6⟩
 have B6 := Lib.hid (zf B3d.out b6)
 have BB6 := Lib.hid (zf BB3.out b6)
 have HW6 := Lib.hid o6.rd
 have S1 := HC.out _ B6.out
 clear o6 b6
 refine hK.out _ _ (fun _ => S1) ?_
 clear hK K
 try simp only [zs.a, zs.b, zs.c, Act.put]
 refine zh (i := 5) (by kernel_rfl) rfl (fun K hK => ?_)
 try rw [if_pos (show Region.wanted _ _ = true from rfl)]
 go_simp
 refine (zhp (.slice A3 L.length c3) (.slice A6 L.length c6) L w6 (HL3.out.on BB6.out) HW6.out (by omega) (by have := HLF.out.2; omega)).mono ?_
 rintro e w7 ⟨rfl, b7⟩
 have B7 := Lib.hid (zf B6.out b7)
 have BB7 := Lib.hid (zf BB6.out b7)
 have S2 := HC.out _ B7.out
 clear b7
 refine hK.out _ _ (fun _ => S2) ?_
 clear hK K
 try simp only [zs.a, zs.b, zs.c, Act.put]
 refine za (i := 6) (oi := _) (.bool false) rfl rfl (by kernel_rfl) (by decide) (fun _ _ _ h => h) rfl ?hyb6 (fun _ => S2) ?restb6
 case hyb6 => (intro W; go_simp; (try simp))
 try simp only [zs.a, zs.b, zs.c]
 refine za (i := 7) (oi := _) (.bool false) rfl rfl (by kernel_rfl) (by decide) (fun _ _ _ h => h) rfl ?hyb7 (fun _ => S2) ?restb7
 case hyb7 => (intro W; go_simp; (try simp))
 try simp only [zs.a, zs.b, zs.c]
 refine zl (i := 8) (oi := _) ?vb8 rfl rfl (by kernel_rfl) (fun _ _ _ h => h) rfl ?hyb8 S2 ?restb8
 case hyb8 => (intro W hW; obtain ⟨d0, d1⟩ := HB.out W hW; go_simp; (try with_reducible rfl))
 try simp only [zs.a, zs.b, zs.c]
 refine zl (i := 10) (oi := _) ?vb10 rfl rfl (by kernel_rfl) (fun _ _ _ h => h) rfl ?hyb10 S2 ?restb10
 case hyb10 => (intro W hW; obtain ⟨d0, d1⟩ := HB.out W hW; go_simp; (try with_reducible rfl))
 try simp only [zs.a, zs.b, zs.c]
 refine zh (i := 9) (by kernel_rfl) rfl (fun K hK => ?_)
 try rw [if_pos (show Region.wanted _ _ = true from rfl)]
 go_simp
 refine (CPI.out _ B7.out).mono ?_
 rintro e w8 ⟨rfl, b8⟩
 have B8 := Lib.hid (zf B7.out b8)
 have BB8 := Lib.hid (zf BB7.out b8)
 have S3 := HC.out _ B8.out
 clear b8
 refine hK.out _ _ (fun _ => S3) ?_
 clear hK K
 try simp only [zs.a, zs.b, zs.c, Act.put]
 refine zh (i := 11) (by kernel_rfl) rfl (fun K hK => ?_)
 try rw [if_pos (show Region.wanted _ _ = true from rfl)]
 go_simp
 refine (CPS.out _ B8.out).mono ?_
 rintro e w9 ⟨rfl, b9⟩
 have B9 := Lib.hid (zf B8.out b9)
 have BB9 := Lib.hid (zf BB8.out b9)
 have S4 := HC.out _ B9.out
 clear b9
 refine hK.out _ _ (fun _ => S4) ?_
 clear hK K
 try simp only [zs.a, zs.b, zs.c, Act.put]
 refine za (i := 12) (oi := _) (.bool false) rfl rfl (by kernel_rfl) (by decide) (fun _ _ _ h => h) rfl ?hyc12 (fun _ => S4) ?restc12
 case hyc12 => (intro W; go_simp; (try simp))
 try simp only [zs.a, zs.b, zs.c]
 refine zh (i := 13) (by kernel_rfl) rfl (fun K hK => ?_)
 go_simp
 refine hK.out _ _ (fun hf => absurd hf (by decide)) ?_
 clear hK K
 refine zH (by kernel_rfl) ?_
 obtain ⟨co, hco⟩ : ∃ co, co = zcc p ls := ⟨_, rfl⟩
 obtain ⟨fo, hfo⟩ : ∃ fo, fo = zV p.1 ms := ⟨_, rfl⟩
 have CCL := Lib.hid (fun W (hW : Below w2.heap.size w2 W) => zfp _ (.slice Al ls.length cl) p ls W (HPR.out _ hW) (HLS.out _ hW) HSZ.out (by omega) (by omega))
 have CFO := Lib.hid (fun W (hW : Below w2.heap.size w2 W) => zcp (.slice A p.1.length c) (.slice Am ms.length cm) p.1 ms W (HAR.out _ hW) (HMS.out _ hW) (by omega) (by omega) (by omega))
 have HBE := Lib.hid (show zdO p ls ms = (po && (co && fo)) by unfold zdO; rw [<- HPO.out, hco, hfo])
 rw [<- hco] at CCL
 rw [<- hfo] at CFO
 clear hco hfo
 obtain ⟨x0, x1⟩ := HBX.out _ B9.out
 have HNO := Lib.hid (show (po && (co && fo)) = false -> ((L.length : Int) == 0) = true from fun h => by
  rw [HL.out, znP (by rw [HBE.out]; exact h)]
  rfl)
 cases po
 ·have hl0 := HNO.out rfl
  go_wp2_with (go_at_call 10; refine (CPI.out _ B9.out).mono ?_; rintro e w10 ⟨rfl, b10⟩; have B10 := Lib.hid (zf B9.out b10); clear b10)
  go_ret
  exact ⟨rfl, zf B2.out B10.out⟩
 ·cases co
  ·have hl0 := HNO.out rfl
   go_wp2_with (first
    | (go_at_call 10; refine (CPI.out _ B9.out).mono ?_; rintro e w10 ⟨rfl, b10⟩
       have B10 := Lib.hid (zf B9.out b10)
       obtain ⟨y0, y1⟩ := HBX.out _ B10.out
       clear b10)
    | (go_at_call 14; refine (CCL.out _ B10.out).mono ?_; rintro e w11 ⟨rfl, b11⟩; have B11 := Lib.hid (zf B10.out b11); clear b11))
   go_ret
   exact ⟨rfl, zf B2.out B11.out⟩
  ·cases fo
   ·have hl0 := HNO.out rfl
    go_wp2_with (first
     | (go_at_call 10; refine (CPI.out _ B9.out).mono ?_; rintro e w10 ⟨rfl, b10⟩
        have B10 := Lib.hid (zf B9.out b10)
        obtain ⟨y0, y1⟩ := HBX.out _ B10.out
        clear b10)
     | (go_at_call 14; refine (CCL.out _ B10.out).mono ?_; rintro e w11 ⟨rfl, b11⟩
        have B11 := Lib.hid (zf B10.out b11)
        obtain ⟨t0, t1⟩ := HBX.out _ B11.out
        clear b11)
     | (go_at_call 12; refine (CFO.out _ B11.out).mono ?_; rintro e w12 ⟨rfl, b12⟩; have B12 := Lib.hid (zf B11.out b12); clear b12))
    go_ret
    exact ⟨rfl, zf B2.out B12.out⟩
   ·have HYE := Lib.hid (show L = zbF p (zD (ls ++ ms)) by rw [HL.out]; exact znQ (by rw [HBE.out]; rfl))
    go_upto_region 9 with (first
     | (go_at_call 10; refine (CPI.out _ B9.out).mono ?_; rintro e w10 ⟨rfl, b10⟩
        have B10 := Lib.hid (zf B9.out b10)
        have BB10 := Lib.hid (zf BB9.out b10)
        obtain ⟨y0, y1⟩ := HBX.out _ B10.out
        clear b10)
     | (go_at_call 14; refine (CCL.out _ B10.out).mono ?_; rintro e w11 ⟨rfl, b11⟩
        have B11 := Lib.hid (zf B10.out b11)
        have BB11 := Lib.hid (zf BB10.out b11)
        obtain ⟨t0, t1⟩ := HBX.out _ B11.out
        clear b11)
     | (go_at_call 12; refine (CFO.out _ B11.out).mono ?_; rintro e w12 ⟨rfl, b12⟩
        have B12 := Lib.hid (zf B11.out b12)
        have BB12 := Lib.hid (zf BB11.out b12)
        clear b12))
    clear x0 x1 y0 y1 t0 t1
    obtain ⟨G, hG⟩ : ∃ G, G = zD (ls ++ ms) := ⟨_, rfl⟩
    have HGB := Lib.hid (show G.length <= 1540 /\ tot G <= 3084 from by
     have h1 := zdd (ls ++ ms)
     rw [hG]
     rw [List.length_append, zc0] at h1
     omega)
    have CE := Lib.hid (fun W (hW : Below w2.heap.size w2 W) => zfN (.slice Al ls.length cl) (.slice Am ms.length cm) ls ms W (HLS.out _ hW) (HMS.out _ hW) (by omega) (by omega))
    rw [<- hG] at CE HYE
    have CM := Lib.hid (fun W (u : Value) (hW : Below w2.heap.size w2 W) (hu : zt W W.heap.size u G) => zjm (.agg #[.slice A p.1.length c, .slice A2 p.2.length c2]) u p G W (HPR.out _ hW) hu HSZ.out (by have := HGB.out; omega) (by have := HGB.out; omega) (HTT.out _ hW))
    rw [<- HYE.out] at CM
    clear hG
    refine zx SS 7 8 (by kernel_rfl) rfl ?_
    have B14d := Lib.hid (zf B12.out (Below.refl _ w12).drew)
    have BB14d := Lib.hid (zf BB12.out (Below.refl _ w12).drew)
    obtain ⟨wz, hwz⟩ : ∃ wz, wz = w12.drew := ⟨_, rfl⟩
    rw [<- hwz] at B14d BB14d ⊢
    clear hwz
    have T0 := HC.out _ B14d.out
    refine za (i := 0) (oi := _) ?vd0 rfl rfl (by kernel_rfl) (by decide) (fun _ _ _ h => h) rfl ?hyd0 (fun _ => T0) ?restd0
    case hyd0 => (intro W; go_simp; (try with_reducible rfl))
    try simp only [zs.a, zs.b, zs.c]
    refine za (i := 2) (oi := _) ?vd2 rfl rfl (by kernel_rfl) (by decide) (fun _ _ _ h => h) rfl ?hyd2 (fun _ => T0) ?restd2
    case hyd2 => (intro W; go_simp; (try with_reducible rfl))
    try simp only [zs.a, zs.b, zs.c]
    refine za (i := 3) (oi := _) ?vd3 rfl rfl (by kernel_rfl) (by decide) (fun _ _ _ h => h) rfl ?hyd3 (fun _ => T0) ?restd3
    case hyd3 => (intro W; go_simp; (try with_reducible rfl))
    try simp only [zs.a, zs.b, zs.c]
    refine zl (i := 1) (oi := _) ?vd1 rfl rfl (by kernel_rfl) (fun _ _ _ h => h) rfl ?hyd1 T0 ?restd1
    case hyd1 => (intro W hW; obtain ⟨d0, d1⟩ := HB.out W hW; go_simp; (try with_reducible rfl))
    try simp only [zs.a, zs.b, zs.c]
    refine zh (i := 4) (by kernel_rfl) rfl (fun K hK => ?_)
    try rw [if_pos (show Region.wanted _ _ = true from rfl)]
    go_simp
    refine (CE.out _ B14d.out).mono ?_
    rintro e w16 ⟨A16, c16, rfl, o16, b16⟩
    have B16 := Lib.hid (zf B14d.out b16)
    have BB16 := Lib.hid (zf BB14d.out b16)
    have HG16 := Lib.hid o16.rd
    have T2 := HC.out _ B16.out
    clear o16 b16
    refine hK.out _ _ (fun _ => T2) ?_
    clear hK K
    try simp only [zs.a, zs.b, zs.c, Act.put]
    refine zh (i := 5) (by kernel_rfl) rfl (fun K hK => ?_)
    try rw [if_pos (show Region.wanted _ _ = true from rfl)]
    go_simp
    refine (CM.out _ _ B16.out HG16.out).mono ?_
    rintro e w17 ⟨A17, c17, rfl, o17, b17⟩
    have B17 := Lib.hid (zf B16.out b17)
    have BB17 := Lib.hid (zf BB16.out b17)
    have HM17 := Lib.hid o17.rd
    have T3 := HC.out _ B17.out
    clear o17 b17
    refine hK.out _ _ (fun _ => T3) ?_
    clear hK K
    try simp only [zs.a, zs.b, zs.c, Act.put]
    refine zh (i := 6) (by kernel_rfl) rfl (fun K hK => ?_)
    try rw [if_pos (show Region.wanted _ _ = true from rfl)]
    go_simp
    refine (zhp (.slice A3 L.length c3) (.slice A17 L.length c17) L w17 (HL3.out.on BB17.out) HM17.out (by omega) (by have := HLF.out.2; omega)).mono ?_
    rintro e w18 ⟨rfl, b18⟩
    have B18 := Lib.hid (zf B17.out b18)
    have T4 := HC.out _ B18.out
    clear b18
    refine hK.out _ _ (fun _ => T4) ?_
    clear hK K
    try simp only [zs.a, zs.b, zs.c, Act.put]
    refine zh (i := 7) (by kernel_rfl) rfl (fun K hK => ?_)
    go_simp
    refine hK.out _ _ (fun hf => absurd hf (by decide)) ?_
    clear hK K
    refine zH (by kernel_rfl) ?_
    go_wp2_with (fail)
    go_ret
    exact ⟨rfl, zf B2.out B18.out⟩
theorem zfn (v : Value) (bs : List Nat) (w : World) (h : zmJ w v bs) (hT : Tab w) : Calls Tryz.prog 5 #[v] w fun e w' => e = .returned (.bool true) /\ Below w.heap.size w w' :=
 ze7 v bs w h.1 h.2.1 h.2.2 hT
open Go.ChangeShapes Go.WideShapes Go.ChangeAt Go.RowKit
theorem fnLeastMore_lifted (os : Os) (started : os.Started) (H : Type) (enc : TypeId × Value -> H) :
 ReturnsInHanded {} Tryz.checked os 5 .any (fun w args => (Rows.fnLeastMoreSpec.pre enc Tryz.prog Tryz.f5 [] false w args /\ laidMetH Tryz.prog zdG w) /\ sizedMet enc Tryz.prog Tryz.f5 (OpenSpec.ofChange Rows.fnLeastMoreSpec) false w args) (Rows.fnLeastMoreSpec.post enc Tryz.prog Tryz.f5 false true false false) := by
 refine returnsInHanded_of_change_and (C := Tryz.checked) (X := fun w _ => laidMetH Tryz.prog zdG w) (fun _ _ _ hh h => h.of_heap hh) Tryz.own started (by kernel_rfl) Tryz.func5
  (ChangeSpec.witness_shaped (enc := enc) (C := Tryz.checked) (os := os) (X := fun w _ => laidMetH Tryz.prog zdG w) false (World.laidAll Tryz.prog os zdG) #[.slice none 0 0] 8 (World.laidAll_os _ _ _)
    (World.shaped_of_ZipB (by kernel_rfl) (by kernel_rfl)) (by kernel_rfl) (by kernel_rfl) (by kernel_rfl)
    (by rw [MakeChecks.laidMetH_plain _ _ _ (by kernel_rfl)]; exact laidMet_laidAll _ (by kernel_rfl) (by kernel_rfl))) ?_
 intro W base args ds gs before hval0 hW _ _ hL _
 have hval : ∀ (j : Nat) t v, Tryz.f5.params[j]? = some t -> args[j]? = some v -> Value.okWide Tryz.prog W .any base t v := hval0
 have hW' := hW
 obtain ⟨p, q, hA0, hV, rfl, hfz, hnd⟩ := hW
 have hA : DataW.TrodAll enc Tryz.prog W 0 (fun _ => true) true Tryz.f5.params.toList args.toList ds p := hA0
 rw [Tryz.params5] at hA hval
 obtain ⟨v0, vs0, d0, ds0, p0, q0, hargs, rfl, rfl, h0, r0⟩ := trodAll_cons hA
 obtain ⟨rfl, rfl, rfl⟩ := trodAll_nil r0
 obtain rfl : args = #[v0] := by cases args; simp_all
 obtain ⟨rfl, rfl⟩ := trodVars_none hV
 have lt0 : ∀ x ∈ p0, x.block < W.heap.size := by obtain ⟨m, hm⟩ := h0; exact DataW.trod_lt m _ _ _ hm
 obtain ⟨x0, w0⟩ := zke (hval 0 22 v0 rfl rfl) h0
 clear hA0 hval0
 refine (zfn v0 x0 W w0 (zj1 hL)).mono fun e W' ⟨he, bel⟩ => ?_
 subst he
 exact ⟨_, rfl, _, _, _, [], _, [], hW', trodAll_mk1 (shut_bool Tryz.underlying4 _), (trodAll_cons_mk (Below.trod Tryz.laidOut (by kernel_rfl) (of_decide_eq_true (by kernel_rfl)) h0 bel lt0) trodAll_mk0), rfl, bel.frame _, fun h => by cases h⟩
open Go.ChangeShapes Go.WideShapes Go.ChangeAt Go.RowKit
theorem fnLeastMore_holds : Rows.FnLeastMoreSaid :=
 OpenClaim.holds_of_wide 5 Tryz.f5 rfl rfl rfl rfl rfl rfl rfl ⟨rfl, rfl, rfl, rfl, rfl⟩ rfl rfl rfl rfl rfl (by kernel_rfl) Tryz.func5 fnLeastMore_joined
  (of_decide_eq_true (by kernel_rfl)) (by unfold Func.isWrapper; rw [if_neg (of_decide_eq_false (by kernel_rfl))]; exact ⟨rfl, rfl⟩)
  (fun os started H enc _ => fnLeastMore_lifted os started H enc)
open Go.ChangeShapes Go.WideShapes Go.ChangeAt Go.RowKit
theorem fnLeastMoreCard_holds : Rows.FnLeastMoreCardSaid :=
 Claim7.holds_tied_plain_at .later [] [.data] true (true, "a898150b3e57ef69710a9ceff96c21c6d3d59c749694ace518ff4bc4186d9c87") false fnLeastMore_holds (fun _ h => by cases h) (by kernel_rfl) (fun _ h => by cases h) fnLeastMore_row_tie rfl ⟨rfl, rfl⟩ jf_main rfl
  (fun f fn hf hfn => by
    obtain rfl : f = 5 := Option.some.inj ((show Tryz.prog.funcNamed "loop.example/wholerules/laws.FnLeastMore" = some 5 by kernel_rfl).symm.trans hf) |>.symm
    obtain rfl : fn = Tryz.f5 := (Option.some.inj (Tryz.func5.symm.trans hfn)).symm
    exact ⟨jf_looks, fun j t ht => by
     rw [Tryz.params5] at ht
     have hm : t ∈ [22] := by simpa using Array.mem_of_getElem? ht
     have hall : ([22].all fun u => !Tryz.prog.wantsStandIn u) = true := by kernel_rfl
     exact (show Tryz.prog.wantsStandIn t = false by simpa using List.all_eq_true.1 hall t hm)⟩)
  fnLeastMore_goes
end Go.Proofs.YtofkcmihcgmmpaaGreatDoor
