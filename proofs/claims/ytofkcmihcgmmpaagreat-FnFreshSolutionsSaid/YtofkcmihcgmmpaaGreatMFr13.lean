/-
  The law FnFreshSolutions: for every input the call returns true, and each argument reads behind it as it read before. Conditions: none but the row's own.
-/
import Derived.BigRegion
import Derived.Deep.RegionHeld3
import Derived.Deep.RegionWith
import Derived.Deep.RegionLaw
import Derived.Deep.DeepCutAuto
import Derived.Test.YtofkcmihcgmmpaaGreatRows
import Derived.Test.YtofkcmihcgmmpaaGreatPlainFreshSolutionsJoin
import Derived.Test.YtofkcmihcgmmpaaGreatMFr1
import Derived.Test.YtofkcmihcgmmpaaGreatMFr2
import Derived.Test.YtofkcmihcgmmpaaGreatMFr5
import Derived.Test.YtofkcmihcgmmpaaGreatMFr6
import Derived.Test.YtofkcmihcgmmpaaGreatMFr7
import Derived.Test.YtofkcmihcgmmpaaGreatMFr11
import Derived.Test.YtofkcmihcgmmpaaGreatMFr12
/-
  The program's FreshSolutions.
-/
namespace Go.Proofs.YtofkcmihcgmmpaaGreat
open Go.RowKit

theorem upB_of {S S' : List (List Int)} (hnd : S.Nodup) (hok : ∀ b ∈ S, bindOk b = true) (hp : S'.Perm S) (hu : UpW S') : UpB S' := by
  have hn : S'.Nodup := hp.nodup_iff.2 hnd
  have hok' : ∀ b ∈ S', bindOk b = true := fun b hb => hok b (hp.mem_iff.1 hb)
  refine List.Pairwise.imp_of_mem (fun {x y} hx hy hh => ?_) (hu.and hn)
  refine cmp_enc (hok' x hx) (hok' y hy) ?_
  rcases Nat.lt_or_ge (encB x) (encB y) with h1 | h1
  · exact h1
  · exact absurd (encB_inj (hok' x hx) (hok' y hy) (Nat.le_antisymm hh.1 h1)) hh.2
theorem AtA.one (w : World) (a b d : Value) : AtA (w.alloc (.cells #[a, b, d] 54)) w.heap.size 1 [(a, b, d)] :=
  ⟨#[a, b, d], Blk.new _ _ _, Nat.le_refl _, by decide, rfl, rfl⟩
theorem agesL_len (fs fr : List LFact) (n : Nat) : (agesL fs fr n).length = n := by simp [agesL]
theorem RdAges.same {w : World} {B n : Nat} {u : AV} {fs fr : List LFact} (h1 : RdFacts w B u.1 (fs ++ fr)) (h2 : RdFacts w B u.2.1 (pickL fs fr false)) (h3 : RdFacts w B u.2.2 fr) : RdAges w B (List.replicate n u) (agesL fs fr n) :=
  ⟨by simp [agesL], fun k hk hk2 => by simp only [agesL, List.getElem_replicate]; exact ⟨h1, h2, h3⟩⟩
theorem agesL_ok {fs fr : List LFact} {n : Nat} (hc : constsL fs = true) (hc2 : constsL fr = true) (hn : fs.length + fr.length ≤ 1048576) (ht : tot fs + tot fr ≤ 1048576) : ∀ a ∈ agesL fs fr n, AgeOk a := fun a ha => by
  have e := (List.mem_replicate.1 ha).2
  subst e
  have hb := pickL_bound fs fr false
  exact ⟨consts_append hc hc2, by simp; omega, by rw [tot_append]; exact ht, fun f hf => consts_of hc f ((pickF_in fs fr f).1 hf).1, by show (pickL fs fr false).length ≤ _; omega, by show Go.Proofs.YtofkcmihcgmmpaaGreat.tot (pickL fs fr false) ≤ _; omega, consts_of hc2, by show fr.length ≤ _; omega, by show Go.Proofs.YtofkcmihcgmmpaaGreat.tot fr ≤ _; omega⟩
theorem agesL_new {fs fr : List LFact} {n : Nat} : ∀ j f, f ∈ (ageD (agesL fs fr n) j).2.1 → f ∉ (ageD (agesL fs fr n) j).2.2 := fun j f hf => by
  by_cases h : j < n
  · rw [agesL_at h] at hf ⊢
    exact ((pickF_in fs fr f).1 hf).2
  · have e : ageD (agesL fs fr n) j = ([], [], []) := by simp [ageD, agesL, List.getD_eq_getElem?_getD, List.getElem?_eq_none (show (List.replicate n (fs ++ fr, pickL fs fr false, fr)).length ≤ j by simp; omega)]
    rw [e] at hf
    cases hf

set_option maxHeartbeats 4000000 in
set_option maxRecDepth 100000 in
theorem implFreshSolutions_any (v v2 v3 : Value) (fs fr : List LFact) (ls : List LLit) (R : List (List Int)) (hR : R = freshL fs fr ls) (w : World) (h : RdFacts w w.heap.size v fs) (h2 : RdFacts w w.heap.size v2 fr) (h3 : RdLits w w.heap.size v3 ls) (hn : fs.length + fr.length ≤ 1048576) (ht : tot fs + tot fr ≤ 1048576) (hl : ls.length + totL ls ≤ 1048576) :
    Calls Tryz.prog 5 #[v, v2, v3] w fun e w' => ∃ A c, e = .returned (.slice A R.length c) ∧ OwnRows w' w.heap.size w'.heap.size (.slice A R.length c) R ∧ Below w.heap.size w w' := by
  have H := Lib.hid h
  have H2 := Lib.hid h2
  have H3 := Lib.hid h3
  have HR := Lib.hid hR
  obtain ⟨A, c, rfl, hc, _⟩ := h
  obtain ⟨A2, c2, rfl, hc2, _⟩ := h2
  obtain ⟨A3, c3, rfl, hc3, _⟩ := h3
  clear hR
  obtain ⟨sf, hsf⟩ : ∃ sf, sf = bodySafe ls := ⟨_, rfl⟩
  obtain ⟨cf, hcf⟩ : ∃ cf, cf = constsL fs := ⟨_, rfl⟩
  obtain ⟨cr, hcr⟩ : ∃ cr, cr = constsL fr := ⟨_, rfl⟩
  have CB := Lib.hid (implBodySafe_any (.slice A3 ls.length c3) ls w H3.out hl)
  rw [← hsf] at CB
  have CH := Lib.hid (fun W (hW : Below w.heap.size w W) => haveConstants_any (.slice A fs.length c) fs cf hcf.symm W (H.out.on hW) (by omega) (by omega))
  have CH2 := Lib.hid (fun W (hW : Below w.heap.size w W) => haveConstants_any (.slice A2 fr.length c2) fr cr hcr.symm W (H2.out.on hW) (by omega) (by omega))
  have HSF := Lib.hid hsf
  have HCF := Lib.hid hcf
  have HCR := Lib.hid hcr
  clear hsf hcf hcr
  cases sf
  · have HE := Lib.hid (show R = [] by rw [HR.out]; exact freshL_no (by rw [← HSF.out]; rfl))
    go_enter Tryz.func5, Tryz.ntmps5
    go_wp2_with (go_at_call 8; refine CB.out.mono ?_; rintro e w1 ⟨rfl, hb1⟩; have HB1 := Lib.hid hb1; clear hb1)
    go_ret
    rw [HE.out]
    exact ⟨none, 0, rfl, OwnRows.nil _ _ _, HB1.out⟩
  · cases cf
    · have HE := Lib.hid (show R = [] by rw [HR.out]; exact freshL_no (by rw [← HSF.out, ← HCF.out]; rfl))
      go_enter Tryz.func5, Tryz.ntmps5
      go_wp2_with (first
        | (go_at_call 8; refine CB.out.mono ?_; rintro e w1 ⟨rfl, hb1⟩; have HB1 := Lib.hid hb1; clear hb1)
        | (go_at_call 16; refine (CH.out _ HB1.out).mono ?_; rintro e w2 ⟨rfl, hb2⟩; have HB2 := Lib.hid (bthen HB1.out hb2); clear hb2))
      go_ret
      rw [HE.out]
      exact ⟨none, 0, rfl, OwnRows.nil _ _ _, HB2.out⟩
    · cases cr
      · have HE := Lib.hid (show R = [] by rw [HR.out]; exact freshL_no (by rw [← HCF.out, ← HCR.out]; simp))
        go_enter Tryz.func5, Tryz.ntmps5
        go_wp2_with (first
          | (go_at_call 8; refine CB.out.mono ?_; rintro e w1 ⟨rfl, hb1⟩; have HB1 := Lib.hid hb1; clear hb1)
          | (go_at_call 16; first
             | (refine (CH.out _ HB1.out).mono ?_; rintro e w2 ⟨rfl, hb2⟩; have HB2 := Lib.hid (bthen HB1.out hb2); clear hb2 CH)
             | (refine (CH2.out _ HB2.out).mono ?_; rintro e w3 ⟨rfl, hb2⟩; have HB3 := Lib.hid (bthen HB2.out hb2); clear hb2)))
        go_ret
        rw [HE.out]
        exact ⟨none, 0, rfl, OwnRows.nil _ _ _, HB3.out⟩
      · have HS := Lib.hid (SafeB.of HSF.out.symm)
        have hn4 := HS.out.few
        obtain ⟨F, hF⟩ : ∃ F, F = fs ++ fr := ⟨_, rfl⟩
        have HF := Lib.hid hF
        have CC := Lib.hid (fun (g : Nat) W (hW : Below w.heap.size w W) (k0 : W.cell? ⟨g, 0, none⟩ = some (.slice A fs.length c)) (k1 : W.cell? ⟨g, 1, none⟩ = some (.slice A2 fr.length c2)) => concat_any g 2 (.slice A fs.length c) (.slice A2 fr.length c2) fs fr W k0 k1 (H.out.on hW) (H2.out.on hW) (by omega))
        rw [← hF] at CC
        clear hF
        obtain ⟨D, hD⟩ : ∃ D, D = pickL fs fr false := ⟨_, rfl⟩
        have HD := Lib.hid hD
        have CL := Lib.hid (fun W (hW : Below w.heap.size w W) => implFactsLess_any (.slice A fs.length c) (.slice A2 fr.length c2) fs fr W (H.out.on hW) (H2.out.on hW) hn ht)
        rw [← hD] at CL
        clear hD
        go_enter Tryz.func5, Tryz.ntmps5
        go_upto_region 3 with (first
          | (go_at_call 8; refine CB.out.mono ?_; rintro e w1 ⟨rfl, hb1⟩; have HB1 := Lib.hid hb1; clear hb1)
          | (go_at_call 16; first
             | (refine (CH.out _ HB1.out).mono ?_; rintro e w2 ⟨rfl, hb2⟩; have HB2 := Lib.hid (bthen HB1.out hb2); clear hb2 CH)
             | (refine (CH2.out _ HB2.out).mono ?_; rintro e w3 ⟨rfl, hb2⟩; have HB3 := Lib.hid (bthen HB2.out hb2); clear hb2)))
        go_upto_region 4 with (first
          | (go_at_call 17; refine (CC.out w3.heap.size _ (bthen HB3.out (below1 _ _)) ((Blk.new w3 _ _).cell 0) ((Blk.new w3 _ _).cell 1)).mono ?_; rintro e w5 ⟨A5, c5, av5, rfl, r5, b5⟩
             have H5 := Lib.hid (And.intro r5.facts (bthen (bthen HB3.out (below1 _ _)) b5)); clear r5 b5)
          | (go_at_call 18; refine (CL.out _ H5.out.2).mono ?_; rintro e w6 ⟨A6, c6, rfl, o6, b6⟩
             have H6 := Lib.hid (And.intro o6.rd (And.intro b6 (bthen H5.out.2 b6))); clear o6 b6))
        obtain ⟨w7, hw7⟩ : ∃ w7, w7 = w6.alloc (Obj.cells #[.slice A5 F.length c5, .slice A6 D.length c6, .slice A2 fr.length c2] 54) := ⟨_, rfl⟩
        have x0 : w7.cell? ⟨w6.heap.size, 0, none⟩ = some (.slice A5 F.length c5) := by rw [hw7]; exact (Blk.new w6 _ _).cell 0
        have x1 : w7.cell? ⟨w6.heap.size, 1, none⟩ = some (.slice A6 D.length c6) := by rw [hw7]; exact (Blk.new w6 _ _).cell 1
        have x2 : w7.cell? ⟨w6.heap.size, 2, none⟩ = some (.slice A2 fr.length c2) := by rw [hw7]; exact (Blk.new w6 _ _).cell 2
        have HB7 := Lib.hid (show Below w6.heap.size w6 w7 by rw [hw7]; exact below1 _ _)
        rw [← hw7]
        clear hw7
        have HUU := Lib.hid (show RdFacts w7 w7.heap.size (.slice A5 F.length c5) (fs ++ fr) ∧ RdFacts w7 w7.heap.size (.slice A6 D.length c6) (pickL fs fr false) ∧ RdFacts w7 w7.heap.size (.slice A2 fr.length c2) fr ∧ Below w.heap.size w w7 from by
          have b := bthen H6.out.2.2 HB7.out
          refine ⟨?_, ?_, H2.out.on b, b⟩
          · rw [← HF.out]; exact (H5.out.1.on H6.out.2.1).on HB7.out
          · rw [← HD.out]; exact H6.out.1.on HB7.out)
        obtain ⟨w8, hw8⟩ : ∃ w8, w8 = w7.alloc (Obj.cells #[.slice A5 F.length c5, .slice A6 D.length c6, .slice A2 fr.length c2] 54) := ⟨_, rfl⟩
        have HB8 := Lib.hid (show Below w7.heap.size w7 w8 by rw [hw8]; exact below1 _ _)
        have CR := Lib.hid (show Calls Tryz.prog 20 #[.slice (some ⟨w7.heap.size, 0, none⟩) 1 1, .int .i64 (ls.length : Int)] w8 fun e w' => ∃ g9, e = .returned (.slice (some ⟨g9, 0, none⟩) ls.length ls.length) ∧ AtA w' g9 ls.length (List.replicate ls.length (.slice A5 F.length c5, .slice A6 D.length c6, .slice A2 fr.length c2)) ∧ Hid (Below w8.heap.size w8 w') from
          (repeatA_any ls.length hn4 (.slice A5 F.length c5, .slice A6 D.length c6, .slice A2 fr.length c2) ⟨rfl, rfl, rfl⟩ w7.heap.size w8 (by rw [hw8]; exact AtA.one w7 _ _ _)).mono fun e w' h => ⟨_, h.1, h.2.1, Lib.hid h.2.2⟩)
        have HW8 := Lib.hid hw8
        rw [hw8] at CR
        clear hw8
        go_upto_region 5 with (first
          | (go_at_call 20; refine CR.out.mono ?_; rintro e w9 ⟨g9, rfl, a9, b9⟩
             have b89 := b9.out
             rw [← HW8.out] at b89
             have CS := Lib.hid (solveFresh_any g9 ls.length ls (agesL fs fr ls.length) (List.replicate ls.length (.slice A5 F.length c5, .slice A6 D.length c6, .slice A2 fr.length c2)) (.slice A3 ls.length c3) w9 (H3.out.on (bthen (bthen HUU.out.2.2.2 HB8.out) b89)) a9 (RdAges.same ((HUU.out.1.on HB8.out).on b89) ((HUU.out.2.1.on HB8.out).on b89) ((HUU.out.2.2.1.on HB8.out).on b89)) (agesL_len _ _ _) HS.out (by omega) (agesL_ok HCF.out.symm HCR.out.symm hn ht))
             have HB9 := Lib.hid (bthen (bthen HUU.out.2.2.2 HB8.out) b89)
             clear a9 b9 b89)
          | (go_at_call 19; refine CS.out.mono ?_; rintro e w10 ⟨A10, c10, S, rfl, own, b10, hm, hSl, hnd⟩
             have H10 := Lib.hid (And.intro hm (And.intro (hnd agesL_new) b10))
             have HSO := Lib.hid (sortW_any w9.heap.size w10.heap.size (.slice A10 S.length c10) S w10 own (by omega))
             clear own b10 hm hnd))
        go_wp2_with (first
          | (go_at_call 21; refine HSO.out.mono ?_; rintro e w11 ⟨rfl, S', hp, hup, own5, only5⟩
             have hok : ∀ b ∈ S, bindOk b = true := fun b hb => ((H10.out.1 b).1 hb).1
             have hS' : S' = freshL fs fr ls := freshL_is HSF.out.symm HCF.out.symm HCR.out.symm (upB_of H10.out.2.1 hok hp hup) (fun b => by rw [hp.mem_iff]; exact H10.out.1 b)
             have hlS : S.length = S'.length := hp.length_eq.symm
             have hfz := freshL_sz fs fr ls
             rw [← hS'] at hfz
             have hsz := only5.size
             have HB11 := Lib.hid (Only.then_ (bthen HB9.out H10.out.2.2) only5 (by have := HB9.out.size; omega))
             rw [hlS] at own5
             have CNL := Lib.hid (numberLists_any w10.heap.size A10 c10 S' w11 own5.rd hsz hfz.2.1 hfz.2.2)
             rw [← hlS] at CNL
             have HRS := Lib.hid (And.intro (show S' = R by rw [hS', HR.out]) hlS)
             clear hp hup own5 only5 hok hS' hlS hfz)
          | (go_at_call 22; refine CNL.out.mono ?_; rintro e w12 ⟨A12, c12, rfl, o12, b12⟩; have H12 := Lib.hid (And.intro o12 b12); clear o12 b12))
        go_ret
        obtain ⟨o12, b12⟩ := H12.out
        have e := HRS.out.2
        rw [← HRS.out.1]
        rw [e] at o12 ⊢
        exact ⟨_, _, rfl, o12.mono HB11.out.size (Nat.le_refl _), bthen HB11.out b12⟩

end Go.Proofs.YtofkcmihcgmmpaaGreat
/-
  The walk of the plain laws' wrInts.
-/
namespace Go.Proofs.YtofkcmihcgmmpaaGreat
open Go.RowKit

theorem RdInts.at_ {w : World} {B c : Nat} {A : Option Addr} {xs : List Int} (h : RdInts w B (.slice A xs.length c) xs) {k : Nat} (hk : k < xs.length) : ∃ b o, A = some ⟨b, o, none⟩ ∧ b < B ∧ w.cell? ⟨b, o + k, none⟩ = some (.int .i64 xs[k]) := by
  obtain ⟨A', c', e, _, hx⟩ := h
  injection e with e1 _ _
  subst e1
  obtain ⟨b, o, rfl, hb, hx⟩ := hx (by omega)
  exact ⟨b, o, rfl, hb, hx k hk⟩

set_option maxHeartbeats 1000000 in
set_option maxRecDepth 100000 in
theorem wrInts_any (va vb : Value) (xs ys : List Int) (w : World) (ha : RdInts w w.heap.size va xs) (hb : RdInts w w.heap.size vb ys) (hx : xs.length ≤ 1048576) (hy : ys.length ≤ 1048576) :
    Calls Tryz.prog 12 #[va, vb] w fun e w' => e = .returned (.bool (decide (xs = ys))) ∧ Below w.heap.size w w' := by
  have HX := Lib.hid ha
  have HY := Lib.hid hb
  obtain ⟨A, c, rfl, hc, _⟩ := ha
  obtain ⟨A2, c2, rfl, hc2, _⟩ := hb
  by_cases hl : xs.length = ys.length
  · have hl1 : ((xs.length : Int) != (ys.length : Int)) = false := by simp [hl]
    have HL := Lib.hid hl
    clear hl
    go_enter Tryz.func12, Tryz.ntmps12
    go_wp2_with (fail)
    go_loopw [13] (fun i wr => ∃ k : Nat, k ≤ xs.length ∧ i = .int .i64 k ∧ (∀ j, j < k → xs[j]? = ys[j]?) ∧ Below w.heap.size w wr) (fun i _ => xs.length - (intOf i).toNat)
    case atStart => exact ⟨0, Nat.zero_le _, rfl, fun j h => absurd h (Nat.not_lt_zero _), Below.refl _ _⟩
    case round =>
      obtain ⟨k, hk, rfl, hs, hbe⟩ := hrel
      by_cases hlt : k < xs.length
      · have hlt2 : k < ys.length := by have := HL.out; omega
        obtain ⟨b, o, rfl, hbB, k0⟩ := (HX.out.on hbe).at_ hlt
        obtain ⟨b2, o2, rfl, hbB2, m0⟩ := (HY.out.on hbe).at_ hlt2
        have d0 : wr.drew.cell? ⟨b, o + k, none⟩ = some (.int .i64 xs[k]) := k0
        have d1 : wr.drew.cell? ⟨b2, o2 + k, none⟩ = some (.int .i64 ys[k]) := m0
        have HBE := Lib.hid hbe
        by_cases he : xs[k] = ys[k]
        · have hdb : (xs[k] != ys[k]) = false := by simp [he]
          have HS2 := Lib.hid (show ∀ j, j < k + 1 → xs[j]? = ys[j]? from fun j hj => by
            by_cases e : j = k
            · subst e; rw [List.getElem?_eq_getElem hlt, List.getElem?_eq_getElem hlt2, he]
            · exact hs j (by omega))
          clear he hs hbe
          go_upto_region 6 with fail
          go_big_region
          go_wp2_with (fail)
          go_roundw
          case rel => exact ⟨k + 1, by omega, by go_num, HS2.out, HBE.out.drew⟩
          case measure => simp [intOf]; omega
        · have hdb : (xs[k] != ys[k]) = true := by simpa using he
          have HE := Lib.hid (show decide (xs = ys) = false from decide_eq_false fun e => he (by subst e; rfl))
          clear he hs hbe
          go_upto_region 6 with fail
          go_big_region
          go_wp2_with (fail)
          go_ret
          exact ⟨ret_bool HE.out.symm, HBE.out.drew⟩
      · have HE := Lib.hid (show decide (xs = ys) = true from decide_eq_true (List.ext_getElem? fun j => by
          by_cases e : j < k
          · exact hs j e
          · have := HL.out
            rw [List.getElem?_eq_none (by omega), List.getElem?_eq_none (by omega)]))
        clear hs
        go_wp2_with (fail)
        go_ret
        exact ⟨ret_bool HE.out.symm, hbe⟩
  · have hl1 : ((xs.length : Int) != (ys.length : Int)) = true := by simp; omega
    have HE := Lib.hid (show decide (xs = ys) = false from decide_eq_false fun e => hl (by rw [e]))
    clear hl
    go_enter Tryz.func12, Tryz.ntmps12
    go_wp2_with (fail)
    go_ret
    exact ⟨ret_bool HE.out.symm, Below.refl _ _⟩

end Go.Proofs.YtofkcmihcgmmpaaGreat
/-
  The walk of the plain laws' wrRows, at two rows that read alike.
-/
namespace Go.Proofs.YtofkcmihcgmmpaaGreat
open Go.RowKit

set_option maxHeartbeats 4000000 in
set_option maxRecDepth 100000 in
theorem wrRows_any (va vb : Value) (R : List (List Int)) (w : World) (ha : RdRows w w.heap.size va R) (hb : RdRows w w.heap.size vb R) (hs : R.length ≤ 1048576) (hx : ∀ r ∈ R, r.length ≤ 1048576) :
    Calls Tryz.prog 6 #[va, vb] w fun e w' => e = .returned (.bool true) ∧ Below w.heap.size w w' := by
  have HX := Lib.hid ha
  have HY := Lib.hid hb
  have HS := Lib.hid hx
  obtain ⟨A, c, rfl, hc, _⟩ := ha
  obtain ⟨A2, c2, rfl, hc2, _⟩ := hb
  have hl1 : ((R.length : Int) != (R.length : Int)) = false := by simp
  clear hx
  go_enter Tryz.func6, Tryz.ntmps6
  go_wp2_with (fail)
  go_loopw [13] (fun i wr => ∃ k : Nat, k ≤ R.length ∧ i = .int .i64 k ∧ Below w.heap.size w wr) (fun i _ => R.length - (intOf i).toNat)
  case atStart => exact ⟨0, Nat.zero_le _, rfl, Below.refl _ _⟩
  case round =>
    obtain ⟨k, hk, rfl, hbe⟩ := hrel
    by_cases hlt : k < R.length
    · obtain ⟨b, o, A3, c3, rfl, hbB, k0, r3⟩ := (HX.out.on hbe).get hlt
      obtain ⟨b2, o2, A4, c4, rfl, hbB2, m0, r4⟩ := (HY.out.on hbe).get hlt
      have M0 := later_cell k0
      have M1 := later_cell m0
      have hsl := HS.out _ (List.getElem_mem hlt)
      have D1 := Lib.hid (fun x : Later wr => later_of (show Calls Tryz.prog 12 #[.slice A3 R[k].length c3, .slice A4 R[k].length c4] x.val fun e w' => e = .returned (.bool true) ∧ Below x.val.heap.size x.val w' from by
        have := wrInts_any (.slice A3 R[k].length c3) (.slice A4 R[k].length c4) R[k] R[k] x.val (r3.on x.2) (r4.on x.2) hsl hsl
        rw [show decide (R[k] = R[k]) = true by simp] at this
        exact this))
      have HBE := Lib.hid hbe
      clear k0 m0 hbe r3 r4
      go_upto_region 6 with fail
      go_cut [25] (fun s wx => s = .bool false ∧ Below wr.heap.size wr wx)
      case first =>
        refine wp_region_later (by kernel_rfl) (by kernel_rfl) ?_
        repeat (go_big_quiet_step ((go_at_call 12; exact D1.out _)))
        refine wpQuiet_nil ?_
        rintro _ ⟨xq, rfl⟩
        go_wp2_with (fail)
        go_meet
        exact ⟨rfl, xq.2⟩
      case rest =>
        obtain ⟨rfl, b8⟩ := hcut
        have HB8 := Lib.hid (bthen HBE.out b8)
        clear b8 M0 M1
        go_wp2_with fail
        go_roundw
        case rel => exact ⟨k + 1, by omega, by go_num, HB8.out⟩
        case measure => simp [intOf]; omega
    · go_wp2_with fail
      go_ret
      exact ⟨rfl, hbe⟩

end Go.Proofs.YtofkcmihcgmmpaaGreat
/-
  A slice of bytes that came in.
-/
namespace Go.Proofs.YtofkcmihcgmmpaaGreat
open Go.ChangeShapes Go.WideShapes Go.ChangeAt Go.RowKit Go.Joins Go.Deep

theorem Tryz.cells5 : Tryz.prog.cellsOf 5 = 1 := by kernel_rfl

/-- What is known of a slice of bytes that came in. -/
def InBytes (W : World) (v : Value) (bs : List Nat) : Prop := RdBytes W W.heap.size v bs ∧ bs.length ≤ maxLen ∧ ∀ b ∈ bs, b < 256

theorem byte_of_wf {n : Int} (h : (Lit.int .u8 n).wf = true) : 0 ≤ n ∧ n < 256 := by
  simp only [Lit.wf, Bool.and_eq_true, decide_eq_true_eq] at h
  have h1 : IntKind.u8.min = 0 := by decide
  have h2 : IntKind.u8.max = 255 := by decide
  omega

set_option maxRecDepth 100000 in
theorem open_inBytes {H : Type} {enc : TypeId × Value → H} {W : World} {v : Value} {d : DataW H} {p : List MemPlace} {b0 : Nat} (hv : Value.okWide Tryz.prog W .any b0 22 v) (h : DataW.Trod enc Tryz.prog W 0 (fun _ => true) true 22 v d p) :
    ∃ bs, InBytes W v bs := by
  obtain ⟨a, len, cap, rfl⟩ := okWide_slice Tryz.underlying22 hv
  obtain ⟨fuel, hf⟩ := h
  have hf : DataW.trod enc Tryz.prog W 0 (fun _ => true) true fuel 22 [.slice a len cap] = some (d, p) := by simpa [Value.cells] using hf
  rcases open_ints Tryz.underlying22 Tryz.underlying5 Tryz.cells5 hf with ⟨hcs, _⟩ | ⟨a, len, cap, zs, hcs, _, hl, hm, hz, _, hcell, hwz⟩
  · simp at hcs
    obtain ⟨rfl, rfl, rfl⟩ := hcs
    exact ⟨[], ⟨none, 0, rfl, by simp, fun h => absurd h (by simp)⟩, by simp, by simp⟩
  · simp at hcs
    obtain ⟨rfl, rfl, rfl⟩ := hcs
    simp at hz
    refine ⟨(zs.take len).map Int.toNat, ⟨some a, cap, ?_, by simp; omega, fun hn => ?_⟩, by simp; omega, ?_⟩
    · congr 1
      simp
      omega
    · have hlen : (zs.take len).length = len := by simp; omega
      simp only [List.length_map, hlen] at hn
      obtain ⟨b, o, rfl, hc⟩ := ints_at hcell (by omega)
      refine ⟨b, o, rfl, World.block_lt_of_cell? _ _ (hc 0 (by omega)), fun k hk => ?_⟩
      simp only [List.length_map, hlen] at hk
      have hw := byte_of_wf (hwz zs[k] (List.getElem_mem (by omega)))
      rw [hc k (by omega)]
      simp [show k < zs.length by omega]
      omega
    · intro b hb
      rw [List.mem_map] at hb
      obtain ⟨z, hz1, rfl⟩ := hb
      have := byte_of_wf (hwz z (List.mem_of_mem_take hz1))
      omega

end Go.Proofs.YtofkcmihcgmmpaaGreat
/-
  The walk of the law FnFreshSolutions.
-/
namespace Go.Proofs.YtofkcmihcgmmpaaGreat
open Go.RowKit

theorem solsL_four {fs : List LFact} {ls : List LLit} {b : List Int} (h : b ∈ solsL fs ls) : b.length = 4 := by
  unfold solsL at h
  split at h
  · rename_i hb
    rw [Bool.and_eq_true] at hb
    have hS := SafeB.of hb.1
    obtain ⟨_, h2⟩ := solsOf_is (fs := fs) (gs := setOf fs) hS (fun f hf => consts_of hb.2 f ((setOf_mem fs f).1 hf)) (asc_nodup (setOf_asc fs)) (setOf_mem fs)
    exact bindOk_len ((h2.2 b).1 h).1
  · cases h
theorem consts_bad {fr : List LFact} {f : LFact} {x : Int} (hf : f ∈ fr) (hx : x ∈ f.2) (h : constOk x = false) : constsL fr = false := by
  unfold constsL
  rw [List.all_eq_false]
  refine ⟨f, hf, ?_⟩
  rw [Bool.not_eq_true, List.all_eq_false]
  exact ⟨x, hx, by simp [h]⟩
theorem consts_take {fr : List LFact} {k : Nat} (hk : k < fr.length) (h : ∀ f ∈ fr.take k, f.2.all constOk = true) (h2 : ∀ j (hj : j < fr[k].2.length), j < fr[k].2.length → constOk (fr[k].2[j]'hj) = true) : ∀ f ∈ fr.take (k + 1), f.2.all constOk = true := fun f hf => by
  rw [take_snoc fr k hk, List.mem_append] at hf
  rcases hf with hf | hf
  · exact h f hf
  · rw [List.mem_singleton] at hf
    subst hf
    rw [List.all_eq_true]
    intro x hx
    obtain ⟨j, hj, rfl⟩ := List.getElem_of_mem hx
    exact h2 j hj hj
theorem none_take {ls : List LLit} {k : Nat} (hk : k < ls.length) (h : ∀ l ∈ ls.take k, l.1 ≠ 1) (h2 : ls[k].1 ≠ 1) : ∀ l ∈ ls.take (k + 1), l.1 ≠ 1 := fun l hl => by
  rw [take_snoc ls k hk, List.mem_append] at hl
  rcases hl with hl | hl
  · exact h l hl
  · rw [List.mem_singleton] at hl
    subst hl
    exact h2

set_option maxHeartbeats 16000000 in
set_option maxRecDepth 100000 in
theorem lawPlainFreshSolutions_any (v : Value) (code : List Nat) (w : World) (hr : RdBytes w w.heap.size v code) (_ : code.length ≤ maxLen) (hby : ∀ b ∈ code, b < 256) :
    Calls Tryz.prog 3 #[v] w fun e w' => e = .returned (.bool true) ∧ Below w.heap.size w w' := by
  have HV := Lib.hid hr
  obtain ⟨Av, cv, rfl, hcv, _⟩ := hr
  go_enter Tryz.func3, Tryz.ntmps3
  by_cases hbig : 1048576 < code.length
  · have hd : decide ((1048576 : Int) < code.length) = true := by simp; omega
    go_wp2_with (fail)
    go_ret
    exact ⟨rfl, Below.refl _ _⟩
  have hd : decide ((1048576 : Int) < code.length) = false := by simp; omega
  have hbn : code.length ≤ 1073741824 := by omega
  go_upto_region 4 with (go_at_call 4; refine (drawFreshSolutions_any _ code w HV.out hby hbn).mono ?_
                         rintro e w1 ⟨A1, A2, Al, c1, c2, cl, rs, fr, ls, rfl, ⟨r1, r2, r3⟩, hdis, hn7, ht7, hl1, B1⟩)
  have HB1 := Lib.hid B1
  have HDIS := Lib.hid hdis
  have HRS := Lib.hid (show ∀ W, Below w1.heap.size w1 W → RdFacts W W.heap.size (.slice A1 rs.length c1) rs from fun W hW => r1.on hW)
  have HFR := Lib.hid (show ∀ W, Below w1.heap.size w1 W → RdFacts W W.heap.size (.slice A2 fr.length c2) fr from fun W hW => r2.on hW)
  have HL := Lib.hid (show ∀ W, Below w1.heap.size w1 W → RdLits W W.heap.size (.slice Al ls.length cl) ls from fun W hW => r3.on hW)
  have hl9 : ls.length + totL ls ≤ 1048576 := by omega
  have hrs7 : rs.length ≤ 7 := by omega
  have hfr7 : fr.length ≤ 7 := by omega
  have hft7 : tot fr ≤ 21 := by omega
  obtain ⟨G, hG⟩ : ∃ G, G = setOf (rs ++ fr) := ⟨_, rfl⟩
  have HGB := Lib.hid (show G.length ≤ 7 ∧ tot G ≤ 21 from by
    have := setOf_bound (rs ++ fr)
    rw [hG]
    rw [List.length_append, tot_append] at this
    omega)
  obtain ⟨R, hR⟩ : ∃ R, R = freshL rs fr ls := ⟨_, rfl⟩
  obtain ⟨S, hS⟩ : ∃ S, S = solsL G ls := ⟨_, rfl⟩
  obtain ⟨T, hT⟩ : ∃ T, T = solsL rs ls := ⟨_, rfl⟩
  have HSS := Lib.hid (show S = solsL (setOf (rs ++ fr)) ls by rw [hS, hG])
  have hSl : S.length ≤ 1048576 := by
    have := solsL_sz G ls
    rw [← hS] at this
    unfold szRows at this
    omega
  have hTl : T.length ≤ 1048576 := by
    have := solsL_sz rs ls
    rw [← hT] at this
    unfold szRows at this
    omega
  have hRS : R.length ≤ S.length := by
    rw [hR, HSS.out]
    exact fresh_few rs fr ls
  have HR4 := Lib.hid (show ∀ r ∈ R, r.length ≤ 1048576 from fun r hr => by
    rw [hR, fresh_is] at hr
    have := solsL_four (List.mem_filter.1 hr).1
    omega)
  have HS4 := Lib.hid (show ∀ r ∈ S, r.length ≤ 1048576 from fun r hr => by
    rw [hS] at hr
    have := solsL_four hr
    omega)
  have HT4 := Lib.hid (show ∀ r ∈ T, r.length ≤ 1048576 from fun r hr => by
    rw [hT] at hr
    have := solsL_four hr
    omega)
  have HRE := Lib.hid hR
  have HTE := Lib.hid hT
  have HGE := Lib.hid hG
  have CI := Lib.hid (implFreshSolutions_any (.slice A1 rs.length c1) (.slice A2 fr.length c2) (.slice Al ls.length cl) rs fr ls R hR w1 (HRS.out _ (Below.refl _ _)) (HFR.out _ (Below.refl _ _)) (HL.out _ (Below.refl _ _)) (by omega) (by omega) hl9)
  have CS := Lib.hid (fun W (hW : Below w1.heap.size w1 W) => specFreshSolutions_any (.slice A1 rs.length c1) (.slice A2 fr.length c2) (.slice Al ls.length cl) rs fr ls R hR W (HRS.out _ hW) (HFR.out _ hW) (HL.out _ hW) (by omega) (by omega) hl9)
  have CE := Lib.hid (fun W (hW : Below w1.heap.size w1 W) => implFactsEither_any (.slice A1 rs.length c1) (.slice A2 fr.length c2) rs fr W (HRS.out _ hW) (HFR.out _ hW) (by omega) (by omega))
  rw [← hG] at CE
  have CW := Lib.hid (fun W (u : Value) (_ : Below w1.heap.size w1 W) (hu : RdFacts W W.heap.size u G) (hW : Below w1.heap.size w1 W) => implSolutions_any u (.slice Al ls.length cl) G ls S hS W hu (HL.out _ hW) (by have := HGB.out; omega) (by have := HGB.out; omega) hl9)
  have CT := Lib.hid (fun W (hW : Below w1.heap.size w1 W) => implSolutions_any (.slice A1 rs.length c1) (.slice Al ls.length cl) rs ls T hT W (HRS.out _ hW) (HL.out _ hW) (by omega) (by omega) hl9)
  obtain ⟨bo, hbo⟩ : ∃ bo, bo = bodySafe ls := ⟨_, rfl⟩
  have CBI := Lib.hid (fun W (hW : Below w1.heap.size w1 W) => implBodySafe_any (.slice Al ls.length cl) ls W (HL.out _ hW) hl9)
  have CBS := Lib.hid (fun W (hW : Below w1.heap.size w1 W) => specBodySafe_any (.slice Al ls.length cl) ls W (HL.out _ hW) hl9)
  rw [← hbo] at CBI CBS
  have hneq : (bo != bo) = false := by simp
  clear hbo hR hS hT hG B1 r1 r2 r3 hdis
  go_upto_region 5 with (go_at_call 5; refine CI.out.mono ?_; rintro e w2 ⟨A3, c3, rfl, o2, b2⟩)
  have B2 := Lib.hid b2
  have HR2 := Lib.hid o2.rd
  clear o2 b2
  go_upto_region 7 with (first
    | (go_at_call 7; refine (CS.out _ B2.out).mono ?_; rintro e w3 ⟨A4, c4, rfl, o3, b3⟩
       have B3 := Lib.hid (bthen B2.out b3)
       have HR3 := Lib.hid (HR2.out.on b3)
       have HW3 := Lib.hid o3.rd
       clear o3 b3)
    | (go_at_call 6; refine (wrRows_any (.slice A3 R.length c3) (.slice A4 R.length c4) R w3 HR3.out HW3.out (by omega) HR4.out).mono ?_
       rintro e w4 ⟨rfl, b4⟩
       have B4 := Lib.hid (bthen B3.out b4)
       have HR5 := Lib.hid (HR3.out.on b4)
       clear b4)
    | (go_at_call 8; refine (CBI.out _ B4.out).mono ?_; rintro e w5 ⟨rfl, b5⟩
       have B5 := Lib.hid (bthen B4.out b5)
       have HR6 := Lib.hid (HR5.out.on b5)
       clear b5)
    | (go_at_call 9; refine (CBS.out _ B5.out).mono ?_; rintro e w6 ⟨rfl, b6⟩
       have B6 := Lib.hid (bthen B5.out b6)
       have HR7 := Lib.hid (HR6.out.on b6)
       clear b6))
  go_upto_region 8 with (first
    | (go_at_call 11; refine (CE.out _ B6.out).mono ?_; rintro e w7 ⟨A5, c5, rfl, o7, b7⟩
       have B7 := Lib.hid (bthen B6.out b7)
       have HR8 := Lib.hid (HR7.out.on b7)
       have HG7 := Lib.hid o7.rd
       clear o7 b7)
    | (go_at_call 10; refine (CW.out _ _ B7.out HG7.out B7.out).mono ?_; rintro e w8 ⟨A6, c6, rfl, o8, b8⟩
       have B8 := Lib.hid (bthen B7.out b8)
       have HR9 := Lib.hid (HR8.out.on b8)
       have HS8 := Lib.hid o8.rd
       clear o8 b8))
  go_upto_region 9 with (go_at_call 10; refine (CT.out _ B8.out).mono ?_; rintro e w9 ⟨A7, c7, rfl, o9, b9⟩
                         have B9 := Lib.hid (bthen B8.out b9)
                         have HRR := Lib.hid (HR9.out.on b9)
                         have HSS9 := Lib.hid (HS8.out.on b9)
                         have HTT := Lib.hid o9.rd
                         clear o9 b9)
  go_wp2_with fail
  go_loopw [56] (fun i wr => ∃ k : Nat, k ≤ fr.length ∧ i = .int .i64 k ∧ (∀ f ∈ fr.take k, f.2.all constOk = true) ∧ Below w9.heap.size w9 wr) (fun i _ => fr.length - (intOf i).toNat)
  case atStart => exact ⟨0, Nat.zero_le _, rfl, fun f hf => absurd hf (by simp), Below.refl _ _⟩
  case round =>
    obtain ⟨k, hk, rfl, hall, hbe⟩ := hrel
    have BE := Lib.hid hbe
    have BW := Lib.hid (bthen B9.out hbe)
    have HALL := Lib.hid hall
    clear hbe hall
    by_cases hlt : k < fr.length
    · obtain ⟨b, o, A8, c8, hA, hbB, d0, d1, q3⟩ := (HFR.out _ BW.out).get hlt
      subst hA
      obtain ⟨f, hf⟩ : ∃ f, f = fr[k]'hlt := ⟨_, rfl⟩
      rw [← hf] at d0 d1 q3
      have HF := Lib.hid hf
      have Q3 := Lib.hid q3
      have hfl : f.2.length ≤ 21 := by
        rw [hf]
        have := len_le_tot fr k hlt
        omega
      clear hf q3
      go_upto_region 12 with fail
      obtain ⟨wv, hwv⟩ : ∃ wv, wv = wr.alloc (Obj.cells #[Value.int .i64 f.1, Value.slice A8 f.2.length c8] 35) := ⟨_, rfl⟩
      have bv : Below wr.heap.size wr wv := by rw [hwv]; exact below1 _ _
      have X : Blk wv wr.heap.size 35 #[.int .i64 f.1, .slice A8 f.2.length c8] := by rw [hwv]; exact Blk.new _ _ _
      rw [← hwv]
      clear hwv d0 d1
      have x1 : wv.cell? ⟨wr.heap.size, 1, none⟩ = some (.slice A8 f.2.length c8) := X.cell 1
      have BV := Lib.hid (bthen BE.out bv)
      have QV := Lib.hid (Q3.out.on bv)
      clear X bv
      go_wp2_with fail
      clear x1
      obtain ⟨wo, rfl⟩ : ∃ wo, wo = wr := ⟨_, rfl⟩
      go_loopw [63] (fun i wr => ∃ m : Nat, m ≤ f.2.length ∧ i = .int .i64 m ∧ (∀ j (h : j < f.2.length), j < m → constOk (f.2[j]'h) = true) ∧ Below wv.heap.size wv wr) (fun i _ => f.2.length - (intOf i).toNat)
      case atStart => exact ⟨0, Nat.zero_le _, rfl, fun j _ h => absurd h (Nat.not_lt_zero _), Below.refl _ _⟩
      case round =>
        obtain ⟨m, hm, rfl, hok, hbm⟩ := hrel
        have HOK := Lib.hid hok
        have BM := Lib.hid hbm
        clear hok hbm
        by_cases hltm : m < f.2.length
        · obtain ⟨b5, o5, hA8, hb5, e5⟩ := (QV.out.on BM.out).at_ hltm
          subst hA8
          obtain ⟨x, hx⟩ : ∃ x, x = f.2[m]'hltm := ⟨_, rfl⟩
          rw [← hx] at e5
          have HX := Lib.hid hx
          have HXM := Lib.hid (show constOk x = false → ((R.length : Int) == 0) = true from fun h => by
            rw [HRE.out, fresh_none (consts_bad (f := f) (by rw [HF.out]; exact List.getElem_mem hlt) (by rw [hx]; exact List.getElem_mem hltm) h)]
            rfl)
          clear hx
          by_cases hneg : x < 0
          · have hxb : decide (x < 0) = true := by simp [hneg]
            have hz := HXM.out (by unfold constOk; rw [decide_eq_false]; omega)
            go_wp2_with fail
            go_ret
            exact ⟨rfl, bthen HB1.out (bthen B9.out (bthen BV.out BM.out))⟩
          · have hxb : decide (x < 0) = false := by simp; omega
            by_cases hbigx : 5 < x
            · have hxb2 : decide (5 < x) = true := by simp [hbigx]
              have hz := HXM.out (by unfold constOk; rw [decide_eq_false]; omega)
              go_wp2_with fail
              go_ret
              exact ⟨rfl, bthen HB1.out (bthen B9.out (bthen BV.out BM.out))⟩
            · have hxb2 : decide (5 < x) = false := by simp; omega
              have HXO := Lib.hid (show constOk x = true by unfold constOk; rw [decide_eq_true]; omega)
              clear hneg hbigx
              go_wp2_with fail
              go_roundw
              case rel =>
                refine ⟨m + 1, by omega, by go_num, fun j h1 h2 => ?_, BM.out⟩
                by_cases e : j = m
                · subst e
                  rw [← HX.out]
                  exact HXO.out
                · exact HOK.out j h1 (by omega)
              case measure => simp [intOf]; omega
        · have HNX := Lib.hid (show ∀ f ∈ fr.take (k + 1), f.2.all constOk = true from consts_take hlt HALL.out (by
            rw [← HF.out]
            exact fun j h1 _ => HOK.out j h1 (by omega)))
          go_wp2_with fail
          go_roundw
          case rel => exact ⟨k + 1, by omega, by go_num, HNX.out, bthen BV.out BM.out⟩
          case measure => simp [intOf]; omega
    · have hkn : k = fr.length := by omega
      have HC2 := Lib.hid (show constsL fr = true by
        have := HALL.out
        rw [hkn, List.take_length] at this
        unfold constsL
        rw [List.all_eq_true]
        exact this)
      clear hkn
      go_wp2_with fail
      obtain ⟨wa, rfl⟩ : ∃ wa, wa = wr := ⟨_, rfl⟩
      go_loopw [80] (fun i wr => ∃ m : Nat, m ≤ ls.length ∧ i = .int .i64 m ∧ (∀ l ∈ ls.take m, l.1 ≠ 1) ∧ Below wa.heap.size wa wr) (fun i _ => ls.length - (intOf i).toNat)
      case atStart => exact ⟨0, Nat.zero_le _, rfl, fun l hl => absurd hl (by simp), Below.refl _ _⟩
      case round =>
        obtain ⟨m, hm, rfl, hno, hbm⟩ := hrel
        have HNO := Lib.hid hno
        have BM := Lib.hid (bthen BW.out hbm)
        have BME := Lib.hid (bthen BE.out hbm)
        have BMA := Lib.hid hbm
        clear hno hbm
        by_cases hltm : m < ls.length
        · obtain ⟨b5, o5, y0, y1, y2, hAl, hb5, l0, l1, l2, rfl, rfl, q5⟩ := (HL.out _ BM.out).get hltm
          subst hAl
          obtain ⟨A9, c9, rfl, _⟩ := q5
          obtain ⟨l, hl⟩ : ∃ l, l = ls[m]'hltm := ⟨_, rfl⟩
          rw [← hl] at l0 l1 l2
          have HLE := Lib.hid hl
          clear hl
          go_upto_region 22 with fail
          obtain ⟨wl, hwl⟩ : ∃ wl, wl = wr.alloc (Obj.cells #[Value.int .i64 l.1, Value.int .i64 l.2.1, Value.slice A9 l.2.2.length c9] 38) := ⟨_, rfl⟩
          have bl : Below wr.heap.size wr wl := by rw [hwl]; exact below1 _ _
          have Y : Blk wl wr.heap.size 38 #[.int .i64 l.1, .int .i64 l.2.1, .slice A9 l.2.2.length c9] := by rw [hwl]; exact Blk.new _ _ _
          rw [← hwl]
          clear hwl l0 l1 l2
          have e0 : wl.cell? ⟨wr.heap.size, 0, none⟩ = some (.int .i64 l.1) := Y.cell 0
          have BL := Lib.hid (bthen BMA.out bl)
          have BLW := Lib.hid (bthen BM.out bl)
          clear Y bl
          by_cases h1 : l.1 = 1
          · have h1b : (l.1 == 1) = true := by simp [h1]
            have hle : decide ((R.length : Int) ≤ (S.length : Int)) = true := by simp; omega
            clear h1
            go_wp2_with fail
            go_ret
            exact ⟨rfl, bthen HB1.out BLW.out⟩
          · have h1b : (l.1 == 1) = false := by simp [h1]
            have HNX := Lib.hid (show ∀ l ∈ ls.take (m + 1), l.1 ≠ 1 from none_take hltm HNO.out (by rw [← HLE.out]; exact h1))
            clear h1
            go_wp2_with fail
            go_roundw
            case rel => exact ⟨m + 1, by omega, by go_num, HNX.out, BL.out⟩
            case measure => simp [intOf]; omega
        · have hme : m = ls.length := by omega
          have HP := Lib.hid (show ∀ l ∈ ls, l.1 ≠ 1 by
            have := HNO.out
            rw [hme, List.take_length] at this
            exact this)
          have HRM := Lib.hid (HRR.out.on BME.out)
          have HSM := Lib.hid (HSS9.out.on BME.out)
          have HTM := Lib.hid (HTT.out.on BME.out)
          have HMS := Lib.hid (fun i (hi : i < S.length) => merge_step (fs := rs) HC2.out HP.out HDIS.out HSS.out hi)
          have HME := Lib.hid (merge_end (fs := rs) HC2.out HP.out HDIS.out HSS.out)
          rw [← HRE.out, ← HTE.out] at HMS HME
          obtain ⟨pu, hpu⟩ : ∃ pu, pu = usesF fr ls := ⟨_, rfl⟩
          obtain ⟨pn, hpn⟩ : ∃ pn, pn = fun b => !usesF fr ls b := ⟨_, rfl⟩
          rw [← hpn, ← hpu] at HMS HME
          clear hme hpu hpn
          go_wp2_with fail
          obtain ⟨wb, rfl⟩ : ∃ wb, wb = wr := ⟨_, rfl⟩
          go_loopw [15, 16, 95] (fun o1 o2 i wr => ∃ ka kb q : Nat, q ≤ S.length ∧ ka = splitK pu S q ∧ kb = splitK pn S q ∧ i = .int .i64 q ∧ o1 = .int .i64 ka ∧ o2 = .int .i64 kb ∧ Below wb.heap.size wb wr) (fun _ _ i _ => S.length - (intOf i).toNat)
          case atStart => exact ⟨0, 0, 0, Nat.zero_le _, by simp [splitK], by simp [splitK], rfl, rfl, rfl, Below.refl _ _⟩
          case round =>
            obtain ⟨ka, kb, q, hq, hka, hkb, rfl, rfl, rfl, hbq⟩ := hrel
            have BQ := Lib.hid hbq
            have BQW := Lib.hid (bthen BM.out hbq)
            clear hbq
            have hkal : ka ≤ 1048576 := by
              have : splitK pu S q ≤ q := by
                unfold splitK
                have h1 := List.length_filter_le pu (S.take q)
                have h2 : (S.take q).length ≤ q := by rw [List.length_take]; omega
                omega
              omega
            have hkbl : kb ≤ 1048576 := by
              have : splitK pn S q ≤ q := by
                unfold splitK
                have h1 := List.length_filter_le pn (S.take q)
                have h2 : (S.take q).length ≤ q := by rw [List.length_take]; omega
                omega
              omega
            by_cases hltq : q < S.length
            · obtain ⟨b6, o6, A9, c9, hA6, hb6, m6, r6⟩ := (HSM.out.on BQ.out).get hltq
              subst hA6
              have hms := HMS.out q hltq
              rw [← hka, ← hkb] at hms
              have hbl := HS4.out _ (List.getElem_mem hltq)
              obtain ⟨b, hb⟩ : ∃ b, b = S[q]'hltq := ⟨_, rfl⟩
              rw [← hb] at m6 r6 hms hbl
              have R6 := Lib.hid r6
              have HMQ := Lib.hid hms
              clear hb r6 hms hka hkb
              rcases HMQ.out with ⟨e1, e2, e3⟩ | ⟨e1, e2, e3, e4⟩
              · obtain ⟨hkr, e5⟩ := List.getElem?_eq_some_iff.1 e1
                obtain ⟨b7, o7, A10, c10, hA3, hb7, m7, r7⟩ := (HRM.out.on BQ.out).get hkr
                subst hA3
                rw [e5] at m7 r7
                have hkrb : decide ((ka : Int) < (R.length : Int)) = true := by simp; omega
                have HE := Lib.hid (And.intro e2 e3)
                clear e1 e2 e3 e5
                have D1 := Lib.hid (fun (_ : Unit) => (show Calls Tryz.prog 12 #[.slice A10 b.length c10, .slice A9 b.length c9] wr fun e w' => e = .returned (.bool true) ∧ Below wr.heap.size wr w' from by
                  have := wrInts_any (.slice A10 b.length c10) (.slice A9 b.length c9) b b _ r7 R6.out hbl hbl
                  rw [show decide (b = b) = true by simp] at this
                  exact this))
                clear r7
                go_upto_region 30 with fail
                go_cut [99] (fun s wx => s = .bool true ∧ Below wr.heap.size wr wx)
                case first =>
                  go_wp2_with (go_at_call 12; refine (D1.out ()).mono ?_; rintro e wi ⟨rfl, bi⟩; have BI := Lib.hid bi; clear bi)
                  go_meet
                  exact ⟨rfl, BI.out⟩
                case rest =>
                  obtain ⟨rfl, b8⟩ := hcut
                  have B8 := Lib.hid (bthen BQ.out b8)
                  clear b8 m7
                  go_wp2_with fail
                  go_roundw
                  case rel => exact ⟨ka + 1, kb, q + 1, by omega, HE.out.1.symm, HE.out.2.symm, by go_num, by go_num, rfl, B8.out⟩
                  case measure => simp [intOf]; omega
              · obtain ⟨hkt, e5⟩ := List.getElem?_eq_some_iff.1 e2
                have HE := Lib.hid (And.intro e1 (And.intro e3 e4))
                have HE5 := Lib.hid e5
                clear e1 e2 e3 e4 e5
                go_upto_region 30 with fail
                go_cut [99] (fun s wx => s = .bool false ∧ Below wr.heap.size wr wx)
                case first =>
                  by_cases hkr : ka < R.length
                  · obtain ⟨b7, o7, A10, c10, hA3, hb7, m7, r7⟩ := (HRM.out.on BQ.out).get hkr
                    subst hA3
                    have hrl := HR4.out _ (List.getElem_mem hkr)
                    have hne : decide (R[ka] = b) = false := by
                      rw [decide_eq_false_iff_not]
                      intro h
                      exact HE.out.1 (List.getElem?_eq_some_iff.2 ⟨hkr, h⟩)
                    obtain ⟨r, hre⟩ : ∃ r, r = R[ka] := ⟨_, rfl⟩
                    rw [← hre] at m7 r7 hrl hne
                    have hkrb : decide ((ka : Int) < (R.length : Int)) = true := by simp; omega
                    clear hre
                    have D1 := Lib.hid (fun (_ : Unit) => (show Calls Tryz.prog 12 #[.slice A10 r.length c10, .slice A9 b.length c9] wr fun e w' => e = .returned (.bool false) ∧ Below wr.heap.size wr w' from by
                      have := wrInts_any (.slice A10 r.length c10) (.slice A9 b.length c9) r b _ r7 R6.out hrl hbl
                      rw [hne] at this
                      exact this))
                    clear r7 hne
                    go_wp2_with (go_at_call 12; refine (D1.out ()).mono ?_; rintro e wi ⟨rfl, bi⟩; have BI := Lib.hid bi; clear bi)
                    go_meet
                    exact ⟨rfl, BI.out⟩
                  · have hkrb : decide ((ka : Int) < (R.length : Int)) = false := by simp; omega
                    go_wp2_with (fail)
                    go_meet
                    exact ⟨rfl, Below.refl _ _⟩
                case rest =>
                  obtain ⟨rfl, b8⟩ := hcut
                  rename World => wn
                  have B8 := Lib.hid (bthen BQ.out b8)
                  have R6n := Lib.hid (R6.out.on b8)
                  clear b8 m6
                  obtain ⟨b7, o7, A10, c10, hA3, hb7, m7, r7⟩ := (HTM.out.on B8.out).get hkt
                  subst hA3
                  rw [HE5.out] at m7 r7
                  have hkrb : decide ((kb : Int) < (T.length : Int)) = true := by simp; omega
                  have D1 := Lib.hid (fun (_ : Unit) => (show Calls Tryz.prog 12 #[.slice A10 b.length c10, .slice A9 b.length c9] wn fun e w' => e = .returned (.bool true) ∧ Below wn.heap.size wn w' from by
                    have := wrInts_any (.slice A10 b.length c10) (.slice A9 b.length c9) b b _ r7 R6n.out hbl hbl
                    rw [show decide (b = b) = true by simp] at this
                    exact this))
                  clear r7
                  go_upto_region 32 with fail
                  go_cut [114] (fun s wx => s = .bool true ∧ Below wn.heap.size wn wx)
                  case first =>
                    go_wp2_with (go_at_call 12; refine (D1.out ()).mono ?_; rintro e wi ⟨rfl, bi⟩; have BI := Lib.hid bi; clear bi)
                    go_meet
                    exact ⟨rfl, BI.out⟩
                  case rest =>
                    obtain ⟨rfl, b9⟩ := hcut
                    have B9' := Lib.hid (bthen B8.out b9)
                    clear b9 m7
                    go_wp2_with fail
                    go_roundw
                    case rel => exact ⟨ka, kb + 1, q + 1, by omega, HE.out.2.1.symm, HE.out.2.2.symm, by go_num, rfl, by go_num, B9'.out⟩
                    case measure => simp [intOf]; omega
            · have hqe : q = S.length := by omega
              subst hqe
              have h1 : ((ka : Int) == (R.length : Int)) = true := by
                rw [hka, HME.out.1]
                simp
              have h2 : ((kb : Int) == (T.length : Int)) = true := by
                rw [hkb, HME.out.2]
                simp
              clear hka hkb
              go_wp2_with fail
              go_ret
              exact ⟨rfl, bthen HB1.out BQW.out⟩

theorem lawPlainFreshSolutions_in (v : Value) (bs : List Nat) (w : World) (h : InBytes w v bs) : Calls Tryz.prog 3 #[v] w fun e w' => e = .returned (.bool true) ∧ Below w.heap.size w w' :=
  lawPlainFreshSolutions_any v bs w h.1 h.2.1 h.2.2

end Go.Proofs.YtofkcmihcgmmpaaGreat
/-
  The law FnFreshSolutions: for every input the call returns true, and each argument reads behind it as it read before. Conditions: none but the row's own.
-/
namespace Go.Proofs.YtofkcmihcgmmpaaGreat
open Go.ChangeShapes Go.WideShapes Go.ChangeAt Go.RowKit

set_option maxRecDepth 100000 in
theorem fnFreshSolutions_lifted (os : Os) (started : os.Started) (H : Type) (enc : TypeId × Value → H) :
    ReturnsInHanded {} Tryz.checked os 3 .any (Rows.fnFreshSolutionsSpec.pre6 enc Tryz.prog Tryz.f3 Rows.fnFreshSolutionsRow.domain false) (Rows.fnFreshSolutionsSpec.post enc Tryz.prog Tryz.f3 false true false false) := by
  refine returnsInHanded_of_change (C := Tryz.checked) Tryz.own started (by kernel_rfl) Tryz.func3
    (ChangeSpec.witness6 (enc := enc) (C := Tryz.checked) false ⟨#[], #[.slice none 0 0], []⟩ 8 (by kernel_rfl) (by kernel_rfl) (by kernel_rfl) (by kernel_rfl)) ?_
  intro W base args ds gs before hval0 hW hcnd _
  have hval : ∀ (j : Nat) t v, Tryz.f3.params[j]? = some t → args[j]? = some v → Value.okWide Tryz.prog W .any base t v := hval0
  have hW' := hW
  obtain ⟨p, q, hA0, hV, rfl, hfz, hnd⟩ := hW
  have hA : DataW.TrodAll enc Tryz.prog W 0 (fun _ => true) true Tryz.f3.params.toList args.toList ds p := hA0
  rw [Tryz.params3] at hA hval
  obtain ⟨v0, vs0, d0, ds0, p0, q0, hargs, rfl, rfl, h0, r0⟩ := trodAll_cons hA
  obtain ⟨rfl, rfl, rfl⟩ := trodAll_nil r0
  obtain rfl : args = #[v0] := by cases args; simp_all
  obtain ⟨rfl, rfl⟩ := trodVars_none hV
  have lt0 : ∀ x ∈ p0, x.block < W.heap.size := by obtain ⟨m, hm⟩ := h0; exact DataW.trod_lt m _ _ _ hm
  obtain ⟨x0, w0⟩ := open_inBytes (hval 0 22 v0 rfl rfl) h0
  clear hA0 hval0
  refine (lawPlainFreshSolutions_in v0 x0 W w0).mono fun e W' ⟨he, bel⟩ => ?_
  subst he
  exact ⟨_, rfl, _, _, _, [], _, [], hW', trodAll_mk1 (shut_bool Tryz.underlying4 _), (trodAll_cons_mk (Below.trod Tryz.laidOut (by kernel_rfl) (of_decide_eq_true (by kernel_rfl)) h0 bel lt0) trodAll_mk0), rfl, bel.frame _, fun h => by cases h⟩

end Go.Proofs.YtofkcmihcgmmpaaGreat
/-
  The law FnFreshSolutions: for every input the call returns true, and each argument reads behind it as it read before. Conditions: none but the row's own.
-/
namespace Go.Proofs.YtofkcmihcgmmpaaGreat
open Go.ChangeShapes Go.WideShapes Go.ChangeAt Go.RowKit

theorem fnFreshSolutions_holds : Rows.FnFreshSolutionsSaid :=
  OpenClaim.holds_of_wide 3 Tryz.f3 rfl rfl rfl rfl rfl rfl rfl ⟨rfl, rfl, rfl, rfl, rfl⟩ rfl rfl rfl rfl rfl (by kernel_rfl) Tryz.func3 fnFreshSolutions_joined
    (of_decide_eq_true (by kernel_rfl)) (by unfold Func.isWrapper; rw [if_neg (of_decide_eq_false (by kernel_rfl))]; exact ⟨rfl, rfl⟩)
    (fun os started H enc _ => fnFreshSolutions_lifted os started H enc)

end Go.Proofs.YtofkcmihcgmmpaaGreat
namespace Go.Proofs.YtofkcmihcgmmpaaGreat
open Go.ChangeShapes Go.WideShapes Go.ChangeAt Go.RowKit


end Go.Proofs.YtofkcmihcgmmpaaGreat
