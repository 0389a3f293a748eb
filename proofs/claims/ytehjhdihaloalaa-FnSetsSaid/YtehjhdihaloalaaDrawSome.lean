/-
  Some facts drawn: l1Some, its list of the call's own.
-/
import Derived.Test.YtehjhdihaloalaaDrawOwn
import Derived.Test.YtehjhdihaloalaaSpecFactOk
import Derived.Test.YtehjhdihaloalaaSpecWith
import Derived.Test.YtehjhdihaloalaaSpecCopy
import Derived.Test.YtehjhdihaloalaaCompactP
import Derived.Test.YtehjhdihaloalaaMark
namespace Go.Proofs.Ytehjhdihaloalaa
open Go.RowKit

theorem OwnFacts.offG {w W : World} {lo hi g : Nat} {v : Value} {fs : List LFact} (h : OwnFacts w lo hi v fs) (k : Only g (g + 1) w W) (hg : g < lo) : OwnFacts W lo hi v fs := h.only k (.inr (by omega))

theorem OwnFacts.swap {w : World} {lo hi : Nat} {v : Value} {f0 f1 : LFact} {fs : List LFact} (h : OwnFacts w lo hi v (f0 :: f1 :: fs)) (hh : hi ≤ w.heap.size) :
    ∃ (g c : Nat) (A0 : Option Addr) (c0 : Nat) (A1 : Option Addr) (c1 : Nat), v = .slice (some ⟨g, 0, none⟩) (fs.length + 2) c ∧ lo ≤ g ∧ g < hi ∧
      w.cell? ⟨g, 0, none⟩ = some (.int .i64 f0.1) ∧ w.cell? ⟨g, 1, none⟩ = some (.slice A0 f0.2.length c0) ∧ w.cell? ⟨g, 2, none⟩ = some (.int .i64 f1.1) ∧ w.cell? ⟨g, 3, none⟩ = some (.slice A1 f1.2.length c1) ∧ (∀ k, w.frozen? ⟨g, k, none⟩ = false) ∧
      ∀ W, Below w.heap.size w W → OwnFacts ((((W.setCell ⟨g, 0, none⟩ (.int .i64 f1.1)).setCell ⟨g, 1, none⟩ (.slice A1 f1.2.length c1)).setCell ⟨g, 2, none⟩ (.int .i64 f0.1)).setCell ⟨g, 3, none⟩ (.slice A0 f0.2.length c0)) lo hi v (f1 :: f0 :: fs) := by
  obtain ⟨av, ⟨hlen, hown, hap⟩, hr, hlt⟩ := h
  rcases av with _ | ⟨a0, _ | ⟨a1, av⟩⟩
  · simp at hlen
  · simp at hlen
  have o0 : OwnInts w lo hi a0 f0.2 := hown 0 (by simp) (by simp)
  have o1 : OwnInts w lo hi a1 f1.2 := hown 1 (by simp) (by simp)
  obtain ⟨A0, c0, rfl⟩ := o0.form
  obtain ⟨A1, c1, rfl⟩ := o1.form
  rcases hr.2 with ⟨_, h0⟩ | ⟨g, cap, cur, rfl, hbg, hgg, r1, r2, r3, r4⟩
  · simp at h0
  have hat : AtRow w g cap (f0 :: f1 :: fs) (.slice A0 f0.2.length c0 :: .slice A1 f1.2.length c1 :: av) := ⟨cur, hgg, r1, r2, r3, r4⟩
  have hl : av.length = fs.length := by simpa using hlen
  have hgh := hlt g rfl
  refine ⟨g, cap, A0, c0, A1, c1, rfl, hbg, hgh, ?_, ?_, ?_, ?_, fun k => hat.frozen k, fun W hW => ?_⟩
  · rw [hat.cell (by simp only [List.length_cons]; omega)]; rfl
  · rw [hat.cell (by simp only [List.length_cons]; omega)]; rfl
  · rw [hat.cell (by simp only [List.length_cons]; omega)]; rfl
  · rw [hat.cell (by simp only [List.length_cons]; omega)]; rfl
  · have K : ∀ (x : Value) (xs : List Int), OwnInts w lo hi x xs → OwnInts ((((W.setCell ⟨g, 0, none⟩ (.int .i64 f1.1)).setCell ⟨g, 1, none⟩ (.slice A1 f1.2.length c1)).setCell ⟨g, 2, none⟩ (.int .i64 f0.1)).setCell ⟨g, 3, none⟩ (.slice A0 f0.2.length c0)) lo hi x xs := fun x xs hx => by
      refine (hx.below hW hh).kept fun b hb => ?_
      have hne : b ≠ g := fun e => blk_ne_row hx.1 (show Blk w g 28 cur from hgg) (by decide) (by rw [hb, e])
      exact (Below.heap_setCell _ ⟨g, 3, none⟩ _ _ hne).trans ((Below.heap_setCell _ ⟨g, 2, none⟩ _ _ hne).trans ((Below.heap_setCell _ ⟨g, 1, none⟩ _ _ hne).trans (Below.heap_setCell _ ⟨g, 0, none⟩ _ _ hne)))
    have S := ((hat.below hW (by omega)).set (by simp [hl]) (k := 0) (by simp) f1 (.slice A1 f1.2.length c1)).set (by simp [hl]) (k := 1) (by simp) f0 (.slice A0 f0.2.length c0)
    have T := S.row (base := lo) (by simp [hl]) hbg
    refine ⟨.slice A1 f1.2.length c1 :: .slice A0 f0.2.length c0 :: av, ⟨by simp [hl], fun i h1 h2 => ?_, ?_⟩, T, hlt⟩
    · rcases i with _ | _ | i
      · exact K _ _ o1
      · exact K _ _ o0
      · exact K _ _ (hown (i + 2) (by simpa using h1) (by simpa using h2))
    · rw [List.pairwise_cons, List.pairwise_cons] at hap
      obtain ⟨p0, p1, p2⟩ := hap
      rw [List.pairwise_cons, List.pairwise_cons]
      refine ⟨fun b hb => ?_, fun b hb => p0 b (by simp [hb]), p2⟩
      rcases List.mem_cons.1 hb with rfl | hb
      · exact fun x hx hx' => p0 _ (by simp) x hx' hx
      · exact p1 b hb

set_option maxHeartbeats 2000000 in
set_option maxRecDepth 100000 in
theorem l1Some_any (g : Nat) (bs : List Nat) (p m lo hi : Nat) (v : Value) (ar : List Int) (w : World) (h : Rdr w g bs p) (hp : p ≤ 65536) (ha : OwnInts w lo hi v ar) (hg : g < lo) (hh : hi ≤ w.heap.size) (hr : ∀ x ∈ ar, 0 ≤ x ∧ x ≤ 2) (hl : ar.length ≤ 1048576) (hm : m ≤ 64) :
    Calls Try.prog 115 #[.pointer (some ⟨g, 0, none⟩), v, .int .i64 m] w fun e w' => ∃ (A : Option Addr) (c : Nat) (fs : List LFact) (q : Nat), e = .returned (.slice A fs.length c) ∧ fs.length ≤ m ∧ tot fs ≤ 3 * m ∧ q ≤ p + 2 + 24 * m ∧
      OwnFacts w' w.heap.size w'.heap.size (.slice A fs.length c) fs ∧ Rdr w' g bs q ∧ Only g (g + 1) w w' := by
  obtain ⟨A0, c0, rfl⟩ := ha.form
  have hgl := h.lt
  have H := Lib.hid h
  have HA := Lib.hid ha
  have HR0 := Lib.hid hr
  clear h ha hr
  go_enter Try.func115, Try.ntmps115
  go_wp2_with (fail)
  refine (pick_any g bs p _ _ (H.out.below (below1 _ _) hgl) (by omega) (by omega)).mono ?_
  rintro e w1 ⟨⟨x, rfl, hx⟩, hpk⟩
  obtain ⟨j, rfl⟩ : ∃ j : Nat, x = (j : Int) := ⟨x.toNat, by have := hx.1 (by omega); omega⟩
  have hj : j ≤ m := by have := hx.1 (by omega); omega
  have HS := Lib.hid (show OwnFacts w1 w.heap.size w1.heap.size (.slice (some ⟨w.heap.size, 0, none⟩) 0 0) [] from (((ColRel.empty w).own.own.mono (Nat.le_refl _) (Nat.le_refl _)).offG hpk.2 hgl).mono (Nat.le_refl _) hpk.2.size)
  have HR1 := Lib.hid hpk.1
  have HO1 := Lib.hid ((Only.of_below (below1 w _)).trans hpk.2)
  clear hpk hx
  go_wp2_with (fail)
  go_loopw [7, 8] (fun o i wr => ∃ (k : Nat) (fs : List LFact) (A : Option Addr) (c q : Nat), i = .int .i64 k ∧ fs.length + k ≤ m ∧ tot fs + 3 * k ≤ 3 * m ∧ q + 24 * k ≤ p + 1 + 24 * m ∧ o = .slice A fs.length c ∧ OwnFacts wr w.heap.size wr.heap.size (.slice A fs.length c) fs ∧ Rdr wr g bs q ∧ Only g (g + 1) w wr) (fun _ i _ => (intOf i).toNat)
  case atStart => exact ⟨j, [], _, 0, p + 1, rfl, by simpa using hj, by have : tot [] = 0 := rfl; omega, by omega, rfl, HS.out, HR1.out, HO1.out⟩
  case round =>
    obtain ⟨k, fs, A, c, q, rfl, hk, htk, hqk, rfl, ho, hrd, hon⟩ := hrel
    have HO := Lib.hid ho
    have HRD := Lib.hid hrd
    have hsz := hon.size
    have HN := Lib.hid hon
    have hfl : fs.length ≤ m := by omega
    clear ho hrd hon
    by_cases hlt : 0 < k
    · obtain ⟨k, rfl⟩ : ∃ k', k = k' + 1 := ⟨k - 1, by omega⟩
      have hd : decide ((0 : Int) < ((k + 1 : Nat) : Int)) = true := by simp
      go_wp2_with (fail)
      refine (l1Fact_own g bs q lo hi _ ar wr HRD.out (by omega) (HA.out.offG HN.out hg) hg (Nat.le_trans hh hsz) HR0.out hl).mono ?_
      rintro e w2 ⟨A3, c3, f, q3, rfl, hf, hq3, ho, hR, hO⟩
      have HF := Lib.hid ho
      have HR2 := Lib.hid hR
      have HO2 := Lib.hid hO
      have hs2 := hO.size
      clear ho hR hO
      go_wp2_with (fail)
      have RA := Lib.hid (show RdInts (w2.alloc (Obj.cells #[Value.int IntKind.i64 f.fst, Value.slice A3 f.snd.length c3] 28)) (w2.alloc (Obj.cells #[Value.int IntKind.i64 f.fst, Value.slice A3 f.snd.length c3] 28)).heap.size (.slice A0 ar.length c0) ar from
        (((HA.out.offG HN.out hg).offG HO2.out hg).rd.more (by omega)).on (below1 w2 _))
      have RB := Lib.hid (show RdFact (w2.alloc (Obj.cells #[Value.int IntKind.i64 f.fst, Value.slice A3 f.snd.length c3] 28)) (w2.alloc (Obj.cells #[Value.int IntKind.i64 f.fst, Value.slice A3 f.snd.length c3] 28)).heap.size (.agg #[.int .i64 f.1, .slice A3 f.2.length c3]) f from
        RdFact.on ⟨_, rfl, HF.out.rd⟩ (below1 w2 _))
      refine (specFactOk_any _ _ ar f _ RA.out RB.out hl (by omega)).mono ?_
      rintro e w3 ⟨rfl, hb3⟩
      have B3 := bthen (below1 w2 _) hb3
      have hs3 := B3.size
      have K3 : Blk w3 w2.heap.size 28 #[.int .i64 f.1, .slice A3 f.2.length c3] := (Blk.new w2 _ _).below hb3 (by simp)
      have O3 : OwnFacts w3 w.heap.size wr.heap.size (.slice A fs.length c) fs := (HO.out.offG HO2.out (by omega)).below B3 hs2
      have F3 : OwnInts w3 wr.heap.size w2.heap.size (.slice A3 f.2.length c3) f.2 := HF.out.below B3 (Nat.le_refl _)
      have R3 := HR2.out.below B3 HR2.out.lt
      have N3 := HN.out.trans (HO2.out.trans (Only.of_below (lo := g) (hi := g + 1) B3))
      have hbd := factsWith_bound fs f
      have hgr : g < w3.heap.size := R3.lt
      clear hb3 B3 HRD HR2 HO2 HO HF RA RB HN
      cases hok : factOk ar f
      · have HX3 := Lib.hid (And.intro O3 (And.intro F3 (And.intro R3 N3)))
        have HK3 := Lib.hid K3
        clear O3 F3 N3 K3
        have HR3 := Lib.hid R3
        clear R3
        go_wp2_with (fail)
        refine (pick_any g bs q3 _ _ HR3.out (by omega) (by omega)).mono ?_
        rintro e w4 ⟨⟨x, rfl, _⟩, hpk⟩
        have hs4 := hpk.2.size
        have K4 := HK3.out.only hpk.2 (.inr (by omega))
        obtain ⟨O3, F3, _, N3⟩ := HX3.out
        have O4 := (O3.offG hpk.2 (by omega)).mono (Nat.le_refl _) (show wr.heap.size ≤ w4.heap.size by omega)
        have F4 := (F3.offG hpk.2 (by omega)).rd.more (show w2.heap.size ≤ w4.heap.size by omega)
        have R4 := hpk.1
        have N4 := N3.trans hpk.2
        have k0 : w4.cell? ⟨w2.heap.size, 0, none⟩ = some (.int .i64 f.1) := K4.cell 0
        have k1 : w4.cell? ⟨w2.heap.size, 1, none⟩ = some (.slice A3 f.2.length c3) := K4.cell 1
        clear hpk O3 F3 N3 K4 HX3 HK3 HR3
        have HX4 := Lib.hid (And.intro O4 (And.intro F4 (And.intro R4 N4)))
        clear O4 F4 R4 N4
        by_cases hx0 : x = 0
        · subst hx0
          go_wp2_with (fail)
          refine (specFactsWith_any _ _ fs f _ HX4.out.1.rd ⟨_, rfl, HX4.out.2.1⟩ (by omega) (by omega) (by omega)).mono ?_
          rintro e w5 ⟨A5, c5, rfl, ho5, hb5⟩
          have HE := Lib.hid (show OwnFacts w5 w.heap.size w5.heap.size _ _ from ho5.mono (by omega) (Nat.le_refl _))
          have HR5 := Lib.hid (HX4.out.2.2.1.below hb5 (by omega))
          have HN5 := Lib.hid (HX4.out.2.2.2.trans (Only.of_below (lo := g) (hi := g + 1) hb5))
          clear ho5 hb5
          go_wp2_with (fail)
          go_roundw
          case rel => exact ⟨k, factsWith fs f, A5, c5, q3 + 1, by go_num, by omega, by omega, by omega, rfl, HE.out, HR5.out, HN5.out⟩
          case measure => simp [intOf]
        · have hd0 : (x == 0) = false := by simpa using hx0
          go_wp2_with (fail)
          go_roundw
          case rel => exact ⟨k, fs, A, c, q3 + 1, by go_num, by omega, by omega, by omega, rfl, HX4.out.1, HX4.out.2.2.1, HX4.out.2.2.2⟩
          case measure => simp [intOf]
      · have k0 : w3.cell? ⟨w2.heap.size, 0, none⟩ = some (.int .i64 f.1) := K3.cell 0
        have k1 : w3.cell? ⟨w2.heap.size, 1, none⟩ = some (.slice A3 f.2.length c3) := K3.cell 1
        have HX3 := Lib.hid (And.intro O3 (And.intro F3 (And.intro R3 N3)))
        clear O3 F3 R3 N3 K3
        go_wp2_with (fail)
        refine (specFactsWith_any _ _ fs f _ (HX3.out.1.rd.more (by omega)) ⟨_, rfl, HX3.out.2.1.rd.more (by omega)⟩ (by omega) (by omega) (by omega)).mono ?_
        rintro e w5 ⟨A5, c5, rfl, ho5, hb5⟩
        have HE := Lib.hid (show OwnFacts w5 w.heap.size w5.heap.size _ _ from ho5.mono (by omega) (Nat.le_refl _))
        have HR5 := Lib.hid (HX3.out.2.2.1.below hb5 (by omega))
        have HN5 := Lib.hid (HX3.out.2.2.2.trans (Only.of_below (lo := g) (hi := g + 1) hb5))
        clear ho5 hb5
        go_wp2_with (fail)
        go_roundw
        case rel => exact ⟨k, factsWith fs f, A5, c5, q3, by go_num, by omega, by omega, by omega, rfl, HE.out, HR5.out, HN5.out⟩
        case measure => simp [intOf]
    · have hk0 : k = 0 := by omega
      subst hk0
      by_cases h1 : 1 < fs.length
      · obtain ⟨f0, f1, fs, rfl⟩ : ∃ f0 f1 fs', fs = f0 :: f1 :: fs' := by
          rcases fs with _ | ⟨f0, _ | ⟨f1, fs⟩⟩
          · simp at h1
          · simp at h1
          · exact ⟨f0, f1, fs, rfl⟩
        have hd1 : decide ((1 : Int) < ((f0 :: f1 :: fs).length : Int)) = true := by simp only [List.length_cons]; simp; omega
        go_wp2_with (fail)
        refine (pick_any g bs q _ _ HRD.out (by omega) (by omega)).mono ?_
        rintro e w3 ⟨⟨x, rfl, _⟩, hpk⟩
        have O3 := (HO.out.offG hpk.2 hgl).mono (Nat.le_refl _) hpk.2.size
        have HN3 := Lib.hid (HN.out.trans hpk.2)
        have HR3 := Lib.hid hpk.1
        have hs3 := hpk.2.size
        clear hpk
        by_cases hx0 : x = 0
        · subst hx0
          obtain ⟨g2, cp, B0, d0, B1, d1, e0, hlo, hhi, k0, k1, k2, k3, kf, hsw⟩ := O3.swap (Nat.le_refl _)
          injection e0 with e1 _ e3
          subst e1
          subst e3
          have f0' := kf 0
          have f1' := kf 1
          have f2' := kf 2
          have f3' := kf 3
          have HSW := Lib.hid hsw
          clear hsw kf
          go_wp2_with (fail)
          go_ret
          refine ⟨some ⟨g2, 0, none⟩, _, f1 :: f0 :: fs, q + 1, rfl, by simpa using hk, by simp only [tot_cons] at htk ⊢; omega, by omega, ?_⟩
          have hso := HSW.out w3 (Below.refl _ _)
          have hkb : ∀ b, b ≠ g2 → ((((w3.setCell ⟨g2, 0, none⟩ (.int .i64 f1.1)).setCell ⟨g2, 1, none⟩ (.slice B1 f1.2.length d1)).setCell ⟨g2, 2, none⟩ (.int .i64 f0.1)).setCell ⟨g2, 3, none⟩ (.slice B0 f0.2.length d0)).heap[b]? = w3.heap[b]? := fun b hne =>
            (Below.heap_setCell _ ⟨g2, 3, none⟩ _ _ hne).trans ((Below.heap_setCell _ ⟨g2, 2, none⟩ _ _ hne).trans ((Below.heap_setCell _ ⟨g2, 1, none⟩ _ _ hne).trans (Below.heap_setCell _ ⟨g2, 0, none⟩ _ _ hne)))
          have hN3 := HN3.out
          have hR3 := HR3.out
          have ho : Only g (g + 1) w ((((w3.setCell ⟨g2, 0, none⟩ (.int .i64 f1.1)).setCell ⟨g2, 1, none⟩ (.slice B1 f1.2.length d1)).setCell ⟨g2, 2, none⟩ (.int .i64 f0.1)).setCell ⟨g2, 3, none⟩ (.slice B0 f0.2.length d0)) :=
            ⟨hN3.os, hN3.tape, hN3.output, by simpa using hN3.size, fun k hk hn => (hkb k (by omega)).trans (hN3.block k hk hn)⟩
          have hsz4 : ((((w3.setCell ⟨g2, 0, none⟩ (.int .i64 f1.1)).setCell ⟨g2, 1, none⟩ (.slice B1 f1.2.length d1)).setCell ⟨g2, 2, none⟩ (.int .i64 f0.1)).setCell ⟨g2, 3, none⟩ (.slice B0 f0.2.length d0)).heap.size = w3.heap.size := by simp
          have hr4 := hR3.same (w' := ((((w3.setCell ⟨g2, 0, none⟩ (.int .i64 f1.1)).setCell ⟨g2, 1, none⟩ (.slice B1 f1.2.length d1)).setCell ⟨g2, 2, none⟩ (.int .i64 f0.1)).setCell ⟨g2, 3, none⟩ (.slice B0 f0.2.length d0))) fun k hk => hkb k (by omega)
          exact ⟨(hso.below (below1 _ _) (by omega)).mono (Nat.le_refl _) (by rw [World.size_alloc]; omega), hr4.below (below1 _ _) (by omega), ho.trans (Only.of_below (below1 _ _))⟩
        · have hd0 : (x == 0) = false := by simpa using hx0
          have HO3 := Lib.hid O3
          clear O3
          go_wp2_with (fail)
          go_ret
          exact ⟨A, c, f0 :: f1 :: fs, q + 1, rfl, by simpa using hk, by simpa using htk, by omega, HO3.out, HR3.out, HN3.out⟩
      · have hd1 : decide ((1 : Int) < (fs.length : Int)) = false := by simp; omega
        go_wp2_with (fail)
        go_ret
        exact ⟨A, c, fs, q, rfl, by simpa using hk, by simpa using htk, by omega, HO.out, HRD.out, HN.out⟩

end Go.Proofs.Ytehjhdihaloalaa
