/-
  The law FnFactsWith: for every input the call returns true, and each argument reads behind it as it read before. Conditions: none but the row's own.
-/
import Derived.Deep.RegionLaw
import Derived.Deep.DeepCutAuto
import Derived.Test.YtfdbjoncadjhcaaChecked
import Derived.ProofKit
import Derived.OpenShut
import Derived.ChangeOld
import Derived.WalkKit
import Derived.Deep.Slices
import Derived.Deep.Fields
import Derived.ChangeSame
import Derived.Lib.SmallJoins
import Derived.KernelRfl
import Derived.Deep.SlicePairs
import Derived.Test.YtfdbjoncadjhcaaRows
import Derived.Test.YtfdbjoncadjhcaaWith1
import Derived.Test.YtfdbjoncadjhcaaWith2
/-
  Some facts drawn: l1Some, its list of the call's own.
-/
namespace Go.Proofs.Ytfdbjoncadjhcaa
open Go.RowKit

theorem OwnFacts.offG {w W : World} {lo hi g : Nat} {v : Value} {fs : List LFact} (h : OwnFacts w lo hi v fs) (k : Only g (g + 1) w W) (hg : g < lo) : OwnFacts W lo hi v fs := h.only k (.inr (by omega))

theorem OwnFacts.swap {w : World} {lo hi : Nat} {v : Value} {f0 f1 : LFact} {fs : List LFact} (h : OwnFacts w lo hi v (f0 :: f1 :: fs)) (hh : hi ≤ w.heap.size) :
    ∃ (g c : Nat) (A0 : Option Addr) (c0 : Nat) (A1 : Option Addr) (c1 : Nat), v = .slice (some ⟨g, 0, none⟩) (fs.length + 2) c ∧ lo ≤ g ∧ g < hi ∧
      w.cell? ⟨g, 0, none⟩ = some (.int .i64 f0.1) ∧ w.cell? ⟨g, 1, none⟩ = some (.slice A0 f0.2.length c0) ∧ w.cell? ⟨g, 2, none⟩ = some (.int .i64 f1.1) ∧ w.cell? ⟨g, 3, none⟩ = some (.slice A1 f1.2.length c1) ∧ (∀ k, w.frozen? ⟨g, k, none⟩ = false) ∧
      ∀ W, Below w.heap.size w W → OwnFacts ((((W.setCell ⟨g, 0, none⟩ (.int .i64 f1.1)).setCell ⟨g, 1, none⟩ (.slice A1 f1.2.length c1)).setCell ⟨g, 2, none⟩ (.int .i64 f0.1)).setCell ⟨g, 3, none⟩ (.slice A0 f0.2.length c0)) lo hi v (f1 :: f0 :: fs) := by
  obtain ⟨av, ⟨hlen, hown, hap⟩, hr, hlt⟩ := h
  rcases av with _ | ⟨a0, _ | ⟨a1, av⟩⟩
  · simp at hlen
  · simp at hlen
  have o0 : OwnInts w lo hi a0 f0.2 := hown 0 (by simp) (by simp)
  have o1 : OwnInts w lo hi a1 f1.2 := hown 1 (by simp) (by simp)
  obtain ⟨A0, c0, rfl⟩ := o0.form
  obtain ⟨A1, c1, rfl⟩ := o1.form
  rcases hr.2 with ⟨_, h0⟩ | ⟨g, cap, cur, rfl, hbg, hgg, r1, r2, r3, r4⟩
  · simp at h0
  have hat : AtRow w g cap (f0 :: f1 :: fs) (.slice A0 f0.2.length c0 :: .slice A1 f1.2.length c1 :: av) := ⟨cur, hgg, r1, r2, r3, r4⟩
  have hl : av.length = fs.length := by simpa using hlen
  have hgh := hlt g rfl
  refine ⟨g, cap, A0, c0, A1, c1, rfl, hbg, hgh, ?_, ?_, ?_, ?_, fun k => hat.frozen k, fun W hW => ?_⟩
  · rw [hat.cell (by simp only [List.length_cons]; omega)]; rfl
  · rw [hat.cell (by simp only [List.length_cons]; omega)]; rfl
  · rw [hat.cell (by simp only [List.length_cons]; omega)]; rfl
  · rw [hat.cell (by simp only [List.length_cons]; omega)]; rfl
  · have K : ∀ (x : Value) (xs : List Int), OwnInts w lo hi x xs → OwnInts ((((W.setCell ⟨g, 0, none⟩ (.int .i64 f1.1)).setCell ⟨g, 1, none⟩ (.slice A1 f1.2.length c1)).setCell ⟨g, 2, none⟩ (.int .i64 f0.1)).setCell ⟨g, 3, none⟩ (.slice A0 f0.2.length c0)) lo hi x xs := fun x xs hx => by
      refine (hx.below hW hh).kept fun b hb => ?_
      have hne : b ≠ g := fun e => blk_ne_row hx.1 (show Blk w g 26 cur from hgg) (by decide) (by rw [hb, e])
      exact (Below.heap_setCell _ ⟨g, 3, none⟩ _ _ hne).trans ((Below.heap_setCell _ ⟨g, 2, none⟩ _ _ hne).trans ((Below.heap_setCell _ ⟨g, 1, none⟩ _ _ hne).trans (Below.heap_setCell _ ⟨g, 0, none⟩ _ _ hne)))
    have S := ((hat.below hW (by omega)).set (by simp [hl]) (k := 0) (by simp) f1 (.slice A1 f1.2.length c1)).set (by simp [hl]) (k := 1) (by simp) f0 (.slice A0 f0.2.length c0)
    have T := S.row (base := lo) (by simp [hl]) hbg
    refine ⟨.slice A1 f1.2.length c1 :: .slice A0 f0.2.length c0 :: av, ⟨by simp [hl], fun i h1 h2 => ?_, ?_⟩, T, hlt⟩
    · rcases i with _ | _ | i
      · exact K _ _ o1
      · exact K _ _ o0
      · exact K _ _ (hown (i + 2) (by simpa using h1) (by simpa using h2))
    · rw [List.pairwise_cons, List.pairwise_cons] at hap
      obtain ⟨p0, p1, p2⟩ := hap
      rw [List.pairwise_cons, List.pairwise_cons]
      refine ⟨fun b hb => ?_, fun b hb => p0 b (by simp [hb]), p2⟩
      rcases List.mem_cons.1 hb with rfl | hb
      · exact fun x hx hx' => p0 _ (by simp) x hx' hx
      · exact p1 b hb

set_option maxHeartbeats 2000000 in
set_option maxRecDepth 100000 in
theorem l1Some_any (g : Nat) (bs : List Nat) (p m lo hi : Nat) (v : Value) (ar : List Int) (w : World) (h : Rdr w g bs p) (hp : p ≤ 65536) (ha : OwnInts w lo hi v ar) (hg : g < lo) (hh : hi ≤ w.heap.size) (hr : ∀ x ∈ ar, 0 ≤ x ∧ x ≤ 2) (hl : ar.length ≤ 1048576) (hm : m ≤ 64) :
    Calls Try.prog 69 #[.pointer (some ⟨g, 0, none⟩), v, .int .i64 m] w fun e w' => ∃ (A : Option Addr) (c : Nat) (fs : List LFact) (q : Nat), e = .returned (.slice A fs.length c) ∧ fs.length ≤ m ∧ tot fs ≤ 3 * m ∧ q ≤ p + 2 + 24 * m ∧
      OwnFacts w' w.heap.size w'.heap.size (.slice A fs.length c) fs ∧ Rdr w' g bs q ∧ Only g (g + 1) w w' := by
  obtain ⟨A0, c0, rfl⟩ := ha.form
  have hgl := h.lt
  have H := Lib.hid h
  have HA := Lib.hid ha
  have HR0 := Lib.hid hr
  clear h ha hr
  go_enter Try.func69, Try.ntmps69
  go_wp2_with (fail)
  refine (pick_any g bs p _ _ (H.out.below (below1 _ _) hgl) (by omega) (by omega)).mono ?_
  rintro e w1 ⟨⟨x, rfl, hx⟩, hpk⟩
  obtain ⟨j, rfl⟩ : ∃ j : Nat, x = (j : Int) := ⟨x.toNat, by have := hx.1 (by omega); omega⟩
  have hj : j ≤ m := by have := hx.1 (by omega); omega
  have HS := Lib.hid (show OwnFacts w1 w.heap.size w1.heap.size (.slice (some ⟨w.heap.size, 0, none⟩) 0 0) [] from (((ColRel.empty w).own.own.mono (Nat.le_refl _) (Nat.le_refl _)).offG hpk.2 hgl).mono (Nat.le_refl _) hpk.2.size)
  have HR1 := Lib.hid hpk.1
  have HO1 := Lib.hid ((Only.of_below (below1 w _)).trans hpk.2)
  clear hpk hx
  go_wp2_with (fail)
  go_loopw [7, 8] (fun o i wr => ∃ (k : Nat) (fs : List LFact) (A : Option Addr) (c q : Nat), i = .int .i64 k ∧ fs.length + k ≤ m ∧ tot fs + 3 * k ≤ 3 * m ∧ q + 24 * k ≤ p + 1 + 24 * m ∧ o = .slice A fs.length c ∧ OwnFacts wr w.heap.size wr.heap.size (.slice A fs.length c) fs ∧ Rdr wr g bs q ∧ Only g (g + 1) w wr) (fun _ i _ => (intOf i).toNat)
  case atStart => exact ⟨j, [], _, 0, p + 1, rfl, by simpa using hj, by have : tot [] = 0 := rfl; omega, by omega, rfl, HS.out, HR1.out, HO1.out⟩
  case round =>
    obtain ⟨k, fs, A, c, q, rfl, hk, htk, hqk, rfl, ho, hrd, hon⟩ := hrel
    have HO := Lib.hid ho
    have HRD := Lib.hid hrd
    have hsz := hon.size
    have HN := Lib.hid hon
    have hfl : fs.length ≤ m := by omega
    clear ho hrd hon
    by_cases hlt : 0 < k
    · obtain ⟨k, rfl⟩ : ∃ k', k = k' + 1 := ⟨k - 1, by omega⟩
      have hd : decide ((0 : Int) < ((k + 1 : Nat) : Int)) = true := by simp
      go_wp2_with (fail)
      refine (l1Fact_own g bs q lo hi _ ar wr HRD.out (by omega) (HA.out.offG HN.out hg) hg (Nat.le_trans hh hsz) HR0.out hl).mono ?_
      rintro e w2 ⟨A3, c3, f, q3, rfl, hf, hq3, ho, hR, hO⟩
      have HF := Lib.hid ho
      have HR2 := Lib.hid hR
      have HO2 := Lib.hid hO
      have hs2 := hO.size
      clear ho hR hO
      go_wp2_with (fail)
      have RA := Lib.hid (show RdInts (w2.alloc (Obj.cells #[Value.int IntKind.i64 f.fst, Value.slice A3 f.snd.length c3] 26)) (w2.alloc (Obj.cells #[Value.int IntKind.i64 f.fst, Value.slice A3 f.snd.length c3] 26)).heap.size (.slice A0 ar.length c0) ar from
        (((HA.out.offG HN.out hg).offG HO2.out hg).rd.more (by omega)).on (below1 w2 _))
      have RB := Lib.hid (show RdFact (w2.alloc (Obj.cells #[Value.int IntKind.i64 f.fst, Value.slice A3 f.snd.length c3] 26)) (w2.alloc (Obj.cells #[Value.int IntKind.i64 f.fst, Value.slice A3 f.snd.length c3] 26)).heap.size (.agg #[.int .i64 f.1, .slice A3 f.2.length c3]) f from
        RdFact.on ⟨_, rfl, HF.out.rd⟩ (below1 w2 _))
      refine (specFactOk_any _ _ ar f _ RA.out RB.out hl (by omega)).mono ?_
      rintro e w3 ⟨rfl, hb3⟩
      have B3 := bthen (below1 w2 _) hb3
      have hs3 := B3.size
      have K3 : Blk w3 w2.heap.size 26 #[.int .i64 f.1, .slice A3 f.2.length c3] := (Blk.new w2 _ _).below hb3 (by simp)
      have O3 : OwnFacts w3 w.heap.size wr.heap.size (.slice A fs.length c) fs := (HO.out.offG HO2.out (by omega)).below B3 hs2
      have F3 : OwnInts w3 wr.heap.size w2.heap.size (.slice A3 f.2.length c3) f.2 := HF.out.below B3 (Nat.le_refl _)
      have R3 := HR2.out.below B3 HR2.out.lt
      have N3 := HN.out.trans (HO2.out.trans (Only.of_below (lo := g) (hi := g + 1) B3))
      have hbd := factsWith_bound fs f
      have hgr : g < w3.heap.size := R3.lt
      clear hb3 B3 HRD HR2 HO2 HO HF RA RB HN
      cases hok : factOk ar f
      · have HX3 := Lib.hid (And.intro O3 (And.intro F3 (And.intro R3 N3)))
        have HK3 := Lib.hid K3
        clear O3 F3 N3 K3
        have HR3 := Lib.hid R3
        clear R3
        go_wp2_with (fail)
        refine (pick_any g bs q3 _ _ HR3.out (by omega) (by omega)).mono ?_
        rintro e w4 ⟨⟨x, rfl, _⟩, hpk⟩
        have hs4 := hpk.2.size
        have K4 := HK3.out.only hpk.2 (.inr (by omega))
        obtain ⟨O3, F3, _, N3⟩ := HX3.out
        have O4 := (O3.offG hpk.2 (by omega)).mono (Nat.le_refl _) (show wr.heap.size ≤ w4.heap.size by omega)
        have F4 := (F3.offG hpk.2 (by omega)).rd.more (show w2.heap.size ≤ w4.heap.size by omega)
        have R4 := hpk.1
        have N4 := N3.trans hpk.2
        have k0 : w4.cell? ⟨w2.heap.size, 0, none⟩ = some (.int .i64 f.1) := K4.cell 0
        have k1 : w4.cell? ⟨w2.heap.size, 1, none⟩ = some (.slice A3 f.2.length c3) := K4.cell 1
        clear hpk O3 F3 N3 K4 HX3 HK3 HR3
        have HX4 := Lib.hid (And.intro O4 (And.intro F4 (And.intro R4 N4)))
        clear O4 F4 R4 N4
        by_cases hx0 : x = 0
        · subst hx0
          go_wp2_with (fail)
          refine (specFactsWith_any _ _ fs f _ HX4.out.1.rd ⟨_, rfl, HX4.out.2.1⟩ (by omega) (by omega) (by omega)).mono ?_
          rintro e w5 ⟨A5, c5, rfl, ho5, hb5⟩
          have HE := Lib.hid (show OwnFacts w5 w.heap.size w5.heap.size _ _ from ho5.mono (by omega) (Nat.le_refl _))
          have HR5 := Lib.hid (HX4.out.2.2.1.below hb5 (by omega))
          have HN5 := Lib.hid (HX4.out.2.2.2.trans (Only.of_below (lo := g) (hi := g + 1) hb5))
          clear ho5 hb5
          go_wp2_with (fail)
          go_roundw
          case rel => exact ⟨k, factsWith fs f, A5, c5, q3 + 1, by go_num, by omega, by omega, by omega, rfl, HE.out, HR5.out, HN5.out⟩
          case measure => simp [intOf]
        · have hd0 : (x == 0) = false := by simpa using hx0
          go_wp2_with (fail)
          go_roundw
          case rel => exact ⟨k, fs, A, c, q3 + 1, by go_num, by omega, by omega, by omega, rfl, HX4.out.1, HX4.out.2.2.1, HX4.out.2.2.2⟩
          case measure => simp [intOf]
      · have k0 : w3.cell? ⟨w2.heap.size, 0, none⟩ = some (.int .i64 f.1) := K3.cell 0
        have k1 : w3.cell? ⟨w2.heap.size, 1, none⟩ = some (.slice A3 f.2.length c3) := K3.cell 1
        have HX3 := Lib.hid (And.intro O3 (And.intro F3 (And.intro R3 N3)))
        clear O3 F3 R3 N3 K3
        go_wp2_with (fail)
        refine (specFactsWith_any _ _ fs f _ (HX3.out.1.rd.more (by omega)) ⟨_, rfl, HX3.out.2.1.rd.more (by omega)⟩ (by omega) (by omega) (by omega)).mono ?_
        rintro e w5 ⟨A5, c5, rfl, ho5, hb5⟩
        have HE := Lib.hid (show OwnFacts w5 w.heap.size w5.heap.size _ _ from ho5.mono (by omega) (Nat.le_refl _))
        have HR5 := Lib.hid (HX3.out.2.2.1.below hb5 (by omega))
        have HN5 := Lib.hid (HX3.out.2.2.2.trans (Only.of_below (lo := g) (hi := g + 1) hb5))
        clear ho5 hb5
        go_wp2_with (fail)
        go_roundw
        case rel => exact ⟨k, factsWith fs f, A5, c5, q3, by go_num, by omega, by omega, by omega, rfl, HE.out, HR5.out, HN5.out⟩
        case measure => simp [intOf]
    · have hk0 : k = 0 := by omega
      subst hk0
      by_cases h1 : 1 < fs.length
      · obtain ⟨f0, f1, fs, rfl⟩ : ∃ f0 f1 fs', fs = f0 :: f1 :: fs' := by
          rcases fs with _ | ⟨f0, _ | ⟨f1, fs⟩⟩
          · simp at h1
          · simp at h1
          · exact ⟨f0, f1, fs, rfl⟩
        have hd1 : decide ((1 : Int) < ((f0 :: f1 :: fs).length : Int)) = true := by simp only [List.length_cons]; simp; omega
        go_wp2_with (fail)
        refine (pick_any g bs q _ _ HRD.out (by omega) (by omega)).mono ?_
        rintro e w3 ⟨⟨x, rfl, _⟩, hpk⟩
        have O3 := (HO.out.offG hpk.2 hgl).mono (Nat.le_refl _) hpk.2.size
        have HN3 := Lib.hid (HN.out.trans hpk.2)
        have HR3 := Lib.hid hpk.1
        have hs3 := hpk.2.size
        clear hpk
        by_cases hx0 : x = 0
        · subst hx0
          obtain ⟨g2, cp, B0, d0, B1, d1, e0, hlo, hhi, k0, k1, k2, k3, kf, hsw⟩ := O3.swap (Nat.le_refl _)
          injection e0 with e1 _ e3
          subst e1
          subst e3
          have f0' := kf 0
          have f1' := kf 1
          have f2' := kf 2
          have f3' := kf 3
          have HSW := Lib.hid hsw
          clear hsw kf
          go_wp2_with (fail)
          go_ret
          refine ⟨some ⟨g2, 0, none⟩, _, f1 :: f0 :: fs, q + 1, rfl, by simpa using hk, by simp only [tot_cons] at htk ⊢; omega, by omega, ?_⟩
          have hso := HSW.out w3 (Below.refl _ _)
          have hkb : ∀ b, b ≠ g2 → ((((w3.setCell ⟨g2, 0, none⟩ (.int .i64 f1.1)).setCell ⟨g2, 1, none⟩ (.slice B1 f1.2.length d1)).setCell ⟨g2, 2, none⟩ (.int .i64 f0.1)).setCell ⟨g2, 3, none⟩ (.slice B0 f0.2.length d0)).heap[b]? = w3.heap[b]? := fun b hne =>
            (Below.heap_setCell _ ⟨g2, 3, none⟩ _ _ hne).trans ((Below.heap_setCell _ ⟨g2, 2, none⟩ _ _ hne).trans ((Below.heap_setCell _ ⟨g2, 1, none⟩ _ _ hne).trans (Below.heap_setCell _ ⟨g2, 0, none⟩ _ _ hne)))
          have hN3 := HN3.out
          have hR3 := HR3.out
          have ho : Only g (g + 1) w ((((w3.setCell ⟨g2, 0, none⟩ (.int .i64 f1.1)).setCell ⟨g2, 1, none⟩ (.slice B1 f1.2.length d1)).setCell ⟨g2, 2, none⟩ (.int .i64 f0.1)).setCell ⟨g2, 3, none⟩ (.slice B0 f0.2.length d0)) :=
            ⟨hN3.os, hN3.tape, hN3.output, by simpa using hN3.size, fun k hk hn => (hkb k (by omega)).trans (hN3.block k hk hn)⟩
          have hsz4 : ((((w3.setCell ⟨g2, 0, none⟩ (.int .i64 f1.1)).setCell ⟨g2, 1, none⟩ (.slice B1 f1.2.length d1)).setCell ⟨g2, 2, none⟩ (.int .i64 f0.1)).setCell ⟨g2, 3, none⟩ (.slice B0 f0.2.length d0)).heap.size = w3.heap.size := by simp
          have hr4 := hR3.same (w' := ((((w3.setCell ⟨g2, 0, none⟩ (.int .i64 f1.1)).setCell ⟨g2, 1, none⟩ (.slice B1 f1.2.length d1)).setCell ⟨g2, 2, none⟩ (.int .i64 f0.1)).setCell ⟨g2, 3, none⟩ (.slice B0 f0.2.length d0))) fun k hk => hkb k (by omega)
          exact ⟨(hso.below (below1 _ _) (by omega)).mono (Nat.le_refl _) (by rw [World.size_alloc]; omega), hr4.below (below1 _ _) (by omega), ho.trans (Only.of_below (below1 _ _))⟩
        · have hd0 : (x == 0) = false := by simpa using hx0
          have HO3 := Lib.hid O3
          clear O3
          go_wp2_with (fail)
          go_ret
          exact ⟨A, c, f0 :: f1 :: fs, q + 1, rfl, by simpa using hk, by simpa using htk, by omega, HO3.out, HR3.out, HN3.out⟩
      · have hd1 : decide ((1 : Int) < (fs.length : Int)) = false := by simp; omega
        go_wp2_with (fail)
        go_ret
        exact ⟨A, c, fs, q, rfl, by simpa using hk, by simpa using htk, by omega, HO.out, HRD.out, HN.out⟩

end Go.Proofs.Ytfdbjoncadjhcaa
/-
  Two lists of facts drawn: the arguments of FactsEither.
-/
namespace Go.Proofs.Ytfdbjoncadjhcaa
open Go.RowKit

/-- A call's two lists. -/
def TwoFacts (w w' : World) (e : Ending) : Prop := ∃ (A : Option Addr) (c : Nat) (fs : List LFact) (A2 : Option Addr) (c2 : Nat) (gs : List LFact), e = .returned (.tuple #[.slice A fs.length c, .slice A2 gs.length c2]) ∧ fs.length ≤ 6 ∧ tot fs ≤ 18 ∧ gs.length ≤ 6 ∧ tot gs ≤ 18 ∧
  RdFacts w' w'.heap.size (.slice A fs.length c) fs ∧ RdFacts w' w'.heap.size (.slice A2 gs.length c2) gs ∧ Below w.heap.size w w'

set_option maxHeartbeats 1000000 in
set_option maxRecDepth 100000 in
theorem l1Two_any (v : Value) (bs : List Nat) (w : World) (h : RdBytes w w.heap.size v bs) (hby : ∀ b ∈ bs, b < 256) (hn : bs.length ≤ 1073741824) :
    Calls Try.prog 77 #[v] w fun e w' => TwoFacts w w' e := by
  have H := Lib.hid h
  clear h
  go_enter Try.func77, Try.ntmps77
  go_wp2_with (fail)
  refine (l40Open_any v bs _ H.out hby hn).mono ?_
  rintro e w1 ⟨rfl, hr1, B1⟩
  have HR := Lib.hid hr1
  have hz1 := hr1.lt
  clear hr1
  go_wp2_with (fail)
  refine (l1Arity_any w.heap.size (bs.take 2000) 0 3 _ HR.out (by omega) (by omega)).mono ?_
  rintro e w2 ⟨A2, c2, ar, rfl, hd⟩
  have hlen := hd.len
  have HI := Lib.hid (show OwnInts w2 w1.heap.size w2.heap.size (.slice A2 3 c2) ar from hd.ints)
  have HD := Lib.hid hd.rdr
  have HG := Lib.hid hd.range
  have B2 := B1.trans (hd.only.below (Nat.le_refl _) (by omega))
  have hz2 := hd.only.size
  clear hd
  go_wp2_with (fail)
  refine (l1Some_any w.heap.size (bs.take 2000) 3 6 w1.heap.size w2.heap.size _ ar w2 HD.out (by omega) HI.out (by omega) (Nat.le_refl _) HG.out (by omega) (by omega)).mono ?_
  rintro e w3 ⟨A3, c3, fs, q, rfl, hf, htf, hq, ho, hR, hO⟩
  have HF := Lib.hid ho
  have HR3 := Lib.hid hR
  have hz3 := hO.size
  have HI3 := Lib.hid (HI.out.offG hO (by omega))
  have B3 := B2.trans (hO.below (Nat.le_refl _) (by omega))
  clear ho hR hO HD
  go_wp2_with (fail)
  refine (l1Some_any w.heap.size (bs.take 2000) q 6 w1.heap.size w2.heap.size _ ar w3 HR3.out (by omega) HI3.out (by omega) hz3 HG.out (by omega) (by omega)).mono ?_
  rintro e w4 ⟨A4, c4, gs, q4, rfl, hg, htg, hq4, ho, hR, hO⟩
  have HF4 := Lib.hid ((HF.out.offG hO (by omega)).rd.more hO.size)
  have HG4 := Lib.hid ho.rd
  have B4 := Lib.hid (B3.trans (hO.below (Nat.le_refl _) (by omega)))
  clear ho hR hO B3 B2 B1
  go_wp2_with (fail)
  refine bodyPost_ret (v := .tuple #[.slice A3 fs.length c3, .slice A4 gs.length c4]) (by simp [results, Try.results77, go_sem]) rfl ?_
  exact ⟨A3, c3, fs, A4, c4, gs, rfl, hf, htf, hg, htg, HF4.out, HG4.out, B4.out⟩

end Go.Proofs.Ytfdbjoncadjhcaa
/-
  The walks of FactsOk: the program's and the specification's.
-/
namespace Go.Proofs.Ytfdbjoncadjhcaa
open Go.RowKit

def roundOk (ar : List Int) (fs : List LFact) (k : Nat) : Bool := factFits ar (fs.getD k (0, [])) && (decide (k = 0) || decide (factOrder (fs.getD (k - 1) (0, [])) (fs.getD k (0, [])) < 0))
def factsOk (ar : List Int) (fs : List LFact) : Bool := arityOk ar && (List.range fs.length).all (roundOk ar fs)
def OkTo (ar : List Int) (fs : List LFact) (k : Nat) : Prop := (List.range k).all (roundOk ar fs) = true
theorem OkTo.step {ar : List Int} {fs : List LFact} {k : Nat} (h : OkTo ar fs k) (e : roundOk ar fs k = true) : OkTo ar fs (k + 1) := by
  unfold OkTo at h ⊢
  rw [List.range_succ, List.all_append, h]
  simp [e]
theorem round_not {ar : List Int} {fs : List LFact} {k : Nat} (hk : k < fs.length) (e : roundOk ar fs k = false) : factsOk ar fs = false := by
  unfold factsOk
  have : (List.range fs.length).all (roundOk ar fs) = false := by
    rw [List.all_eq_false]
    exact ⟨k, List.mem_range.2 hk, by simp [e]⟩
  rw [this, Bool.and_false]
theorem getD_at {α : Type} {l : List α} {k : Nat} (h : k < l.length) {d : α} : l.getD k d = l[k] := by simp [h]
theorem round_first {ar : List Int} {fs : List LFact} {k : Nat} (hk : k < fs.length) (h : factFits ar fs[k] = true) (h0 : k = 0) : roundOk ar fs k = true := by
  unfold roundOk
  rw [getD_at hk, h]
  simp [h0]
theorem round_next {ar : List Int} {fs : List LFact} {j : Nat} (hk : j + 1 < fs.length) (hj : j < fs.length) (h : factFits ar fs[j + 1] = true) : roundOk ar fs (j + 1) = decide (factOrder fs[j] fs[j + 1] < 0) := by
  unfold roundOk
  rw [getD_at hk, h, Nat.add_sub_cancel, getD_at hj]
  simp
theorem round_unfit {ar : List Int} {fs : List LFact} {k : Nat} (hk : k < fs.length) (h : factFits ar fs[k] = false) : roundOk ar fs k = false := by
  unfold roundOk
  rw [getD_at hk, h]
  simp
theorem later_fact {w0 : World} {v : Value} {f : LFact} (h : RdFact w0 w0.heap.size v f) (x : Later w0) : RdFact x.val x.val.heap.size v f := h.on x.2
theorem later_ints {w0 : World} {v : Value} {f : List Int} (h : RdInts w0 w0.heap.size v f) (x : Later w0) : RdInts x.val x.val.heap.size v f := h.on x.2

set_option maxHeartbeats 1000000 in
set_option maxRecDepth 100000 in
theorem specFactsOk_any (v v2 : Value) (ar : List Int) (fs : List LFact) (w : World) (h : RdInts w w.heap.size v ar) (h2 : RdFacts w w.heap.size v2 fs) (hr : ar.length ≤ 1048576) (hn : fs.length ≤ 1048576) (ht : tot fs ≤ 1048576) :
    Calls Try.prog 26 #[v, v2] w fun e w' => e = .returned (.bool (factsOk ar fs)) ∧ Below w.heap.size w w' := by
  have H := Lib.hid h
  have H2 := Lib.hid h2
  obtain ⟨A, c, rfl, hc, _⟩ := h
  obtain ⟨A2, c2, rfl, hc2, _⟩ := h2
  go_enter Try.func26, Try.ntmps26
  go_wp2_with (fail)
  go_loopw [5] (fun i wr => ∃ k : Nat, k ≤ fs.length ∧ i = .int .i64 k ∧ OkTo ar fs k ∧ Below w.heap.size w wr) (fun i _ => fs.length - (intOf i).toNat)
  case atStart => exact ⟨0, Nat.zero_le _, rfl, by simp [OkTo], Below.refl _ _⟩
  case round =>
    obtain ⟨k, hk, rfl, hs, hbe⟩ := hrel
    by_cases hlt : k < fs.length
    · obtain ⟨b, o, A3, c3, rfl, hbB, k1, k2, k3⟩ := (H2.out.on hbe).get hlt
      have K3 := Lib.hid (show RdFact wr wr.heap.size (.agg #[.int .i64 fs[k].1, .slice A3 fs[k].2.length c3]) fs[k] from ⟨_, rfl, k3⟩)
      have hln := len_le_tot fs k hlt
      have L1 := later_cell k1
      have L2 := later_cell k2
      clear k1 k2 k3
      by_cases hfo : factOk ar fs[k] = true
      · have CF := Lib.hid (fun x : Later wr => (specFactOk_any _ _ ar fs[k] x.val ((H.out.on hbe).on x.2) (K3.out.on x.2) hr (by omega)).mono fun e w' (hh : e = .returned (.bool (factOk ar fs[k])) ∧ Below x.val.heap.size x.val w') => (⟨by rw [hh.1, hfo], hh.2⟩ : e = .returned (.bool true) ∧ Below x.val.heap.size x.val w'))
        have hff : factFits ar fs[k] = true := by
          unfold factOk at hfo
          exact (Bool.and_eq_true _ _ ▸ hfo).2
        have HA := Lib.hid (show arityOk ar = true by
          unfold factOk at hfo
          exact (Bool.and_eq_true _ _ ▸ hfo).1)
        clear hfo
        rcases Nat.eq_zero_or_pos k with hk0 | hk0
        · have hd : decide (0 < k) = false := by simp [hk0]
          have HS := Lib.hid (hs.step (round_first hlt hff hk0) : OkTo ar fs (k + 1))
          clear hs hk0 hff
          go_wp2_with (fail)
          refine wp_region_later (by kernel_rfl) (by kernel_rfl) ?_
          repeat (go_big_quiet_step ((go_at_call 71; exact later_of (CF.out _))))
          refine wpQuiet_nil ?_
          rintro _ ⟨xq, rfl⟩
          go_wp2_with (fail)
          go_roundw
          case rel => exact ⟨k + 1, by omega, by go_num, HS.out, bthen hbe xq.2⟩
          case measure => simp [intOf]; omega
        · obtain ⟨j, rfl⟩ : ∃ j, k = j + 1 := ⟨k - 1, by omega⟩
          have hltj : j < fs.length := by omega
          obtain ⟨b', o', A4, c4, e4, hbB', m1, m2, m3⟩ := (H2.out.on hbe).get hltj
          simp only [Option.some.injEq, Addr.mk.injEq, and_true] at e4
          obtain ⟨rfl, rfl⟩ := e4
          have K4 := Lib.hid (show RdFact wr wr.heap.size (.agg #[.int .i64 fs[j].1, .slice A4 fs[j].2.length c4]) fs[j] from ⟨_, rfl, m3⟩)
          have hlnj := len_le_tot fs j hltj
          have M1 := later_cell m1
          have M2 := later_cell m2
          have CO := Lib.hid (fun x : Later wr => specFactOrder_any _ _ fs[j] fs[j + 1] x.val (K4.out.on x.2) (K3.out.on x.2) (by omega) (by omega))
          clear m1 m2 m3
          by_cases hlo : factOrder fs[j] fs[j + 1] < 0
          · have hd : decide (0 ≤ factOrder fs[j] fs[j + 1]) = false := by simp; omega
            have HS := Lib.hid (hs.step (by rw [round_next hlt hltj hff]; simp [hlo]) : OkTo ar fs (j + 1 + 1))
            clear hs hff
            go_wp2_with (fail)
            refine wp_region_later (by kernel_rfl) (by kernel_rfl) ?_
            repeat (go_big_quiet_step (first | (go_at_call 71; exact later_of (CF.out _)) | (go_at_call 72; exact later_of (CO.out _))))
            refine wpQuiet_nil ?_
            rintro _ ⟨xq, rfl⟩
            go_wp2_with (fail)
            go_roundw
            case rel => exact ⟨j + 1 + 1, by omega, by go_num, HS.out, bthen hbe xq.2⟩
            case measure => simp [intOf]; omega
          · have hd : decide (0 ≤ factOrder fs[j] fs[j + 1]) = true := by simp; omega
            have HE := Lib.hid (show factsOk ar fs = false from round_not hlt (by rw [round_next hlt hltj hff]; simp [hlo]))
            clear hs hff
            go_wp2_with (fail)
            refine wp_region_later (by kernel_rfl) (by kernel_rfl) ?_
            repeat (go_big_quiet_step (first | (go_at_call 71; exact later_of (CF.out _)) | (go_at_call 72; exact later_of (CO.out _))))
            refine wpQuiet_nil ?_
            rintro _ ⟨xq, rfl⟩
            go_wp2_with (fail)
            go_ret
            exact ⟨ret_bool HE.out.symm, bthen hbe xq.2⟩
      · have CF := Lib.hid (fun x : Later wr => (specFactOk_any _ _ ar fs[k] x.val ((H.out.on hbe).on x.2) (K3.out.on x.2) hr (by omega)).mono fun e w' (hh : e = .returned (.bool (factOk ar fs[k])) ∧ Below x.val.heap.size x.val w') => (⟨by rw [hh.1, show factOk ar fs[k] = false by simpa using hfo], hh.2⟩ : e = .returned (.bool false) ∧ Below x.val.heap.size x.val w'))
        have HE := Lib.hid (show factsOk ar fs = false by
          by_cases ha : arityOk ar = true
          · exact round_not hlt (round_unfit hlt (by simpa [factOk, ha] using hfo))
          · simp [factsOk, ha])
        clear hs hfo
        go_wp2_with (fail)
        refine wp_region_later (by kernel_rfl) (by kernel_rfl) ?_
        repeat (go_big_quiet_step ((go_at_call 71; exact later_of (CF.out _))))
        refine wpQuiet_nil ?_
        rintro _ ⟨xq, rfl⟩
        go_wp2_with (fail)
        go_ret
        exact ⟨ret_bool HE.out.symm, bthen hbe xq.2⟩
    · have hkn : k = fs.length := by omega
      have HE := Lib.hid (show factsOk ar fs = arityOk ar by unfold factsOk; unfold OkTo at hs; rw [← hkn, hs, Bool.and_true])
      clear hkn hs
      go_wp2_with (fail)
      refine (specArityOk_any _ ar _ (H.out.on hbe) (by omega)).mono ?_
      rintro e w2 ⟨rfl, rfl⟩
      go_wp2_with (fail)
      go_ret
      exact ⟨ret_bool HE.out.symm, hbe⟩

end Go.Proofs.Ytfdbjoncadjhcaa
/-
  wrFacts on two slices that read as the same facts.
-/
namespace Go.Proofs.Ytfdbjoncadjhcaa
open Go.RowKit

theorem cmpL_self (xs : List Int) : cmpL xs xs = 0 := by
  induction xs with
  | nil => simp [cmpL]
  | cons x xs ih => simp [cmpL, ih]
theorem factOrder_self (f : LFact) : factOrder f f = 0 := by simp [factOrder, cmpL_self]

set_option maxHeartbeats 1000000 in
set_option maxRecDepth 100000 in
theorem wrFacts_yes (v v2 : Value) (fs : List LFact) (w : World) (h : RdFacts w w.heap.size v fs) (h2 : RdFacts w w.heap.size v2 fs) (hn : fs.length ≤ 1048576) (ht : tot fs ≤ 1048576) :
    Calls Try.prog 32 #[v, v2] w fun e w' => e = .returned (.bool true) ∧ Below w.heap.size w w' := by
  have H := Lib.hid h
  have H2 := Lib.hid h2
  obtain ⟨A, c, rfl, hc, _⟩ := h
  obtain ⟨A2, c2, rfl, hc2, _⟩ := h2
  have hnn : ((fs.length : Int) != (fs.length : Int)) = false := by simp
  go_enter Try.func32, Try.ntmps32
  go_wp2_with (fail)
  go_loopw [5, 13] (fun _ i wr => ∃ k : Nat, k ≤ fs.length ∧ i = .int .i64 k ∧ Below w.heap.size w wr) (fun _ i _ => fs.length - (intOf i).toNat)
  case atStart => exact ⟨0, Nat.zero_le _, rfl, Below.refl _ _⟩
  case round =>
    obtain ⟨k, hk, rfl, hbe⟩ := hrel
    by_cases hlt : k < fs.length
    · obtain ⟨b, o, A3, c3, rfl, hbB, k1, k2, k3⟩ := (H.out.on hbe).get hlt
      have K3 := Lib.hid (show RdFact wr wr.heap.size (.agg #[.int .i64 fs[k].1, .slice A3 fs[k].2.length c3]) fs[k] from ⟨_, rfl, k3⟩)
      obtain ⟨b', o', A4, c4, rfl, hbB', m1, m2, m3⟩ := (H2.out.on hbe).get hlt
      have K4 := Lib.hid (show RdFact wr wr.heap.size (.agg #[.int .i64 fs[k].1, .slice A4 fs[k].2.length c4]) fs[k] from ⟨_, rfl, m3⟩)
      have hln := len_le_tot fs k hlt
      have L1 := later_cell k1
      have L2 := later_cell k2
      have M1 := later_cell m1
      have M2 := later_cell m2
      have CO := Lib.hid (fun x : Later wr => (implFactOrder_any _ _ fs[k] fs[k] x.val (K3.out.on x.2) (K4.out.on x.2) (by omega) (by omega)).mono fun e w' (hh : e = .returned (.int .i64 (factOrder fs[k] fs[k])) ∧ Below x.val.heap.size x.val w') => (⟨by rw [hh.1, factOrder_self], hh.2⟩ : e = .returned (.int .i64 0) ∧ Below x.val.heap.size x.val w'))
      clear k1 k2 k3 m1 m2 m3
      go_wp2_with (fail)
      refine wp_region_later (by kernel_rfl) (by kernel_rfl) ?_
      repeat (go_big_quiet_step ((go_at_call 16; exact later_of (CO.out _))))
      refine wpQuiet_nil ?_
      rintro _ ⟨xq, rfl⟩
      go_wp2_with (fail)
      go_roundw
      case rel => exact ⟨k + 1, by omega, by go_num, bthen hbe xq.2⟩
      case measure => simp [intOf]; omega
    · have hkn : k = fs.length := by omega
      have hdk : decide ((k : Int) < (fs.length : Int)) = false := by simp; omega
      go_wp2_with (fail)
      go_ret
      exact ⟨rfl, hbe⟩

end Go.Proofs.Ytfdbjoncadjhcaa
/-
  The arguments of AllFacts drawn; the order turned round.
-/
namespace Go.Proofs.Ytfdbjoncadjhcaa
open Go.RowKit

theorem cmpI_turn (a b : Int) : cmpI a b = -cmpI b a := by
  unfold cmpI
  split <;> split <;> (try split) <;> omega
theorem cmpL_turn : ∀ xs ys : List Int, cmpL xs ys = -cmpL ys xs
  | [], [] => rfl
  | [], _ :: _ => rfl
  | _ :: _, [] => rfl
  | x :: xs, y :: ys => by
    unfold cmpL
    by_cases h : x = y
    · subst h
      simpa using cmpL_turn xs ys
    · rw [if_neg h, if_neg (fun e => h e.symm)]
      exact cmpI_turn x y
theorem factOrder_turn (f g : LFact) : factOrder f g = -factOrder g f := by
  unfold factOrder
  by_cases h : f.1 = g.1
  · rw [if_pos h, if_pos h.symm]
    exact cmpL_turn _ _
  · rw [if_neg h, if_neg (fun e => h e.symm)]
    exact cmpI_turn _ _

end Go.Proofs.Ytfdbjoncadjhcaa
/-
  The arguments of FactOk and of FactOrder drawn.
-/
namespace Go.Proofs.Ytfdbjoncadjhcaa
open Go.RowKit

/-- The two cells of a result's block set, of blocks behind it. -/
theorem keepTwo {w w3 : World} {lo hi lo2 hi2 : Nat} {v v2 : Value} {xs ys : List Int} {t : TypeId} {a b : Value} (h : Blk w3 w.heap.size t #[a, b]) (hv : OwnInts w3 lo hi v xs) (hv2 : OwnInts w3 lo2 hi2 v2 ys) (h1 : w.heap.size < lo) (h2 : w.heap.size < lo2) (hb : Below w.heap.size w w3) (x : Int) (u : Value) :
    Blk ((w3.setCell ⟨w.heap.size, 0, none⟩ (.int .i64 x)).setCell ⟨w.heap.size, 1, none⟩ u) w.heap.size t #[.int .i64 x, u] ∧ OwnInts ((w3.setCell ⟨w.heap.size, 0, none⟩ (.int .i64 x)).setCell ⟨w.heap.size, 1, none⟩ u) lo hi v xs ∧
    OwnInts ((w3.setCell ⟨w.heap.size, 0, none⟩ (.int .i64 x)).setCell ⟨w.heap.size, 1, none⟩ u) lo2 hi2 v2 ys ∧ Below w.heap.size w ((w3.setCell ⟨w.heap.size, 0, none⟩ (.int .i64 x)).setCell ⟨w.heap.size, 1, none⟩ u) :=
  ⟨by simpa using (h.set_ 0 (.int .i64 x)).set_ 1 u, (hv.set (.inl h1) _).set (.inl h1) _, (hv2.set (.inl h2) _).set (.inl h2) _, (hb.setCell (Nat.le_refl _) _).setCell (Nat.le_refl _) _⟩

theorem RdBytes.on {w w' : World} {v : Value} {bs : List Nat} (h : RdBytes w w.heap.size v bs) (hb : Below w.heap.size w w') : RdBytes w' w'.heap.size v bs := by
  obtain ⟨A, c, rfl, hc, hx⟩ := h.off (w' := w') (fun k hk => hb.block k hk)
  refine ⟨A, c, rfl, hc, fun hn => ?_⟩
  obtain ⟨b, o, rfl, hlt, hk⟩ := hx hn
  exact ⟨b, o, rfl, by have := hb.size; omega, hk⟩

end Go.Proofs.Ytfdbjoncadjhcaa
/-
  The arguments of FactsHas, FactsWith, FactsOf drawn.
-/
namespace Go.Proofs.Ytfdbjoncadjhcaa
open Go.RowKit

theorem OwnFacts.place {w : World} {lo hi c : Nat} {A : Option Addr} {fs : List LFact} (h : OwnFacts w lo hi (.slice A fs.length c) fs) {k : Nat} (hk : k < fs.length) :
    ∃ g A3 c3, A = some ⟨g, 0, none⟩ ∧ lo ≤ g ∧ g < hi ∧ w.cell? ⟨g, k * 2, none⟩ = some (.int .i64 fs[k].1) ∧ w.cell? ⟨g, k * 2 + 1, none⟩ = some (.slice A3 fs[k].2.length c3) ∧ OwnInts w lo hi (.slice A3 fs[k].2.length c3) fs[k].2 := by
  obtain ⟨av, ha, hr, hlt⟩ := h
  have hcells := @World.ownsRow.cells w lo 26 2 _ fs.length (flat fs av) hr
  have hl : av.length = fs.length := by simpa using ha.len
  have hb := hr.lt
  rcases hr.2 with ⟨e, e0⟩ | ⟨g, cap, cur, e, _⟩
  · omega
  · injection e with e1 _ _
    subst e1
    have h1 : OwnInts w lo hi (av[k]'(by omega)) fs[k].2 := by
      have := ha.own k (by simpa using hk) (by omega)
      simpa using this
    obtain ⟨A3, c3, e2⟩ := h1.form
    have d0 := hcells (g := g) rfl _ _ (flat_at fs av hl k hk (by omega)).1
    have d1 := hcells (g := g) rfl _ _ (flat_at fs av hl k hk (by omega)).2
    rw [Go.WideShapes.add_plain, Nat.zero_add] at d0 d1
    rw [e2] at d1
    exact ⟨g, A3, c3, rfl, (hb g rfl).1, hlt g rfl, d0, d1, e2 ▸ h1⟩

set_option maxHeartbeats 1000000 in
set_option maxRecDepth 100000 in
theorem l1Two_own (v : Value) (bs : List Nat) (w : World) (h : RdBytes w w.heap.size v bs) (hby : ∀ b ∈ bs, b < 256) (hn : bs.length ≤ 1073741824) :
    Calls Try.prog 77 #[v] w fun e w' => ∃ (A : Option Addr) (c : Nat) (fs : List LFact) (A2 : Option Addr) (c2 : Nat) (gs : List LFact), e = .returned (.tuple #[.slice A fs.length c, .slice A2 gs.length c2]) ∧ fs.length ≤ 6 ∧ tot fs ≤ 18 ∧ gs.length ≤ 6 ∧ tot gs ≤ 18 ∧
      OwnFacts w' w.heap.size w'.heap.size (.slice A fs.length c) fs ∧ OwnFacts w' w.heap.size w'.heap.size (.slice A2 gs.length c2) gs ∧ Below w.heap.size w w' := by
  have H := Lib.hid h
  clear h
  go_enter Try.func77, Try.ntmps77
  go_wp2_with (fail)
  refine (l40Open_any v bs _ H.out hby hn).mono ?_
  rintro e w1 ⟨rfl, hr1, B1⟩
  have HR := Lib.hid hr1
  have hz1 := hr1.lt
  clear hr1
  go_wp2_with (fail)
  refine (l1Arity_any w.heap.size (bs.take 2000) 0 3 _ HR.out (by omega) (by omega)).mono ?_
  rintro e w2 ⟨A2, c2, ar, rfl, hd⟩
  have hlen := hd.len
  have HI := Lib.hid (show OwnInts w2 w1.heap.size w2.heap.size (.slice A2 3 c2) ar from hd.ints)
  have HD := Lib.hid hd.rdr
  have HG := Lib.hid hd.range
  have B2 := B1.trans (hd.only.below (Nat.le_refl _) (by omega))
  have hz2 := hd.only.size
  clear hd
  go_wp2_with (fail)
  refine (l1Some_any w.heap.size (bs.take 2000) 3 6 w1.heap.size w2.heap.size _ ar w2 HD.out (by omega) HI.out (by omega) (Nat.le_refl _) HG.out (by omega) (by omega)).mono ?_
  rintro e w3 ⟨A3, c3, fs, q, rfl, hf, htf, hq, ho, hR, hO⟩
  have HF := Lib.hid ho
  have HR3 := Lib.hid hR
  have hz3 := hO.size
  have HI3 := Lib.hid (HI.out.offG hO (by omega))
  have B3 := B2.trans (hO.below (Nat.le_refl _) (by omega))
  clear ho hR hO HD
  go_wp2_with (fail)
  refine (l1Some_any w.heap.size (bs.take 2000) q 6 w1.heap.size w2.heap.size _ ar w3 HR3.out (by omega) HI3.out (by omega) hz3 HG.out (by omega) (by omega)).mono ?_
  rintro e w4 ⟨A4, c4, gs, q4, rfl, hg, htg, hq4, ho, hR, hO⟩
  have HF4 := Lib.hid ((HF.out.offG hO (by omega)).mono (show w.heap.size ≤ w2.heap.size by omega) hO.size)
  have HG4 := Lib.hid (ho.mono (show w.heap.size ≤ w3.heap.size by omega) (Nat.le_refl _))
  have B4 := Lib.hid (B3.trans (hO.below (Nat.le_refl _) (by omega)))
  clear ho hR hO B3 B2 B1
  go_wp2_with (fail)
  refine bodyPost_ret (v := .tuple #[.slice A3 fs.length c3, .slice A4 gs.length c4]) (by simp [results, Try.results77, go_sem]) rfl ?_
  exact ⟨A3, c3, fs, A4, c4, gs, rfl, hf, htf, hg, htg, HF4.out, HG4.out, B4.out⟩

/-- A call's list of facts and a fact. -/
def HasDrawn (w w' : World) (e : Ending) : Prop := ∃ (A : Option Addr) (c : Nat) (fs : List LFact) (A3 : Option Addr) (c3 : Nat) (f : LFact), e = .returned (.tuple #[.slice A fs.length c, .agg #[.int .i64 f.1, .slice A3 f.2.length c3]]) ∧ fs.length ≤ 6 ∧ tot fs ≤ 18 ∧ f.2.length ≤ 18 ∧
  OwnFacts w' w.heap.size w'.heap.size (.slice A fs.length c) fs ∧ OwnInts w' w.heap.size w'.heap.size (.slice A3 f.2.length c3) f.2 ∧ Below w.heap.size w w'
/-- The tape was asked: nothing else has changed. -/
theorem HasDrawn.drew {w W : World} {e : Ending} (h : HasDrawn w W e) : HasDrawn w W.drew e := by
  obtain ⟨A, c, fs, A3, c3, f, h0, h1, h2, h3, h4, h5, h6⟩ := h
  have hb : Below W.heap.size W W.drew := (Below.refl _ _).drew
  exact ⟨A, c, fs, A3, c3, f, h0, h1, h2, h3, h4.below hb (Nat.le_refl _), h5.below hb (Nat.le_refl _), bthen h6 hb⟩

/-- The result's block is filled: all that stands behind it is as it was. -/
theorem hasDone {w w3 W : World} {fs : List LFact} {f : LFact} {A A3 : Option Addr} {c c3 lo : Nat} (h : Blk w3 w.heap.size 26 #[.int .i64 0, .slice none 0 0]) (hb : Below w.heap.size w w3) (hlo : w.heap.size < lo)
    (hf : OwnFacts w3 lo w3.heap.size (.slice A fs.length c) fs) (hi : OwnInts w3 lo w3.heap.size (.slice A3 f.2.length c3) f.2) (h1 : fs.length ≤ 6) (h2 : tot fs ≤ 18) (h3 : f.2.length ≤ 18)
    (hW : W = (w3.setCell ⟨w.heap.size, 0, none⟩ (.int .i64 f.1)).setCell ⟨w.heap.size, 1, none⟩ (.slice A3 f.2.length c3)) :
    W.cell? ⟨w.heap.size, 0, none⟩ = some (.int .i64 f.1) ∧ W.cell? ⟨w.heap.size, 1, none⟩ = some (.slice A3 f.2.length c3) ∧ HasDrawn w W (.returned (.tuple #[.slice A fs.length c, .agg #[.int .i64 f.1, .slice A3 f.2.length c3]])) := by
  have hB : Blk W w.heap.size 26 #[.int .i64 f.1, .slice A3 f.2.length c3] := by rw [hW]; simpa using (h.set_ 0 (.int .i64 f.1)).set_ 1 (.slice A3 f.2.length c3)
  have hO : Only w.heap.size (w.heap.size + 1) w3 W := by
    rw [hW]
    exact ((Only.refl _ _ w3).setCell (p := ⟨w.heap.size, 0, none⟩) ⟨Nat.le_refl _, Nat.lt_succ_self _⟩ _).setCell (p := ⟨w.heap.size, 1, none⟩) ⟨Nat.le_refl _, Nat.lt_succ_self _⟩ _
  have hbW : Below w.heap.size w W := by
    rw [hW]
    exact (hb.setCell (Nat.le_refl _) _).setCell (Nat.le_refl _) _
  have hs := hO.size
  exact ⟨hB.cell 0, hB.cell 1, A, c, fs, A3, c3, f, rfl, h1, h2, h3, (hf.offG hO hlo).mono (Nat.le_of_lt hlo) hs, (hi.offG hO hlo).mono (Nat.le_of_lt hlo) hs, hbW⟩

set_option maxHeartbeats 2000000 in
set_option maxRecDepth 100000 in
theorem drawFactsHas_any (v : Value) (bs : List Nat) (w : World) (h : RdBytes w w.heap.size v bs) (hby : ∀ b ∈ bs, b < 256) (hn : bs.length ≤ 1073741824) :
    Calls Try.prog 74 #[v] w fun e w' => HasDrawn w w' e := by
  obtain ⟨i0, hi0, hz0, hz1, hz2⟩ := info_parts Try.infoInt
  have H := Lib.hid h
  obtain ⟨Av, cv, rfl, hcv, _⟩ := h
  go_enter Try.func74, Try.ntmps74
  go_wp2_with (fail)
  refine (l1Two_own _ bs _ (H.out.on (below1 _ _)) hby hn).mono ?_
  rintro e w1 ⟨A, c, fs, A2, c2, gs, rfl, h1, h2, h3, h4, hf, hg, hb⟩
  have B1 := bthen (below1 _ _) hb
  have R1 : Blk w1 w.heap.size 26 #[.int .i64 0, .slice none 0 0] := (Blk.new w _ _).below hb (by simp)
  have hz : w.heap.size < w1.heap.size := R1.lt
  have HF := Lib.hid (show OwnFacts w1 (w.heap.size + 1) w1.heap.size (.slice A fs.length c) fs by simpa using hf)
  have HG := Lib.hid (show OwnFacts w1 (w.heap.size + 1) w1.heap.size (.slice A2 gs.length c2) gs by simpa using hg)
  have HB1 := Lib.hid B1
  have HR1 := Lib.hid R1
  clear hf hg hb B1 R1
  by_cases hca : 0 < gs.length ∧ bs.length % 3 = 0
  · obtain ⟨hg0, hm⟩ := hca
    have d1 : decide ((gs.length : Int) > 0) = true := decide_eq_true (by omega)
    have d2 : (((bs.length : Int) % 3) == 0) = true := by
      have : (bs.length : Int) % 3 = 0 := by omega
      rw [this]; rfl
    obtain ⟨g, A3, c3, rfl, hgl, hgh, k0, k1, o3⟩ := HG.out.place hg0
    have hln := len_le_tot gs 0 hg0
    obtain ⟨f, hfe⟩ : ∃ f, f = gs[0] := ⟨_, rfl⟩
    rw [← hfe] at k0 k1 o3 hln
    have e0 : w1.cell? ⟨g, 0, none⟩ = some (.int .i64 f.1) := by simpa using k0
    have e1 : w1.cell? ⟨g, 1, none⟩ = some (.slice A3 f.2.length c3) := by simpa using k1
    clear hfe k0 k1
    have E0 : w1.drew.cell? ⟨g, 0, none⟩ = some (.int .i64 f.1) := e0
    have E1 : w1.drew.cell? ⟨g, 1, none⟩ = some (.slice A3 f.2.length c3) := e1
    have r0 : w1.drew.cell? ⟨w.heap.size, 0, none⟩ = some (.int .i64 0) := HR1.out.cell 0
    have r1 : w1.drew.cell? ⟨w.heap.size, 1, none⟩ = some (.slice none 0 0) := HR1.out.cell 1
    have f0 : w1.drew.frozen? ⟨w.heap.size, 0, none⟩ = false := HR1.out.frozen 0
    have f1 : w1.drew.frozen? ⟨w.heap.size, 1, none⟩ = false := HR1.out.frozen 1
    have hD := hasDone (w := w) (w3 := w1) (fs := fs) (f := f) HR1.out HB1.out (Nat.lt_succ_self _) HF.out o3 h1 h2 (by omega) rfl
    have HD := Lib.hid hD
    clear hD o3
    have hgi : (0 : Int) < (gs.length : Int) := by omega
    have s0 : w1.cell? ⟨w.heap.size, 0, none⟩ = some (.int .i64 0) := HR1.out.cell 0
    have s1 : w1.cell? ⟨w.heap.size, 1, none⟩ = some (.slice none 0 0) := HR1.out.cell 1
    have t0 : w1.frozen? ⟨w.heap.size, 0, none⟩ = false := HR1.out.frozen 0
    have t1 : w1.frozen? ⟨w.heap.size, 1, none⟩ = false := HR1.out.frozen 1
    go_upto_region 3 with fail
    go_region_law (fail)
    obtain ⟨W, hW⟩ : ∃ W, W = (w1.setCell ⟨w.heap.size, 0, none⟩ (.int .i64 f.1)).setCell ⟨w.heap.size, 1, none⟩ (.slice A3 f.2.length c3) := ⟨_, rfl⟩
    rw [← hW] at HD ⊢
    obtain ⟨c0, c1, hd⟩ := HD.out
    clear HD
    go_wp2_with fail
    refine bodyPost_ret (v := .tuple #[.slice A fs.length c, .agg #[.int .i64 f.1, .slice A3 f.2.length c3]]) (by simp [results, Try.results74, go_sem, c0, c1]) rfl hd.drew
  · by_cases hf0 : 0 < fs.length
    · rcases Nat.eq_zero_or_pos gs.length with hg0 | hg0
      · have hfd : decide ((fs.length : Int) > 0) = true := decide_eq_true (by omega)
        have d1 : decide ((gs.length : Int) > 0) = false := decide_eq_false (by omega)
        obtain ⟨g, A3, c3, rfl, hgl, hgh, k0, k1, o3⟩ := HF.out.place (k := fs.length - 1) (by omega)
        have hln := len_le_tot fs (fs.length - 1) (by omega)
        obtain ⟨f, hfe⟩ : ∃ f, f = fs[fs.length - 1]'(by omega) := ⟨_, rfl⟩
        rw [← hfe] at k0 k1 o3 hln
        obtain ⟨k, hk⟩ : ∃ k, k = fs.length - 1 := ⟨_, rfl⟩
        rw [← hk] at k0 k1
        have hki : (fs.length : Int) - 1 = (k : Int) := by omega
        have hkl : (k : Int) < (fs.length : Int) := by omega
        have hkn : k < fs.length := by omega
        have CC := Lib.hid (l1Copy_any (.agg #[.int .i64 f.1, .slice A3 f.2.length c3]) f w1 ⟨_, rfl, o3.rd⟩ (by omega))
        clear hfe o3 hk
        go_wp2_with (first
          | (go_at_call 76; refine CC.out.mono ?_; rintro e w2 ⟨A4, c4, rfl, o4, b4⟩
             have s0 : w2.cell? ⟨w.heap.size, 0, none⟩ = some (.int .i64 0) := (HR1.out.below b4 hz).cell 0
             have s1 : w2.cell? ⟨w.heap.size, 1, none⟩ = some (.slice none 0 0) := (HR1.out.below b4 hz).cell 1
             have t0 : w2.frozen? ⟨w.heap.size, 0, none⟩ = false := (HR1.out.below b4 hz).frozen 0
             have t1 : w2.frozen? ⟨w.heap.size, 1, none⟩ = false := (HR1.out.below b4 hz).frozen 1
             have H4 := Lib.hid (And.intro o4 b4)
             clear o4 b4))
        obtain ⟨o4, b4⟩ := H4.out
        obtain ⟨W, hW⟩ : ∃ W, W = (w2.setCell ⟨w.heap.size, 0, none⟩ (.int .i64 f.1)).setCell ⟨w.heap.size, 1, none⟩ (.slice A4 f.2.length c4) := ⟨_, rfl⟩
        obtain ⟨c0, c1, hd⟩ := hasDone (w := w) (w3 := w2) (fs := fs) (f := f) (HR1.out.below b4 hz) (bthen HB1.out b4) (Nat.lt_succ_self _) ((HF.out.below b4 (Nat.le_refl _)).mono (Nat.le_refl _) b4.size) (o4.mono (by omega) (Nat.le_refl _)) h1 h2 (by omega) hW
        rw [← hW]
        refine bodyPost_ret (v := .tuple #[.slice (some ⟨g, 0, none⟩) fs.length c, .agg #[.int .i64 f.1, .slice A4 f.2.length c4]]) (by simp [results, Try.results74, go_sem, c0, c1]) rfl hd
      · have hfd : decide ((fs.length : Int) > 0) = true := decide_eq_true (by omega)
        have d1 : decide ((gs.length : Int) > 0) = true := decide_eq_true (by omega)
        have d2 : (((bs.length : Int) % 3) == 0) = false := by
          have : (bs.length : Int) % 3 ≠ 0 := fun e => hca ⟨hg0, by omega⟩
          simpa using this
        obtain ⟨g, A3, c3, rfl, hgl, hgh, k0, k1, o3⟩ := HF.out.place (k := fs.length - 1) (by omega)
        have hln := len_le_tot fs (fs.length - 1) (by omega)
        obtain ⟨f, hfe⟩ : ∃ f, f = fs[fs.length - 1]'(by omega) := ⟨_, rfl⟩
        rw [← hfe] at k0 k1 o3 hln
        obtain ⟨k, hk⟩ : ∃ k, k = fs.length - 1 := ⟨_, rfl⟩
        rw [← hk] at k0 k1
        have hki : (fs.length : Int) - 1 = (k : Int) := by omega
        have hkl : (k : Int) < (fs.length : Int) := by omega
        have hkn : k < fs.length := by omega
        have CC := Lib.hid (l1Copy_any (.agg #[.int .i64 f.1, .slice A3 f.2.length c3]) f w1 ⟨_, rfl, o3.rd⟩ (by omega))
        clear hfe o3 hk
        go_wp2_with (first
          | (go_at_call 76; refine CC.out.mono ?_; rintro e w2 ⟨A4, c4, rfl, o4, b4⟩
             have s0 : w2.cell? ⟨w.heap.size, 0, none⟩ = some (.int .i64 0) := (HR1.out.below b4 hz).cell 0
             have s1 : w2.cell? ⟨w.heap.size, 1, none⟩ = some (.slice none 0 0) := (HR1.out.below b4 hz).cell 1
             have t0 : w2.frozen? ⟨w.heap.size, 0, none⟩ = false := (HR1.out.below b4 hz).frozen 0
             have t1 : w2.frozen? ⟨w.heap.size, 1, none⟩ = false := (HR1.out.below b4 hz).frozen 1
             have H4 := Lib.hid (And.intro o4 b4)
             clear o4 b4))
        obtain ⟨o4, b4⟩ := H4.out
        obtain ⟨W, hW⟩ : ∃ W, W = (w2.setCell ⟨w.heap.size, 0, none⟩ (.int .i64 f.1)).setCell ⟨w.heap.size, 1, none⟩ (.slice A4 f.2.length c4) := ⟨_, rfl⟩
        obtain ⟨c0, c1, hd⟩ := hasDone (w := w) (w3 := w2) (fs := fs) (f := f) (HR1.out.below b4 hz) (bthen HB1.out b4) (Nat.lt_succ_self _) ((HF.out.below b4 (Nat.le_refl _)).mono (Nat.le_refl _) b4.size) (o4.mono (by omega) (Nat.le_refl _)) h1 h2 (by omega) hW
        rw [← hW]
        refine bodyPost_ret (v := .tuple #[.slice (some ⟨g, 0, none⟩) fs.length c, .agg #[.int .i64 f.1, .slice A4 f.2.length c4]]) (by simp [results, Try.results74, go_sem, c0, c1]) rfl hd
    · rcases Nat.eq_zero_or_pos gs.length with hg0 | hg0
      · have d1 : decide ((gs.length : Int) > 0) = false := decide_eq_false (by omega)
        have hfd : decide ((fs.length : Int) > 0) = false := decide_eq_false (by omega)
        obtain ⟨w2, hw2⟩ : ∃ w2, w2 = w1.alloc (Obj.cells #[Value.int IntKind.i64 0, Value.int IntKind.i64 1] 3) := ⟨_, rfl⟩
        have b4 : Below w1.heap.size w1 w2 := by rw [hw2]; exact below1 _ _
        have o4 : OwnInts w2 w1.heap.size w2.heap.size (.slice (some ⟨w1.heap.size, 0, none⟩) 2 2) [0, 1] := by
          rw [hw2]
          exact ⟨⟨rfl, .inr ⟨w1.heap.size, 2, _, rfl, Nat.le_refl _, heap_alloc_new w1 _, Nat.le_refl _, by decide, rfl, rfl⟩⟩, fun g hg => by simp [Value.ownBlock] at hg; subst hg; simp⟩
        have s0 : w1.cell? ⟨w.heap.size, 0, none⟩ = some (.int .i64 0) := HR1.out.cell 0
        have s1 : w1.cell? ⟨w.heap.size, 1, none⟩ = some (.slice none 0 0) := HR1.out.cell 1
        have t0 : w1.frozen? ⟨w.heap.size, 0, none⟩ = false := HR1.out.frozen 0
        have t1 : w1.frozen? ⟨w.heap.size, 1, none⟩ = false := HR1.out.frozen 1
        have H4 := Lib.hid (And.intro o4 (And.intro b4 hw2))
        clear o4 b4 hw2
        go_wp2_with fail
        obtain ⟨o4, b4, hw2⟩ := H4.out
        obtain ⟨W, hW⟩ : ∃ W, W = (w2.setCell ⟨w.heap.size, 0, none⟩ (.int .i64 1)).setCell ⟨w.heap.size, 1, none⟩ (.slice (some ⟨w1.heap.size, 0, none⟩) 2 2) := ⟨_, rfl⟩
        obtain ⟨c0, c1, hd⟩ := hasDone (w := w) (w3 := w2) (fs := fs) (f := (1, [0, 1])) (HR1.out.below b4 hz) (bthen HB1.out b4) (Nat.lt_succ_self _) ((HF.out.below b4 (Nat.le_refl _)).mono (Nat.le_refl _) b4.size) (o4.mono (by omega) (Nat.le_refl _)) h1 h2 (by decide) hW
        have hWW : (((w1.setCell ⟨w.heap.size, 0, none⟩ (.int .i64 1)).setCell ⟨w.heap.size, 1, none⟩ (.slice (some ⟨w1.heap.size, 0, none⟩) 2 2)).alloc (Obj.cells #[Value.int IntKind.i64 0, Value.int IntKind.i64 1] 3)) = W := by
          rw [hW, hw2]
          simp [go_sem, hz]
        rw [hWW]
        refine bodyPost_ret (v := .tuple #[.slice A fs.length c, .agg #[.int .i64 1, .slice (some ⟨w1.heap.size, 0, none⟩) 2 2]]) (by simp [results, Try.results74, go_sem, c0, c1]) rfl hd
      · have d1 : decide ((gs.length : Int) > 0) = true := decide_eq_true (by omega)
        have d2 : (((bs.length : Int) % 3) == 0) = false := by
          have : (bs.length : Int) % 3 ≠ 0 := fun e => hca ⟨hg0, by omega⟩
          simpa using this
        have hfd : decide ((fs.length : Int) > 0) = false := decide_eq_false (by omega)
        obtain ⟨w2, hw2⟩ : ∃ w2, w2 = w1.alloc (Obj.cells #[Value.int IntKind.i64 0, Value.int IntKind.i64 1] 3) := ⟨_, rfl⟩
        have b4 : Below w1.heap.size w1 w2 := by rw [hw2]; exact below1 _ _
        have o4 : OwnInts w2 w1.heap.size w2.heap.size (.slice (some ⟨w1.heap.size, 0, none⟩) 2 2) [0, 1] := by
          rw [hw2]
          exact ⟨⟨rfl, .inr ⟨w1.heap.size, 2, _, rfl, Nat.le_refl _, heap_alloc_new w1 _, Nat.le_refl _, by decide, rfl, rfl⟩⟩, fun g hg => by simp [Value.ownBlock] at hg; subst hg; simp⟩
        have s0 : w1.cell? ⟨w.heap.size, 0, none⟩ = some (.int .i64 0) := HR1.out.cell 0
        have s1 : w1.cell? ⟨w.heap.size, 1, none⟩ = some (.slice none 0 0) := HR1.out.cell 1
        have t0 : w1.frozen? ⟨w.heap.size, 0, none⟩ = false := HR1.out.frozen 0
        have t1 : w1.frozen? ⟨w.heap.size, 1, none⟩ = false := HR1.out.frozen 1
        have H4 := Lib.hid (And.intro o4 (And.intro b4 hw2))
        clear o4 b4 hw2
        go_wp2_with fail
        obtain ⟨o4, b4, hw2⟩ := H4.out
        obtain ⟨W, hW⟩ : ∃ W, W = (w2.setCell ⟨w.heap.size, 0, none⟩ (.int .i64 1)).setCell ⟨w.heap.size, 1, none⟩ (.slice (some ⟨w1.heap.size, 0, none⟩) 2 2) := ⟨_, rfl⟩
        obtain ⟨c0, c1, hd⟩ := hasDone (w := w) (w3 := w2) (fs := fs) (f := (1, [0, 1])) (HR1.out.below b4 hz) (bthen HB1.out b4) (Nat.lt_succ_self _) ((HF.out.below b4 (Nat.le_refl _)).mono (Nat.le_refl _) b4.size) (o4.mono (by omega) (Nat.le_refl _)) h1 h2 (by decide) hW
        have hWW : (((w1.setCell ⟨w.heap.size, 0, none⟩ (.int .i64 1)).setCell ⟨w.heap.size, 1, none⟩ (.slice (some ⟨w1.heap.size, 0, none⟩) 2 2)).alloc (Obj.cells #[Value.int IntKind.i64 0, Value.int IntKind.i64 1] 3)) = W := by
          rw [hW, hw2]
          simp [go_sem, hz]
        rw [hWW]
        refine bodyPost_ret (v := .tuple #[.slice A fs.length c, .agg #[.int .i64 1, .slice (some ⟨w1.heap.size, 0, none⟩) 2 2]]) (by simp [results, Try.results74, go_sem, c0, c1]) rfl hd

set_option maxHeartbeats 1000000 in
set_option maxRecDepth 100000 in
theorem drawFactsWith_any (v : Value) (bs : List Nat) (w : World) (h : RdBytes w w.heap.size v bs) (hby : ∀ b ∈ bs, b < 256) (hn : bs.length ≤ 1073741824) :
    Calls Try.prog 30 #[v] w fun e w' => HasDrawn w w' e := by
  have H := Lib.hid h
  obtain ⟨Av, cv, rfl, hcv, _⟩ := h
  go_enter Try.func30, Try.ntmps30
  have HD := Lib.hid (drawFactsHas_any _ bs _ (H.out.on (below1 w (Obj.cells #[Value.int IntKind.i64 0, Value.slice none 0 0] 26))) hby hn)
  go_wp2_with (first
    | (go_at_call 74; refine HD.out.mono ?_; rintro e w2 ⟨A, c, fs, A3, c3, f, rfl, h1, h2, h3, hf, hi, hb⟩
       have R2 : Blk w2 w.heap.size 26 #[.int .i64 0, .slice none 0 0] := (Blk.new w _ _).below hb (by simp)
       have s0 : w2.cell? ⟨w.heap.size, 0, none⟩ = some (.int .i64 0) := R2.cell 0
       have s1 : w2.cell? ⟨w.heap.size, 1, none⟩ = some (.slice none 0 0) := R2.cell 1
       have t0 : w2.frozen? ⟨w.heap.size, 0, none⟩ = false := R2.frozen 0
       have t1 : w2.frozen? ⟨w.heap.size, 1, none⟩ = false := R2.frozen 1
       have H2 := Lib.hid (And.intro R2 (And.intro hf (And.intro hi hb)))
       clear hf hi hb R2))
  obtain ⟨R2, hf, hi, hb⟩ := H2.out
  obtain ⟨W, hW⟩ : ∃ W, W = (w2.setCell ⟨w.heap.size, 0, none⟩ (.int .i64 f.1)).setCell ⟨w.heap.size, 1, none⟩ (.slice A3 f.2.length c3) := ⟨_, rfl⟩
  obtain ⟨c0, c1, hd⟩ := hasDone (w := w) (w3 := w2) (fs := fs) (f := f) R2 (bthen (below1 _ _) hb) (Nat.lt_succ_self _) (by simpa using hf) (by simpa using hi) h1 h2 h3 hW
  rw [← hW]
  refine bodyPost_ret (v := .tuple #[.slice A fs.length c, .agg #[.int .i64 f.1, .slice A3 f.2.length c3]]) (by simp [results, Try.results30, go_sem, c0, c1]) rfl hd

set_option maxHeartbeats 1000000 in
set_option maxRecDepth 100000 in
theorem drawFactsOf_any (v : Value) (bs : List Nat) (w : World) (h : RdBytes w w.heap.size v bs) (hby : ∀ b ∈ bs, b < 256) (hn : bs.length ≤ 1073741824) :
    Calls Try.prog 35 #[v] w fun e w' => ∃ (A : Option Addr) (c : Nat) (fs : List LFact) (p : Int), e = .returned (.tuple #[.slice A fs.length c, .int .i64 p]) ∧ fs.length ≤ 6 ∧ tot fs ≤ 18 ∧ RdFacts w' w'.heap.size (.slice A fs.length c) fs ∧ Below w.heap.size w w' := by
  have H := Lib.hid h
  obtain ⟨Av, cv, rfl, hcv, _⟩ := h
  go_enter Try.func35, Try.ntmps35
  go_wp2_with (fail)
  refine (l1Two_any _ bs _ H.out hby hn).mono ?_
  rintro e w1 ⟨A, c, fs, A2, c2, gs, rfl, h1, h2, h3, h4, h5, h6, h7⟩
  have HX := Lib.hid (And.intro h5 h7)
  clear h5 h6 h7
  go_wp2_with (fail)
  refine bodyPost_ret (v := .tuple #[.slice A fs.length c, .int .i64 ((bs.length : Int) % 5 - 1)]) (by simp [results, Try.results35, go_sem]) rfl ?_
  exact ⟨A, c, fs, _, rfl, h1, h2, HX.out.1, HX.out.2⟩

end Go.Proofs.Ytfdbjoncadjhcaa
/-
  The walks of FactsOf: the program's and the specification's.
-/
namespace Go.Proofs.Ytfdbjoncadjhcaa
open Go.RowKit

def factsOf (fs : List LFact) (p : Int) : List LFact := fs.filter fun f => f.1 == p
theorem factsOf_yes {fs : List LFact} {p : Int} {k : Nat} (h : k < fs.length) (e : fs[k].1 = p) : factsOf (fs.take (k + 1)) p = factsOf (fs.take k) p ++ [fs[k]] := by
  unfold factsOf
  rw [take_snoc fs k h, List.filter_append]
  congr 1
  simp [e]
theorem factsOf_no {fs : List LFact} {p : Int} {k : Nat} (h : k < fs.length) (e : fs[k].1 ≠ p) : factsOf (fs.take (k + 1)) p = factsOf (fs.take k) p := by
  unfold factsOf
  rw [take_snoc fs k h, List.filter_append, List.filter_cons_of_neg (by simpa using e)]
  simp
theorem factsOf_length (fs : List LFact) (p : Int) (k : Nat) : (factsOf (fs.take k) p).length ≤ k := by
  have h1 := List.length_filter_le (fun f : LFact => f.1 == p) (fs.take k)
  have h2 : (fs.take k).length ≤ k := by rw [List.length_take]; omega
  unfold factsOf
  omega

set_option maxHeartbeats 1000000 in
set_option maxRecDepth 100000 in
theorem specFactsOf_any (v : Value) (fs : List LFact) (p : Int) (w : World) (h : RdFacts w w.heap.size v fs) (hn : fs.length ≤ 1048576) (ht : tot fs ≤ 1048576) :
    Calls Try.prog 37 #[v, .int .i64 p] w fun e w' => ∃ A' c', e = .returned (.slice A' (factsOf fs p).length c') ∧ OwnFacts w' w.heap.size w'.heap.size (.slice A' (factsOf fs p).length c') (factsOf fs p) ∧ Below w.heap.size w w' := by
  obtain ⟨i0, hi0, hz0, hz1, hz2⟩ := info_parts Try.infoFact
  have H := Lib.hid h
  obtain ⟨A, c, rfl, hc, _⟩ := h
  go_enter Try.func37, Try.ntmps37
  go_wp2_with (fail)
  go_loopw [5, 6] (fun o i wr => ∃ (k : Nat) (A' : Option Addr) (c' : Nat) (av : List Value), k ≤ fs.length ∧ i = .int .i64 k ∧ o = .slice A' (factsOf (fs.take k) p).length c' ∧ ColRel w wr (factsOf (fs.take k) p) A' c' av) (fun _ i _ => fs.length - (intOf i).toNat)
  case atStart => exact ⟨0, _, 0, [], Nat.zero_le _, rfl, by simp [factsOf], ColRel.empty w⟩
  case round =>
    obtain ⟨k, A', c', av, hk, rfl, rfl, hr⟩ := hrel
    by_cases hlt : k < fs.length
    · obtain ⟨b, o, A3, c3, rfl, hbB, k1, k2, k3⟩ := (H.out.on hr.below).get hlt
      have hln := len_le_tot fs k hlt
      have hgl := factsOf_length fs p k
      have K3 := Lib.hid (show RdFact wr wr.heap.size (.agg #[.int .i64 fs[k].1, .slice A3 fs[k].2.length c3]) fs[k] from ⟨_, rfl, k3⟩)
      clear k3
      by_cases he : fs[k].1 = p
      · have heb : (fs[k].1 == p) = true := by simp [he]
        have HS := Lib.hid (factsOf_yes hlt he)
        clear he
        go_wp2_with (fail)
        refine (l1Copy_any _ fs[k] _ K3.out (by omega)).mono ?_
        rintro e w2 ⟨A4, c4, rfl, ho4, hb4⟩
        have HP := Lib.hid hr
        have hz5 := hb4.size
        go_wp2_with (at_builtin; refine wpList_append_lies _ rfl (.tmp 21) (.tmp 27) 39 rfl w.heap.size 26 i0 (.agg #[.int .i64 0, .slice none 0 0]) 2 32 Try.underlying39 hi0 hz0 hz1 hz2 rfl (by decide) (.slice A' (factsOf (fs.take k) p).length c') (factsOf (fs.take k) p).length (flat (factsOf (fs.take k) p) av) rfl ?c1 ⟨w2.heap.size, 0, none⟩ 1 1 [.int .i64 fs[k].1, .slice A4 fs[k].2.length c4] rfl rfl (news2 _ _ _ _) ?c2 (by omega) (by unfold maxLen; omega) (by omega) ?c3 _ rfl ?_)
        case c1 => exact (ownsRow_below HP.out.own.row HP.out.own.lt hb4 (Nat.le_refl _)).alloc _
        case c2 => intro u hu; simp at hu; rcases hu with rfl | rfl <;> rfl
        case c3 => have := HP.out.below.size; simp; omega
        intro g cap w4 hown hg _ _
        obtain ⟨av', hcol, hlen⟩ := HP.out.push HS.out hb4 ho4 hg hown
        rw [hlen]
        have HC := Lib.hid hcol
        clear hcol hlen hown hg hr
        go_wp2_with (fail)
        go_roundw
        case rel => exact ⟨k + 1, _, _, _, by omega, by go_num, rfl, HC.out⟩
        case measure => simp [intOf]; omega
      · have heb : (fs[k].1 == p) = false := by simp [he]
        have HS := Lib.hid (factsOf_no hlt he)
        have HP := Lib.hid hr
        clear he hr
        go_wp2_with (fail)
        go_roundw
        case rel => exact ⟨k + 1, _, _, _, by omega, by go_num, by rw [HS.out], by rw [HS.out]; exact HP.out⟩
        case measure => simp [intOf]; omega
    · have hkn : k = fs.length := by omega
      have HO := Lib.hid (show OwnFacts wr w.heap.size wr.heap.size (.slice A' (factsOf fs p).length c') (factsOf fs p) ∧ factsOf (fs.take k) p = factsOf fs p by
        have e : fs.take k = fs := by rw [hkn, List.take_length]
        have := hr.own.own
        rw [e] at this ⊢
        exact ⟨this, rfl⟩)
      have hbe := hr.below
      rw [HO.out.2]
      clear hkn hr
      go_wp2_with (fail)
      go_ret
      exact ⟨_, _, rfl, HO.out.1, hbe⟩

end Go.Proofs.Ytfdbjoncadjhcaa
/-
  What FactsWith and FactsOf leave, plain mathematics.
-/
namespace Go.Proofs.Ytfdbjoncadjhcaa
open Go.RowKit

theorem withStep_mem (f : LFact) : ∀ (l : List LFact) (out : List LFact) (b : Bool), (b = true → f ∈ out) → ∀ x, x ∈ endW f (l.foldl (withStep f) (out, b)) ↔ x ∈ out ∨ x ∈ l ∨ x = f
  | [], out, b, hb, x => by
    cases b
    · simp [endW]
    · have := hb rfl
      simp only [List.foldl_nil, endW, if_true, List.not_mem_nil, false_or]
      constructor
      · exact .inl
      · rintro (h | rfl) <;> assumption
  | g :: l, out, b, hb, x => by
    rw [List.foldl_cons]
    have e : withStep f (out, b) g = ((withStep f (out, b) g).1, (withStep f (out, b) g).2) := rfl
    rw [e, withStep_mem f l _ _ ?_ x]
    · unfold withStep
      cases b
      · rcases Int.lt_trichotomy (factOrder f g) 0 with h1 | h1 | h1
        · simp [show factOrder f g ≤ 0 by omega, show factOrder f g ≠ 0 by omega]
          grind
        · have e2 := order_eq h1
          subst e2
          simp [order_refl]
          grind
        · simp [show ¬ factOrder f g ≤ 0 by omega, show factOrder f g ≠ 0 by omega]
          grind
      · have hf := hb rfl
        by_cases h1 : factOrder f g = 0
        · have e2 := order_eq h1
          subst e2
          simp [order_refl]
          grind
        · simp [h1]
          grind
    · intro hb2
      unfold withStep at hb2 ⊢
      cases b
      · have h1 : factOrder f g ≤ 0 := by simpa using hb2
        simp [h1]
      · exact List.mem_append_left _ (by simpa using hb rfl)
theorem factsWith_mem (fs : List LFact) (f x : LFact) : x ∈ factsWith fs f ↔ x ∈ fs ∨ x = f := by
  have := withStep_mem f fs [] false (by simp) x
  unfold endW at this
  unfold factsWith withTo
  rw [List.take_length]
  simpa using this
theorem has_mem (ys : List LFact) (f : LFact) : factsHas ys f = decide (f ∈ ys) := by
  unfold factsHas
  by_cases h : f ∈ ys
  · rw [decide_eq_true h]
    exact List.any_eq_true.2 ⟨f, h, by rw [order_refl]; rfl⟩
  · rw [decide_eq_false h]
    refine List.any_eq_false.2 fun g hg e => h ?_
    have e0 : factOrder g f = 0 := by simpa using e
    rw [← order_eq e0]
    exact hg
theorem with_has_new (fs : List LFact) (f : LFact) : factsHas (factsWith fs f) f = true := by
  rw [has_mem]
  exact decide_eq_true ((factsWith_mem fs f f).2 (.inr rfl))
theorem with_has_old (fs : List LFact) (f : LFact) {k : Nat} (h : k < fs.length) : factsHas (factsWith fs f) fs[k] = true := by
  rw [has_mem]
  exact decide_eq_true ((factsWith_mem fs f _).2 (.inl (List.getElem_mem h)))
theorem factsOf_few (fs : List LFact) (p : Int) : (factsOf fs p).length ≤ fs.length ∧ tot (factsOf fs p) ≤ tot fs := by
  refine ⟨List.length_filter_le _ _, ?_⟩
  unfold factsOf
  induction fs with
  | nil => simp
  | cons g fs ih =>
    rw [List.filter_cons, tot_cons]
    split
    · rw [tot_cons]; omega
    · omega

end Go.Proofs.Ytfdbjoncadjhcaa
/-
  The walk of the program's FactsWith.
-/
namespace Go.Proofs.Ytfdbjoncadjhcaa
open Go.RowKit

theorem ColRel.room (w : World) (cs : Array Value) (n : Nat) (hs : cs.size = n * 2) (hm : n ≤ maxLen) : ColRel w (w.alloc (.cells cs 26)) [] (some ⟨w.heap.size, 0, none⟩) n [] :=
  ⟨below1 _ _, ⟨.nil, World.ownsRow_made w cs n (Nat.le_refl _) hm hs, fun g hg => by simp [Value.ownBlock] at hg; subst hg; simp⟩⟩

set_option maxHeartbeats 2000000 in
set_option maxRecDepth 100000 in
theorem implFactsWith_any (v v2 : Value) (fs : List LFact) (f : LFact) (w : World) (h : RdFacts w w.heap.size v fs) (h2 : RdFact w w.heap.size v2 f) (hn : fs.length ≤ 1048576) (ht : tot fs ≤ 1048576) (hf : f.2.length ≤ 1048576) :
    Calls Try.prog 31 #[v, v2] w fun e w' => ∃ A' c', e = .returned (.slice A' (factsWith fs f).length c') ∧ OwnFacts w' w.heap.size w'.heap.size (.slice A' (factsWith fs f).length c') (factsWith fs f) ∧ Below w.heap.size w w' := by
  have H := Lib.hid h
  have H2 := Lib.hid h2
  obtain ⟨A, c, rfl, hc, _⟩ := h
  obtain ⟨a, rfl, A2, c2, rfl, hc2, _⟩ := h2
  obtain ⟨i0, hi0, hz0, hz1, hz2⟩ := info_parts Try.infoFact
  have hmk : ∀ W : World, (Instr.makeSlice 39 (.int .i64 0) (.int .i64 ((fs.length : Int) + 1))).run Try.prog W = .ok (.slice (some ⟨W.heap.size, 0, none⟩) 0 (fs.length + 1)) (W.alloc (.cells (madeCells #[.int .i64 0, .slice none 0 0] ((fs.length + 1) * 2)) 26)) := fun W => by
    have := run_make_rowN (P := Try.prog) 39 26 i0 (.agg #[.int .i64 0, .slice none 0 0]) Try.underlying39 hi0 hz0 .i64 .i64 0 (fs.length + 1) (Nat.zero_le _) (by rw [hz2]; omega) (by omega) W
    rw [hz1] at this
    simpa [Value.cells] using this
  go_enter Try.func31, Try.ntmps31
  go_wp2_with (fail)
  obtain ⟨w1, hw1⟩ : ∃ w1, w1 = (w.alloc (Obj.cells #[Value.int IntKind.i64 f.1, Value.slice A2 f.2.length c2] 26)) := ⟨_, rfl⟩
  have B1 : Below w.heap.size w w1 := by rw [hw1]; exact below1 _ _
  have k0 : Blk w1 w.heap.size 26 #[.int .i64 f.1, .slice A2 f.2.length c2] := by rw [hw1]; exact Blk.new w _ _
  have hzz : w.heap.size + 1 = w1.heap.size := by rw [hw1]; simp
  rw [← hw1]
  clear hw1
  simp only [hzz]
  have HZ := Lib.hid hzz
  clear hzz hmk
  go_loopw [5, 6, 8, 9, 16] (fun o p _ _ i wr => ∃ (k : Nat) (st : List LFact × Bool) (A' : Option Addr) (c' : Nat) (av : List Value), k ≤ fs.length ∧ i = .int .i64 k ∧ p = .bool st.2 ∧ o = .slice A' st.1.length c' ∧ WithRel w1 wr fs f k st A' c' av) (fun _ _ _ _ i _ => fs.length - (intOf i).toNat)
  case atStart => exact ⟨0, ([], false), _, _, [], Nat.zero_le _, rfl, rfl, rfl, ColRel.room w1 _ (fs.length + 1) (size_madeCells _ _) (by unfold maxLen; omega), rfl⟩
  case round =>
    obtain ⟨k, ⟨gs, pb⟩, A', c', av, hk, rfl, rfl, rfl, hcol, hst⟩ := hrel
    have hbd := withTo_bound fs f k hk
    rw [← hst] at hbd
    have hgl : gs.length ≤ 2097152 := by have := hbd.1; simp only at this; split at this <;> omega
    clear hbd
    have HST := Lib.hid hst
    clear hst
    by_cases hlt : k < fs.length
    · obtain ⟨b, o, A3, c3, rfl, hbB, k1, k2, k3⟩ := H.out.get hlt
      have hln := len_le_tot fs k hlt
      have K3 := Lib.hid (show RdFact w w.heap.size (.agg #[.int .i64 fs[k].1, .slice A3 fs[k].2.length c3]) fs[k] from ⟨_, rfl, k3⟩)
      have hB := bthen B1 hcol.below
      have m1 : wr.cell? ⟨b, o + k * 2, none⟩ = some (.int .i64 fs[k].1) := (hB.cell (p := ⟨b, o + k * 2, none⟩) hbB).trans k1
      have m2 : wr.cell? ⟨b, o + k * 2 + 1, none⟩ = some (.slice A3 fs[k].2.length c3) := (hB.cell (p := ⟨b, o + k * 2 + 1, none⟩) hbB).trans k2
      have n1 : ∀ O, (wr.alloc O).cell? ⟨w.heap.size, 0, none⟩ = some (.int .i64 f.1) := fun O => (((k0.below hcol.below k0.lt).alloc O).cell 0)
      have n2 : ∀ O, (wr.alloc O).cell? ⟨w.heap.size, 1, none⟩ = some (.slice A2 f.2.length c2) := fun O => (((k0.below hcol.below k0.lt).alloc O).cell 1)
      obtain ⟨q, hq⟩ : ∃ q, q = factOrder f fs[k] := ⟨_, rfl⟩
      have HQ := Lib.hid hq
      have hlt0 := hcol.own.lt
      have HL := Lib.hid hlt0
      have HC := Lib.hid hcol
      clear hcol k1 k2 k3 hlt0 hq
      go_wp2_with (fail)
      refine (implFactOrder_any _ _ f fs[k] _ (H2.out.on (bthen hB (below1 _ _))) (K3.out.on (bthen hB (below1 _ _))) hf (by omega)).mono ?_
      rw [← HQ.out]
      rintro e w2 ⟨rfl, hb2⟩
      have x2 : Blk w2 wr.heap.size 26 #[.int .i64 fs[k].1, .slice A3 fs[k].2.length c3] := (Blk.new wr _ _).below hb2 (by simp)
      have hwr2 := bthen (below1 _ _) hb2
      have HC2 := Lib.hid (HC.out.on hwr2)
      have P2 := HC2.out.below
      have hB2 := bthen B1 P2
      clear m1 m2 n1 n2
      have n1 : w2.cell? ⟨w.heap.size, 0, none⟩ = some (.int .i64 f.1) := (k0.below P2 k0.lt).cell 0
      have n2 : w2.cell? ⟨w.heap.size, 1, none⟩ = some (.slice A2 f.2.length c2) := (k0.below P2 k0.lt).cell 1
      have m1 : w2.cell? ⟨wr.heap.size, 0, none⟩ = some (.int .i64 fs[k].1) := x2.cell 0
      have m2 : w2.cell? ⟨wr.heap.size, 1, none⟩ = some (.slice A3 fs[k].2.length c3) := x2.cell 1
      cases pb with
      | true =>
        by_cases hq0 : q = 0
        · have t1 : (q != 0) = false := by simp [hq0]
          have HS := Lib.hid (show ((gs, true) : List LFact × Bool) = withStep f (gs, true) fs[k] by simp [withStep, ← HQ.out, hq0])
          clear hq0
          go_wp2_with (fail)
          go_roundw
          case rel => exact ⟨k + 1, (gs, true), _, _, _, by omega, by go_num, rfl, rfl, ⟨HC2.out, With.next HST.out hlt HS.out⟩⟩
          case measure => simp [intOf]; omega
        · have t1 : (q != 0) = true := by simp [hq0]
          have HS := Lib.hid (show ((gs ++ [fs[k]], true) : List LFact × Bool) = withStep f (gs, true) fs[k] by simp [withStep, ← HQ.out, hq0])
          clear hq0
          go_wp2_with (fail)
          refine (copyFact_any _ fs[k] _ (K3.out.on hB2) (by omega)).mono ?_
          rintro e w3 ⟨A4, c4, rfl, ho4, hb4⟩
          go_wp2_with (at_builtin; refine wpList_push rfl (.tmp 36) (.tmp 39) rfl HC2.out hb4 ho4 rfl rfl rfl (by omega) ?_; intro g4 cap4 w4 av4 hcol4 hgr4; have HC4 := Lib.hid hcol4; clear hcol4 hgr4)
          go_roundw
          case rel => exact ⟨k + 1, (gs ++ [fs[k]], true), _, _, _, by omega, by go_num, rfl, by simp, ⟨HC4.out, With.next HST.out hlt HS.out⟩⟩
          case measure => simp [intOf]; omega
      | false =>
        rcases Int.lt_trichotomy q 0 with hq0 | hq0 | hq0
        · have t1 : (q != 0) = true := by simp; omega
          have t2 : decide (q ≤ 0) = true := by simp; omega
          have HS := Lib.hid (show (((gs ++ [f]) ++ [fs[k]], true) : List LFact × Bool) = withStep f (gs, false) fs[k] by
            have e1 : q ≠ 0 := by omega
            have e2 : q ≤ 0 := by omega
            simp [withStep, ← HQ.out, e1, e2])
          clear hq0
          go_wp2_with (fail)
          refine (copyFact_any _ f _ (H2.out.on hB2) (by omega)).mono ?_
          rintro e w3 ⟨A4, c4, rfl, ho4, hb4⟩
          have x3 := x2.below hb4 x2.lt
          clear m1 m2
          go_wp2_with (at_builtin; refine wpList_push rfl (.tmp 29) (.tmp 32) rfl HC2.out hb4 ho4 rfl rfl rfl (by omega) ?_; intro g4 cap4 w4 av4 hcol4 hgr4; have x4 : Blk w4 wr.heap.size 26 #[.int .i64 fs[k].1, .slice A3 fs[k].2.length c3] := (hgr4.block _ x3.lt (fun e => Nat.lt_irrefl _ (HL.out _ e.symm))).trans x3; have m3 : w4.cell? ⟨wr.heap.size, 0, none⟩ = some (.int .i64 fs[k].1) := x4.cell 0; have m4 : w4.cell? ⟨wr.heap.size, 1, none⟩ = some (.slice A3 fs[k].2.length c3) := x4.cell 1; have HC4 := Lib.hid hcol4; clear hcol4 hgr4)
          refine (copyFact_any _ fs[k] _ (K3.out.on (bthen B1 HC4.out.below)) (by omega)).mono ?_
          rintro e w5 ⟨A6, c6, rfl, ho6, hb6⟩
          go_wp2_with (at_builtin; refine wpList_push rfl (.tmp 36) (.tmp 39) rfl HC4.out hb6 ho6 (by simp) rfl rfl (by simp; omega) ?_; intro g6 cap6 w6 av6 hcol6 hgr6; have HC6 := Lib.hid hcol6; clear hcol6 hgr6)
          go_roundw
          case rel => exact ⟨k + 1, ((gs ++ [f]) ++ [fs[k]], true), _, _, _, by omega, by go_num, rfl, by simp, ⟨HC6.out, With.next HST.out hlt HS.out⟩⟩
          case measure => simp [intOf]; omega
        · have t1 : (q != 0) = false := by simp [hq0]
          have t2 : decide (q ≤ 0) = true := by simp; omega
          have HS := Lib.hid (show ((gs ++ [f], true) : List LFact × Bool) = withStep f (gs, false) fs[k] by simp [withStep, ← HQ.out, hq0])
          clear hq0
          go_wp2_with (fail)
          refine (copyFact_any _ f _ (H2.out.on hB2) (by omega)).mono ?_
          rintro e w3 ⟨A4, c4, rfl, ho4, hb4⟩
          go_wp2_with (at_builtin; refine wpList_push rfl (.tmp 29) (.tmp 32) rfl HC2.out hb4 ho4 rfl rfl rfl (by omega) ?_; intro g4 cap4 w4 av4 hcol4 hgr4; have HC4 := Lib.hid hcol4; clear hcol4 hgr4)
          go_roundw
          case rel => exact ⟨k + 1, (gs ++ [f], true), _, _, _, by omega, by go_num, rfl, by simp, ⟨HC4.out, With.next HST.out hlt HS.out⟩⟩
          case measure => simp [intOf]; omega
        · have t1 : (q != 0) = true := by simp; omega
          have t2 : decide (q ≤ 0) = false := by simp; omega
          have HS := Lib.hid (show ((gs ++ [fs[k]], false) : List LFact × Bool) = withStep f (gs, false) fs[k] by
            have e1 : q ≠ 0 := by omega
            have e2 : ¬ q ≤ 0 := by omega
            simp [withStep, ← HQ.out, e1, e2])
          clear hq0
          go_wp2_with (fail)
          refine (copyFact_any _ fs[k] _ (K3.out.on hB2) (by omega)).mono ?_
          rintro e w3 ⟨A4, c4, rfl, ho4, hb4⟩
          go_wp2_with (at_builtin; refine wpList_push rfl (.tmp 36) (.tmp 39) rfl HC2.out hb4 ho4 rfl rfl rfl (by omega) ?_; intro g4 cap4 w4 av4 hcol4 hgr4; have HC4 := Lib.hid hcol4; clear hcol4 hgr4)
          go_roundw
          case rel => exact ⟨k + 1, (gs ++ [fs[k]], false), _, _, _, by omega, by go_num, rfl, by simp, ⟨HC4.out, With.next HST.out hlt HS.out⟩⟩
          case measure => simp [intOf]; omega
    · have hkn : fs.length = k := by omega
      have HB := Lib.hid (bthen B1 hcol.below)
      have hz1 : w.heap.size ≤ w1.heap.size := B1.size
      have n1 : wr.cell? ⟨w.heap.size, 0, none⟩ = some (.int .i64 f.1) := (k0.below hcol.below k0.lt).cell 0
      have n2 : wr.cell? ⟨w.heap.size, 1, none⟩ = some (.slice A2 f.2.length c2) := (k0.below hcol.below k0.lt).cell 1
      have HC := Lib.hid hcol
      cases pb with
      | true =>
        have HE := Lib.hid (show factsWith fs f = gs by unfold factsWith; rw [hkn, ← HST.out]; rfl)
        clear hcol hkn
        go_wp2_with (fail)
        go_ret
        rw [HE.out]
        exact ⟨_, _, rfl, HC.out.own.own.mono hz1 (Nat.le_refl _), HB.out⟩
      | false =>
        have HE := Lib.hid (show factsWith fs f = gs ++ [f] by unfold factsWith; rw [hkn, ← HST.out]; rfl)
        clear hcol hkn
        go_wp2_with (fail)
        refine (copyFact_any _ f _ (H2.out.on HB.out) (by omega)).mono ?_
        rintro e w3 ⟨A4, c4, rfl, ho4, hb4⟩
        go_wp2_with (at_builtin; refine wpList_push rfl (.tmp 44) (.tmp 47) rfl HC.out hb4 ho4 rfl rfl rfl (by omega) ?_; intro g4 cap4 w4 av4 hcol4 hgr4; have HC4 := Lib.hid hcol4; clear hcol4 hgr4)
        go_ret
        rw [HE.out]
        exact ⟨some ⟨g4, 0, none⟩, cap4, by simp, HC4.out.own.own.mono hz1 (Nat.le_refl _), bthen B1 HC4.out.below⟩

end Go.Proofs.Ytfdbjoncadjhcaa
/-
  The walk of the program's FactsOf.
-/
namespace Go.Proofs.Ytfdbjoncadjhcaa
open Go.RowKit

set_option maxHeartbeats 1000000 in
set_option maxRecDepth 100000 in
theorem implFactsOf_any (v : Value) (fs : List LFact) (p : Int) (w : World) (h : RdFacts w w.heap.size v fs) (hn : fs.length ≤ 1048576) (ht : tot fs ≤ 1048576) :
    Calls Try.prog 36 #[v, .int .i64 p] w fun e w' => ∃ A' c', e = .returned (.slice A' (factsOf fs p).length c') ∧ OwnFacts w' w.heap.size w'.heap.size (.slice A' (factsOf fs p).length c') (factsOf fs p) ∧ Below w.heap.size w w' := by
  obtain ⟨i0, hi0, hz0, hz1, hz2⟩ := info_parts Try.infoFact
  have H := Lib.hid h
  obtain ⟨A, c, rfl, hc, _⟩ := h
  go_enter Try.func36, Try.ntmps36
  go_wp2_with (fail)
  go_loopw [5, 7, 10] (fun o _ i wr => ∃ (k : Nat) (A' : Option Addr) (c' : Nat) (av : List Value), k ≤ fs.length ∧ i = .int .i64 k ∧ o = .slice A' (factsOf (fs.take k) p).length c' ∧ ColRel w wr (factsOf (fs.take k) p) A' c' av) (fun _ _ i _ => fs.length - (intOf i).toNat)
  case atStart => exact ⟨0, _, 0, [], Nat.zero_le _, rfl, by simp [factsOf], ColRel.nil w⟩
  case round =>
    obtain ⟨k, A', c', av, hk, rfl, rfl, hr⟩ := hrel
    by_cases hlt : k < fs.length
    · obtain ⟨b, o, A3, c3, rfl, hbB, k1, k2, k3⟩ := (H.out.on hr.below).get hlt
      have hln := len_le_tot fs k hlt
      have hgl := factsOf_length fs p k
      have K3 := Lib.hid (show RdFact wr wr.heap.size (.agg #[.int .i64 fs[k].1, .slice A3 fs[k].2.length c3]) fs[k] from ⟨_, rfl, k3⟩)
      clear k3
      have HP := Lib.hid (hr.on (below1 wr (Obj.cells #[Value.int IntKind.i64 fs[k].1, Value.slice A3 fs[k].2.length c3] 26)))
      clear hr
      by_cases he : fs[k].1 = p
      · have heb : (fs[k].1 == p) = true := by simp [he]
        have HS := Lib.hid (factsOf_yes hlt he)
        clear he
        go_wp2_with (fail)
        refine (copyFact_any _ fs[k] _ (K3.out.on (below1 _ _)) (by omega)).mono ?_
        rintro e w2 ⟨A4, c4, rfl, ho4, hb4⟩
        have hz5 := hb4.size
        go_wp2_with (at_builtin; refine wpList_append_lies _ rfl (.tmp 18) (.tmp 21) 39 rfl w.heap.size 26 i0 (.agg #[.int .i64 0, .slice none 0 0]) 2 32 Try.underlying39 hi0 hz0 hz1 hz2 rfl (by decide) (.slice A' (factsOf (fs.take k) p).length c') (factsOf (fs.take k) p).length (flat (factsOf (fs.take k) p) av) rfl ?c1 ⟨w2.heap.size, 0, none⟩ 1 1 [.int .i64 fs[k].1, .slice A4 fs[k].2.length c4] rfl rfl (news2 _ _ _ _) ?c2 (by omega) (by unfold maxLen; omega) (by omega) ?c3 _ rfl ?_)
        case c1 => exact (ownsRow_below HP.out.own.row HP.out.own.lt hb4 (Nat.le_refl _)).alloc _
        case c2 => intro u hu; simp at hu; rcases hu with rfl | rfl <;> rfl
        case c3 => have := HP.out.below.size; simp; omega
        intro g cap w4 hown hg _ _
        obtain ⟨av', hcol, hlen⟩ := HP.out.push HS.out hb4 ho4 hg hown
        rw [hlen]
        have HC := Lib.hid hcol
        clear hcol hlen hown hg
        go_wp2_with (fail)
        go_roundw
        case rel => exact ⟨k + 1, _, _, _, by omega, by go_num, rfl, HC.out⟩
        case measure => simp [intOf]; omega
      · have heb : (fs[k].1 == p) = false := by simp [he]
        have HS := Lib.hid (factsOf_no hlt he)
        clear he
        go_wp2_with (fail)
        go_roundw
        case rel => exact ⟨k + 1, _, _, _, by omega, by go_num, by rw [HS.out], by rw [HS.out]; exact HP.out⟩
        case measure => simp [intOf]; omega
    · have hkn : k = fs.length := by omega
      have HO := Lib.hid (show OwnFacts wr w.heap.size wr.heap.size (.slice A' (factsOf fs p).length c') (factsOf fs p) ∧ factsOf (fs.take k) p = factsOf fs p by
        have e : fs.take k = fs := by rw [hkn, List.take_length]
        have := hr.own.own
        rw [e] at this ⊢
        exact ⟨this, rfl⟩)
      have hbe := hr.below
      rw [HO.out.2]
      clear hkn hr
      go_wp2_with (fail)
      go_ret
      exact ⟨_, _, rfl, HO.out.1, hbe⟩

end Go.Proofs.Ytfdbjoncadjhcaa
/-
  What comes in, opened: integers.
-/
namespace Go.Proofs.Ytfdbjoncadjhcaa
open Go.ChangeShapes Go.WideShapes Go.ChangeAt Go.RowKit Go.Joins Go.Deep

theorem Try.own : ownKnob Try.prog.godebug = none := by kernel_rfl
theorem Try.laidOut : laidOutB Try.prog = true := by kernel_rfl
theorem Try.cells3 : Try.prog.cellsOf 3 = 1 := by kernel_rfl
theorem Try.cells23 : Try.prog.cellsOf 23 = 1 := by kernel_rfl

section
variable {H : Type} {enc : TypeId × Value → H} {W : World}

/-- What is known of a slice of integers that came in. -/
def InInts (W : World) (v : Value) (xs : List Int) : Prop := RdInts W W.heap.size v xs ∧ xs.length ≤ maxLen

/-- The cells of a slice of integers. -/
theorem open_inInts_cells {fuel : Nat} {v : Value} {x : DataW H × List MemPlace} (h : DataW.trod enc Try.prog W 0 (fun _ => true) true fuel 23 [v] = some x) : ∃ xs, InInts W v xs := by
  rcases open_ints Try.underlying23 Try.underlying3 Try.cells3 h with ⟨hcs, _⟩ | ⟨a, len, cap, zs, hcs, _, hl, hm, hz, _, hcell, _⟩
  · simp at hcs
    subst hcs
    exact ⟨[], ⟨none, 0, rfl, by simp, fun h => absurd h (by simp)⟩, by simp⟩
  · simp at hcs
    subst hcs
    simp at hz
    refine ⟨zs.take len, ⟨some a, cap, ?_, by simp; omega, fun hn => ?_⟩, by simp; omega⟩
    · congr 1
      simp
      omega
    · have hlen : (zs.take len).length = len := by simp; omega
      obtain ⟨b, o, rfl, hc⟩ := ints_at hcell (by omega)
      refine ⟨b, o, rfl, World.block_lt_of_cell? _ _ (hc 0 (by omega)), fun k hk => ?_⟩
      rw [hc k (by omega)]
      simp [show k < zs.length by omega]

set_option maxRecDepth 100000 in
theorem open_inInts {v : Value} {d : DataW H} {p : List MemPlace} {b0 : Nat} (hv : Value.okWide Try.prog W .any b0 23 v) (h : DataW.Trod enc Try.prog W 0 (fun _ => true) true 23 v d p) :
    ∃ xs, InInts W v xs := by
  obtain ⟨a, len, cap, rfl⟩ := okWide_slice Try.underlying23 hv
  obtain ⟨fuel, hf⟩ := h
  exact open_inInts_cells (by simpa [Value.cells] using hf)

/-- What is known of an int that came in. -/
def InInt (v : Value) (n : Int) : Prop := v = .int .i64 n ∧ -9223372036854775808 ≤ n ∧ n ≤ 9223372036854775807

set_option maxRecDepth 100000 in
theorem open_inInt {v : Value} {d : DataW H} {p : List MemPlace} {b0 : Nat} (hv : Value.okWide Try.prog W .any b0 3 v) (h : DataW.Trod enc Try.prog W 0 (fun _ => true) true 3 v d p) : ∃ n, InInt v n := by
  obtain ⟨n, rfl, _, _, hw⟩ := open_int Try.underlying3 hv h
  exact ⟨n, rfl, bounds_i64 hw⟩
end

end Go.Proofs.Ytfdbjoncadjhcaa
/-
  What comes in, opened into the words of the Base text.
-/
namespace Go.Proofs.Ytfdbjoncadjhcaa
open Go.ChangeShapes Go.WideShapes Go.ChangeAt Go.RowKit Go.Joins Go.Deep

section
variable {H : Type} {enc : TypeId × Value → H} {W : World}

def InFact (W : World) (v : Value) (f : LFact) : Prop := RdFact W W.heap.size v f ∧ f.2.length ≤ maxLen
def InFacts (W : World) (v : Value) (fs : List LFact) : Prop := RdFacts W W.heap.size v fs ∧ fs.length ≤ maxLen ∧ ∀ k (h : k < fs.length), fs[k].2.length ≤ maxLen

end

end Go.Proofs.Ytfdbjoncadjhcaa
/-
  A slice of bytes that came in.
-/
namespace Go.Proofs.Ytfdbjoncadjhcaa
open Go.ChangeShapes Go.WideShapes Go.ChangeAt Go.RowKit Go.Joins Go.Deep

theorem Try.cells5 : Try.prog.cellsOf 5 = 1 := by kernel_rfl

/-- What is known of a slice of bytes that came in. -/
def InBytes (W : World) (v : Value) (bs : List Nat) : Prop := RdBytes W W.heap.size v bs ∧ bs.length ≤ maxLen ∧ ∀ b ∈ bs, b < 256

theorem byte_of_wf {n : Int} (h : (Lit.int .u8 n).wf = true) : 0 ≤ n ∧ n < 256 := by
  simp only [Lit.wf, Bool.and_eq_true, decide_eq_true_eq] at h
  have h1 : IntKind.u8.min = 0 := by decide
  have h2 : IntKind.u8.max = 255 := by decide
  omega

set_option maxRecDepth 100000 in
theorem open_inBytes {H : Type} {enc : TypeId × Value → H} {W : World} {v : Value} {d : DataW H} {p : List MemPlace} {b0 : Nat} (hv : Value.okWide Try.prog W .any b0 22 v) (h : DataW.Trod enc Try.prog W 0 (fun _ => true) true 22 v d p) :
    ∃ bs, InBytes W v bs := by
  obtain ⟨a, len, cap, rfl⟩ := okWide_slice Try.underlying22 hv
  obtain ⟨fuel, hf⟩ := h
  have hf : DataW.trod enc Try.prog W 0 (fun _ => true) true fuel 22 [.slice a len cap] = some (d, p) := by simpa [Value.cells] using hf
  rcases open_ints Try.underlying22 Try.underlying5 Try.cells5 hf with ⟨hcs, _⟩ | ⟨a, len, cap, zs, hcs, _, hl, hm, hz, _, hcell, hwz⟩
  · simp at hcs
    obtain ⟨rfl, rfl, rfl⟩ := hcs
    exact ⟨[], ⟨none, 0, rfl, by simp, fun h => absurd h (by simp)⟩, by simp, by simp⟩
  · simp at hcs
    obtain ⟨rfl, rfl, rfl⟩ := hcs
    simp at hz
    refine ⟨(zs.take len).map Int.toNat, ⟨some a, cap, ?_, by simp; omega, fun hn => ?_⟩, by simp; omega, ?_⟩
    · congr 1
      simp
      omega
    · have hlen : (zs.take len).length = len := by simp; omega
      simp only [List.length_map, hlen] at hn
      obtain ⟨b, o, rfl, hc⟩ := ints_at hcell (by omega)
      refine ⟨b, o, rfl, World.block_lt_of_cell? _ _ (hc 0 (by omega)), fun k hk => ?_⟩
      simp only [List.length_map, hlen] at hk
      have hw := byte_of_wf (hwz zs[k] (List.getElem_mem (by omega)))
      rw [hc k (by omega)]
      simp [show k < zs.length by omega]
      omega
    · intro b hb
      rw [List.mem_map] at hb
      obtain ⟨z, hz1, rfl⟩ := hb
      have := byte_of_wf (hwz z (List.mem_of_mem_take hz1))
      omega

end Go.Proofs.Ytfdbjoncadjhcaa
/-
  The walk of the law FnFactsWith.
-/
namespace Go.Proofs.Ytfdbjoncadjhcaa
open Go.RowKit

set_option maxHeartbeats 4000000 in
set_option maxRecDepth 100000 in
theorem lawPlainFactsWith_any (v : Value) (bs : List Nat) (w : World) (hr : RdBytes w w.heap.size v bs) (_ : bs.length ≤ maxLen) (hby : ∀ b ∈ bs, b < 256) :
    Calls Try.prog 6 #[v] w fun e w' => e = .returned (.bool true) ∧ Below w.heap.size w w' := by
  have HV := Lib.hid hr
  obtain ⟨Av, cv, rfl, hcv, _⟩ := hr
  go_enter Try.func6, Try.ntmps6
  by_cases hbig : 1048576 < bs.length
  · have hd : decide ((1048576 : Int) < bs.length) = true := by simp; omega
    go_wp2_with (fail)
    go_ret
    exact ⟨rfl, Below.refl _ _⟩
  · have hd : decide ((1048576 : Int) < bs.length) = false := by simp; omega
    have hbn : bs.length ≤ 1073741824 := by omega
    have HD := Lib.hid (drawFactsWith_any _ bs w HV.out hby hbn)
    go_upto_region 4 with (go_at_call 30; refine HD.out.mono ?_; rintro e w1 ⟨A, c, fs, A3, c3, f, rfl, h1, h2, h3, hf, hi, hb⟩; have H1 := Lib.hid (And.intro hf (And.intro hi hb)); clear hf hi hb)
    obtain ⟨hf, hi, B1⟩ := H1.out
    obtain ⟨wv, hwv⟩ : ∃ wv, wv = w1.alloc (Obj.cells #[Value.int IntKind.i64 f.1, Value.slice A3 f.2.length c3] 26) := ⟨_, rfl⟩
    have bv : Below w1.heap.size w1 wv := by rw [hwv]; exact below1 _ _
    have z1 : Blk wv w1.heap.size 26 #[.int .i64 f.1, .slice A3 f.2.length c3] := by rw [hwv]; exact Blk.new _ _ _
    rw [← hwv]
    have HF1 := Lib.hid (hf.rd.on bv)
    have HI1 := Lib.hid (hi.rd.on bv)
    have BV := bthen B1 bv
    clear hwv hf hi B1 H1 HD
    have q0 : wv.cell? ⟨w1.heap.size, 0, none⟩ = some (.int .i64 f.1) := z1.cell 0
    have q1 : wv.cell? ⟨w1.heap.size, 1, none⟩ = some (.slice A3 f.2.length c3) := z1.cell 1
    have HW := Lib.hid (implFactsWith_any _ _ fs f wv HF1.out ⟨_, rfl, HI1.out⟩ (by omega) (by omega) (by omega))
    obtain ⟨X, hX⟩ : ∃ X, X = factsWith fs f := ⟨_, rfl⟩
    have hXb := factsWith_bound fs f
    rw [← hX] at HW hXb
    have HNEW := Lib.hid (show factsHas X f = true by rw [hX]; exact with_has_new fs f)
    have HOLD := Lib.hid (show ∀ k (h : k < fs.length), factsHas X fs[k] = true from fun k h => by rw [hX]; exact with_has_old fs f h)
    have HXE := Lib.hid hX
    clear hX
    go_upto_region 5 with (go_at_call 31; refine HW.out.mono ?_; rintro e w2 ⟨A5, c5, rfl, o5, b5⟩; have H5 := Lib.hid (And.intro o5 b5); clear o5 b5)
    obtain ⟨o5, b5⟩ := H5.out
    have z2 := z1.below b5 z1.lt
    have HX2 := Lib.hid o5.rd
    have HF2 := Lib.hid (HF1.out.on b5)
    have HI2 := Lib.hid (HI1.out.on b5)
    have B2 := bthen BV b5
    obtain ⟨hh, hhe⟩ : ∃ hh, hh = factsHas fs f := ⟨_, rfl⟩
    have HHE := Lib.hid hhe
    clear o5 b5 H5 HW HF1 HI1 BV q0 q1 hhe bv z1
    have q0 : w2.cell? ⟨w1.heap.size, 0, none⟩ = some (.int .i64 f.1) := z2.cell 0
    have q1 : w2.cell? ⟨w1.heap.size, 1, none⟩ = some (.slice A3 f.2.length c3) := z2.cell 1
    obtain ⟨SS, hSS⟩ : ∃ SS : World → Prop, SS = (fun W => Below w2.heap.size w2 W ∧ W.cell? ⟨w1.heap.size, 0, none⟩ = some (.int .i64 f.1) ∧ W.cell? ⟨w1.heap.size, 1, none⟩ = some (.slice A3 f.2.length c3)) := ⟨_, rfl⟩
    have HB := Lib.hid (show ∀ W, SS W → (Below w2.heap.size w2 W ∧ W.cell? ⟨w1.heap.size, 0, none⟩ = some (.int .i64 f.1) ∧ W.cell? ⟨w1.heap.size, 1, none⟩ = some (.slice A3 f.2.length c3)) from by rw [hSS]; exact fun W hW => hW)
    have HS := Lib.hid (show ∀ W, Below w2.heap.size w2 W → SS W from by
      rw [hSS]
      exact fun W hW => ⟨hW, (hW.cell (World.block_lt_of_cell? _ _ q0)).trans q0, (hW.cell (World.block_lt_of_cell? _ _ q1)).trans q1⟩)
    clear hSS z2
    have BB : Below w2.heap.size w2 w2.drew := (Below.refl _ _).drew
    have SB := HS.out _ BB
    refine wp_region_rel SS 20 21 (by kernel_rfl) rfl ?_
    refine wpAnyR_pure (i := 0) (oi := _) ?v0 rfl rfl (by kernel_rfl) (by decide) (fun _ _ _ h => h) rfl ?hy0 (fun _ => SB) ?rest0
    case hy0 => (intro W; go_simp; (try with_reducible rfl))
    try simp only [List.setIfInBounds_toArray, List.set_cons_zero, List.set_cons_succ]
    refine wpAnyR_pure (i := 1) (oi := _) ?v1 rfl rfl (by kernel_rfl) (by decide) (fun _ _ _ h => h) rfl ?hy1 (fun _ => SB) ?rest1
    case hy1 => (intro W; go_simp; (try with_reducible rfl))
    try simp only [List.setIfInBounds_toArray, List.set_cons_zero, List.set_cons_succ]
    refine wpAnyR_take (i := 2) (oi := _) ?v2 rfl rfl (by kernel_rfl) (fun _ _ _ h => h) rfl ?hy2 SB ?rest2
    case hy2 => (intro W hW; obtain ⟨_, e0, e1⟩ := HB.out W hW; go_simp; (try with_reducible rfl))
    try simp only [List.setIfInBounds_toArray, List.set_cons_zero, List.set_cons_succ]
    refine wpAnyR_one (i := 3) (by kernel_rfl) rfl (fun K hK => ?_)
    try rw [if_pos (show Region.wanted _ _ = true from rfl)]
    go_simp
    refine (specFactsWith_any _ _ fs f _ (HF2.out.on BB) ⟨_, rfl, HI2.out.on BB⟩ (by omega) (by omega) (by omega)).mono ?_
    rw [← HXE.out]
    rintro e W3 ⟨A6, c6, rfl, o6, hb3⟩
    have HS6 := Lib.hid o6.rd
    have BB := bthen BB hb3
    have SB := HS.out _ BB
    refine hK.out _ _ (fun _ => SB) ?_
    clear o6 hb3
    clear hK K
    try simp only [List.setIfInBounds_toArray, List.set_cons_zero, List.set_cons_succ, Act.put]
    refine wpAnyR_one (i := 4) (by kernel_rfl) rfl (fun K hK => ?_)
    try rw [if_pos (show Region.wanted _ _ = true from rfl)]
    go_simp
    refine (wrFacts_yes _ _ X _ (HX2.out.on BB) HS6.out (by omega) (by omega)).mono ?_
    rintro e W4 ⟨rfl, hb4⟩
    have BB := bthen BB hb4
    have SB := HS.out _ BB
    refine hK.out _ _ (fun _ => SB) ?_
    clear hb4
    clear hK K
    try simp only [List.setIfInBounds_toArray, List.set_cons_zero, List.set_cons_succ, Act.put]
    refine wpAnyR_pure (i := 5) (oi := _) (.bool false) rfl rfl (by kernel_rfl) (by decide) (fun _ _ _ h => h) rfl ?hy5 (fun _ => SB) ?rest5
    case hy5 => (intro W; go_simp; (try simp))
    try simp only [List.setIfInBounds_toArray, List.set_cons_zero, List.set_cons_succ]
    refine wpAnyR_pure (i := 6) (oi := _) ?v6 rfl rfl (by kernel_rfl) (by decide) (fun _ _ _ h => h) rfl ?hy6 (fun _ => SB) ?rest6
    case hy6 => (intro W; go_simp; (try with_reducible rfl))
    try simp only [List.setIfInBounds_toArray, List.set_cons_zero, List.set_cons_succ]
    refine wpAnyR_pure (i := 7) (oi := _) ?v7 rfl rfl (by kernel_rfl) (by decide) (fun _ _ _ h => h) rfl ?hy7 (fun _ => SB) ?rest7
    case hy7 => (intro W; go_simp; (try with_reducible rfl))
    try simp only [List.setIfInBounds_toArray, List.set_cons_zero, List.set_cons_succ]
    refine wpAnyR_take (i := 8) (oi := _) ?v8 rfl rfl (by kernel_rfl) (fun _ _ _ h => h) rfl ?hy8 SB ?rest8
    case hy8 => (intro W hW; obtain ⟨_, e0, e1⟩ := HB.out W hW; go_simp; (try with_reducible rfl))
    try simp only [List.setIfInBounds_toArray, List.set_cons_zero, List.set_cons_succ]
    refine wpAnyR_pure (i := 10) (oi := _) ?v10 rfl rfl (by kernel_rfl) (by decide) (fun _ _ _ h => h) rfl ?hy10 (fun _ => SB) ?rest10
    case hy10 => (intro W; go_simp; (try with_reducible rfl))
    try simp only [List.setIfInBounds_toArray, List.set_cons_zero, List.set_cons_succ]
    refine wpAnyR_take (i := 11) (oi := _) ?v11 rfl rfl (by kernel_rfl) (fun _ _ _ h => h) rfl ?hy11 SB ?rest11
    case hy11 => (intro W hW; obtain ⟨_, e0, e1⟩ := HB.out W hW; go_simp; (try with_reducible rfl))
    try simp only [List.setIfInBounds_toArray, List.set_cons_zero, List.set_cons_succ]
    refine wpAnyR_one (i := 9) (by kernel_rfl) rfl (fun K hK => ?_)
    try rw [if_pos (show Region.wanted _ _ = true from rfl)]
    go_simp
    refine (implFactsHas_any _ _ fs f _ (HF2.out.on BB) ⟨_, rfl, HI2.out.on BB⟩ (by omega) (by omega) (by omega)).mono ?_
    rw [← HHE.out]
    rintro e W9 ⟨rfl, hb9⟩
    have BB := bthen BB hb9
    have SB := HS.out _ BB
    refine hK.out _ _ (fun _ => SB) ?_
    clear hb9
    clear hK K
    try simp only [List.setIfInBounds_toArray, List.set_cons_zero, List.set_cons_succ, Act.put]
    refine wpAnyR_one (i := 12) (by kernel_rfl) rfl (fun K hK => ?_)
    try rw [if_pos (show Region.wanted _ _ = true from rfl)]
    go_simp
    refine (specFactsHas_any _ _ fs f _ (HF2.out.on BB) ⟨_, rfl, HI2.out.on BB⟩ (by omega) (by omega) (by omega)).mono ?_
    rw [← HHE.out]
    rintro e W12 ⟨rfl, hb12⟩
    have BB := bthen BB hb12
    have SB := HS.out _ BB
    refine hK.out _ _ (fun _ => SB) ?_
    clear hb12
    clear hK K
    try simp only [List.setIfInBounds_toArray, List.set_cons_zero, List.set_cons_succ, Act.put]
    refine wpAnyR_pure (i := 13) (oi := _) (.bool false) rfl rfl (by kernel_rfl) (by decide) (fun _ _ _ h => h) rfl ?hy13 (fun _ => SB) ?rest13
    case hy13 => (intro W; go_simp; (try simp))
    try simp only [List.setIfInBounds_toArray, List.set_cons_zero, List.set_cons_succ]
    refine wpAnyR_pure (i := 14) (oi := _) (.bool false) rfl rfl (by kernel_rfl) (by decide) (fun _ _ _ h => h) rfl ?hy14 (fun _ => SB) ?rest14
    case hy14 => (intro W; go_simp; (try simp))
    try simp only [List.setIfInBounds_toArray, List.set_cons_zero, List.set_cons_succ]
    refine wpAnyR_pure (i := 15) (oi := _) ?v15 rfl rfl (by kernel_rfl) (by decide) (fun _ _ _ h => h) rfl ?hy15 (fun _ => SB) ?rest15
    case hy15 => (intro W; go_simp; (try with_reducible rfl))
    try simp only [List.setIfInBounds_toArray, List.set_cons_zero, List.set_cons_succ]
    refine wpAnyR_pure (i := 16) (oi := _) ?v16 rfl rfl (by kernel_rfl) (by decide) (fun _ _ _ h => h) rfl ?hy16 (fun _ => SB) ?rest16
    case hy16 => (intro W; go_simp; (try with_reducible rfl))
    try simp only [List.setIfInBounds_toArray, List.set_cons_zero, List.set_cons_succ]
    refine wpAnyR_take (i := 17) (oi := _) ?v17 rfl rfl (by kernel_rfl) (fun _ _ _ h => h) rfl ?hy17 SB ?rest17
    case hy17 => (intro W hW; obtain ⟨_, e0, e1⟩ := HB.out W hW; go_simp; (try with_reducible rfl))
    try simp only [List.setIfInBounds_toArray, List.set_cons_zero, List.set_cons_succ]
    refine wpAnyR_one (i := 18) (by kernel_rfl) rfl (fun K hK => ?_)
    try rw [if_pos (show Region.wanted _ _ = true from rfl)]
    go_simp
    refine (implFactsHas_any _ _ X f _ (HX2.out.on BB) ⟨_, rfl, HI2.out.on BB⟩ (by omega) (by omega) (by omega)).mono ?_
    rw [HNEW.out]
    rintro e W18 ⟨rfl, hb18⟩
    have BB := bthen BB hb18
    have SB := HS.out _ BB
    refine hK.out _ _ (fun _ => SB) ?_
    clear hb18
    clear hK K
    try simp only [List.setIfInBounds_toArray, List.set_cons_zero, List.set_cons_succ, Act.put]
    refine wpAnyR_pure (i := 19) (oi := _) (.bool false) rfl rfl (by kernel_rfl) (by decide) (fun _ _ _ h => h) rfl ?hy19 (fun _ => SB) ?rest19
    case hy19 => (intro W; go_simp; (try simp))
    try simp only [List.setIfInBounds_toArray, List.set_cons_zero, List.set_cons_succ]
    refine wpAnyR_one (i := 20) (by kernel_rfl) rfl (fun K hK => ?_)
    go_simp
    refine hK.out _ _ (fun hf => absurd hf (by decide)) ?_
    clear hK K
    refine wpAnyR_done (by kernel_rfl) ?_
    have BW := bthen B2 BB
    have HF3 := Lib.hid (HF2.out.on BB)
    have HX3 := Lib.hid (HX2.out.on BB)
    have HD := Lib.hid (drawFactsOf_any _ bs W18 (show RdBytes W18 W18.heap.size (.slice Av bs.length cv) bs from RdBytes.on HV.out BW) hby hbn)
    clear SB HB HS BB HF2 HX2 HI2 q0 q1
    go_wp2_with (first
      | (go_at_call 35; refine HD.out.mono ?_; rintro e w3 ⟨A7, c7, ps, p, rfl, hp1, hp2, rp, b7⟩
         have HP3 := Lib.hid rp
         have HF4 := Lib.hid (HF3.out.on b7)
         have HX4 := Lib.hid (HX3.out.on b7)
         have HB7 := Lib.hid (bthen BW b7)
         have hpf := factsOf_few ps p
         have HIO := Lib.hid (implFactsOf_any _ ps p w3 rp (by omega) (by omega))
         clear rp b7)
      | (go_at_call 36; refine HIO.out.mono ?_; rintro e w4 ⟨A8, c8, rfl, o8, b8⟩
         have HQ4 := Lib.hid o8.rd
         have HF5 := Lib.hid (HF4.out.on b8)
         have HX5 := Lib.hid (HX4.out.on b8)
         have HB8 := Lib.hid (bthen HB7.out b8)
         have HSO := Lib.hid (specFactsOf_any _ ps p w4 (HP3.out.on b8) (by omega) (by omega))
         clear o8 b8)
      | (go_at_call 37; refine HSO.out.mono ?_; rintro e w5 ⟨A9, c9, rfl, o9, b9⟩
         have HF6 := Lib.hid (HF5.out.on b9)
         have HX6 := Lib.hid (HX5.out.on b9)
         have HB9 := Lib.hid (bthen HB8.out b9)
         have HWR := Lib.hid (wrFacts_yes _ _ (factsOf ps p) w5 (HQ4.out.on b9) o9.rd (by omega) (by omega))
         clear o9 b9)
      | (go_at_call 32; refine HWR.out.mono ?_; rintro e w6 ⟨rfl, b10⟩
         have HF7 := Lib.hid (HF6.out.on b10)
         have HX7 := Lib.hid (HX6.out.on b10)
         have HB10 := Lib.hid (bthen HB9.out b10)
         clear b10))
    go_loopw [59] (fun vi wr => ∃ k : Nat, k ≤ fs.length ∧ vi = .int .i64 k ∧ Below w6.heap.size w6 wr) (fun vi _ => fs.length - (intOf vi).toNat)
    case atStart => exact ⟨0, Nat.zero_le _, rfl, Below.refl _ _⟩
    case round =>
      obtain ⟨k, hk, rfl, hbe⟩ := hrel
      by_cases hlt : k < fs.length
      · obtain ⟨b, o, A4, c4, rfl, hbB, k0, k1, k2⟩ := (HF7.out.on hbe).get hlt
        have hln := len_le_tot fs k hlt
        have hold := HOLD.out k hlt
        obtain ⟨g, hg⟩ : ∃ g, g = fs[k] := ⟨_, rfl⟩
        rw [← hg] at k0 k1 k2 hold hln
        have HC := Lib.hid (fun W (hW : Below wr.heap.size wr W) => implFactsHas_any (.slice A5 X.length c5) (.agg #[.int .i64 g.1, .slice A4 g.2.length c4]) X g W ((HX7.out.on hbe).on hW) ⟨_, rfl, k2.on hW⟩ (by omega) (by omega) (by omega))
        have HOL := Lib.hid hold
        have HBE := Lib.hid hbe
        clear hg k2 hold hbe
        go_wp2_with (go_at_call 22; refine (HC.out _ (below1 _ _)).mono ?_; rw [HOL.out]; rintro e w9 ⟨rfl, b9⟩; have HB11 := Lib.hid (bthen (below1 _ _) b9); clear b9)
        go_roundw
        case rel => exact ⟨k + 1, by omega, by go_num, bthen HBE.out HB11.out⟩
        case measure => simp [intOf]; omega
      · have hle : decide (((factsOf ps p).length : Int) ≤ (ps.length : Int)) = true := decide_eq_true (by omega)
        have HB := Lib.hid (bthen HB10.out hbe)
        clear hbe
        go_wp2_with fail
        go_ret
        exact ⟨rfl, HB.out⟩

theorem lawPlainFactsWith_in (v : Value) (bs : List Nat) (w : World) (h : InBytes w v bs) :
    Calls Try.prog 6 #[v] w fun e w' => e = .returned (.bool true) ∧ Below w.heap.size w w' := lawPlainFactsWith_any v bs w h.1 h.2.1 h.2.2

end Go.Proofs.Ytfdbjoncadjhcaa
namespace Go.Proofs.Ytfdbjoncadjhcaa
open Go.ChangeShapes Go.WideShapes Go.ChangeAt Go.RowKit

set_option maxRecDepth 100000 in
theorem fnFactsWith_lifted (os : Os) (started : os.Started) (H : Type) (enc : TypeId × Value → H) :
    ReturnsInHanded {} Try.checked os 6 .any (Rows.fnFactsWithSpec.pre6 enc Try.prog Try.f6 Rows.fnFactsWithRow.domain false) (Rows.fnFactsWithSpec.post enc Try.prog Try.f6 false true false false) := by
  refine returnsInHanded_of_change (C := Try.checked) Try.own started (by kernel_rfl) Try.func6
    (ChangeSpec.witness6 (enc := enc) (C := Try.checked) false ⟨#[], #[.slice none 0 0], []⟩ 8 (by kernel_rfl) (by kernel_rfl) (by kernel_rfl) (by kernel_rfl)) ?_
  intro W base args ds gs before hval0 hW hcnd _
  have hval : ∀ (j : Nat) t v, Try.f6.params[j]? = some t → args[j]? = some v → Value.okWide Try.prog W .any base t v := hval0
  have hW' := hW
  obtain ⟨p, q, hA0, hV, rfl, hfz, hnd⟩ := hW
  have hA : DataW.TrodAll enc Try.prog W 0 (fun _ => true) true Try.f6.params.toList args.toList ds p := hA0
  rw [Try.params6] at hA hval
  obtain ⟨v0, vs0, d0, ds0, p0, q0, hargs, rfl, rfl, h0, r0⟩ := trodAll_cons hA
  obtain ⟨rfl, rfl, rfl⟩ := trodAll_nil r0
  obtain rfl : args = #[v0] := by cases args; simp_all
  obtain ⟨rfl, rfl⟩ := trodVars_none hV
  have lt0 : ∀ x ∈ p0, x.block < W.heap.size := by obtain ⟨m, hm⟩ := h0; exact DataW.trod_lt m _ _ _ hm
  obtain ⟨x0, w0⟩ := open_inBytes (hval 0 22 v0 rfl rfl) h0
  clear hA0 hval0
  refine (lawPlainFactsWith_in v0 x0 W w0).mono fun e W' ⟨he, bel⟩ => ?_
  subst he
  exact ⟨_, rfl, _, _, _, [], _, [], hW', trodAll_mk1 (shut_bool Try.underlying4 _), (trodAll_cons_mk (Below.trod Try.laidOut (by kernel_rfl) (of_decide_eq_true (by kernel_rfl)) h0 bel lt0) trodAll_mk0), rfl, bel.frame _, fun h => by cases h⟩

theorem fnFactsWith_holds : Rows.FnFactsWithSaid :=
  OpenClaim.holds_of_wide 6 Try.f6 rfl rfl rfl rfl rfl rfl rfl ⟨rfl, rfl, rfl, rfl, rfl⟩ rfl rfl rfl rfl rfl (by kernel_rfl) Try.func6 (by kernel_rfl)
    (of_decide_eq_true (by kernel_rfl)) (by unfold Func.isWrapper; rw [if_neg (of_decide_eq_false (by kernel_rfl))]; exact ⟨rfl, rfl⟩)
    (fun os started H enc _ => fnFactsWith_lifted os started H enc)

end Go.Proofs.Ytfdbjoncadjhcaa
