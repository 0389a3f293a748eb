/-
  The law FnFactsOk: for every input the call returns true, and each argument reads behind it as it read before. Conditions: none but the row's own.
-/
import Derived.Test.YtfdbjoncadjhcaaChecked
import Derived.ProofKit
import Derived.OpenShut
import Derived.ChangeOld
import Derived.WalkKit
import Derived.Deep.Slices
import Derived.Deep.Fields
import Derived.ChangeSame
import Derived.Lib.SmallJoins
import Derived.KernelRfl
import Derived.Deep.SlicePairs
import Derived.Test.YtfdbjoncadjhcaaRows
import Derived.Test.YtfdbjoncadjhcaaOkaa1
import Derived.Test.YtfdbjoncadjhcaaOkaa2
/-
  Some facts drawn: l1Some, its list of the call's own.
-/
namespace Go.Proofs.Ytfdbjoncadjhcaa
open Go.RowKit

theorem OwnFacts.offG {w W : World} {lo hi g : Nat} {v : Value} {fs : List LFact} (h : OwnFacts w lo hi v fs) (k : Only g (g + 1) w W) (hg : g < lo) : OwnFacts W lo hi v fs := h.only k (.inr (by omega))

theorem OwnFacts.swap {w : World} {lo hi : Nat} {v : Value} {f0 f1 : LFact} {fs : List LFact} (h : OwnFacts w lo hi v (f0 :: f1 :: fs)) (hh : hi ≤ w.heap.size) :
    ∃ (g c : Nat) (A0 : Option Addr) (c0 : Nat) (A1 : Option Addr) (c1 : Nat), v = .slice (some ⟨g, 0, none⟩) (fs.length + 2) c ∧ lo ≤ g ∧ g < hi ∧
      w.cell? ⟨g, 0, none⟩ = some (.int .i64 f0.1) ∧ w.cell? ⟨g, 1, none⟩ = some (.slice A0 f0.2.length c0) ∧ w.cell? ⟨g, 2, none⟩ = some (.int .i64 f1.1) ∧ w.cell? ⟨g, 3, none⟩ = some (.slice A1 f1.2.length c1) ∧ (∀ k, w.frozen? ⟨g, k, none⟩ = false) ∧
      ∀ W, Below w.heap.size w W → OwnFacts ((((W.setCell ⟨g, 0, none⟩ (.int .i64 f1.1)).setCell ⟨g, 1, none⟩ (.slice A1 f1.2.length c1)).setCell ⟨g, 2, none⟩ (.int .i64 f0.1)).setCell ⟨g, 3, none⟩ (.slice A0 f0.2.length c0)) lo hi v (f1 :: f0 :: fs) := by
  obtain ⟨av, ⟨hlen, hown, hap⟩, hr, hlt⟩ := h
  rcases av with _ | ⟨a0, _ | ⟨a1, av⟩⟩
  · simp at hlen
  · simp at hlen
  have o0 : OwnInts w lo hi a0 f0.2 := hown 0 (by simp) (by simp)
  have o1 : OwnInts w lo hi a1 f1.2 := hown 1 (by simp) (by simp)
  obtain ⟨A0, c0, rfl⟩ := o0.form
  obtain ⟨A1, c1, rfl⟩ := o1.form
  rcases hr.2 with ⟨_, h0⟩ | ⟨g, cap, cur, rfl, hbg, hgg, r1, r2, r3, r4⟩
  · simp at h0
  have hat : AtRow w g cap (f0 :: f1 :: fs) (.slice A0 f0.2.length c0 :: .slice A1 f1.2.length c1 :: av) := ⟨cur, hgg, r1, r2, r3, r4⟩
  have hl : av.length = fs.length := by simpa using hlen
  have hgh := hlt g rfl
  refine ⟨g, cap, A0, c0, A1, c1, rfl, hbg, hgh, ?_, ?_, ?_, ?_, fun k => hat.frozen k, fun W hW => ?_⟩
  · rw [hat.cell (by simp only [List.length_cons]; omega)]; rfl
  · rw [hat.cell (by simp only [List.length_cons]; omega)]; rfl
  · rw [hat.cell (by simp only [List.length_cons]; omega)]; rfl
  · rw [hat.cell (by simp only [List.length_cons]; omega)]; rfl
  · have K : ∀ (x : Value) (xs : List Int), OwnInts w lo hi x xs → OwnInts ((((W.setCell ⟨g, 0, none⟩ (.int .i64 f1.1)).setCell ⟨g, 1, none⟩ (.slice A1 f1.2.length c1)).setCell ⟨g, 2, none⟩ (.int .i64 f0.1)).setCell ⟨g, 3, none⟩ (.slice A0 f0.2.length c0)) lo hi x xs := fun x xs hx => by
      refine (hx.below hW hh).kept fun b hb => ?_
      have hne : b ≠ g := fun e => blk_ne_row hx.1 (show Blk w g 26 cur from hgg) (by decide) (by rw [hb, e])
      exact (Below.heap_setCell _ ⟨g, 3, none⟩ _ _ hne).trans ((Below.heap_setCell _ ⟨g, 2, none⟩ _ _ hne).trans ((Below.heap_setCell _ ⟨g, 1, none⟩ _ _ hne).trans (Below.heap_setCell _ ⟨g, 0, none⟩ _ _ hne)))
    have S := ((hat.below hW (by omega)).set (by simp [hl]) (k := 0) (by simp) f1 (.slice A1 f1.2.length c1)).set (by simp [hl]) (k := 1) (by simp) f0 (.slice A0 f0.2.length c0)
    have T := S.row (base := lo) (by simp [hl]) hbg
    refine ⟨.slice A1 f1.2.length c1 :: .slice A0 f0.2.length c0 :: av, ⟨by simp [hl], fun i h1 h2 => ?_, ?_⟩, T, hlt⟩
    · rcases i with _ | _ | i
      · exact K _ _ o1
      · exact K _ _ o0
      · exact K _ _ (hown (i + 2) (by simpa using h1) (by simpa using h2))
    · rw [List.pairwise_cons, List.pairwise_cons] at hap
      obtain ⟨p0, p1, p2⟩ := hap
      rw [List.pairwise_cons, List.pairwise_cons]
      refine ⟨fun b hb => ?_, fun b hb => p0 b (by simp [hb]), p2⟩
      rcases List.mem_cons.1 hb with rfl | hb
      · exact fun x hx hx' => p0 _ (by simp) x hx' hx
      · exact p1 b hb

set_option maxHeartbeats 2000000 in
set_option maxRecDepth 100000 in
theorem l1Some_any (g : Nat) (bs : List Nat) (p m lo hi : Nat) (v : Value) (ar : List Int) (w : World) (h : Rdr w g bs p) (hp : p ≤ 65536) (ha : OwnInts w lo hi v ar) (hg : g < lo) (hh : hi ≤ w.heap.size) (hr : ∀ x ∈ ar, 0 ≤ x ∧ x ≤ 2) (hl : ar.length ≤ 1048576) (hm : m ≤ 64) :
    Calls Try.prog 69 #[.pointer (some ⟨g, 0, none⟩), v, .int .i64 m] w fun e w' => ∃ (A : Option Addr) (c : Nat) (fs : List LFact) (q : Nat), e = .returned (.slice A fs.length c) ∧ fs.length ≤ m ∧ tot fs ≤ 3 * m ∧ q ≤ p + 2 + 24 * m ∧
      OwnFacts w' w.heap.size w'.heap.size (.slice A fs.length c) fs ∧ Rdr w' g bs q ∧ Only g (g + 1) w w' := by
  obtain ⟨A0, c0, rfl⟩ := ha.form
  have hgl := h.lt
  have H := Lib.hid h
  have HA := Lib.hid ha
  have HR0 := Lib.hid hr
  clear h ha hr
  go_enter Try.func69, Try.ntmps69
  go_wp2_with (fail)
  refine (pick_any g bs p _ _ (H.out.below (below1 _ _) hgl) (by omega) (by omega)).mono ?_
  rintro e w1 ⟨⟨x, rfl, hx⟩, hpk⟩
  obtain ⟨j, rfl⟩ : ∃ j : Nat, x = (j : Int) := ⟨x.toNat, by have := hx.1 (by omega); omega⟩
  have hj : j ≤ m := by have := hx.1 (by omega); omega
  have HS := Lib.hid (show OwnFacts w1 w.heap.size w1.heap.size (.slice (some ⟨w.heap.size, 0, none⟩) 0 0) [] from (((ColRel.empty w).own.own.mono (Nat.le_refl _) (Nat.le_refl _)).offG hpk.2 hgl).mono (Nat.le_refl _) hpk.2.size)
  have HR1 := Lib.hid hpk.1
  have HO1 := Lib.hid ((Only.of_below (below1 w _)).trans hpk.2)
  clear hpk hx
  go_wp2_with (fail)
  go_loopw [7, 8] (fun o i wr => ∃ (k : Nat) (fs : List LFact) (A : Option Addr) (c q : Nat), i = .int .i64 k ∧ fs.length + k ≤ m ∧ tot fs + 3 * k ≤ 3 * m ∧ q + 24 * k ≤ p + 1 + 24 * m ∧ o = .slice A fs.length c ∧ OwnFacts wr w.heap.size wr.heap.size (.slice A fs.length c) fs ∧ Rdr wr g bs q ∧ Only g (g + 1) w wr) (fun _ i _ => (intOf i).toNat)
  case atStart => exact ⟨j, [], _, 0, p + 1, rfl, by simpa using hj, by have : tot [] = 0 := rfl; omega, by omega, rfl, HS.out, HR1.out, HO1.out⟩
  case round =>
    obtain ⟨k, fs, A, c, q, rfl, hk, htk, hqk, rfl, ho, hrd, hon⟩ := hrel
    have HO := Lib.hid ho
    have HRD := Lib.hid hrd
    have hsz := hon.size
    have HN := Lib.hid hon
    have hfl : fs.length ≤ m := by omega
    clear ho hrd hon
    by_cases hlt : 0 < k
    · obtain ⟨k, rfl⟩ : ∃ k', k = k' + 1 := ⟨k - 1, by omega⟩
      have hd : decide ((0 : Int) < ((k + 1 : Nat) : Int)) = true := by simp
      go_wp2_with (fail)
      refine (l1Fact_own g bs q lo hi _ ar wr HRD.out (by omega) (HA.out.offG HN.out hg) hg (Nat.le_trans hh hsz) HR0.out hl).mono ?_
      rintro e w2 ⟨A3, c3, f, q3, rfl, hf, hq3, ho, hR, hO⟩
      have HF := Lib.hid ho
      have HR2 := Lib.hid hR
      have HO2 := Lib.hid hO
      have hs2 := hO.size
      clear ho hR hO
      go_wp2_with (fail)
      have RA := Lib.hid (show RdInts (w2.alloc (Obj.cells #[Value.int IntKind.i64 f.fst, Value.slice A3 f.snd.length c3] 26)) (w2.alloc (Obj.cells #[Value.int IntKind.i64 f.fst, Value.slice A3 f.snd.length c3] 26)).heap.size (.slice A0 ar.length c0) ar from
        (((HA.out.offG HN.out hg).offG HO2.out hg).rd.more (by omega)).on (below1 w2 _))
      have RB := Lib.hid (show RdFact (w2.alloc (Obj.cells #[Value.int IntKind.i64 f.fst, Value.slice A3 f.snd.length c3] 26)) (w2.alloc (Obj.cells #[Value.int IntKind.i64 f.fst, Value.slice A3 f.snd.length c3] 26)).heap.size (.agg #[.int .i64 f.1, .slice A3 f.2.length c3]) f from
        RdFact.on ⟨_, rfl, HF.out.rd⟩ (below1 w2 _))
      refine (specFactOk_any _ _ ar f _ RA.out RB.out hl (by omega)).mono ?_
      rintro e w3 ⟨rfl, hb3⟩
      have B3 := bthen (below1 w2 _) hb3
      have hs3 := B3.size
      have K3 : Blk w3 w2.heap.size 26 #[.int .i64 f.1, .slice A3 f.2.length c3] := (Blk.new w2 _ _).below hb3 (by simp)
      have O3 : OwnFacts w3 w.heap.size wr.heap.size (.slice A fs.length c) fs := (HO.out.offG HO2.out (by omega)).below B3 hs2
      have F3 : OwnInts w3 wr.heap.size w2.heap.size (.slice A3 f.2.length c3) f.2 := HF.out.below B3 (Nat.le_refl _)
      have R3 := HR2.out.below B3 HR2.out.lt
      have N3 := HN.out.trans (HO2.out.trans (Only.of_below (lo := g) (hi := g + 1) B3))
      have hbd := factsWith_bound fs f
      have hgr : g < w3.heap.size := R3.lt
      clear hb3 B3 HRD HR2 HO2 HO HF RA RB HN
      cases hok : factOk ar f
      · have HX3 := Lib.hid (And.intro O3 (And.intro F3 (And.intro R3 N3)))
        have HK3 := Lib.hid K3
        clear O3 F3 N3 K3
        have HR3 := Lib.hid R3
        clear R3
        go_wp2_with (fail)
        refine (pick_any g bs q3 _ _ HR3.out (by omega) (by omega)).mono ?_
        rintro e w4 ⟨⟨x, rfl, _⟩, hpk⟩
        have hs4 := hpk.2.size
        have K4 := HK3.out.only hpk.2 (.inr (by omega))
        obtain ⟨O3, F3, _, N3⟩ := HX3.out
        have O4 := (O3.offG hpk.2 (by omega)).mono (Nat.le_refl _) (show wr.heap.size ≤ w4.heap.size by omega)
        have F4 := (F3.offG hpk.2 (by omega)).rd.more (show w2.heap.size ≤ w4.heap.size by omega)
        have R4 := hpk.1
        have N4 := N3.trans hpk.2
        have k0 : w4.cell? ⟨w2.heap.size, 0, none⟩ = some (.int .i64 f.1) := K4.cell 0
        have k1 : w4.cell? ⟨w2.heap.size, 1, none⟩ = some (.slice A3 f.2.length c3) := K4.cell 1
        clear hpk O3 F3 N3 K4 HX3 HK3 HR3
        have HX4 := Lib.hid (And.intro O4 (And.intro F4 (And.intro R4 N4)))
        clear O4 F4 R4 N4
        by_cases hx0 : x = 0
        · subst hx0
          go_wp2_with (fail)
          refine (specFactsWith_any _ _ fs f _ HX4.out.1.rd ⟨_, rfl, HX4.out.2.1⟩ (by omega) (by omega) (by omega)).mono ?_
          rintro e w5 ⟨A5, c5, rfl, ho5, hb5⟩
          have HE := Lib.hid (show OwnFacts w5 w.heap.size w5.heap.size _ _ from ho5.mono (by omega) (Nat.le_refl _))
          have HR5 := Lib.hid (HX4.out.2.2.1.below hb5 (by omega))
          have HN5 := Lib.hid (HX4.out.2.2.2.trans (Only.of_below (lo := g) (hi := g + 1) hb5))
          clear ho5 hb5
          go_wp2_with (fail)
          go_roundw
          case rel => exact ⟨k, factsWith fs f, A5, c5, q3 + 1, by go_num, by omega, by omega, by omega, rfl, HE.out, HR5.out, HN5.out⟩
          case measure => simp [intOf]
        · have hd0 : (x == 0) = false := by simpa using hx0
          go_wp2_with (fail)
          go_roundw
          case rel => exact ⟨k, fs, A, c, q3 + 1, by go_num, by omega, by omega, by omega, rfl, HX4.out.1, HX4.out.2.2.1, HX4.out.2.2.2⟩
          case measure => simp [intOf]
      · have k0 : w3.cell? ⟨w2.heap.size, 0, none⟩ = some (.int .i64 f.1) := K3.cell 0
        have k1 : w3.cell? ⟨w2.heap.size, 1, none⟩ = some (.slice A3 f.2.length c3) := K3.cell 1
        have HX3 := Lib.hid (And.intro O3 (And.intro F3 (And.intro R3 N3)))
        clear O3 F3 R3 N3 K3
        go_wp2_with (fail)
        refine (specFactsWith_any _ _ fs f _ (HX3.out.1.rd.more (by omega)) ⟨_, rfl, HX3.out.2.1.rd.more (by omega)⟩ (by omega) (by omega) (by omega)).mono ?_
        rintro e w5 ⟨A5, c5, rfl, ho5, hb5⟩
        have HE := Lib.hid (show OwnFacts w5 w.heap.size w5.heap.size _ _ from ho5.mono (by omega) (Nat.le_refl _))
        have HR5 := Lib.hid (HX3.out.2.2.1.below hb5 (by omega))
        have HN5 := Lib.hid (HX3.out.2.2.2.trans (Only.of_below (lo := g) (hi := g + 1) hb5))
        clear ho5 hb5
        go_wp2_with (fail)
        go_roundw
        case rel => exact ⟨k, factsWith fs f, A5, c5, q3, by go_num, by omega, by omega, by omega, rfl, HE.out, HR5.out, HN5.out⟩
        case measure => simp [intOf]
    · have hk0 : k = 0 := by omega
      subst hk0
      by_cases h1 : 1 < fs.length
      · obtain ⟨f0, f1, fs, rfl⟩ : ∃ f0 f1 fs', fs = f0 :: f1 :: fs' := by
          rcases fs with _ | ⟨f0, _ | ⟨f1, fs⟩⟩
          · simp at h1
          · simp at h1
          · exact ⟨f0, f1, fs, rfl⟩
        have hd1 : decide ((1 : Int) < ((f0 :: f1 :: fs).length : Int)) = true := by simp only [List.length_cons]; simp; omega
        go_wp2_with (fail)
        refine (pick_any g bs q _ _ HRD.out (by omega) (by omega)).mono ?_
        rintro e w3 ⟨⟨x, rfl, _⟩, hpk⟩
        have O3 := (HO.out.offG hpk.2 hgl).mono (Nat.le_refl _) hpk.2.size
        have HN3 := Lib.hid (HN.out.trans hpk.2)
        have HR3 := Lib.hid hpk.1
        have hs3 := hpk.2.size
        clear hpk
        by_cases hx0 : x = 0
        · subst hx0
          obtain ⟨g2, cp, B0, d0, B1, d1, e0, hlo, hhi, k0, k1, k2, k3, kf, hsw⟩ := O3.swap (Nat.le_refl _)
          injection e0 with e1 _ e3
          subst e1
          subst e3
          have f0' := kf 0
          have f1' := kf 1
          have f2' := kf 2
          have f3' := kf 3
          have HSW := Lib.hid hsw
          clear hsw kf
          go_wp2_with (fail)
          go_ret
          refine ⟨some ⟨g2, 0, none⟩, _, f1 :: f0 :: fs, q + 1, rfl, by simpa using hk, by simp only [tot_cons] at htk ⊢; omega, by omega, ?_⟩
          have hso := HSW.out w3 (Below.refl _ _)
          have hkb : ∀ b, b ≠ g2 → ((((w3.setCell ⟨g2, 0, none⟩ (.int .i64 f1.1)).setCell ⟨g2, 1, none⟩ (.slice B1 f1.2.length d1)).setCell ⟨g2, 2, none⟩ (.int .i64 f0.1)).setCell ⟨g2, 3, none⟩ (.slice B0 f0.2.length d0)).heap[b]? = w3.heap[b]? := fun b hne =>
            (Below.heap_setCell _ ⟨g2, 3, none⟩ _ _ hne).trans ((Below.heap_setCell _ ⟨g2, 2, none⟩ _ _ hne).trans ((Below.heap_setCell _ ⟨g2, 1, none⟩ _ _ hne).trans (Below.heap_setCell _ ⟨g2, 0, none⟩ _ _ hne)))
          have hN3 := HN3.out
          have hR3 := HR3.out
          have ho : Only g (g + 1) w ((((w3.setCell ⟨g2, 0, none⟩ (.int .i64 f1.1)).setCell ⟨g2, 1, none⟩ (.slice B1 f1.2.length d1)).setCell ⟨g2, 2, none⟩ (.int .i64 f0.1)).setCell ⟨g2, 3, none⟩ (.slice B0 f0.2.length d0)) :=
            ⟨hN3.os, hN3.tape, hN3.output, by simpa using hN3.size, fun k hk hn => (hkb k (by omega)).trans (hN3.block k hk hn)⟩
          have hsz4 : ((((w3.setCell ⟨g2, 0, none⟩ (.int .i64 f1.1)).setCell ⟨g2, 1, none⟩ (.slice B1 f1.2.length d1)).setCell ⟨g2, 2, none⟩ (.int .i64 f0.1)).setCell ⟨g2, 3, none⟩ (.slice B0 f0.2.length d0)).heap.size = w3.heap.size := by simp
          have hr4 := hR3.same (w' := ((((w3.setCell ⟨g2, 0, none⟩ (.int .i64 f1.1)).setCell ⟨g2, 1, none⟩ (.slice B1 f1.2.length d1)).setCell ⟨g2, 2, none⟩ (.int .i64 f0.1)).setCell ⟨g2, 3, none⟩ (.slice B0 f0.2.length d0))) fun k hk => hkb k (by omega)
          exact ⟨(hso.below (below1 _ _) (by omega)).mono (Nat.le_refl _) (by rw [World.size_alloc]; omega), hr4.below (below1 _ _) (by omega), ho.trans (Only.of_below (below1 _ _))⟩
        · have hd0 : (x == 0) = false := by simpa using hx0
          have HO3 := Lib.hid O3
          clear O3
          go_wp2_with (fail)
          go_ret
          exact ⟨A, c, f0 :: f1 :: fs, q + 1, rfl, by simpa using hk, by simpa using htk, by omega, HO3.out, HR3.out, HN3.out⟩
      · have hd1 : decide ((1 : Int) < (fs.length : Int)) = false := by simp; omega
        go_wp2_with (fail)
        go_ret
        exact ⟨A, c, fs, q, rfl, by simpa using hk, by simpa using htk, by omega, HO.out, HRD.out, HN.out⟩

end Go.Proofs.Ytfdbjoncadjhcaa
/-
  Two lists of facts drawn: the arguments of FactsEither.
-/
namespace Go.Proofs.Ytfdbjoncadjhcaa
open Go.RowKit

/-- A call's two lists. -/
def TwoFacts (w w' : World) (e : Ending) : Prop := ∃ (A : Option Addr) (c : Nat) (fs : List LFact) (A2 : Option Addr) (c2 : Nat) (gs : List LFact), e = .returned (.tuple #[.slice A fs.length c, .slice A2 gs.length c2]) ∧ fs.length ≤ 6 ∧ tot fs ≤ 18 ∧ gs.length ≤ 6 ∧ tot gs ≤ 18 ∧
  RdFacts w' w'.heap.size (.slice A fs.length c) fs ∧ RdFacts w' w'.heap.size (.slice A2 gs.length c2) gs ∧ Below w.heap.size w w'

set_option maxHeartbeats 1000000 in
set_option maxRecDepth 100000 in
theorem l1Two_any (v : Value) (bs : List Nat) (w : World) (h : RdBytes w w.heap.size v bs) (hby : ∀ b ∈ bs, b < 256) (hn : bs.length ≤ 1073741824) :
    Calls Try.prog 77 #[v] w fun e w' => TwoFacts w w' e := by
  have H := Lib.hid h
  clear h
  go_enter Try.func77, Try.ntmps77
  go_wp2_with (fail)
  refine (l40Open_any v bs _ H.out hby hn).mono ?_
  rintro e w1 ⟨rfl, hr1, B1⟩
  have HR := Lib.hid hr1
  have hz1 := hr1.lt
  clear hr1
  go_wp2_with (fail)
  refine (l1Arity_any w.heap.size (bs.take 2000) 0 3 _ HR.out (by omega) (by omega)).mono ?_
  rintro e w2 ⟨A2, c2, ar, rfl, hd⟩
  have hlen := hd.len
  have HI := Lib.hid (show OwnInts w2 w1.heap.size w2.heap.size (.slice A2 3 c2) ar from hd.ints)
  have HD := Lib.hid hd.rdr
  have HG := Lib.hid hd.range
  have B2 := B1.trans (hd.only.below (Nat.le_refl _) (by omega))
  have hz2 := hd.only.size
  clear hd
  go_wp2_with (fail)
  refine (l1Some_any w.heap.size (bs.take 2000) 3 6 w1.heap.size w2.heap.size _ ar w2 HD.out (by omega) HI.out (by omega) (Nat.le_refl _) HG.out (by omega) (by omega)).mono ?_
  rintro e w3 ⟨A3, c3, fs, q, rfl, hf, htf, hq, ho, hR, hO⟩
  have HF := Lib.hid ho
  have HR3 := Lib.hid hR
  have hz3 := hO.size
  have HI3 := Lib.hid (HI.out.offG hO (by omega))
  have B3 := B2.trans (hO.below (Nat.le_refl _) (by omega))
  clear ho hR hO HD
  go_wp2_with (fail)
  refine (l1Some_any w.heap.size (bs.take 2000) q 6 w1.heap.size w2.heap.size _ ar w3 HR3.out (by omega) HI3.out (by omega) hz3 HG.out (by omega) (by omega)).mono ?_
  rintro e w4 ⟨A4, c4, gs, q4, rfl, hg, htg, hq4, ho, hR, hO⟩
  have HF4 := Lib.hid ((HF.out.offG hO (by omega)).rd.more hO.size)
  have HG4 := Lib.hid ho.rd
  have B4 := Lib.hid (B3.trans (hO.below (Nat.le_refl _) (by omega)))
  clear ho hR hO B3 B2 B1
  go_wp2_with (fail)
  refine bodyPost_ret (v := .tuple #[.slice A3 fs.length c3, .slice A4 gs.length c4]) (by simp [results, Try.results77, go_sem]) rfl ?_
  exact ⟨A3, c3, fs, A4, c4, gs, rfl, hf, htf, hg, htg, HF4.out, HG4.out, B4.out⟩

end Go.Proofs.Ytfdbjoncadjhcaa
/-
  The arguments of FactsOk and of ArityOk drawn.
-/
namespace Go.Proofs.Ytfdbjoncadjhcaa
open Go.RowKit

/-- A row of one's own that is not empty: its block, its cells. -/
theorem OwnInts.room {w : World} {lo hi c n : Nat} {A : Option Addr} {xs : List Int} (h : OwnInts w lo hi (.slice A n c) xs) (hn : 0 < xs.length) :
    ∃ g, A = some ⟨g, 0, none⟩ ∧ lo ≤ g ∧ g < hi ∧ g < w.heap.size ∧ (∀ k (hk : k < xs.length), w.cell? ⟨g, k, none⟩ = some (.int .i64 xs[k])) ∧ ∀ k, w.frozen? ⟨g, k, none⟩ = false := by
  obtain ⟨g, cap, e, _, _⟩ := h.1.form hn
  injection e with e1 e2 e3
  subst e1
  subst e2
  obtain ⟨l1, l2, l3⟩ := h.lt (g := g) rfl
  obtain ⟨A', c', e, _, hx⟩ := h.rd
  injection e with e1 _ _
  obtain ⟨b, o, e2, _, hx⟩ := hx hn
  rw [← e1] at e2
  injection e2 with e2
  injection e2 with e2 e3 _
  subst e2
  subst e3
  exact ⟨g, rfl, l1, l2, l3, fun k hk => by simpa using hx k hk, fun k => World.ownsRow.frozenAt h.1 k⟩

set_option maxHeartbeats 1000000 in
set_option maxRecDepth 100000 in
theorem drawFactsOk_any (v : Value) (bs : List Nat) (w : World) (h : RdBytes w w.heap.size v bs) (hby : ∀ b ∈ bs, b < 256) (hn : bs.length ≤ 1073741824) :
    Calls Try.prog 23 #[v] w fun e w' => ∃ (A2 : Option Addr) (c2 : Nat) (ar : List Int) (A : Option Addr) (c : Nat) (fs : List LFact), e = .returned (.tuple #[.slice A2 ar.length c2, .slice A fs.length c]) ∧ ar.length = 3 ∧ (∀ x ∈ ar, 0 ≤ x ∧ x ≤ 2) ∧ fs.length ≤ 6 ∧ tot fs ≤ 18 ∧
      RdInts w' w'.heap.size (.slice A2 ar.length c2) ar ∧ RdFacts w' w'.heap.size (.slice A fs.length c) fs ∧ Below w.heap.size w w' := by
  have H := Lib.hid h
  clear h
  go_enter Try.func23, Try.ntmps23
  go_wp2_with (fail)
  refine (l40Open_any v bs _ H.out hby hn).mono ?_
  rintro e w1 ⟨rfl, hr1, B1⟩
  have HR := Lib.hid hr1
  have hz1 := hr1.lt
  clear hr1
  go_wp2_with (fail)
  refine (l1Arity_any w.heap.size (bs.take 2000) 0 3 _ HR.out (by omega) (by omega)).mono ?_
  rintro e w2 ⟨A2, c2, ar, rfl, hd⟩
  have HLEN := Lib.hid hd.len
  have HI := Lib.hid (show OwnInts w2 w1.heap.size w2.heap.size (.slice A2 3 c2) ar from hd.ints)
  have HD := Lib.hid hd.rdr
  have HG := Lib.hid hd.range
  have B2 := B1.trans (hd.only.below (Nat.le_refl _) (by omega))
  have hz2 := hd.only.size
  clear hd
  go_wp2_with (fail)
  refine (l1Some_any w.heap.size (bs.take 2000) 3 6 w1.heap.size w2.heap.size _ ar w2 HD.out (by omega) HI.out (by omega) (Nat.le_refl _) HG.out (by have := HLEN.out; omega) (by omega)).mono ?_
  rintro e w3 ⟨A3, c3, fs, q, rfl, hf, htf, hq, ho, hR, hO⟩
  have HF := Lib.hid ho.rd
  have HI3 := Lib.hid ((HI.out.offG hO (by omega)).rd.more (show w2.heap.size ≤ w3.heap.size from hO.size))
  have B3 := Lib.hid (B2.trans (hO.below (Nat.le_refl _) (by omega)))
  clear ho hR hO HD B2 B1
  go_wp2_with (fail)
  refine bodyPost_ret (v := .tuple #[.slice A2 3 c2, .slice A3 fs.length c3]) (by simp [results, Try.results23, go_sem]) rfl ?_
  exact ⟨A2, c2, ar, A3, c3, fs, by rw [HLEN.out], HLEN.out, HG.out, hf, htf, by rw [HLEN.out]; exact HI3.out, HF.out, B3.out⟩

set_option maxHeartbeats 2000000 in
set_option maxRecDepth 100000 in
theorem drawArityOk_any (v : Value) (bs : List Nat) (w : World) (h : RdBytes w w.heap.size v bs) (hby : ∀ b ∈ bs, b < 256) (hn : bs.length ≤ 1073741824) :
    Calls Try.prog 25 #[v] w fun e w' => ∃ (A : Option Addr) (c : Nat) (xs : List Int), e = .returned (.slice A xs.length c) ∧ xs.length ≤ 25 ∧ RdInts w' w'.heap.size (.slice A xs.length c) xs ∧ Below w.heap.size w w' := by
  have H := Lib.hid h
  clear h
  go_enter Try.func25, Try.ntmps25
  go_wp2_with (fail)
  refine (l40Open_any v bs _ H.out hby hn).mono ?_
  rintro e w1 ⟨rfl, hr1, B1⟩
  have HR := Lib.hid hr1
  have hz1 := hr1.lt
  clear hr1
  go_wp2_with (fail)
  refine (num_any w.heap.size (bs.take 2000) 0 w1.heap.size _ [3, 4, 0, 24, 25, 6] 6 _ (HR.out.below (below1 w1 _) hz1) (by omega) (Blk.new w1 _ _) (by simp) (by omega) rfl (by simp) (by simp)).mono ?_
  rintro e w2 ⟨⟨x, rfl, hx⟩, hpk⟩
  obtain ⟨m, rfl⟩ : ∃ m : Nat, x = (m : Int) := ⟨x.toNat, by simp at hx; omega⟩
  have hm : m ≤ 25 := by simp at hx; omega
  have HR2 := Lib.hid hpk.1
  have B2 : Below w.heap.size w w2 := (bthen B1 (below1 w1 _)).trans (hpk.2.below (Nat.le_refl _) (by simp; omega))
  have hz2 : w1.heap.size < w2.heap.size := by have := hpk.2.size; simp at this; omega
  clear hpk hx
  go_wp2_with (fail)
  refine (l1Arity_any w.heap.size (bs.take 2000) 1 m _ HR2.out (by omega) (by omega)).mono ?_
  rintro e w3 ⟨A3, c3, xs, rfl, hd⟩
  have HLEN := Lib.hid hd.len
  have HI := Lib.hid (show OwnInts w3 w2.heap.size w3.heap.size (.slice A3 m c3) xs from hd.ints)
  have HD := Lib.hid hd.rdr
  have B3 := B2.trans (hd.only.below (Nat.le_refl _) (by omega))
  have hz3 := hd.only.size
  clear hd
  have done : ∀ (W : World) (ys : List Int), Below w.heap.size w W → ys.length = m → RdInts W W.heap.size (.slice A3 m c3) ys → ∃ (A : Option Addr) (c : Nat) (xs : List Int), Ending.returned (.slice A3 m c3) = .returned (.slice A xs.length c) ∧ xs.length ≤ 25 ∧ RdInts W W.heap.size (.slice A xs.length c) xs ∧ Below w.heap.size w W := fun W ys hW hl hr =>
    ⟨A3, c3, ys, by rw [hl], by omega, by rw [hl]; exact hr, hW⟩
  have DONE := Lib.hid done
  clear done
  by_cases hm0 : 0 < m
  · have hd0 : decide ((m : Int) > 0) = true := decide_eq_true (by omega)
    go_wp2_with (fail)
    refine (pick_any w.heap.size (bs.take 2000) (1 + m) 6 _ HD.out (by omega) (by omega)).mono ?_
    rintro e w4 ⟨⟨y, rfl, _⟩, hpk⟩
    have HR4 := Lib.hid hpk.1
    have HI4 := Lib.hid (HI.out.offG hpk.2 (by omega))
    have B4 := B3.trans (hpk.2.below (Nat.le_refl _) (by omega))
    have hz4 := hpk.2.size
    clear hpk
    by_cases hy0 : y = 0
    · subst hy0
      go_wp2_with (fail)
      refine (pick_any w.heap.size (bs.take 2000) (1 + m + 1) m _ HR4.out (by omega) (by omega)).mono ?_
      rintro e w5 ⟨⟨j, rfl, hj⟩, hpk⟩
      obtain ⟨j, rfl⟩ : ∃ i : Nat, j = (i : Int) := ⟨j.toNat, by have := hj.1 (by omega); omega⟩
      have hjm : j < m := by have := hj.1 (by omega); omega
      have HR5 := Lib.hid hpk.1
      have HI5 := Lib.hid (HI4.out.offG hpk.2 (by omega))
      have B5 := B4.trans (hpk.2.below (Nat.le_refl _) (by omega))
      have hz5 := hpk.2.size
      clear hpk hj
      go_wp2_with (fail)
      refine (num_any w.heap.size (bs.take 2000) (1 + m + 1 + 1) w5.heap.size _ [3, -1] 2 _ (HR5.out.below (below1 w5 _) (by omega)) (by omega) (Blk.new w5 _ _) (by simp) (by omega) rfl (by simp) (by simp)).mono ?_
      rintro e w6 ⟨⟨x, rfl, _⟩, hpk⟩
      have hI6 : OwnInts w6 w2.heap.size w3.heap.size (.slice A3 m c3) xs := (HI5.out.below (below1 w5 _) (by omega)).offG hpk.2 (by omega)
      have B6 : Below w.heap.size w w6 := (B5.trans ((below1 w5 _).mono (by omega))).trans (hpk.2.below (Nat.le_refl _) (by simp; omega))
      have hz6 := hpk.2.size
      simp at hz6
      clear hpk
      have hI6' : OwnInts w6 w2.heap.size w3.heap.size (.slice A3 xs.length c3) xs := by rw [HLEN.out]; exact hI6
      obtain ⟨gA, hA, hlo, hhi, hlt, hcells, hfro⟩ := hI6'.room (by rw [HLEN.out]; exact hm0)
      have hjx : j < xs.length := by rw [HLEN.out]; exact hjm
      have hc := hcells j hjx
      have hf := hfro j
      have hst := hI6'.store hA (j := j) hjx x
      have HST := Lib.hid (DONE.out (w6.setCell ⟨gA, j, none⟩ (.int .i64 x)) (xs.set j x) (B6.setCell (by show w.heap.size ≤ gA; omega) _) (by rw [List.length_set]; exact HLEN.out) (by
        have := (hst.rd.more (show w3.heap.size ≤ (w6.setCell ⟨gA, j, none⟩ (.int .i64 x)).heap.size by simp; omega))
        rw [HLEN.out] at this
        exact this))
      subst hA
      obtain ⟨z0, hz0⟩ : ∃ z0, z0 = xs[j] := ⟨_, rfl⟩
      rw [← hz0] at hc
      clear hcells hfro hst hI6 hI6' hz0
      go_wp2_with (fail)
      go_ret
      exact HST.out
    · have hd1 : (y == 0) = false := by simpa using hy0
      have HF := Lib.hid (DONE.out w4 xs B4 HLEN.out (HI4.out.rd.more (by omega)))
      go_wp2_with (fail)
      go_ret
      exact HF.out
  · have hd0 : decide ((m : Int) > 0) = false := decide_eq_false (by omega)
    have HF := Lib.hid (DONE.out w3 xs B3 HLEN.out HI.out.rd)
    go_wp2_with (fail)
    go_ret
    exact HF.out

end Go.Proofs.Ytfdbjoncadjhcaa
/-
  The walks of FactsOk: the program's and the specification's.
-/
namespace Go.Proofs.Ytfdbjoncadjhcaa
open Go.RowKit

def roundOk (ar : List Int) (fs : List LFact) (k : Nat) : Bool := factFits ar (fs.getD k (0, [])) && (decide (k = 0) || decide (factOrder (fs.getD (k - 1) (0, [])) (fs.getD k (0, [])) < 0))
def factsOk (ar : List Int) (fs : List LFact) : Bool := arityOk ar && (List.range fs.length).all (roundOk ar fs)
def OkTo (ar : List Int) (fs : List LFact) (k : Nat) : Prop := (List.range k).all (roundOk ar fs) = true
theorem OkTo.step {ar : List Int} {fs : List LFact} {k : Nat} (h : OkTo ar fs k) (e : roundOk ar fs k = true) : OkTo ar fs (k + 1) := by
  unfold OkTo at h ⊢
  rw [List.range_succ, List.all_append, h]
  simp [e]
theorem round_not {ar : List Int} {fs : List LFact} {k : Nat} (hk : k < fs.length) (e : roundOk ar fs k = false) : factsOk ar fs = false := by
  unfold factsOk
  have : (List.range fs.length).all (roundOk ar fs) = false := by
    rw [List.all_eq_false]
    exact ⟨k, List.mem_range.2 hk, by simp [e]⟩
  rw [this, Bool.and_false]
theorem getD_at {α : Type} {l : List α} {k : Nat} (h : k < l.length) {d : α} : l.getD k d = l[k] := by simp [h]
theorem round_first {ar : List Int} {fs : List LFact} {k : Nat} (hk : k < fs.length) (h : factFits ar fs[k] = true) (h0 : k = 0) : roundOk ar fs k = true := by
  unfold roundOk
  rw [getD_at hk, h]
  simp [h0]
theorem round_next {ar : List Int} {fs : List LFact} {j : Nat} (hk : j + 1 < fs.length) (hj : j < fs.length) (h : factFits ar fs[j + 1] = true) : roundOk ar fs (j + 1) = decide (factOrder fs[j] fs[j + 1] < 0) := by
  unfold roundOk
  rw [getD_at hk, h, Nat.add_sub_cancel, getD_at hj]
  simp
theorem round_unfit {ar : List Int} {fs : List LFact} {k : Nat} (hk : k < fs.length) (h : factFits ar fs[k] = false) : roundOk ar fs k = false := by
  unfold roundOk
  rw [getD_at hk, h]
  simp
theorem later_fact {w0 : World} {v : Value} {f : LFact} (h : RdFact w0 w0.heap.size v f) (x : Later w0) : RdFact x.val x.val.heap.size v f := h.on x.2
theorem later_ints {w0 : World} {v : Value} {f : List Int} (h : RdInts w0 w0.heap.size v f) (x : Later w0) : RdInts x.val x.val.heap.size v f := h.on x.2

set_option maxHeartbeats 1000000 in
set_option maxRecDepth 100000 in
theorem specFactsOk_any (v v2 : Value) (ar : List Int) (fs : List LFact) (w : World) (h : RdInts w w.heap.size v ar) (h2 : RdFacts w w.heap.size v2 fs) (hr : ar.length ≤ 1048576) (hn : fs.length ≤ 1048576) (ht : tot fs ≤ 1048576) :
    Calls Try.prog 26 #[v, v2] w fun e w' => e = .returned (.bool (factsOk ar fs)) ∧ Below w.heap.size w w' := by
  have H := Lib.hid h
  have H2 := Lib.hid h2
  obtain ⟨A, c, rfl, hc, _⟩ := h
  obtain ⟨A2, c2, rfl, hc2, _⟩ := h2
  go_enter Try.func26, Try.ntmps26
  go_wp2_with (fail)
  go_loopw [5] (fun i wr => ∃ k : Nat, k ≤ fs.length ∧ i = .int .i64 k ∧ OkTo ar fs k ∧ Below w.heap.size w wr) (fun i _ => fs.length - (intOf i).toNat)
  case atStart => exact ⟨0, Nat.zero_le _, rfl, by simp [OkTo], Below.refl _ _⟩
  case round =>
    obtain ⟨k, hk, rfl, hs, hbe⟩ := hrel
    by_cases hlt : k < fs.length
    · obtain ⟨b, o, A3, c3, rfl, hbB, k1, k2, k3⟩ := (H2.out.on hbe).get hlt
      have K3 := Lib.hid (show RdFact wr wr.heap.size (.agg #[.int .i64 fs[k].1, .slice A3 fs[k].2.length c3]) fs[k] from ⟨_, rfl, k3⟩)
      have hln := len_le_tot fs k hlt
      have L1 := later_cell k1
      have L2 := later_cell k2
      clear k1 k2 k3
      by_cases hfo : factOk ar fs[k] = true
      · have CF := Lib.hid (fun x : Later wr => (specFactOk_any _ _ ar fs[k] x.val ((H.out.on hbe).on x.2) (K3.out.on x.2) hr (by omega)).mono fun e w' (hh : e = .returned (.bool (factOk ar fs[k])) ∧ Below x.val.heap.size x.val w') => (⟨by rw [hh.1, hfo], hh.2⟩ : e = .returned (.bool true) ∧ Below x.val.heap.size x.val w'))
        have hff : factFits ar fs[k] = true := by
          unfold factOk at hfo
          exact (Bool.and_eq_true _ _ ▸ hfo).2
        have HA := Lib.hid (show arityOk ar = true by
          unfold factOk at hfo
          exact (Bool.and_eq_true _ _ ▸ hfo).1)
        clear hfo
        rcases Nat.eq_zero_or_pos k with hk0 | hk0
        · have hd : decide (0 < k) = false := by simp [hk0]
          have HS := Lib.hid (hs.step (round_first hlt hff hk0) : OkTo ar fs (k + 1))
          clear hs hk0 hff
          go_wp2_with (fail)
          refine wp_region_later (by kernel_rfl) (by kernel_rfl) ?_
          repeat (go_big_quiet_step ((go_at_call 71; exact later_of (CF.out _))))
          refine wpQuiet_nil ?_
          rintro _ ⟨xq, rfl⟩
          go_wp2_with (fail)
          go_roundw
          case rel => exact ⟨k + 1, by omega, by go_num, HS.out, bthen hbe xq.2⟩
          case measure => simp [intOf]; omega
        · obtain ⟨j, rfl⟩ : ∃ j, k = j + 1 := ⟨k - 1, by omega⟩
          have hltj : j < fs.length := by omega
          obtain ⟨b', o', A4, c4, e4, hbB', m1, m2, m3⟩ := (H2.out.on hbe).get hltj
          simp only [Option.some.injEq, Addr.mk.injEq, and_true] at e4
          obtain ⟨rfl, rfl⟩ := e4
          have K4 := Lib.hid (show RdFact wr wr.heap.size (.agg #[.int .i64 fs[j].1, .slice A4 fs[j].2.length c4]) fs[j] from ⟨_, rfl, m3⟩)
          have hlnj := len_le_tot fs j hltj
          have M1 := later_cell m1
          have M2 := later_cell m2
          have CO := Lib.hid (fun x : Later wr => specFactOrder_any _ _ fs[j] fs[j + 1] x.val (K4.out.on x.2) (K3.out.on x.2) (by omega) (by omega))
          clear m1 m2 m3
          by_cases hlo : factOrder fs[j] fs[j + 1] < 0
          · have hd : decide (0 ≤ factOrder fs[j] fs[j + 1]) = false := by simp; omega
            have HS := Lib.hid (hs.step (by rw [round_next hlt hltj hff]; simp [hlo]) : OkTo ar fs (j + 1 + 1))
            clear hs hff
            go_wp2_with (fail)
            refine wp_region_later (by kernel_rfl) (by kernel_rfl) ?_
            repeat (go_big_quiet_step (first | (go_at_call 71; exact later_of (CF.out _)) | (go_at_call 72; exact later_of (CO.out _))))
            refine wpQuiet_nil ?_
            rintro _ ⟨xq, rfl⟩
            go_wp2_with (fail)
            go_roundw
            case rel => exact ⟨j + 1 + 1, by omega, by go_num, HS.out, bthen hbe xq.2⟩
            case measure => simp [intOf]; omega
          · have hd : decide (0 ≤ factOrder fs[j] fs[j + 1]) = true := by simp; omega
            have HE := Lib.hid (show factsOk ar fs = false from round_not hlt (by rw [round_next hlt hltj hff]; simp [hlo]))
            clear hs hff
            go_wp2_with (fail)
            refine wp_region_later (by kernel_rfl) (by kernel_rfl) ?_
            repeat (go_big_quiet_step (first | (go_at_call 71; exact later_of (CF.out _)) | (go_at_call 72; exact later_of (CO.out _))))
            refine wpQuiet_nil ?_
            rintro _ ⟨xq, rfl⟩
            go_wp2_with (fail)
            go_ret
            exact ⟨ret_bool HE.out.symm, bthen hbe xq.2⟩
      · have CF := Lib.hid (fun x : Later wr => (specFactOk_any _ _ ar fs[k] x.val ((H.out.on hbe).on x.2) (K3.out.on x.2) hr (by omega)).mono fun e w' (hh : e = .returned (.bool (factOk ar fs[k])) ∧ Below x.val.heap.size x.val w') => (⟨by rw [hh.1, show factOk ar fs[k] = false by simpa using hfo], hh.2⟩ : e = .returned (.bool false) ∧ Below x.val.heap.size x.val w'))
        have HE := Lib.hid (show factsOk ar fs = false by
          by_cases ha : arityOk ar = true
          · exact round_not hlt (round_unfit hlt (by simpa [factOk, ha] using hfo))
          · simp [factsOk, ha])
        clear hs hfo
        go_wp2_with (fail)
        refine wp_region_later (by kernel_rfl) (by kernel_rfl) ?_
        repeat (go_big_quiet_step ((go_at_call 71; exact later_of (CF.out _))))
        refine wpQuiet_nil ?_
        rintro _ ⟨xq, rfl⟩
        go_wp2_with (fail)
        go_ret
        exact ⟨ret_bool HE.out.symm, bthen hbe xq.2⟩
    · have hkn : k = fs.length := by omega
      have HE := Lib.hid (show factsOk ar fs = arityOk ar by unfold factsOk; unfold OkTo at hs; rw [← hkn, hs, Bool.and_true])
      clear hkn hs
      go_wp2_with (fail)
      refine (specArityOk_any _ ar _ (H.out.on hbe) (by omega)).mono ?_
      rintro e w2 ⟨rfl, rfl⟩
      go_wp2_with (fail)
      go_ret
      exact ⟨ret_bool HE.out.symm, hbe⟩

end Go.Proofs.Ytfdbjoncadjhcaa
/-
  Facts are ones just if each is, in order: plain mathematics.
-/
namespace Go.Proofs.Ytfdbjoncadjhcaa
open Go.RowKit

/-- One fact of a list told by FactOk and by its order with the one ahead. -/
def tellOk (ar : List Int) (fs : List LFact) (k : Nat) : Bool := factOk ar (fs.getD k (0, [])) && (decide (k = 0) || decide (factOrder (fs.getD (k - 1) (0, [])) (fs.getD k (0, [])) < 0))
def tellTo (ar : List Int) (fs : List LFact) (k : Nat) : Bool := (List.range k).all (tellOk ar fs)
theorem tellTo_step (ar : List Int) (fs : List LFact) (k : Nat) : tellTo ar fs (k + 1) = (tellTo ar fs k && tellOk ar fs k) := by
  unfold tellTo
  rw [List.range_succ, List.all_append]
  simp
theorem tellTo_all {ar : List Int} (fs : List LFact) (ha : arityOk ar = true) : tellTo ar fs fs.length = factsOk ar fs := by
  unfold tellTo factsOk
  rw [ha, Bool.true_and]
  congr 1
  funext k
  unfold tellOk roundOk factOk
  rw [ha, Bool.true_and]

end Go.Proofs.Ytfdbjoncadjhcaa
/-
  The walk of the program's FactsOk.
-/
namespace Go.Proofs.Ytfdbjoncadjhcaa
open Go.RowKit

set_option maxHeartbeats 1000000 in
set_option maxRecDepth 100000 in
theorem implFactsOk_any (v v2 : Value) (ar : List Int) (fs : List LFact) (w : World) (h : RdInts w w.heap.size v ar) (h2 : RdFacts w w.heap.size v2 fs) (hr : ar.length ≤ 1048576) (hn : fs.length ≤ 1048576) (ht : tot fs ≤ 1048576) :
    Calls Try.prog 24 #[v, v2] w fun e w' => e = .returned (.bool (factsOk ar fs)) ∧ Below w.heap.size w w' := by
  have H := Lib.hid h
  have H2 := Lib.hid h2
  obtain ⟨A, c, rfl, hc, _⟩ := h
  obtain ⟨A2, c2, rfl, hc2, _⟩ := h2
  go_enter Try.func24, Try.ntmps24
  go_wp2_with (fail)
  refine (arityOk_any _ ar _ H.out (by omega)).mono ?_
  rintro e w1 ⟨rfl, hb1⟩
  by_cases ha : arityOk ar = true
  · rw [ha]
    have HA := Lib.hid ha
    clear ha
    go_wp2_with (fail)
    go_loopw [5, 6, 12] (fun _ _ i wr => ∃ k : Nat, k ≤ fs.length ∧ i = .int .i64 k ∧ OkTo ar fs k ∧ Below w.heap.size w wr) (fun _ _ i _ => fs.length - (intOf i).toNat)
    case atStart => exact ⟨0, Nat.zero_le _, rfl, by simp [OkTo], hb1⟩
    case round =>
      obtain ⟨k, hk, rfl, hs, hbe⟩ := hrel
      by_cases hlt : k < fs.length
      · obtain ⟨b, o, A3, c3, rfl, hbB, k1, k2, k3⟩ := (H2.out.on hbe).get hlt
        have K3 := Lib.hid (show RdFact wr wr.heap.size (.agg #[.int .i64 fs[k].1, .slice A3 fs[k].2.length c3]) fs[k] from ⟨_, rfl, k3⟩)
        have hln := len_le_tot fs k hlt
        clear k3
        go_wp2_with (fail)
        obtain ⟨w2, hw2⟩ : ∃ w2, w2 = wr.alloc (Obj.cells #[Value.int IntKind.i64 fs[k].1, Value.slice A3 fs[k].2.length c3] 26) := ⟨_, rfl⟩
        have B2 : Below wr.heap.size wr w2 := by rw [hw2]; exact below1 _ _
        have x2 : Blk w2 wr.heap.size 26 #[.int .i64 fs[k].1, .slice A3 fs[k].2.length c3] := by rw [hw2]; exact Blk.new _ _ _
        rw [← hw2]
        clear hw2
        refine (factFits_any _ _ ar fs[k] _ ((H.out.on hbe).on B2) (K3.out.on B2) (by omega)).mono ?_
        rintro e w3 ⟨rfl, hb3⟩
        have B3 := bthen B2 hb3
        have BW3 := bthen hbe B3
        have x3 := x2.below hb3 x2.lt
        by_cases hff : factFits ar fs[k] = true
        · rw [hff]
          rcases Nat.eq_zero_or_pos k with hk0 | hk0
          · have hd : decide (0 < k) = false := by simp [hk0]
            have HS := Lib.hid (hs.step (round_first hlt hff hk0) : OkTo ar fs (k + 1))
            clear hs hk0 hff
            go_wp2_with (fail)
            refine wp_region_later (by kernel_rfl) (by kernel_rfl) ?_
            repeat (go_big_quiet_step (fail))
            refine wpQuiet_nil ?_
            rintro _ ⟨xq, rfl⟩
            go_wp2_with (fail)
            go_roundw
            case rel => exact ⟨k + 1, by omega, by go_num, HS.out, bthen BW3 xq.2⟩
            case measure => simp [intOf]; omega
          · obtain ⟨j, rfl⟩ : ∃ j, k = j + 1 := ⟨k - 1, by omega⟩
            have hltj : j < fs.length := by omega
            obtain ⟨b', o', A4, c4, e4, hbB', m1, m2, m3⟩ := (H2.out.on BW3).get hltj
            simp only [Option.some.injEq, Addr.mk.injEq, and_true] at e4
            obtain ⟨rfl, rfl⟩ := e4
            have K4 := Lib.hid (show RdFact w3 w3.heap.size (.agg #[.int .i64 fs[j].1, .slice A4 fs[j].2.length c4]) fs[j] from ⟨_, rfl, m3⟩)
            have hlnj := len_le_tot fs j hltj
            have M1 := later_cell m1
            have M2 := later_cell m2
            have X0 := later_cell (x3.cell 0 : w3.cell? ⟨wr.heap.size, 0, none⟩ = some (.int .i64 fs[j + 1].1))
            have X1 := later_cell (x3.cell 1 : w3.cell? ⟨wr.heap.size, 1, none⟩ = some (.slice A3 fs[j + 1].2.length c3))
            have CO := Lib.hid (fun x : Later w3 => implFactOrder_any _ _ fs[j] fs[j + 1] x.val (K4.out.on x.2) ((K3.out.on B3).on x.2) (by omega) (by omega))
            clear m1 m2 m3 k1 k2
            by_cases hlo : factOrder fs[j] fs[j + 1] < 0
            · have hd : decide (0 ≤ factOrder fs[j] fs[j + 1]) = false := by simp; omega
              have HS := Lib.hid (hs.step (by rw [round_next hlt hltj hff]; simp [hlo]) : OkTo ar fs (j + 1 + 1))
              clear hs hff
              go_wp2_with (fail)
              refine wp_region_later (by kernel_rfl) (by kernel_rfl) ?_
              repeat (go_big_quiet_step ((go_at_call 16; exact later_of (CO.out _))))
              refine wpQuiet_nil ?_
              rintro _ ⟨xq, rfl⟩
              go_wp2_with (fail)
              go_roundw
              case rel => exact ⟨j + 1 + 1, by omega, by go_num, HS.out, bthen BW3 xq.2⟩
              case measure => simp [intOf]; omega
            · have hd : decide (0 ≤ factOrder fs[j] fs[j + 1]) = true := by simp; omega
              have HE := Lib.hid (show factsOk ar fs = false from round_not hlt (by rw [round_next hlt hltj hff]; simp [hlo]))
              clear hs hff
              go_wp2_with (fail)
              refine wp_region_later (by kernel_rfl) (by kernel_rfl) ?_
              repeat (go_big_quiet_step ((go_at_call 16; exact later_of (CO.out _))))
              refine wpQuiet_nil ?_
              rintro _ ⟨xq, rfl⟩
              go_wp2_with (fail)
              go_ret
              exact ⟨ret_bool HE.out.symm, bthen BW3 xq.2⟩
        · have HE := Lib.hid (show factsOk ar fs = false from round_not hlt (round_unfit hlt (by simpa using hff)))
          rw [show factFits ar fs[k] = false by simpa using hff]
          clear hs hff
          go_wp2_with (fail)
          go_ret
          exact ⟨ret_bool HE.out.symm, BW3⟩
      · have hkn : k = fs.length := by omega
        have HE := Lib.hid (show factsOk ar fs = true by unfold factsOk; unfold OkTo at hs; rw [← hkn, hs, HA.out]; rfl)
        clear hkn hs
        go_wp2_with (fail)
        go_ret
        exact ⟨ret_bool HE.out.symm, hbe⟩
  · have HE := Lib.hid (show factsOk ar fs = false by simp [factsOk, ha])
    rw [show arityOk ar = false by simpa using ha]
    clear ha
    go_wp2_with (fail)
    go_ret
    exact ⟨ret_bool HE.out.symm, hb1⟩

end Go.Proofs.Ytfdbjoncadjhcaa
/-
  wrFacts on two slices that read as the same facts.
-/
namespace Go.Proofs.Ytfdbjoncadjhcaa
open Go.RowKit

theorem cmpL_self (xs : List Int) : cmpL xs xs = 0 := by
  induction xs with
  | nil => simp [cmpL]
  | cons x xs ih => simp [cmpL, ih]
theorem factOrder_self (f : LFact) : factOrder f f = 0 := by simp [factOrder, cmpL_self]

set_option maxHeartbeats 1000000 in
set_option maxRecDepth 100000 in
theorem wrFacts_yes (v v2 : Value) (fs : List LFact) (w : World) (h : RdFacts w w.heap.size v fs) (h2 : RdFacts w w.heap.size v2 fs) (hn : fs.length ≤ 1048576) (ht : tot fs ≤ 1048576) :
    Calls Try.prog 32 #[v, v2] w fun e w' => e = .returned (.bool true) ∧ Below w.heap.size w w' := by
  have H := Lib.hid h
  have H2 := Lib.hid h2
  obtain ⟨A, c, rfl, hc, _⟩ := h
  obtain ⟨A2, c2, rfl, hc2, _⟩ := h2
  have hnn : ((fs.length : Int) != (fs.length : Int)) = false := by simp
  go_enter Try.func32, Try.ntmps32
  go_wp2_with (fail)
  go_loopw [5, 13] (fun _ i wr => ∃ k : Nat, k ≤ fs.length ∧ i = .int .i64 k ∧ Below w.heap.size w wr) (fun _ i _ => fs.length - (intOf i).toNat)
  case atStart => exact ⟨0, Nat.zero_le _, rfl, Below.refl _ _⟩
  case round =>
    obtain ⟨k, hk, rfl, hbe⟩ := hrel
    by_cases hlt : k < fs.length
    · obtain ⟨b, o, A3, c3, rfl, hbB, k1, k2, k3⟩ := (H.out.on hbe).get hlt
      have K3 := Lib.hid (show RdFact wr wr.heap.size (.agg #[.int .i64 fs[k].1, .slice A3 fs[k].2.length c3]) fs[k] from ⟨_, rfl, k3⟩)
      obtain ⟨b', o', A4, c4, rfl, hbB', m1, m2, m3⟩ := (H2.out.on hbe).get hlt
      have K4 := Lib.hid (show RdFact wr wr.heap.size (.agg #[.int .i64 fs[k].1, .slice A4 fs[k].2.length c4]) fs[k] from ⟨_, rfl, m3⟩)
      have hln := len_le_tot fs k hlt
      have L1 := later_cell k1
      have L2 := later_cell k2
      have M1 := later_cell m1
      have M2 := later_cell m2
      have CO := Lib.hid (fun x : Later wr => (implFactOrder_any _ _ fs[k] fs[k] x.val (K3.out.on x.2) (K4.out.on x.2) (by omega) (by omega)).mono fun e w' (hh : e = .returned (.int .i64 (factOrder fs[k] fs[k])) ∧ Below x.val.heap.size x.val w') => (⟨by rw [hh.1, factOrder_self], hh.2⟩ : e = .returned (.int .i64 0) ∧ Below x.val.heap.size x.val w'))
      clear k1 k2 k3 m1 m2 m3
      go_wp2_with (fail)
      refine wp_region_later (by kernel_rfl) (by kernel_rfl) ?_
      repeat (go_big_quiet_step ((go_at_call 16; exact later_of (CO.out _))))
      refine wpQuiet_nil ?_
      rintro _ ⟨xq, rfl⟩
      go_wp2_with (fail)
      go_roundw
      case rel => exact ⟨k + 1, by omega, by go_num, bthen hbe xq.2⟩
      case measure => simp [intOf]; omega
    · have hkn : k = fs.length := by omega
      have hdk : decide ((k : Int) < (fs.length : Int)) = false := by simp; omega
      go_wp2_with (fail)
      go_ret
      exact ⟨rfl, hbe⟩

end Go.Proofs.Ytfdbjoncadjhcaa
/-
  The arguments of AllFacts drawn; the order turned round.
-/
namespace Go.Proofs.Ytfdbjoncadjhcaa
open Go.RowKit

theorem cmpI_turn (a b : Int) : cmpI a b = -cmpI b a := by
  unfold cmpI
  split <;> split <;> (try split) <;> omega
theorem cmpL_turn : ∀ xs ys : List Int, cmpL xs ys = -cmpL ys xs
  | [], [] => rfl
  | [], _ :: _ => rfl
  | _ :: _, [] => rfl
  | x :: xs, y :: ys => by
    unfold cmpL
    by_cases h : x = y
    · subst h
      simpa using cmpL_turn xs ys
    · rw [if_neg h, if_neg (fun e => h e.symm)]
      exact cmpI_turn x y
theorem factOrder_turn (f g : LFact) : factOrder f g = -factOrder g f := by
  unfold factOrder
  by_cases h : f.1 = g.1
  · rw [if_pos h, if_pos h.symm]
    exact cmpL_turn _ _
  · rw [if_neg h, if_neg (fun e => h e.symm)]
    exact cmpI_turn _ _

end Go.Proofs.Ytfdbjoncadjhcaa
/-
  The arguments of FactOk and of FactOrder drawn.
-/
namespace Go.Proofs.Ytfdbjoncadjhcaa
open Go.RowKit

/-- The two cells of a result's block set, of blocks behind it. -/
theorem keepTwo {w w3 : World} {lo hi lo2 hi2 : Nat} {v v2 : Value} {xs ys : List Int} {t : TypeId} {a b : Value} (h : Blk w3 w.heap.size t #[a, b]) (hv : OwnInts w3 lo hi v xs) (hv2 : OwnInts w3 lo2 hi2 v2 ys) (h1 : w.heap.size < lo) (h2 : w.heap.size < lo2) (hb : Below w.heap.size w w3) (x : Int) (u : Value) :
    Blk ((w3.setCell ⟨w.heap.size, 0, none⟩ (.int .i64 x)).setCell ⟨w.heap.size, 1, none⟩ u) w.heap.size t #[.int .i64 x, u] ∧ OwnInts ((w3.setCell ⟨w.heap.size, 0, none⟩ (.int .i64 x)).setCell ⟨w.heap.size, 1, none⟩ u) lo hi v xs ∧
    OwnInts ((w3.setCell ⟨w.heap.size, 0, none⟩ (.int .i64 x)).setCell ⟨w.heap.size, 1, none⟩ u) lo2 hi2 v2 ys ∧ Below w.heap.size w ((w3.setCell ⟨w.heap.size, 0, none⟩ (.int .i64 x)).setCell ⟨w.heap.size, 1, none⟩ u) :=
  ⟨by simpa using (h.set_ 0 (.int .i64 x)).set_ 1 u, (hv.set (.inl h1) _).set (.inl h1) _, (hv2.set (.inl h2) _).set (.inl h2) _, (hb.setCell (Nat.le_refl _) _).setCell (Nat.le_refl _) _⟩

theorem RdBytes.on {w w' : World} {v : Value} {bs : List Nat} (h : RdBytes w w.heap.size v bs) (hb : Below w.heap.size w w') : RdBytes w' w'.heap.size v bs := by
  obtain ⟨A, c, rfl, hc, hx⟩ := h.off (w' := w') (fun k hk => hb.block k hk)
  refine ⟨A, c, rfl, hc, fun hn => ?_⟩
  obtain ⟨b, o, rfl, hlt, hk⟩ := hx hn
  exact ⟨b, o, rfl, by have := hb.size; omega, hk⟩

end Go.Proofs.Ytfdbjoncadjhcaa
/-
  What comes in, opened: integers.
-/
namespace Go.Proofs.Ytfdbjoncadjhcaa
open Go.ChangeShapes Go.WideShapes Go.ChangeAt Go.RowKit Go.Joins Go.Deep

theorem Try.own : ownKnob Try.prog.godebug = none := by kernel_rfl
theorem Try.laidOut : laidOutB Try.prog = true := by kernel_rfl
theorem Try.cells3 : Try.prog.cellsOf 3 = 1 := by kernel_rfl
theorem Try.cells23 : Try.prog.cellsOf 23 = 1 := by kernel_rfl

section
variable {H : Type} {enc : TypeId × Value → H} {W : World}

/-- What is known of a slice of integers that came in. -/
def InInts (W : World) (v : Value) (xs : List Int) : Prop := RdInts W W.heap.size v xs ∧ xs.length ≤ maxLen

/-- The cells of a slice of integers. -/
theorem open_inInts_cells {fuel : Nat} {v : Value} {x : DataW H × List MemPlace} (h : DataW.trod enc Try.prog W 0 (fun _ => true) true fuel 23 [v] = some x) : ∃ xs, InInts W v xs := by
  rcases open_ints Try.underlying23 Try.underlying3 Try.cells3 h with ⟨hcs, _⟩ | ⟨a, len, cap, zs, hcs, _, hl, hm, hz, _, hcell, _⟩
  · simp at hcs
    subst hcs
    exact ⟨[], ⟨none, 0, rfl, by simp, fun h => absurd h (by simp)⟩, by simp⟩
  · simp at hcs
    subst hcs
    simp at hz
    refine ⟨zs.take len, ⟨some a, cap, ?_, by simp; omega, fun hn => ?_⟩, by simp; omega⟩
    · congr 1
      simp
      omega
    · have hlen : (zs.take len).length = len := by simp; omega
      obtain ⟨b, o, rfl, hc⟩ := ints_at hcell (by omega)
      refine ⟨b, o, rfl, World.block_lt_of_cell? _ _ (hc 0 (by omega)), fun k hk => ?_⟩
      rw [hc k (by omega)]
      simp [show k < zs.length by omega]

set_option maxRecDepth 100000 in
theorem open_inInts {v : Value} {d : DataW H} {p : List MemPlace} {b0 : Nat} (hv : Value.okWide Try.prog W .any b0 23 v) (h : DataW.Trod enc Try.prog W 0 (fun _ => true) true 23 v d p) :
    ∃ xs, InInts W v xs := by
  obtain ⟨a, len, cap, rfl⟩ := okWide_slice Try.underlying23 hv
  obtain ⟨fuel, hf⟩ := h
  exact open_inInts_cells (by simpa [Value.cells] using hf)

/-- What is known of an int that came in. -/
def InInt (v : Value) (n : Int) : Prop := v = .int .i64 n ∧ -9223372036854775808 ≤ n ∧ n ≤ 9223372036854775807

set_option maxRecDepth 100000 in
theorem open_inInt {v : Value} {d : DataW H} {p : List MemPlace} {b0 : Nat} (hv : Value.okWide Try.prog W .any b0 3 v) (h : DataW.Trod enc Try.prog W 0 (fun _ => true) true 3 v d p) : ∃ n, InInt v n := by
  obtain ⟨n, rfl, _, _, hw⟩ := open_int Try.underlying3 hv h
  exact ⟨n, rfl, bounds_i64 hw⟩
end

end Go.Proofs.Ytfdbjoncadjhcaa
/-
  What comes in, opened into the words of the Base text.
-/
namespace Go.Proofs.Ytfdbjoncadjhcaa
open Go.ChangeShapes Go.WideShapes Go.ChangeAt Go.RowKit Go.Joins Go.Deep

section
variable {H : Type} {enc : TypeId × Value → H} {W : World}

def InFact (W : World) (v : Value) (f : LFact) : Prop := RdFact W W.heap.size v f ∧ f.2.length ≤ maxLen
def InFacts (W : World) (v : Value) (fs : List LFact) : Prop := RdFacts W W.heap.size v fs ∧ fs.length ≤ maxLen ∧ ∀ k (h : k < fs.length), fs[k].2.length ≤ maxLen

end

end Go.Proofs.Ytfdbjoncadjhcaa
/-
  A slice of bytes that came in.
-/
namespace Go.Proofs.Ytfdbjoncadjhcaa
open Go.ChangeShapes Go.WideShapes Go.ChangeAt Go.RowKit Go.Joins Go.Deep

theorem Try.cells5 : Try.prog.cellsOf 5 = 1 := by kernel_rfl

/-- What is known of a slice of bytes that came in. -/
def InBytes (W : World) (v : Value) (bs : List Nat) : Prop := RdBytes W W.heap.size v bs ∧ bs.length ≤ maxLen ∧ ∀ b ∈ bs, b < 256

theorem byte_of_wf {n : Int} (h : (Lit.int .u8 n).wf = true) : 0 ≤ n ∧ n < 256 := by
  simp only [Lit.wf, Bool.and_eq_true, decide_eq_true_eq] at h
  have h1 : IntKind.u8.min = 0 := by decide
  have h2 : IntKind.u8.max = 255 := by decide
  omega

set_option maxRecDepth 100000 in
theorem open_inBytes {H : Type} {enc : TypeId × Value → H} {W : World} {v : Value} {d : DataW H} {p : List MemPlace} {b0 : Nat} (hv : Value.okWide Try.prog W .any b0 22 v) (h : DataW.Trod enc Try.prog W 0 (fun _ => true) true 22 v d p) :
    ∃ bs, InBytes W v bs := by
  obtain ⟨a, len, cap, rfl⟩ := okWide_slice Try.underlying22 hv
  obtain ⟨fuel, hf⟩ := h
  have hf : DataW.trod enc Try.prog W 0 (fun _ => true) true fuel 22 [.slice a len cap] = some (d, p) := by simpa [Value.cells] using hf
  rcases open_ints Try.underlying22 Try.underlying5 Try.cells5 hf with ⟨hcs, _⟩ | ⟨a, len, cap, zs, hcs, _, hl, hm, hz, _, hcell, hwz⟩
  · simp at hcs
    obtain ⟨rfl, rfl, rfl⟩ := hcs
    exact ⟨[], ⟨none, 0, rfl, by simp, fun h => absurd h (by simp)⟩, by simp, by simp⟩
  · simp at hcs
    obtain ⟨rfl, rfl, rfl⟩ := hcs
    simp at hz
    refine ⟨(zs.take len).map Int.toNat, ⟨some a, cap, ?_, by simp; omega, fun hn => ?_⟩, by simp; omega, ?_⟩
    · congr 1
      simp
      omega
    · have hlen : (zs.take len).length = len := by simp; omega
      simp only [List.length_map, hlen] at hn
      obtain ⟨b, o, rfl, hc⟩ := ints_at hcell (by omega)
      refine ⟨b, o, rfl, World.block_lt_of_cell? _ _ (hc 0 (by omega)), fun k hk => ?_⟩
      simp only [List.length_map, hlen] at hk
      have hw := byte_of_wf (hwz zs[k] (List.getElem_mem (by omega)))
      rw [hc k (by omega)]
      simp [show k < zs.length by omega]
      omega
    · intro b hb
      rw [List.mem_map] at hb
      obtain ⟨z, hz1, rfl⟩ := hb
      have := byte_of_wf (hwz z (List.mem_of_mem_take hz1))
      omega

end Go.Proofs.Ytfdbjoncadjhcaa
/-
  The walk of the law FnFactsOk.
-/
namespace Go.Proofs.Ytfdbjoncadjhcaa
open Go.RowKit

set_option maxHeartbeats 4000000 in
set_option maxRecDepth 100000 in
theorem lawPlainFactsOk_any (v : Value) (bs : List Nat) (w : World) (hr : RdBytes w w.heap.size v bs) (_ : bs.length ≤ maxLen) (hby : ∀ b ∈ bs, b < 256) :
    Calls Try.prog 5 #[v] w fun e w' => e = .returned (.bool true) ∧ Below w.heap.size w w' := by
  have HV := Lib.hid hr
  obtain ⟨Av, cv, rfl, hcv, _⟩ := hr
  go_enter Try.func5, Try.ntmps5
  by_cases hbig : 1048576 < bs.length
  · have hd : decide ((1048576 : Int) < bs.length) = true := by simp; omega
    go_wp2_with (fail)
    go_ret
    exact ⟨rfl, Below.refl _ _⟩
  · have hd : decide ((1048576 : Int) < bs.length) = false := by simp; omega
    have hbn : bs.length ≤ 1073741824 := by omega
    go_wp2_with (fail)
    refine (drawFactsOk_any _ bs _ HV.out hby hbn).mono ?_
    rintro e w1 ⟨A2, c2, ar, A, c, fs, rfl, har, hrg, hfl, htf, ra, rf, B1⟩
    have HAR := Lib.hid har
    have harn : ar.length ≤ 24 := by omega
    have HRG := Lib.hid hrg
    have HA := Lib.hid ra
    have HF := Lib.hid rf
    clear ra rf har hrg
    obtain ⟨R, hR⟩ : ∃ R, R = factsOk ar fs := ⟨_, rfl⟩
    have HR := Lib.hid hR
    have HOKA := Lib.hid (show arityOk ar = true from by
      unfold arityOk
      rw [decide_eq_true harn, Bool.true_and, List.all_eq_true]
      intro x hx
      exact decide_eq_true (HRG.out x hx))
    clear hR
    go_wp2_with (fail)
    refine (implFactsOk_any _ _ ar fs w1 HA.out HF.out (by omega) (by omega) (by omega)).mono ?_
    rw [← HR.out]
    rintro e w2 ⟨rfl, b2⟩
    have HA2 := Lib.hid (HA.out.on b2)
    have HF2 := Lib.hid (HF.out.on b2)
    have B2 := bthen B1 b2
    clear b2 HA HF B1
    go_wp2_with (fail)
    refine (drawArityOk_any _ bs w2 (HV.out.on B2) hby hbn).mono ?_
    rintro e w3 ⟨A4, c4, xs, rfl, hxl, rx, b3⟩
    have HX := Lib.hid rx
    have HA3 := Lib.hid (HA2.out.on b3)
    have HF3 := Lib.hid (HF2.out.on b3)
    have B3 := bthen B2 b3
    clear rx b3 HA2 HF2 B2
    go_wp2_with (fail)
    refine (specFactsOk_any _ _ ar fs w3 HA3.out HF3.out (by omega) (by omega) (by omega)).mono ?_
    rw [← HR.out]
    rintro e w4 ⟨rfl, b4⟩
    have HX4 := Lib.hid (HX.out.on b4)
    have HA4 := Lib.hid (HA3.out.on b4)
    have HF4 := Lib.hid (HF3.out.on b4)
    have B4 := bthen B3 b4
    have gR : (R != R) = false := by simp
    obtain ⟨Z, hZ⟩ : ∃ Z, Z = arityOk xs := ⟨_, rfl⟩
    have HZ := Lib.hid hZ
    have gZ : (Z != Z) = false := by simp
    clear b4 HX HA3 HF3 B3 hZ
    go_wp2_with (fail)
    refine (arityOk_any _ xs w4 HX4.out (by omega)).mono ?_
    rw [← HZ.out]
    rintro e w5 ⟨rfl, b5⟩
    have HX5 := Lib.hid (HX4.out.on b5)
    have HA5 := Lib.hid (HA4.out.on b5)
    have HF5 := Lib.hid (HF4.out.on b5)
    have B5 := bthen B4 b5
    clear b5 HX4 HA4 HF4 B4
    go_wp2_with (fail)
    refine (specArityOk_any _ xs w5 HX5.out (by omega)).mono ?_
    rw [← HZ.out]
    rintro e w6 ⟨rfl, rfl⟩
    clear HX5
    go_wp2_with (fail)
    go_loopw [7, 37] (fun va vi wr => ∃ (k : Nat) (t : Bool), k ≤ fs.length ∧ vi = .int .i64 k ∧ va = .bool t ∧ t = tellTo ar fs k ∧ Below w5.heap.size w5 wr) (fun _ vi _ => fs.length - (intOf vi).toNat)
    case atStart => exact ⟨0, true, Nat.zero_le _, rfl, rfl, rfl, Below.refl _ _⟩
    case round =>
      obtain ⟨k, t, hk, rfl, rfl, ht, hbe⟩ := hrel
      by_cases hlt : k < fs.length
      · obtain ⟨b, o, A3, c3, rfl, hbB, k0, k1, k2⟩ := (HF5.out.on hbe).get hlt
        have hln := len_le_tot fs k hlt
        have HST := Lib.hid (tellTo_step ar fs k)
        have hgd : fs.getD k (0, []) = fs[k] := by simp [hlt]
        have hok : tellOk ar fs k = (factOk ar fs[k] && (decide (k = 0) || decide (factOrder (fs.getD (k - 1) (0, [])) fs[k] < 0))) := by unfold tellOk; rw [hgd]
        obtain ⟨f, hf⟩ : ∃ f, f = fs[k] := ⟨_, rfl⟩
        rw [← hf] at k0 k1 k2 hok hln
        have HFE := Lib.hid hf
        obtain ⟨a, ha⟩ : ∃ a, a = factOk ar f := ⟨_, rfl⟩
        rw [← ha] at hok
        have HOK := Lib.hid hok
        have HT := Lib.hid ht
        have HAE := Lib.hid ha
        clear hgd hok hf ht ha
        go_upto_region 12 with (fail)
        obtain ⟨wv, hwv⟩ : ∃ wv, wv = wr.alloc (Obj.cells #[Value.int IntKind.i64 f.fst, Value.slice A3 f.snd.length c3] 26) := ⟨_, rfl⟩
        rw [← hwv]
        have bv : Below wr.heap.size wr wv := by rw [hwv]; exact below1 _ _
        have z : Blk wv wr.heap.size 26 #[.int .i64 f.1, .slice A3 f.2.length c3] := by rw [hwv]; exact Blk.new _ _ _
        have Bv := bthen hbe bv
        have RF := Lib.hid (show RdFact wv wv.heap.size (.agg #[.int .i64 f.1, .slice A3 f.2.length c3]) f from RdFact.on ⟨_, rfl, k2⟩ bv)
        have CF := Lib.hid (show ∀ q : Later wv, Calls Try.prog 29 #[.slice A2 ar.length c2, .agg #[.int .i64 f.1, .slice A3 f.2.length c3]] q.val fun e w' => e = .returned (.bool a) ∧ Below q.val.heap.size q.val w' from
          fun q => by rw [HAE.out]; exact implFactOk_any _ _ ar f q.val ((HA5.out.on Bv).on q.2) (RF.out.on q.2) (by omega) (by omega))
        have z0 : wv.cell? ⟨wr.heap.size, 0, none⟩ = some (.int .i64 f.1) := z.cell 0
        have z1 : wv.cell? ⟨wr.heap.size, 1, none⟩ = some (.slice A3 f.2.length c3) := z.cell 1
        have Z0 := later_cell z0
        have Z1 := later_cell z1
        have HBV := Lib.hid Bv
        cases t
        · have HN := Lib.hid (show false = tellTo ar fs (k + 1) by rw [HST.out, ← HT.out]; rfl)
          clear hwv z z0 z1 k0 k1 k2 bv Bv hbe
          refine wp_region_later (by kernel_rfl) (by kernel_rfl) ?_
          repeat (go_big_quiet_step (fail))
          refine wpQuiet_nil ?_
          rintro _ ⟨xq, rfl⟩
          go_wp2_with (fail)
          go_roundw
          case rel => exact ⟨k + 1, false, by omega, by go_num, rfl, HN.out, bthen HBV.out xq.2⟩
          case measure => simp [intOf]; omega
        · cases a
          · have HN := Lib.hid (show false = tellTo ar fs (k + 1) by rw [HST.out, ← HT.out, HOK.out]; rfl)
            clear hwv z z0 z1 k0 k1 k2 bv Bv hbe
            refine wp_region_later (by kernel_rfl) (by kernel_rfl) ?_
            repeat (go_big_quiet_step ((go_at_call 29; exact later_of (CF.out _))))
            refine wpQuiet_nil ?_
            rintro _ ⟨xq, rfl⟩
            go_wp2_with (fail)
            go_roundw
            case rel => exact ⟨k + 1, false, by omega, by go_num, rfl, HN.out, bthen HBV.out xq.2⟩
            case measure => simp [intOf]; omega
          · rcases k with _ | j
            · have HN := Lib.hid (show true = tellTo ar fs (0 + 1) by rw [HST.out, ← HT.out, HOK.out]; rfl)
              clear hwv z z0 z1 k0 k1 k2 bv Bv hbe
              refine wp_region_later (by kernel_rfl) (by kernel_rfl) ?_
              repeat (go_big_quiet_step ((go_at_call 29; exact later_of (CF.out _))))
              refine wpQuiet_nil ?_
              rintro _ ⟨xq, rfl⟩
              go_wp2_with (fail)
              go_roundw
              case rel => exact ⟨1, true, by omega, by go_num, rfl, HN.out, bthen HBV.out xq.2⟩
              case measure => simp [intOf]; omega
            · have hj : j < fs.length := by omega
              obtain ⟨b9, o9, A6, c6, e9, hb9, m0, m1, m2⟩ := (HF5.out.on hbe).get hj
              injection e9 with e9
              injection e9 with e9 e10 _
              subst e9 e10
              have hlj := len_le_tot fs j hj
              obtain ⟨f0, hf0⟩ : ∃ f0, f0 = fs[j] := ⟨_, rfl⟩
              rw [← hf0] at m0 m1 m2 hlj
              obtain ⟨y, hy⟩ : ∃ y, y = factOrder f0 f := ⟨_, rfl⟩
              have HOJ := Lib.hid (show tellOk ar fs (j + 1) = decide (y < 0) by
                have hg : fs.getD (j + 1 - 1) (0, []) = f0 := by rw [hf0]; simp [hj]
                rw [HOK.out, hg, hy]
                simp)
              have CO := Lib.hid (show ∀ q : Later wv, Calls Try.prog 16 #[.agg #[.int .i64 f0.1, .slice A6 f0.2.length c6], .agg #[.int .i64 f.1, .slice A3 f.2.length c3]] q.val fun e w' => e = .returned (.int .i64 y) ∧ Below q.val.heap.size q.val w' from
                fun q => by rw [hy]; exact implFactOrder_any _ _ f0 f q.val (RdFact.on (RdFact.on ⟨_, rfl, m2⟩ bv) q.2) (RF.out.on q.2) (by omega) (by omega))
              have M0 := later_cell ((bv.cell (World.block_lt_of_cell? _ _ m0)).trans m0)
              have M1 := later_cell ((bv.cell (World.block_lt_of_cell? _ _ m1)).trans m1)
              have hj0 : (((j + 1 : Nat) : Int) == 0) = false := by simp; omega
              have hj1 : ((j : Int) + 1 == 0) = false := by simp; omega
              have hjs : ((j + 1 : Nat) : Int) - 1 = (j : Int) := by omega
              clear hwv z z0 z1 k0 k1 k2 bv Bv hbe m0 m1 m2 hf0 hy
              by_cases hy0 : y < 0
              · have hd0 : decide (y < 0) = true := decide_eq_true hy0
                have HN := Lib.hid (show true = tellTo ar fs (j + 1 + 1) by rw [HST.out, ← HT.out, HOJ.out, hd0]; rfl)
                refine wp_region_later (by kernel_rfl) (by kernel_rfl) ?_
                repeat (go_big_quiet_step (first | (go_at_call 29; exact later_of (CF.out _)) | (go_at_call 16; exact later_of (CO.out _))))
                refine wpQuiet_nil ?_
                rintro _ ⟨xq, rfl⟩
                go_wp2_with (fail)
                go_roundw
                case rel => exact ⟨j + 1 + 1, true, by omega, by go_num, rfl, HN.out, bthen HBV.out xq.2⟩
                case measure => simp [intOf]; omega
              · have hd0 : decide (y < 0) = false := decide_eq_false hy0
                have HN := Lib.hid (show false = tellTo ar fs (j + 1 + 1) by rw [HST.out, ← HT.out, HOJ.out, hd0]; rfl)
                refine wp_region_later (by kernel_rfl) (by kernel_rfl) ?_
                repeat (go_big_quiet_step (first | (go_at_call 29; exact later_of (CF.out _)) | (go_at_call 16; exact later_of (CO.out _))))
                refine wpQuiet_nil ?_
                rintro _ ⟨xq, rfl⟩
                go_wp2_with (fail)
                go_roundw
                case rel => exact ⟨j + 1 + 1, false, by omega, by go_num, rfl, HN.out, bthen HBV.out xq.2⟩
                case measure => simp [intOf]; omega
      · have HE := Lib.hid (show t = R by rw [ht, HR.out, show k = fs.length by omega]; exact tellTo_all fs HOKA.out)
        have gE : (R == t) = true := by rw [HE.out]; simp
        have HB := Lib.hid (bthen B5 hbe)
        clear ht hbe
        go_wp2_with (fail)
        go_ret
        exact ⟨rfl, HB.out⟩

theorem lawPlainFactsOk_in (v : Value) (bs : List Nat) (w : World) (h : InBytes w v bs) :
    Calls Try.prog 5 #[v] w fun e w' => e = .returned (.bool true) ∧ Below w.heap.size w w' := lawPlainFactsOk_any v bs w h.1 h.2.1 h.2.2

end Go.Proofs.Ytfdbjoncadjhcaa
namespace Go.Proofs.Ytfdbjoncadjhcaa
open Go.ChangeShapes Go.WideShapes Go.ChangeAt Go.RowKit

set_option maxRecDepth 100000 in
theorem fnFactsOk_lifted (os : Os) (started : os.Started) (H : Type) (enc : TypeId × Value → H) :
    ReturnsInHanded {} Try.checked os 5 .any (Rows.fnFactsOkSpec.pre6 enc Try.prog Try.f5 Rows.fnFactsOkRow.domain false) (Rows.fnFactsOkSpec.post enc Try.prog Try.f5 false true false false) := by
  refine returnsInHanded_of_change (C := Try.checked) Try.own started (by kernel_rfl) Try.func5
    (ChangeSpec.witness6 (enc := enc) (C := Try.checked) false ⟨#[], #[.slice none 0 0], []⟩ 8 (by kernel_rfl) (by kernel_rfl) (by kernel_rfl) (by kernel_rfl)) ?_
  intro W base args ds gs before hval0 hW hcnd _
  have hval : ∀ (j : Nat) t v, Try.f5.params[j]? = some t → args[j]? = some v → Value.okWide Try.prog W .any base t v := hval0
  have hW' := hW
  obtain ⟨p, q, hA0, hV, rfl, hfz, hnd⟩ := hW
  have hA : DataW.TrodAll enc Try.prog W 0 (fun _ => true) true Try.f5.params.toList args.toList ds p := hA0
  rw [Try.params5] at hA hval
  obtain ⟨v0, vs0, d0, ds0, p0, q0, hargs, rfl, rfl, h0, r0⟩ := trodAll_cons hA
  obtain ⟨rfl, rfl, rfl⟩ := trodAll_nil r0
  obtain rfl : args = #[v0] := by cases args; simp_all
  obtain ⟨rfl, rfl⟩ := trodVars_none hV
  have lt0 : ∀ x ∈ p0, x.block < W.heap.size := by obtain ⟨m, hm⟩ := h0; exact DataW.trod_lt m _ _ _ hm
  obtain ⟨x0, w0⟩ := open_inBytes (hval 0 22 v0 rfl rfl) h0
  clear hA0 hval0
  refine (lawPlainFactsOk_in v0 x0 W w0).mono fun e W' ⟨he, bel⟩ => ?_
  subst he
  exact ⟨_, rfl, _, _, _, [], _, [], hW', trodAll_mk1 (shut_bool Try.underlying4 _), (trodAll_cons_mk (Below.trod Try.laidOut (by kernel_rfl) (of_decide_eq_true (by kernel_rfl)) h0 bel lt0) trodAll_mk0), rfl, bel.frame _, fun h => by cases h⟩

theorem fnFactsOk_holds : Rows.FnFactsOkSaid :=
  OpenClaim.holds_of_wide 5 Try.f5 rfl rfl rfl rfl rfl rfl rfl ⟨rfl, rfl, rfl, rfl, rfl⟩ rfl rfl rfl rfl rfl (by kernel_rfl) Try.func5 (by kernel_rfl)
    (of_decide_eq_true (by kernel_rfl)) (by unfold Func.isWrapper; rw [if_neg (of_decide_eq_false (by kernel_rfl))]; exact ⟨rfl, rfl⟩)
    (fun os started H enc _ => fnFactsOk_lifted os started H enc)

end Go.Proofs.Ytfdbjoncadjhcaa
