/-
  The law FnExactConsequences: for every input the call returns true, and each argument reads behind it as it read before. Conditions: none but the row's own.
-/
import Derived.Test.YtcceololijefiaaGreatDoorChecked
import Derived.Deep.SlicePairs
import Derived.ProofKit
import Derived.OpenShut
import Derived.ChangeOld
import Derived.WalkKit
import Derived.Deep.Slices
import Derived.Deep.Fields
import Derived.ChangeSame
import Derived.Lib.SmallJoins
import Derived.KernelRfl
import Derived.Deep.RegionHeld3
import Derived.Deep.DeepCutAuto
import Derived.Deep.RegionWith
import Derived.Test.YtcceololijefiaaGreatDoorRows
import Derived.Test.YtcceololijefiaaGreatDoorCards
import Derived.Test.YtcceololijefiaaGreatDoorTie
import Derived.Lay
import Derived.SevenTiedAt
import Derived.Test.YtcceololijefiaaGreatDoorMCo1
import Derived.Test.YtcceololijefiaaGreatDoorMCo2
import Derived.Test.YtcceololijefiaaGreatDoorMCo5
import Derived.Test.YtcceololijefiaaGreatDoorMCo8
/-
  Consequences: the specification's and the program's.
-/
namespace Go.Proofs.YtcceololijefiaaGreatDoor
open Go.RowKit

set_option maxHeartbeats 4000000 in
set_option maxRecDepth 100000 in
theorem specConsequences_any (v v2 : Value) (p : LProg) (fs : List LFact) (w : World) (h : RdProg w w.heap.size v p) (h2 : RdFacts w w.heap.size v2 fs) (hs : szP p ≤ 1048576) (hn : fs.length ≤ 1048576) (ht : tot fs ≤ 1048576) :
    Calls Tryz.prog 6 #[v, v2] w fun e w' => ∃ A' c', e = .returned (.slice A' (consL p fs).length c') ∧ OwnFacts w' w.heap.size w'.heap.size (.slice A' (consL p fs).length c') (consL p fs) ∧ Below w.heap.size w w' := by
  have HP := Lib.hid h
  have H2 := Lib.hid h2
  have hs' := hs
  unfold szP at hs'
  obtain ⟨a, b, rfl, hA, hR⟩ := h
  have HA := Lib.hid hA
  have HR := Lib.hid hR
  obtain ⟨A, c, rfl, hcA, _⟩ := hA
  obtain ⟨A2, c2, rfl, hcR, _⟩ := hR
  obtain ⟨A3, c3, rfl, hcF, _⟩ := h2
  obtain ⟨po, hpo⟩ : ∃ po, po = progOk p := ⟨_, rfl⟩
  obtain ⟨fo, hfo⟩ : ∃ fo, fo = factsOk p.1 fs := ⟨_, rfl⟩
  obtain ⟨R, hRR⟩ : ∃ R, R = consL p fs := ⟨_, rfl⟩
  have HRR := Lib.hid (show R = if po && fo then headsAll p.2 fs else [] by rw [hRR, hpo, hfo]; rfl)
  rw [← hRR]
  clear hRR
  go_enter Tryz.func6, Tryz.ntmps6
  go_upto_region 1 with fail
  obtain ⟨w1, hw1⟩ : ∃ w1, w1 = w.alloc (Obj.cells #[Value.slice A p.1.length c, Value.slice A2 p.2.length c2] 33) := ⟨_, rfl⟩
  have X1 : Blk w1 w.heap.size 33 #[.slice A p.1.length c, .slice A2 p.2.length c2] := by rw [hw1]; exact Blk.new _ _ _
  have B1 : Below w.heap.size w w1 := by rw [hw1]; exact below1 _ _
  rw [← hw1]
  clear hw1
  have x0 : w1.cell? ⟨w.heap.size, 0, none⟩ = some (.slice A p.1.length c) := X1.cell 0
  have x1 : w1.cell? ⟨w.heap.size, 1, none⟩ = some (.slice A2 p.2.length c2) := X1.cell 1
  have CP := Lib.hid ((specProgramOk_any _ p w1 (HP.out.on B1) hs).mono fun e w' (hh : e = .returned (.bool (progOk p)) ∧ Below w1.heap.size w1 w') => (⟨by rw [hh.1, hpo], hh.2⟩ : e = .returned (.bool po) ∧ Below w1.heap.size w1 w'))
  have CF := Lib.hid (fun W (hW : Below w.heap.size w W) => (specFactsOk_any _ _ p.1 fs W (HA.out.on hW) (H2.out.on hW) (by omega) (by omega) (by omega)).mono fun e w' (hh : e = .returned (.bool (factsOk p.1 fs)) ∧ Below W.heap.size W w') => (⟨by rw [hh.1, hfo], hh.2⟩ : e = .returned (.bool fo) ∧ Below W.heap.size W w'))
  have HPO := Lib.hid hpo
  have HFO := Lib.hid hfo
  have HX1 := Lib.hid X1
  clear hpo hfo X1
  cases po
  · go_wp2_with (go_at_call 18; refine CP.out.mono ?_; rintro e w2 ⟨rfl, b2⟩; have B2 := Lib.hid (bthen B1 b2); clear b2)
    go_ret
    have e : R = [] := by rw [HRR.out]; rfl
    rw [e]
    exact ⟨none, 0, rfl, ⟨_, .nil, World.ownsRow_nil _ _ _ _, fun g hg => by cases hg⟩, B2.out⟩
  · cases fo
    · go_wp2_with (first
        | (go_at_call 18; refine CP.out.mono ?_; rintro e w2 ⟨rfl, b2⟩; have B2 := Lib.hid (bthen B1 b2)
           have x20 : w2.cell? ⟨w.heap.size, 0, none⟩ = some (.slice A p.1.length c) := (HX1.out.below b2 HX1.out.lt).cell 0
           clear b2)
        | (go_at_call 19; refine (CF.out _ B2.out).mono ?_; rintro e w3 ⟨rfl, b3⟩; have B3 := Lib.hid (bthen B2.out b3); clear b3))
      go_ret
      have e : R = [] := by rw [HRR.out]; rfl
      rw [e]
      exact ⟨none, 0, rfl, ⟨_, .nil, World.ownsRow_nil _ _ _ _, fun g hg => by cases hg⟩, B3.out⟩
    · obtain ⟨har, hrl, hfit⟩ := prog_parts HPO.out.symm
      obtain ⟨_, hff, hasc⟩ := factsOk_parts HFO.out.symm
      have CA := Lib.hid (fun W (hW : Below w.heap.size w W) => l4All_any (.slice A2 p.2.length c2) (.slice A3 fs.length c3) p.1 p.2 fs W (HR.out.on hW) (H2.out.on hW) har hfit (by omega) (by omega) (by omega) (by omega) (fun f hf => (fits_parts (hff f hf)).2) (asc_nodup hasc))
      have HRE := Lib.hid (show R = headsAll p.2 fs by rw [HRR.out]; rfl)
      rw [← HRE.out] at CA
      clear har hrl hfit hff hasc
      go_wp2_with (first
        | (go_at_call 18; refine CP.out.mono ?_; rintro e w2 ⟨rfl, b2⟩; have B2 := Lib.hid (bthen B1 b2)
           have HX2 := Lib.hid (HX1.out.below b2 HX1.out.lt)
           have x20 : w2.cell? ⟨w.heap.size, 0, none⟩ = some (.slice A p.1.length c) := HX2.out.cell 0
           clear b2)
        | (go_at_call 19; refine (CF.out _ B2.out).mono ?_; rintro e w3 ⟨rfl, b3⟩; have B3 := Lib.hid (bthen B2.out b3)
           have x31 : w3.cell? ⟨w.heap.size, 1, none⟩ = some (.slice A2 p.2.length c2) := (HX2.out.below b3 HX2.out.lt).cell 1
           clear b3)
        | (go_at_call 20; refine (CA.out _ B3.out).mono ?_; rintro e w4 ⟨A4, c4, rfl, o4, b4⟩; have B4 := Lib.hid (bthen B3.out b4)
           have O4 := Lib.hid (o4.mono B3.out.size (Nat.le_refl _))
           clear o4 b4))
      go_ret
      exact ⟨A4, c4, rfl, O4.out, B4.out⟩

set_option maxHeartbeats 4000000 in
set_option maxRecDepth 100000 in
theorem implConsequences_any (v v2 : Value) (p : LProg) (fs : List LFact) (w : World) (h : RdProg w w.heap.size v p) (h2 : RdFacts w w.heap.size v2 fs) (hs : szP p ≤ 1048576) (hn : fs.length ≤ 1048576) (ht : tot fs ≤ 1048576) (hT : Tab w) :
    Calls Tryz.prog 9 #[v, v2] w fun e w' => ∃ A' c', e = .returned (.slice A' (consL p fs).length c') ∧ OwnFacts w' w.heap.size w'.heap.size (.slice A' (consL p fs).length c') (consL p fs) ∧ Below w.heap.size w w' := by
  have HT := Lib.hid hT
  clear hT
  have HP := Lib.hid h
  have H2 := Lib.hid h2
  have hs' := hs
  unfold szP at hs'
  obtain ⟨a, b, rfl, hA, hR⟩ := h
  have HA := Lib.hid hA
  have HR := Lib.hid hR
  obtain ⟨A, c, rfl, hcA, _⟩ := hA
  obtain ⟨A2, c2, rfl, hcR, _⟩ := hR
  obtain ⟨A3, c3, rfl, hcF, _⟩ := h2
  obtain ⟨po, hpo⟩ : ∃ po, po = progOk p := ⟨_, rfl⟩
  obtain ⟨fo, hfo⟩ : ∃ fo, fo = factsOk p.1 fs := ⟨_, rfl⟩
  obtain ⟨R, hRR⟩ : ∃ R, R = consL p fs := ⟨_, rfl⟩
  have HRR := Lib.hid (show R = if po && fo then headsAll p.2 fs else [] by rw [hRR, hpo, hfo]; rfl)
  rw [← hRR]
  clear hRR
  go_enter Tryz.func9, Tryz.ntmps9
  go_upto_region 1 with fail
  obtain ⟨w1, hw1⟩ : ∃ w1, w1 = w.alloc (Obj.cells #[Value.slice A p.1.length c, Value.slice A2 p.2.length c2] 33) := ⟨_, rfl⟩
  have X1 : Blk w1 w.heap.size 33 #[.slice A p.1.length c, .slice A2 p.2.length c2] := by rw [hw1]; exact Blk.new _ _ _
  have B1 : Below w.heap.size w w1 := by rw [hw1]; exact below1 _ _
  rw [← hw1]
  clear hw1
  have x0 : w1.cell? ⟨w.heap.size, 0, none⟩ = some (.slice A p.1.length c) := X1.cell 0
  have x1 : w1.cell? ⟨w.heap.size, 1, none⟩ = some (.slice A2 p.2.length c2) := X1.cell 1
  have CP := Lib.hid ((implProgramOk_any _ p w1 (HP.out.on B1) hs).mono fun e w' (hh : e = .returned (.bool (progOk p)) ∧ Below w1.heap.size w1 w') => (⟨by rw [hh.1, hpo], hh.2⟩ : e = .returned (.bool po) ∧ Below w1.heap.size w1 w'))
  have CF := Lib.hid (fun W (hW : Below w.heap.size w W) => (implFactsOk_any _ _ p.1 fs W (HA.out.on hW) (H2.out.on hW) (by omega) (by omega) (by omega)).mono fun e w' (hh : e = .returned (.bool (factsOk p.1 fs)) ∧ Below W.heap.size W w') => (⟨by rw [hh.1, hfo], hh.2⟩ : e = .returned (.bool fo) ∧ Below W.heap.size W w'))
  have HPO := Lib.hid hpo
  have HFO := Lib.hid hfo
  have HX1 := Lib.hid X1
  clear hpo hfo X1
  cases po
  · go_wp2_with (go_at_call 24; refine CP.out.mono ?_; rintro e w2 ⟨rfl, b2⟩; have B2 := Lib.hid (bthen B1 b2); clear b2)
    go_ret
    have e : R = [] := by rw [HRR.out]; rfl
    rw [e]
    exact ⟨none, 0, rfl, ⟨_, .nil, World.ownsRow_nil _ _ _ _, fun g hg => by cases hg⟩, B2.out⟩
  · cases fo
    · go_wp2_with (first
        | (go_at_call 24; refine CP.out.mono ?_; rintro e w2 ⟨rfl, b2⟩; have B2 := Lib.hid (bthen B1 b2)
           have x20 : w2.cell? ⟨w.heap.size, 0, none⟩ = some (.slice A p.1.length c) := (HX1.out.below b2 HX1.out.lt).cell 0
           clear b2)
        | (go_at_call 25; refine (CF.out _ B2.out).mono ?_; rintro e w3 ⟨rfl, b3⟩; have B3 := Lib.hid (bthen B2.out b3); clear b3))
      go_ret
      have e : R = [] := by rw [HRR.out]; rfl
      rw [e]
      exact ⟨none, 0, rfl, ⟨_, .nil, World.ownsRow_nil _ _ _ _, fun g hg => by cases hg⟩, B3.out⟩
    · obtain ⟨har, hrl, hfit⟩ := prog_parts HPO.out.symm
      obtain ⟨_, hff, hasc⟩ := factsOk_parts HFO.out.symm
      have CA := Lib.hid (fun W (hW : Below w.heap.size w W) => headsIn_any (.slice A2 p.2.length c2) (.slice A3 fs.length c3) p.1 p.2 fs W (HR.out.on hW) (H2.out.on hW) har hfit (by omega) (by omega) (by omega) (by omega) (fun f hf => (fits_parts (hff f hf)).2) (asc_nodup hasc))
      have HTF := Lib.hid (show ∀ f ∈ fs, TabFact f from fun f hf => by
        have h1 := fits_parts (hff f hf)
        have h2 : p.1.length ≤ 24 := by simp only [arityOk, Bool.and_eq_true, decide_eq_true_eq] at har; exact har.1
        exact ⟨h1.1.1, by omega, h1.2, fits_short har (hff f hf)⟩)
      have HRE := Lib.hid (show ∀ F : List LFact, (∀ f, f ∈ F ↔ f ∈ headsAll p.2 fs) → tabFacts (tabWith zeroT F) p.1 = R from fun F hF => by
        rw [HRR.out]
        have h1 := tabFacts_with har (F := F) (fun f h => headsAll_fits fs hfit f ((hF f).1 h))
        exact h1.1.unique (setOf_asc _) fun f => (h1.2 f).trans (hF f))
      have HTL := Lib.hid (show ∀ F : List LFact, (∀ f, f ∈ F ↔ f ∈ headsAll p.2 fs) → ∀ x ∈ tabWith zeroT F, x < 18446744073709551616 from fun F hF =>
        tabWith_lt F _ zeroT_lt fun f h => numF_64 (fits_parts (headsAll_fits fs hfit f ((hF f).1 h))).2 (fits_short har (headsAll_fits fs hfit f ((hF f).1 h))))
      have HAR := Lib.hid har
      clear har hrl hfit hff hasc
      go_upto_region 4 with (first
        | (go_at_call 24; refine CP.out.mono ?_; rintro e w2 ⟨rfl, b2⟩; have B2 := Lib.hid (bthen B1 b2)
           have HX2 := Lib.hid (HX1.out.below b2 HX1.out.lt)
           have x20 : w2.cell? ⟨w.heap.size, 0, none⟩ = some (.slice A p.1.length c) := HX2.out.cell 0
           clear b2)
        | (go_at_call 25; refine (CF.out _ B2.out).mono ?_; rintro e w3 ⟨rfl, b3⟩; have B3 := Lib.hid (bthen B2.out b3)
           have HX3 := Lib.hid (HX2.out.below b3 HX2.out.lt)
           have x31 : w3.cell? ⟨w.heap.size, 1, none⟩ = some (.slice A2 p.2.length c2) := HX3.out.cell 1
           clear b3)
        | (go_at_call 26; refine (CA.out _ B3.out).mono ?_; rintro e w4 ⟨F, rfl, hF, b4⟩; have B4 := Lib.hid (bthen B3.out b4)
           have HF := Lib.hid (HRE.out F hF)
           have HTW := Lib.hid (HTL.out F hF)
           have HX4 := Lib.hid (HX3.out.below b4 HX3.out.lt)
           obtain ⟨cs, hcs⟩ : ∃ cs, cs = tabCells (tabWith zeroT F) := ⟨_, rfl⟩
           rw [← hcs]
           have HCZ := Lib.hid (show cs.size = 24 by rw [hcs]; simp [tabCells, tabWith_len, zeroT])
           have HONE := Lib.hid (show cs.all (·.oneCell') = true by rw [hcs]; exact tabCells_one _)
           have HSI := Lib.hid (show (Tryz.prog.info? 55).map (·.size) = some cs.size by rw [HCZ.out]; kernel_rfl)
           have HCS := Lib.hid hcs
           clear hF b4 hcs)
        | (refine wpList_store_row rfl 55 _ _ rfl w4.heap.size cs rfl rfl 55 _ (heap_alloc_new w4 _) HSI.out (by rw [HCZ.out]; rfl) HONE.out ?_))
      obtain ⟨zs, hzs⟩ : ∃ zs, zs = (#[Value.int IntKind.u64 0, Value.int IntKind.u64 0, Value.int IntKind.u64 0, Value.int IntKind.u64 0, Value.int IntKind.u64 0, Value.int IntKind.u64 0, Value.int IntKind.u64 0, Value.int IntKind.u64 0, Value.int IntKind.u64 0, Value.int IntKind.u64 0, Value.int IntKind.u64 0, Value.int IntKind.u64 0, Value.int IntKind.u64 0, Value.int IntKind.u64 0, Value.int IntKind.u64 0, Value.int IntKind.u64 0, Value.int IntKind.u64 0, Value.int IntKind.u64 0, Value.int IntKind.u64 0, Value.int IntKind.u64 0, Value.int IntKind.u64 0, Value.int IntKind.u64 0, Value.int IntKind.u64 0, Value.int IntKind.u64 0] : Array Value) := ⟨_, rfl⟩
      rw [← hzs]
      clear hzs
      obtain ⟨w5, hw5⟩ : ∃ w5, w5 = (w4.alloc (Obj.cells zs 55)).setRow w4.heap.size cs := ⟨_, rfl⟩
      have X5 : Blk w5 w4.heap.size 55 cs := by rw [hw5]; exact setRow_heap _ _ _ cs _ _ (heap_alloc_new w4 _)
      have b5 : Below w4.heap.size w4 w5 := by rw [hw5]; exact below_setRow (below1 _ _) (Nat.le_refl _) _
      rw [← hw5]
      clear hw5
      have B5 := Lib.hid (bthen B4.out b5)
      have T5 : TabAt w5 w4.heap.size (tabWith zeroT F) := ⟨by rw [← HCS.out]; exact X5, by simp [tabWith_len, zeroT], HTW.out⟩
      have x50 : w5.cell? ⟨w.heap.size, 0, none⟩ = some (.slice A p.1.length c) := (HX4.out.below b5 HX4.out.lt).cell 0
      have CT := Lib.hid (tabFacts_any w4.heap.size (tabWith zeroT F) (.slice A p.1.length c) p.1 w5 T5 (HA.out.on B5.out) HAR.out (HT.out.below B5.out))
      rw [HF.out] at CT
      clear X5 b5 T5
      go_wp2_with (go_at_call 27; refine CT.out.mono ?_; rintro e w6 ⟨A6, c6, rfl, o6, b6⟩; have H6 := Lib.hid (And.intro (o6.mono B5.out.size (Nat.le_refl _)) (bthen B5.out b6)); clear o6 b6)
      go_ret
      exact ⟨A6, c6, rfl, H6.out.1, H6.out.2⟩

end Go.Proofs.YtcceololijefiaaGreatDoor
/-
  Marks on rules and programs that are not read again: markRuleS, markProgram.
-/
namespace Go.Proofs.YtcceololijefiaaGreatDoor
open Go.RowKit

theorem endR_le (k : Int) (r : LRule) : k ≤ endR k r ∧ endR k r ≤ k + 2 * (szR r : Int) := by
  unfold endR endL szR
  omega
theorem totR_take_le (rs : List LRule) (j : Nat) : totR (rs.take j) ≤ totR rs := by
  have := congrArg (fun l => (l.map szR).sum) (List.take_append_drop j rs)
  simp only [List.map_append, List.sum_append] at this
  unfold totR
  omega

set_option maxHeartbeats 1000000 in
set_option maxRecDepth 100000 in
theorem wmarkRuleS_le (v : Value) (rs : List LRule) (k : Int) (lo hi : Nat) (w : World) (h : WrRules w lo hi v rs) (hk0 : 0 ≤ k) (hk : k ≤ 2097152) (hn : rs.length ≤ 1048576) (ht : totR rs ≤ 1048576) :
    Calls Tryz.prog 32 #[v, .int .i64 k] w fun e w' => ∃ z : Int, e = .returned (.int .i64 z) ∧ (k ≤ z ∧ z ≤ k + (rs.length : Int) + 2 * (totR rs : Int)) ∧ Marked lo hi w w' := by
  have H := Lib.hid h
  obtain ⟨A, c, rfl, _⟩ := h
  go_enter Tryz.func32, Tryz.ntmps32
  go_wp2_with (fail)
  go_loopw [1, 5] (fun m i wr => ∃ (j : Nat) (q : Int), j ≤ rs.length ∧ i = .int .i64 j ∧ m = .int .i64 q ∧ (k ≤ q ∧ q ≤ k + (j : Int) + 2 * (totR (rs.take j) : Int)) ∧ Marked lo hi w wr) (fun _ i _ => rs.length - (intOf i).toNat)
  case atStart => exact ⟨0, k, Nat.zero_le _, rfl, rfl, by simp [totR], Marked.refl _ _ _⟩
  case round =>
    obtain ⟨j, q, hj, rfl, rfl, ⟨hq, hq2⟩, hm⟩ := hrel
    by_cases hlt : j < rs.length
    · obtain ⟨A', c', e, _, hx⟩ := H.out.marked hm
      injection e with e1 _ e3
      subst e1
      subst e3
      obtain ⟨b, o, rfl, h1, h2, hx⟩ := hx (by omega)
      obtain ⟨⟨f0, f1⟩, u0, u1, u2, c0, c1, c2, ⟨x, rfl⟩, hI, hL⟩ := hx j hlt
      have m0 := Marked.store (p := ⟨b, o + j * 3, none⟩) ⟨h1, h2⟩ c0 q
      have hI2 := hI.marked m0
      have hL2 := hL.marked m0
      obtain ⟨A3, n3, rfl, _⟩ := hI
      obtain ⟨A4, n4, rfl, _⟩ := hL
      have d1 := m0.slice c1
      have htk := totR_take rs j hlt
      have hle := totR_take_le rs (j + 1)
      have hsz : rs[j].1.2.length + (rs[j].2.length + totL rs[j].2) = szR rs[j] := rfl
      have hq0 : 0 ≤ q := by omega
      have hq1 : q ≤ 8388608 := by omega
      have HI := Lib.hid hI2
      have HL := Lib.hid hL2
      have HM := Lib.hid (hm.trans m0)
      have HE := endR_le (q + 1) rs[j]
      clear hx hI2 hL2
      go_wp2_with (fail)
      refine (wmarkIntS_any _ _ (q + 1) lo hi _ HI.out (by omega) (by omega)).mono ?_
      rintro e w3 ⟨rfl, hm3⟩
      have d2 := (m0.trans hm3).slice c2
      have HM3 := Lib.hid (HM.out.trans hm3)
      have HL3 := Lib.hid (HL.out.marked hm3)
      clear m0 hm3 c0 c1 c2 d1
      go_wp2_with (fail)
      refine (wmarkLitS_any _ rs[j].2 _ lo hi _ HL3.out (by omega) (by omega) (by omega) (by omega)).mono ?_
      rintro e w4 ⟨rfl, hm4⟩
      have HM4 := Lib.hid (HM3.out.trans hm4)
      have HQ := Lib.hid (show k ≤ endL (q + 1 + (rs[j].1.2.length : Int)) rs[j].2 ∧ endL (q + 1 + (rs[j].1.2.length : Int)) rs[j].2 ≤ k + ((j + 1 : Nat) : Int) + 2 * (totR (rs.take (j + 1)) : Int) by
        unfold endR at HE
        rw [htk]
        omega)
      clear HE htk
      go_wp2_with (fail)
      go_roundw
      case rel => exact ⟨j + 1, _, by omega, by go_num, rfl, HQ.out, HM4.out⟩
      case measure => simp [intOf]; omega
    · have HK := Lib.hid (show k ≤ q ∧ q ≤ k + (rs.length : Int) + 2 * (totR rs : Int) by
        have := totR_take_le rs j
        omega)
      clear hq hq2
      go_wp2_with (fail)
      go_ret
      exact ⟨_, rfl, HK.out, hm⟩

set_option maxHeartbeats 400000 in
theorem wmarkProgram_le (a b : Value) (p : LProg) (k : Int) (lo hi : Nat) (w : World) (h : WrInts w lo hi a p.1.length) (h2 : WrRules w lo hi b p.2) (hk0 : 0 ≤ k) (hk : k ≤ 1048576) (hs : szP p ≤ 1048576) :
    Calls Tryz.prog 12 #[.agg #[a, b], .int .i64 k] w fun e w' => ∃ z : Int, e = .returned (.int .i64 z) ∧ (k ≤ z ∧ z ≤ k + 2 * (szP p : Int)) ∧ Marked lo hi w w' := by
  have H := Lib.hid h
  have H2 := Lib.hid h2
  have HSZ := Lib.hid (show szP p = p.1.length + (p.2.length + totR p.2) from rfl)
  unfold szP at hs
  obtain ⟨A, c, rfl, _⟩ := h
  obtain ⟨A2, c2, rfl, _⟩ := h2
  go_enter Tryz.func12, Tryz.ntmps12
  go_wp2_with (fail)
  obtain ⟨w1, hw1⟩ : ∃ w1, w1 = w.alloc (Obj.cells #[Value.slice A p.1.length c, Value.slice A2 p.2.length c2] 33) := ⟨_, rfl⟩
  have M1 : Marked lo hi w w1 := by rw [hw1]; exact Marked.of_below (below1 _ _)
  have x1 : Blk w1 w.heap.size 33 #[.slice A p.1.length c, .slice A2 p.2.length c2] := by rw [hw1]; exact Blk.new _ _ _
  rw [← hw1]
  clear hw1
  refine (wmarkIntS_any _ _ k lo hi _ (H.out.marked M1) hk0 (by omega)).mono ?_
  rintro e w2 ⟨rfl, hm2⟩
  have y2 : w2.cell? ⟨w.heap.size, 1, none⟩ = some (.slice A2 p.2.length c2) := hm2.slice (x1.cell 1)
  have M2 := M1.trans hm2
  go_wp2_with (fail)
  refine (wmarkRuleS_le _ p.2 _ lo hi _ (H2.out.marked M2) (by omega) (by omega) (by omega) (by omega)).mono ?_
  rintro e w3 ⟨z, rfl, hz, hm3⟩
  have M3 := M2.trans hm3
  have HZ := Lib.hid (show k ≤ z ∧ z ≤ k + 2 * (szP p : Int) by rw [HSZ.out]; omega)
  clear hz
  go_wp2_with (fail)
  go_ret
  exact ⟨_, rfl, HZ.out, M3⟩
theorem wmarkProgram_any (a b : Value) (p : LProg) (k : Int) (lo hi : Nat) (w : World) (h : WrInts w lo hi a p.1.length) (h2 : WrRules w lo hi b p.2) (hk0 : 0 ≤ k) (hk : k ≤ 1048576) (hs : szP p ≤ 1048576) :
    Calls Tryz.prog 12 #[.agg #[a, b], .int .i64 k] w fun e w' => ∃ z : Int, e = .returned (.int .i64 z) ∧ 0 ≤ z ∧ Marked lo hi w w' :=
  (wmarkProgram_le a b p k lo hi w h h2 hk0 hk hs).mono fun _ _ ⟨z, h1, h2, h3⟩ => ⟨z, h1, by omega, h3⟩

end Go.Proofs.YtcceololijefiaaGreatDoor
/-
  What comes in, its lengths.
-/
namespace Go.Proofs.YtcceololijefiaaGreatDoor
open Go.RowKit

theorem ruleLens_in {r : LRule} (h : ruleFitsIn r) : ruleLens r := by
  obtain ⟨h1, h2, h3⟩ := h
  unfold maxLen at *
  exact ⟨by omega, by omega, fun k hk => by have := h3 k hk; omega⟩
theorem progLens_in {p : LProg} (h : p.1.length ≤ maxLen ∧ p.2.length ≤ maxLen ∧ ∀ k (h : k < p.2.length), ruleFitsIn p.2[k]) : progLens p := by
  obtain ⟨h1, h2, h3⟩ := h
  refine ⟨?_, ?_, fun k hk => ruleLens_in (h3 k hk)⟩ <;> (unfold maxLen at *; omega)

end Go.Proofs.YtcceololijefiaaGreatDoor
/-
  Programs that a call has made, and their sizes and marks, in the one form that the laws' walks ask.
-/
namespace Go.Proofs.YtcceololijefiaaGreatDoor
open Go.RowKit

/-- A program whose two rows stand in blocks from lo on and below hi. -/
def OwnProg (w : World) (lo hi : Nat) (v : Value) (p : LProg) : Prop := ∃ a b, v = .agg #[a, b] ∧ OwnInts w lo hi a p.1 ∧ OwnRules w lo hi b p.2
theorem RdProg.more {w : World} {B B' : Nat} {v : Value} {p : LProg} (h : RdProg w B v p) (hB : B ≤ B') : RdProg w B' v p := by
  obtain ⟨a, b, rfl, h1, h2⟩ := h
  exact ⟨a, b, rfl, h1.more hB, h2.more hB⟩
theorem OwnProg.below {w w' : World} {lo hi B : Nat} {v : Value} {p : LProg} (h : OwnProg w lo hi v p) (hb : Below B w w') (hB : hi ≤ B) : OwnProg w' lo hi v p := by
  obtain ⟨a, b, rfl, h1, h2⟩ := h
  exact ⟨a, b, rfl, h1.below hb hB, h2.below hb hB⟩
theorem OwnProg.only {w w' : World} {lo hi lo' hi' : Nat} {v : Value} {p : LProg} (h : OwnProg w lo hi v p) (ho : Only lo' hi' w w') (hd : hi ≤ lo' ∨ hi' ≤ lo) (hh : hi ≤ w.heap.size) : OwnProg w' lo hi v p := by
  obtain ⟨a, b, rfl, h1, h2⟩ := h
  exact ⟨a, b, rfl, h1.only ho hd, h2.keep fun g h3 h4 => ho.block g (by omega) (by omega)⟩
theorem OwnProg.rd {w : World} {lo hi : Nat} {v : Value} {p : LProg} (h : OwnProg w lo hi v p) : RdProg w hi v p := by
  obtain ⟨a, b, rfl, h1, h2⟩ := h
  exact ⟨a, b, rfl, h1.rd, h2.rd⟩

theorem toProgram_own (v : Value) (p : LProg) (w : World) (h : RdProg w w.heap.size v p) (hn : szP p ≤ 1048576) :
    Calls Tryz.prog 7 #[v] w fun e w' => ∃ A c A2 c2, e = .returned (.agg #[.slice A p.1.length c, .slice A2 p.2.length c2]) ∧ OwnProg w' w.heap.size w'.heap.size (.agg #[.slice A p.1.length c, .slice A2 p.2.length c2]) p ∧ Below w.heap.size w w' :=
  (toProgram_any v p w h hn).mono fun _ _ ⟨A, c, A2, c2, he, h1, h2, hb⟩ => ⟨A, c, A2, c2, he, ⟨_, _, rfl, h1, h2⟩, hb⟩

theorem us_prog {v : Value} {p : LProg} {left : Int} {w : World} (h : RdProg w w.heap.size v p) (h0 : 0 ≤ left) (hl : left ≤ 1048576) (hn : progLens p) :
    Calls Tryz.prog 4 #[v, .int .i64 left] w fun e w' => ∃ z, e = .returned (.int .i64 z) ∧ (z = -1 ∨ (0 ≤ z ∧ z + szP p = left)) ∧ Below w.heap.size w w' :=
  szProgram_any v p left w h h0 hl hn

theorem um_prog {v : Value} {p : LProg} {lo hi : Nat} {w : World} (k : Int) (h : OwnProg w lo hi v p) (hk0 : 0 ≤ k) (hk : k ≤ 1048576) (hs : szP p ≤ 1048576) :
    Calls Tryz.prog 12 #[v, .int .i64 k] w fun e w' => ∃ z, e = .returned (.int .i64 z) ∧ k ≤ z ∧ z ≤ k + 2 * (szP p : Int) ∧ True ∧ Only lo hi w w' := by
  obtain ⟨a, b, rfl, h1, h2⟩ := h
  exact (wmarkProgram_le a b p k lo hi w h1.wr h2.wr hk0 hk hs).mono fun _ _ ⟨z, he, hz, hm⟩ => ⟨z, he, hz.1, hz.2, trivial, hm.only⟩

end Go.Proofs.YtcceololijefiaaGreatDoor
/-
  Marks and sizes of lists of facts, in the one form that the laws' walks ask.
-/
namespace Go.Proofs.YtcceololijefiaaGreatDoor
open Go.RowKit

def szF (fs : List LFact) : Nat := fs.length + tot fs
/-- The marks from k on stand in a row of facts, and end at z. -/
def HdFacts (w : World) (lo hi : Nat) (v : Value) (fs : List LFact) (k z : Int) : Prop := OwnFacts w lo hi v (markF k fs) ∧ z = endF k fs ∧ 0 ≤ k ∧ k ≤ 4294967296 ∧ szF fs ≤ 1073741824
theorem HdFacts.below {w w' : World} {lo hi B : Nat} {v : Value} {fs : List LFact} {k z : Int} (h : HdFacts w lo hi v fs k z) (hb : Below B w w') (hB : hi ≤ B) : HdFacts w' lo hi v fs k z := ⟨h.1.below hb hB, h.2⟩
theorem HdFacts.only {w w' : World} {lo hi lo' hi' : Nat} {v : Value} {fs : List LFact} {k z : Int} (h : HdFacts w lo hi v fs k z) (ho : Only lo' hi' w w') (hd : hi ≤ lo' ∨ hi' ≤ lo) : HdFacts w' lo hi v fs k z := ⟨h.1.only ho hd, h.2⟩

theorem um_facts {v : Value} {fs : List LFact} {lo hi : Nat} {w : World} (k : Int) (h : OwnFacts w lo hi v fs) (hk0 : 0 ≤ k) (hk : k ≤ 4294967296) (hs : szF fs ≤ 1073741824) :
    Calls Tryz.prog 13 #[v, .int .i64 k] w fun e w' => ∃ z, e = .returned (.int .i64 z) ∧ k ≤ z ∧ z ≤ k + szF fs ∧ HdFacts w' lo hi v fs k z ∧ Only lo hi w w' :=
  (markFactS_any v fs k lo hi w h hk0 hk (by unfold szF at hs; omega) (by unfold szF at hs; omega)).mono fun _ _ ⟨he, ho, hg⟩ =>
    ⟨_, he, by unfold endF; omega, by unfold endF szF; omega, ⟨ho, rfl, hk0, hk, hs⟩, hg⟩

theorem uh_facts {v : Value} {fs : List LFact} {lo hi : Nat} {w : World} {k z : Int} (h : HdFacts w lo hi v fs k z) (hh : hi ≤ w.heap.size) :
    Calls Tryz.prog 14 #[v, .int .i64 k] w fun e w' => e = .returned (.int .i64 z) ∧ Below w.heap.size w w' := by
  have hs := h.2.2.2.2
  unfold szF at hs
  exact (heldFactS_any v fs k w (h.1.rd.more hh) h.2.2.1 h.2.2.2.1 (by omega) (by omega)).mono fun _ _ ⟨he, hw⟩ => ⟨by rw [he, h.2.1], hw ▸ Below.refl _ _⟩

theorem us_facts {v : Value} {fs : List LFact} {left : Int} {w : World} (h : RdFacts w w.heap.size v fs) (h0 : 0 ≤ left) (hl : left ≤ 1048576) (hn : fs.length ≤ maxLen) (hm : ∀ k (h : k < fs.length), fs[k].2.length ≤ maxLen) :
    Calls Tryz.prog 5 #[v, .int .i64 left] w fun e w' => ∃ z, e = .returned (.int .i64 z) ∧ (z = -1 ∨ (0 ≤ z ∧ z + szF fs = left)) ∧ Below w.heap.size w w' :=
  (szFactS_any v fs left w h h0 hl (by unfold maxLen at hn; omega) (fun k hk => by have := hm k hk; unfold maxLen at this; omega)).mono fun _ _ ⟨r, he, hr, hb⟩ => ⟨r, he, hr.imp id fun ⟨a, b⟩ => ⟨a, by unfold szF; omega⟩, hb⟩

end Go.Proofs.YtcceololijefiaaGreatDoor
/-
  What comes in, opened into the words of the Base text.
-/
namespace Go.Proofs.YtcceololijefiaaGreatDoor
open Go.ChangeShapes Go.WideShapes Go.ChangeAt Go.RowKit Go.Joins Go.Deep

section
variable {H : Type} {enc : TypeId × Value → H} {W : World}

def InFact (W : World) (v : Value) (f : LFact) : Prop := RdFact W W.heap.size v f ∧ f.2.length ≤ maxLen
def InFacts (W : World) (v : Value) (fs : List LFact) : Prop := RdFacts W W.heap.size v fs ∧ fs.length ≤ maxLen ∧ ∀ k (h : k < fs.length), fs[k].2.length ≤ maxLen

theorem Tryz.cells45 : Tryz.prog.cellsOf 45 = 2 := by kernel_rfl
set_option maxRecDepth 100000 in
theorem open_inFact {v : Value} {d : DataW H} {p : List MemPlace} {b0 : Nat} (hv : Value.okWide Tryz.prog W .any b0 45 v) (h : DataW.Trod enc Tryz.prog W 0 (fun _ => true) true 45 v d p) :
    ∃ f, InFact W v f := by
  obtain ⟨v0, v1, y0, y1, n, rfl, _, _, h0, h1⟩ := open_agg2 Tryz.underlying45 (by kernel_rfl) Tryz.cells45 hv h
  obtain ⟨m, e0, _, _⟩ := DataW.trod_int Tryz.underlying3 h0
  simp at e0
  subst e0
  obtain ⟨xs, hx⟩ := open_inInts_cells h1
  exact ⟨(m, xs), ⟨v1, rfl, hx.1⟩, hx.2⟩

set_option maxRecDepth 100000 in
theorem open_inFacts {v : Value} {d : DataW H} {p : List MemPlace} {b0 : Nat} (hv : Value.okWide Tryz.prog W .any b0 26 v) (h : DataW.Trod enc Tryz.prog W 0 (fun _ => true) true 26 v d p) :
    ∃ fs, InFacts W v fs := by
  obtain ⟨a, len, cap, rfl⟩ := okWide_slice Tryz.underlying26 hv
  obtain ⟨fuel, hf⟩ := h
  rcases open_slice_pairs Tryz.underlying26 Tryz.underlying45 Tryz.cells45 rfl rfl Tryz.cells3 Tryz.cells22 hf with ⟨hcs, _⟩ | ⟨a', len', cap', m, n, V0, V1, D0, D1, P0, P1, hcs, _, hl, hm, hmm, _, hx⟩
  · simp [Value.cells] at hcs
    obtain ⟨rfl, rfl, rfl⟩ := hcs
    exact ⟨[], ⟨none, 0, rfl, by simp, fun h => absurd h (by simp)⟩, by simp, fun k h => absurd h (by simp)⟩
  · simp [Value.cells] at hcs
    obtain ⟨rfl, rfl, rfl⟩ := hcs
    simp at hmm
    subst hmm
    obtain ⟨F, hF⟩ := choose_lt (α := LFact) (n := len) (p := fun i f => V0 i = .int .i64 f.1 ∧ InInts W (V1 i) f.2) (fun i hi => by
      obtain ⟨_, _, h0, h1⟩ := hx i (by omega)
      obtain ⟨q, e0, _, _⟩ := DataW.trod_int Tryz.underlying3 h0
      obtain ⟨xs, hxs⟩ := open_inInts_cells h1
      simp at e0
      exact ⟨(q, xs), e0, hxs⟩)
    refine ⟨(List.range len).map F, ⟨some a', m, by simp, by simpa using hl, fun hn => ?_⟩, by simp; omega, fun k hk => ?_⟩
    · simp at hn
      obtain ⟨b, off, spot⟩ := a'
      have hspot : spot = none := by simpa [Addr.add] using World.cell?_spot (hx 0 (by omega)).1
      subst hspot
      have hb : b < W.heap.size := by simpa [Addr.add] using World.block_lt_of_cell? _ _ (hx 0 (by omega)).1
      refine ⟨b, off, rfl, hb, fun k hk => ?_⟩
      simp at hk
      obtain ⟨c0, c1, _, _⟩ := hx k (by omega)
      obtain ⟨e0, e1⟩ := hF k hk
      rw [Go.WideShapes.add_plain, e0] at c0
      rw [Go.WideShapes.add_plain] at c1
      exact ⟨V1 k, by simpa using c0, by simpa [Nat.add_assoc] using c1, by simpa using e1.1⟩
    · simp at hk ⊢
      exact (hF k hk).2.2
end

end Go.Proofs.YtcceololijefiaaGreatDoor
/-
  The facts that follow are few.
-/
namespace Go.Proofs.YtcceololijefiaaGreatDoor
open Go.RowKit

theorem consL_few (p : LProg) (fs : List LFact) : (consL p fs).length ≤ 1536 ∧ tot (consL p fs) ≤ 3072 := by
  unfold consL
  cases h : (progOk p && factsOk p.1 fs)
  · simp [tot]
  · rw [Bool.and_eq_true] at h
    obtain ⟨har, _, hfit⟩ := prog_parts h.1
    rw [if_pos rfl]
    exact headsAll_few fs har hfit
theorem consL_sz (p : LProg) (fs : List LFact) : szF (consL p fs) ≤ 1048576 := by
  have := consL_few p fs
  unfold szF
  omega

end Go.Proofs.YtcceololijefiaaGreatDoor
/-
  The walk of the law on Consequences (written by wip/genlaw.py).
-/
namespace Go.Proofs.YtcceololijefiaaGreatDoor
open Go.RowKit

set_option maxHeartbeats 4000000 in
set_option maxRecDepth 100000 in
theorem lawConsequences_any (v0 : Value) (v1 : Value) (p : LProg) (fs : List LFact) (w : World) (h0 : RdProg w w.heap.size v0 p) (h1 : RdFacts w w.heap.size v1 fs) (n0 : progLens p) (n1 : fs.length ≤ maxLen) (m1 : ∀ k (h : k < fs.length), fs[k].2.length ≤ maxLen) (hT : Tab w) :
    Calls Tryz.prog 3 #[v0, v1] w fun e w' => e = .returned (.bool true) ∧ Below w.heap.size w w' := by
  have HT := Lib.hid hT
  clear hT
  have H0 := Lib.hid h0
  obtain ⟨_, _, rfl, ⟨A0, c0, rfl, hc0, _⟩, ⟨A0b, c0b, rfl, hc0b, _⟩⟩ := h0
  have H1 := Lib.hid h1
  obtain ⟨A1, c1, rfl, hc1, _⟩ := h1
  go_enter Tryz.func3, Tryz.ntmps3
  go_wp2_with (fail)
  obtain ⟨w1, hw_w1⟩ : ∃ W', W' = w.alloc (Obj.cells #[Value.slice A0 p.1.length c0, Value.slice A0b p.2.length c0b] 25) := ⟨_, rfl⟩
  rw [← hw_w1]
  have B_w1 : Below w.heap.size w w1 := by rw [hw_w1]; exact below1 _ _
  have bx0 : Blk w1 (w.heap.size + 0) 25 #[.slice A0 p.1.length c0, .slice A0b p.2.length c0b] := by
    rw [hw_w1]
    have := (Blk.new w 25 #[.slice A0 p.1.length c0, .slice A0b p.2.length c0b])
    simpa using this
  have bx0_l := bx0.lt
  rw [Nat.add_zero] at bx0 bx0_l
  have s_w1 := B_w1.size
  clear hw_w1
  refine (us_prog (H0.out.on B_w1) (by omega) (by omega) n0).mono ?_
  rintro e w2 ⟨z0, rfl, hz0, hbz0⟩
  have s_w2 := hbz0.size
  have bx0_1 := bx0.below hbz0 (by first | exact bx0.lt | omega)
  clear bx0
  have bx0_1_l := bx0_1.lt
  have B_w2 := bthen B_w1 hbz0
  rcases hz0 with rfl | ⟨zp0, zs0⟩
  · go_wp2_with (fail)
    go_ret
    exact ⟨rfl, B_w2⟩
  have zn0 : ¬ z0 < 0 := by omega
  have r0 : szP p ≤ 1048576 := by omega
  have zl0 : z0 ≤ 1048576 := by omega
  have ZS0 := Lib.hid zs0
  clear zs0
  have q1 : w2.cell? ⟨w.heap.size, 0, none⟩ = some (.slice A0 p.1.length c0) := bx0_1.cell 0
  have q2 : w2.cell? ⟨w.heap.size, 1, none⟩ = some (.slice A0b p.2.length c0b) := bx0_1.cell 1
  go_wp2_with (fail)
  clear q1 q2
  refine (us_facts (H1.out.on B_w2) (by omega) (by omega) n1 m1).mono ?_
  rintro e w3 ⟨z1, rfl, hz1, hbz1⟩
  have s_w3 := hbz1.size
  have bx0_2 := bx0_1.below hbz1 (by first | exact bx0_1.lt | omega)
  clear bx0_1
  have bx0_2_l := bx0_2.lt
  have B_w3 := bthen B_w2 hbz1
  rcases hz1 with rfl | ⟨zp1, zs1⟩
  · go_wp2_with (fail)
    go_ret
    exact ⟨rfl, B_w3⟩
  have zn1 : ¬ z1 < 0 := by omega
  have r1 : szF fs ≤ 1048576 := by omega
  have zl1 : z1 ≤ 1048576 := by omega
  have ZS1 := Lib.hid zs1
  clear zs1 zn1
  have zn1 : ¬ z1 < 0 := by omega
  obtain ⟨R0, hR0⟩ : ∃ R, R = consL p fs := ⟨_, rfl⟩
  have HR0 := Lib.hid hR0
  have HRs0 := Lib.hid (show szF R0 ≤ 1048576 by rw [hR0]; exact consL_sz p fs)
  clear hR0
  have q3 : w3.cell? ⟨w.heap.size, 0, none⟩ = some (.slice A0 p.1.length c0) := bx0_2.cell 0
  have q4 : w3.cell? ⟨w.heap.size, 1, none⟩ = some (.slice A0b p.2.length c0b) := bx0_2.cell 1
  go_wp2_with (fail)
  clear q3 q4
  refine (toProgram_own _ p _ (H0.out.on B_w3) (by omega)).mono ?_
  rintro e w4 ⟨P1, d1, P1b, d1b, rfl, o1, hb1⟩
  have s_w4 := hb1.size
  have bx0_3 := bx0_2.below hb1 (by first | exact bx0_2.lt | omega)
  clear bx0_2
  have bx0_3_l := bx0_3.lt
  have B_w4 := bthen B_w3 hb1
  have q5 : w4.cell? ⟨w.heap.size, 0, none⟩ = some (.slice A0 p.1.length c0) := bx0_3.cell 0
  have q6 : w4.cell? ⟨w.heap.size, 1, none⟩ = some (.slice A0b p.2.length c0b) := bx0_3.cell 1
  go_wp2_with (fail)
  clear q5 q6
  refine (toFactS_any _ fs _ (H1.out.on B_w4) (by unfold szF at *; omega) (by unfold szF at *; omega)).mono ?_
  rintro e w5 ⟨P2, d2, rfl, o2, hb2⟩
  have s_w5 := hb2.size
  have bx0_4 := bx0_3.below hb2 (by first | exact bx0_3.lt | omega)
  clear bx0_3
  have bx0_4_l := bx0_4.lt
  have tw0_4 := o1.below hb2 (by omega)
  clear o1
  have B_w5 := bthen B_w4 hb2
  have q7 : w5.cell? ⟨w.heap.size, 0, none⟩ = some (.slice A0 p.1.length c0) := bx0_4.cell 0
  have q8 : w5.cell? ⟨w.heap.size, 1, none⟩ = some (.slice A0b p.2.length c0b) := bx0_4.cell 1
  go_wp2_with (fail)
  clear q7 q8
  refine (specConsequences_any _ _ p fs _ (tw0_4.rd.more (by omega)) (o2.rd.more (by omega)) (by omega) (by unfold szF at r1; omega) (by unfold szF at r1; omega)).mono ?_
  rw [← HR0.out]
  rintro e w6 ⟨Q3_0, f3_0, rfl, o3_0, hb3⟩
  have s_w6 := hb3.size
  have bx0_5 := bx0_4.below hb3 (by first | exact bx0_4.lt | omega)
  clear bx0_4
  have bx0_5_l := bx0_5.lt
  have tw0_5 := tw0_4.below hb3 (by omega)
  clear tw0_4
  have tw1_5 := o2.below hb3 (by omega)
  clear o2
  have B_w6 := bthen B_w5 hb3
  have q9 : w6.cell? ⟨w.heap.size, 0, none⟩ = some (.slice A0 p.1.length c0) := bx0_5.cell 0
  have q10 : w6.cell? ⟨w.heap.size, 1, none⟩ = some (.slice A0b p.2.length c0b) := bx0_5.cell 1
  go_wp2_with (fail)
  clear q9 q10
  refine (toProgram_own _ p _ (H0.out.on B_w6) (by omega)).mono ?_
  rintro e w7 ⟨P4, d4, P4b, d4b, rfl, o4, hb4⟩
  have s_w7 := hb4.size
  have bx0_6 := bx0_5.below hb4 (by first | exact bx0_5.lt | omega)
  clear bx0_5
  have bx0_6_l := bx0_6.lt
  have w0_6 := o3_0.below hb4 (by omega)
  clear o3_0
  have B_w7 := bthen B_w6 hb4
  have q11 : w7.cell? ⟨w.heap.size, 0, none⟩ = some (.slice A0 p.1.length c0) := bx0_6.cell 0
  have q12 : w7.cell? ⟨w.heap.size, 1, none⟩ = some (.slice A0b p.2.length c0b) := bx0_6.cell 1
  go_wp2_with (fail)
  clear q11 q12
  obtain ⟨w8, hw_w8⟩ : ∃ W', W' = w7.alloc (Obj.cells #[Value.slice P4 p.1.length d4, Value.slice P4b p.2.length d4b] 33) := ⟨_, rfl⟩
  rw [← hw_w8]
  have hb_w8 : Below w7.heap.size w7 w8 := by rw [hw_w8]; exact below1 _ _
  have bxx0_n : Blk w8 w7.heap.size 33 #[.slice P4 p.1.length d4, .slice P4b p.2.length d4b] := by rw [hw_w8]; exact Blk.new _ _ _
  have bxx0_nl := bxx0_n.lt
  clear hw_w8
  have s_w8 := hb_w8.size
  have bx0_7 := bx0_6.below hb_w8 (by first | exact bx0_6.lt | omega)
  clear bx0_6
  have bx0_7_l := bx0_7.lt
  have w0_7 := w0_6.below hb_w8 (by omega)
  clear w0_6
  have x0_7 := o4.below hb_w8 (by omega)
  clear o4
  have B_w8 := bthen B_w7 hb_w8
  refine (toFactS_any _ fs _ (H1.out.on B_w8) (by unfold szF at *; omega) (by unfold szF at *; omega)).mono ?_
  rintro e w9 ⟨P5, d5, rfl, o5, hb5⟩
  have s_w9 := hb5.size
  have bx0_8 := bx0_7.below hb5 (by first | exact bx0_7.lt | omega)
  clear bx0_7
  have bx0_8_l := bx0_8.lt
  have w0_8 := w0_7.below hb5 (by omega)
  clear w0_7
  have x0_8 := x0_7.below hb5 (by omega)
  clear x0_7
  have bxx0_8 := bxx0_n.below hb5 (by first | exact bxx0_n.lt | omega)
  clear bxx0_n
  have bxx0_8_l := bxx0_8.lt
  have B_w9 := bthen B_w8 hb5
  have q13 : w9.cell? ⟨w.heap.size, 0, none⟩ = some (.slice A0 p.1.length c0) := bx0_8.cell 0
  have q14 : w9.cell? ⟨w.heap.size, 1, none⟩ = some (.slice A0b p.2.length c0b) := bx0_8.cell 1
  have q15 : w9.cell? ⟨w7.heap.size, 0, none⟩ = some (.slice P4 p.1.length d4) := bxx0_8.cell 0
  have q16 : w9.cell? ⟨w7.heap.size, 1, none⟩ = some (.slice P4b p.2.length d4b) := bxx0_8.cell 1
  go_wp2_with (fail)
  clear q13 q14 q15 q16
  refine (implConsequences_any _ _ p fs _ (x0_8.rd.more (by omega)) (o5.rd.more (by omega)) (by omega) (by unfold szF at r1; omega) (by unfold szF at r1; omega) (HT.out.below B_w9)).mono ?_
  rw [← HR0.out]
  rintro e w10 ⟨Q6_0, f6_0, rfl, o6_0, hb6⟩
  have s_w10 := hb6.size
  have bx0_9 := bx0_8.below hb6 (by first | exact bx0_8.lt | omega)
  clear bx0_8
  have bx0_9_l := bx0_9.lt
  have w0_9 := w0_8.below hb6 (by omega)
  clear w0_8
  have x0_9 := x0_8.below hb6 (by omega)
  clear x0_8
  have bxx0_9 := bxx0_8.below hb6 (by first | exact bxx0_8.lt | omega)
  clear bxx0_8
  have bxx0_9_l := bxx0_9.lt
  have x1_9 := o5.below hb6 (by omega)
  clear o5
  have B_w10 := bthen B_w9 hb6
  have q17 : w10.cell? ⟨w.heap.size, 0, none⟩ = some (.slice A0 p.1.length c0) := bx0_9.cell 0
  have q18 : w10.cell? ⟨w.heap.size, 1, none⟩ = some (.slice A0b p.2.length c0b) := bx0_9.cell 1
  have q19 : w10.cell? ⟨w7.heap.size, 0, none⟩ = some (.slice P4 p.1.length d4) := bxx0_9.cell 0
  have q20 : w10.cell? ⟨w7.heap.size, 1, none⟩ = some (.slice P4b p.2.length d4b) := bxx0_9.cell 1
  go_wp2_with (fail)
  clear q17 q18 q19 q20
  refine (eqFactS_any _ _ R0 R0 _ (o6_0.rd.more (by omega)) (w0_9.rd.more (by omega)) (by have := HRs0.out; unfold szF at this; omega) (by have := HRs0.out; unfold szF at this; omega) (by have := HRs0.out; unfold szF at this; omega) (by have := HRs0.out; unfold szF at this; omega)).mono ?_
  rintro e w11 ⟨rfl, hb7⟩
  rw [show decide (R0 = R0) = true by simp]
  have s_w11 := hb7.size
  have bx0_10 := bx0_9.below hb7 (by first | exact bx0_9.lt | omega)
  clear bx0_9
  have bx0_10_l := bx0_10.lt
  have w0_10 := w0_9.below hb7 (by omega)
  clear w0_9
  have x0_10 := x0_9.below hb7 (by omega)
  clear x0_9
  have bxx0_10 := bxx0_9.below hb7 (by first | exact bxx0_9.lt | omega)
  clear bxx0_9
  have bxx0_10_l := bxx0_10.lt
  have x1_10 := x1_9.below hb7 (by omega)
  clear x1_9
  have g0_10 := o6_0.below hb7 (by omega)
  clear o6_0
  have B_w11 := bthen B_w10 hb7
  have q21 : w11.cell? ⟨w.heap.size, 0, none⟩ = some (.slice A0 p.1.length c0) := bx0_10.cell 0
  have q22 : w11.cell? ⟨w.heap.size, 1, none⟩ = some (.slice A0b p.2.length c0b) := bx0_10.cell 1
  have q23 : w11.cell? ⟨w7.heap.size, 0, none⟩ = some (.slice P4 p.1.length d4) := bxx0_10.cell 0
  have q24 : w11.cell? ⟨w7.heap.size, 1, none⟩ = some (.slice P4b p.2.length d4b) := bxx0_10.cell 1
  go_upto_region 14 with fail
  clear q21 q22 q23 q24
  have HS_w11 := Lib.hid (show ∀ W, Below w11.heap.size w11 W → (Below w11.heap.size w11 W ∧ W.cell? ⟨w.heap.size, 0, none⟩ = some (.slice A0 p.1.length c0) ∧ W.cell? ⟨w.heap.size, 1, none⟩ = some (.slice A0b p.2.length c0b) ∧ W.cell? ⟨w7.heap.size, 0, none⟩ = some (.slice P4 p.1.length d4) ∧ W.cell? ⟨w7.heap.size, 1, none⟩ = some (.slice P4b p.2.length d4b)) from fun W hW => ⟨hW, (bx0_10.below hW bx0_10_l).cell 0, (bx0_10.below hW bx0_10_l).cell 1, (bxx0_10.below hW bxx0_10_l).cell 0, (bxx0_10.below hW bxx0_10_l).cell 1⟩)
  have RX_w11 := Lib.hid (show RdProg w11 w11.heap.size (.agg #[.slice P4 p.1.length d4, .slice P4b p.2.length d4b]) p from x0_10.rd.more (by omega))
  go_cut [44] (fun s wx => s = .bool false ∧ Below w11.heap.size w11 wx)
  case first =>
    go_region_held3 (fun W => Below w11.heap.size w11 W ∧ W.cell? ⟨w.heap.size, 0, none⟩ = some (.slice A0 p.1.length c0) ∧ W.cell? ⟨w.heap.size, 1, none⟩ = some (.slice A0b p.2.length c0b) ∧ W.cell? ⟨w7.heap.size, 0, none⟩ = some (.slice P4 p.1.length d4) ∧ W.cell? ⟨w7.heap.size, 1, none⟩ = some (.slice P4b p.2.length d4b))
      (first | exact HS_w11.out _ (Below.refl _ _) | exact HS_w11.out _ (Below.refl _ _).drew | exact HS_w11.out _ (bthen (And.left (by assumption)) (by assumption)))
      (first
        | (go_at_call 7; refine (toProgram_own _ p _ ?_ (by omega)).mono ?_; exact H0.out.on (bthen B_w11 (And.left (by assumption))); rintro e wf ⟨Af, cf, Ag, cg, rfl, hof, hbf⟩)
        | (go_at_call 11; refine (eqProgram_any _ _ p p _ ?_ ?_ (by omega) (by omega)).mono ?_; exact (RX_w11.out.on (And.left (by assumption))); exact hof.rd; rw [show decide (p = p) = true by simp]; rintro e wg ⟨rfl, hbg⟩))
    all_goals (go_wp2_with fail; go_meet; exact ⟨rfl, And.left (by assumption)⟩)
  case rest =>
    obtain ⟨rfl, hb8⟩ := hcut
    clear HS_w11 RX_w11
    generalize wc = w12 at *
    have s_w12 := hb8.size
    have bx0_11 := bx0_10.below hb8 (by first | exact bx0_10.lt | omega)
    clear bx0_10
    have bx0_11_l := bx0_11.lt
    have w0_11 := w0_10.below hb8 (by omega)
    clear w0_10
    have x0_11 := x0_10.below hb8 (by omega)
    clear x0_10
    have bxx0_11 := bxx0_10.below hb8 (by first | exact bxx0_10.lt | omega)
    clear bxx0_10
    have bxx0_11_l := bxx0_11.lt
    have x1_11 := x1_10.below hb8 (by omega)
    clear x1_10
    have g0_11 := g0_10.below hb8 (by omega)
    clear g0_10
    have B_w12 := bthen B_w11 hb8
    have q25 : w12.cell? ⟨w.heap.size, 0, none⟩ = some (.slice A0 p.1.length c0) := bx0_11.cell 0
    have q26 : w12.cell? ⟨w.heap.size, 1, none⟩ = some (.slice A0b p.2.length c0b) := bx0_11.cell 1
    have q27 : w12.cell? ⟨w7.heap.size, 0, none⟩ = some (.slice P4 p.1.length d4) := bxx0_11.cell 0
    have q28 : w12.cell? ⟨w7.heap.size, 1, none⟩ = some (.slice P4b p.2.length d4b) := bxx0_11.cell 1
    go_wp2_with (fail)
    clear q25 q26 q27 q28
    refine (toFactS_any _ fs _ (H1.out.on B_w12) (by unfold szF at *; omega) (by unfold szF at *; omega)).mono ?_
    rintro e w13 ⟨P9, d9, rfl, o9, hb9⟩
    have s_w13 := hb9.size
    have bx0_12 := bx0_11.below hb9 (by first | exact bx0_11.lt | omega)
    clear bx0_11
    have bx0_12_l := bx0_12.lt
    have w0_12 := w0_11.below hb9 (by omega)
    clear w0_11
    have x0_12 := x0_11.below hb9 (by omega)
    clear x0_11
    have bxx0_12 := bxx0_11.below hb9 (by first | exact bxx0_11.lt | omega)
    clear bxx0_11
    have bxx0_12_l := bxx0_12.lt
    have x1_12 := x1_11.below hb9 (by omega)
    clear x1_11
    have g0_12 := g0_11.below hb9 (by omega)
    clear g0_11
    have B_w13 := bthen B_w12 hb9
    have q29 : w13.cell? ⟨w.heap.size, 0, none⟩ = some (.slice A0 p.1.length c0) := bx0_12.cell 0
    have q30 : w13.cell? ⟨w.heap.size, 1, none⟩ = some (.slice A0b p.2.length c0b) := bx0_12.cell 1
    have q31 : w13.cell? ⟨w7.heap.size, 0, none⟩ = some (.slice P4 p.1.length d4) := bxx0_12.cell 0
    have q32 : w13.cell? ⟨w7.heap.size, 1, none⟩ = some (.slice P4b p.2.length d4b) := bxx0_12.cell 1
    go_wp2_with (fail)
    clear q29 q30 q31 q32
    refine (eqFactS_any _ _ fs fs _ (x1_12.rd.more (by omega)) (o9.rd.more (by omega)) (by unfold szF at *; omega) (by unfold szF at *; omega) (by unfold szF at *; omega) (by unfold szF at *; omega)).mono ?_
    rintro e w14 ⟨rfl, hb10⟩
    rw [show decide (fs = fs) = true by simp]
    have s_w14 := hb10.size
    have bx0_13 := bx0_12.below hb10 (by first | exact bx0_12.lt | omega)
    clear bx0_12
    have bx0_13_l := bx0_13.lt
    have w0_13 := w0_12.below hb10 (by omega)
    clear w0_12
    have x0_13 := x0_12.below hb10 (by omega)
    clear x0_12
    have bxx0_13 := bxx0_12.below hb10 (by first | exact bxx0_12.lt | omega)
    clear bxx0_12
    have bxx0_13_l := bxx0_13.lt
    have x1_13 := x1_12.below hb10 (by omega)
    clear x1_12
    have g0_13 := g0_12.below hb10 (by omega)
    clear g0_12
    have B_w14 := bthen B_w13 hb10
    have q33 : w14.cell? ⟨w.heap.size, 0, none⟩ = some (.slice A0 p.1.length c0) := bx0_13.cell 0
    have q34 : w14.cell? ⟨w.heap.size, 1, none⟩ = some (.slice A0b p.2.length c0b) := bx0_13.cell 1
    have q35 : w14.cell? ⟨w7.heap.size, 0, none⟩ = some (.slice P4 p.1.length d4) := bxx0_13.cell 0
    have q36 : w14.cell? ⟨w7.heap.size, 1, none⟩ = some (.slice P4b p.2.length d4b) := bxx0_13.cell 1
    go_wp2_with (fail)
    clear q33 q34 q35 q36
    refine (um_prog 1 x0_13 (by omega) (by omega) (by omega)).mono ?_
    rintro e w15 ⟨k11, rfl, ka11, kb11, _, on11⟩
    have s_w15 := on11.size
    have bx0_14 := bx0_13.only on11 (by first | exact .inl (by omega) | exact .inr (by omega))
    clear bx0_13
    have bx0_14_l := bx0_14.lt
    have w0_14 := w0_13.only on11 (by first | exact .inl (by omega) | exact .inr (by omega))
    clear w0_13
    have bxx0_14 := bxx0_13.only on11 (by first | exact .inl (by omega) | exact .inr (by omega))
    clear bxx0_13
    have bxx0_14_l := bxx0_14.lt
    have x1_14 := x1_13.only on11 (by first | exact .inl (by omega) | exact .inr (by omega))
    clear x1_13
    have g0_14 := g0_13.only on11 (by first | exact .inl (by omega) | exact .inr (by omega))
    clear g0_13
    have B_w15 := Only.then_ B_w14 on11 (by omega)
    have q37 : w15.cell? ⟨w.heap.size, 0, none⟩ = some (.slice A0 p.1.length c0) := bx0_14.cell 0
    have q38 : w15.cell? ⟨w.heap.size, 1, none⟩ = some (.slice A0b p.2.length c0b) := bx0_14.cell 1
    have q39 : w15.cell? ⟨w7.heap.size, 0, none⟩ = some (.slice P4 p.1.length d4) := bxx0_14.cell 0
    have q40 : w15.cell? ⟨w7.heap.size, 1, none⟩ = some (.slice P4b p.2.length d4b) := bxx0_14.cell 1
    go_wp2_with (fail)
    clear q37 q38 q39 q40
    refine (um_facts k11 x1_14 (by omega) (by omega) (by omega)).mono ?_
    rintro e w16 ⟨k12, rfl, ka12, kb12, _, on12⟩
    have s_w16 := on12.size
    have bx0_15 := bx0_14.only on12 (by first | exact .inl (by omega) | exact .inr (by omega))
    clear bx0_14
    have bx0_15_l := bx0_15.lt
    have w0_15 := w0_14.only on12 (by first | exact .inl (by omega) | exact .inr (by omega))
    clear w0_14
    have bxx0_15 := bxx0_14.only on12 (by first | exact .inl (by omega) | exact .inr (by omega))
    clear bxx0_14
    have bxx0_15_l := bxx0_15.lt
    have g0_15 := g0_14.only on12 (by first | exact .inl (by omega) | exact .inr (by omega))
    clear g0_14
    have B_w16 := Only.then_ B_w15 on12 (by omega)
    have kn : ¬ k12 < 0 := by omega
    have kd : decide (k12 < 0) = false := by simp; omega
    have q41 : w16.cell? ⟨w.heap.size, 0, none⟩ = some (.slice A0 p.1.length c0) := bx0_15.cell 0
    have q42 : w16.cell? ⟨w.heap.size, 1, none⟩ = some (.slice A0b p.2.length c0b) := bx0_15.cell 1
    have q43 : w16.cell? ⟨w7.heap.size, 0, none⟩ = some (.slice P4 p.1.length d4) := bxx0_15.cell 0
    have q44 : w16.cell? ⟨w7.heap.size, 1, none⟩ = some (.slice P4b p.2.length d4b) := bxx0_15.cell 1
    go_wp2_with (fail)
    clear q41 q42 q43 q44
    refine (eqFactS_any _ _ R0 R0 _ (g0_15.rd.more (by omega)) (w0_15.rd.more (by omega)) (by have := HRs0.out; unfold szF at this; omega) (by have := HRs0.out; unfold szF at this; omega) (by have := HRs0.out; unfold szF at this; omega) (by have := HRs0.out; unfold szF at this; omega)).mono ?_
    rintro e w17 ⟨rfl, hb13⟩
    rw [show decide (R0 = R0) = true by simp]
    have s_w17 := hb13.size
    have bx0_16 := bx0_15.below hb13 (by first | exact bx0_15.lt | omega)
    clear bx0_15
    have bx0_16_l := bx0_16.lt
    have w0_16 := w0_15.below hb13 (by omega)
    clear w0_15
    have bxx0_16 := bxx0_15.below hb13 (by first | exact bxx0_15.lt | omega)
    clear bxx0_15
    have bxx0_16_l := bxx0_16.lt
    have g0_16 := g0_15.below hb13 (by omega)
    clear g0_15
    have B_w17 := bthen B_w16 hb13
    have q45 : w17.cell? ⟨w.heap.size, 0, none⟩ = some (.slice A0 p.1.length c0) := bx0_16.cell 0
    have q46 : w17.cell? ⟨w.heap.size, 1, none⟩ = some (.slice A0b p.2.length c0b) := bx0_16.cell 1
    have q47 : w17.cell? ⟨w7.heap.size, 0, none⟩ = some (.slice P4 p.1.length d4) := bxx0_16.cell 0
    have q48 : w17.cell? ⟨w7.heap.size, 1, none⟩ = some (.slice P4b p.2.length d4b) := bxx0_16.cell 1
    go_wp2_with (fail)
    clear q45 q46 q47 q48
    refine (um_facts 1 g0_16 (by omega) (by omega) (by have := HRs0.out; omega)).mono ?_
    rintro e w18 ⟨m14, rfl, ma14, mb14, hd14, on14⟩
    have mb14' := HRs0.out
    have s_w18 := on14.size
    have bx0_17 := bx0_16.only on14 (by first | exact .inl (by omega) | exact .inr (by omega))
    clear bx0_16
    have bx0_17_l := bx0_17.lt
    have w0_17 := w0_16.only on14 (by first | exact .inl (by omega) | exact .inr (by omega))
    clear w0_16
    have bxx0_17 := bxx0_16.only on14 (by first | exact .inl (by omega) | exact .inr (by omega))
    clear bxx0_16
    have bxx0_17_l := bxx0_17.lt
    have B_w18 := Only.then_ B_w17 on14 (by omega)
    have mn : ¬ m14 < 0 := by omega
    have me : (m14 != m14) = false := by simp
    have q49 : w18.cell? ⟨w.heap.size, 0, none⟩ = some (.slice A0 p.1.length c0) := bx0_17.cell 0
    have q50 : w18.cell? ⟨w.heap.size, 1, none⟩ = some (.slice A0b p.2.length c0b) := bx0_17.cell 1
    have q51 : w18.cell? ⟨w7.heap.size, 0, none⟩ = some (.slice P4 p.1.length d4) := bxx0_17.cell 0
    have q52 : w18.cell? ⟨w7.heap.size, 1, none⟩ = some (.slice P4b p.2.length d4b) := bxx0_17.cell 1
    go_wp2_with (fail)
    clear q49 q50 q51 q52
    refine (uh_facts hd14 (by omega)).mono ?_
    rintro e w19 ⟨rfl, hb15⟩
    have s_w19 := hb15.size
    have bx0_18 := bx0_17.below hb15 (by first | exact bx0_17.lt | omega)
    clear bx0_17
    have bx0_18_l := bx0_18.lt
    have w0_18 := w0_17.below hb15 (by omega)
    clear w0_17
    have bxx0_18 := bxx0_17.below hb15 (by first | exact bxx0_17.lt | omega)
    clear bxx0_17
    have bxx0_18_l := bxx0_18.lt
    have d0_18 := hd14.below hb15 (by omega)
    clear hd14
    have B_w19 := bthen B_w18 hb15
    have q53 : w19.cell? ⟨w.heap.size, 0, none⟩ = some (.slice A0 p.1.length c0) := bx0_18.cell 0
    have q54 : w19.cell? ⟨w.heap.size, 1, none⟩ = some (.slice A0b p.2.length c0b) := bx0_18.cell 1
    have q55 : w19.cell? ⟨w7.heap.size, 0, none⟩ = some (.slice P4 p.1.length d4) := bxx0_18.cell 0
    have q56 : w19.cell? ⟨w7.heap.size, 1, none⟩ = some (.slice P4b p.2.length d4b) := bxx0_18.cell 1
    go_wp2_with (fail)
    clear q53 q54 q55 q56
    refine (toProgram_own _ p _ (H0.out.on B_w19) (by omega)).mono ?_
    rintro e w20 ⟨P16, d16, P16b, d16b, rfl, o16, hb16⟩
    have s_w20 := hb16.size
    have bx0_19 := bx0_18.below hb16 (by first | exact bx0_18.lt | omega)
    clear bx0_18
    have bx0_19_l := bx0_19.lt
    have w0_19 := w0_18.below hb16 (by omega)
    clear w0_18
    have bxx0_19 := bxx0_18.below hb16 (by first | exact bxx0_18.lt | omega)
    clear bxx0_18
    have bxx0_19_l := bxx0_19.lt
    have d0_19 := d0_18.below hb16 (by omega)
    clear d0_18
    have B_w20 := bthen B_w19 hb16
    have q57 : w20.cell? ⟨w.heap.size, 0, none⟩ = some (.slice A0 p.1.length c0) := bx0_19.cell 0
    have q58 : w20.cell? ⟨w.heap.size, 1, none⟩ = some (.slice A0b p.2.length c0b) := bx0_19.cell 1
    have q59 : w20.cell? ⟨w7.heap.size, 0, none⟩ = some (.slice P4 p.1.length d4) := bxx0_19.cell 0
    have q60 : w20.cell? ⟨w7.heap.size, 1, none⟩ = some (.slice P4b p.2.length d4b) := bxx0_19.cell 1
    go_wp2_with (fail)
    clear q57 q58 q59 q60
    refine (toFactS_any _ fs _ (H1.out.on B_w20) (by unfold szF at *; omega) (by unfold szF at *; omega)).mono ?_
    rintro e w21 ⟨P17, d17, rfl, o17, hb17⟩
    have s_w21 := hb17.size
    have bx0_20 := bx0_19.below hb17 (by first | exact bx0_19.lt | omega)
    clear bx0_19
    have bx0_20_l := bx0_20.lt
    have w0_20 := w0_19.below hb17 (by omega)
    clear w0_19
    have bxx0_20 := bxx0_19.below hb17 (by first | exact bxx0_19.lt | omega)
    clear bxx0_19
    have bxx0_20_l := bxx0_20.lt
    have d0_20 := d0_19.below hb17 (by omega)
    clear d0_19
    have th0_20 := o16.below hb17 (by omega)
    clear o16
    have B_w21 := bthen B_w20 hb17
    have q61 : w21.cell? ⟨w.heap.size, 0, none⟩ = some (.slice A0 p.1.length c0) := bx0_20.cell 0
    have q62 : w21.cell? ⟨w.heap.size, 1, none⟩ = some (.slice A0b p.2.length c0b) := bx0_20.cell 1
    have q63 : w21.cell? ⟨w7.heap.size, 0, none⟩ = some (.slice P4 p.1.length d4) := bxx0_20.cell 0
    have q64 : w21.cell? ⟨w7.heap.size, 1, none⟩ = some (.slice P4b p.2.length d4b) := bxx0_20.cell 1
    go_wp2_with (fail)
    clear q61 q62 q63 q64
    refine (implConsequences_any _ _ p fs _ (th0_20.rd.more (by omega)) (o17.rd.more (by omega)) (by omega) (by unfold szF at r1; omega) (by unfold szF at r1; omega) (HT.out.below B_w21)).mono ?_
    rw [← HR0.out]
    rintro e w22 ⟨Q18_0, f18_0, rfl, o18_0, hb18⟩
    have s_w22 := hb18.size
    have bx0_21 := bx0_20.below hb18 (by first | exact bx0_20.lt | omega)
    clear bx0_20
    have bx0_21_l := bx0_21.lt
    have w0_21 := w0_20.below hb18 (by omega)
    clear w0_20
    have bxx0_21 := bxx0_20.below hb18 (by first | exact bxx0_20.lt | omega)
    clear bxx0_20
    have bxx0_21_l := bxx0_21.lt
    have d0_21 := d0_20.below hb18 (by omega)
    clear d0_20
    have th0_21 := th0_20.below hb18 (by omega)
    clear th0_20
    have th1_21 := o17.below hb18 (by omega)
    clear o17
    have B_w22 := bthen B_w21 hb18
    have q65 : w22.cell? ⟨w.heap.size, 0, none⟩ = some (.slice A0 p.1.length c0) := bx0_21.cell 0
    have q66 : w22.cell? ⟨w.heap.size, 1, none⟩ = some (.slice A0b p.2.length c0b) := bx0_21.cell 1
    have q67 : w22.cell? ⟨w7.heap.size, 0, none⟩ = some (.slice P4 p.1.length d4) := bxx0_21.cell 0
    have q68 : w22.cell? ⟨w7.heap.size, 1, none⟩ = some (.slice P4b p.2.length d4b) := bxx0_21.cell 1
    go_wp2_with (fail)
    clear q65 q66 q67 q68
    refine (eqFactS_any _ _ R0 R0 _ (o18_0.rd.more (by omega)) (w0_21.rd.more (by omega)) (by have := HRs0.out; unfold szF at this; omega) (by have := HRs0.out; unfold szF at this; omega) (by have := HRs0.out; unfold szF at this; omega) (by have := HRs0.out; unfold szF at this; omega)).mono ?_
    rintro e w23 ⟨rfl, hb19⟩
    rw [show decide (R0 = R0) = true by simp]
    have s_w23 := hb19.size
    have bx0_22 := bx0_21.below hb19 (by first | exact bx0_21.lt | omega)
    clear bx0_21
    have bx0_22_l := bx0_22.lt
    have w0_22 := w0_21.below hb19 (by omega)
    clear w0_21
    have bxx0_22 := bxx0_21.below hb19 (by first | exact bxx0_21.lt | omega)
    clear bxx0_21
    have bxx0_22_l := bxx0_22.lt
    have d0_22 := d0_21.below hb19 (by omega)
    clear d0_21
    have h0_22 := o18_0.below hb19 (by omega)
    clear o18_0
    have B_w23 := bthen B_w22 hb19
    have q69 : w23.cell? ⟨w.heap.size, 0, none⟩ = some (.slice A0 p.1.length c0) := bx0_22.cell 0
    have q70 : w23.cell? ⟨w.heap.size, 1, none⟩ = some (.slice A0b p.2.length c0b) := bx0_22.cell 1
    have q71 : w23.cell? ⟨w7.heap.size, 0, none⟩ = some (.slice P4 p.1.length d4) := bxx0_22.cell 0
    have q72 : w23.cell? ⟨w7.heap.size, 1, none⟩ = some (.slice P4b p.2.length d4b) := bxx0_22.cell 1
    go_wp2_with (fail)
    clear q69 q70 q71 q72
    refine (uh_facts d0_22 (by omega)).mono ?_
    rintro e w24 ⟨rfl, hb20⟩
    have s_w24 := hb20.size
    have bx0_23 := bx0_22.below hb20 (by first | exact bx0_22.lt | omega)
    clear bx0_22
    have bx0_23_l := bx0_23.lt
    have w0_23 := w0_22.below hb20 (by omega)
    clear w0_22
    have bxx0_23 := bxx0_22.below hb20 (by first | exact bxx0_22.lt | omega)
    clear bxx0_22
    have bxx0_23_l := bxx0_23.lt
    have d0_23 := d0_22.below hb20 (by omega)
    clear d0_22
    have h0_23 := h0_22.below hb20 (by omega)
    clear h0_22
    have B_w24 := bthen B_w23 hb20
    have q73 : w24.cell? ⟨w.heap.size, 0, none⟩ = some (.slice A0 p.1.length c0) := bx0_23.cell 0
    have q74 : w24.cell? ⟨w.heap.size, 1, none⟩ = some (.slice A0b p.2.length c0b) := bx0_23.cell 1
    have q75 : w24.cell? ⟨w7.heap.size, 0, none⟩ = some (.slice P4 p.1.length d4) := bxx0_23.cell 0
    have q76 : w24.cell? ⟨w7.heap.size, 1, none⟩ = some (.slice P4b p.2.length d4b) := bxx0_23.cell 1
    go_wp2_with (fail)
    clear q73 q74 q75 q76
    go_ret
    exact ⟨rfl, B_w24⟩

theorem lawConsequences_in (v0 : Value) (v1 : Value) (p : LProg) (fs : List LFact) (w : World) (h0 : InProg w v0 p) (h1 : InFacts w v1 fs) (hT : Tab w) : Calls Tryz.prog 3 #[v0, v1] w fun e w' => e = .returned (.bool true) ∧ Below w.heap.size w w' :=
  lawConsequences_any v0 v1 p fs w h0.1 h1.1 (progLens_in h0.2) h1.2.1 h1.2.2 hT

end Go.Proofs.YtcceololijefiaaGreatDoor
namespace Go.Proofs.YtcceololijefiaaGreatDoor
open Go.ChangeShapes Go.WideShapes Go.ChangeAt Go.RowKit

set_option maxRecDepth 100000 in
theorem fnExactConsequences_lifted (os : Os) (started : os.Started) (H : Type) (enc : TypeId × Value → H) :
    ReturnsInHanded {} Tryz.checked os 3 .any (fun w args => (Rows.fnExactConsequencesSpec.pre enc Tryz.prog Tryz.f3 [] false w args ∧ laidMetH Tryz.prog laidTabs1 w) ∧ sizedMet enc Tryz.prog Tryz.f3 (OpenSpec.ofChange Rows.fnExactConsequencesSpec) false w args) (Rows.fnExactConsequencesSpec.post enc Tryz.prog Tryz.f3 false true false false) := by
  refine returnsInHanded_of_change_and (C := Tryz.checked) (X := fun w _ => laidMetH Tryz.prog laidTabs1 w) (fun _ _ _ hh h => h.of_heap hh) Tryz.own started (by kernel_rfl) Tryz.func3
    (ChangeSpec.witness_shaped (enc := enc) (C := Tryz.checked) (os := os) (X := fun w _ => laidMetH Tryz.prog laidTabs1 w) false (World.laidAll Tryz.prog os laidTabs1) #[.agg #[.slice none 0 0, .slice none 0 0], .slice none 0 0] 8 (World.laidAll_os _ _ _)
      (World.shaped_of_ZipB (by kernel_rfl) (by kernel_rfl)) (by kernel_rfl) (by kernel_rfl) (by kernel_rfl)
      (by rw [MakeChecks.laidMetH_plain _ _ _ (by kernel_rfl)]; exact laidMet_laidAll _ (by kernel_rfl) (by kernel_rfl))) ?_
  intro W base args ds gs before hval0 hW _ _ hL _
  have hval : ∀ (j : Nat) t v, Tryz.f3.params[j]? = some t → args[j]? = some v → Value.okWide Tryz.prog W .any base t v := hval0
  have hW' := hW
  obtain ⟨p, q, hA0, hV, rfl, hfz, hnd⟩ := hW
  have hA : DataW.TrodAll enc Tryz.prog W 0 (fun _ => true) true Tryz.f3.params.toList args.toList ds p := hA0
  rw [Tryz.params3] at hA hval
  obtain ⟨v0, vs0, d0, ds0, p0, q0, hargs, rfl, rfl, h0, r0⟩ := trodAll_cons hA
  obtain ⟨v1, vs1, d1, ds1, p1, q1, rfl, rfl, rfl, h1, r1⟩ := trodAll_cons r0
  obtain ⟨rfl, rfl, rfl⟩ := trodAll_nil r1
  obtain rfl : args = #[v0, v1] := by cases args; simp_all
  obtain ⟨rfl, rfl⟩ := trodVars_none hV
  have lt0 : ∀ x ∈ p0, x.block < W.heap.size := by obtain ⟨m, hm⟩ := h0; exact DataW.trod_lt m _ _ _ hm
  obtain ⟨x0, w0⟩ := open_inProg (hval 0 25 v0 rfl rfl) h0
  have lt1 : ∀ x ∈ p1, x.block < W.heap.size := by obtain ⟨m, hm⟩ := h1; exact DataW.trod_lt m _ _ _ hm
  obtain ⟨x1, w1⟩ := open_inFacts (hval 1 26 v1 rfl rfl) h1
  clear hA0 hval0
  refine (lawConsequences_in v0 v1 x0 x1 W w0 w1 (tab_of_laid1 hL)).mono fun e W' ⟨he, bel⟩ => ?_
  subst he
  exact ⟨_, rfl, _, _, _, [], _, [], hW', trodAll_mk1 (shut_bool Tryz.underlying4 _), (trodAll_cons_mk (Below.trod Tryz.laidOut (by kernel_rfl) (of_decide_eq_true (by kernel_rfl)) h0 bel lt0) (trodAll_cons_mk (Below.trod Tryz.laidOut (by kernel_rfl) (of_decide_eq_true (by kernel_rfl)) h1 bel lt1) trodAll_mk0)), rfl, bel.frame _, fun h => by cases h⟩

theorem fnExactConsequences_holds : Rows.FnExactConsequencesSaid :=
  OpenClaim.holds_of_wide 3 Tryz.f3 rfl rfl rfl rfl rfl rfl rfl ⟨rfl, rfl, rfl, rfl, rfl⟩ rfl rfl rfl rfl rfl (by kernel_rfl) Tryz.func3 (by kernel_rfl)
    (of_decide_eq_true (by kernel_rfl)) (by unfold Func.isWrapper; rw [if_neg (of_decide_eq_false (by kernel_rfl))]; exact ⟨rfl, rfl⟩)
    (fun os started H enc _ => fnExactConsequences_lifted os started H enc)

theorem fnExactConsequencesCard_holds : Rows.FnExactConsequencesCardSaid :=
  Claim7.holds_tied_plain_at .later [] [.data] true (true, "ef937f0118c82ede225e4315fbcd2d98728b7cd96df6c84ae42ae58ad88ce589") false fnExactConsequences_holds (fun _ h => by cases h) (by kernel_rfl) (fun _ h => by cases h) fnExactConsequences_row_tie rfl ⟨rfl, rfl⟩ (by kernel_rfl) rfl
    (fun f fn hf hfn => by
      obtain rfl : f = 3 := Option.some.inj ((show Tryz.prog.funcNamed "loop.example/wholerules/laws.FnExactConsequences" = some 3 by kernel_rfl).symm.trans hf) |>.symm
      obtain rfl : fn = Tryz.f3 := (Option.some.inj (Tryz.func3.symm.trans hfn)).symm
      exact ⟨by kernel_rfl, fun j t ht => by
        rw [Tryz.params3] at ht
        have hm : t ∈ [25, 26] := by simpa using Array.mem_of_getElem? ht
        have hall : ([25, 26].all fun u => !Tryz.prog.wantsStandIn u) = true := by kernel_rfl
        exact (show Tryz.prog.wantsStandIn t = false by simpa using List.all_eq_true.1 hall t hm)⟩)
    (by kernel_rfl)

end Go.Proofs.YtcceololijefiaaGreatDoor
