/-
  The law FnExactLeastMore: for every input the call returns true, and each argument reads behind it as it read before. Conditions: none but the row's own.
-/
import Derived.Test.YtigkgheddngkeaaGreatDoorMLe12
import Derived.Test.YtigkgheddngkeaaGreatDoorMLe7
import Derived.Test.YtigkgheddngkeaaGreatDoorMLe9
import Derived.Test.YtigkgheddngkeaaGreatDoorMLe8
import Derived.Deep.RegionHeld3
import Derived.Deep.DeepCutAuto
import Derived.Deep.RegionWith
import Derived.Test.YtigkgheddngkeaaGreatDoorRows
import Derived.Test.YtigkgheddngkeaaGreatDoorMLe2
import Derived.Test.YtigkgheddngkeaaGreatDoorCards
import Derived.Test.YtigkgheddngkeaaGreatDoorTie
import Derived.Lay
import Derived.SevenTiedAt
import Derived.Test.YtigkgheddngkeaaGreatDoorLeastMoreJoin
import Derived.Test.YtigkgheddngkeaaGreatDoorJFm
import Derived.Test.YtigkgheddngkeaaGreatDoorJFg
import Derived.Test.YtigkgheddngkeaaGreatDoorLeastMoreGoes
/-
  LeastMore: the specification's and the program's.
-/
namespace Go.Proofs.YtigkgheddngkeaaGreatDoor
open Go.RowKit

def lmoreB (p : LProg) (ls ms : List LFact) : Bool := positive p && (closedL p ls && factsOk p.1 ms)
def lmoreL (p : LProg) (ls ms : List LFact) : List LFact := if lmoreB p ls ms then leastFrom p.2 (setOf (ls ++ ms)) else []
structure MoreOk (p : LProg) (ls ms : List LFact) : Prop where
  ar : arityOk p.1 = true
  fit : ∀ r ∈ p.2, ruleFits p.1 r = true
  few : p.2.length ≤ 60
  fitL : ∀ f ∈ ls, factFits p.1 f = true
  nodL : ls.Nodup
  fitM : ∀ f ∈ ms, factFits p.1 f = true
  nodM : ms.Nodup
  heads : ∀ f ∈ headsAll p.2 ls, f ∈ ls
theorem more_parts {p : LProg} {ls ms : List LFact} (h : lmoreB p ls ms = true) : MoreOk p ls ms := by
  simp only [lmoreB, positive, closedL, Bool.and_eq_true, decide_eq_true_eq] at h
  obtain ⟨⟨h0, _⟩, ⟨_, h2, h3⟩, h4⟩ := h
  obtain ⟨k1, k2, k3⟩ := prog_parts h0
  obtain ⟨_, f1, f2⟩ := factsOk_parts h2
  obtain ⟨_, g1, g2⟩ := factsOk_parts h4
  refine ⟨k1, k3, k2, f1, asc_nodup f2, g1, asc_nodup g2, fun f hf => ?_⟩
  apply Classical.byContradiction
  intro hn
  have hm : f ∈ pickL (headsAll p.2 ls) ls false := (pickL_in _ _ _ _).2 ⟨hf, by simp [hn]⟩
  rw [List.length_eq_zero_iff.1 h3] at hm
  cases hm
theorem MoreOk.sum {p : LProg} {ls ms : List LFact} (h : MoreOk p ls ms) : (ls.length ≤ 1536 ∧ tot ls ≤ 3072) ∧ ms.length ≤ 1536 ∧ tot ms ≤ 3072 := ⟨facts_few h.ar h.nodL h.fitL, facts_few h.ar h.nodM h.fitM⟩
theorem MoreOk.both {p : LProg} {ls ms : List LFact} (h : MoreOk p ls ms) : FitL p.1 (setOf (ls ++ ms)) := FitL.set fun f hf => by
  rcases List.mem_append.1 hf with h1 | h1
  · exact h.fitL f h1
  · exact h.fitM f h1
theorem MoreOk.bothFew {p : LProg} {ls ms : List LFact} (h : MoreOk p ls ms) : (setOf (ls ++ ms)).length ≤ 1536 ∧ tot (setOf (ls ++ ms)) ≤ 3072 := facts_few h.ar h.both.nodup h.both.fits
theorem setOf_setOf (xs : List LFact) : setOf (setOf xs) = setOf xs := (setOf_asc _).unique (setOf_asc _) fun f => by rw [setOf_mem]
theorem lmoreL_few (p : LProg) (ls ms : List LFact) : (lmoreL p ls ms).length ≤ 1536 ∧ tot (lmoreL p ls ms) ≤ 3072 := by
  unfold lmoreL
  cases h : lmoreB p ls ms
  · simp [tot]
  · have hp := more_parts h
    rw [if_pos rfl]
    exact iter_few hp.ar hp.fit hp.both _

set_option maxHeartbeats 4000000 in
set_option maxRecDepth 100000 in
theorem specLeastMore_any (v v2 v3 : Value) (p : LProg) (ls ms : List LFact) (w : World) (h : RdProg w w.heap.size v p) (h2 : RdFacts w w.heap.size v2 ls) (h3 : RdFacts w w.heap.size v3 ms) (hs : szP p ≤ 1048576) (hn : ls.length ≤ 1048576) (ht : tot ls ≤ 1048576) (hn3 : ms.length ≤ 1048576) (ht3 : tot ms ≤ 1048576) :
    Calls Tryz.prog 53 #[v, v2, v3] w fun e w' => ∃ A' c', e = .returned (.slice A' (lmoreL p ls ms).length c') ∧ OwnFacts w' w.heap.size w'.heap.size (.slice A' (lmoreL p ls ms).length c') (lmoreL p ls ms) ∧ Below w.heap.size w w' := by
  have HP := Lib.hid h
  have H2 := Lib.hid h2
  have H3 := Lib.hid h3
  have hs' := hs
  unfold szP at hs'
  obtain ⟨a, b, rfl, hA, hR⟩ := h
  have HA := Lib.hid hA
  have HR := Lib.hid hR
  obtain ⟨A, c, rfl, hcA, _⟩ := hA
  obtain ⟨A2, c2, rfl, hcR, _⟩ := hR
  obtain ⟨A3, c3, rfl, hcF, _⟩ := h2
  obtain ⟨A4, c4, rfl, hcM, _⟩ := h3
  obtain ⟨po, hpo⟩ : ∃ po, po = positive p := ⟨_, rfl⟩
  obtain ⟨co, hco⟩ : ∃ co, co = closedL p ls := ⟨_, rfl⟩
  obtain ⟨fo, hfo⟩ : ∃ fo, fo = factsOk p.1 ms := ⟨_, rfl⟩
  have HL := Lib.hid (show lmoreB p ls ms = (po && (co && fo)) by rw [hpo, hco, hfo]; rfl)
  obtain ⟨R, hRR⟩ : ∃ R, R = lmoreL p ls ms := ⟨_, rfl⟩
  have HRR := Lib.hid (show R = if (po && (co && fo)) then leastFrom p.2 (setOf (ls ++ ms)) else [] by rw [hRR, ← HL.out]; rfl)
  rw [← hRR]
  clear hRR
  go_enter Tryz.func53, Tryz.ntmps53
  go_upto_region 1 with fail
  obtain ⟨w1, hw1⟩ : ∃ w1, w1 = w.alloc (Obj.cells #[Value.slice A p.1.length c, Value.slice A2 p.2.length c2] 33) := ⟨_, rfl⟩
  have X1 : Blk w1 w.heap.size 33 #[.slice A p.1.length c, .slice A2 p.2.length c2] := by rw [hw1]; exact Blk.new _ _ _
  have B1 : Below w.heap.size w w1 := by rw [hw1]; exact below1 _ _
  rw [← hw1]
  clear hw1
  have x0 : w1.cell? ⟨w.heap.size, 0, none⟩ = some (.slice A p.1.length c) := X1.cell 0
  have x1 : w1.cell? ⟨w.heap.size, 1, none⟩ = some (.slice A2 p.2.length c2) := X1.cell 1
  have CP := Lib.hid ((specPositive_any _ p w1 (HP.out.on B1) hs).mono fun e w' (hh : e = .returned (.bool (positive p)) ∧ Below w1.heap.size w1 w') => (⟨by rw [hh.1, hpo], hh.2⟩ : e = .returned (.bool po) ∧ Below w1.heap.size w1 w'))
  have CC := Lib.hid (fun W (hW : Below w.heap.size w W) => (specClosed_any _ _ p ls W (HP.out.on hW) (H2.out.on hW) hs hn ht).mono fun e w' (hh : e = .returned (.bool (closedL p ls)) ∧ Below W.heap.size W w') => (⟨by rw [hh.1, hco], hh.2⟩ : e = .returned (.bool co) ∧ Below W.heap.size W w'))
  have CF := Lib.hid (fun W (hW : Below w.heap.size w W) => (specFactsOk_any _ _ p.1 ms W (HA.out.on hW) (H3.out.on hW) (by omega) (by omega) (by omega)).mono fun e w' (hh : e = .returned (.bool (factsOk p.1 ms)) ∧ Below W.heap.size W w') => (⟨by rw [hh.1, hfo], hh.2⟩ : e = .returned (.bool fo) ∧ Below W.heap.size W w'))
  have HX1 := Lib.hid X1
  clear hpo hco hfo X1
  cases po
  · go_wp2_with (go_at_call 90; refine CP.out.mono ?_; rintro e w2 ⟨rfl, b2⟩; have B2 := Lib.hid (bthen B1 b2); clear b2)
    go_ret
    have e : R = [] := by rw [HRR.out]; rfl
    rw [e]
    exact ⟨none, 0, rfl, ⟨_, .nil, World.ownsRow_nil _ _ _ _, fun g hg => by cases hg⟩, B2.out⟩
  · cases co
    · go_wp2_with (first
        | (go_at_call 90; refine CP.out.mono ?_; rintro e w2 ⟨rfl, b2⟩; have B2 := Lib.hid (bthen B1 b2)
           have HX2 := Lib.hid (HX1.out.below b2 HX1.out.lt)
           have x20 : w2.cell? ⟨w.heap.size, 0, none⟩ = some (.slice A p.1.length c) := HX2.out.cell 0
           have x21 : w2.cell? ⟨w.heap.size, 1, none⟩ = some (.slice A2 p.2.length c2) := HX2.out.cell 1
           clear b2)
        | (go_at_call 91; refine (CC.out _ B2.out).mono ?_; rintro e w3 ⟨rfl, b3⟩; have B3 := Lib.hid (bthen B2.out b3); clear b3))
      go_ret
      have e : R = [] := by rw [HRR.out]; rfl
      rw [e]
      exact ⟨none, 0, rfl, ⟨_, .nil, World.ownsRow_nil _ _ _ _, fun g hg => by cases hg⟩, B3.out⟩
    · cases fo
      · go_wp2_with (first
          | (go_at_call 90; refine CP.out.mono ?_; rintro e w2 ⟨rfl, b2⟩; have B2 := Lib.hid (bthen B1 b2)
             have HX2 := Lib.hid (HX1.out.below b2 HX1.out.lt)
             have x20 : w2.cell? ⟨w.heap.size, 0, none⟩ = some (.slice A p.1.length c) := HX2.out.cell 0
             have x21 : w2.cell? ⟨w.heap.size, 1, none⟩ = some (.slice A2 p.2.length c2) := HX2.out.cell 1
             clear b2)
          | (go_at_call 91; refine (CC.out _ B2.out).mono ?_; rintro e w3 ⟨rfl, b3⟩; have B3 := Lib.hid (bthen B2.out b3)
             have x30 : w3.cell? ⟨w.heap.size, 0, none⟩ = some (.slice A p.1.length c) := (HX2.out.below b3 HX2.out.lt).cell 0
             clear b3)
          | (go_at_call 76; refine (CF.out _ B3.out).mono ?_; rintro e w4 ⟨rfl, b4⟩; have B4 := Lib.hid (bthen B3.out b4); clear b4))
        go_ret
        have e : R = [] := by rw [HRR.out]; rfl
        rw [e]
        exact ⟨none, 0, rfl, ⟨_, .nil, World.ownsRow_nil _ _ _ _, fun g hg => by cases hg⟩, B4.out⟩
      · have MO := Lib.hid (more_parts (p := p) (ls := ls) (ms := ms) (by rw [HL.out]; rfl))
        have HRE := Lib.hid (show R = leastFrom p.2 (setOf (ls ++ ms)) by rw [HRR.out]; rfl)
        go_upto_region 3 with (first
          | (go_at_call 90; refine CP.out.mono ?_; rintro e w2 ⟨rfl, b2⟩; have B2 := Lib.hid (bthen B1 b2)
             have HX2 := Lib.hid (HX1.out.below b2 HX1.out.lt)
             have x20 : w2.cell? ⟨w.heap.size, 0, none⟩ = some (.slice A p.1.length c) := HX2.out.cell 0
             have x21 : w2.cell? ⟨w.heap.size, 1, none⟩ = some (.slice A2 p.2.length c2) := HX2.out.cell 1
             clear b2)
          | (go_at_call 91; refine (CC.out _ B2.out).mono ?_; rintro e w3 ⟨rfl, b3⟩; have B3 := Lib.hid (bthen B2.out b3)
             have HX3 := Lib.hid (HX2.out.below b3 HX2.out.lt)
             have x30 : w3.cell? ⟨w.heap.size, 0, none⟩ = some (.slice A p.1.length c) := HX3.out.cell 0
             clear b3)
          | (go_at_call 76; refine (CF.out _ B3.out).mono ?_; rintro e w4 ⟨rfl, b4⟩; have B4 := Lib.hid (bthen B3.out b4)
             have X4 := Lib.hid (HX3.out.below b4 HX3.out.lt)
             clear b4))
        obtain ⟨SS, hSS⟩ : ∃ SS : World → Prop, SS = (fun W => Below w4.heap.size w4 W ∧ W.cell? ⟨w.heap.size, 1, none⟩ = some (.slice A2 p.2.length c2)) := ⟨_, rfl⟩
        have HB := Lib.hid (show ∀ W, SS W → (Below w4.heap.size w4 W ∧ W.cell? ⟨w.heap.size, 1, none⟩ = some (.slice A2 p.2.length c2)) from by rw [hSS]; exact fun W hW => hW)
        have HS := Lib.hid (show ∀ W, Below w4.heap.size w4 W → SS W from by
          rw [hSS]
          exact fun W hW => ⟨hW, (X4.out.below hW X4.out.lt).cell 1⟩)
        clear hSS
        have BB : Below w4.heap.size w4 w4.drew := (Below.refl _ _).drew
        have SB := HS.out _ BB
        have BW := Lib.hid (B4.out.trans (BB.mono B4.out.size))
        have hsum := MO.out.sum
        have CE := Lib.hid (specFactsEither_any (.slice A3 ls.length c3) (.slice A4 ms.length c4) ls ms w4.drew (H2.out.on BW.out) (H3.out.on BW.out) (by omega) (by omega))
        refine wp_region_rel SS 6 7 (by kernel_rfl) rfl ?_
        refine wpAnyR_pure (i := 0) (oi := _) ?va0 rfl rfl (by kernel_rfl) (by decide) (fun _ _ _ h => h) rfl ?hya0 (fun _ => SB) ?resta0
        case hya0 => (intro W; go_simp; (try with_reducible rfl))
        try simp only [List.setIfInBounds_toArray, List.set_cons_zero, List.set_cons_succ]
        refine wpAnyR_take (i := 1) (oi := _) ?va1 rfl rfl (by kernel_rfl) (fun _ _ _ h => h) rfl ?hya1 SB ?resta1
        case hya1 => (intro W hW; obtain ⟨_, E0⟩ := HB.out W hW; go_simp; (try with_reducible rfl))
        try simp only [List.setIfInBounds_toArray, List.set_cons_zero, List.set_cons_succ]
        refine wpAnyR_pure (i := 2) (oi := _) ?va2 rfl rfl (by kernel_rfl) (by decide) (fun _ _ _ h => h) rfl ?hya2 (fun _ => SB) ?resta2
        case hya2 => (intro W; go_simp; (try with_reducible rfl))
        try simp only [List.setIfInBounds_toArray, List.set_cons_zero, List.set_cons_succ]
        refine wpAnyR_pure (i := 3) (oi := _) ?va3 rfl rfl (by kernel_rfl) (by decide) (fun _ _ _ h => h) rfl ?hya3 (fun _ => SB) ?resta3
        case hya3 => (intro W; go_simp; (try with_reducible rfl))
        try simp only [List.setIfInBounds_toArray, List.set_cons_zero, List.set_cons_succ]
        refine wpAnyR_one (i := 4) (by kernel_rfl) rfl (fun K hK => ?_)
        try rw [if_pos (show Region.wanted _ _ = true from rfl)]
        go_simp
        refine CE.out.mono ?_
        rintro e5 w5 ⟨A5, c5, rfl, o5, b5⟩
        have H5 := Lib.hid (And.intro o5 b5)
        clear o5 b5
        have S5 := HS.out w5 (bthen BB H5.out.2)
        have hbf := MO.out.bothFew
        have CL := Lib.hid (l4Least_any p.1 MO.out.ar p.2 MO.out.fit (by omega) (by have := MO.out.few; omega) (.slice A2 p.2.length c2) (.slice A5 (setOf (ls ++ ms)).length c5) (setOf (ls ++ ms)) w5 (HR.out.on (BW.out.trans (H5.out.2.mono BW.out.size))) (H5.out.1.rdS) (fun f hf => MO.out.both.fits f hf) (by omega) (by omega))
        rw [setOf_setOf, ← HRE.out] at CL
        refine hK.out _ _ (fun _ => S5) ?_
        clear hK K
        try simp only [List.setIfInBounds_toArray, List.set_cons_zero, List.set_cons_succ, Act.put]
        refine wpAnyR_one (i := 5) (by kernel_rfl) rfl (fun K hK => ?_)
        try rw [if_pos (show Region.wanted _ _ = true from rfl)]
        go_simp
        refine CL.out.mono ?_
        rintro e6 w6 ⟨A6, c6, rfl, o6, b6⟩
        have H6 := Lib.hid (And.intro o6 b6)
        clear o6 b6
        have S6 := HS.out w6 (bthen (bthen BB H5.out.2) H6.out.2)
        refine hK.out _ _ (fun _ => S6) ?_
        clear hK K
        try simp only [List.setIfInBounds_toArray, List.set_cons_zero, List.set_cons_succ, Act.put]
        refine wpAnyR_one (i := 6) (by kernel_rfl) rfl (fun K hK => ?_)
        go_simp
        refine hK.out _ _ (fun hf => absurd hf (by decide)) ?_
        clear hK K
        refine wpAnyR_done (by kernel_rfl) ?_
        clear S5 S6 SB HB HS
        go_wp2_with fail
        go_ret
        have hbig : Below w.heap.size w w5 := BW.out.trans (H5.out.2.mono BW.out.size)
        exact ⟨A6, c6, rfl, H6.out.1.mono hbig.size (Nat.le_refl _), bthen hbig H6.out.2⟩

end Go.Proofs.YtigkgheddngkeaaGreatDoor
/-
  LeastMore: the program's.
-/
namespace Go.Proofs.YtigkgheddngkeaaGreatDoor
open Go.RowKit

theorem more_heads {p : LProg} {ls ms L0 L1 : List LFact} {n : Nat} (h : MoreOk p ls ms) (h0 : FitL p.1 L0 ∧ ∀ f, f ∈ L0 ↔ f ∈ ls) (hb : Brings L0 (fun f => f ∈ ms) L1) (hn : L0.length = n) : ∀ f, f ∈ headsAll p.2 (L1.take n) → f ∈ L1 := by
  obtain ⟨⟨N, e⟩, _, hm⟩ := hb
  intro f hf
  have e1 : L1.take n = L0 := by rw [e, ← hn]; simp
  rw [e1] at hf
  have hL : FitL p.1 ls := ⟨h.nodL, h.fitL⟩
  rw [headsAll_same h.fit h0.1 hL h0.2] at hf
  exact (hm f).2 (.inl ((h0.2 f).2 (h.heads f hf)))
theorem more_least {p : LProg} {ls ms L0 L1 L : List LFact} {E0 E : List Nat} {m : Nat} (h : MoreOk p ls ms) (h0 : FitL p.1 L0 ∧ ∀ f, f ∈ L0 ↔ f ∈ ls) (hb : Brings L0 (fun f => f ∈ ms) L1) (hg : GrewOn p.1 p.2 L1 E0 L E m) : tabFacts (tabWith zeroT L) p.1 = leastFrom p.2 (setOf (ls ++ ms)) := by
  have he : setOf L1 = setOf (ls ++ ms) := (setOf_asc _).unique (setOf_asc _) fun f => by rw [setOf_mem, setOf_mem, hb.2.2, h0.2, List.mem_append]
  have hr := hg.rounds
  have hnow := hg.now
  rw [he] at hr hnow
  have hm := roundsM_is h.ar h.fit h.both hr
  have ht := tabFacts_with h.ar hg.fit.fits
  unfold leastFrom
  rw [hm]
  exact ht.1.unique (iterL_asc (setOf_asc _) m) fun f => (ht.2 f).trans (hnow f)

set_option maxHeartbeats 4000000 in
set_option maxRecDepth 100000 in
theorem implLeastMore_any (v v2 v3 : Value) (p : LProg) (ls ms : List LFact) (w : World) (h : RdProg w w.heap.size v p) (h2 : RdFacts w w.heap.size v2 ls) (h3 : RdFacts w w.heap.size v3 ms) (hs : szP p ≤ 1048576) (hn : ls.length ≤ 1048576) (ht : tot ls ≤ 1048576) (hn3 : ms.length ≤ 1048576) (ht3 : tot ms ≤ 1048576) (hT : Tab w) :
    Calls Tryz.prog 54 #[v, v2, v3] w fun e w' => ∃ A' c', e = .returned (.slice A' (lmoreL p ls ms).length c') ∧ OwnFacts w' w.heap.size w'.heap.size (.slice A' (lmoreL p ls ms).length c') (lmoreL p ls ms) ∧ Below w.heap.size w w' := by
  have HT := Lib.hid hT
  clear hT
  have HP := Lib.hid h
  have H2 := Lib.hid h2
  have H3 := Lib.hid h3
  have hs' := hs
  unfold szP at hs'
  obtain ⟨a, b, rfl, hA, hR⟩ := h
  have HA := Lib.hid hA
  have HR := Lib.hid hR
  obtain ⟨A, c, rfl, hcA, _⟩ := hA
  obtain ⟨A2, c2, rfl, hcR, _⟩ := hR
  obtain ⟨A3, c3, rfl, hcF, _⟩ := h2
  obtain ⟨A4, c4, rfl, hcM, _⟩ := h3
  obtain ⟨po, hpo⟩ : ∃ po, po = positive p := ⟨_, rfl⟩
  obtain ⟨co, hco⟩ : ∃ co, co = closedL p ls := ⟨_, rfl⟩
  obtain ⟨fo, hfo⟩ : ∃ fo, fo = factsOk p.1 ms := ⟨_, rfl⟩
  have HL := Lib.hid (show lmoreB p ls ms = (po && (co && fo)) by rw [hpo, hco, hfo]; rfl)
  obtain ⟨R, hRR⟩ : ∃ R, R = lmoreL p ls ms := ⟨_, rfl⟩
  have HRR := Lib.hid (show R = if (po && (co && fo)) then leastFrom p.2 (setOf (ls ++ ms)) else [] by rw [hRR, ← HL.out]; rfl)
  rw [← hRR]
  clear hRR
  go_enter Tryz.func54, Tryz.ntmps54
  go_upto_region 1 with fail
  obtain ⟨w1, hw1⟩ : ∃ w1, w1 = w.alloc (Obj.cells #[Value.slice A p.1.length c, Value.slice A2 p.2.length c2] 33) := ⟨_, rfl⟩
  have X1 : Blk w1 w.heap.size 33 #[.slice A p.1.length c, .slice A2 p.2.length c2] := by rw [hw1]; exact Blk.new _ _ _
  have B1 : Below w.heap.size w w1 := by rw [hw1]; exact below1 _ _
  rw [← hw1]
  clear hw1
  have x0 : w1.cell? ⟨w.heap.size, 0, none⟩ = some (.slice A p.1.length c) := X1.cell 0
  have x1 : w1.cell? ⟨w.heap.size, 1, none⟩ = some (.slice A2 p.2.length c2) := X1.cell 1
  have CP := Lib.hid ((implPositive_any _ p w1 (HP.out.on B1) hs).mono fun e w' (hh : e = .returned (.bool (positive p)) ∧ Below w1.heap.size w1 w') => (⟨by rw [hh.1, hpo], hh.2⟩ : e = .returned (.bool po) ∧ Below w1.heap.size w1 w'))
  have CC := Lib.hid (fun W (hW : Below w.heap.size w W) => (implClosed_any _ _ p ls W (HP.out.on hW) (H2.out.on hW) hs hn ht).mono fun e w' (hh : e = .returned (.bool (closedL p ls)) ∧ Below W.heap.size W w') => (⟨by rw [hh.1, hco], hh.2⟩ : e = .returned (.bool co) ∧ Below W.heap.size W w'))
  have CF := Lib.hid (fun W (hW : Below w.heap.size w W) => (implFactsOk_any _ _ p.1 ms W (HA.out.on hW) (H3.out.on hW) (by omega) (by omega) (by omega)).mono fun e w' (hh : e = .returned (.bool (factsOk p.1 ms)) ∧ Below W.heap.size W w') => (⟨by rw [hh.1, hfo], hh.2⟩ : e = .returned (.bool fo) ∧ Below W.heap.size W w'))
  have HX1 := Lib.hid X1
  clear hpo hco hfo X1
  cases po
  · go_wp2_with (go_at_call 93; refine CP.out.mono ?_; rintro e w2 ⟨rfl, b2⟩; have B2 := Lib.hid (bthen B1 b2); clear b2)
    go_ret
    have e : R = [] := by rw [HRR.out]; rfl
    rw [e]
    exact ⟨none, 0, rfl, ⟨_, .nil, World.ownsRow_nil _ _ _ _, fun g hg => by cases hg⟩, B2.out⟩
  · cases co
    · go_wp2_with (first
        | (go_at_call 93; refine CP.out.mono ?_; rintro e w2 ⟨rfl, b2⟩; have B2 := Lib.hid (bthen B1 b2)
           have HX2 := Lib.hid (HX1.out.below b2 HX1.out.lt)
           have x20 : w2.cell? ⟨w.heap.size, 0, none⟩ = some (.slice A p.1.length c) := HX2.out.cell 0
           have x21 : w2.cell? ⟨w.heap.size, 1, none⟩ = some (.slice A2 p.2.length c2) := HX2.out.cell 1
           clear b2)
        | (go_at_call 94; refine (CC.out _ B2.out).mono ?_; rintro e w3 ⟨rfl, b3⟩; have B3 := Lib.hid (bthen B2.out b3); clear b3))
      go_ret
      have e : R = [] := by rw [HRR.out]; rfl
      rw [e]
      exact ⟨none, 0, rfl, ⟨_, .nil, World.ownsRow_nil _ _ _ _, fun g hg => by cases hg⟩, B3.out⟩
    · cases fo
      · go_wp2_with (first
          | (go_at_call 93; refine CP.out.mono ?_; rintro e w2 ⟨rfl, b2⟩; have B2 := Lib.hid (bthen B1 b2)
             have HX2 := Lib.hid (HX1.out.below b2 HX1.out.lt)
             have x20 : w2.cell? ⟨w.heap.size, 0, none⟩ = some (.slice A p.1.length c) := HX2.out.cell 0
             have x21 : w2.cell? ⟨w.heap.size, 1, none⟩ = some (.slice A2 p.2.length c2) := HX2.out.cell 1
             clear b2)
          | (go_at_call 94; refine (CC.out _ B2.out).mono ?_; rintro e w3 ⟨rfl, b3⟩; have B3 := Lib.hid (bthen B2.out b3)
             have x30 : w3.cell? ⟨w.heap.size, 0, none⟩ = some (.slice A p.1.length c) := (HX2.out.below b3 HX2.out.lt).cell 0
             clear b3)
          | (go_at_call 95; refine (CF.out _ B3.out).mono ?_; rintro e w4 ⟨rfl, b4⟩; have B4 := Lib.hid (bthen B3.out b4); clear b4))
        go_ret
        have e : R = [] := by rw [HRR.out]; rfl
        rw [e]
        exact ⟨none, 0, rfl, ⟨_, .nil, World.ownsRow_nil _ _ _ _, fun g hg => by cases hg⟩, B4.out⟩
      · have MO := Lib.hid (more_parts (p := p) (ls := ls) (ms := ms) (by rw [HL.out]; rfl))
        have HRE := Lib.hid (show R = leastFrom p.2 (setOf (ls ++ ms)) by rw [HRR.out]; rfl)
        have hsum := MO.out.sum
        go_upto_region 6 with (first
          | (go_at_call 93; refine CP.out.mono ?_; rintro e w2 ⟨rfl, b2⟩; have B2 := Lib.hid (bthen B1 b2)
             have HX2 := Lib.hid (HX1.out.below b2 HX1.out.lt)
             have x20 : w2.cell? ⟨w.heap.size, 0, none⟩ = some (.slice A p.1.length c) := HX2.out.cell 0
             have x21 : w2.cell? ⟨w.heap.size, 1, none⟩ = some (.slice A2 p.2.length c2) := HX2.out.cell 1
             clear b2)
          | (go_at_call 94; refine (CC.out _ B2.out).mono ?_; rintro e w3 ⟨rfl, b3⟩; have B3 := Lib.hid (bthen B2.out b3)
             have HX3 := Lib.hid (HX2.out.below b3 HX2.out.lt)
             have x30 : w3.cell? ⟨w.heap.size, 0, none⟩ = some (.slice A p.1.length c) := HX3.out.cell 0
             clear b3)
          | (go_at_call 95; refine (CF.out _ B3.out).mono ?_; rintro e w4 ⟨rfl, b4⟩; have B4 := Lib.hid (bthen B3.out b4)
             have X4 := Lib.hid (HX3.out.below b4 HX3.out.lt)
             have CG := Lib.hid (growthFrom_any p.1 MO.out.ar (.slice A3 ls.length c3) ls w4 (H2.out.on B4.out) MO.out.fitL hn)
             clear b4)
          | (go_at_call 96; refine CG.out.mono ?_; rintro e w5 ⟨X, Rg, rfl, g5, b5, f5, m5⟩
             have H5 := Lib.hid (And.intro g5 (And.intro b5 (And.intro f5 m5)))
             have CB := Lib.hid (bring_any w4.heap.size p.1 MO.out.ar X [X.length] 0 X.length Rg (.slice A4 ms.length c4) ms w5 g5 f5 ((H3.out.on B4.out).below b5 (Nat.le_refl _)) MO.out.fitM hn3)
             clear g5 b5 f5 m5)
          | (go_at_call 97; refine CB.out.mono ?_; rintro e w6 ⟨rfl, X6, R6, g6, k6, br6⟩
             have H6 := Lib.hid (And.intro g6 (And.intro k6 br6))
             have b6 : Below w4.heap.size w4 w6 := H5.out.2.1.trans k6.below
             have x61 : w6.cell? ⟨w.heap.size, 1, none⟩ = some (.slice A2 p.2.length c2) := (X4.out.below b6 X4.out.lt).cell 1
             have BW6 := Lib.hid b6
             have fx6 : FitL p.1 (factsX X6) := br6.fit H5.out.2.2.1 MO.out.fitM
             have CO := Lib.hid (growOn_any w4.heap.size p.1 MO.out.ar p.2 MO.out.fit (by omega) (by have := MO.out.few; omega) X6 [X.length] 0 X.length R6 (.slice A2 p.2.length c2) w6 g6 fx6 ((HR.out.on B4.out).below b6 (Nat.le_refl _)) (by simp) (by simp) (by simp) (by simp) (more_heads MO.out H5.out.2.2 br6 (factsX_len X)))
             clear g6 k6 br6 b6 fx6)
          | (go_at_call 98; refine CO.out.mono ?_; rintro e w7 ⟨rfl, X7, E7, o7, R7, m7, g7, k7, gr7⟩
             have H7 := Lib.hid (And.intro g7 (And.intro k7 gr7))
             have BW7 := Lib.hid (BW6.out.trans k7.below)
             clear g7 k7 gr7))
        have B7 := Lib.hid (B4.out.trans (BW7.out.mono B4.out.size))
        obtain ⟨SS, hSS⟩ : ∃ SS : World → Prop, SS = (fun W => Below w7.heap.size w7 W ∧ W.cell? ⟨w.heap.size, 0, none⟩ = some (.slice A p.1.length c)) := ⟨_, rfl⟩
        have HB := Lib.hid (show ∀ W, SS W → (Below w7.heap.size w7 W ∧ W.cell? ⟨w.heap.size, 0, none⟩ = some (.slice A p.1.length c)) from by rw [hSS]; exact fun W hW => hW)
        have X7b := Lib.hid (X4.out.below BW7.out X4.out.lt)
        have HS := Lib.hid (show ∀ W, Below w7.heap.size w7 W → SS W from by
          rw [hSS]
          exact fun W hW => ⟨hW, (X7b.out.below hW X7b.out.lt).cell 0⟩)
        clear hSS
        have BB : Below w7.heap.size w7 w7.drew := (Below.refl _ _).drew
        have SB := HS.out _ BB
        have CT := Lib.hid (tabFactsG_any w4.heap.size (tabWith zeroT (factsX X7)) (.slice A p.1.length c) p.1 w7.drew (H7.out.1.drew.tab) ((HA.out.on B7.out).on BB) MO.out.ar ((HT.out.below B7.out).below BB))
        rw [more_least MO.out H5.out.2.2 H6.out.2.2 H7.out.2.2, ← HRE.out] at CT
        refine wp_region_rel SS 6 7 (by kernel_rfl) rfl ?_
        refine wpAnyR_pure (i := 0) (oi := _) ?va0 rfl rfl (by kernel_rfl) (by decide) (fun _ _ _ h => h) rfl ?hya0 (fun _ => SB) ?resta0
        case hya0 => (intro W; go_simp; (try with_reducible rfl))
        try simp only [List.setIfInBounds_toArray, List.set_cons_zero, List.set_cons_succ]
        refine wpAnyR_pure (i := 1) (oi := _) ?va1 rfl rfl (by kernel_rfl) (by decide) (fun _ _ _ h => h) rfl ?hya1 (fun _ => SB) ?resta1
        case hya1 => (intro W; go_simp; (try with_reducible rfl))
        try simp only [List.setIfInBounds_toArray, List.set_cons_zero, List.set_cons_succ]
        refine wpAnyR_pure (i := 2) (oi := _) ?va2 rfl rfl (by kernel_rfl) (by decide) (fun _ _ _ h => h) rfl ?hya2 (fun _ => SB) ?resta2
        case hya2 => (intro W; go_simp; (try with_reducible rfl))
        try simp only [List.setIfInBounds_toArray, List.set_cons_zero, List.set_cons_succ]
        refine wpAnyR_pure (i := 3) (oi := _) ?va3 rfl rfl (by kernel_rfl) (by decide) (fun _ _ _ h => h) rfl ?hya3 (fun _ => SB) ?resta3
        case hya3 => (intro W; go_simp; (try with_reducible rfl))
        try simp only [List.setIfInBounds_toArray, List.set_cons_zero, List.set_cons_succ]
        refine wpAnyR_take (i := 4) (oi := _) ?va4 rfl rfl (by kernel_rfl) (fun _ _ _ h => h) rfl ?hya4 SB ?resta4
        case hya4 => (intro W hW; obtain ⟨_, E0⟩ := HB.out W hW; go_simp; (try with_reducible rfl))
        try simp only [List.setIfInBounds_toArray, List.set_cons_zero, List.set_cons_succ]
        refine wpAnyR_one (i := 5) (by kernel_rfl) rfl (fun K hK => ?_)
        try rw [if_pos (show Region.wanted _ _ = true from rfl)]
        go_simp
        refine CT.out.mono ?_
        rintro e5 w8 ⟨A8, c8, rfl, o8, b8⟩
        have H8 := Lib.hid (And.intro o8 b8)
        clear o8 b8
        have S8 := HS.out w8 (bthen BB H8.out.2)
        refine hK.out _ _ (fun _ => S8) ?_
        clear hK K
        try simp only [List.setIfInBounds_toArray, List.set_cons_zero, List.set_cons_succ, Act.put]
        refine wpAnyR_one (i := 6) (by kernel_rfl) rfl (fun K hK => ?_)
        go_simp
        refine hK.out _ _ (fun hf => absurd hf (by decide)) ?_
        clear hK K
        refine wpAnyR_done (by kernel_rfl) ?_
        clear S8 SB HB HS
        go_wp2_with fail
        go_ret
        exact ⟨A8, c8, rfl, H8.out.1.mono (Nat.le_trans B7.out.size BB.size) (Nat.le_refl _), bthen B7.out (bthen BB H8.out.2)⟩

end Go.Proofs.YtigkgheddngkeaaGreatDoor
/-
  The walk of the law on LeastMore (written by wip/genlaw.py).
-/
namespace Go.Proofs.YtigkgheddngkeaaGreatDoor
open Go.RowKit

set_option maxHeartbeats 4000000 in
set_option maxRecDepth 100000 in
theorem lawLeastMore_any (v0 : Value) (v1 : Value) (v2 : Value) (p : LProg) (ls : List LFact) (ms : List LFact) (w : World) (h0 : RdProg w w.heap.size v0 p) (h1 : RdFacts w w.heap.size v1 ls) (h2 : RdFacts w w.heap.size v2 ms) (n0 : progLens p) (n1 : ls.length ≤ maxLen) (m1 : ∀ k (h : k < ls.length), ls[k].2.length ≤ maxLen) (n2 : ms.length ≤ maxLen) (m2 : ∀ k (h : k < ms.length), ms[k].2.length ≤ maxLen) (hT : Tab w) :
    Calls Tryz.prog 12 #[v0, v1, v2] w fun e w' => e = .returned (.bool true) ∧ Below w.heap.size w w' := by
  have HT := Lib.hid hT
  clear hT
  have H0 := Lib.hid h0
  obtain ⟨_, _, rfl, ⟨A0, c0, rfl, hc0, _⟩, ⟨A0b, c0b, rfl, hc0b, _⟩⟩ := h0
  have H1 := Lib.hid h1
  obtain ⟨A1, c1, rfl, hc1, _⟩ := h1
  have H2 := Lib.hid h2
  obtain ⟨A2, c2, rfl, hc2, _⟩ := h2
  go_enter Tryz.func12, Tryz.ntmps12
  go_wp2_with (fail)
  obtain ⟨w1, hw_w1⟩ : ∃ W', W' = w.alloc (Obj.cells #[Value.slice A0 p.1.length c0, Value.slice A0b p.2.length c0b] 25) := ⟨_, rfl⟩
  rw [← hw_w1]
  have B_w1 : Below w.heap.size w w1 := by rw [hw_w1]; exact below1 _ _
  have bx0 : Blk w1 (w.heap.size + 0) 25 #[.slice A0 p.1.length c0, .slice A0b p.2.length c0b] := by
    rw [hw_w1]
    have := (Blk.new w 25 #[.slice A0 p.1.length c0, .slice A0b p.2.length c0b])
    simpa using this
  have bx0_l := bx0.lt
  rw [Nat.add_zero] at bx0 bx0_l
  have s_w1 := B_w1.size
  clear hw_w1
  refine (us_prog (H0.out.on B_w1) (by omega) (by omega) n0).mono ?_
  rintro e w2 ⟨z0, rfl, hz0, hbz0⟩
  have s_w2 := hbz0.size
  have bx0_1 := bx0.below hbz0 (by first | exact bx0.lt | omega)
  clear bx0
  have bx0_1_l := bx0_1.lt
  have B_w2 := bthen B_w1 hbz0
  rcases hz0 with rfl | ⟨zp0, zs0⟩
  · go_wp2_with (fail)
    go_ret
    exact ⟨rfl, B_w2⟩
  have zn0 : ¬ z0 < 0 := by omega
  have r0 : szP p ≤ 1048576 := by omega
  have zl0 : z0 ≤ 1048576 := by omega
  have ZS0 := Lib.hid zs0
  clear zs0
  have q1 : w2.cell? ⟨w.heap.size, 0, none⟩ = some (.slice A0 p.1.length c0) := bx0_1.cell 0
  have q2 : w2.cell? ⟨w.heap.size, 1, none⟩ = some (.slice A0b p.2.length c0b) := bx0_1.cell 1
  go_wp2_with (fail)
  clear q1 q2
  refine (us_facts (H1.out.on B_w2) (by omega) (by omega) n1 m1).mono ?_
  rintro e w3 ⟨z1, rfl, hz1, hbz1⟩
  have s_w3 := hbz1.size
  have bx0_2 := bx0_1.below hbz1 (by first | exact bx0_1.lt | omega)
  clear bx0_1
  have bx0_2_l := bx0_2.lt
  have B_w3 := bthen B_w2 hbz1
  rcases hz1 with rfl | ⟨zp1, zs1⟩
  · go_wp2_with (fail)
    go_ret
    exact ⟨rfl, B_w3⟩
  have zn1 : ¬ z1 < 0 := by omega
  have r1 : szF ls ≤ 1048576 := by omega
  have zl1 : z1 ≤ 1048576 := by omega
  have ZS1 := Lib.hid zs1
  clear zs1
  have q3 : w3.cell? ⟨w.heap.size, 0, none⟩ = some (.slice A0 p.1.length c0) := bx0_2.cell 0
  have q4 : w3.cell? ⟨w.heap.size, 1, none⟩ = some (.slice A0b p.2.length c0b) := bx0_2.cell 1
  go_wp2_with (fail)
  clear q3 q4
  refine (us_facts (H2.out.on B_w3) (by omega) (by omega) n2 m2).mono ?_
  rintro e w4 ⟨z2, rfl, hz2, hbz2⟩
  have s_w4 := hbz2.size
  have bx0_3 := bx0_2.below hbz2 (by first | exact bx0_2.lt | omega)
  clear bx0_2
  have bx0_3_l := bx0_3.lt
  have B_w4 := bthen B_w3 hbz2
  rcases hz2 with rfl | ⟨zp2, zs2⟩
  · go_wp2_with (fail)
    go_ret
    exact ⟨rfl, B_w4⟩
  have zn2 : ¬ z2 < 0 := by omega
  have r2 : szF ms ≤ 1048576 := by omega
  have zl2 : z2 ≤ 1048576 := by omega
  have ZS2 := Lib.hid zs2
  clear zs2 zn2
  have zn2 : ¬ z2 < 0 := by omega
  obtain ⟨R0, hR0⟩ : ∃ R, R = lmoreL p ls ms := ⟨_, rfl⟩
  have HR0 := Lib.hid hR0
  have HRs0 := Lib.hid (show szF R0 ≤ 1048576 by rw [hR0]; have := lmoreL_few p ls ms; unfold szF; omega)
  clear hR0
  have q5 : w4.cell? ⟨w.heap.size, 0, none⟩ = some (.slice A0 p.1.length c0) := bx0_3.cell 0
  have q6 : w4.cell? ⟨w.heap.size, 1, none⟩ = some (.slice A0b p.2.length c0b) := bx0_3.cell 1
  go_wp2_with (fail)
  clear q5 q6
  refine (toProgram_own _ p _ (H0.out.on B_w4) (by omega)).mono ?_
  rintro e w5 ⟨P1, d1, P1b, d1b, rfl, o1, hb1⟩
  have s_w5 := hb1.size
  have bx0_4 := bx0_3.below hb1 (by first | exact bx0_3.lt | omega)
  clear bx0_3
  have bx0_4_l := bx0_4.lt
  have B_w5 := bthen B_w4 hb1
  have q7 : w5.cell? ⟨w.heap.size, 0, none⟩ = some (.slice A0 p.1.length c0) := bx0_4.cell 0
  have q8 : w5.cell? ⟨w.heap.size, 1, none⟩ = some (.slice A0b p.2.length c0b) := bx0_4.cell 1
  go_wp2_with (fail)
  clear q7 q8
  refine (toFactS_any _ ls _ (H1.out.on B_w5) (by unfold szF at *; omega) (by unfold szF at *; omega)).mono ?_
  rintro e w6 ⟨P2, d2, rfl, o2, hb2⟩
  have s_w6 := hb2.size
  have bx0_5 := bx0_4.below hb2 (by first | exact bx0_4.lt | omega)
  clear bx0_4
  have bx0_5_l := bx0_5.lt
  have tw0_5 := o1.below hb2 (by omega)
  clear o1
  have B_w6 := bthen B_w5 hb2
  have q9 : w6.cell? ⟨w.heap.size, 0, none⟩ = some (.slice A0 p.1.length c0) := bx0_5.cell 0
  have q10 : w6.cell? ⟨w.heap.size, 1, none⟩ = some (.slice A0b p.2.length c0b) := bx0_5.cell 1
  go_wp2_with (fail)
  clear q9 q10
  refine (toFactS_any _ ms _ (H2.out.on B_w6) (by unfold szF at *; omega) (by unfold szF at *; omega)).mono ?_
  rintro e w7 ⟨P3, d3, rfl, o3, hb3⟩
  have s_w7 := hb3.size
  have bx0_6 := bx0_5.below hb3 (by first | exact bx0_5.lt | omega)
  clear bx0_5
  have bx0_6_l := bx0_6.lt
  have tw0_6 := tw0_5.below hb3 (by omega)
  clear tw0_5
  have tw1_6 := o2.below hb3 (by omega)
  clear o2
  have B_w7 := bthen B_w6 hb3
  have q11 : w7.cell? ⟨w.heap.size, 0, none⟩ = some (.slice A0 p.1.length c0) := bx0_6.cell 0
  have q12 : w7.cell? ⟨w.heap.size, 1, none⟩ = some (.slice A0b p.2.length c0b) := bx0_6.cell 1
  go_wp2_with (fail)
  clear q11 q12
  refine (specLeastMore_any _ _ _ p ls ms _ (tw0_6.rd.more (by omega)) (tw1_6.rd.more (by omega)) (o3.rd.more (by omega)) (by omega) (by unfold szF at r1; omega) (by unfold szF at r1; omega) (by unfold szF at r2; omega) (by unfold szF at r2; omega)).mono ?_
  rw [← HR0.out]
  rintro e w8 ⟨Q4_0, f4_0, rfl, o4_0, hb4⟩
  have s_w8 := hb4.size
  have bx0_7 := bx0_6.below hb4 (by first | exact bx0_6.lt | omega)
  clear bx0_6
  have bx0_7_l := bx0_7.lt
  have tw0_7 := tw0_6.below hb4 (by omega)
  clear tw0_6
  have tw1_7 := tw1_6.below hb4 (by omega)
  clear tw1_6
  have tw2_7 := o3.below hb4 (by omega)
  clear o3
  have B_w8 := bthen B_w7 hb4
  have q13 : w8.cell? ⟨w.heap.size, 0, none⟩ = some (.slice A0 p.1.length c0) := bx0_7.cell 0
  have q14 : w8.cell? ⟨w.heap.size, 1, none⟩ = some (.slice A0b p.2.length c0b) := bx0_7.cell 1
  go_wp2_with (fail)
  clear q13 q14
  refine (toProgram_own _ p _ (H0.out.on B_w8) (by omega)).mono ?_
  rintro e w9 ⟨P5, d5, P5b, d5b, rfl, o5, hb5⟩
  have s_w9 := hb5.size
  have bx0_8 := bx0_7.below hb5 (by first | exact bx0_7.lt | omega)
  clear bx0_7
  have bx0_8_l := bx0_8.lt
  have w0_8 := o4_0.below hb5 (by omega)
  clear o4_0
  have B_w9 := bthen B_w8 hb5
  have q15 : w9.cell? ⟨w.heap.size, 0, none⟩ = some (.slice A0 p.1.length c0) := bx0_8.cell 0
  have q16 : w9.cell? ⟨w.heap.size, 1, none⟩ = some (.slice A0b p.2.length c0b) := bx0_8.cell 1
  go_wp2_with (fail)
  clear q15 q16
  obtain ⟨w10, hw_w10⟩ : ∃ W', W' = w9.alloc (Obj.cells #[Value.slice P5 p.1.length d5, Value.slice P5b p.2.length d5b] 33) := ⟨_, rfl⟩
  rw [← hw_w10]
  have hb_w10 : Below w9.heap.size w9 w10 := by rw [hw_w10]; exact below1 _ _
  have bxx0_n : Blk w10 w9.heap.size 33 #[.slice P5 p.1.length d5, .slice P5b p.2.length d5b] := by rw [hw_w10]; exact Blk.new _ _ _
  have bxx0_nl := bxx0_n.lt
  clear hw_w10
  have s_w10 := hb_w10.size
  have bx0_9 := bx0_8.below hb_w10 (by first | exact bx0_8.lt | omega)
  clear bx0_8
  have bx0_9_l := bx0_9.lt
  have w0_9 := w0_8.below hb_w10 (by omega)
  clear w0_8
  have x0_9 := o5.below hb_w10 (by omega)
  clear o5
  have B_w10 := bthen B_w9 hb_w10
  refine (toFactS_any _ ls _ (H1.out.on B_w10) (by unfold szF at *; omega) (by unfold szF at *; omega)).mono ?_
  rintro e w11 ⟨P6, d6, rfl, o6, hb6⟩
  have s_w11 := hb6.size
  have bx0_10 := bx0_9.below hb6 (by first | exact bx0_9.lt | omega)
  clear bx0_9
  have bx0_10_l := bx0_10.lt
  have w0_10 := w0_9.below hb6 (by omega)
  clear w0_9
  have x0_10 := x0_9.below hb6 (by omega)
  clear x0_9
  have bxx0_10 := bxx0_n.below hb6 (by first | exact bxx0_n.lt | omega)
  clear bxx0_n
  have bxx0_10_l := bxx0_10.lt
  have B_w11 := bthen B_w10 hb6
  have q17 : w11.cell? ⟨w.heap.size, 0, none⟩ = some (.slice A0 p.1.length c0) := bx0_10.cell 0
  have q18 : w11.cell? ⟨w.heap.size, 1, none⟩ = some (.slice A0b p.2.length c0b) := bx0_10.cell 1
  have q19 : w11.cell? ⟨w9.heap.size, 0, none⟩ = some (.slice P5 p.1.length d5) := bxx0_10.cell 0
  have q20 : w11.cell? ⟨w9.heap.size, 1, none⟩ = some (.slice P5b p.2.length d5b) := bxx0_10.cell 1
  go_wp2_with (fail)
  clear q17 q18 q19 q20
  refine (toFactS_any _ ms _ (H2.out.on B_w11) (by unfold szF at *; omega) (by unfold szF at *; omega)).mono ?_
  rintro e w12 ⟨P7, d7, rfl, o7, hb7⟩
  have s_w12 := hb7.size
  have bx0_11 := bx0_10.below hb7 (by first | exact bx0_10.lt | omega)
  clear bx0_10
  have bx0_11_l := bx0_11.lt
  have w0_11 := w0_10.below hb7 (by omega)
  clear w0_10
  have x0_11 := x0_10.below hb7 (by omega)
  clear x0_10
  have bxx0_11 := bxx0_10.below hb7 (by first | exact bxx0_10.lt | omega)
  clear bxx0_10
  have bxx0_11_l := bxx0_11.lt
  have x1_11 := o6.below hb7 (by omega)
  clear o6
  have B_w12 := bthen B_w11 hb7
  have q21 : w12.cell? ⟨w.heap.size, 0, none⟩ = some (.slice A0 p.1.length c0) := bx0_11.cell 0
  have q22 : w12.cell? ⟨w.heap.size, 1, none⟩ = some (.slice A0b p.2.length c0b) := bx0_11.cell 1
  have q23 : w12.cell? ⟨w9.heap.size, 0, none⟩ = some (.slice P5 p.1.length d5) := bxx0_11.cell 0
  have q24 : w12.cell? ⟨w9.heap.size, 1, none⟩ = some (.slice P5b p.2.length d5b) := bxx0_11.cell 1
  go_wp2_with (fail)
  clear q21 q22 q23 q24
  refine (implLeastMore_any _ _ _ p ls ms _ (x0_11.rd.more (by omega)) (x1_11.rd.more (by omega)) (o7.rd.more (by omega)) (by omega) (by unfold szF at r1; omega) (by unfold szF at r1; omega) (by unfold szF at r2; omega) (by unfold szF at r2; omega) (HT.out.below B_w12)).mono ?_
  rw [← HR0.out]
  rintro e w13 ⟨Q8_0, f8_0, rfl, o8_0, hb8⟩
  have s_w13 := hb8.size
  have bx0_12 := bx0_11.below hb8 (by first | exact bx0_11.lt | omega)
  clear bx0_11
  have bx0_12_l := bx0_12.lt
  have w0_12 := w0_11.below hb8 (by omega)
  clear w0_11
  have x0_12 := x0_11.below hb8 (by omega)
  clear x0_11
  have bxx0_12 := bxx0_11.below hb8 (by first | exact bxx0_11.lt | omega)
  clear bxx0_11
  have bxx0_12_l := bxx0_12.lt
  have x1_12 := x1_11.below hb8 (by omega)
  clear x1_11
  have x2_12 := o7.below hb8 (by omega)
  clear o7
  have B_w13 := bthen B_w12 hb8
  have q25 : w13.cell? ⟨w.heap.size, 0, none⟩ = some (.slice A0 p.1.length c0) := bx0_12.cell 0
  have q26 : w13.cell? ⟨w.heap.size, 1, none⟩ = some (.slice A0b p.2.length c0b) := bx0_12.cell 1
  have q27 : w13.cell? ⟨w9.heap.size, 0, none⟩ = some (.slice P5 p.1.length d5) := bxx0_12.cell 0
  have q28 : w13.cell? ⟨w9.heap.size, 1, none⟩ = some (.slice P5b p.2.length d5b) := bxx0_12.cell 1
  go_wp2_with (fail)
  clear q25 q26 q27 q28
  refine (eqFactS_any _ _ R0 R0 _ (o8_0.rd.more (by omega)) (w0_12.rd.more (by omega)) (by have := HRs0.out; unfold szF at this; omega) (by have := HRs0.out; unfold szF at this; omega) (by have := HRs0.out; unfold szF at this; omega) (by have := HRs0.out; unfold szF at this; omega)).mono ?_
  rintro e w14 ⟨rfl, hb9⟩
  rw [show decide (R0 = R0) = true by simp]
  have s_w14 := hb9.size
  have bx0_13 := bx0_12.below hb9 (by first | exact bx0_12.lt | omega)
  clear bx0_12
  have bx0_13_l := bx0_13.lt
  have w0_13 := w0_12.below hb9 (by omega)
  clear w0_12
  have x0_13 := x0_12.below hb9 (by omega)
  clear x0_12
  have bxx0_13 := bxx0_12.below hb9 (by first | exact bxx0_12.lt | omega)
  clear bxx0_12
  have bxx0_13_l := bxx0_13.lt
  have x1_13 := x1_12.below hb9 (by omega)
  clear x1_12
  have x2_13 := x2_12.below hb9 (by omega)
  clear x2_12
  have g0_13 := o8_0.below hb9 (by omega)
  clear o8_0
  have B_w14 := bthen B_w13 hb9
  have q29 : w14.cell? ⟨w.heap.size, 0, none⟩ = some (.slice A0 p.1.length c0) := bx0_13.cell 0
  have q30 : w14.cell? ⟨w.heap.size, 1, none⟩ = some (.slice A0b p.2.length c0b) := bx0_13.cell 1
  have q31 : w14.cell? ⟨w9.heap.size, 0, none⟩ = some (.slice P5 p.1.length d5) := bxx0_13.cell 0
  have q32 : w14.cell? ⟨w9.heap.size, 1, none⟩ = some (.slice P5b p.2.length d5b) := bxx0_13.cell 1
  go_upto_region 18 with fail
  clear q29 q30 q31 q32
  have HS_w14 := Lib.hid (show ∀ W, Below w14.heap.size w14 W → (Below w14.heap.size w14 W ∧ W.cell? ⟨w.heap.size, 0, none⟩ = some (.slice A0 p.1.length c0) ∧ W.cell? ⟨w.heap.size, 1, none⟩ = some (.slice A0b p.2.length c0b) ∧ W.cell? ⟨w9.heap.size, 0, none⟩ = some (.slice P5 p.1.length d5) ∧ W.cell? ⟨w9.heap.size, 1, none⟩ = some (.slice P5b p.2.length d5b)) from fun W hW => ⟨hW, (bx0_13.below hW bx0_13_l).cell 0, (bx0_13.below hW bx0_13_l).cell 1, (bxx0_13.below hW bxx0_13_l).cell 0, (bxx0_13.below hW bxx0_13_l).cell 1⟩)
  have RX_w14 := Lib.hid (show RdProg w14 w14.heap.size (.agg #[.slice P5 p.1.length d5, .slice P5b p.2.length d5b]) p from x0_13.rd.more (by omega))
  go_cut [57] (fun s wx => s = .bool false ∧ Below w14.heap.size w14 wx)
  case first =>
    go_region_held3 (fun W => Below w14.heap.size w14 W ∧ W.cell? ⟨w.heap.size, 0, none⟩ = some (.slice A0 p.1.length c0) ∧ W.cell? ⟨w.heap.size, 1, none⟩ = some (.slice A0b p.2.length c0b) ∧ W.cell? ⟨w9.heap.size, 0, none⟩ = some (.slice P5 p.1.length d5) ∧ W.cell? ⟨w9.heap.size, 1, none⟩ = some (.slice P5b p.2.length d5b))
      (first | exact HS_w14.out _ (Below.refl _ _) | exact HS_w14.out _ (Below.refl _ _).drew | exact HS_w14.out _ (bthen (And.left (by assumption)) (by assumption)))
      (first
        | (go_at_call 16; refine (toProgram_own _ p _ ?_ (by omega)).mono ?_; exact H0.out.on (bthen B_w14 (And.left (by assumption))); rintro e wf ⟨Af, cf, Ag, cg, rfl, hof, hbf⟩)
        | (go_at_call 20; refine (eqProgram_any _ _ p p _ ?_ ?_ (by omega) (by omega)).mono ?_; exact (RX_w14.out.on (And.left (by assumption))); exact hof.rd; rw [show decide (p = p) = true by simp]; rintro e wg ⟨rfl, hbg⟩))
    all_goals (go_wp2_with fail; go_meet; exact ⟨rfl, And.left (by assumption)⟩)
  case rest =>
    obtain ⟨rfl, hb10⟩ := hcut
    clear HS_w14 RX_w14
    generalize wc = w15 at *
    have s_w15 := hb10.size
    have bx0_14 := bx0_13.below hb10 (by first | exact bx0_13.lt | omega)
    clear bx0_13
    have bx0_14_l := bx0_14.lt
    have w0_14 := w0_13.below hb10 (by omega)
    clear w0_13
    have x0_14 := x0_13.below hb10 (by omega)
    clear x0_13
    have bxx0_14 := bxx0_13.below hb10 (by first | exact bxx0_13.lt | omega)
    clear bxx0_13
    have bxx0_14_l := bxx0_14.lt
    have x1_14 := x1_13.below hb10 (by omega)
    clear x1_13
    have x2_14 := x2_13.below hb10 (by omega)
    clear x2_13
    have g0_14 := g0_13.below hb10 (by omega)
    clear g0_13
    have B_w15 := bthen B_w14 hb10
    have q33 : w15.cell? ⟨w.heap.size, 0, none⟩ = some (.slice A0 p.1.length c0) := bx0_14.cell 0
    have q34 : w15.cell? ⟨w.heap.size, 1, none⟩ = some (.slice A0b p.2.length c0b) := bx0_14.cell 1
    have q35 : w15.cell? ⟨w9.heap.size, 0, none⟩ = some (.slice P5 p.1.length d5) := bxx0_14.cell 0
    have q36 : w15.cell? ⟨w9.heap.size, 1, none⟩ = some (.slice P5b p.2.length d5b) := bxx0_14.cell 1
    go_wp2_with (fail)
    clear q33 q34 q35 q36
    refine (toFactS_any _ ls _ (H1.out.on B_w15) (by unfold szF at *; omega) (by unfold szF at *; omega)).mono ?_
    rintro e w16 ⟨P11, d11, rfl, o11, hb11⟩
    have s_w16 := hb11.size
    have bx0_15 := bx0_14.below hb11 (by first | exact bx0_14.lt | omega)
    clear bx0_14
    have bx0_15_l := bx0_15.lt
    have w0_15 := w0_14.below hb11 (by omega)
    clear w0_14
    have x0_15 := x0_14.below hb11 (by omega)
    clear x0_14
    have bxx0_15 := bxx0_14.below hb11 (by first | exact bxx0_14.lt | omega)
    clear bxx0_14
    have bxx0_15_l := bxx0_15.lt
    have x1_15 := x1_14.below hb11 (by omega)
    clear x1_14
    have x2_15 := x2_14.below hb11 (by omega)
    clear x2_14
    have g0_15 := g0_14.below hb11 (by omega)
    clear g0_14
    have B_w16 := bthen B_w15 hb11
    have q37 : w16.cell? ⟨w.heap.size, 0, none⟩ = some (.slice A0 p.1.length c0) := bx0_15.cell 0
    have q38 : w16.cell? ⟨w.heap.size, 1, none⟩ = some (.slice A0b p.2.length c0b) := bx0_15.cell 1
    have q39 : w16.cell? ⟨w9.heap.size, 0, none⟩ = some (.slice P5 p.1.length d5) := bxx0_15.cell 0
    have q40 : w16.cell? ⟨w9.heap.size, 1, none⟩ = some (.slice P5b p.2.length d5b) := bxx0_15.cell 1
    go_wp2_with (fail)
    clear q37 q38 q39 q40
    refine (eqFactS_any _ _ ls ls _ (x1_15.rd.more (by omega)) (o11.rd.more (by omega)) (by unfold szF at *; omega) (by unfold szF at *; omega) (by unfold szF at *; omega) (by unfold szF at *; omega)).mono ?_
    rintro e w17 ⟨rfl, hb12⟩
    rw [show decide (ls = ls) = true by simp]
    have s_w17 := hb12.size
    have bx0_16 := bx0_15.below hb12 (by first | exact bx0_15.lt | omega)
    clear bx0_15
    have bx0_16_l := bx0_16.lt
    have w0_16 := w0_15.below hb12 (by omega)
    clear w0_15
    have x0_16 := x0_15.below hb12 (by omega)
    clear x0_15
    have bxx0_16 := bxx0_15.below hb12 (by first | exact bxx0_15.lt | omega)
    clear bxx0_15
    have bxx0_16_l := bxx0_16.lt
    have x1_16 := x1_15.below hb12 (by omega)
    clear x1_15
    have x2_16 := x2_15.below hb12 (by omega)
    clear x2_15
    have g0_16 := g0_15.below hb12 (by omega)
    clear g0_15
    have B_w17 := bthen B_w16 hb12
    have q41 : w17.cell? ⟨w.heap.size, 0, none⟩ = some (.slice A0 p.1.length c0) := bx0_16.cell 0
    have q42 : w17.cell? ⟨w.heap.size, 1, none⟩ = some (.slice A0b p.2.length c0b) := bx0_16.cell 1
    have q43 : w17.cell? ⟨w9.heap.size, 0, none⟩ = some (.slice P5 p.1.length d5) := bxx0_16.cell 0
    have q44 : w17.cell? ⟨w9.heap.size, 1, none⟩ = some (.slice P5b p.2.length d5b) := bxx0_16.cell 1
    go_wp2_with (fail)
    clear q41 q42 q43 q44
    refine (toFactS_any _ ms _ (H2.out.on B_w17) (by unfold szF at *; omega) (by unfold szF at *; omega)).mono ?_
    rintro e w18 ⟨P13, d13, rfl, o13, hb13⟩
    have s_w18 := hb13.size
    have bx0_17 := bx0_16.below hb13 (by first | exact bx0_16.lt | omega)
    clear bx0_16
    have bx0_17_l := bx0_17.lt
    have w0_17 := w0_16.below hb13 (by omega)
    clear w0_16
    have x0_17 := x0_16.below hb13 (by omega)
    clear x0_16
    have bxx0_17 := bxx0_16.below hb13 (by first | exact bxx0_16.lt | omega)
    clear bxx0_16
    have bxx0_17_l := bxx0_17.lt
    have x1_17 := x1_16.below hb13 (by omega)
    clear x1_16
    have x2_17 := x2_16.below hb13 (by omega)
    clear x2_16
    have g0_17 := g0_16.below hb13 (by omega)
    clear g0_16
    have B_w18 := bthen B_w17 hb13
    have q45 : w18.cell? ⟨w.heap.size, 0, none⟩ = some (.slice A0 p.1.length c0) := bx0_17.cell 0
    have q46 : w18.cell? ⟨w.heap.size, 1, none⟩ = some (.slice A0b p.2.length c0b) := bx0_17.cell 1
    have q47 : w18.cell? ⟨w9.heap.size, 0, none⟩ = some (.slice P5 p.1.length d5) := bxx0_17.cell 0
    have q48 : w18.cell? ⟨w9.heap.size, 1, none⟩ = some (.slice P5b p.2.length d5b) := bxx0_17.cell 1
    go_wp2_with (fail)
    clear q45 q46 q47 q48
    refine (eqFactS_any _ _ ms ms _ (x2_17.rd.more (by omega)) (o13.rd.more (by omega)) (by unfold szF at *; omega) (by unfold szF at *; omega) (by unfold szF at *; omega) (by unfold szF at *; omega)).mono ?_
    rintro e w19 ⟨rfl, hb14⟩
    rw [show decide (ms = ms) = true by simp]
    have s_w19 := hb14.size
    have bx0_18 := bx0_17.below hb14 (by first | exact bx0_17.lt | omega)
    clear bx0_17
    have bx0_18_l := bx0_18.lt
    have w0_18 := w0_17.below hb14 (by omega)
    clear w0_17
    have x0_18 := x0_17.below hb14 (by omega)
    clear x0_17
    have bxx0_18 := bxx0_17.below hb14 (by first | exact bxx0_17.lt | omega)
    clear bxx0_17
    have bxx0_18_l := bxx0_18.lt
    have x1_18 := x1_17.below hb14 (by omega)
    clear x1_17
    have x2_18 := x2_17.below hb14 (by omega)
    clear x2_17
    have g0_18 := g0_17.below hb14 (by omega)
    clear g0_17
    have B_w19 := bthen B_w18 hb14
    have q49 : w19.cell? ⟨w.heap.size, 0, none⟩ = some (.slice A0 p.1.length c0) := bx0_18.cell 0
    have q50 : w19.cell? ⟨w.heap.size, 1, none⟩ = some (.slice A0b p.2.length c0b) := bx0_18.cell 1
    have q51 : w19.cell? ⟨w9.heap.size, 0, none⟩ = some (.slice P5 p.1.length d5) := bxx0_18.cell 0
    have q52 : w19.cell? ⟨w9.heap.size, 1, none⟩ = some (.slice P5b p.2.length d5b) := bxx0_18.cell 1
    go_wp2_with (fail)
    clear q49 q50 q51 q52
    refine (um_prog 1 x0_18 (by omega) (by omega) (by omega)).mono ?_
    rintro e w20 ⟨k15, rfl, ka15, kb15, _, on15⟩
    have s_w20 := on15.size
    have bx0_19 := bx0_18.only on15 (by first | exact .inl (by omega) | exact .inr (by omega))
    clear bx0_18
    have bx0_19_l := bx0_19.lt
    have w0_19 := w0_18.only on15 (by first | exact .inl (by omega) | exact .inr (by omega))
    clear w0_18
    have bxx0_19 := bxx0_18.only on15 (by first | exact .inl (by omega) | exact .inr (by omega))
    clear bxx0_18
    have bxx0_19_l := bxx0_19.lt
    have x1_19 := x1_18.only on15 (by first | exact .inl (by omega) | exact .inr (by omega))
    clear x1_18
    have x2_19 := x2_18.only on15 (by first | exact .inl (by omega) | exact .inr (by omega))
    clear x2_18
    have g0_19 := g0_18.only on15 (by first | exact .inl (by omega) | exact .inr (by omega))
    clear g0_18
    have B_w20 := Only.then_ B_w19 on15 (by omega)
    have q53 : w20.cell? ⟨w.heap.size, 0, none⟩ = some (.slice A0 p.1.length c0) := bx0_19.cell 0
    have q54 : w20.cell? ⟨w.heap.size, 1, none⟩ = some (.slice A0b p.2.length c0b) := bx0_19.cell 1
    have q55 : w20.cell? ⟨w9.heap.size, 0, none⟩ = some (.slice P5 p.1.length d5) := bxx0_19.cell 0
    have q56 : w20.cell? ⟨w9.heap.size, 1, none⟩ = some (.slice P5b p.2.length d5b) := bxx0_19.cell 1
    go_wp2_with (fail)
    clear q53 q54 q55 q56
    refine (um_facts k15 x1_19 (by omega) (by omega) (by omega)).mono ?_
    rintro e w21 ⟨k16, rfl, ka16, kb16, _, on16⟩
    have s_w21 := on16.size
    have bx0_20 := bx0_19.only on16 (by first | exact .inl (by omega) | exact .inr (by omega))
    clear bx0_19
    have bx0_20_l := bx0_20.lt
    have w0_20 := w0_19.only on16 (by first | exact .inl (by omega) | exact .inr (by omega))
    clear w0_19
    have bxx0_20 := bxx0_19.only on16 (by first | exact .inl (by omega) | exact .inr (by omega))
    clear bxx0_19
    have bxx0_20_l := bxx0_20.lt
    have x2_20 := x2_19.only on16 (by first | exact .inl (by omega) | exact .inr (by omega))
    clear x2_19
    have g0_20 := g0_19.only on16 (by first | exact .inl (by omega) | exact .inr (by omega))
    clear g0_19
    have B_w21 := Only.then_ B_w20 on16 (by omega)
    have q57 : w21.cell? ⟨w.heap.size, 0, none⟩ = some (.slice A0 p.1.length c0) := bx0_20.cell 0
    have q58 : w21.cell? ⟨w.heap.size, 1, none⟩ = some (.slice A0b p.2.length c0b) := bx0_20.cell 1
    have q59 : w21.cell? ⟨w9.heap.size, 0, none⟩ = some (.slice P5 p.1.length d5) := bxx0_20.cell 0
    have q60 : w21.cell? ⟨w9.heap.size, 1, none⟩ = some (.slice P5b p.2.length d5b) := bxx0_20.cell 1
    go_wp2_with (fail)
    clear q57 q58 q59 q60
    refine (um_facts k16 x2_20 (by omega) (by omega) (by omega)).mono ?_
    rintro e w22 ⟨k17, rfl, ka17, kb17, _, on17⟩
    have s_w22 := on17.size
    have bx0_21 := bx0_20.only on17 (by first | exact .inl (by omega) | exact .inr (by omega))
    clear bx0_20
    have bx0_21_l := bx0_21.lt
    have w0_21 := w0_20.only on17 (by first | exact .inl (by omega) | exact .inr (by omega))
    clear w0_20
    have bxx0_21 := bxx0_20.only on17 (by first | exact .inl (by omega) | exact .inr (by omega))
    clear bxx0_20
    have bxx0_21_l := bxx0_21.lt
    have g0_21 := g0_20.only on17 (by first | exact .inl (by omega) | exact .inr (by omega))
    clear g0_20
    have B_w22 := Only.then_ B_w21 on17 (by omega)
    have kn : ¬ k17 < 0 := by omega
    have kd : decide (k17 < 0) = false := by simp; omega
    have q61 : w22.cell? ⟨w.heap.size, 0, none⟩ = some (.slice A0 p.1.length c0) := bx0_21.cell 0
    have q62 : w22.cell? ⟨w.heap.size, 1, none⟩ = some (.slice A0b p.2.length c0b) := bx0_21.cell 1
    have q63 : w22.cell? ⟨w9.heap.size, 0, none⟩ = some (.slice P5 p.1.length d5) := bxx0_21.cell 0
    have q64 : w22.cell? ⟨w9.heap.size, 1, none⟩ = some (.slice P5b p.2.length d5b) := bxx0_21.cell 1
    go_wp2_with (fail)
    clear q61 q62 q63 q64
    refine (eqFactS_any _ _ R0 R0 _ (g0_21.rd.more (by omega)) (w0_21.rd.more (by omega)) (by have := HRs0.out; unfold szF at this; omega) (by have := HRs0.out; unfold szF at this; omega) (by have := HRs0.out; unfold szF at this; omega) (by have := HRs0.out; unfold szF at this; omega)).mono ?_
    rintro e w23 ⟨rfl, hb18⟩
    rw [show decide (R0 = R0) = true by simp]
    have s_w23 := hb18.size
    have bx0_22 := bx0_21.below hb18 (by first | exact bx0_21.lt | omega)
    clear bx0_21
    have bx0_22_l := bx0_22.lt
    have w0_22 := w0_21.below hb18 (by omega)
    clear w0_21
    have bxx0_22 := bxx0_21.below hb18 (by first | exact bxx0_21.lt | omega)
    clear bxx0_21
    have bxx0_22_l := bxx0_22.lt
    have g0_22 := g0_21.below hb18 (by omega)
    clear g0_21
    have B_w23 := bthen B_w22 hb18
    have q65 : w23.cell? ⟨w.heap.size, 0, none⟩ = some (.slice A0 p.1.length c0) := bx0_22.cell 0
    have q66 : w23.cell? ⟨w.heap.size, 1, none⟩ = some (.slice A0b p.2.length c0b) := bx0_22.cell 1
    have q67 : w23.cell? ⟨w9.heap.size, 0, none⟩ = some (.slice P5 p.1.length d5) := bxx0_22.cell 0
    have q68 : w23.cell? ⟨w9.heap.size, 1, none⟩ = some (.slice P5b p.2.length d5b) := bxx0_22.cell 1
    go_wp2_with (fail)
    clear q65 q66 q67 q68
    refine (um_facts 1 g0_22 (by omega) (by omega) (by have := HRs0.out; omega)).mono ?_
    rintro e w24 ⟨m19, rfl, ma19, mb19, hd19, on19⟩
    have mb19' := HRs0.out
    have s_w24 := on19.size
    have bx0_23 := bx0_22.only on19 (by first | exact .inl (by omega) | exact .inr (by omega))
    clear bx0_22
    have bx0_23_l := bx0_23.lt
    have w0_23 := w0_22.only on19 (by first | exact .inl (by omega) | exact .inr (by omega))
    clear w0_22
    have bxx0_23 := bxx0_22.only on19 (by first | exact .inl (by omega) | exact .inr (by omega))
    clear bxx0_22
    have bxx0_23_l := bxx0_23.lt
    have B_w24 := Only.then_ B_w23 on19 (by omega)
    have mn : ¬ m19 < 0 := by omega
    have me : (m19 != m19) = false := by simp
    have q69 : w24.cell? ⟨w.heap.size, 0, none⟩ = some (.slice A0 p.1.length c0) := bx0_23.cell 0
    have q70 : w24.cell? ⟨w.heap.size, 1, none⟩ = some (.slice A0b p.2.length c0b) := bx0_23.cell 1
    have q71 : w24.cell? ⟨w9.heap.size, 0, none⟩ = some (.slice P5 p.1.length d5) := bxx0_23.cell 0
    have q72 : w24.cell? ⟨w9.heap.size, 1, none⟩ = some (.slice P5b p.2.length d5b) := bxx0_23.cell 1
    go_wp2_with (fail)
    clear q69 q70 q71 q72
    refine (uh_facts hd19 (by omega)).mono ?_
    rintro e w25 ⟨rfl, hb20⟩
    have s_w25 := hb20.size
    have bx0_24 := bx0_23.below hb20 (by first | exact bx0_23.lt | omega)
    clear bx0_23
    have bx0_24_l := bx0_24.lt
    have w0_24 := w0_23.below hb20 (by omega)
    clear w0_23
    have bxx0_24 := bxx0_23.below hb20 (by first | exact bxx0_23.lt | omega)
    clear bxx0_23
    have bxx0_24_l := bxx0_24.lt
    have d0_24 := hd19.below hb20 (by omega)
    clear hd19
    have B_w25 := bthen B_w24 hb20
    have q73 : w25.cell? ⟨w.heap.size, 0, none⟩ = some (.slice A0 p.1.length c0) := bx0_24.cell 0
    have q74 : w25.cell? ⟨w.heap.size, 1, none⟩ = some (.slice A0b p.2.length c0b) := bx0_24.cell 1
    have q75 : w25.cell? ⟨w9.heap.size, 0, none⟩ = some (.slice P5 p.1.length d5) := bxx0_24.cell 0
    have q76 : w25.cell? ⟨w9.heap.size, 1, none⟩ = some (.slice P5b p.2.length d5b) := bxx0_24.cell 1
    go_wp2_with (fail)
    clear q73 q74 q75 q76
    refine (toProgram_own _ p _ (H0.out.on B_w25) (by omega)).mono ?_
    rintro e w26 ⟨P21, d21, P21b, d21b, rfl, o21, hb21⟩
    have s_w26 := hb21.size
    have bx0_25 := bx0_24.below hb21 (by first | exact bx0_24.lt | omega)
    clear bx0_24
    have bx0_25_l := bx0_25.lt
    have w0_25 := w0_24.below hb21 (by omega)
    clear w0_24
    have bxx0_25 := bxx0_24.below hb21 (by first | exact bxx0_24.lt | omega)
    clear bxx0_24
    have bxx0_25_l := bxx0_25.lt
    have d0_25 := d0_24.below hb21 (by omega)
    clear d0_24
    have B_w26 := bthen B_w25 hb21
    have q77 : w26.cell? ⟨w.heap.size, 0, none⟩ = some (.slice A0 p.1.length c0) := bx0_25.cell 0
    have q78 : w26.cell? ⟨w.heap.size, 1, none⟩ = some (.slice A0b p.2.length c0b) := bx0_25.cell 1
    have q79 : w26.cell? ⟨w9.heap.size, 0, none⟩ = some (.slice P5 p.1.length d5) := bxx0_25.cell 0
    have q80 : w26.cell? ⟨w9.heap.size, 1, none⟩ = some (.slice P5b p.2.length d5b) := bxx0_25.cell 1
    go_wp2_with (fail)
    clear q77 q78 q79 q80
    refine (toFactS_any _ ls _ (H1.out.on B_w26) (by unfold szF at *; omega) (by unfold szF at *; omega)).mono ?_
    rintro e w27 ⟨P22, d22, rfl, o22, hb22⟩
    have s_w27 := hb22.size
    have bx0_26 := bx0_25.below hb22 (by first | exact bx0_25.lt | omega)
    clear bx0_25
    have bx0_26_l := bx0_26.lt
    have w0_26 := w0_25.below hb22 (by omega)
    clear w0_25
    have bxx0_26 := bxx0_25.below hb22 (by first | exact bxx0_25.lt | omega)
    clear bxx0_25
    have bxx0_26_l := bxx0_26.lt
    have d0_26 := d0_25.below hb22 (by omega)
    clear d0_25
    have th0_26 := o21.below hb22 (by omega)
    clear o21
    have B_w27 := bthen B_w26 hb22
    have q81 : w27.cell? ⟨w.heap.size, 0, none⟩ = some (.slice A0 p.1.length c0) := bx0_26.cell 0
    have q82 : w27.cell? ⟨w.heap.size, 1, none⟩ = some (.slice A0b p.2.length c0b) := bx0_26.cell 1
    have q83 : w27.cell? ⟨w9.heap.size, 0, none⟩ = some (.slice P5 p.1.length d5) := bxx0_26.cell 0
    have q84 : w27.cell? ⟨w9.heap.size, 1, none⟩ = some (.slice P5b p.2.length d5b) := bxx0_26.cell 1
    go_wp2_with (fail)
    clear q81 q82 q83 q84
    refine (toFactS_any _ ms _ (H2.out.on B_w27) (by unfold szF at *; omega) (by unfold szF at *; omega)).mono ?_
    rintro e w28 ⟨P23, d23, rfl, o23, hb23⟩
    have s_w28 := hb23.size
    have bx0_27 := bx0_26.below hb23 (by first | exact bx0_26.lt | omega)
    clear bx0_26
    have bx0_27_l := bx0_27.lt
    have w0_27 := w0_26.below hb23 (by omega)
    clear w0_26
    have bxx0_27 := bxx0_26.below hb23 (by first | exact bxx0_26.lt | omega)
    clear bxx0_26
    have bxx0_27_l := bxx0_27.lt
    have d0_27 := d0_26.below hb23 (by omega)
    clear d0_26
    have th0_27 := th0_26.below hb23 (by omega)
    clear th0_26
    have th1_27 := o22.below hb23 (by omega)
    clear o22
    have B_w28 := bthen B_w27 hb23
    have q85 : w28.cell? ⟨w.heap.size, 0, none⟩ = some (.slice A0 p.1.length c0) := bx0_27.cell 0
    have q86 : w28.cell? ⟨w.heap.size, 1, none⟩ = some (.slice A0b p.2.length c0b) := bx0_27.cell 1
    have q87 : w28.cell? ⟨w9.heap.size, 0, none⟩ = some (.slice P5 p.1.length d5) := bxx0_27.cell 0
    have q88 : w28.cell? ⟨w9.heap.size, 1, none⟩ = some (.slice P5b p.2.length d5b) := bxx0_27.cell 1
    go_wp2_with (fail)
    clear q85 q86 q87 q88
    refine (implLeastMore_any _ _ _ p ls ms _ (th0_27.rd.more (by omega)) (th1_27.rd.more (by omega)) (o23.rd.more (by omega)) (by omega) (by unfold szF at r1; omega) (by unfold szF at r1; omega) (by unfold szF at r2; omega) (by unfold szF at r2; omega) (HT.out.below B_w28)).mono ?_
    rw [← HR0.out]
    rintro e w29 ⟨Q24_0, f24_0, rfl, o24_0, hb24⟩
    have s_w29 := hb24.size
    have bx0_28 := bx0_27.below hb24 (by first | exact bx0_27.lt | omega)
    clear bx0_27
    have bx0_28_l := bx0_28.lt
    have w0_28 := w0_27.below hb24 (by omega)
    clear w0_27
    have bxx0_28 := bxx0_27.below hb24 (by first | exact bxx0_27.lt | omega)
    clear bxx0_27
    have bxx0_28_l := bxx0_28.lt
    have d0_28 := d0_27.below hb24 (by omega)
    clear d0_27
    have th0_28 := th0_27.below hb24 (by omega)
    clear th0_27
    have th1_28 := th1_27.below hb24 (by omega)
    clear th1_27
    have th2_28 := o23.below hb24 (by omega)
    clear o23
    have B_w29 := bthen B_w28 hb24
    have q89 : w29.cell? ⟨w.heap.size, 0, none⟩ = some (.slice A0 p.1.length c0) := bx0_28.cell 0
    have q90 : w29.cell? ⟨w.heap.size, 1, none⟩ = some (.slice A0b p.2.length c0b) := bx0_28.cell 1
    have q91 : w29.cell? ⟨w9.heap.size, 0, none⟩ = some (.slice P5 p.1.length d5) := bxx0_28.cell 0
    have q92 : w29.cell? ⟨w9.heap.size, 1, none⟩ = some (.slice P5b p.2.length d5b) := bxx0_28.cell 1
    go_wp2_with (fail)
    clear q89 q90 q91 q92
    refine (eqFactS_any _ _ R0 R0 _ (o24_0.rd.more (by omega)) (w0_28.rd.more (by omega)) (by have := HRs0.out; unfold szF at this; omega) (by have := HRs0.out; unfold szF at this; omega) (by have := HRs0.out; unfold szF at this; omega) (by have := HRs0.out; unfold szF at this; omega)).mono ?_
    rintro e w30 ⟨rfl, hb25⟩
    rw [show decide (R0 = R0) = true by simp]
    have s_w30 := hb25.size
    have bx0_29 := bx0_28.below hb25 (by first | exact bx0_28.lt | omega)
    clear bx0_28
    have bx0_29_l := bx0_29.lt
    have w0_29 := w0_28.below hb25 (by omega)
    clear w0_28
    have bxx0_29 := bxx0_28.below hb25 (by first | exact bxx0_28.lt | omega)
    clear bxx0_28
    have bxx0_29_l := bxx0_29.lt
    have d0_29 := d0_28.below hb25 (by omega)
    clear d0_28
    have h0_29 := o24_0.below hb25 (by omega)
    clear o24_0
    have B_w30 := bthen B_w29 hb25
    have q93 : w30.cell? ⟨w.heap.size, 0, none⟩ = some (.slice A0 p.1.length c0) := bx0_29.cell 0
    have q94 : w30.cell? ⟨w.heap.size, 1, none⟩ = some (.slice A0b p.2.length c0b) := bx0_29.cell 1
    have q95 : w30.cell? ⟨w9.heap.size, 0, none⟩ = some (.slice P5 p.1.length d5) := bxx0_29.cell 0
    have q96 : w30.cell? ⟨w9.heap.size, 1, none⟩ = some (.slice P5b p.2.length d5b) := bxx0_29.cell 1
    go_wp2_with (fail)
    clear q93 q94 q95 q96
    refine (uh_facts d0_29 (by omega)).mono ?_
    rintro e w31 ⟨rfl, hb26⟩
    have s_w31 := hb26.size
    have bx0_30 := bx0_29.below hb26 (by first | exact bx0_29.lt | omega)
    clear bx0_29
    have bx0_30_l := bx0_30.lt
    have w0_30 := w0_29.below hb26 (by omega)
    clear w0_29
    have bxx0_30 := bxx0_29.below hb26 (by first | exact bxx0_29.lt | omega)
    clear bxx0_29
    have bxx0_30_l := bxx0_30.lt
    have d0_30 := d0_29.below hb26 (by omega)
    clear d0_29
    have h0_30 := h0_29.below hb26 (by omega)
    clear h0_29
    have B_w31 := bthen B_w30 hb26
    have q97 : w31.cell? ⟨w.heap.size, 0, none⟩ = some (.slice A0 p.1.length c0) := bx0_30.cell 0
    have q98 : w31.cell? ⟨w.heap.size, 1, none⟩ = some (.slice A0b p.2.length c0b) := bx0_30.cell 1
    have q99 : w31.cell? ⟨w9.heap.size, 0, none⟩ = some (.slice P5 p.1.length d5) := bxx0_30.cell 0
    have q100 : w31.cell? ⟨w9.heap.size, 1, none⟩ = some (.slice P5b p.2.length d5b) := bxx0_30.cell 1
    go_wp2_with (fail)
    clear q97 q98 q99 q100
    go_ret
    exact ⟨rfl, B_w31⟩

theorem lawLeastMore_in (v0 : Value) (v1 : Value) (v2 : Value) (p : LProg) (ls : List LFact) (ms : List LFact) (w : World) (h0 : InProg w v0 p) (h1 : InFacts w v1 ls) (h2 : InFacts w v2 ms) (hT : Tab w) : Calls Tryz.prog 12 #[v0, v1, v2] w fun e w' => e = .returned (.bool true) ∧ Below w.heap.size w w' :=
  lawLeastMore_any v0 v1 v2 p ls ms w h0.1 h1.1 h2.1 (progLens_in h0.2) h1.2.1 h1.2.2 h2.2.1 h2.2.2 hT

end Go.Proofs.YtigkgheddngkeaaGreatDoor
/-
  The law FnExactLeastMore: for every input the call returns true, and each argument reads behind it as it read before. Conditions: none but the row's own.
-/
namespace Go.Proofs.YtigkgheddngkeaaGreatDoor
open Go.ChangeShapes Go.WideShapes Go.ChangeAt Go.RowKit

set_option maxRecDepth 100000 in
theorem fnExactLeastMore_lifted (os : Os) (started : os.Started) (H : Type) (enc : TypeId × Value → H) :
    ReturnsInHanded {} Tryz.checked os 12 .any (fun w args => (Rows.fnExactLeastMoreSpec.pre enc Tryz.prog Tryz.f12 [] false w args ∧ laidMetH Tryz.prog laidTabs1 w) ∧ sizedMet enc Tryz.prog Tryz.f12 (OpenSpec.ofChange Rows.fnExactLeastMoreSpec) false w args) (Rows.fnExactLeastMoreSpec.post enc Tryz.prog Tryz.f12 false true false false) := by
  refine returnsInHanded_of_change_and (C := Tryz.checked) (X := fun w _ => laidMetH Tryz.prog laidTabs1 w) (fun _ _ _ hh h => h.of_heap hh) Tryz.own started (by kernel_rfl) Tryz.func12
    (ChangeSpec.witness_shaped (enc := enc) (C := Tryz.checked) (os := os) (X := fun w _ => laidMetH Tryz.prog laidTabs1 w) false (World.laidAll Tryz.prog os laidTabs1) #[.agg #[.slice none 0 0, .slice none 0 0], .slice none 0 0, .slice none 0 0] 8 (World.laidAll_os _ _ _)
      (World.shaped_of_ZipB (by kernel_rfl) (by kernel_rfl)) (by kernel_rfl) (by kernel_rfl) (by kernel_rfl)
      (by rw [MakeChecks.laidMetH_plain _ _ _ (by kernel_rfl)]; exact laidMet_laidAll _ (by kernel_rfl) (by kernel_rfl))) ?_
  intro W base args ds gs before hval0 hW _ _ hL _
  have hval : ∀ (j : Nat) t v, Tryz.f12.params[j]? = some t → args[j]? = some v → Value.okWide Tryz.prog W .any base t v := hval0
  have hW' := hW
  obtain ⟨p, q, hA0, hV, rfl, hfz, hnd⟩ := hW
  have hA : DataW.TrodAll enc Tryz.prog W 0 (fun _ => true) true Tryz.f12.params.toList args.toList ds p := hA0
  rw [Tryz.params12] at hA hval
  obtain ⟨v0, vs0, d0, ds0, p0, q0, hargs, rfl, rfl, h0, r0⟩ := trodAll_cons hA
  obtain ⟨v1, vs1, d1, ds1, p1, q1, rfl, rfl, rfl, h1, r1⟩ := trodAll_cons r0
  obtain ⟨v2, vs2, d2, ds2, p2, q2, rfl, rfl, rfl, h2, r2⟩ := trodAll_cons r1
  obtain ⟨rfl, rfl, rfl⟩ := trodAll_nil r2
  obtain rfl : args = #[v0, v1, v2] := by cases args; simp_all
  obtain ⟨rfl, rfl⟩ := trodVars_none hV
  have lt0 : ∀ x ∈ p0, x.block < W.heap.size := by obtain ⟨m, hm⟩ := h0; exact DataW.trod_lt m _ _ _ hm
  obtain ⟨x0, w0⟩ := open_inProg (hval 0 25 v0 rfl rfl) h0
  have lt1 : ∀ x ∈ p1, x.block < W.heap.size := by obtain ⟨m, hm⟩ := h1; exact DataW.trod_lt m _ _ _ hm
  obtain ⟨x1, w1⟩ := open_inFacts (hval 1 26 v1 rfl rfl) h1
  have lt2 : ∀ x ∈ p2, x.block < W.heap.size := by obtain ⟨m, hm⟩ := h2; exact DataW.trod_lt m _ _ _ hm
  obtain ⟨x2, w2⟩ := open_inFacts (hval 2 26 v2 rfl rfl) h2
  clear hA0 hval0
  refine (lawLeastMore_in v0 v1 v2 x0 x1 x2 W w0 w1 w2 (tab_of_laid1 hL)).mono fun e W' ⟨he, bel⟩ => ?_
  subst he
  exact ⟨_, rfl, _, _, _, [], _, [], hW', trodAll_mk1 (shut_bool Tryz.underlying4 _), (trodAll_cons_mk (Below.trod Tryz.laidOut (by kernel_rfl) (of_decide_eq_true (by kernel_rfl)) h0 bel lt0) (trodAll_cons_mk (Below.trod Tryz.laidOut (by kernel_rfl) (of_decide_eq_true (by kernel_rfl)) h1 bel lt1) (trodAll_cons_mk (Below.trod Tryz.laidOut (by kernel_rfl) (of_decide_eq_true (by kernel_rfl)) h2 bel lt2) trodAll_mk0))), rfl, bel.frame _, fun h => by cases h⟩

end Go.Proofs.YtigkgheddngkeaaGreatDoor
/-
  The law FnExactLeastMore: for every input the call returns true, and each argument reads behind it as it read before. Conditions: none but the row's own.
-/
namespace Go.Proofs.YtigkgheddngkeaaGreatDoor
open Go.ChangeShapes Go.WideShapes Go.ChangeAt Go.RowKit

theorem fnExactLeastMore_holds : Rows.FnExactLeastMoreSaid :=
  OpenClaim.holds_of_wide 12 Tryz.f12 rfl rfl rfl rfl rfl rfl rfl ⟨rfl, rfl, rfl, rfl, rfl⟩ rfl rfl rfl rfl rfl (by kernel_rfl) Tryz.func12 fnExactLeastMore_joined
    (of_decide_eq_true (by kernel_rfl)) (by unfold Func.isWrapper; rw [if_neg (of_decide_eq_false (by kernel_rfl))]; exact ⟨rfl, rfl⟩)
    (fun os started H enc _ => fnExactLeastMore_lifted os started H enc)

end Go.Proofs.YtigkgheddngkeaaGreatDoor
namespace Go.Proofs.YtigkgheddngkeaaGreatDoor
open Go.ChangeShapes Go.WideShapes Go.ChangeAt Go.RowKit

theorem fnExactLeastMoreCard_holds : Rows.FnExactLeastMoreCardSaid :=
  Claim7.holds_tied_plain_at .later [] [.data] true (true, "26d588f6e5e7a8d4dd45fe0a2b21d48168ac96876178b7f3b2e10b1419b1564b") false fnExactLeastMore_holds (fun _ h => by cases h) (by kernel_rfl) (fun _ h => by cases h) fnExactLeastMore_row_tie rfl ⟨rfl, rfl⟩ jf_main rfl
    (fun f fn hf hfn => by
      obtain rfl : f = 12 := Option.some.inj ((show Tryz.prog.funcNamed "loop.example/wholerules/laws.FnExactLeastMore" = some 12 by kernel_rfl).symm.trans hf) |>.symm
      obtain rfl : fn = Tryz.f12 := (Option.some.inj (Tryz.func12.symm.trans hfn)).symm
      exact ⟨jf_looks, fun j t ht => by
        rw [Tryz.params12] at ht
        have hm : t ∈ [25, 26, 26] := by simpa using Array.mem_of_getElem? ht
        have hall : ([25, 26, 26].all fun u => !Tryz.prog.wantsStandIn u) = true := by kernel_rfl
        exact (show Tryz.prog.wantsStandIn t = false by simpa using List.all_eq_true.1 hall t hm)⟩)
    fnExactLeastMore_goes

end Go.Proofs.YtigkgheddngkeaaGreatDoor
