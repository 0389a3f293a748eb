/-
  factSet: cloned, sorted, compacted: the facts laid one after another. The program's FactsEither.
-/
import Derived.Test.YtehjhdihaloalaaCompactF
import Derived.Test.YtehjhdihaloalaaCopies
import Derived.Test.YtehjhdihaloalaaSpecEither
import Derived.Shelf.SlSortCmp.NoneTotal
namespace Go.Proofs.Ytehjhdihaloalaa
open Go.RowKit Go.Sort

theorem compactNil_any (w : World) :
    Calls Try.prog 99 #[.slice none 0 0, .func (.func 100) #[] #[]] w fun e w' => e = .returned (.slice none 0 0) ∧ w = w' := by
  go_enter Try.func99, Try.ntmps99
  go_wp2_with (fail)
  go_ret
  exact ⟨rfl, rfl⟩

theorem len_tot {fs : List LFact} {n : Nat} (h : tot fs ≤ n) : ∀ k (hk : k < fs.length), fs[k].2.length ≤ n := fun k hk => Nat.le_trans (len_le_tot fs k hk) h

set_option maxHeartbeats 1000000 in
set_option maxRecDepth 100000 in
theorem factSet_any (v : Value) (fs : List LFact) (w : World) (h : RdFacts w w.heap.size v fs) (hn : fs.length ≤ 2097152) (ht : tot fs ≤ 1048576) :
    Calls Try.prog 70 #[v] w fun e w' => ∃ A' c', e = .returned (.slice A' (setOf fs).length c') ∧ RdFacts w' w'.heap.size (.slice A' (setOf fs).length c') (setOf fs) ∧ Below w.heap.size w w' := by
  obtain ⟨A, c, av, rfl, ha, hc⟩ := h.heads
  have HA := Lib.hid (And.intro ha hc)
  clear h ha hc
  go_enter Try.func70, Try.ntmps70
  go_wp2_with (fail)
  refine (clone_av A c fs av w HA.out.1 HA.out.2 (by omega)).mono ?_
  rintro e w1 ⟨A1, c1, rfl, hrow, hb1⟩
  rcases hrow.row.2 with ⟨e1, h0⟩ | ⟨g, cap, cur, e1, hbg, hgg, r1, r2, r3, r4⟩
  · injection e1 with e1 _ e3
    subst e1
    subst e3
    have hfs : fs = [] := List.eq_nil_of_length_eq_zero h0
    subst hfs
    have HS := Lib.hid (show setOf [] = [] from rfl)
    have hs := AnyF.slices_SortFunc_none Try.sortFact none 0 (.func (.func 67) #[] #[]) w1
    clear hrow h0
    go_wp2_with (fail)
    refine Calls.mono hs ?_
    rintro e w2 ⟨rfl, rfl⟩
    go_wp2_with (fail)
    refine (compactNil_any _).mono ?_
    rintro e w2 ⟨rfl, rfl⟩
    go_wp2_with (fail)
    go_ret
    rw [HS.out]
    exact ⟨none, 0, rfl, ⟨none, 0, rfl, by simp, fun h => absurd h (by simp)⟩, hb1⟩
  · injection e1 with e1 _ e3
    subst e1
    subst e3
    have hat : AtRow w1 g c1 fs av := ⟨cur, hgg, r1, r2, r3, r4⟩
    have hrd : RdArgs w1 g av fs := ((HA.out.1.below hb1 (Nat.le_refl _)).more hbg)
    have hlen := len_tot ht
    have hs := sortF_any g c1 fs av w1 hat hrd (by omega) hlen
    clear hrow hat hgg r1 r2 r3 r4
    go_wp2_with (fail)
    refine hs.mono ?_
    rintro e w2 ⟨rfl, fs', av', hp, hup, hat2, hrd2, ho2⟩
    have hl2 : ∀ k (hk : k < fs'.length), fs'[k].2.length ≤ 1048576 := fun k hk => by
      obtain ⟨q, hq, e⟩ := List.getElem_of_mem (hp.mem_iff.1 (List.getElem_mem hk))
      rw [← e]
      exact hlen q hq
    have hk := compactF_any g c1 fs' av' w2 hat2 hrd2 (by rw [hp.length_eq]; omega) hl2
    have HC := Lib.hid (show compactL fs' = setOf fs from compact_setOf hup fun x => hp.mem_iff)
    rw [show fs.length = fs'.length from hp.length_eq.symm]
    have HB2 := Lib.hid (show Below w.heap.size w w2 from Only.then_ hb1 ho2 hbg)
    have hg1 := hat2.lt
    clear hs hp hup hat2 hrd2 hl2 hlen hrd
    go_wp2_with (fail)
    refine hk.mono ?_
    rw [HC.out]
    rintro e w3 ⟨av3, rfl, hat3, hrd3, ho3⟩
    have HR := Lib.hid (show RdFacts w3 w3.heap.size (.slice (some ⟨g, 0, none⟩) (setOf fs).length c1) (setOf fs) from
      (RowF.facts (base := 0) ⟨hat3.row hrd3.1 (Nat.zero_le _), hrd3.more (Nat.le_of_lt hat3.lt)⟩))
    have HB3 := Lib.hid (show Below w.heap.size w w3 from Only.then_ HB2.out ho3 hbg)
    clear hk hat3 hrd3 ho3 ho2
    go_wp2_with (fail)
    go_ret
    exact ⟨_, c1, rfl, HR.out, HB3.out⟩

set_option maxHeartbeats 1000000 in
set_option maxRecDepth 100000 in
theorem implFactsEither_any (v v2 : Value) (xs ys : List LFact) (w : World) (h : RdFacts w w.heap.size v xs) (h2 : RdFacts w w.heap.size v2 ys) (hn : xs.length + ys.length ≤ 1048576) (ht : tot xs + tot ys ≤ 1048576) :
    Calls Try.prog 27 #[v, v2] w fun e w' => ∃ A' c', e = .returned (.slice A' (setOf (xs ++ ys)).length c') ∧ OwnFacts w' w.heap.size w'.heap.size (.slice A' (setOf (xs ++ ys)).length c') (setOf (xs ++ ys)) ∧ Below w.heap.size w w' := by
  have H := Lib.hid h
  have H2 := Lib.hid h2
  obtain ⟨A, c, rfl, hc, _⟩ := h
  obtain ⟨A2, c2, rfl, hc2, _⟩ := h2
  obtain ⟨zs, hzs⟩ : ∃ zs, zs = xs ++ ys := ⟨_, rfl⟩
  have HZ := Lib.hid hzs
  have HZB := Lib.hid (show zs.length ≤ 2097152 ∧ tot zs ≤ 1048576 from ⟨by rw [hzs, List.length_append]; omega, by rw [hzs, tot_append]; exact ht⟩)
  have HL := Lib.hid (show (setOf zs).length ≤ 4194304 ∧ tot (setOf zs) ≤ 1048576 by
    have hbd := setOf_bound zs
    have := HZB.out
    omega)
  rw [← hzs]
  clear hzs
  go_enter Try.func27, Try.ntmps27
  go_wp2_with (fail)
  obtain ⟨w1, hw1⟩ : ∃ w1, w1 = w.alloc (Obj.cells #[Value.slice A xs.length c, Value.slice A2 ys.length c2] 36) := ⟨_, rfl⟩
  have B1 : Below w.heap.size w w1 := by rw [hw1]; exact below1 _ _
  have b1 : Blk w1 w.heap.size 36 #[.slice A xs.length c, .slice A2 ys.length c2] := by rw [hw1]; exact Blk.new _ _ _
  rw [← hw1]
  clear hw1
  refine (concat_any w.heap.size _ _ _ xs ys w1 (b1.cell 0) (b1.cell 1) (H.out.on B1) (H2.out.on B1) (by omega)).mono ?_
  rw [← HZ.out]
  rintro e w3 ⟨A3, c3, av3, rfl, hr3, hb3⟩
  have B3 := bthen B1 hb3
  have R3 := Lib.hid hr3.facts
  clear b1 hr3
  go_wp2_with (fail)
  refine (factSet_any _ zs w3 R3.out HZB.out.1 HZB.out.2).mono ?_
  rintro e w4 ⟨A4, c4, rfl, hr4, hb4⟩
  have B4 := bthen B3 hb4
  have R4 := Lib.hid hr4
  clear hr4
  go_wp2_with (fail)
  refine (copyFacts_any _ (setOf zs) w4 R4.out HL.out.1 HL.out.2).mono ?_
  rintro e w5 ⟨A5, c5, rfl, ho5, hb5⟩
  have HO := Lib.hid (And.intro ho5 (bthen B4 hb5))
  have s4 := B4.size
  clear ho5
  go_wp2_with (fail)
  go_ret
  exact ⟨A5, c5, rfl, HO.out.1.mono s4 (Nat.le_refl _), HO.out.2⟩

end Go.Proofs.Ytehjhdihaloalaa
