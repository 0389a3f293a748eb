/-
  factsByOther; the program's FactsBoth and FactsLess.
-/
import Derived.Test.YtehjhdihaloalaaBinF
import Derived.Test.YtehjhdihaloalaaSpecPick
namespace Go.Proofs.Ytehjhdihaloalaa
open Go.RowKit Go.Sort

theorem factsHas_mem (ys : List LFact) (f : LFact) : factsHas ys f = decide (f ∈ ys) := by
  unfold factsHas
  by_cases h : f ∈ ys
  · rw [decide_eq_true h, List.any_eq_true]
    exact ⟨f, h, by rw [order_refl]; rfl⟩
  · rw [decide_eq_false h, List.any_eq_false]
    intro g hg e
    refine h ?_
    rw [← order_eq (f := g) (g := f) (by simpa using e)]
    exact hg
/-- The facts of a list, each once, that another has, or has not. -/
def byOther (xs ys : List LFact) (b : Bool) : List LFact := xs.filter fun f => decide (f ∈ ys) == b
theorem byOther_pick (xs ys : List LFact) (b : Bool) : byOther (setOf xs) (setOf ys) b = pickL xs ys b := by
  unfold byOther pickL
  refine Asc.unique ((setOf_asc xs).filter _) (setOf_asc _) fun f => ?_
  have : decide (f ∈ setOf ys) = decide (f ∈ ys) := by
    by_cases h : f ∈ ys
    · rw [decide_eq_true h, decide_eq_true ((setOf_mem ys f).2 h)]
    · rw [decide_eq_false h, decide_eq_false (fun e => h ((setOf_mem ys f).1 e))]
  rw [List.mem_filter, setOf_mem xs f, this, setOf_mem (xs.filter fun f => factsHas ys f == b) f, List.mem_filter, factsHas_mem]
theorem byOther_yes {xs ys : List LFact} {b : Bool} {k : Nat} (h : k < xs.length) (e : decide (xs[k] ∈ ys) = b) : byOther (xs.take (k + 1)) ys b = byOther (xs.take k) ys b ++ [xs[k]] := by
  unfold byOther
  rw [take_snoc xs k h, List.filter_append]
  simp [e]
theorem byOther_no {xs ys : List LFact} {b : Bool} {k : Nat} (h : k < xs.length) (e : decide (xs[k] ∈ ys) ≠ b) : byOther (xs.take (k + 1)) ys b = byOther (xs.take k) ys b := by
  unfold byOther
  rw [take_snoc xs k h, List.filter_append]
  simp [e]
theorem byOther_length (xs ys : List LFact) (b : Bool) (k : Nat) : (byOther (xs.take k) ys b).length ≤ k := by
  unfold byOther
  refine Nat.le_trans (List.length_filter_le _ _) ?_
  simp
  omega

set_option maxHeartbeats 2000000 in
set_option maxRecDepth 100000 in
theorem factsByOther_any (v v2 : Value) (xs ys : List LFact) (b : Bool) (w : World) (h : RdFacts w w.heap.size v xs) (h2 : RdFacts w w.heap.size v2 ys) (hn : xs.length + ys.length ≤ 1048576) (ht : tot xs + tot ys ≤ 1048576) :
    Calls Try.prog 73 #[v, v2, .bool b] w fun e w' => ∃ A' c', e = .returned (.slice A' (pickL xs ys b).length c') ∧ OwnFacts w' w.heap.size w'.heap.size (.slice A' (pickL xs ys b).length c') (pickL xs ys b) ∧ Below w.heap.size w w' := by
  obtain ⟨i0, hi0, hz0, hz1, hz2⟩ := info_parts Try.infoFact
  have H := Lib.hid h
  have H2 := Lib.hid h2
  obtain ⟨A, c, rfl, hc, _⟩ := h
  obtain ⟨A2, c2, rfl, hc2, _⟩ := h2
  obtain ⟨fs, hfs⟩ : ∃ fs, fs = setOf xs := ⟨_, rfl⟩
  obtain ⟨gs, hgs⟩ : ∃ gs, gs = setOf ys := ⟨_, rfl⟩
  have HFS := Lib.hid hfs
  have HGS := Lib.hid hgs
  have HAS := Lib.hid (show Asc gs by rw [hgs]; exact setOf_asc ys)
  have HPK := Lib.hid (show byOther fs gs b = pickL xs ys b by rw [hfs, hgs]; exact byOther_pick xs ys b)
  rw [← HPK.out]
  have hfb : fs.length ≤ 1048576 ∧ tot fs ≤ 1048576 := by have := setOf_bound xs; rw [hfs]; omega
  have hgb : gs.length ≤ 1048576 ∧ tot gs ≤ 1048576 := by have := setOf_bound ys; rw [hgs]; omega
  obtain ⟨hfl, hft⟩ := hfb
  obtain ⟨hgl, hgt⟩ := hgb
  clear hfs hgs
  go_enter Try.func73, Try.ntmps73
  go_wp2_with (fail)
  refine (factSet_any _ ys w H2.out (by omega) (by omega)).mono ?_
  rw [← HGS.out]
  rintro e w1 ⟨Ag, cg, rfl, hrg, hb1⟩
  have HG := Lib.hid hrg
  clear hrg
  go_wp2_with (fail)
  refine (factSet_any _ xs w1 (H.out.on hb1) (by omega) (by omega)).mono ?_
  rw [← HFS.out]
  rintro e w2 ⟨Af, cf, rfl, hrf, hb2⟩
  have HF := Lib.hid hrf
  have HG2 := Lib.hid (HG.out.on hb2)
  have B2 := bthen hb1 hb2
  clear hrf
  go_wp2_with (fail)
  go_loopw [8, 10, 16] (fun o _ i wr => ∃ (k : Nat) (A' : Option Addr) (c' : Nat) (av : List Value), k ≤ fs.length ∧ i = .int .i64 k ∧ o = .slice A' (byOther (fs.take k) gs b).length c' ∧ ColRel w2 wr (byOther (fs.take k) gs b) A' c' av) (fun _ _ i _ => fs.length - (intOf i).toNat)
  case atStart => exact ⟨0, _, 0, [], Nat.zero_le _, rfl, by simp [byOther], ColRel.nil w2⟩
  case round =>
    obtain ⟨k, A', c', av, hk, rfl, rfl, hr⟩ := hrel
    by_cases hlt : k < fs.length
    · obtain ⟨bb, o, A3, c3, rfl, hbB, k1, k2, k3⟩ := (HF.out.on hr.below).get hlt
      have hln := len_le_tot fs k hlt
      have hgl2 := byOther_length fs gs b k
      have K3 := Lib.hid (show RdFact wr wr.heap.size (.agg #[.int .i64 fs[k].1, .slice A3 fs[k].2.length c3]) fs[k] from ⟨_, rfl, k3⟩)
      have HSH := Lib.hid (fun W (hW : Below wr.heap.size wr W) => setHas_any (.slice Ag gs.length cg) (.agg #[.int .i64 fs[k].1, .slice A3 fs[k].2.length c3]) gs fs[k] W ((HG2.out.on hr.below).on hW) (K3.out.on hW) HAS.out (by omega) hgt (by omega))
      have HR := Lib.hid hr
      clear k3 hr
      go_wp2_with (fail)
      obtain ⟨w3, hw3⟩ : ∃ w3, w3 = wr.alloc (Obj.cells #[Value.int IntKind.i64 fs[k].1, Value.slice A3 fs[k].2.length c3] 28) := ⟨_, rfl⟩
      have B3 : Below wr.heap.size wr w3 := by rw [hw3]; exact below1 _ _
      have x3 : Blk w3 wr.heap.size 28 #[.int .i64 fs[k].1, .slice A3 fs[k].2.length c3] := by rw [hw3]; exact Blk.new _ _ _
      rw [← hw3]
      clear hw3 k1 k2
      refine (HSH.out w3 B3).mono ?_
      rintro e w4 ⟨rfl, hb4⟩
      have B4 := bthen B3 hb4
      have x4 := x3.below hb4 x3.lt
      have q0 : w4.cell? ⟨wr.heap.size, 0, none⟩ = some (.int .i64 fs[k].1) := x4.cell 0
      have q1 : w4.cell? ⟨wr.heap.size, 1, none⟩ = some (.slice A3 fs[k].2.length c3) := x4.cell 1
      have HP := Lib.hid (HR.out.on B4)
      have K4 := Lib.hid (K3.out.on B4)
      clear x3 x4
      by_cases he : decide (fs[k] ∈ gs) = b
      · have HS := Lib.hid (byOther_yes hlt he)
        have hq : (b == b) = true := by simp
        rw [he]
        clear he
        go_wp2_with (fail)
        refine (copyFact_any _ fs[k] _ K4.out (by omega)).mono ?_
        rintro e w5 ⟨A4, c4, rfl, ho4, hb5⟩
        have hz5 := hb5.size
        clear q0 q1
        go_wp2_with (at_builtin; refine wpList_append_lies _ rfl (.tmp 25) (.tmp 28) 36 rfl w2.heap.size 28 i0 (.agg #[.int .i64 0, .slice none 0 0]) 2 32 Try.underlying36 hi0 hz0 hz1 hz2 rfl (by decide) (.slice A' (byOther (fs.take k) gs b).length c') (byOther (fs.take k) gs b).length (flat (byOther (fs.take k) gs b) av) rfl ?c1 ⟨w5.heap.size, 0, none⟩ 1 1 [.int .i64 fs[k].1, .slice A4 fs[k].2.length c4] rfl rfl (news2 _ _ _ _) ?c2 (by omega) (by unfold maxLen; omega) (by omega) ?c3 _ rfl ?_)
        case c1 => exact (ownsRow_below HP.out.own.row HP.out.own.lt hb5 (Nat.le_refl _)).alloc _
        case c2 => intro u hu; simp at hu; rcases hu with rfl | rfl <;> rfl
        case c3 => have := HP.out.below.size; simp; omega
        intro g cap w6 hown hg _ _
        obtain ⟨av', hcol, hlen⟩ := HP.out.push HS.out hb5 ho4 hg hown
        rw [hlen]
        have HC := Lib.hid hcol
        clear hcol hlen hown hg
        go_wp2_with (fail)
        go_roundw
        case rel => exact ⟨k + 1, _, _, _, by omega, by go_num, rfl, HC.out⟩
        case measure => simp [intOf]; omega
      · have heb : (decide (fs[k] ∈ gs) == b) = false := by simpa using he
        have HS := Lib.hid (byOther_no hlt he)
        generalize decide (fs[k] ∈ gs) = D at heb
        clear he
        go_wp2_with (fail)
        go_roundw
        case rel => exact ⟨k + 1, _, _, _, by omega, by go_num, by rw [HS.out], by rw [HS.out]; exact HP.out⟩
        case measure => simp [intOf]; omega
    · have hkn : k = fs.length := by omega
      have HO := Lib.hid (show OwnFacts wr w2.heap.size wr.heap.size (.slice A' (byOther fs gs b).length c') (byOther fs gs b) ∧ byOther (fs.take k) gs b = byOther fs gs b by
        have e : fs.take k = fs := by rw [hkn, List.take_length]
        have := hr.own.own
        rw [e] at this ⊢
        exact ⟨this, rfl⟩)
      have hbe := hr.below
      have hs2 := B2.size
      rw [HO.out.2]
      clear hkn hr
      go_wp2_with (fail)
      go_ret
      exact ⟨_, _, rfl, HO.out.1.mono hs2 (Nat.le_refl _), bthen B2 hbe⟩

theorem implFactsBoth_any (v v2 : Value) (xs ys : List LFact) (w : World) (h : RdFacts w w.heap.size v xs) (h2 : RdFacts w w.heap.size v2 ys) (hn : xs.length + ys.length ≤ 1048576) (ht : tot xs + tot ys ≤ 1048576) :
    Calls Try.prog 31 #[v, v2] w fun e w' => ∃ A' c', e = .returned (.slice A' (pickL xs ys true).length c') ∧ OwnFacts w' w.heap.size w'.heap.size (.slice A' (pickL xs ys true).length c') (pickL xs ys true) ∧ Below w.heap.size w w' := by
  have H := Lib.hid h
  have H2 := Lib.hid h2
  obtain ⟨A, c, rfl, hc, _⟩ := h
  obtain ⟨A2, c2, rfl, hc2, _⟩ := h2
  go_enter Try.func31, Try.ntmps31
  go_wp2_with (fail)
  refine (factsByOther_any _ _ xs ys true _ H.out H2.out hn ht).mono ?_
  rintro e w1 ⟨A', c', rfl, ho, hb⟩
  have HO := Lib.hid (And.intro ho hb)
  clear ho hb
  go_wp2_with (fail)
  go_ret
  exact ⟨A', c', rfl, HO.out.1, HO.out.2⟩

theorem implFactsLess_any (v v2 : Value) (xs ys : List LFact) (w : World) (h : RdFacts w w.heap.size v xs) (h2 : RdFacts w w.heap.size v2 ys) (hn : xs.length + ys.length ≤ 1048576) (ht : tot xs + tot ys ≤ 1048576) :
    Calls Try.prog 33 #[v, v2] w fun e w' => ∃ A' c', e = .returned (.slice A' (pickL xs ys false).length c') ∧ OwnFacts w' w.heap.size w'.heap.size (.slice A' (pickL xs ys false).length c') (pickL xs ys false) ∧ Below w.heap.size w w' := by
  have H := Lib.hid h
  have H2 := Lib.hid h2
  obtain ⟨A, c, rfl, hc, _⟩ := h
  obtain ⟨A2, c2, rfl, hc2, _⟩ := h2
  go_enter Try.func33, Try.ntmps33
  go_wp2_with (fail)
  refine (factsByOther_any _ _ xs ys false _ H.out H2.out hn ht).mono ?_
  rintro e w1 ⟨A', c', rfl, ho, hb⟩
  have HO := Lib.hid (And.intro ho hb)
  clear ho hb
  go_wp2_with (fail)
  go_ret
  exact ⟨A', c', rfl, HO.out.1, HO.out.2⟩

end Go.Proofs.Ytehjhdihaloalaa
