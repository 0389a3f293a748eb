/-
  The walk of the law FnSets.
-/
import Derived.Test.YtehjhdihaloalaaDrawTwo
import Derived.Test.YtehjhdihaloalaaSetRules
import Derived.Test.YtehjhdihaloalaaFactSet
import Derived.Test.YtehjhdihaloalaaByOther
import Derived.Test.YtehjhdihaloalaaWrFacts
import Derived.Test.YtehjhdihaloalaaHas
import Derived.Test.YtehjhdihaloalaaLater
import Derived.Test.YtehjhdihaloalaaOpenBytes
namespace Go.Proofs.Ytehjhdihaloalaa
open Go.RowKit Go.Sort

theorem nilFacts (w : World) (B : Nat) : RdFacts w B (.slice none 0 0) [] := ⟨none, 0, rfl, by simp, fun h => absurd h (by simp)⟩

set_option maxHeartbeats 4000000 in
set_option maxRecDepth 100000 in
theorem lawPlainSets_any (v : Value) (bs : List Nat) (w : World) (hr : RdBytes w w.heap.size v bs) (_ : bs.length ≤ maxLen) (hby : ∀ b ∈ bs, b < 256) :
    Calls Try.prog 13 #[v] w fun e w' => e = .returned (.bool true) ∧ Below w.heap.size w w' := by
  have HV := Lib.hid hr
  obtain ⟨Av, cv, rfl, hcv, _⟩ := hr
  go_enter Try.func13, Try.ntmps13
  by_cases hbig : 1048576 < bs.length
  · have hd : decide ((1048576 : Int) < bs.length) = true := by simp; omega
    go_wp2_with (fail)
    go_ret
    exact ⟨rfl, Below.refl _ _⟩
  · have hd : decide ((1048576 : Int) < bs.length) = false := by simp; omega
    have hbn : bs.length ≤ 1073741824 := by omega
    go_wp2_with (fail)
    refine (drawFactsEither_any _ bs _ HV.out hby hbn).mono ?_
    rintro e w1 ⟨A, c, a, A2, c2, b, rfl, ha, hta, hb, htb, ra, rb, B1⟩
    have HA := Lib.hid ra
    have HB := Lib.hid rb
    clear ra rb
    go_wp2_with (fail)
    refine (implFactsEither_any _ _ a b w1 HA.out HB.out (by omega) (by omega)).mono ?_
    rintro e w2 ⟨A3, c3, rfl, ho3, b2⟩
    have HE := Lib.hid ho3.rd
    have HA2 := Lib.hid (HA.out.on b2)
    have HB2 := Lib.hid (HB.out.on b2)
    have B2 := bthen B1 b2
    clear ho3 b2 HA HB B1
    obtain ⟨E, hE⟩ : ∃ E, E = setOf (a ++ b) := ⟨_, rfl⟩
    obtain ⟨C, hC⟩ : ∃ C, C = pickL a b true := ⟨_, rfl⟩
    obtain ⟨L, hL⟩ : ∃ L, L = pickL a b false := ⟨_, rfl⟩
    obtain ⟨X, hX⟩ : ∃ X, X = setOf (a ++ []) := ⟨_, rfl⟩
    obtain ⟨Y, hY⟩ : ∃ Y, Y = setOf (b ++ []) := ⟨_, rfl⟩
    have hEb := setOf_bound (a ++ b)
    have hCb := pickL_bound a b true
    have hLb := pickL_bound a b false
    have hXb := setOf_bound (a ++ [])
    have hYb := setOf_bound (b ++ [])
    rw [List.length_append, tot_append] at hEb
    rw [List.append_nil, ← List.append_nil a, ← hX] at hXb
    rw [List.append_nil, ← List.append_nil b, ← hY] at hYb
    rw [List.append_nil] at hXb hYb
    have HCount := Lib.hid (setOf_count a b)
    have HParts := Lib.hid (setOf_parts a b)
    have HTurn := Lib.hid (setOf_turn a b)
    have HM := Lib.hid (show ∀ k (h : k < E.length), (factsHas a E[k] || factsHas b E[k]) = true ∧ factsHas C E[k] = (factsHas a E[k] && factsHas b E[k]) ∧ factsHas L E[k] = (factsHas a E[k] && !factsHas b E[k]) from by rw [hC, hL]; subst hE; exact setOf_has a b)
    rw [← hE] at HE hEb HCount HTurn
    rw [← hC] at hCb HCount HParts
    rw [← hL] at hLb HParts
    rw [← hX] at HCount HParts
    rw [← hY] at HCount
    rw [← hE]
    have HEq := Lib.hid hE
    have HCq := Lib.hid hC
    have HLq := Lib.hid hL
    have HXq := Lib.hid hX
    have HYq := Lib.hid hY
    clear hE hC hL hX hY
    go_wp2_with (fail)
    refine (implFactsBoth_any _ _ a b w2 HA2.out HB2.out (by omega) (by omega)).mono ?_
    rw [← HCq.out]
    rintro e w3 ⟨A4, c4, rfl, ho4, b3⟩
    have HC := Lib.hid ho4.rd
    have HA3 := Lib.hid (HA2.out.on b3)
    have HB3 := Lib.hid (HB2.out.on b3)
    have HE3 := Lib.hid (HE.out.on b3)
    have B3 := bthen B2 b3
    clear ho4 b3 HA2 HB2 B2 HE
    go_wp2_with (fail)
    refine (implFactsLess_any _ _ a b w3 HA3.out HB3.out (by omega) (by omega)).mono ?_
    rw [← HLq.out]
    rintro e w4 ⟨A5, c5, rfl, ho5, b4⟩
    have HL := Lib.hid ho5.rd
    have HA4 := Lib.hid (HA3.out.on b4)
    have HB4 := Lib.hid (HB3.out.on b4)
    have HE4 := Lib.hid (HE3.out.on b4)
    have HC4 := Lib.hid (HC.out.on b4)
    have B4 := bthen B3 b4
    clear ho5 b4 HA3 HB3 B3 HE3 HC
    go_wp2_with (fail)
    refine (specFactsEither_any _ _ a b w4 HA4.out HB4.out (by omega) (by omega)).mono ?_
    rw [← HEq.out]
    rintro e w5 ⟨A6, c6, rfl, ho6, b5⟩
    have HS := Lib.hid ho6.rd
    have H5 := Lib.hid (And.intro (HA4.out.on b5) (And.intro (HB4.out.on b5) (And.intro (HE4.out.on b5) (And.intro (HC4.out.on b5) (HL.out.on b5)))))
    have B5 := bthen B4 b5
    clear ho6 b5 HA4 HB4 HE4 HC4 HL B4
    go_wp2_with (fail)
    refine (wrFacts_yes _ _ E w5 H5.out.2.2.1 HS.out (by omega) (by omega)).mono ?_
    rintro e w6 ⟨rfl, b6⟩
    obtain ⟨i1, i2, i3, i4, i5⟩ := H5.out
    have H6 := Lib.hid (And.intro (i1.on b6) (And.intro (i2.on b6) (And.intro (i3.on b6) (And.intro (i4.on b6) (i5.on b6)))))
    have B6 := bthen B5 b6
    clear i1 i2 i3 i4 i5 b6 HS H5 B5
    go_wp2_with (fail)
    refine (specFactsBoth_any _ _ a b w6 H6.out.1 H6.out.2.1 (by omega) (by omega)).mono ?_
    rw [← HCq.out]
    rintro e w7 ⟨A7, c7, rfl, ho7, b7⟩
    obtain ⟨i1, i2, i3, i4, i5⟩ := H6.out
    have HS := Lib.hid ho7.rd
    have H7 := Lib.hid (And.intro (i1.on b7) (And.intro (i2.on b7) (And.intro (i3.on b7) (And.intro (i4.on b7) (i5.on b7)))))
    have B7 := bthen B6 b7
    clear i1 i2 i3 i4 i5 b7 H6 B6 ho7
    go_wp2_with (fail)
    refine (wrFacts_yes _ _ C w7 H7.out.2.2.2.1 HS.out (by omega) (by omega)).mono ?_
    rintro e w8 ⟨rfl, b8⟩
    obtain ⟨i1, i2, i3, i4, i5⟩ := H7.out
    have H8 := Lib.hid (And.intro (i1.on b8) (And.intro (i2.on b8) (And.intro (i3.on b8) (And.intro (i4.on b8) (i5.on b8)))))
    have B8 := bthen B7 b8
    clear i1 i2 i3 i4 i5 b8 HS H7 B7
    go_wp2_with (fail)
    refine (specFactsLess_any _ _ a b w8 H8.out.1 H8.out.2.1 (by omega) (by omega)).mono ?_
    rw [← HLq.out]
    rintro e w9 ⟨A8, c8, rfl, ho9, b9⟩
    obtain ⟨i1, i2, i3, i4, i5⟩ := H8.out
    have HS := Lib.hid ho9.rd
    have H9 := Lib.hid (And.intro (i1.on b9) (And.intro (i2.on b9) (And.intro (i3.on b9) (And.intro (i4.on b9) (i5.on b9)))))
    have B9 := bthen B8 b9
    clear i1 i2 i3 i4 i5 b9 H8 B8 ho9
    go_wp2_with (fail)
    refine (wrFacts_yes _ _ L w9 H9.out.2.2.2.2 HS.out (by omega) (by omega)).mono ?_
    rintro e wa ⟨rfl, ba⟩
    obtain ⟨i1, i2, i3, i4, i5⟩ := H9.out
    have HZ := Lib.hid (And.intro (i1.on ba) (And.intro (i2.on ba) (And.intro (i3.on ba) (And.intro (i4.on ba) (i5.on ba)))))
    have BZ := bthen B9 ba
    clear i1 i2 i3 i4 i5 ba HS H9 B9
    go_wp2_with (fail)
    go_loopw [53] (fun i wr => ∃ k : Nat, k ≤ E.length ∧ i = .int .i64 k ∧ Below wa.heap.size wa wr) (fun i _ => E.length - (intOf i).toNat)
    case atStart => exact ⟨0, Nat.zero_le _, rfl, Below.refl _ _⟩
    case round =>
      obtain ⟨k, hk, rfl, hbe⟩ := hrel
      by_cases hlt : k < E.length
      · obtain ⟨bb, oo, Af, cf, rfl, hbB, k1, k2, k3⟩ := (HZ.out.2.2.1.on hbe).get hlt
        have hm := HM.out k hlt
        have hfl := len_le_tot E k hlt
        obtain ⟨f, hf⟩ : ∃ f, f = E[k] := ⟨_, rfl⟩
        rw [← hf] at k1 k2 k3 hm hfl
        clear hf
        obtain ⟨m1, m2, m3⟩ := hm
        have KX := Lib.hid k3
        clear k3
        go_upto_region 10 with (fail)
        obtain ⟨wv, hwv⟩ : ∃ wv, wv = wr.alloc (Obj.cells #[Value.int IntKind.i64 f.fst, Value.slice Af f.snd.length cf] 28) := ⟨_, rfl⟩
        rw [← hwv]
        have bv : Below wr.heap.size wr wv := by rw [hwv]; exact below1 _ _
        have z : Blk wv wr.heap.size 28 #[.int .i64 f.1, .slice Af f.2.length cf] := by rw [hwv]; exact Blk.new _ _ _
        clear hwv k1 k2
        have Bv := bthen hbe bv
        have RF := Lib.hid (show RdFact wv wv.heap.size (.agg #[.int .i64 f.1, .slice Af f.2.length cf]) f from RdFact.on ⟨_, rfl, KX.out⟩ bv)
        obtain ⟨x, hx⟩ : ∃ x, x = factsHas a f := ⟨_, rfl⟩
        obtain ⟨y, hy⟩ : ∃ y, y = factsHas b f := ⟨_, rfl⟩
        have C1 := Lib.hid (show ∀ q : Later wv, Calls Try.prog 60 #[.slice A a.length c, .agg #[.int .i64 f.1, .slice Af f.2.length cf]] q.val fun e w' => e = .returned (.bool x) ∧ Below q.val.heap.size q.val w' from
          fun q => by rw [hx]; exact implFactsHas_any _ _ a f q.val ((HZ.out.1.on Bv).on q.2) (RF.out.on q.2) (by omega) (by omega) (by omega))
        have C2 := Lib.hid (show ∀ q : Later wv, Calls Try.prog 60 #[.slice A2 b.length c2, .agg #[.int .i64 f.1, .slice Af f.2.length cf]] q.val fun e w' => e = .returned (.bool y) ∧ Below q.val.heap.size q.val w' from
          fun q => by rw [hy]; exact implFactsHas_any _ _ b f q.val ((HZ.out.2.1.on Bv).on q.2) (RF.out.on q.2) (by omega) (by omega) (by omega))
        rw [← hx, ← hy] at m1 m2 m3
        have z0 : wv.cell? ⟨wr.heap.size, 0, none⟩ = some (.int .i64 f.1) := z.cell 0
        have z1 : wv.cell? ⟨wr.heap.size, 1, none⟩ = some (.slice Af f.2.length cf) := z.cell 1
        have Z0 := later_cell z0
        have Z1 := later_cell z1
        have HZB := Lib.hid z
        have HBV := Lib.hid Bv
        clear z0 z1 hx hy z Bv bv hbe
        refine wp_region_later (by kernel_rfl) (by kernel_rfl) ?_
        repeat (go_big_quiet_step ((go_at_call 60; first | with_reducible exact later_of (C1.out _) | with_reducible exact later_of (C2.out _))))
        refine wpQuiet_nil ?_
        rintro _ ⟨xr, rfl⟩
        have D0 := Z0 xr
        have D1 := Z1 xr
        have HX := Lib.hid xr.2
        clear Z0 Z1 C1 C2
        rcases x with _ | _ <;> rcases y with _ | _
        · simp at m1
        all_goals
          simp only [Bool.and_true, Bool.and_false, Bool.not_true, Bool.not_false] at m2 m3
          go_wp2_with (fail)
          refine (implFactsHas_any _ _ C f xr.val ((HZ.out.2.2.2.1.on HBV.out).on HX.out) (RF.out.on HX.out) (by omega) (by omega) (by omega)).mono ?_
          rw [m2]
          rintro e w9 ⟨rfl, b9⟩
          have d0 : w9.cell? ⟨wr.heap.size, 0, none⟩ = some (.int .i64 f.1) := (b9.cell (World.block_lt_of_cell? _ _ D0)).trans D0
          have d1 : w9.cell? ⟨wr.heap.size, 1, none⟩ = some (.slice Af f.2.length cf) := (b9.cell (World.block_lt_of_cell? _ _ D1)).trans D1
          have HB9 := Lib.hid (bthen HX.out b9)
          clear b9 D0 D1
          go_wp2_with (fail)
          refine (implFactsHas_any _ _ L f w9 ((HZ.out.2.2.2.2.on HBV.out).on HB9.out) (RF.out.on HB9.out) (by omega) (by omega) (by omega)).mono ?_
          rw [m3]
          rintro e wt ⟨rfl, bt⟩
          have HBT := Lib.hid (bthen HBV.out (bthen HB9.out bt))
          clear bt d0 d1
          go_wp2_with (fail)
          go_roundw
          case rel => exact ⟨k + 1, by omega, by go_num, HBT.out⟩
          case measure => simp [intOf]; omega
      · have hcnt := HCount.out
        have hcnt2 : ((E.length : Int) + (C.length : Int) == (X.length : Int) + (Y.length : Int)) = true := by simp; omega
        obtain ⟨i1, i2, i3, i4, i5⟩ := HZ.out
        have H0 := Lib.hid (And.intro (i1.on hbe) (And.intro (i2.on hbe) (And.intro (i3.on hbe) (And.intro (i4.on hbe) (i5.on hbe)))))
        have B0 := Lib.hid (bthen BZ hbe)
        clear i1 i2 i3 i4 i5 hbe HZ BZ
        go_wp2_with (fail)
        refine (implFactsEither_any _ _ L C wr H0.out.2.2.2.2 H0.out.2.2.2.1 (by omega) (by omega)).mono ?_
        rw [HParts.out]
        rintro e u1 ⟨P1, p1, rfl, o1, b1⟩
        have S1 := Lib.hid o1.rd
        have A1 := Lib.hid (H0.out.1.on b1)
        have K1 := Lib.hid b1
        clear o1 b1
        go_wp2_with (fail)
        refine (implFactsEither_any _ _ a [] u1 A1.out (nilFacts _ _) (by rw [List.length_nil]; omega) (by rw [show tot [] = 0 from rfl]; omega)).mono ?_
        rw [← HXq.out]
        rintro e u2 ⟨P2, p2, rfl, o2, b2⟩
        have S2 := Lib.hid o2.rd
        have S1' := Lib.hid (S1.out.on b2)
        have K2 := Lib.hid (bthen K1.out b2)
        clear o2 b2
        go_wp2_with (fail)
        refine (wrFacts_yes _ _ X u2 S1'.out S2.out (by omega) (by omega)).mono ?_
        rintro e u3 ⟨rfl, b3⟩
        have K3 := Lib.hid (bthen K2.out b3)
        clear b3
        go_wp2_with (fail)
        refine (implFactsEither_any _ _ a [] u3 (H0.out.1.on K3.out) (nilFacts _ _) (by rw [List.length_nil]; omega) (by rw [show tot [] = 0 from rfl]; omega)).mono ?_
        rw [← HXq.out]
        rintro e u4 ⟨P4, p4, rfl, o4, b4⟩
        have K4 := Lib.hid (bthen K3.out b4)
        clear o4 b4
        go_wp2_with (fail)
        refine (implFactsEither_any _ _ b [] u4 (H0.out.2.1.on K4.out) (nilFacts _ _) (by rw [List.length_nil]; omega) (by rw [show tot [] = 0 from rfl]; omega)).mono ?_
        rw [← HYq.out]
        rintro e u5 ⟨P5, p5, rfl, o5, b5⟩
        have K5 := Lib.hid (bthen K4.out b5)
        clear o5 b5
        go_wp2_with (fail)
        refine (implFactsEither_any _ _ b a u5 (H0.out.2.1.on K5.out) (H0.out.1.on K5.out) (by omega) (by omega)).mono ?_
        rw [HTurn.out]
        rintro e u6 ⟨P6, p6, rfl, o6, b6⟩
        have S6 := Lib.hid o6.rd
        have K6 := Lib.hid (bthen K5.out b6)
        clear o6 b6
        go_wp2_with (fail)
        refine (wrFacts_yes _ _ E u6 S6.out (H0.out.2.2.1.on K6.out) (by omega) (by omega)).mono ?_
        rintro e u7 ⟨rfl, b7⟩
        have K7 := Lib.hid (bthen B0.out (bthen K6.out b7))
        clear b7
        go_wp2_with (fail)
        go_ret
        exact ⟨rfl, K7.out⟩

theorem lawPlainSets_in (v : Value) (bs : List Nat) (w : World) (h : InBytes w v bs) :
    Calls Try.prog 13 #[v] w fun e w' => e = .returned (.bool true) ∧ Below w.heap.size w w' := lawPlainSets_any v bs w h.1 h.2.1 h.2.2

end Go.Proofs.Ytehjhdihaloalaa
