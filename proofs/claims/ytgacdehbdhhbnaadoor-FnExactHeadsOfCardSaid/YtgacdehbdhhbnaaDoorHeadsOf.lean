/-
  The walks of both HeadsOf.
-/
import Derived.Test.YtgacdehbdhhbnaaDoorVarsOf
import Derived.WalkLawsBesides
import Derived.Deep.DeepCutAuto
namespace Go.Proofs.YtgacdehbdhhbnaaDoor
open Go.RowKit

/-- The heads among the first n predicates. -/
def headStep (n : Nat) (m : Nat) (r : LRule) : Nat := if 0 ≤ r.1.1 ∧ r.1.1 < (n : Int) then m ||| 2 ^ r.1.1.toNat else m
def headMask (n : Nat) (rs : List LRule) : Nat := rs.foldl (headStep n) 0
def headN (p : LProg) : Nat := min p.1.length 24
def headsOf (p : LProg) : List Int := bitsOf (headMask (headN p) p.2)
theorem headMask_take {n : Nat} {rs : List LRule} {k : Nat} (h : k < rs.length) : headMask n (rs.take (k + 1)) = headStep n (headMask n (rs.take k)) rs[k] := by
  unfold headMask
  rw [take_snoc rs k h, List.foldl_append]
  rfl
theorem headStep_lt {n m : Nat} {r : LRule} (hm : m < 2 ^ n) : headStep n m r < 2 ^ n := by
  unfold headStep
  split
  · rename_i h
    exact Nat.or_lt_two_pow hm (Nat.pow_lt_pow_right (by omega) (by omega))
  · exact hm
theorem headMask_lt {n : Nat} (rs : List LRule) : headMask n rs < 2 ^ n := by
  suffices ∀ (rs : List LRule) (m : Nat), m < 2 ^ n → rs.foldl (headStep n) m < 2 ^ n from this rs 0 (Nat.two_pow_pos n)
  intro rs
  induction rs with
  | nil => intro m hm; exact hm
  | cons r rs ih => intro m hm; exact ih _ (headStep_lt hm)
theorem testBit_headMask {n i : Nat} (hi : i < n) : ∀ (rs : List LRule) (m : Nat), (rs.foldl (headStep n) m).testBit i = (m.testBit i || rs.any fun r => r.1.1 == (i : Int))
  | [], m => by simp
  | r :: rs, m => by
    rw [List.foldl_cons, testBit_headMask hi rs, List.any_cons, ← Bool.or_assoc]
    congr 1
    unfold headStep
    split
    · rename_i h
      rw [Nat.testBit_or, Nat.testBit_two_pow]
      congr 1
      by_cases e : r.1.1 = (i : Int)
      · simp [e]
      · have : (r.1.1 == (i : Int)) = false := by simpa using e
        rw [this]
        simp
        omega
    · rename_i h
      have : (r.1.1 == (i : Int)) = false := by
        simp
        omega
      rw [this, Bool.or_false]
theorem rulesOf_any (p : LProg) (i : Nat) : (p.2.any fun r => r.1.1 == (i : Int)) = decide (0 < (rulesOf p (i : Int)).length) := by
  unfold rulesOf rulesTo
  rw [List.length_map]
  cases h : p.2.any fun r => r.1.1 == (i : Int)
  · rw [List.any_eq_false] at h
    have : (List.range p.2.length).filter (fun j => (p.2.getD j ((0, []), [])).1.1 == (i : Int)) = [] := by
      rw [List.filter_eq_nil_iff]
      intro j hj
      have hj := List.mem_range.1 hj
      have := h _ (List.getElem_mem hj)
      simpa [hj] using this
    rw [this]
    rfl
  · rw [List.any_eq_true] at h
    obtain ⟨r, hr, he⟩ := h
    obtain ⟨j, hj, rfl⟩ := List.getElem_of_mem hr
    symm
    rw [decide_eq_true_iff]
    apply List.length_pos_of_mem (a := j)
    rw [List.mem_filter]
    exact ⟨List.mem_range.2 hj, by simpa [hj] using he⟩
theorem head_bit {p : LProg} {i : Nat} (hi : i < headN p) : (headMask (headN p) p.2).testBit i = decide (0 < (rulesOf p (i : Int)).length) := by
  unfold headMask
  rw [testBit_headMask hi, rulesOf_any]
  simp

theorem shl_word {m q : Nat} (hm : m < 2 ^ 24) (hq : q < 24) : bits .or .u64 (m : Int) (IntKind.u64.wrap (2 ^ q)) = ((m ||| 2 ^ q : Nat) : Int) := by
  have hp : 2 ^ q < 2 ^ 24 := Nat.pow_lt_pow_right (by omega) hq
  have hw : IntKind.u64.wrap (2 ^ q : Int) = ((2 ^ q : Nat) : Int) := by
    rw [IntKind.wrap_u64]
    have : ((2 : Int) ^ q) = ((2 ^ q : Nat) : Int) := by simp
    rw [this]
    generalize (2 : Nat) ^ q = t at hp
    omega
  rw [hw]
  generalize (2 : Nat) ^ q = t at hp
  exact u64_or_nat m t (by omega) (by omega)

set_option maxHeartbeats 1000000 in
set_option maxRecDepth 100000 in
theorem implHeadsOf_any (v : Value) (p : LProg) (w : World) (h : RdProg w w.heap.size v p) (hs : szP p ≤ 1048576) (hT : Tab w) :
    Calls Tryd.prog 17 #[v] w fun e w' => ∃ A' c', e = .returned (.slice A' (headsOf p).length c') ∧ OwnInts w' w.heap.size w'.heap.size (.slice A' (headsOf p).length c') (headsOf p) ∧ Below w.heap.size w w' := by
  unfold szP at hs
  have HT := Lib.hid hT
  clear hT
  obtain ⟨a, b, rfl, h, h2⟩ := h
  have H2 := Lib.hid h2
  obtain ⟨A, c, rfl, hc, _⟩ := h
  obtain ⟨A2, c2, rfl, hc2, _⟩ := h2
  go_enter Tryd.func17, Tryd.ntmps17
  go_upto_region 1 with fail
  obtain ⟨w1, hw1⟩ : ∃ w1, w1 = w.alloc (Obj.cells #[Value.slice A p.1.length c, Value.slice A2 p.2.length c2] 47) := ⟨_, rfl⟩
  have B1 : Below w.heap.size w w1 := by rw [hw1]; exact below1 _ _
  have x1 : Blk w1 w.heap.size 47 #[.slice A p.1.length c, .slice A2 p.2.length c2] := by rw [hw1]; exact Blk.new _ _ _
  have q0 : w1.cell? ⟨w.heap.size, 0, none⟩ = some (.slice A p.1.length c) := x1.cell 0
  have q1 : w1.cell? ⟨w.heap.size, 1, none⟩ = some (.slice A2 p.2.length c2) := x1.cell 1
  rw [← hw1]
  clear hw1
  have hn24 : headN p ≤ 24 := by unfold headN; omega
  go_cut [3] (fun v wx => v = .int .i64 (headN p : Nat) ∧ wx = w1)
  case first =>
    rcases Nat.lt_or_ge 24 p.1.length with hl | hl
    · have HN := Lib.hid (show headN p = 24 by unfold headN; omega)
      have hlt : ¬ (p.1.length : Int) ≤ 24 := by omega
      go_wp2_with (fail)
      all_goals (go_meet; exact ⟨by rw [HN.out] <;> first | rfl | (congr 1; omega), rfl⟩)
    · have HN := Lib.hid (show headN p = p.1.length by unfold headN; omega)
      have hlt : (p.1.length : Int) ≤ 24 := by omega
      go_wp2_with (fail)
      all_goals (go_meet; exact ⟨by rw [HN.out] <;> first | rfl | (congr 1; omega), rfl⟩)
  case rest =>
    obtain ⟨rfl, rfl⟩ := hcut
    generalize hnn : headN p = n at hn24
    have HNN := Lib.hid hnn
    clear hnn
    go_wp2_with (fail)
    go_loopw [4, 6, 14] (fun m _ i wr => ∃ (k : Nat) (z : Int), k ≤ p.2.length ∧ i = .int .i64 k ∧ m = .int .u64 z ∧ z = (headMask n (p.2.take k) : Nat) ∧ Below wc.heap.size wc wr) (fun _ _ i _ => p.2.length - (intOf i).toNat)
    case atStart => exact ⟨0, 0, Nat.zero_le _, rfl, rfl, rfl, Below.refl _ _⟩
    case round =>
      obtain ⟨k, z, hk, rfl, rfl, hz, hbe⟩ := hrel
      have BW := bthen B1 hbe
      by_cases hlt : k < p.2.length
      · obtain ⟨b, o, u0, u1, u2, rfl, hbB, k0, k1, k2, rfl, p3, p4⟩ := (H2.out.on BW).get hlt
        obtain ⟨A4, c4, rfl, hc4, _⟩ := p3
        obtain ⟨A5, c5, rfl, hc5, _⟩ := p4
        have hml := headMask_lt (n := n) (p.2.take k)
        have hmt := headMask_take (n := n) hlt
        have hp24 : 2 ^ n ≤ 2 ^ 24 := Nat.pow_le_pow_right (by omega) hn24
        by_cases h0 : 0 ≤ p.2[k].1.1
        · have t0 : decide (0 ≤ p.2[k].1.1) = true := by simpa using h0
          by_cases h1 : p.2[k].1.1 < (n : Int)
          · have t1 : decide (p.2[k].1.1 < (n : Int)) = true := by simpa using h1
            have h64 : p.2[k].1.1 ≤ 64 := by omega
            have HZ := Lib.hid (show bits .or .u64 z (IntKind.u64.wrap (2 ^ p.2[k].1.1.toNat)) = (headMask n (p.2.take (k + 1)) : Nat) by
              rw [hz, shl_word (by omega) (by omega), hmt]
              unfold headStep
              rw [if_pos ⟨h0, h1⟩])
            clear hz hml hmt hp24
            go_wp2_with (fail)
            go_roundw
            case rel => exact ⟨k + 1, _, by omega, by go_num, rfl, HZ.out, bthen hbe (below1 _ _)⟩
            case measure => simp [intOf]; omega
          · have t1 : decide (p.2[k].1.1 < (n : Int)) = false := by simpa using h1
            have HZ := Lib.hid (show z = (headMask n (p.2.take (k + 1)) : Nat) by
              rw [hz, hmt]
              unfold headStep
              rw [if_neg (fun h => h1 h.2)])
            clear hz hml hmt hp24 h1
            go_wp2_with (fail)
            go_roundw
            case rel => exact ⟨k + 1, _, by omega, by go_num, rfl, HZ.out, bthen hbe (below1 _ _)⟩
            case measure => simp [intOf]; omega
        · have t0 : decide (0 ≤ p.2[k].1.1) = false := by simpa using h0
          have HZ := Lib.hid (show z = (headMask n (p.2.take (k + 1)) : Nat) by
            rw [hz, hmt]
            unfold headStep
            rw [if_neg (fun h => h0 h.1)])
          clear hz hml hmt hp24 h0
          go_wp2_with (fail)
          go_roundw
          case rel => exact ⟨k + 1, _, by omega, by go_num, rfl, HZ.out, bthen hbe (below1 _ _)⟩
          case measure => simp [intOf]; omega
      · have hzz : z = (headMask n p.2 : Nat) := by rw [hz, show k = p.2.length by omega, List.take_length]
        have hml := headMask_lt (n := n) p.2
        have hp24 : 2 ^ n ≤ 2 ^ 24 := Nat.pow_le_pow_right (by omega) hn24
        have HB := Lib.hid (show ∀ W, Tab W → Calls Tryd.prog 25 #[.int .u64 z] W fun e w' => ∃ A' c', e = .returned (.slice A' (headsOf p).length c') ∧ OwnInts w' W.heap.size w'.heap.size (.slice A' (headsOf p).length c') (headsOf p) ∧ Below W.heap.size W w' from fun W hW => by
          rw [hzz]
          have := bitNumbers_any (headMask n p.2) (by omega) W hW
          unfold headsOf
          rw [HNN.out]
          exact this)
        clear hz hzz hml hp24
        go_wp2_with (fail)
        refine (HB.out _ (HT.out.below BW)).mono ?_
        rintro e w2 ⟨A', c', rfl, ho, hb2⟩
        go_wp2_with (fail)
        go_ret
        exact ⟨_, _, rfl, ho.mono BW.size (Nat.le_refl _), bthen BW hb2⟩

set_option maxHeartbeats 1000000 in
set_option maxRecDepth 100000 in
theorem specHeadsOf_any (v : Value) (p : LProg) (w : World) (h : RdProg w w.heap.size v p) (hs : szP p ≤ 1048576) :
    Calls Tryd.prog 15 #[v] w fun e w' => ∃ A' c', e = .returned (.slice A' (headsOf p).length c') ∧ OwnInts w' w.heap.size w'.heap.size (.slice A' (headsOf p).length c') (headsOf p) ∧ Below w.heap.size w w' := by
  obtain ⟨i0, hi0, hz0, hz1, hz2⟩ := info_parts Tryd.infoInt
  have H := Lib.hid h
  have hsz := hs
  unfold szP at hs
  obtain ⟨a, b, rfl, h, h2⟩ := h
  obtain ⟨A, c, rfl, hc, _⟩ := h
  obtain ⟨A2, c2, rfl, hc2, _⟩ := h2
  go_enter Tryd.func15, Tryd.ntmps15
  go_wp2_with (fail)
  obtain ⟨w1, hw1⟩ : ∃ w1, w1 = w.alloc (Obj.cells #[Value.slice A p.1.length c, Value.slice A2 p.2.length c2] 47) := ⟨_, rfl⟩
  have B1 : Below w.heap.size w w1 := by rw [hw1]; exact below1 _ _
  have x1 : Blk w1 w.heap.size 47 #[.slice A p.1.length c, .slice A2 p.2.length c2] := by rw [hw1]; exact Blk.new _ _ _
  have s1 := x1.lt
  have S1 := Lib.hid (show w1.heap.size = w.heap.size + 1 by rw [hw1]; simp)
  rw [← hw1]
  clear hw1
  obtain ⟨m, hm⟩ : ∃ m, m = headMask (headN p) p.2 := ⟨_, rfl⟩
  have hbit : ∀ i, i < headN p → m.testBit i = decide (0 < (rulesOf p (i : Int)).length) := fun i hi => by rw [hm]; exact head_bit hi
  have hfin : marksTo m (headN p) = headsOf p := by
    rw [hm]
    exact marks_bits _ (by unfold headN; omega) (headMask_lt _)
  have HB := Lib.hid hbit
  have HF := Lib.hid hfin
  clear hm hbit hfin
  have hN1 : headN p ≤ p.1.length := by unfold headN; omega
  have hN2 : headN p ≤ 24 := by unfold headN; omega
  have hN3 : p.1.length ≤ headN p ∨ 24 ≤ headN p := by unfold headN; omega
  generalize hnn : headN p = n at hN1 hN2 hN3 HB HF
  clear hnn
  go_loopw [3, 4] (fun o i wr => ∃ (k : Nat) (A' : Option Addr) (c' : Nat), k ≤ n ∧ i = .int .i64 k ∧ o = .slice A' (marksTo m k).length c' ∧ ColI w1 wr (marksTo m k) A' c') (fun _ i _ => n - (intOf i).toNat)
  case atStart => exact ⟨0, _, 0, Nat.zero_le _, rfl, rfl, by rw [← S1.out]; exact ColI.empty (Below.refl _ _)⟩
  case round =>
    obtain ⟨k, A', c', hk, rfl, rfl, hr⟩ := hrel
    have hln := marksTo_length m k
    have BW := bthen B1 hr.below
    have xr := x1.below hr.below x1.lt
    have q0 : wr.cell? ⟨w.heap.size, 0, none⟩ = some (.slice A p.1.length c) := xr.cell 0
    have q1 : wr.cell? ⟨w.heap.size, 1, none⟩ = some (.slice A2 p.2.length c2) := xr.cell 1
    by_cases hlt : k < n
    · have ta : decide ((k : Int) < (p.1.length : Int)) = true := by simp; omega
      have tb : decide ((k : Int) < 24) = true := by simp; omega
      have hbk := HB.out k hlt
      have hrl := rulesTo_length p.2 (k : Int) p.2.length
      obtain ⟨L, hL⟩ : ∃ L, L = (rulesOf p (k : Int)).length := ⟨_, rfl⟩
      have hLs : L ≤ 1048576 := by rw [hL]; unfold rulesOf; omega
      have HR := Lib.hid (specRulesOf_any (.agg #[.slice A p.1.length c, .slice A2 p.2.length c2]) p (k : Int) wr (H.out.on BW) hsz)
      rw [← hL] at hbk HR
      have HL := Lib.hid hL
      clear hL
      have HP := Lib.hid hr
      clear hr
      by_cases he : 0 < L
      · have tp : (0 : Int) < (L : Int) := by omega
        have HS := Lib.hid (marksTo_yes (show m.testBit k = true by rw [hbk]; simpa using he))
        clear hbk
        go_wp2_with (fail)
        refine HR.out.mono ?_
        rintro e w2 ⟨A7, c7, rfl, ho7, hb2⟩
        go_wp2_with (at_builtin; refine wpList_append_lies _ rfl (.tmp 22) (.tmp 24) 22 rfl w1.heap.size 3 i0 (.int .i64 0) 1 8 Tryd.underlying22 hi0 hz0 hz1 hz2 rfl (by decide) (.slice A' (marksTo m k).length c') (marksTo m k).length ((marksTo m k).map (Value.int .i64)) rfl ?c1 ⟨_, 0, none⟩ 1 1 [.int .i64 k] rfl rfl (news1s _ _ _ _ (by simp)) ?c2 (by omega) (by unfold maxLen; omega) (by omega) ?c3 _ rfl ?_)
        case c1 => exact ((HP.out.own.below hb2 (Nat.le_refl _)).1).alloc _
        case c2 => intro u hu; simp at hu; subst hu; rfl
        case c3 => have := HP.out.below.size; have := hb2.size; simp; omega
        intro g2 cap w4 hown hg2 _ _
        have hcol := HP.out.push hb2 hg2 hown
        rw [← HS.out] at hcol
        have hlen : (marksTo m k).length + 1 = (marksTo m (k + 1)).length := by rw [HS.out]; simp
        rw [hlen]
        have HC := Lib.hid hcol
        clear hcol hlen hown hg2
        go_wp2_with (fail)
        go_roundw
        case rel => exact ⟨k + 1, _, _, by omega, by go_num, rfl, HC.out⟩
        case measure => simp [intOf]; omega
      · have tp : ¬ (0 : Int) < (L : Int) := by omega
        have HS := Lib.hid (marksTo_no (show m.testBit k = false by rw [hbk]; simpa using he))
        clear hbk he
        go_wp2_with (fail)
        refine HR.out.mono ?_
        rintro e w2 ⟨A7, c7, rfl, ho7, hb2⟩
        go_wp2_with (fail)
        go_roundw
        case rel => exact ⟨k + 1, _, _, by omega, by go_num, by rw [HS.out], by rw [HS.out]; exact ⟨bthen HP.out.below hb2, (HP.out.own.below hb2 (Nat.le_refl _)).mono (Nat.le_refl _) hb2.size⟩⟩
        case measure => simp [intOf]; omega
    · have hkn : k = n := by omega
      have HO := Lib.hid (show OwnInts wr w1.heap.size wr.heap.size (.slice A' (headsOf p).length c') (headsOf p) ∧ marksTo m k = headsOf p by
        have := hr.own
        rw [hkn, HF.out] at this ⊢
        exact ⟨this, rfl⟩)
      have hbe := bthen B1 hr.below
      have hsz1 := B1.size
      rw [HO.out.2]
      clear hr
      rcases hN3 with h3 | h3
      · have ta : decide ((k : Int) < (p.1.length : Int)) = false := by simp; omega
        go_wp2_with (fail)
        go_ret
        exact ⟨_, _, rfl, HO.out.1.mono hsz1 (Nat.le_refl _), hbe⟩
      · by_cases h5 : (k : Int) < (p.1.length : Int)
        · have ta : decide ((k : Int) < (p.1.length : Int)) = true := by simpa using h5
          have tb : decide ((k : Int) < 24) = false := by simp; omega
          go_wp2_with (fail)
          go_ret
          exact ⟨_, _, rfl, HO.out.1.mono hsz1 (Nat.le_refl _), hbe⟩
        · have ta : decide ((k : Int) < (p.1.length : Int)) = false := by simpa using h5
          go_wp2_with (fail)
          go_ret
          exact ⟨_, _, rfl, HO.out.1.mono hsz1 (Nat.le_refl _), hbe⟩

end Go.Proofs.YtgacdehbdhhbnaaDoor
