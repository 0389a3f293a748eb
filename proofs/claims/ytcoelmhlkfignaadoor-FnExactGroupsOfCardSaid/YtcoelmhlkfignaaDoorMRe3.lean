/-
  Texts that the claim's last one imports, laid together: part 3 of 6. No condition of its own.
-/
import Derived.Laws.BitsAllLaws
import Derived.Deep.RegionHeld3
import Derived.Deep.RegionWith
import Derived.Deep.RegionLaw
import Derived.Deep.WholeRow
import Derived.Laws.CopyOwn
import Derived.Deep.DeepCutAuto
import Derived.OrdersHeld
import Derived.StillTailTactics
import Derived.Laws.Bits64
import Derived.Maps.AppendAt
import Derived.Deep.AppendLies
import Derived.RegionTactic
import Derived.Test.YtcoelmhlkfignaaDoorMRe1
import Derived.Test.YtcoelmhlkfignaaDoorMRe2
/-
  The walk of the specification's RuleSafe.
-/
namespace Go.Proofs.YtcoelmhlkfignaaDoor
open Go.RowKit

def safeTo (a b k : Nat) : Bool := (List.range k).all fun i => !(a.testBit i && !b.testBit i)
theorem safe_bits : ∀ a b : Fin 16, (bits .andNot .u64 ((a.val : Nat) : Int) ((b.val : Nat) : Int) == 0) = safeTo a.val b.val 4 := by decide +kernel
theorem ruleSafe_eq (r : LRule) : ruleSafe r = safeTo (ruleMask r) (yesMask r.2) 4 := safe_bits ⟨ruleMask r, ruleMask_lt r⟩ ⟨yesMask r.2, yesMask_lt' r.2⟩
theorem safeTo_step {a b k : Nat} (h : safeTo a b k = true) (e : (a.testBit k && !b.testBit k) = false) : safeTo a b (k + 1) = true := by
  unfold safeTo at h ⊢
  rw [List.range_succ, List.all_append, h, Bool.true_and]
  simp only [List.all_cons, List.all_nil, e]
  rfl
theorem safeTo_not {a b k : Nat} (hk : k < 4) (e : (a.testBit k && !b.testBit k) = true) : safeTo a b 4 = false := by
  unfold safeTo
  rw [List.all_eq_false]
  exact ⟨k, List.mem_range.2 hk, by simp [e]⟩

set_option maxHeartbeats 1000000 in
set_option maxRecDepth 100000 in
theorem specRuleSafe_any (v : Value) (r : LRule) (w : World) (h : RdRule w w.heap.size v r) (hr : szR r ≤ 1048576) :
    Calls Tryd.prog 60 #[v] w fun e w' => e = .returned (.bool (ruleSafe r)) ∧ Below w.heap.size w w' := by
  have hmk := make4
  obtain ⟨a, b, rfl, h, h2⟩ := h
  have hsz := hr
  unfold szR at hr
  have H := Lib.hid h
  have H2 := Lib.hid h2
  obtain ⟨A, c, rfl, hc, _⟩ := h
  obtain ⟨A2, c2, rfl, hcc, _⟩ := h2
  go_enter Tryd.func60, Tryd.ntmps60
  go_wp2_with (fail)
  obtain ⟨w1, hw1⟩ : ∃ w1, w1 = w.alloc (Obj.cells #[Value.int IntKind.i64 r.1.1, Value.slice A r.1.2.length c, Value.slice A2 r.2.length c2] 78) := ⟨_, rfl⟩
  have B1 : Below w.heap.size w w1 := by rw [hw1]; exact below1 _ _
  have s1 : w1.heap.size = w.heap.size + 1 := by rw [hw1]; simp
  have x1 : Blk w1 w.heap.size 78 #[.int .i64 r.1.1, .slice A r.1.2.length c, .slice A2 r.2.length c2] := by rw [hw1]; exact Blk.new w _ _
  obtain ⟨w2, hw2⟩ : ∃ w2, w2 = w1.alloc (Obj.cells (madeCells #[Value.bool false] 4) 4) := ⟨_, rfl⟩
  have m2 : MkRow w2 (w.heap.size + 1) 0 := by rw [hw2, ← s1]; exact MkRow.made _
  have b2 : Below w1.heap.size w1 w2 := by rw [hw2]; exact below1 _ _
  have x2 := x1.below b2 x1.lt
  have B2 := bthen B1 b2
  have s2 : w2.heap.size = w.heap.size + 2 := by rw [hw2]; simp [s1]
  rw [← hw1, ← hw2]
  clear hw1 hw2
  go_loopw [4] (fun i wr => ∃ k : Nat, k ≤ r.2.length ∧ i = .int .i64 k ∧ MkRow wr (w.heap.size + 1) (yesMask (r.2.take k)) ∧ Only (w.heap.size + 1) (w.heap.size + 2) w2 wr) (fun i _ => r.2.length - (intOf i).toNat)
  case atStart => exact ⟨0, Nat.zero_le _, rfl, by simpa [yesMask] using m2, Only.refl _ _ _⟩
  case round =>
    obtain ⟨k, hk, rfl, hm, hon⟩ := hrel
    have BW : Below w.heap.size w wr := Only.then_ B2 hon (by omega)
    have xr := x2.only hon (.inl (by omega))
    have q0 : wr.cell? ⟨w.heap.size, 0, none⟩ = some (.int .i64 r.1.1) := xr.cell 0
    have q1 : wr.cell? ⟨w.heap.size, 1, none⟩ = some (.slice A r.1.2.length c) := xr.cell 1
    have q2 : wr.cell? ⟨w.heap.size, 2, none⟩ = some (.slice A2 r.2.length c2) := xr.cell 2
    by_cases hlt : k < r.2.length
    · obtain ⟨b, o, u0, u1, u2, rfl, hbB, k0, k1, k2, rfl, rfl, p3⟩ := (H2.out.below BW (Nat.le_refl _)).get hlt
      have HA := Lib.hid p3
      obtain ⟨A3, c3, rfl, hc3, _⟩ := p3
      have hle := len_le_totL r.2 k hlt
      have hty := yesMask_take hlt
      by_cases h0 : r.2[k].1 = 0
      · have hd : (r.2[k].1 == 0) = true := by simpa using h0
        rw [if_pos h0] at hty
        clear h0
        go_wp2_with (fail)
        refine (l2Mark_any (w.heap.size + 1) _ _ r.2[k].2.2 _ hm (HA.out.more (by omega)) (by omega)).mono ?_
        rintro e w4 ⟨rfl, m4, on4⟩
        rw [maskFrom_eq, ← hty] at m4
        clear hty
        go_wp2_with (fail)
        go_roundw
        case rel => exact ⟨k + 1, by omega, by go_num, m4, hon.trans on4⟩
        case measure => simp [intOf]; omega
      · have hd : (r.2[k].1 == 0) = false := by simpa using h0
        rw [if_neg h0] at hty
        rw [← hty] at hm
        have HM := Lib.hid hm
        clear hty hm h0
        go_wp2_with (fail)
        go_roundw
        case rel => exact ⟨k + 1, by omega, by go_num, HM.out, hon⟩
        case measure => simp [intOf]; omega
    · have HX := Lib.hid (show MkRow wr (w.heap.size + 1) (yesMask r.2) by rw [show k = r.2.length by omega, List.take_length] at hm; exact hm)
      have hgs := hm.lt
      clear hm
      go_wp2_with (fail)
      refine (l2Marks_any _ r _ ⟨_, _, rfl, H.out.on BW, H2.out.on BW⟩ hsz).mono ?_
      rintro e w5 ⟨g2, rfl, m5, hg2, hb5⟩
      have B5 := bthen BW hb5
      have y5 := HX.out.below hb5 hgs
      have HE := Lib.hid (ruleSafe_eq r)
      go_wp2_with (fail)
      go_loop [6] (fun i => ∃ k : Nat, k ≤ 4 ∧ i = .int .i64 k ∧ safeTo (ruleMask r) (yesMask r.2) k = true) (fun i => 4 - (intOf i).toNat)
      case atStart => exact ⟨0, Nat.zero_le _, rfl, by simp [safeTo]⟩
      case round =>
        obtain ⟨j, hj, rfl, hs⟩ := hrel
        by_cases hjl : j < 4
        · have c5 := m5.cell hjl
          have d5 := y5.cell hjl
          cases ha : (ruleMask r).testBit j
          · rw [ha] at c5
            have HS := Lib.hid (safeTo_step hs (by rw [ha]; rfl))
            clear hs ha
            go_wp2_with (fail)
            go_round
            case rel => exact ⟨j + 1, by omega, by go_num, HS.out⟩
            case measure => simp [intOf]; omega
          · rw [ha] at c5
            cases hb : (yesMask r.2).testBit j
            · rw [hb] at d5
              have HS := Lib.hid (safeTo_not hjl (show ((ruleMask r).testBit j && !(yesMask r.2).testBit j) = true by rw [ha, hb]; rfl))
              clear hs ha hb
              go_wp2_with (fail)
              go_ret
              exact ⟨ret_bool (by rw [HE.out, HS.out]), B5⟩
            · rw [hb] at d5
              have HS := Lib.hid (safeTo_step hs (by rw [ha, hb]; rfl))
              clear hs ha hb
              go_wp2_with (fail)
              go_round
              case rel => exact ⟨j + 1, by omega, by go_num, HS.out⟩
              case measure => simp [intOf]; omega
        · have HS := Lib.hid (show safeTo (ruleMask r) (yesMask r.2) 4 = true by rw [show j = 4 by omega] at hs; exact hs)
          clear hs
          go_wp2_with (fail)
          go_ret
          exact ⟨ret_bool (by rw [HE.out, HS.out]), B5⟩

end Go.Proofs.YtcoelmhlkfignaaDoor
/-
  ruleVars.
-/
namespace Go.Proofs.YtcoelmhlkfignaaDoor
open Go.RowKit

set_option maxHeartbeats 400000 in
theorem ruleVars_any (v : Value) (r : LRule) (w : World) (h : RdRule w w.heap.size v r) (hr : szR r ≤ 1048576) :
    Calls Tryd.prog 84 #[v] w fun e w' => e = .returned (.int .u64 (ruleMask r : Nat)) ∧ Below w.heap.size w w' := by
  obtain ⟨a, b, rfl, h, h2⟩ := h
  unfold szR at hr
  have HW := Lib.hid (show bits .or .u64 ((maskOf r.1.2 : Nat) : Int) ((bodyMask r.2 : Nat) : Int) = (ruleMask r : Nat) from or_word (maskOf_lt _) (bodyMask_lt' _))
  obtain ⟨w1, hw1⟩ : ∃ w1, w1 = w.alloc (Obj.cells #[Value.int IntKind.i64 r.1.1, a, b] 78) := ⟨_, rfl⟩
  have B1 : Below w.heap.size w w1 := by rw [hw1]; exact below1 _ _
  have C1 := Lib.hid (fun x : Later w1 => later_same (argVars_any a r.1.2 _ x.val ((h.on B1).on x.2) (by omega)))
  have C2 := Lib.hid (fun x : Later w1 => later_of (bodyVars_any b r.2 x.val ((h2.on B1).on x.2) (by omega) (by omega)))
  obtain ⟨A, c, rfl, hc, _⟩ := h
  obtain ⟨A2, c2, rfl, hc2, _⟩ := h2
  have x1 : Blk w1 w.heap.size 78 #[.int .i64 r.1.1, .slice A r.1.2.length c, .slice A2 r.2.length c2] := by rw [hw1]; exact Blk.new w _ _
  have M1 := later_cell (x1.cell 1 : w1.cell? ⟨w.heap.size, 1, none⟩ = some (.slice A r.1.2.length c))
  have M2 := later_cell (x1.cell 2 : w1.cell? ⟨w.heap.size, 2, none⟩ = some (.slice A2 r.2.length c2))
  go_enter Tryd.func84, Tryd.ntmps84
  go_wp2_with (fail)
  rw [← hw1]
  clear hw1
  refine wp_region_later (by kernel_rfl) (by kernel_rfl) ?_
  repeat (go_big_quiet_step (first | (go_at_call 87; exact C1.out _) | (go_at_call 88; exact C2.out _)))
  refine wpQuiet_nil ?_
  rintro _ ⟨xq, rfl⟩
  go_wp2_with (fail)
  go_ret
  exact ⟨ret_int HW.out, bthen B1 xq.2⟩

end Go.Proofs.YtcoelmhlkfignaaDoor
/-
  The program's RuleSafe.
-/
namespace Go.Proofs.YtcoelmhlkfignaaDoor
open Go.RowKit

set_option maxHeartbeats 400000 in
theorem implRuleSafe_any (v : Value) (r : LRule) (w : World) (h : RdRule w w.heap.size v r) (hr : szR r ≤ 1048576) :
    Calls Tryd.prog 81 #[v] w fun e w' => e = .returned (.bool (ruleSafe r)) ∧ Below w.heap.size w w' := by
  obtain ⟨a, b, rfl, h, h2⟩ := h
  obtain ⟨w1, hw1⟩ : ∃ w1, w1 = w.alloc (Obj.cells #[Value.int IntKind.i64 r.1.1, a, b] 78) := ⟨_, rfl⟩
  have B1 : Below w.heap.size w w1 := by rw [hw1]; exact below1 _ _
  have C1 := Lib.hid (fun x : Later w1 => later_of (ruleVars_any _ r x.val ⟨a, b, rfl, (h.on B1).on x.2, (h2.on B1).on x.2⟩ hr))
  have C2 := Lib.hid (fun x : Later w1 => later_of (yesVars_any b r.2 x.val ((h2.on B1).on x.2) (by unfold szR at hr; omega) (by unfold szR at hr; omega)))
  obtain ⟨A, c, rfl, hc, _⟩ := h
  obtain ⟨A2, c2, rfl, hc2, _⟩ := h2
  have x1 : Blk w1 w.heap.size 78 #[.int .i64 r.1.1, .slice A r.1.2.length c, .slice A2 r.2.length c2] := by rw [hw1]; exact Blk.new w _ _
  have M0 := later_cell (x1.cell 0 : w1.cell? ⟨w.heap.size, 0, none⟩ = some (.int .i64 r.1.1))
  have M1 := later_cell (x1.cell 1 : w1.cell? ⟨w.heap.size, 1, none⟩ = some (.slice A r.1.2.length c))
  have M2 := later_cell (x1.cell 2 : w1.cell? ⟨w.heap.size, 2, none⟩ = some (.slice A2 r.2.length c2))
  go_enter Tryd.func81, Tryd.ntmps81
  go_wp2_with (fail)
  rw [← hw1]
  clear hw1
  refine wp_region_later (by kernel_rfl) (by kernel_rfl) ?_
  repeat (go_big_quiet_step (first | (go_at_call 84; exact C1.out _) | (go_at_call 85; exact C2.out _)))
  refine wpQuiet_nil ?_
  rintro _ ⟨xq, rfl⟩
  go_wp2_with (fail)
  go_ret
  exact ⟨rfl, bthen B1 xq.2⟩

end Go.Proofs.YtcoelmhlkfignaaDoor
/-
  The walks of ruleFits and of both RuleOk.
-/
namespace Go.Proofs.YtcoelmhlkfignaaDoor
open Go.RowKit

def ruleFits (ar : List Int) (r : LRule) : Bool := atomFits ar r.1 && (decide (r.2.length ≤ 4) && (r.2.all (litFits ar) && ruleSafe r))
def ruleOk (ar : List Int) (r : LRule) : Bool := arityOk ar && ruleFits ar r

set_option maxHeartbeats 1000000 in
set_option maxRecDepth 100000 in
theorem ruleFits_any (v v2 : Value) (ar : List Int) (r : LRule) (w : World) (h : RdInts w w.heap.size v ar) (h2 : RdRule w w.heap.size v2 r) (hs : szR r ≤ 1048576) :
    Calls Tryd.prog 65 #[v, v2] w fun e w' => e = .returned (.bool (ruleFits ar r)) ∧ Below w.heap.size w w' := by
  have H := Lib.hid h
  have HR := Lib.hid h2
  have hsz := hs
  unfold szR at hs
  obtain ⟨A, c, rfl, hc, _⟩ := h
  obtain ⟨a, b, rfl, h2, h3⟩ := h2
  have H2 := Lib.hid h2
  have H3 := Lib.hid h3
  obtain ⟨A2, c2, rfl, hc2, _⟩ := h2
  obtain ⟨A3, c3, rfl, hc3, _⟩ := h3
  go_enter Tryd.func65, Tryd.ntmps65
  go_wp2_with (fail)
  refine (atomFits_any _ _ ar r.1 _ (H.out.on (below1 _ _)) ⟨_, rfl, H2.out.on (below1 _ _)⟩ (by omega)).mono ?_
  rintro e w2 ⟨rfl, hb2⟩
  have B2 := bthen (below1 _ _) hb2
  have x2 : Blk w2 w.heap.size 78 #[.int .i64 r.1.1, .slice A2 r.1.2.length c2, .slice A3 r.2.length c3] := (Blk.new w _ _).below hb2 (by simp)
  have q2 : w2.cell? ⟨w.heap.size, 2, none⟩ = some (.slice A3 r.2.length c3) := x2.cell 2
  by_cases hf : atomFits ar r.1 = true
  · rw [hf]
    have HF := Lib.hid hf
    clear hf hb2
    by_cases hl : r.2.length ≤ 4
    · have hd : decide ((4 : Int) < (r.2.length : Int)) = false := by simp; omega
      have HL := Lib.hid (show ruleFits ar r = (r.2.all (litFits ar) && ruleSafe r) by simp [ruleFits, HF.out, hl])
      go_wp2_with (fail)
      go_loopw [6, 21] (fun _ i wr => ∃ k : Nat, k ≤ r.2.length ∧ i = .int .i64 k ∧ AllTo (litFits ar) r.2 k ∧ Below w2.heap.size w2 wr) (fun _ i _ => r.2.length - (intOf i).toNat)
      case atStart => exact ⟨0, Nat.zero_le _, rfl, AllTo.start, Below.refl _ _⟩
      case round =>
        obtain ⟨k, hk, rfl, hs, hbe⟩ := hrel
        have BW := bthen B2 hbe
        have xr := x2.below hbe x2.lt
        have p0 : wr.cell? ⟨w.heap.size, 0, none⟩ = some (.int .i64 r.1.1) := xr.cell 0
        have p1 : wr.cell? ⟨w.heap.size, 1, none⟩ = some (.slice A2 r.1.2.length c2) := xr.cell 1
        have p2 : wr.cell? ⟨w.heap.size, 2, none⟩ = some (.slice A3 r.2.length c3) := xr.cell 2
        clear q2
        by_cases hlt : k < r.2.length
        · obtain ⟨b, o, u0, u1, u2, rfl, hbB, k0, k1, k2, rfl, rfl, p3⟩ := (H3.out.on BW).get hlt
          have HA := Lib.hid p3
          obtain ⟨A4, c4, rfl, hc4, _⟩ := p3
          have hle := len_le_totL r.2 k hlt
          go_wp2_with (fail)
          refine (litFits_any _ _ ar r.2[k] _ ((H.out.on BW).on (below1 _ _)) ⟨_, rfl, HA.out.on (below1 _ _)⟩ (by omega)).mono ?_
          rintro e w4 ⟨rfl, hb4⟩
          have B4 := bthen hbe (bthen (below1 _ _) hb4)
          by_cases he : litFits ar r.2[k] = true
          · rw [he]
            have HS := Lib.hid (hs.step hlt he)
            clear hs he
            go_wp2_with (fail)
            go_roundw
            case rel => exact ⟨k + 1, by omega, by go_num, HS.out, B4⟩
            case measure => simp [intOf]; omega
          · have he' : litFits ar r.2[k] = false := by simpa using he
            rw [he']
            have HE := Lib.hid (show ruleFits ar r = false by rw [HL.out, all_not hlt he']; rfl)
            clear hs he he'
            go_wp2_with (fail)
            go_ret
            exact ⟨ret_bool HE.out.symm, bthen B2 B4⟩
        · have HE := Lib.hid (show ruleFits ar r = ruleSafe r by rw [HL.out, hs.done (by omega), Bool.true_and])
          clear hs
          go_wp2_with (fail)
          refine (implRuleSafe_any _ r _ (HR.out.on BW) hsz).mono ?_
          rintro e w5 ⟨rfl, hb5⟩
          go_wp2_with (fail)
          go_ret
          exact ⟨ret_bool HE.out.symm, bthen BW hb5⟩
    · have hd : decide ((4 : Int) < (r.2.length : Int)) = true := by simp; omega
      have HE := Lib.hid (show ruleFits ar r = false by simp [ruleFits, hl])
      go_wp2_with (fail)
      go_ret
      exact ⟨ret_bool HE.out.symm, B2⟩
  · have hf' : atomFits ar r.1 = false := by simpa using hf
    rw [hf']
    have HE := Lib.hid (show ruleFits ar r = false by simp [ruleFits, hf'])
    clear hf hf'
    go_wp2_with (fail)
    go_ret
    exact ⟨ret_bool HE.out.symm, B2⟩

theorem ruleOk_spec (ar : List Int) (r : LRule) : ruleOk ar r = (r.2.all (litOk ar) && (atomOk ar r.1 && (decide (r.2.length ≤ 4) && ruleSafe r))) := by
  unfold ruleOk ruleFits atomOk
  by_cases ha : arityOk ar = true
  · have : r.2.all (litOk ar) = r.2.all (litFits ar) := by
      congr 1
      funext l
      unfold litOk
      rw [ha, Bool.true_and]
    rw [this, ha]
    cases atomFits ar r.1 <;> cases r.2.all (litFits ar) <;> cases decide (r.2.length ≤ 4) <;> rfl
  · have ha' : arityOk ar = false := by simpa using ha
    rw [ha']
    simp

set_option maxHeartbeats 1000000 in
set_option maxRecDepth 100000 in
theorem specRuleOk_any (v v2 : Value) (ar : List Int) (r : LRule) (w : World) (h : RdInts w w.heap.size v ar) (h2 : RdRule w w.heap.size v2 r) (hr : ar.length ≤ 1048576) (hs : szR r ≤ 1048576) :
    Calls Tryd.prog 43 #[v, v2] w fun e w' => e = .returned (.bool (ruleOk ar r)) ∧ Below w.heap.size w w' := by
  have H := Lib.hid h
  have HR := Lib.hid h2
  have hsz := hs
  unfold szR at hs
  have HP := Lib.hid (ruleOk_spec ar r)
  obtain ⟨A, c, rfl, hc, _⟩ := h
  obtain ⟨a, b, rfl, h2, h3⟩ := h2
  have H2 := Lib.hid h2
  have H3 := Lib.hid h3
  obtain ⟨A2, c2, rfl, hc2, _⟩ := h2
  obtain ⟨A3, c3, rfl, hc3, _⟩ := h3
  go_enter Tryd.func43, Tryd.ntmps43
  go_wp2_with (fail)
  obtain ⟨w2, hw2⟩ : ∃ w2, w2 = w.alloc (Obj.cells #[Value.int IntKind.i64 r.1.1, Value.slice A2 r.1.2.length c2, Value.slice A3 r.2.length c3] 78) := ⟨_, rfl⟩
  have B2 : Below w.heap.size w w2 := by rw [hw2]; exact below1 _ _
  have x2 : Blk w2 w.heap.size 78 #[.int .i64 r.1.1, .slice A2 r.1.2.length c2, .slice A3 r.2.length c3] := by rw [hw2]; exact Blk.new _ _ _
  rw [← hw2]
  clear hw2
  go_loopw [5] (fun i wr => ∃ k : Nat, k ≤ r.2.length ∧ i = .int .i64 k ∧ AllTo (litOk ar) r.2 k ∧ Below w2.heap.size w2 wr) (fun i _ => r.2.length - (intOf i).toNat)
  case atStart => exact ⟨0, Nat.zero_le _, rfl, AllTo.start, Below.refl _ _⟩
  case round =>
    obtain ⟨k, hk, rfl, hs, hbe⟩ := hrel
    have BW := bthen B2 hbe
    have xr := x2.below hbe x2.lt
    have p0 : wr.cell? ⟨w.heap.size, 0, none⟩ = some (.int .i64 r.1.1) := xr.cell 0
    have p1 : wr.cell? ⟨w.heap.size, 1, none⟩ = some (.slice A2 r.1.2.length c2) := xr.cell 1
    have p2 : wr.cell? ⟨w.heap.size, 2, none⟩ = some (.slice A3 r.2.length c3) := xr.cell 2
    by_cases hlt : k < r.2.length
    · obtain ⟨b, o, u0, u1, u2, rfl, hbB, k0, k1, k2, rfl, rfl, p3⟩ := (H3.out.on BW).get hlt
      have HA := Lib.hid p3
      obtain ⟨A4, c4, rfl, hc4, _⟩ := p3
      have hle := len_le_totL r.2 k hlt
      go_wp2_with (fail)
      refine (specLitOk_any _ _ ar r.2[k] _ (H.out.on BW) ⟨_, rfl, HA.out⟩ hr (by omega)).mono ?_
      rintro e w4 ⟨rfl, hb4⟩
      have B4 := bthen hbe hb4
      by_cases he : litOk ar r.2[k] = true
      · rw [he]
        have HS := Lib.hid (hs.step hlt he)
        clear hs he
        go_wp2_with (fail)
        go_roundw
        case rel => exact ⟨k + 1, by omega, by go_num, HS.out, B4⟩
        case measure => simp [intOf]; omega
      · have he' : litOk ar r.2[k] = false := by simpa using he
        rw [he']
        have HE := Lib.hid (show ruleOk ar r = false by rw [HP.out, all_not hlt he']; rfl)
        clear hs he he'
        go_wp2_with (fail)
        go_ret
        exact ⟨ret_bool HE.out.symm, bthen B2 B4⟩
    · have HE := Lib.hid (show ruleOk ar r = (atomOk ar r.1 && (decide (r.2.length ≤ 4) && ruleSafe r)) by rw [HP.out, hs.done (by omega), Bool.true_and])
      clear hs
      go_wp2_with (fail)
      refine (specAtomOk_any _ _ ar r.1 _ (H.out.on BW) ⟨_, rfl, H2.out.on BW⟩ hr (by omega)).mono ?_
      rintro e w5 ⟨rfl, hb5⟩
      have B5 := bthen BW hb5
      have x5 := xr.below hb5 xr.lt
      have p0 : w5.cell? ⟨w.heap.size, 0, none⟩ = some (.int .i64 r.1.1) := x5.cell 0
      have p1 : w5.cell? ⟨w.heap.size, 1, none⟩ = some (.slice A2 r.1.2.length c2) := x5.cell 1
      have p2 : w5.cell? ⟨w.heap.size, 2, none⟩ = some (.slice A3 r.2.length c3) := x5.cell 2
      by_cases hf : atomOk ar r.1 = true
      · rw [hf]
        by_cases hl : r.2.length ≤ 4
        · have hd : decide ((r.2.length : Int) ≤ 4) = true := by simp; omega
          have HE2 := Lib.hid (show ruleOk ar r = ruleSafe r by rw [HE.out, hf]; simp [hl])
          clear hf
          go_wp2_with (fail)
          refine (specRuleSafe_any _ r _ (HR.out.on B5) hsz).mono ?_
          rintro e w6 ⟨rfl, hb6⟩
          go_wp2_with (fail)
          go_ret
          exact ⟨ret_bool HE2.out.symm, bthen B5 hb6⟩
        · have hd : decide ((r.2.length : Int) ≤ 4) = false := by simp; omega
          have HE2 := Lib.hid (show ruleOk ar r = false by rw [HE.out]; simp [hl])
          clear hf
          go_wp2_with (fail)
          go_ret
          exact ⟨ret_bool HE2.out.symm, B5⟩
      · have hf' : atomOk ar r.1 = false := by simpa using hf
        rw [hf']
        have HE2 := Lib.hid (show ruleOk ar r = false by rw [HE.out, hf']; rfl)
        clear hf hf'
        go_wp2_with (fail)
        go_ret
        exact ⟨ret_bool HE2.out.symm, B5⟩

end Go.Proofs.YtcoelmhlkfignaaDoor
/-
  The walks of both ProgramOk, of l2Has, and of both Positive.
-/
namespace Go.Proofs.YtcoelmhlkfignaaDoor
open Go.RowKit

def progOk (p : LProg) : Bool := arityOk p.1 && (decide (p.2.length ≤ 60) && p.2.all (ruleFits p.1))
theorem progOk_spec (p : LProg) : progOk p = (p.2.all (ruleOk p.1) && (arityOk p.1 && decide (p.2.length ≤ 60))) := by
  unfold progOk
  by_cases ha : arityOk p.1 = true
  · have : p.2.all (ruleOk p.1) = p.2.all (ruleFits p.1) := by
      congr 1
      funext r
      unfold ruleOk
      rw [ha, Bool.true_and]
    rw [this, ha]
    cases p.2.all (ruleFits p.1) <;> cases decide (p.2.length ≤ 60) <;> rfl
  · have ha' : arityOk p.1 = false := by simpa using ha
    rw [ha']
    simp

set_option maxHeartbeats 1000000 in
set_option maxRecDepth 100000 in
theorem implProgramOk_any (v : Value) (p : LProg) (w : World) (h : RdProg w w.heap.size v p) (hs : szP p ≤ 1048576) :
    Calls Tryd.prog 47 #[v] w fun e w' => e = .returned (.bool (progOk p)) ∧ Below w.heap.size w w' := by
  unfold szP at hs
  obtain ⟨a, b, rfl, h, h2⟩ := h
  have H := Lib.hid h
  have H2 := Lib.hid h2
  obtain ⟨A, c, rfl, hc, _⟩ := h
  obtain ⟨A2, c2, rfl, hc2, _⟩ := h2
  go_enter Tryd.func47, Tryd.ntmps47
  go_wp2_with (fail)
  refine (arityOk_any _ p.1 _ (H.out.on (below1 _ _)) (by omega)).mono ?_
  rintro e w2 ⟨rfl, hb2⟩
  have B2 := bthen (below1 _ _) hb2
  have x2 : Blk w2 w.heap.size 31 #[.slice A p.1.length c, .slice A2 p.2.length c2] := (Blk.new w _ _).below hb2 (by simp)
  have q1 : w2.cell? ⟨w.heap.size, 1, none⟩ = some (.slice A2 p.2.length c2) := x2.cell 1
  by_cases hf : arityOk p.1 = true
  · rw [hf]
    have HF := Lib.hid hf
    clear hf hb2
    by_cases hl : p.2.length ≤ 60
    · have hd : decide ((60 : Int) < (p.2.length : Int)) = false := by simp; omega
      have HL := Lib.hid (show progOk p = p.2.all (ruleFits p.1) by simp [progOk, HF.out, hl])
      go_wp2_with (fail)
      go_loopw [18] (fun i wr => ∃ k : Nat, k ≤ p.2.length ∧ i = .int .i64 k ∧ AllTo (ruleFits p.1) p.2 k ∧ Below w2.heap.size w2 wr) (fun i _ => p.2.length - (intOf i).toNat)
      case atStart => exact ⟨0, Nat.zero_le _, rfl, AllTo.start, Below.refl _ _⟩
      case round =>
        obtain ⟨k, hk, rfl, hs, hbe⟩ := hrel
        have BW := bthen B2 hbe
        have xr := x2.below hbe x2.lt
        clear q1
        by_cases hlt : k < p.2.length
        · obtain ⟨b, o, u0, u1, u2, rfl, hbB, k0, k1, k2, rfl, p3, p4⟩ := (H2.out.on BW).get hlt
          have HA := Lib.hid p3
          have HB := Lib.hid p4
          obtain ⟨A4, c4, rfl, hc4, _⟩ := p3
          obtain ⟨A5, c5, rfl, hc5, _⟩ := p4
          have hle := sz_le_totR p.2 k hlt
          have q0 : ∀ O, (wr.alloc O).cell? ⟨w.heap.size, 0, none⟩ = some (.slice A p.1.length c) := fun O => (xr.alloc O).cell 0
          go_wp2_with (fail)
          refine (ruleFits_any _ _ p.1 p.2[k] _ ((H.out.on BW).on (below1 _ _)) ⟨_, _, rfl, HA.out.on (below1 _ _), HB.out.on (below1 _ _)⟩ (by omega)).mono ?_
          rintro e w4 ⟨rfl, hb4⟩
          have B4 := bthen hbe (bthen (below1 _ _) hb4)
          by_cases he : ruleFits p.1 p.2[k] = true
          · rw [he]
            have HS := Lib.hid (hs.step hlt he)
            clear hs he
            go_wp2_with (fail)
            go_roundw
            case rel => exact ⟨k + 1, by omega, by go_num, HS.out, B4⟩
            case measure => simp [intOf]; omega
          · have he' : ruleFits p.1 p.2[k] = false := by simpa using he
            rw [he']
            have HE := Lib.hid (show progOk p = false by rw [HL.out, all_not hlt he'])
            clear hs he he'
            go_wp2_with (fail)
            go_ret
            exact ⟨ret_bool HE.out.symm, bthen B2 B4⟩
        · have HE := Lib.hid (show progOk p = true by rw [HL.out, hs.done (by omega)])
          clear hs
          go_wp2_with (fail)
          go_ret
          exact ⟨ret_bool HE.out.symm, BW⟩
    · have hd : decide ((60 : Int) < (p.2.length : Int)) = true := by simp; omega
      have HE := Lib.hid (show progOk p = false by simp [progOk, hl])
      go_wp2_with (fail)
      go_ret
      exact ⟨ret_bool HE.out.symm, B2⟩
  · have hf' : arityOk p.1 = false := by simpa using hf
    rw [hf']
    have HE := Lib.hid (show progOk p = false by simp [progOk, hf'])
    clear hf hf'
    go_wp2_with (fail)
    go_ret
    exact ⟨ret_bool HE.out.symm, B2⟩

set_option maxHeartbeats 1000000 in
set_option maxRecDepth 100000 in
theorem specProgramOk_any (v : Value) (p : LProg) (w : World) (h : RdProg w w.heap.size v p) (hs : szP p ≤ 1048576) :
    Calls Tryd.prog 27 #[v] w fun e w' => e = .returned (.bool (progOk p)) ∧ Below w.heap.size w w' := by
  unfold szP at hs
  obtain ⟨a, b, rfl, h, h2⟩ := h
  have H := Lib.hid h
  have H2 := Lib.hid h2
  have HP := Lib.hid (progOk_spec p)
  obtain ⟨A, c, rfl, hc, _⟩ := h
  obtain ⟨A2, c2, rfl, hc2, _⟩ := h2
  go_enter Tryd.func27, Tryd.ntmps27
  go_wp2_with (fail)
  obtain ⟨w2, hw2⟩ : ∃ w2, w2 = w.alloc (Obj.cells #[Value.slice A p.1.length c, Value.slice A2 p.2.length c2] 31) := ⟨_, rfl⟩
  have B2 : Below w.heap.size w w2 := by rw [hw2]; exact below1 _ _
  have x2 : Blk w2 w.heap.size 31 #[.slice A p.1.length c, .slice A2 p.2.length c2] := by rw [hw2]; exact Blk.new _ _ _
  rw [← hw2]
  clear hw2
  go_loopw [3] (fun i wr => ∃ k : Nat, k ≤ p.2.length ∧ i = .int .i64 k ∧ AllTo (ruleOk p.1) p.2 k ∧ Below w2.heap.size w2 wr) (fun i _ => p.2.length - (intOf i).toNat)
  case atStart => exact ⟨0, Nat.zero_le _, rfl, AllTo.start, Below.refl _ _⟩
  case round =>
    obtain ⟨k, hk, rfl, hs, hbe⟩ := hrel
    have BW := bthen B2 hbe
    have xr := x2.below hbe x2.lt
    have q0 : wr.cell? ⟨w.heap.size, 0, none⟩ = some (.slice A p.1.length c) := xr.cell 0
    have q1 : wr.cell? ⟨w.heap.size, 1, none⟩ = some (.slice A2 p.2.length c2) := xr.cell 1
    by_cases hlt : k < p.2.length
    · obtain ⟨b, o, u0, u1, u2, rfl, hbB, k0, k1, k2, rfl, p3, p4⟩ := (H2.out.on BW).get hlt
      have HA := Lib.hid p3
      have HB := Lib.hid p4
      obtain ⟨A4, c4, rfl, hc4, _⟩ := p3
      obtain ⟨A5, c5, rfl, hc5, _⟩ := p4
      have hle := sz_le_totR p.2 k hlt
      have L0 := later_cell k0
      have L1 := later_cell k1
      have L2 := later_cell k2
      have L3 := later_cell q0
      have L4 := later_cell q1
      by_cases he : ruleOk p.1 p.2[k] = true
      · have CF := Lib.hid (fun x : Later wr => (specRuleOk_any (.slice A p.1.length c) (.agg #[.int .i64 p.2[k].1.1, .slice A4 p.2[k].1.2.length c4, .slice A5 p.2[k].2.length c5]) p.1 p.2[k] x.val ((H.out.on BW).on x.2) ⟨_, _, rfl, HA.out.on x.2, HB.out.on x.2⟩ (by omega) (by omega)).mono fun e w' (hh : e = .returned (.bool (ruleOk p.1 p.2[k])) ∧ Below x.val.heap.size x.val w') => (⟨by rw [hh.1, he], hh.2⟩ : e = .returned (.bool true) ∧ Below x.val.heap.size x.val w'))
        have HS := Lib.hid (hs.step hlt he)
        clear hs he
        go_wp2_with (fail)
        clear k0 k1 k2 q0 q1
        refine wp_region_later (by kernel_rfl) (by kernel_rfl) ?_
        repeat (go_big_quiet_step ((go_at_call 43; exact later_of (CF.out _))))
        refine wpQuiet_nil ?_
        rintro _ ⟨xq, rfl⟩
        go_wp2_with (fail)
        go_roundw
        case rel => exact ⟨k + 1, by omega, by go_num, HS.out, bthen hbe xq.2⟩
        case measure => simp [intOf]; omega
      · have he' : ruleOk p.1 p.2[k] = false := by simpa using he
        have CF := Lib.hid (fun x : Later wr => (specRuleOk_any (.slice A p.1.length c) (.agg #[.int .i64 p.2[k].1.1, .slice A4 p.2[k].1.2.length c4, .slice A5 p.2[k].2.length c5]) p.1 p.2[k] x.val ((H.out.on BW).on x.2) ⟨_, _, rfl, HA.out.on x.2, HB.out.on x.2⟩ (by omega) (by omega)).mono fun e w' (hh : e = .returned (.bool (ruleOk p.1 p.2[k])) ∧ Below x.val.heap.size x.val w') => (⟨by rw [hh.1, he'], hh.2⟩ : e = .returned (.bool false) ∧ Below x.val.heap.size x.val w'))
        have HE := Lib.hid (show progOk p = false by rw [HP.out, all_not hlt he']; rfl)
        clear hs he he'
        go_wp2_with (fail)
        clear k0 k1 k2 q0 q1
        refine wp_region_later (by kernel_rfl) (by kernel_rfl) ?_
        repeat (go_big_quiet_step ((go_at_call 43; exact later_of (CF.out _))))
        refine wpQuiet_nil ?_
        rintro _ ⟨xq, rfl⟩
        go_wp2_with (fail)
        go_ret
        exact ⟨ret_bool HE.out.symm, bthen BW xq.2⟩
    · have HE := Lib.hid (show progOk p = (arityOk p.1 && decide (p.2.length ≤ 60)) by rw [HP.out, hs.done (by omega), Bool.true_and])
      clear hs
      go_wp2_with (fail)
      refine (specArityOk_any _ p.1 _ (H.out.on BW) (by omega)).mono ?_
      rintro e w' ⟨rfl, rfl⟩
      by_cases hf : arityOk p.1 = true
      · rw [hf]
        by_cases hl : p.2.length ≤ 60
        · have hd : decide ((p.2.length : Int) ≤ 60) = true := by simp; omega
          have HE2 := Lib.hid (show progOk p = true by rw [HE.out, hf]; simp [hl])
          clear hf
          go_wp2_with (fail)
          go_ret
          exact ⟨ret_bool (by rw [HE2.out]), BW⟩
        · have hd : decide ((p.2.length : Int) ≤ 60) = false := by simp; omega
          have HE2 := Lib.hid (show progOk p = false by rw [HE.out]; simp [hl])
          clear hf
          go_wp2_with (fail)
          go_ret
          exact ⟨ret_bool (by rw [HE2.out]), BW⟩
      · have hf' : arityOk p.1 = false := by simpa using hf
        rw [hf']
        have HE2 := Lib.hid (show progOk p = false by rw [HE.out, hf']; rfl)
        clear hf hf'
        go_wp2_with (fail)
        go_ret
        exact ⟨ret_bool HE2.out.symm, BW⟩

end Go.Proofs.YtcoelmhlkfignaaDoor
/-
  Who asks whom: plain mathematics.
-/
namespace Go.Proofs.YtcoelmhlkfignaaDoor
open Go.RowKit

/-- A head's predicate, and a literal that it stands above. -/
abbrev LAsk := Int × LLit
def asksOf (rs : List LRule) : List LAsk := rs.flatMap fun r => r.2.map fun l => (r.1.1, l)
def asked (kd : Int) (ps : List LAsk) (i k : Nat) : Bool := ps.any fun x => decide (x.1 = (i : Int) ∧ x.2.1 = kd ∧ x.2.2.1 = (k : Int))
theorem asked_snoc (kd : Int) (ps : List LAsk) (x : LAsk) (i k : Nat) : asked kd (ps ++ [x]) i k = (asked kd ps i k || decide (x.1 = (i : Int) ∧ x.2.1 = kd ∧ x.2.2.1 = (k : Int))) := by simp [asked]
/-- Within n predicates. -/
def AskFits (n : Nat) (x : LAsk) : Prop := (0 ≤ x.1 ∧ x.1 < n) ∧ (x.2.1 = 0 ∨ x.2.1 = 1 → 0 ≤ x.2.2.1 ∧ x.2.2.1 < n)
def askMask (kd : Int) (ps : List LAsk) (i : Nat) : Nat := ps.foldl (fun m x => if x.1 = (i : Int) ∧ x.2.1 = kd then m ||| 2 ^ x.2.2.1.toNat else m) 0
theorem askMask_snoc (kd : Int) (ps : List LAsk) (x : LAsk) (i : Nat) : askMask kd (ps ++ [x]) i = if x.1 = (i : Int) ∧ x.2.1 = kd then askMask kd ps i ||| 2 ^ x.2.2.1.toNat else askMask kd ps i := by simp [askMask]
theorem has_mask_from {n : Nat} {kd : Int} (hk : kd = 0 ∨ kd = 1) (i k : Nat) : ∀ (ps : List LAsk) (m : Nat), (∀ x ∈ ps, AskFits n x) → (has (ps.foldl (fun m x => if x.1 = (i : Int) ∧ x.2.1 = kd then m ||| 2 ^ x.2.2.1.toNat else m) m) k ↔ has m k ∨ asked kd ps i k = true)
  | [], m, _ => by simp [asked]
  | x :: ps, m, h => by
    have h2 := (h x (List.mem_cons_self ..)).2
    have ea : asked kd (x :: ps) i k = (decide (x.1 = (i : Int) ∧ x.2.1 = kd ∧ x.2.2.1 = (k : Int)) || asked kd ps i k) := rfl
    rw [List.foldl_cons, has_mask_from hk i k ps _ fun y hy => h y (List.mem_cons_of_mem _ hy), ea, Bool.or_eq_true, decide_eq_true_eq]
    by_cases e : x.1 = (i : Int) ∧ x.2.1 = kd
    · rw [if_pos e, has_or, has_pow]
      have h3 := h2 (by rcases hk with rfl | rfl <;> simp [e.2])
      constructor
      · rintro ((h | h) | h)
        · exact .inl h
        · exact .inr (.inl ⟨e.1, e.2, by omega⟩)
        · exact .inr (.inr h)
      · rintro (h | h | h)
        · exact .inl (.inl h)
        · exact .inl (.inr (by omega))
        · exact .inr h
    · rw [if_neg e]
      constructor
      · rintro (h | h)
        · exact .inl h
        · exact .inr (.inr h)
      · rintro (h | h | h)
        · exact .inl h
        · exact absurd ⟨h.1, h.2.1⟩ e
        · exact .inr h
theorem has_mask {n : Nat} {kd : Int} (hk : kd = 0 ∨ kd = 1) (i k : Nat) (ps : List LAsk) (h : ∀ x ∈ ps, AskFits n x) : has (askMask kd ps i) k ↔ asked kd ps i k = true := by
  unfold askMask
  rw [has_mask_from hk i k ps 0 h]
  simp [has]
theorem asked_lt {n : Nat} {kd : Int} (hk : kd = 0 ∨ kd = 1) {i k : Nat} {ps : List LAsk} (h : ∀ x ∈ ps, AskFits n x) (ha : asked kd ps i k = true) : i < n ∧ k < n := by
  unfold asked at ha
  rw [List.any_eq_true] at ha
  obtain ⟨x, hx, e⟩ := ha
  rw [decide_eq_true_eq] at e
  have h1 := h x hx
  have h2 := h1.2 (by rcases hk with rfl | rfl <;> simp [e.2.1])
  have := h1.1
  omega
theorem word_of_bits {x n : Nat} (h : ∀ k, has x k → k < n) : x < 2 ^ n := by
  apply Nat.lt_pow_two_of_testBit
  intro i hi
  have := h i
  unfold has at this
  cases e : x.testBit i
  · rfl
  · have := this e
    omega
theorem askMask_lt {n : Nat} {kd : Int} (hn : n ≤ 24) (hk : kd = 0 ∨ kd = 1) {i : Nat} {ps : List LAsk} (h : ∀ x ∈ ps, AskFits n x) : askMask kd ps i < 16777216 := by
  have h1 := word_of_bits (x := askMask kd ps i) (n := n) fun k hx => (asked_lt hk h ((has_mask hk i k ps h).1 hx)).2
  exact Nat.lt_of_lt_of_le h1 (Nat.pow_le_pow_right (by decide) hn)
def askWords (kd : Int) (ps : List LAsk) : List Nat := (List.range 24).map (askMask kd ps)
theorem askWords_len (kd : Int) (ps : List LAsk) : (askWords kd ps).length = 24 := by simp [askWords]
theorem askWords_at {kd : Int} {ps : List LAsk} {i : Nat} (h : i < 24) : (askWords kd ps).getD i 0 = askMask kd ps i := by simp [askWords, h]
theorem askWords_no {kd : Int} {ps : List LAsk} {x : LAsk} (h : x.2.1 ≠ kd) : askWords kd (ps ++ [x]) = askWords kd ps := by
  unfold askWords
  apply List.map_congr_left
  intro i _
  rw [askMask_snoc, if_neg (fun e => h e.2)]
theorem askWords_yes {kd : Int} {ps : List LAsk} {x : LAsk} (h : x.2.1 = kd) {p : Nat} (hp : x.1 = (p : Int)) : askWords kd (ps ++ [x]) = (askWords kd ps).set p (askMask kd ps p ||| 2 ^ x.2.2.1.toNat) := by
  apply List.ext_getElem
  · simp [askWords]
  · intro i h1 h2
    have hi : i < 24 := by simpa [askWords] using h1
    rw [List.getElem_set]
    simp only [askWords, List.getElem_map, List.getElem_range, askMask_snoc]
    by_cases e : p = i
    · subst e
      rw [if_pos rfl, if_pos ⟨hp, h⟩]
    · rw [if_neg e, if_neg (fun e2 => e (by have := e2.1; omega))]

/-- What stands in the specification's table. -/
def cellV (ps : List LAsk) (i k : Nat) : Nat := (if asked 0 ps i k then 1 else 0) + (if asked 1 ps i k then 2 else 0)
theorem cellV_le (ps : List LAsk) (i k : Nat) : cellV ps i k ≤ 3 := by unfold cellV; split <;> split <;> omega
theorem cellV_snoc (ps : List LAsk) (x : LAsk) (i k : Nat) : cellV (ps ++ [x]) i k =
    if x.1 = (i : Int) ∧ x.2.2.1 = (k : Int) then (if x.2.1 = 0 ∧ cellV ps i k % 2 = 0 then cellV ps i k + 1 else if x.2.1 = 1 ∧ cellV ps i k < 2 then cellV ps i k + 2 else cellV ps i k) else cellV ps i k := by
  unfold cellV
  rw [asked_snoc, asked_snoc]
  by_cases e : x.1 = (i : Int) ∧ x.2.2.1 = (k : Int)
  · rw [if_pos e]
    have e0 : decide (x.1 = (i : Int) ∧ x.2.1 = 0 ∧ x.2.2.1 = (k : Int)) = decide (x.2.1 = 0) := by simp [e.1, e.2]
    have e1 : decide (x.1 = (i : Int) ∧ x.2.1 = 1 ∧ x.2.2.1 = (k : Int)) = decide (x.2.1 = 1) := by simp [e.1, e.2]
    rw [e0, e1]
    by_cases h0 : x.2.1 = 0
    · have h1 : ¬ x.2.1 = 1 := by omega
      cases asked 0 ps i k <;> cases asked 1 ps i k <;> simp [h0]
    · by_cases h1 : x.2.1 = 1
      · cases asked 0 ps i k <;> cases asked 1 ps i k <;> simp [h1]
      · cases asked 0 ps i k <;> cases asked 1 ps i k <;> simp [h0, h1]
  · rw [if_neg e]
    have e0 : decide (x.1 = (i : Int) ∧ x.2.1 = 0 ∧ x.2.2.1 = (k : Int)) = false := by simp; intro a _; exact fun b => e ⟨a, b⟩
    have e1 : decide (x.1 = (i : Int) ∧ x.2.1 = 1 ∧ x.2.2.1 = (k : Int)) = false := by simp; intro a _; exact fun b => e ⟨a, b⟩
    rw [e0, e1]
    simp

/-- A link: who asks, who is asked, whether that something does not hold. -/
abbrev LLink := Int × Int × Bool
def linkAt (ps : List LAsk) (i k : Nat) : List LLink := (if asked 0 ps i k then [((i : Int), (k : Int), false)] else []) ++ (if asked 1 ps i k then [((i : Int), (k : Int), true)] else [])
def linksFrom (n : Nat) (ps : List LAsk) (i : Nat) : List LLink := (List.range n).flatMap (linkAt ps i)
def linksL (n m : Nat) (ps : List LAsk) : List LLink := (List.range m).flatMap (linksFrom n ps)
def linksOf (p : LProg) : List LLink := if progOk p then linksL p.1.length p.1.length (asksOf p.2) else []
theorem linkAt_len (ps : List LAsk) (i k : Nat) : (linkAt ps i k).length ≤ 2 := by
  unfold linkAt
  split <;> split <;> simp
theorem flatMap_len {α β : Type} {f : α → List β} {m : Nat} (h : ∀ x, (f x).length ≤ m) : ∀ l : List α, (l.flatMap f).length ≤ l.length * m
  | [] => by simp
  | x :: l => by
    have := flatMap_len h l
    have := h x
    rw [List.flatMap_cons, List.length_append, List.length_cons, Nat.succ_mul]
    omega
theorem linksFrom_len (n : Nat) (ps : List LAsk) (i : Nat) : (linksFrom n ps i).length ≤ n * 2 := by
  have := flatMap_len (linkAt_len ps i) (List.range n)
  simpa [linksFrom] using this
theorem linksL_len (n m : Nat) (ps : List LAsk) : (linksL n m ps).length ≤ m * (n * 2) := by
  have := flatMap_len (linksFrom_len n ps) (List.range m)
  simpa [linksL] using this
theorem linksL_snoc (n m : Nat) (ps : List LAsk) : linksL n (m + 1) ps = linksL n m ps ++ linksFrom n ps m := by simp [linksL, List.range_succ]
theorem linksFrom_snoc (n : Nat) (ps : List LAsk) (i : Nat) : linksFrom (n + 1) ps i = linksFrom n ps i ++ linkAt ps i n := by simp [linksFrom, List.range_succ]

theorem flatMap_filter {α β : Type} {f : α → List β} {q : α → Bool} : ∀ (l : List α), (∀ x ∈ l, q x = false → f x = []) → (l.filter q).flatMap f = l.flatMap f
  | [], _ => rfl
  | x :: l, h => by
    have ih := flatMap_filter l fun y hy => h y (List.mem_cons_of_mem _ hy)
    cases e : q x
    · rw [List.filter_cons_of_neg (by simp [e]), List.flatMap_cons, h x (List.mem_cons_self ..) e, ih]
      rfl
    · rw [List.filter_cons_of_pos e, List.flatMap_cons, List.flatMap_cons, ih]
/-- The links by the bits of what is asked. -/
theorem linksFrom_bits {n : Nat} (hn : n ≤ 24) {ps : List LAsk} (h : ∀ x ∈ ps, AskFits n x) (i : Nat) : (bitsN (askMask 0 ps i ||| askMask 1 ps i)).flatMap (linkAt ps i) = linksFrom n ps i := by
  have hno : ∀ k, ¬ has (askMask 0 ps i ||| askMask 1 ps i) k → linkAt ps i k = [] := fun k hk => by
    rw [has_or, has_mask (.inl rfl) i k ps h, has_mask (.inr rfl) i k ps h] at hk
    have h0 : asked 0 ps i k = false := by simpa using fun e => hk (.inl e)
    have h1 : asked 1 ps i k = false := by simpa using fun e => hk (.inr e)
    simp [linkAt, h0, h1]
  unfold bitsN linksFrom
  rw [flatMap_filter _ fun k _ hk => hno k (by unfold has; simp [hk])]
  obtain ⟨d, hd⟩ : ∃ d, 64 = n + d := ⟨64 - n, by omega⟩
  rw [hd, List.range_add, List.flatMap_append]
  have : ((List.range d).map (n + ·)).flatMap (linkAt ps i) = [] := by
    rw [List.flatMap_eq_nil_iff]
    intro k hk
    obtain ⟨j, _, rfl⟩ := List.mem_map.1 hk
    refine hno _ fun hb => ?_
    rw [has_or, has_mask (.inl rfl) i _ ps h, has_mask (.inr rfl) i _ ps h] at hb
    rcases hb with hb | hb
    · have := (asked_lt (.inl rfl) h hb).2; omega
    · have := (asked_lt (.inr rfl) h hb).2; omega
  rw [this, List.append_nil]

/-- The links of a checked program stay within its predicates. -/
theorem asksOf_fits {p : LProg} (h : progOk p = true) : p.1.length ≤ 24 ∧ ∀ x ∈ asksOf p.2, AskFits p.1.length x := by
  simp only [progOk, arityOk, Bool.and_eq_true, decide_eq_true_eq, List.all_eq_true] at h
  refine ⟨h.1.1, fun x hx => ?_⟩
  unfold asksOf at hx
  obtain ⟨r, hr, hx⟩ := List.mem_flatMap.1 hx
  obtain ⟨l, hl, rfl⟩ := List.mem_map.1 hx
  have hf := h.2.2 r hr
  simp only [ruleFits, atomFits, Bool.and_eq_true, decide_eq_true_eq, List.all_eq_true] at hf
  refine ⟨⟨hf.1.1.1, hf.1.1.2.1⟩, fun hk => ?_⟩
  have h2 := hf.2.2.1 l hl
  unfold litFits at h2
  rw [if_pos hk] at h2
  simp only [atomFits, Bool.and_eq_true, decide_eq_true_eq] at h2
  exact ⟨h2.1.1, h2.1.2.1⟩

/-- What the links ask of layers. -/
def fitBad (ls : List Int) (ps : List LAsk) (i k : Nat) : Bool := (decide (0 < cellV ps i k) && decide (ls.getD i 0 < ls.getD k 0)) || (decide (1 < cellV ps i k) && decide (ls.getD k 0 = ls.getD i 0))
def linkBad (ls : List Int) (l : LLink) : Bool := decide (ls.getD l.1.toNat 0 < ls.getD l.2.1.toNat 0) || (decide (ls.getD l.2.1.toNat 0 = ls.getD l.1.toNat 0) && l.2.2)
def layersFit (p : LProg) (ls : List Int) : Bool := (progOk p && decide (ls.length = p.1.length)) && (ls.all (fun x => decide (0 ≤ x)) && !(linksOf p).any (linkBad ls))
theorem linkAt_bad (ls : List Int) (ps : List LAsk) (i k : Nat) : (linkAt ps i k).any (linkBad ls) = fitBad ls ps i k := by
  unfold linkAt fitBad cellV linkBad
  cases asked 0 ps i k <;> cases asked 1 ps i k <;> simp
theorem links_bad {p : LProg} (h : progOk p = true) (ls : List Int) : (linksOf p).any (linkBad ls) = (List.range p.1.length).any fun i => (List.range p.1.length).any fun k => fitBad ls (asksOf p.2) i k := by
  unfold linksOf linksL
  rw [if_pos h, List.any_flatMap]
  congr 1
  funext i
  unfold linksFrom
  rw [List.any_flatMap]
  congr 1
  funext k
  exact linkAt_bad ls _ i k

end Go.Proofs.YtcoelmhlkfignaaDoor
/-
  Words of links: the walks of hasBit, (*asking).all, askingOf.
-/
namespace Go.Proofs.YtcoelmhlkfignaaDoor
open Go.RowKit

theorem bit_one (x n : Nat) (hx : x < 18446744073709551616) : (bits .and .u64 ((x : Int) / 2 ^ n) 1 == 1) = x.testBit n := by
  have e : ((x : Int) / 2 ^ n) = ((x / 2 ^ n : Nat) : Int) := by simp
  have h1 : x / 2 ^ n < 18446744073709551616 := Nat.lt_of_le_of_lt (Nat.div_le_self _ _) hx
  rw [e, show (1 : Int) = ((1 : Nat) : Int) from rfl, u64_and_nat _ 1 h1 (by decide), Nat.and_one_is_mod]
  have h2 : x.testBit n = decide (x / 2 ^ n % 2 = 1) := by
    rw [Nat.testBit, Nat.shiftRight_eq_div_pow, Nat.one_and_eq_mod_two]
    have := Nat.mod_two_eq_zero_or_one (x / 2 ^ n)
    rcases this with h | h <;> simp [h]
  rw [h2, Bool.eq_iff_iff, beq_iff_eq, decide_eq_true_eq]
  omega

set_option maxHeartbeats 1000000 in
theorem hasBit_any (x n : Nat) (hx : x < 18446744073709551616) (hn : n < 64) (w : World) :
    Calls Tryd.prog 49 #[.int .u64 x, .int .i64 n] w fun e w' => e = .returned (.bool (x.testBit n)) ∧ w = w' := by
  go_enter Tryd.func49, Tryd.ntmps49
  go_wp2_with (fail)
  go_ret
  exact ⟨ret_bool (bit_one x n hx), rfl⟩

/-- The words of links: for each predicate those that it asks by a LitYes, then by a LitNo. -/
def askCells (Y N : List Nat) : Array Value := ((Y ++ N).map fun x => Value.int .u64 ((x : Nat) : Int)).toArray
def AskAt (w : World) (g : Nat) (Y N : List Nat) : Prop := Blk w g 58 (askCells Y N) ∧ Y.length = 24 ∧ N.length = 24
theorem AskAt.yes {w : World} {g p : Nat} {Y N : List Nat} (h : AskAt w g Y N) (hp : p < 24) : w.cell? ⟨g, p, none⟩ = some (.int .u64 ((Y.getD p 0 : Nat) : Int)) := by
  rw [h.1.cell p]
  have : p < Y.length := by rw [h.2.1]; exact hp
  simp [askCells, List.getElem?_append_left, this]
theorem AskAt.no {w : World} {g p : Nat} {Y N : List Nat} (h : AskAt w g Y N) (hp : p < 24) : w.cell? ⟨g, 24 + p, none⟩ = some (.int .u64 ((N.getD p 0 : Nat) : Int)) := by
  rw [h.1.cell (24 + p)]
  have h1 : p < N.length := by rw [h.2.2]; exact hp
  have h2 : Y.length ≤ 24 + p := by rw [h.2.1]; omega
  have h3 : 24 + p - Y.length = p := by rw [h.2.1]; omega
  simp [askCells, List.getElem?_append_right, h2, h3, h1]
theorem AskAt.setYes {w : World} {g p x : Nat} {Y N : List Nat} (h : AskAt w g Y N) (hp : p < 24) : AskAt (w.setCell ⟨g, p, none⟩ (.int .u64 ((x : Nat) : Int))) g (Y.set p x) N := by
  obtain ⟨h1, h2, h3⟩ := h
  refine ⟨?_, by simp [h2], h3⟩
  have := h1.set_ p (.int .u64 ((x : Nat) : Int))
  have e : askCells (Y.set p x) N = (askCells Y N).setIfInBounds p (.int .u64 ((x : Nat) : Int)) := by
    unfold askCells
    rw [← List.set_append_left _ _ (by rw [h2]; exact hp), List.map_set]
    simp
  rw [e]
  exact this
theorem AskAt.setNo {w : World} {g p x : Nat} {Y N : List Nat} (h : AskAt w g Y N) (hp : p < 24) : AskAt (w.setCell ⟨g, 24 + p, none⟩ (.int .u64 ((x : Nat) : Int))) g Y (N.set p x) := by
  obtain ⟨h1, h2, h3⟩ := h
  refine ⟨?_, h2, by simp [h3]⟩
  have := h1.set_ (24 + p) (.int .u64 ((x : Nat) : Int))
  have e : askCells Y (N.set p x) = (askCells Y N).setIfInBounds (24 + p) (.int .u64 ((x : Nat) : Int)) := by
    unfold askCells
    have e2 : (Y ++ N).set (24 + p) x = Y ++ N.set p x := by
      rw [List.set_append_right _ _ (by rw [h2]; omega), h2]
      congr 2
      omega
    rw [← e2, List.map_set]
    simp
  rw [e]
  exact this
theorem AskAt.below {w w' : World} {g B : Nat} {Y N : List Nat} (h : AskAt w g Y N) (hb : Below B w w') (hg : g < B) : AskAt w' g Y N := ⟨h.1.below hb hg, h.2⟩
theorem AskAt.only {w w' : World} {g lo hi : Nat} {Y N : List Nat} (h : AskAt w g Y N) (ho : Only lo hi w w') (hg : g < lo ∨ hi ≤ g) : AskAt w' g Y N := ⟨h.1.only ho hg, h.2⟩

set_option maxHeartbeats 1000000 in
theorem askAll_any (g p : Nat) (Y N : List Nat) (w : World) (h : AskAt w g Y N) (hp : p < 24) (hy : Y.getD p 0 < 18446744073709551616) (hn : N.getD p 0 < 18446744073709551616) :
    Calls Tryd.prog 66 #[.pointer (some ⟨g, 0, none⟩), .int .i64 p] w fun e w' => e = .returned (.int .u64 ((Y.getD p 0 ||| N.getD p 0 : Nat) : Int)) ∧ Below w.heap.size w w' := by
  have c0 := h.yes hp
  have c1 := h.no hp
  obtain ⟨y, hye⟩ : ∃ y, y = Y.getD p 0 := ⟨_, rfl⟩
  obtain ⟨z, hze⟩ : ∃ z, z = N.getD p 0 := ⟨_, rfl⟩
  rw [← hye] at c0 hy ⊢
  rw [← hze] at c1 hn ⊢
  have ho : bits .or .u64 (y : Int) (z : Int) = ((y ||| z : Nat) : Int) := u64_or_nat y z hy hn
  clear h hye hze
  go_enter Tryd.func66, Tryd.ntmps66
  go_wp2_with (fail)
  go_big_region
  go_wp2_with (fail)
  go_ret
  exact ⟨rfl, (Below.refl _ _).drew⟩

def zeroA : List Nat := List.replicate 24 0
theorem askWords_nil (kd : Int) : askWords kd [] = zeroA := by unfold askWords askMask zeroA; rfl
theorem asksOf_snoc (rs : List LRule) (k : Nat) (h : k < rs.length) : asksOf (rs.take (k + 1)) = asksOf (rs.take k) ++ rs[k].2.map fun l => (rs[k].1.1, l) := by
  unfold asksOf
  rw [take_snoc rs k h, List.flatMap_append]
  simp
theorem AskAt.drewn {w : World} {g : Nat} {Y N : List Nat} (h : AskAt w g Y N) : AskAt w.drew g Y N := ⟨h.1, h.2⟩
theorem AskAt.new (w : World) : AskAt (w.alloc (Obj.cells (askCells zeroA zeroA) 58)) w.heap.size zeroA zeroA := ⟨Blk.new _ _ _, by simp [zeroA], by simp [zeroA]⟩
theorem Only.drewn {lo hi : Nat} {w w' : World} (h : Only lo hi w w') : Only lo hi w w'.drew := h.trans (Only.of_below (Below.refl _ _).drew)
theorem asksOf_mem {rs : List LRule} {k m : Nat} (hk : k < rs.length) (hm : m < rs[k].2.length) : (rs[k].1.1, rs[k].2[m]) ∈ asksOf rs :=
  List.mem_flatMap.2 ⟨rs[k], List.getElem_mem hk, List.mem_map.2 ⟨rs[k].2[m], List.getElem_mem hm, rfl⟩⟩
theorem asksOf_take_sub {rs : List LRule} {k m : Nat} (hk : k < rs.length) : ∀ x ∈ asksOf (rs.take k) ++ (rs[k].2.take m).map (fun l => (rs[k].1.1, l)), x ∈ asksOf rs := by
  intro x hx
  rcases List.mem_append.1 hx with h | h
  · unfold asksOf at *
    obtain ⟨r, hr, h⟩ := List.mem_flatMap.1 h
    exact List.mem_flatMap.2 ⟨r, List.mem_of_mem_take hr, h⟩
  · obtain ⟨l, hl, rfl⟩ := List.mem_map.1 h
    exact List.mem_flatMap.2 ⟨rs[k], List.getElem_mem hk, List.mem_map.2 ⟨l, List.mem_of_mem_take hl, rfl⟩⟩

set_option maxHeartbeats 4000000 in
set_option maxRecDepth 100000 in
theorem askingOf_any (v : Value) (rs : List LRule) (n : Nat) (w : World) (h : RdRules w w.heap.size v rs) (hn : n ≤ 24) (hf : ∀ x ∈ asksOf rs, AskFits n x) (hl : rs.length ≤ 1048576) (hb : ∀ r ∈ rs, r.2.length ≤ 1048576) :
    Calls Tryd.prog 48 #[v] w fun e w' => e = .returned (.agg (askCells (askWords 0 (asksOf rs)) (askWords 1 (asksOf rs)))) ∧ Below w.heap.size w w' := by
  have H := Lib.hid h
  have HF := Lib.hid hf
  have HBL := Lib.hid hb
  obtain ⟨A, c, rfl, hcA, _⟩ := h
  clear hf hb
  go_enter Tryd.func48, Tryd.ntmps48
  go_upto_region 2 with fail
  obtain ⟨w0, hw0⟩ : ∃ w0, w0 = (w.alloc (Obj.cells (askCells zeroA zeroA) 58)).alloc (Obj.cells (askCells zeroA zeroA) 58) := ⟨_, rfl⟩
  obtain ⟨g, hg⟩ : ∃ g, g = w.heap.size + 1 := ⟨_, rfl⟩
  have T0 : AskAt w0 g zeroA zeroA := by rw [hw0, hg]; have := AskAt.new (w.alloc (Obj.cells (askCells zeroA zeroA) 58)); simpa using this
  have R0 : AskAt w0 w.heap.size zeroA zeroA := by rw [hw0]; exact (AskAt.new w).below (below1 _ _) (by simp)
  have B0 : Below w.heap.size w w0 := by rw [hw0]; exact bthen (below1 _ _) (below1 _ _)
  rw [show ((w.alloc (Obj.cells #[Value.int IntKind.u64 0, Value.int IntKind.u64 0, Value.int IntKind.u64 0, Value.int IntKind.u64 0, Value.int IntKind.u64 0, Value.int IntKind.u64 0, Value.int IntKind.u64 0, Value.int IntKind.u64 0, Value.int IntKind.u64 0, Value.int IntKind.u64 0, Value.int IntKind.u64 0, Value.int IntKind.u64 0, Value.int IntKind.u64 0, Value.int IntKind.u64 0, Value.int IntKind.u64 0, Value.int IntKind.u64 0, Value.int IntKind.u64 0, Value.int IntKind.u64 0, Value.int IntKind.u64 0, Value.int IntKind.u64 0, Value.int IntKind.u64 0, Value.int IntKind.u64 0, Value.int IntKind.u64 0, Value.int IntKind.u64 0, Value.int IntKind.u64 0, Value.int IntKind.u64 0, Value.int IntKind.u64 0, Value.int IntKind.u64 0, Value.int IntKind.u64 0, Value.int IntKind.u64 0, Value.int IntKind.u64 0, Value.int IntKind.u64 0, Value.int IntKind.u64 0, Value.int IntKind.u64 0, Value.int IntKind.u64 0, Value.int IntKind.u64 0, Value.int IntKind.u64 0, Value.int IntKind.u64 0, Value.int IntKind.u64 0, Value.int IntKind.u64 0, Value.int IntKind.u64 0, Value.int IntKind.u64 0, Value.int IntKind.u64 0, Value.int IntKind.u64 0, Value.int IntKind.u64 0, Value.int IntKind.u64 0, Value.int IntKind.u64 0, Value.int IntKind.u64 0] 58)).alloc (Obj.cells #[Value.int IntKind.u64 0, Value.int IntKind.u64 0, Value.int IntKind.u64 0, Value.int IntKind.u64 0, Value.int IntKind.u64 0, Value.int IntKind.u64 0, Value.int IntKind.u64 0, Value.int IntKind.u64 0, Value.int IntKind.u64 0, Value.int IntKind.u64 0, Value.int IntKind.u64 0, Value.int IntKind.u64 0, Value.int IntKind.u64 0, Value.int IntKind.u64 0, Value.int IntKind.u64 0, Value.int IntKind.u64 0, Value.int IntKind.u64 0, Value.int IntKind.u64 0, Value.int IntKind.u64 0, Value.int IntKind.u64 0, Value.int IntKind.u64 0, Value.int IntKind.u64 0, Value.int IntKind.u64 0, Value.int IntKind.u64 0, Value.int IntKind.u64 0, Value.int IntKind.u64 0, Value.int IntKind.u64 0, Value.int IntKind.u64 0, Value.int IntKind.u64 0, Value.int IntKind.u64 0, Value.int IntKind.u64 0, Value.int IntKind.u64 0, Value.int IntKind.u64 0, Value.int IntKind.u64 0, Value.int IntKind.u64 0, Value.int IntKind.u64 0, Value.int IntKind.u64 0, Value.int IntKind.u64 0, Value.int IntKind.u64 0, Value.int IntKind.u64 0, Value.int IntKind.u64 0, Value.int IntKind.u64 0, Value.int IntKind.u64 0, Value.int IntKind.u64 0, Value.int IntKind.u64 0, Value.int IntKind.u64 0, Value.int IntKind.u64 0, Value.int IntKind.u64 0] 58)) = w0 from by rw [hw0]; rfl, show w.heap.size + 1 = g from hg.symm]
  have hgs : g < w0.heap.size := T0.1.lt
  have hgw : w.heap.size ≤ g := by omega
  have HT0 := Lib.hid T0
  have HR0 := Lib.hid R0
  have HGE := Lib.hid hg
  clear hw0 T0 R0 hg
  go_wp2_with fail
  go_loopw [10] (fun i wr => ∃ (k : Nat), k ≤ rs.length ∧ i = .int .i64 k ∧ AskAt wr g (askWords 0 (asksOf (rs.take k))) (askWords 1 (asksOf (rs.take k))) ∧ Only g (g + 1) w0 wr) (fun i _ => rs.length - (intOf i).toNat)
  case atStart => exact ⟨0, Nat.zero_le _, rfl, by simpa [asksOf, askWords_nil] using HT0.out, Only.refl _ _ _⟩
  case round =>
    obtain ⟨k, hk, rfl, hat, hon⟩ := hrel
    have BW : Below w.heap.size w wr := Only.then_ B0 hon hgw
    have HON := Lib.hid hon
    have hsz0 := hon.size
    by_cases hlt : k < rs.length
    · obtain ⟨b, o, u0, u1, u2, rfl, hbB, k0, k1, k2, rfl, q1, q2⟩ := (H.out.below BW (Nat.le_refl _)).get hlt
      have hwr : w.heap.size ≤ wr.heap.size := BW.size
      have Q2 := Lib.hid q2
      obtain ⟨A3, c3, rfl, _⟩ := q1
      obtain ⟨A4, c4, rfl, _⟩ := q2
      have hbl := HBL.out _ (List.getElem_mem hlt)
      clear hon
      go_upto_region 5 with fail
      obtain ⟨wv, hwv⟩ : ∃ wv, wv = wr.alloc (Obj.cells #[Value.int .i64 rs[k].1.1, Value.slice A3 rs[k].1.2.length c3, Value.slice A4 rs[k].2.length c4] 78) := ⟨_, rfl⟩
      have bv : Below wr.heap.size wr wv := by rw [hwv]; exact below1 _ _
      have X : Blk wv wr.heap.size 78 #[.int .i64 rs[k].1.1, .slice A3 rs[k].1.2.length c3, .slice A4 rs[k].2.length c4] := by rw [hwv]; exact Blk.new _ _ _
      rw [← hwv]
      have hvl := X.lt
      clear hwv k0 k1 k2
      have x2 : wv.cell? ⟨wr.heap.size, 2, none⟩ = some (.slice A4 rs[k].2.length c4) := X.cell 2
      have hgr : g + 1 ≤ wr.heap.size := hat.1.lt
      have HATV := Lib.hid (hat.below bv hat.1.lt)
      have HX := Lib.hid X
      have HBV := Lib.hid bv
      clear hat X bv
      go_wp2_with fail
      clear x2
      obtain ⟨wo, rfl⟩ : ∃ wo, wo = wr := ⟨_, rfl⟩
      go_loopw [17] (fun i wr => ∃ m : Nat, m ≤ rs[k].2.length ∧ i = .int .i64 m ∧ AskAt wr g (askWords 0 (asksOf (rs.take k) ++ (rs[k].2.take m).map fun l => (rs[k].1.1, l))) (askWords 1 (asksOf (rs.take k) ++ (rs[k].2.take m).map fun l => (rs[k].1.1, l))) ∧ Only g (g + 1) wv wr) (fun i _ => rs[k].2.length - (intOf i).toNat)
      case atStart => exact ⟨0, Nat.zero_le _, rfl, by simpa using HATV.out, Only.refl _ _ _⟩
      case round =>
        obtain ⟨m, hm, rfl, hax, honx⟩ := hrel
        have hsx := honx.size
        by_cases hltm : m < rs[k].2.length
        · obtain ⟨b5, o5, y0, y1, y2, rfl, hb5, l0, l1, l2, rfl, rfl, q5⟩ := (Q2.out.below ((HBV.out.mono hwr).trans (honx.below hgw (by omega))) (Nat.le_refl _)).get hltm
          obtain ⟨A5, c5, rfl, _⟩ := q5
          have HFX := Lib.hid (HF.out _ (asksOf_mem hlt hltm))
          obtain ⟨ps, hps⟩ : ∃ ps, ps = asksOf (rs.take k) ++ (rs[k].2.take m).map fun l => (rs[k].1.1, l) := ⟨_, rfl⟩
          have HSUB := Lib.hid (show ∀ x ∈ ps, AskFits n x from by rw [hps]; exact fun x hx => HF.out x (asksOf_take_sub hlt x hx))
          have HPS := Lib.hid (show asksOf (rs.take k) ++ (rs[k].2.take (m + 1)).map (fun l => (rs[k].1.1, l)) = ps ++ [(rs[k].1.1, rs[k].2[m])] from by
            rw [take_snoc _ _ hltm, List.map_append, ← List.append_assoc, ← hps]; rfl)
          rw [← hps] at hax
          obtain ⟨p, hpe⟩ : ∃ p : Nat, rs[k].1.1 = (p : Int) := ⟨rs[k].1.1.toNat, by have := HFX.out.1; omega⟩
          have hp24 : p < 24 := by have := HFX.out.1; omega
          have Xx := HX.out.only honx (.inr hgr)
          have x0 : wr.cell? ⟨wo.heap.size, 0, none⟩ = some (.int .i64 p) := by rw [← hpe]; exact Xx.cell 0
          clear hps Xx
          go_upto_region 8 with fail
          obtain ⟨wl, hwl⟩ : ∃ wl, wl = wr.alloc (Obj.cells #[Value.int .i64 rs[k].2[m].1, Value.int .i64 rs[k].2[m].2.1, Value.slice A5 rs[k].2[m].2.2.length c5] 94) := ⟨_, rfl⟩
          have bl : Below wr.heap.size wr wl := by rw [hwl]; exact below1 _ _
          have Y : Blk wl wr.heap.size 94 #[.int .i64 rs[k].2[m].1, .int .i64 rs[k].2[m].2.1, .slice A5 rs[k].2[m].2.2.length c5] := by rw [hwl]; exact Blk.new _ _ _
          rw [← hwl]
          clear hwl l0 l1 l2
          have e0 : wl.cell? ⟨wr.heap.size, 0, none⟩ = some (.int .i64 rs[k].2[m].1) := Y.cell 0
          have z0 : wl.drew.cell? ⟨wo.heap.size, 0, none⟩ = some (.int .i64 p) := (bl.cell (World.block_lt_of_cell? _ _ x0)).trans x0
          have HAL := Lib.hid (hax.below bl hax.1.lt)
          have HOL := Lib.hid (honx.trans (Only.of_below bl))
          have hpi : (p : Int) < 24 := by omega
          clear x0 hax honx
          by_cases hk0 : rs[k].2[m].1 = 0
          · obtain ⟨hx1, hx2⟩ : 0 ≤ rs[k].2[m].2.1 ∧ rs[k].2[m].2.1 < n := HFX.out.2 (.inl hk0)
            obtain ⟨q, hqe⟩ : ∃ q : Nat, rs[k].2[m].2.1 = (q : Int) := ⟨rs[k].2[m].2.1.toNat, by omega⟩
            have hq24 : q < 24 := by omega
            clear hx1 hx2
            have z1 : wl.drew.cell? ⟨wr.heap.size, 1, none⟩ = some (.int .i64 q) := by rw [← hqe]; exact Y.cell 1
            obtain ⟨y, hye⟩ : ∃ y, y = (askWords 0 ps).getD p 0 := ⟨_, rfl⟩
            have hy : y < 18446744073709551616 := by rw [hye, askWords_at hp24]; have := askMask_lt (i := p) hn (.inl rfl) HSUB.out; omega
            have z2 : wl.drew.cell? ⟨g, p, none⟩ = some (.int .u64 ((y : Nat) : Int)) := by rw [hye]; exact HAL.out.yes hp24
            have z3 : wl.drew.frozen? ⟨g, p, none⟩ = false := HAL.out.1.frozen p
            obtain ⟨mm, hmm⟩ : ∃ mm, mm = 2 ^ q := ⟨_, rfl⟩
            have hml : mm < 18446744073709551616 := by rw [hmm]; exact Nat.lt_of_lt_of_le (Nat.pow_lt_pow_right (by decide) hq24) (by decide)
            have hwr2 : IntKind.u64.wrap (2 ^ q) = (mm : Int) := by
              have e : ((2 : Int) ^ q) = ((mm : Nat) : Int) := by rw [hmm]; simp
              rw [e]
              unfold IntKind.wrap
              simp [IntKind.bits, IntKind.signed] <;> omega
            have hor : bits .or .u64 (y : Int) (mm : Int) = ((y ||| mm : Nat) : Int) := u64_or_nat y mm hy hml
            have HN := Lib.hid (show AskAt (wl.setCell ⟨g, p, none⟩ (.int .u64 ((y ||| mm : Nat) : Int))).drew g (askWords 0 (ps ++ [(rs[k].1.1, rs[k].2[m])])) (askWords 1 (ps ++ [(rs[k].1.1, rs[k].2[m])])) from by
              rw [askWords_yes (x := (rs[k].1.1, rs[k].2[m])) hk0 hpe, askWords_no (x := (rs[k].1.1, rs[k].2[m])) (by show rs[k].2[m].1 ≠ 1; omega), hye, askWords_at hp24, hmm]
              show AskAt _ g ((askWords 0 ps).set p (askMask 0 ps p ||| 2 ^ rs[k].2[m].2.1.toNat)) _
              rw [hqe]
              exact (HAL.out.setYes hp24).drewn)
            have hb0 : (rs[k].2[m].1 == 0) = true := by simp [hk0]
            clear hye hmm hk0 hqe hpe Y
            go_upto_region 10 with fail
            go_region_law (fail)
            all_goals
              go_wp2_with fail
              go_roundw
              case rel => exact ⟨m + 1, by omega, by go_num, by rw [HPS.out]; exact HN.out, (HOL.out.setCell ⟨Nat.le_refl g, Nat.lt_succ_self g⟩ _).drewn⟩
              case measure => simp [intOf]; omega
          · have hb0 : (rs[k].2[m].1 == 0) = false := by simp [hk0]
            by_cases hk1 : rs[k].2[m].1 = 1
            · obtain ⟨hx1, hx2⟩ : 0 ≤ rs[k].2[m].2.1 ∧ rs[k].2[m].2.1 < n := HFX.out.2 (.inr hk1)
              obtain ⟨q, hqe⟩ : ∃ q : Nat, rs[k].2[m].2.1 = (q : Int) := ⟨rs[k].2[m].2.1.toNat, by omega⟩
              have hq24 : q < 24 := by omega
              clear hx1 hx2
              have z1 : wl.drew.cell? ⟨wr.heap.size, 1, none⟩ = some (.int .i64 q) := by rw [← hqe]; exact Y.cell 1
              obtain ⟨y, hye⟩ : ∃ y, y = (askWords 1 ps).getD p 0 := ⟨_, rfl⟩
              have hy : y < 18446744073709551616 := by rw [hye, askWords_at hp24]; have := askMask_lt (i := p) hn (.inr rfl) HSUB.out; omega
              have z2 : wl.drew.cell? ⟨g, 24 + p, none⟩ = some (.int .u64 ((y : Nat) : Int)) := by rw [hye]; exact HAL.out.no hp24
              have z3 : wl.drew.frozen? ⟨g, 24 + p, none⟩ = false := HAL.out.1.frozen (24 + p)
              obtain ⟨mm, hmm⟩ : ∃ mm, mm = 2 ^ q := ⟨_, rfl⟩
              have hml : mm < 18446744073709551616 := by rw [hmm]; exact Nat.lt_of_lt_of_le (Nat.pow_lt_pow_right (by decide) hq24) (by decide)
              have hwr2 : IntKind.u64.wrap (2 ^ q) = (mm : Int) := by
                have e : ((2 : Int) ^ q) = ((mm : Nat) : Int) := by rw [hmm]; simp
                rw [e]
                unfold IntKind.wrap
                simp [IntKind.bits, IntKind.signed] <;> omega
              have hor : bits .or .u64 (y : Int) (mm : Int) = ((y ||| mm : Nat) : Int) := u64_or_nat y mm hy hml
              have HN := Lib.hid (show AskAt (wl.setCell ⟨g, 24 + p, none⟩ (.int .u64 ((y ||| mm : Nat) : Int))).drew g (askWords 0 (ps ++ [(rs[k].1.1, rs[k].2[m])])) (askWords 1 (ps ++ [(rs[k].1.1, rs[k].2[m])])) from by
                rw [askWords_no (x := (rs[k].1.1, rs[k].2[m])) (show rs[k].2[m].1 ≠ 0 from hk0), askWords_yes (kd := 1) (x := (rs[k].1.1, rs[k].2[m])) hk1 hpe, hye, askWords_at hp24, hmm]
                show AskAt _ g _ ((askWords 1 ps).set p (askMask 1 ps p ||| 2 ^ rs[k].2[m].2.1.toNat))
                rw [hqe]
                exact (HAL.out.setNo hp24).drewn)
              have hb1 : (rs[k].2[m].1 == 1) = true := by simp [hk1]
              clear hye hmm hk0 hk1 hqe hpe Y
              go_upto_region 12 with fail
              go_region_law (fail)
              all_goals
                go_wp2_with fail
                go_roundw
                case rel => exact ⟨m + 1, by omega, by go_num, by rw [HPS.out]; exact HN.out, (HOL.out.setCell ⟨Nat.le_refl g, Nat.lt_succ_self g⟩ _).drewn⟩
                case measure => simp [intOf]; omega
            · have hb1 : (rs[k].2[m].1 == 1) = false := by simp [hk1]
              have HN := Lib.hid (show AskAt wl g (askWords 0 (ps ++ [(rs[k].1.1, rs[k].2[m])])) (askWords 1 (ps ++ [(rs[k].1.1, rs[k].2[m])])) from by
                rw [askWords_no (x := (rs[k].1.1, rs[k].2[m])) (show rs[k].2[m].1 ≠ 0 from hk0), askWords_no (x := (rs[k].1.1, rs[k].2[m])) (show rs[k].2[m].1 ≠ 1 from hk1)]
                exact HAL.out)
              clear hk0 hk1 hpe Y
              go_wp2_with fail
              go_roundw
              case rel => exact ⟨m + 1, by omega, by go_num, by rw [HPS.out]; exact HN.out, HOL.out⟩
              case measure => simp [intOf]; omega
        · have HE := Lib.hid (show AskAt wr g (askWords 0 (asksOf (rs.take (k + 1)))) (askWords 1 (asksOf (rs.take (k + 1)))) from by
            rw [show m = rs[k].2.length by omega, List.take_length] at hax
            rw [asksOf_snoc rs k hlt]
            exact hax)
          have HO2 := Lib.hid (HON.out.trans ((Only.of_below HBV.out).trans honx))
          clear hax honx
          go_wp2_with fail
          go_roundw
          case rel => exact ⟨k + 1, by omega, by go_num, HE.out, HO2.out⟩
          case measure => simp [intOf]; omega
    · obtain rfl : k = rs.length := by omega
      rw [List.take_length] at hat
      obtain ⟨cs, hcs⟩ : ∃ cs, cs = askCells (askWords 0 (asksOf rs)) (askWords 1 (asksOf rs)) := ⟨_, rfl⟩
      have G := hat.1
      rw [← hcs] at G
      have RR := HR0.out.only hon (.inl (by have := HGE.out; omega))
      have hcz : cs.size = 48 := by rw [hcs]; simp [askCells, askWords_len]
      have HONE := Lib.hid (show cs.all (·.oneCell') = true from by
        rw [hcs]
        unfold askCells
        rw [List.all_toArray, List.all_map, List.all_eq_true]
        intro x _
        rfl)
      have hsi : (Tryd.prog.info? 58).map (·.size) = some cs.size := by rw [hcz]; kernel_rfl
      have HOLD := Lib.hid (show (askCells zeroA zeroA).size = cs.size by rw [hcz]; rfl)
      have HBE := Lib.hid BW
      have HSI := Lib.hid hsi
      have HBK := Lib.hid G
      have HRR := Lib.hid RR.1
      have HCS := Lib.hid hcs
      clear hat hon hcs hcz hsi G RR
      go_wp2_with (first
        | (refine wpList_load_row rfl 58 _ rfl g rfl 58 cs (0, 0) _ HBK.out Tryd.underlying58 rfl HSI.out ?_)
        | (refine wpList_store_row rfl 58 _ _ rfl w.heap.size cs rfl rfl 58 (askCells zeroA zeroA) HRR.out HSI.out HOLD.out HONE.out ?_))
      refine bodyPost_ret_by (v := .agg cs) (results_cell_row Tryd.results48 _ _ w.heap.size _ cs (0, 0) _ rfl (setRow_heap _ _ _ cs _ _ HRR.out) Tryd.underlying58 rfl HSI.out) rfl ?_
      exact ⟨by rw [HCS.out], below_setRow HBE.out (Nat.le_refl _) _⟩

end Go.Proofs.YtcoelmhlkfignaaDoor
/-
  Regions that draw their order and end in a store to a cell that they load: the condition on the world holds until operation t has come up, and is released then. Laws of any program.
-/
namespace Go.Proofs.YtcoelmhlkfignaaDoor
open Go

section
variable {P : Program} {ops : Array Oper} {Q : Exit → Act → World → Prop} {md : Region.Mode} {S : World → Prop} {t : Nat}

/-- Whatever order is picked from here on, and S holds behind each operation that is carried out, until t has come up. -/
def wpAnyR (P : Program) (md : Region.Mode) (ops : Array Oper) (Q : Exit → Act → World → Prop) (S : World → Prop) (t : Nat) : Nat → Array Bool → Act → World → Prop
  | 0, listed, a, w => Region.ready md ops listed = [] ∧ Q .normal a w
  | fuel + 1, listed, a, w =>
    (Region.ready md ops listed = [] → Q .normal a w) ∧
    ∀ i ∈ Region.ready md ops listed, wpOp P ops Q i (fun a' w' => ((listed.setIfInBounds i true).getD t true = false → S w') ∧ wpAnyR P md ops Q S t fuel (listed.setIfInBounds i true) a' w') a w

theorem wpAny_of_rel : ∀ (fuel : Nat) (listed : Array Bool) (a : Act) (w : World), wpAnyR P md ops Q S t fuel listed a w → wpAny P md ops Q fuel listed a w
  | 0, _, _, _, h => h
  | fuel + 1, _, _, _, h => ⟨h.1, fun i hi => wpOp_mono (fun a' w' h' => wpAny_of_rel fuel _ a' w' h'.2) (h.2 i hi)⟩

/-- None of D has come up, and each waits for i or for one of D. -/
def blockedB (md : Region.Mode) (ops : Array Oper) (listed : Array Bool) (i : Nat) (D : List Nat) : Bool :=
  !D.contains i && D.all fun d => !listed.getD d true && ((ops[d]?).map fun o => o.after.any fun e => Region.binds md e && (e.on == i || D.contains e.on)).getD false

/-- None of D may come up while i has not. -/
theorem not_ready_of_blocked {listed : Array Bool} {i : Nat} {D : List Nat} (h : blockedB md ops listed i D = true) (hi : listed.getD i true = false) {d : Nat} (hd : d ∈ D) : d ∉ Region.ready md ops listed := by
  intro hr
  obtain ⟨_, o, ho, hall⟩ := mem_ready.1 hr
  simp only [blockedB, Bool.and_eq_true, List.all_eq_true] at h
  have h2 := (h.2 d hd).2
  rw [ho] at h2
  simp only [Option.map_some, Option.getD_some, Array.any_eq_true', Bool.and_eq_true, Bool.or_eq_true, beq_iff_eq] at h2
  obtain ⟨e, he, hb, hon⟩ := h2
  have hl := hall e he hb
  have un : ∀ k : Nat, listed.getD k true = false → listed.getD k false = true → False := by
    intro k h1 h2
    rcases Nat.lt_or_ge k listed.size with h' | h'
    · simp [h'] at h1 h2
      rw [h1] at h2
      cases h2
    · simp [Array.getElem?_eq_none h'] at h1
  rcases hon with e1 | e1
  · rw [e1] at hl
    exact un i hi hl
  · have h3 := (h.2 e.on (by simpa using e1)).1
    exact un _ (by simpa using h3) hl

theorem blocked_set {listed : Array Bool} {i j : Nat} {D : List Nat} (h : blockedB md ops listed i D = true) (hj : j ∉ D) : blockedB md ops (listed.setIfInBounds j true) i D = true := by
  simp only [blockedB, Bool.and_eq_true, List.all_eq_true] at h ⊢
  refine ⟨h.1, fun d hd => ?_⟩
  have := h.2 d hd
  refine ⟨?_, this.2⟩
  rw [getD_set_ne true (show j ≠ d from fun e => hj (by rw [e]; exact hd))]
  exact this.1

theorem wpAnyR_first {i : Nat} {oi : Oper} {v : Value} {D : List Nat} (hi : ops[i]? = some oi) (hsel : ∀ (j : Nat) (o : Oper) cs b, ops[j]? = some o → o.op ≠ .select cs b)
    (hQ : ∀ c a w, Q (.panic c) (a.put oi.dst v) w → Q (.panic c) a w) (ht : t ∈ D) :
    ∀ (fuel : Nat) (listed : Array Bool) (a : Act) (w : World),
      (∀ j oj, ops[j]? = some oj → j ≠ i → listed.getD j true = false → (∀ e ∈ oj.after, Region.binds md e = true → e.on ≠ i) → oi.apart ops oj = true) →
      i ∈ Region.ready md ops listed → blockedB md ops listed i D = true → YieldsIf P ops S oi v a → S w →
      wpAnyR P md ops Q S t fuel (listed.setIfInBounds i true) (a.put oi.dst v) w → wpAnyR P md ops Q S t (fuel + 1) listed a w := by
  intro fuel
  induction fuel with
  | zero =>
    intro listed a w _ hr hbl hy hS H
    refine ⟨fun h => (by rw [h] at hr; cases hr), fun j hj => ?_⟩
    by_cases hji : j = i
    · subst hji; exact hy.wpOp hi hS ⟨fun _ => hS, H⟩
    · have := ready_mono hj hji
      rw [H.1] at this
      cases this
  | succ fuel ih =>
    intro listed a w hfree hr hbl hy hS H
    refine ⟨fun h => (by rw [h] at hr; cases hr), fun j hj => ?_⟩
    by_cases hji : j = i
    · subst hji; exact hy.wpOp hi hS ⟨fun _ => hS, H⟩
    · have h1 := H.2 j (ready_mono hj hji)
      have hjD : j ∉ D := fun hd => not_ready_of_blocked hbl (mem_ready.1 hr).1 hd hj
      have hiD : i ∉ D := by
        simp only [blockedB, Bool.and_eq_true] at hbl
        simpa using hbl.1
      have htl : listed.getD t true = false := by
        simp only [blockedB, Bool.and_eq_true, List.all_eq_true] at hbl
        simpa using (hbl.2 t ht).1
      have htl2 : ((listed.setIfInBounds i true).setIfInBounds j true).getD t true = false := by
        rw [getD_set_ne true (show j ≠ t from fun e => hjD (by rw [e]; exact ht)), getD_set_ne true (show i ≠ t from fun e => hiD (by rw [e]; exact ht))]
        exact htl
      obtain ⟨hjun, oj, hoj, hall⟩ := mem_ready.1 hj
      have hnot : ∀ e ∈ oj.after, Region.binds md e = true → e.on ≠ i := fun e he hb heq => by
        have h1 := hall e he hb
        have h0 := (mem_ready.1 hr).1
        rw [heq] at h1
        rcases Nat.lt_or_ge i listed.size with h' | h'
        · simp [h'] at h0 h1; rw [h0] at h1; cases h1
        · simp [Array.getElem?_eq_none h'] at h1
      have h2 := wpOp_putIf hoj (hfree j oj hoj hji hjun hnot) (fun cs b => hsel i oi cs b hi) (fun cs b => hsel j oj cs b hoj) hQ hy h1
      have hfree' : ∀ k ok, ops[k]? = some ok → k ≠ i → (listed.setIfInBounds j true).getD k true = false →
          (∀ e ∈ ok.after, Region.binds md e = true → e.on ≠ i) → oi.apart ops ok = true := fun k ok hk hki hun hno => by
        refine hfree k ok hk hki ?_ hno
        by_cases hjk : j = k
        · subst hjk; exact hjun
        · rw [getD_set_ne true hjk] at hun; exact hun
      refine wpOp_mono (fun a' w' h3 => ⟨fun _ => h3.2.1 htl2, ih (listed.setIfInBounds j true) a' w' hfree' (ready_mono hr (Ne.symm hji)) (blocked_set hbl hjD) h3.1 (h3.2.1 htl2) ?_⟩) h2
      rw [Array.setIfInBounds_comm _ _ hji]
      exact h3.2.2

/-- What waits for i, at once or over others. -/
def descOf (md : Region.Mode) (ops : Array Oper) (i : Nat) : List Nat :=
  (List.range ops.size).foldl (fun D k => if ((ops[k]?).map fun o => o.after.any fun e => Region.binds md e && (e.on == i || D.contains e.on)).getD false then D ++ [k] else D) []
/-- All that is asked of a take, as one Bool. -/
def takeOk (md : Region.Mode) (ops : Array Oper) (listed : Array Bool) (i t : Nat) : Bool :=
  Region.noSelect ops && Region.free md ops listed i && (Region.ready md ops listed).contains i && blockedB md ops listed i (descOf md ops i) && (descOf md ops i).contains t
def pureOk (md : Region.Mode) (ops : Array Oper) (listed : Array Bool) (i : Nat) : Bool :=
  Region.noSelect ops && Region.free md ops listed i && (Region.ready md ops listed).contains i

/-- Take number i first: what it reads holds in every world that meets S, and t waits for it. -/
theorem wpAnyR_take {i d : Nat} {oi : Oper} (v : Value) {fuel : Nat} {listed : Array Bool} {a : Act} {w : World} (hi : ops[i]? = some oi) (hd : oi.dst = some d)
    (hok : takeOk md ops listed i t = true)
    (hQ : ∀ c a w, Q (.panic c) (a.put oi.dst v) w → Q (.panic c) a w) (hw : Region.wanted oi (yielded ops a.tmps) = true) (hy : ∀ w, S w → (execOp a.eval oi).run P w = .ok (.value v) w) (hS : S w)
    (h : wpAnyR P md ops Q S t fuel (listed.setIfInBounds i true) { a with tmps := a.tmps.setIfInBounds d v } w) : wpAnyR P md ops Q S t (fuel + 1) listed a w := by
  have h : wpAnyR P md ops Q S t fuel (listed.setIfInBounds i true) (a.put oi.dst v) w := by rw [hd]; exact h
  simp only [takeOk, Bool.and_eq_true] at hok
  obtain ⟨⟨⟨⟨h1, h2⟩, h3⟩, h4⟩, h5⟩ := hok
  exact wpAnyR_first hi (Region.noSelect_spec h1) hQ (by simpa using h5) fuel listed a w (Region.free_spec hi h2) (by simpa using h3) h4 (.inl ⟨hw, hy⟩) hS h

theorem wpAnyR_first0 {i : Nat} {oi : Oper} {v : Value} (hi : ops[i]? = some oi) (hsel : ∀ (j : Nat) (o : Oper) cs b, ops[j]? = some o → o.op ≠ .select cs b)
    (hQ : ∀ c a w, Q (.panic c) (a.put oi.dst v) w → Q (.panic c) a w) :
    ∀ (fuel : Nat) (listed : Array Bool) (a : Act) (w : World),
      (∀ j oj, ops[j]? = some oj → j ≠ i → listed.getD j true = false → (∀ e ∈ oj.after, Region.binds md e = true → e.on ≠ i) → oi.apart ops oj = true) →
      i ∈ Region.ready md ops listed → YieldsIf P ops (fun _ => True) oi v a → (listed.getD t true = false → S w) → t ≠ i →
      wpAnyR P md ops Q S t fuel (listed.setIfInBounds i true) (a.put oi.dst v) w → wpAnyR P md ops Q S t (fuel + 1) listed a w := by
  intro fuel
  induction fuel with
  | zero =>
    intro listed a w _ hr hy hS hti H
    refine ⟨fun h => (by rw [h] at hr; cases hr), fun j hj => ?_⟩
    by_cases hji : j = i
    · subst hji; exact hy.wpOp hi trivial ⟨fun h => hS (by rwa [getD_set_ne true (Ne.symm hti)] at h), H⟩
    · have := ready_mono hj hji
      rw [H.1] at this
      cases this
  | succ fuel ih =>
    intro listed a w hfree hr hy hS hti H
    refine ⟨fun h => (by rw [h] at hr; cases hr), fun j hj => ?_⟩
    by_cases hji : j = i
    · subst hji; exact hy.wpOp hi trivial ⟨fun h => hS (by rwa [getD_set_ne true (Ne.symm hti)] at h), H⟩
    · have h1 := H.2 j (ready_mono hj hji)
      obtain ⟨hjun, oj, hoj, hall⟩ := mem_ready.1 hj
      have hnot : ∀ e ∈ oj.after, Region.binds md e = true → e.on ≠ i := fun e he hb heq => by
        have h1 := hall e he hb
        have h0 := (mem_ready.1 hr).1
        rw [heq] at h1
        rcases Nat.lt_or_ge i listed.size with h' | h'
        · simp [h'] at h0 h1; rw [h0] at h1; cases h1
        · simp [Array.getElem?_eq_none h'] at h1
      have h2 := wpOp_putIf hoj (hfree j oj hoj hji hjun hnot) (fun cs b => hsel i oi cs b hi) (fun cs b => hsel j oj cs b hoj) hQ hy h1
      have hfree' : ∀ k ok, ops[k]? = some ok → k ≠ i → (listed.setIfInBounds j true).getD k true = false →
          (∀ e ∈ ok.after, Region.binds md e = true → e.on ≠ i) → oi.apart ops ok = true := fun k ok hk hki hun hno => by
        refine hfree k ok hk hki ?_ hno
        by_cases hjk : j = k
        · subst hjk; exact hjun
        · rw [getD_set_ne true hjk] at hun; exact hun
      have hback : ∀ {W : World}, (((listed.setIfInBounds i true).setIfInBounds j true).getD t true = false → S W) → ((listed.setIfInBounds j true).getD t true = false → S W) := fun h hl => h (by
        rw [Array.setIfInBounds_comm _ _ (Ne.symm hji), getD_set_ne true (Ne.symm hti)]
        exact hl)
      refine wpOp_mono (fun a' w' h3 => ⟨hback h3.2.1, ih (listed.setIfInBounds j true) a' w' hfree' (ready_mono hr (Ne.symm hji)) h3.1 (hback h3.2.1) hti ?_⟩) h2
      rw [Array.setIfInBounds_comm _ _ hji]
      exact h3.2.2
/-- Take number i first: it yields its value in whatever world. -/
theorem wpAnyR_pure {i d : Nat} {oi : Oper} (v : Value) {fuel : Nat} {listed : Array Bool} {a : Act} {w : World} (hi : ops[i]? = some oi) (hd : oi.dst = some d)
    (hok : pureOk md ops listed i = true) (hti : t ≠ i)
    (hQ : ∀ c a w, Q (.panic c) (a.put oi.dst v) w → Q (.panic c) a w) (hw : Region.wanted oi (yielded ops a.tmps) = true) (hy : ∀ w, (execOp a.eval oi).run P w = .ok (.value v) w) (hS : listed.getD t true = false → S w)
    (h : wpAnyR P md ops Q S t fuel (listed.setIfInBounds i true) { a with tmps := a.tmps.setIfInBounds d v } w) : wpAnyR P md ops Q S t (fuel + 1) listed a w := by
  have h : wpAnyR P md ops Q S t fuel (listed.setIfInBounds i true) (a.put oi.dst v) w := by rw [hd]; exact h
  simp only [pureOk, Bool.and_eq_true] at hok
  obtain ⟨⟨h1, h2⟩, h3⟩ := hok
  exact wpAnyR_first0 hi (Region.noSelect_spec h1) hQ fuel listed a w (Region.free_spec hi h2) (by simpa using h3) (.inl ⟨hw, fun w _ => hy w⟩) hS hti h

/-- The one that may come up. -/
theorem wpAnyR_one {i : Nat} {o : Oper} {fuel : Nat} {listed : Array Bool} {a : Act} {w : World} (hr : Region.ready md ops listed = [i]) (ho : ops[i]? = some o)
    (h : ∀ K' : Act → World → Prop, Shut (∀ a w, ((listed.setIfInBounds i true).getD t true = false → S w) → wpAnyR P md ops Q S t fuel (listed.setIfInBounds i true) a w → K' a w) → if Region.wanted o (yielded ops a.tmps) = true then Oper.wp P o a w K' Q else K' (a.put o.dst undef) w) :
    wpAnyR P md ops Q S t (fuel + 1) listed a w := by
  refine ⟨fun h0 => (by rw [hr] at h0; cases h0), fun j hj => ?_⟩
  rw [hr] at hj
  obtain rfl : j = i := by simpa using hj
  exact wpOp_step ho (fun K' hK => h K' (fun a w hS hW => hK a w ⟨hS, hW⟩))

/-- The two that may come up. -/
theorem wpAnyR_two {i j : Nat} {oi oj : Oper} {fuel : Nat} {listed : Array Bool} {a : Act} {w : World} (hr : Region.ready md ops listed = [i, j]) (hi : ops[i]? = some oi) (hj : ops[j]? = some oj)
    (h1 : ∀ K' : Act → World → Prop, Shut (∀ a w, ((listed.setIfInBounds i true).getD t true = false → S w) → wpAnyR P md ops Q S t fuel (listed.setIfInBounds i true) a w → K' a w) → if Region.wanted oi (yielded ops a.tmps) = true then Oper.wp P oi a w K' Q else K' (a.put oi.dst undef) w)
    (h2 : ∀ K' : Act → World → Prop, Shut (∀ a w, ((listed.setIfInBounds j true).getD t true = false → S w) → wpAnyR P md ops Q S t fuel (listed.setIfInBounds j true) a w → K' a w) → if Region.wanted oj (yielded ops a.tmps) = true then Oper.wp P oj a w K' Q else K' (a.put oj.dst undef) w) :
    wpAnyR P md ops Q S t (fuel + 1) listed a w := by
  refine ⟨fun h0 => (by rw [hr] at h0; cases h0), fun k hk => ?_⟩
  rw [hr] at hk
  rcases List.mem_cons.1 hk with rfl | hk
  · exact wpOp_step hi (fun K' hK => h1 K' (fun a w hS hW => hK a w ⟨hS, hW⟩))
  · obtain rfl : k = j := by simpa using hk
    exact wpOp_step hj (fun K' hK => h2 K' (fun a w hS hW => hK a w ⟨hS, hW⟩))

theorem wpAnyR_done {fuel : Nat} {listed : Array Bool} {a : Act} {w : World} (hr : Region.ready md ops listed = []) (h : Q .normal a w) : wpAnyR P md ops Q S t fuel listed a w := by
  cases fuel with
  | zero => exact ⟨hr, h⟩
  | succ fuel => exact ⟨fun _ => h, fun j hj => (by rw [hr] at hj; cases hj)⟩

theorem wp_region_rel (S : World → Prop) (t n : Nat) {id : Nat} {a : Act} {w : World} (hm : P.follows .mixedOrders = true) (hn : ops.size = n)
    (h : wpAnyR P .any ops Q S t n (Array.replicate n false) a w.drew) : (Code.region id ops true).wp P Q a w :=
  wp_region_any hm (wpAny_of_rel _ _ _ _ (hn ▸ h))

end
end Go.Proofs.YtcoelmhlkfignaaDoor
/-
  The walk over groups in memory: a block of 101 cells, and two rows of words.
-/
namespace Go.Proofs.YtcoelmhlkfignaaDoor
open Go.RowKit

def wd64 (x : Nat) : Value := .int .u64 ((x : Nat) : Int)
/-- The cells of the walk. -/
def gwList (Y N : List Nat) (n : Nat) (met done : Nat) (vp vg : Value) (gr re : List Nat) : List Value :=
  (Y ++ N).map wd64 ++ (.int .i64 (n : Int) :: wd64 met :: wd64 done :: vp :: vg :: (gr.map wd64 ++ re.map wd64))
structure GwLen (Y N gr re : List Nat) : Prop where
  y : Y.length = 24
  n : N.length = 24
  g : gr.length = 24
  r : re.length = 24
section
variable {Y N gr re : List Nat} {n met done p x : Nat} {vp vg u : Value}
theorem gw_ask (h : GwLen Y N gr re) : ((Y ++ N).map wd64).length = 48 := by simp [h.y, h.n]
theorem gwList_yes (h : GwLen Y N gr re) (hp : p < 24) : (gwList Y N n met done vp vg gr re)[p]? = some (wd64 (Y.getD p 0)) := by
  have hp' : p < Y.length := by rw [h.y]; exact hp
  unfold gwList
  rw [List.getElem?_append_left (by rw [gw_ask h]; omega), List.getElem?_map, List.getElem?_append_left hp']
  simp [hp']
theorem gwList_no (h : GwLen Y N gr re) (hp : p < 24) : (gwList Y N n met done vp vg gr re)[24 + p]? = some (wd64 (N.getD p 0)) := by
  have hp' : p < N.length := by rw [h.n]; exact hp
  unfold gwList
  rw [List.getElem?_append_left (by rw [gw_ask h]; omega), List.getElem?_map, List.getElem?_append_right (by rw [h.y]; omega), show 24 + p - Y.length = p by rw [h.y]; omega]
  simp [hp']
theorem gwList_tail (h : GwLen Y N gr re) (j : Nat) : (gwList Y N n met done vp vg gr re)[48 + j]? = (.int .i64 (n : Int) :: wd64 met :: wd64 done :: vp :: vg :: (gr.map wd64 ++ re.map wd64))[j]? := by
  unfold gwList
  rw [List.getElem?_append_right (by rw [gw_ask h]; omega), gw_ask h, show 48 + j - 48 = j by omega]
theorem gwList_group (h : GwLen Y N gr re) (hp : p < 24) : (gwList Y N n met done vp vg gr re)[53 + p]? = some (wd64 (gr.getD p 0)) := by
  have hp' : p < gr.length := by rw [h.g]; exact hp
  rw [show 53 + p = 48 + (p + 1 + 1 + 1 + 1 + 1) by omega, gwList_tail h]
  simp only [List.getElem?_cons_succ]
  rw [List.getElem?_append_left (by simpa using hp'), List.getElem?_map]
  simp [hp']
theorem gwList_reach (h : GwLen Y N gr re) (hp : p < 24) : (gwList Y N n met done vp vg gr re)[77 + p]? = some (wd64 (re.getD p 0)) := by
  have hp' : p < re.length := by rw [h.r]; exact hp
  rw [show 77 + p = 48 + (24 + p + 1 + 1 + 1 + 1 + 1) by omega, gwList_tail h]
  simp only [List.getElem?_cons_succ]
  rw [List.getElem?_append_right (by simp [h.g]), List.length_map, h.g, show 24 + p - 24 = p by omega, List.getElem?_map]
  simp [hp']
theorem gwList_set (h : GwLen Y N gr re) (j : Nat) (u : Value) : (gwList Y N n met done vp vg gr re).set (48 + j) u = (Y ++ N).map wd64 ++ (.int .i64 (n : Int) :: wd64 met :: wd64 done :: vp :: vg :: (gr.map wd64 ++ re.map wd64)).set j u := by
  unfold gwList
  rw [List.set_append_right _ _ (by rw [gw_ask h]; omega), gw_ask h, show 48 + j - 48 = j by omega]
theorem gwList_setMet (h : GwLen Y N gr re) : (gwList Y N n met done vp vg gr re).set 49 (wd64 x) = gwList Y N n x done vp vg gr re := gwList_set h 1 _
theorem gwList_setDone (h : GwLen Y N gr re) : (gwList Y N n met done vp vg gr re).set 50 (wd64 x) = gwList Y N n met x vp vg gr re := gwList_set h 2 _
theorem gwList_setPath (h : GwLen Y N gr re) : (gwList Y N n met done vp vg gr re).set 51 u = gwList Y N n met done u vg gr re := gwList_set h 3 _
theorem gwList_setGroups (h : GwLen Y N gr re) : (gwList Y N n met done vp vg gr re).set 52 u = gwList Y N n met done vp u gr re := gwList_set h 4 _
theorem gwList_setGroup (h : GwLen Y N gr re) (hp : p < 24) : (gwList Y N n met done vp vg gr re).set (53 + p) (wd64 x) = gwList Y N n met done vp vg (gr.set p x) re := by
  rw [show 53 + p = 48 + (p + 1 + 1 + 1 + 1 + 1) by omega, gwList_set h]
  simp only [List.set_cons_succ]
  rw [List.set_append_left _ _ (by simpa [h.g] using hp), ← List.map_set]
  rfl
theorem gwList_setReach (h : GwLen Y N gr re) : (gwList Y N n met done vp vg gr re).set (77 + p) (wd64 x) = gwList Y N n met done vp vg gr (re.set p x) := by
  rw [show 77 + p = 48 + (24 + p + 1 + 1 + 1 + 1 + 1) by omega, gwList_set h]
  simp only [List.set_cons_succ]
  rw [List.set_append_right _ _ (by simp [h.g]), List.length_map, h.g, show 24 + p - 24 = p by omega, ← List.map_set]
  rfl
end

/-- All words stay below 2^24. -/
structure GwLim (s : GW) : Prop where
  met : s.met < 16777216
  done : s.done < 16777216
  stk : ∀ x ∈ s.stk, x < 16777216
  groups : ∀ x ∈ s.groups, x < 16777216
  reach : ∀ x ∈ s.reach, x < 16777216
  stkN : s.stk.length ≤ 24
  groupsN : s.groups.length ≤ 24
/-- The walk in memory: block g, the path's row and the groups' row behind it, apart. -/
structure GWAt (w : World) (g : Nat) (Y N : List Nat) (n : Nat) (s : GW) (Ap : Option Addr) (cp : Nat) (Ag : Option Addr) (cg : Nat) : Prop where
  len : GwLen Y N s.group s.reach
  blk : Blk w g 61 (gwList Y N n s.met s.done (.slice Ap s.stk.length cp) (.slice Ag s.groups.length cg) s.group s.reach).toArray
  path : w.ownsRow (g + 1) 55 1 (.slice Ap s.stk.length cp) s.stk.length (s.stk.reverse.map wd64)
  groups : w.ownsRow (g + 1) 55 1 (.slice Ag s.groups.length cg) s.groups.length (s.groups.map wd64)
  apart : ∀ b, (Value.slice Ap s.stk.length cp).ownBlock = some b → (Value.slice Ag s.groups.length cg).ownBlock ≠ some b
  lim : GwLim s
section
variable {w w' : World} {g : Nat} {Y N : List Nat} {n p x : Nat} {s : GW} {Ap Ag : Option Addr} {cp cg : Nat}
theorem GWAt.lt (h : GWAt w g Y N n s Ap cp Ag cg) : g < w.heap.size := h.blk.lt
theorem GWAt.cellYes (h : GWAt w g Y N n s Ap cp Ag cg) (hp : p < 24) : w.cell? ⟨g, p, none⟩ = some (wd64 (Y.getD p 0)) := by
  rw [h.blk.cell p, List.getElem?_toArray]; exact gwList_yes h.len hp
theorem GWAt.cellNo (h : GWAt w g Y N n s Ap cp Ag cg) (hp : p < 24) : w.cell? ⟨g, 24 + p, none⟩ = some (wd64 (N.getD p 0)) := by
  rw [h.blk.cell (24 + p), List.getElem?_toArray]; exact gwList_no h.len hp
theorem GWAt.cellN (h : GWAt w g Y N n s Ap cp Ag cg) : w.cell? ⟨g, 48, none⟩ = some (.int .i64 (n : Int)) := by
  rw [h.blk.cell 48, List.getElem?_toArray]; exact gwList_tail h.len 0
theorem GWAt.cellMet (h : GWAt w g Y N n s Ap cp Ag cg) : w.cell? ⟨g, 49, none⟩ = some (wd64 s.met) := by
  rw [h.blk.cell 49, List.getElem?_toArray]; exact gwList_tail h.len 1
theorem GWAt.cellDone (h : GWAt w g Y N n s Ap cp Ag cg) : w.cell? ⟨g, 50, none⟩ = some (wd64 s.done) := by
  rw [h.blk.cell 50, List.getElem?_toArray]; exact gwList_tail h.len 2
theorem GWAt.cellPath (h : GWAt w g Y N n s Ap cp Ag cg) : w.cell? ⟨g, 51, none⟩ = some (.slice Ap s.stk.length cp) := by
  rw [h.blk.cell 51, List.getElem?_toArray]; exact gwList_tail h.len 3
theorem GWAt.cellGroups (h : GWAt w g Y N n s Ap cp Ag cg) : w.cell? ⟨g, 52, none⟩ = some (.slice Ag s.groups.length cg) := by
  rw [h.blk.cell 52, List.getElem?_toArray]; exact gwList_tail h.len 4
theorem GWAt.cellGroup (h : GWAt w g Y N n s Ap cp Ag cg) (hp : p < 24) : w.cell? ⟨g, 53 + p, none⟩ = some (wd64 (s.group.getD p 0)) := by
  rw [h.blk.cell (53 + p), List.getElem?_toArray]; exact gwList_group h.len hp
theorem GWAt.cellReach (h : GWAt w g Y N n s Ap cp Ag cg) (hp : p < 24) : w.cell? ⟨g, 77 + p, none⟩ = some (wd64 (s.reach.getD p 0)) := by
  rw [h.blk.cell (77 + p), List.getElem?_toArray]; exact gwList_reach h.len hp
theorem GWAt.on (h : GWAt w g Y N n s Ap cp Ag cg) (hb : Below w.heap.size w w') : GWAt w' g Y N n s Ap cp Ag cg :=
  ⟨h.len, h.blk.below hb h.lt, ownsRow_only h.path fun b hb' => hb.block b (h.path.lt b hb').2, ownsRow_only h.groups fun b hb' => hb.block b (h.groups.lt b hb').2, h.apart, h.lim⟩
/-- A cell of the block is set anew. -/
theorem GWAt.store {s' : GW} {i : Nat} {u : Value} (h : GWAt w g Y N n s Ap cp Ag cg) (hs : s'.stk = s.stk) (hg : s'.groups = s.groups) (hlen : GwLen Y N s'.group s'.reach) (hl : GwLim s')
    (he : (gwList Y N n s.met s.done (.slice Ap s.stk.length cp) (.slice Ag s.groups.length cg) s.group s.reach).set i u = gwList Y N n s'.met s'.done (.slice Ap s.stk.length cp) (.slice Ag s.groups.length cg) s'.group s'.reach) :
    GWAt (w.setCell ⟨g, i, none⟩ u) g Y N n s' Ap cp Ag cg := by
  have hk : ∀ k, k ≠ g → (w.setCell ⟨g, i, none⟩ u).heap[k]? = w.heap[k]? := fun k hk => Below.heap_setCell _ _ _ k hk
  refine ⟨hlen, ?_, ?_, ?_, ?_, hl⟩
  · rw [hs, hg, ← he]
    have := h.blk.set_ i u
    simpa using this
  · rw [hs]
    exact ownsRow_only h.path fun b hb => hk b (by have := (h.path.lt b hb).1; omega)
  · rw [hg]
    exact ownsRow_only h.groups fun b hb => hk b (by have := (h.groups.lt b hb).1; omega)
  · rw [hs, hg]
    exact h.apart
theorem GWAt.setMet (h : GWAt w g Y N n s Ap cp Ag cg) (hx : x < 16777216) : GWAt (w.setCell ⟨g, 49, none⟩ (wd64 x)) g Y N n { s with met := x } Ap cp Ag cg :=
  h.store rfl rfl h.len { h.lim with met := hx } (gwList_setMet h.len)
theorem GWAt.setDone (h : GWAt w g Y N n s Ap cp Ag cg) (hx : x < 16777216) : GWAt (w.setCell ⟨g, 50, none⟩ (wd64 x)) g Y N n { s with done := x } Ap cp Ag cg :=
  h.store rfl rfl h.len { h.lim with done := hx } (gwList_setDone h.len)
theorem GWAt.setGroup (h : GWAt w g Y N n s Ap cp Ag cg) (hp : p < 24) : GWAt (w.setCell ⟨g, 53 + p, none⟩ (wd64 x)) g Y N n { s with group := s.group.set p x } Ap cp Ag cg :=
  h.store rfl rfl ⟨h.len.y, h.len.n, by simpa using h.len.g, h.len.r⟩ ⟨h.lim.met, h.lim.done, h.lim.stk, h.lim.groups, h.lim.reach, h.lim.stkN, h.lim.groupsN⟩ (gwList_setGroup h.len hp)
theorem GWAt.setReach (h : GWAt w g Y N n s Ap cp Ag cg) (hx : x < 16777216) : GWAt (w.setCell ⟨g, 77 + p, none⟩ (wd64 x)) g Y N n { s with reach := s.reach.set p x } Ap cp Ag cg :=
  h.store rfl rfl ⟨h.len.y, h.len.n, h.len.g, by simpa using h.len.r⟩ ⟨h.lim.met, h.lim.done, h.lim.stk, h.lim.groups, (fun y hy => (List.mem_or_eq_of_mem_set hy).elim (h.lim.reach y) fun e => e ▸ hx), h.lim.stkN, h.lim.groupsN⟩ (gwList_setReach h.len)
end

set_option maxHeartbeats 1000000 in
/-- (*asking).all, wherever its words stand. -/
theorem askAll_at (g p y z : Nat) (w : World) (c0 : w.cell? ⟨g, p, none⟩ = some (wd64 y)) (c1 : w.cell? ⟨g, 24 + p, none⟩ = some (wd64 z)) (hp : p < 24) (hy : y < 18446744073709551616) (hn : z < 18446744073709551616) :
    Calls Tryd.prog 66 #[.pointer (some ⟨g, 0, none⟩), .int .i64 p] w fun e w' => e = .returned (wd64 (y ||| z)) ∧ Below w.heap.size w w' := by
  unfold wd64 at c0 c1 ⊢
  have ho : bits .or .u64 (y : Int) (z : Int) = ((y ||| z : Nat) : Int) := u64_or_nat y z hy hn
  go_enter Tryd.func66, Tryd.ntmps66
  go_wp2_with (fail)
  go_big_region
  go_wp2_with (fail)
  go_ret
  exact ⟨rfl, (Below.refl _ _).drew⟩

end Go.Proofs.YtcoelmhlkfignaaDoor
/-
  The walk over groups in memory: its two rows grow.
-/
namespace Go.Proofs.YtcoelmhlkfignaaDoor
open Go.RowKit

/-- The block of a row. -/
def bl (A : Option Addr) : Option Nat := A.map (·.block)
theorem bl_own (A : Option Addr) (n c : Nat) : (Value.slice A n c).ownBlock = bl A := by cases A <;> rfl
/-- What a step of the walk keeps: all but its block and its two rows; a row that moves, moves to new memory. -/
structure Keeps (g : Nat) (w : World) (Ap Ag : Option Addr) (w' : World) (Ap' Ag' : Option Addr) : Prop where
  below : Below g w w'
  keep : ∀ k, k < w.heap.size → k ≠ g → bl Ap ≠ some k → bl Ag ≠ some k → w'.heap[k]? = w.heap[k]?
  pa : ∀ b, bl Ap' = some b → bl Ap = some b ∨ w.heap.size ≤ b
  ga : ∀ b, bl Ag' = some b → bl Ag = some b ∨ w.heap.size ≤ b
theorem Keeps.refl (g : Nat) (w : World) (Ap Ag : Option Addr) : Keeps g w Ap Ag w Ap Ag := ⟨Below.refl _ _, fun _ _ _ _ _ => rfl, fun _ h => .inl h, fun _ h => .inl h⟩
theorem Keeps.trans {g : Nat} {w w1 w2 : World} {Ap Ag Ap1 Ag1 Ap2 Ag2 : Option Addr} (h : Keeps g w Ap Ag w1 Ap1 Ag1) (k : Keeps g w1 Ap1 Ag1 w2 Ap2 Ag2) : Keeps g w Ap Ag w2 Ap2 Ag2 := by
  have hs := h.below.size
  refine ⟨h.below.trans k.below, fun j h1 h2 h3 h4 => (k.keep j (by omega) h2 (fun e => ?_) (fun e => ?_)).trans (h.keep j h1 h2 h3 h4), fun b hb => ?_, fun b hb => ?_⟩
  · rcases h.pa j e with e2 | e2
    · exact h3 e2
    · omega
  · rcases h.ga j e with e2 | e2
    · exact h4 e2
    · omega
  · rcases k.pa b hb with e | e
    · exact h.pa b e
    · exact .inr (by omega)
  · rcases k.ga b hb with e | e
    · exact h.ga b e
    · exact .inr (by omega)
theorem Keeps.of_below {g : Nat} {w w' : World} {Ap Ag : Option Addr} (h : Below w.heap.size w w') (hg : g ≤ w.heap.size) : Keeps g w Ap Ag w' Ap Ag :=
  ⟨h.mono hg, fun k h1 _ _ _ => h.block k h1, fun _ h => .inl h, fun _ h => .inl h⟩
theorem Keeps.setG {g : Nat} {w w' : World} {Ap Ag Ap' Ag' : Option Addr} (h : Keeps g w Ap Ag w' Ap' Ag') (i : Nat) (u : Value) : Keeps g w Ap Ag (w'.setCell ⟨g, i, none⟩ u) Ap' Ag' :=
  ⟨h.below.setCell (Nat.le_refl _) _, fun k h1 h2 h3 h4 => (Below.heap_setCell _ _ _ k h2).trans (h.keep k h1 h2 h3 h4), h.pa, h.ga⟩

section
variable {w w' w4 : World} {g g2 cap : Nat} {Y N : List Nat} {n p x : Nat} {s : GW} {Ap Ag : Option Addr} {cp cg : Nat} {o : Obj}
theorem GWAt.keptG (h : GWAt w g Y N n s Ap cp Ag cg) (hgr : (w.alloc o).grownBy w4 (Value.slice Ag s.groups.length cg).ownBlock) : (∀ k, k < g + 1 → w4.heap[k]? = w.heap[k]?) ∧ (∀ b, (Value.slice Ap s.stk.length cp).ownBlock = some b → w4.heap[b]? = w.heap[b]?) := by
  have hg2 := grown_from_alloc hgr
  have hl := h.lt
  exact ⟨fun k hk => hg2.block k (by omega) (fun e => by have := (h.groups.lt k e.symm).1; omega), fun b hb => hg2.block b (h.path.lt b hb).2 (fun e => h.apart b hb e.symm)⟩
theorem GWAt.keptP (h : GWAt w g Y N n s Ap cp Ag cg) (hgr : (w.alloc o).grownBy w4 (Value.slice Ap s.stk.length cp).ownBlock) : (∀ k, k < g + 1 → w4.heap[k]? = w.heap[k]?) ∧ (∀ b, (Value.slice Ag s.groups.length cg).ownBlock = some b → w4.heap[b]? = w.heap[b]?) := by
  have hg2 := grown_from_alloc hgr
  have hl := h.lt
  exact ⟨fun k hk => hg2.block k (by omega) (fun e => by have := (h.path.lt k e.symm).1; omega), fun b hb => hg2.block b (h.groups.lt b hb).2 (fun e => h.apart b e.symm hb)⟩
theorem GWAt.pushGroups (h : GWAt w g Y N n s Ap cp Ag cg) (hx : x < 16777216) (hn : s.groups.length < 24) (hgr : (w.alloc o).grownBy w4 (Value.slice Ag s.groups.length cg).ownBlock) (hat : (Value.slice Ag s.groups.length cg).ownBlock = some g2 ∨ g2 = (w.alloc o).heap.size)
    (hown : w4.ownsRow (g + 1) 55 1 (.slice (some ⟨g2, 0, none⟩) (s.groups.length + 1) cap) (s.groups.length + 1) (s.groups.map wd64 ++ [wd64 x])) (hw : w' = w4.setCell ⟨g, 52, none⟩ (.slice (some ⟨g2, 0, none⟩) (s.groups.length + 1) cap)) :
    GWAt w' g Y N n { s with groups := s.groups ++ [x] } Ap cp (some ⟨g2, 0, none⟩) cap ∧ Keeps g w Ap Ag w' Ap (some ⟨g2, 0, none⟩) := by
  subst hw
  obtain ⟨k1, k2⟩ := h.keptG hgr
  have hg2 := grown_from_alloc hgr
  have hl : (s.groups ++ [x]).length = s.groups.length + 1 := by simp
  have hset : ∀ k, k ≠ g → (w4.setCell ⟨g, 52, none⟩ (.slice (some ⟨g2, 0, none⟩) (s.groups.length + 1) cap)).heap[k]? = w4.heap[k]? := fun k hk => Below.heap_setCell _ _ _ k hk
  refine ⟨⟨h.len, ?_, ?_, ?_, ?_, ?_⟩, ⟨⟨hg2.os, hg2.tape, hg2.output, by simpa using hg2.size, fun k hk => (hset k (by omega)).trans (k1 k (by omega))⟩, fun k h1 h2 _ h4 => (hset k h2).trans (hg2.block k h1 (fun e => h4 (by rw [← bl_own Ag s.groups.length cg]; exact e.symm))), fun b h => .inl h, fun b hb => ?_⟩⟩
  · show Blk _ g 61 (gwList Y N n s.met s.done (.slice Ap s.stk.length cp) (.slice (some ⟨g2, 0, none⟩) (s.groups ++ [x]).length cap) s.group s.reach).toArray
    rw [hl]
    have h1 := (show Blk w4 g 61 _ from (k1 g (Nat.lt_succ_self _)).trans h.blk).set_ 52 (.slice (some ⟨g2, 0, none⟩) (s.groups.length + 1) cap)
    have h2 := gwList_setGroups (n := n) (met := s.met) (done := s.done) (vp := .slice Ap s.stk.length cp) (vg := .slice Ag s.groups.length cg) (u := .slice (some ⟨g2, 0, none⟩) (s.groups.length + 1) cap) h.len
    simp only [List.setIfInBounds_toArray, h2] at h1
    exact h1
  · exact ownsRow_only h.path fun b hb => (hset b (by have := (h.path.lt b hb).1; omega)).trans (k2 b hb)
  · show World.ownsRow _ (g + 1) 55 1 (.slice (some ⟨g2, 0, none⟩) (s.groups ++ [x]).length cap) (s.groups ++ [x]).length ((s.groups ++ [x]).map wd64)
    rw [hl, List.map_append]
    exact ownsRow_only hown fun b hb => hset b (by have := (hown.lt b hb).1; omega)
  · intro b hb e
    have e1 : g2 = b := by simpa [Value.ownBlock] using e
    have := (h.path.lt b hb).2
    rcases hat with hat | hat
    · exact h.apart b hb (by rw [hat, e1])
    · simp at hat
      omega
  · exact ⟨h.lim.met, h.lim.done, h.lim.stk, fun y hy => (List.mem_append.1 hy).elim (h.lim.groups y) fun e => by rw [List.mem_singleton.1 e]; exact hx, h.lim.reach, h.lim.stkN, by show (s.groups ++ [x]).length ≤ 24; omega⟩
  · have e1 : g2 = b := by simpa [bl] using hb
    rcases hat with hat | hat
    · exact .inl (by rw [← e1, ← hat, bl_own])
    · simp at hat
      exact .inr (by omega)
theorem GWAt.pushPath (h : GWAt w g Y N n s Ap cp Ag cg) (hx : x < 16777216) (hn : s.stk.length < 24) (hgr : (w.alloc o).grownBy w4 (Value.slice Ap s.stk.length cp).ownBlock) (hat : (Value.slice Ap s.stk.length cp).ownBlock = some g2 ∨ g2 = (w.alloc o).heap.size)
    (hown : w4.ownsRow (g + 1) 55 1 (.slice (some ⟨g2, 0, none⟩) (s.stk.length + 1) cap) (s.stk.length + 1) (s.stk.reverse.map wd64 ++ [wd64 x])) (hw : w' = w4.setCell ⟨g, 51, none⟩ (.slice (some ⟨g2, 0, none⟩) (s.stk.length + 1) cap)) :
    GWAt w' g Y N n { s with stk := x :: s.stk } (some ⟨g2, 0, none⟩) cap Ag cg ∧ Keeps g w Ap Ag w' (some ⟨g2, 0, none⟩) Ag := by
  subst hw
  obtain ⟨k1, k2⟩ := h.keptP hgr
  have hg2 := grown_from_alloc hgr
  have hset : ∀ k, k ≠ g → (w4.setCell ⟨g, 51, none⟩ (.slice (some ⟨g2, 0, none⟩) (s.stk.length + 1) cap)).heap[k]? = w4.heap[k]? := fun k hk => Below.heap_setCell _ _ _ k hk
  refine ⟨⟨h.len, ?_, ?_, ?_, ?_, ?_⟩, ⟨⟨hg2.os, hg2.tape, hg2.output, by simpa using hg2.size, fun k hk => (hset k (by omega)).trans (k1 k (by omega))⟩, fun k h1 h2 h3 _ => (hset k h2).trans (hg2.block k h1 (fun e => h3 (by rw [← bl_own Ap s.stk.length cp]; exact e.symm))), fun b hb => ?_, fun b h => .inl h⟩⟩
  · show Blk _ g 61 (gwList Y N n s.met s.done (.slice (some ⟨g2, 0, none⟩) (s.stk.length + 1) cap) (.slice Ag s.groups.length cg) s.group s.reach).toArray
    have h1 := (show Blk w4 g 61 _ from (k1 g (Nat.lt_succ_self _)).trans h.blk).set_ 51 (.slice (some ⟨g2, 0, none⟩) (s.stk.length + 1) cap)
    have h2 := gwList_setPath (n := n) (met := s.met) (done := s.done) (vp := .slice Ap s.stk.length cp) (vg := .slice Ag s.groups.length cg) (u := .slice (some ⟨g2, 0, none⟩) (s.stk.length + 1) cap) h.len
    simp only [List.setIfInBounds_toArray, h2] at h1
    exact h1
  · show World.ownsRow _ (g + 1) 55 1 (.slice (some ⟨g2, 0, none⟩) (s.stk.length + 1) cap) (s.stk.length + 1) ((x :: s.stk).reverse.map wd64)
    rw [List.reverse_cons, List.map_append]
    exact ownsRow_only hown fun b hb => hset b (by have := (hown.lt b hb).1; omega)
  · exact ownsRow_only h.groups fun b hb => (hset b (by have := (h.groups.lt b hb).1; omega)).trans (k2 b hb)
  · intro b hb e
    have e1 : g2 = b := by simpa [Value.ownBlock] using hb
    have := (h.groups.lt b e).2
    rcases hat with hat | hat
    · exact h.apart b (by rw [hat, e1]) e
    · simp at hat
      omega
  · exact ⟨h.lim.met, h.lim.done, fun y hy => (List.mem_cons.1 hy).elim (fun e => e ▸ hx) (h.lim.stk y), h.lim.groups, h.lim.reach, by show s.stk.length + 1 ≤ 24; omega, h.lim.groupsN⟩
  · have e1 : g2 = b := by simpa [bl] using hb
    rcases hat with hat | hat
    · exact .inl (by rw [← e1, ← hat, bl_own])
    · simp at hat
      exact .inr (by omega)
/-- The path is cut back. -/
theorem GWAt.popPath {t : Nat} {r : List Nat} {gp : Nat} (h : GWAt w g Y N n s (some ⟨gp, 0, none⟩) cp Ag cg) (hs : s.stk = t :: r) (hw : w' = w.setCell ⟨g, 51, none⟩ (.slice (some ⟨gp, 0, none⟩) r.length cp)) :
    GWAt w' g Y N n { s with stk := r } (some ⟨gp, 0, none⟩) cp Ag cg ∧ Keeps g w (some ⟨gp, 0, none⟩) Ag w' (some ⟨gp, 0, none⟩) Ag := by
  subst hw
  have hset : ∀ k, k ≠ g → (w.setCell ⟨g, 51, none⟩ (.slice (some ⟨gp, 0, none⟩) r.length cp)).heap[k]? = w.heap[k]? := fun k hk => Below.heap_setCell _ _ _ k hk
  refine ⟨⟨h.len, ?_, ?_, ?_, ?_, ?_⟩, (Keeps.refl g w _ _).setG _ _⟩
  · show Blk _ g 61 (gwList Y N n s.met s.done (.slice (some ⟨gp, 0, none⟩) r.length cp) (.slice Ag s.groups.length cg) s.group s.reach).toArray
    have h1 := h.blk.set_ 51 (.slice (some ⟨gp, 0, none⟩) r.length cp)
    have h2 := gwList_setPath (n := n) (met := s.met) (done := s.done) (vp := .slice (some ⟨gp, 0, none⟩) s.stk.length cp) (vg := .slice Ag s.groups.length cg) (u := .slice (some ⟨gp, 0, none⟩) r.length cp) h.len
    simp only [List.setIfInBounds_toArray, h2] at h1
    exact h1
  · have hp := ownsRow_only (w' := w.setCell ⟨g, 51, none⟩ (.slice (some ⟨gp, 0, none⟩) r.length cp)) h.path fun b hb => hset b (by have := (h.path.lt b hb).1; omega)
    rw [hs] at hp
    obtain ⟨hl, hr⟩ := hp
    rcases hr with ⟨e1, _⟩ | ⟨g', cap, cur, e1, hb, hg, h1, h2, h3, h4⟩
    · cases e1
    · injection e1 with e1 e2 e3
      subst e3
      refine ⟨by simp, .inr ⟨g', cp, cur, by rw [e1], hb, hg, by simp at h1; show r.length ≤ cp; omega, h2, h3, ?_⟩⟩
      have h5 := congrArg (fun l => l.take r.length) h4
      simp only [List.take_take, List.length_cons] at h5
      show cur.toList.take (r.length * 1) = r.reverse.map wd64
      rw [show min r.length ((r.length + 1) * 1) = r.length * 1 by omega] at h5
      rw [h5, List.reverse_cons, List.map_append, List.take_append_of_le_length (by simp), List.take_of_length_le (by simp)]
  · exact ownsRow_only h.groups fun b hb => hset b (by have := (h.groups.lt b hb).1; omega)
  · exact fun b hb => h.apart b hb
  · have h24 := h.lim.stkN
    rw [hs] at h24
    exact ⟨h.lim.met, h.lim.done, fun y hy => h.lim.stk y (by rw [hs]; exact List.mem_cons_of_mem _ hy), h.lim.groups, h.lim.reach, by show r.length ≤ 24; simp at h24; omega, h.lim.groupsN⟩
end

theorem Tryd.infoUint : (Tryd.prog.info? 55).map (fun i => (i.zero, i.size, i.bytes)) = some (some (.int .u64 0), 1, 8) := by kernel_rfl
theorem bits_cast (x : Nat) : bitsOf x = (bitsN x).map fun j : Nat => (j : Int) := rfl
theorem andNot_less {a b : Nat} (ha : a < 18446744073709551616) (hb : b < 18446744073709551616) : bits .andNot .u64 (a : Int) (b : Int) = ((lessN a b : Nat) : Int) := by
  have hb' : b < 2 ^ 64 := hb
  rw [u64_andNot_nat a b ha hb, show (18446744073709551615 - b : Nat) = 2 ^ 64 - (b + 1) by omega]
  congr 1
  apply Nat.eq_of_testBit_eq
  intro k
  unfold lessN
  rw [Nat.testBit_and, Nat.testBit_two_pow_sub_succ hb', Nat.testBit_xor, Nat.testBit_and]
  by_cases hk : k < 64
  · simp only [hk, decide_true, Bool.true_and]
    cases a.testBit k <;> cases b.testBit k <;> rfl
  · have h0 : a.testBit k = false := Nat.testBit_lt_two_pow (Nat.lt_of_lt_of_le ha (by
      have : (2 : Nat) ^ 64 ≤ 2 ^ k := Nat.pow_le_pow_right (by decide) (by omega)
      omega))
    simp [h0]

end Go.Proofs.YtcoelmhlkfignaaDoor
/-
  Words for facts (a number and a list of integers), and the walks of toFact, eqFact, szFact.
-/
namespace Go.Proofs.YtcoelmhlkfignaaDoor
open Go.RowKit

end Go.Proofs.YtcoelmhlkfignaaDoor
/-
  Words for lists of facts: what a slice of facts reads as, and a row of facts of the call's own. No walk.
-/
namespace Go.Proofs.YtcoelmhlkfignaaDoor
open Go.RowKit

/-- The slice value v reads as the facts fs, in blocks below B. -/
def RdFacts (w : World) (B : Nat) (v : Value) (fs : List LFact) : Prop :=
  ∃ A c, v = .slice A fs.length c ∧ fs.length ≤ c ∧ (0 < fs.length → ∃ b o, A = some ⟨b, o, none⟩ ∧ b < B ∧ ∀ k (h : k < fs.length), ∃ a,
    w.cell? ⟨b, o + k * 2, none⟩ = some (.int .i64 fs[k].1) ∧ w.cell? ⟨b, o + k * 2 + 1, none⟩ = some a ∧ RdInts w B a fs[k].2)

theorem RdFacts.below {w w' : World} {B B' : Nat} {v : Value} {fs : List LFact} (h : RdFacts w B v fs) (hb : Below B' w w') (hB : B ≤ B') : RdFacts w' B v fs := by
  obtain ⟨A, c, rfl, hc, h⟩ := h
  refine ⟨A, c, rfl, hc, fun hn => ?_⟩
  obtain ⟨b, o, rfl, hlt, hk⟩ := h hn
  refine ⟨b, o, rfl, hlt, fun k hkl => ?_⟩
  obtain ⟨a, h1, h2, h3⟩ := hk k hkl
  exact ⟨a, (hb.cell (p := ⟨b, o + k * 2, none⟩) (by show b < B'; omega)).trans h1, (hb.cell (p := ⟨b, o + k * 2 + 1, none⟩) (by show b < B'; omega)).trans h2, h3.below hb hB⟩
theorem RdFacts.more {w : World} {B B' : Nat} {v : Value} {fs : List LFact} (h : RdFacts w B v fs) (hB : B ≤ B') : RdFacts w B' v fs := by
  obtain ⟨A, c, rfl, hc, h⟩ := h
  refine ⟨A, c, rfl, hc, fun hn => ?_⟩
  obtain ⟨b, o, rfl, hlt, hk⟩ := h hn
  refine ⟨b, o, rfl, by omega, fun k hkl => ?_⟩
  obtain ⟨a, h1, h2, h3⟩ := hk k hkl
  exact ⟨a, h1, h2, h3.more hB⟩
theorem RdFacts.on {w w' : World} {v : Value} {fs : List LFact} (h : RdFacts w w.heap.size v fs) (hb : Below w.heap.size w w') : RdFacts w' w'.heap.size v fs := (h.below hb (Nat.le_refl _)).more hb.size

/-- The cells of facts, a fact's two behind each other. -/
def flat : List LFact → List Value → List Value
  | f :: fs, a :: av => .int .i64 f.1 :: a :: flat fs av
  | _, _ => []

theorem flat_length : ∀ (fs : List LFact) (av : List Value), av.length = fs.length → (flat fs av).length = fs.length * 2
  | [], _, _ => by simp [flat]
  | f :: fs, [], h => by simp at h
  | f :: fs, a :: av, h => by
    have := flat_length fs av (by simpa using h)
    simp only [flat, List.length_cons, this]
    omega
theorem flat_at : ∀ (fs : List LFact) (av : List Value) (_ : av.length = fs.length) (k : Nat) (hk : k < fs.length) (hk' : k < av.length),
    (flat fs av)[k * 2]? = some (.int .i64 fs[k].1) ∧ (flat fs av)[k * 2 + 1]? = some av[k]
  | [], _, _, k, hk, _ => absurd hk (by simp)
  | f :: fs, [], h, _, _, _ => by simp at h
  | f :: fs, a :: av, h, 0, _, _ => by simp [flat]
  | f :: fs, a :: av, h, k + 1, hk, hk' => by
    have := flat_at fs av (by simpa using h) k (by simpa using hk) (by simpa using hk')
    simpa [flat, Nat.add_mul] using this
theorem flat_snoc : ∀ (fs : List LFact) (av : List Value) (_ : av.length = fs.length) (f : LFact) (a : Value), flat (fs ++ [f]) (av ++ [a]) = flat fs av ++ [.int .i64 f.1, a]
  | [], [], _, f, a => by simp [flat]
  | [], a' :: av, h, _, _ => by simp at h
  | f :: fs, [], h, _, _ => by simp at h
  | f :: fs, a :: av, h, g, b => by simp [flat, flat_snoc fs av (by simpa using h) g b]

/-- Rows of integers of the call's own, no two in one block. -/
structure OwnArgs (w : World) (lo hi : Nat) (av : List Value) (xss : List (List Int)) : Prop where
  len : av.length = xss.length
  own : ∀ i (h : i < xss.length) (h' : i < av.length), OwnInts w lo hi av[i] xss[i]
  apart : av.Pairwise fun a b => ∀ g, a.ownBlock = some g → b.ownBlock ≠ some g

section
variable {w w' : World} {lo hi lo' hi' B : Nat} {av : List Value} {xss : List (List Int)}
theorem OwnArgs.nil : OwnArgs w lo hi [] [] := ⟨rfl, fun i h => absurd h (by simp), .nil⟩
theorem OwnArgs.below (h : OwnArgs w lo hi av xss) (hb : Below B w w') (hB : hi ≤ B) : OwnArgs w' lo hi av xss := ⟨h.len, fun i h1 h2 => (h.own i h1 h2).below hb hB, h.apart⟩
theorem OwnArgs.mono (h : OwnArgs w lo hi av xss) (h1 : lo' ≤ lo) (h2 : hi ≤ hi') : OwnArgs w lo' hi' av xss := ⟨h.len, fun i h3 h4 => (h.own i h3 h4).mono h1 h2, h.apart⟩
theorem OwnArgs.set (h : OwnArgs w lo hi av xss) {p : Addr} (hp : p.block < lo ∨ hi ≤ p.block) (u : Value) : OwnArgs (w.setCell p u) lo hi av xss := ⟨h.len, fun i h3 h4 => (h.own i h3 h4).set hp u, h.apart⟩
theorem OwnInts.block {v : Value} {xs : List Int} (h : OwnInts w lo hi v xs) {g : Nat} (hg : v.ownBlock = some g) : lo ≤ g ∧ g < hi := ⟨(h.1.lt g hg).1, h.2 g hg⟩
/-- One more, in later blocks. -/
theorem OwnArgs.snoc (h : OwnArgs w lo hi av xss) {v : Value} {xs : List Int} (hv : OwnInts w hi hi' v xs) (hl : lo ≤ hi) (hh : hi ≤ hi') : OwnArgs w lo hi' (av ++ [v]) (xss ++ [xs]) := by
  have hlen := h.len
  refine ⟨by simp [hlen], fun i h1 h2 => ?_, ?_⟩
  · by_cases e : i < xss.length
    · rw [List.getElem_append_left (by omega), List.getElem_append_left e]
      exact (h.own i e (by omega)).mono (Nat.le_refl _) hh
    · have e2 : i = xss.length := by simp at h1; omega
      subst e2
      simp [← hlen]
      exact hv.mono hl (Nat.le_refl _)
  · rw [List.pairwise_append]
    refine ⟨h.apart, by simp, fun a ha b hb g hg hg' => ?_⟩
    simp at hb
    subst hb
    obtain ⟨i, hi', rfl⟩ := List.getElem_of_mem ha
    have h1 := (h.own i (by omega) hi').block hg
    have h2 := hv.block hg'
    omega
end

section
variable {w w' : World} {lo hi lo' hi' B : Nat} {v : Value} {fs : List LFact}
theorem ownsRow_below {e : TypeId} {size n : Nat} {xs : List Value} (h : w.ownsRow lo e size v n xs) (hlt : ∀ g, v.ownBlock = some g → g < hi) (hb : Below B w w') (hB : hi ≤ B) : w'.ownsRow lo e size v n xs := by
  obtain ⟨hlen, h⟩ := h
  refine ⟨hlen, ?_⟩
  rcases h with h | ⟨g, cap, cur, rfl, hbg, hg, r⟩
  · exact .inl h
  · exact .inr ⟨g, cap, cur, rfl, hbg, by rw [hb.block g (by have := hlt g rfl; omega)]; exact hg, r⟩
theorem ownsRow_mono {e : TypeId} {size n : Nat} {xs : List Value} (h : w.ownsRow lo e size v n xs) (h1 : lo' ≤ lo) : w.ownsRow lo' e size v n xs := by
  obtain ⟨hlen, h⟩ := h
  refine ⟨hlen, ?_⟩
  rcases h with h | ⟨g, cap, cur, rfl, hbg, r⟩
  · exact .inl h
  · exact .inr ⟨g, cap, cur, rfl, by omega, r⟩
end

/-- n facts' cells as make lays them. -/
def zeroCells : Nat → List Value
  | 0 => []
  | n + 1 => .int .i64 0 :: .slice none 0 0 :: zeroCells n
theorem zeroCells_length : ∀ n, (zeroCells n).length = n * 2
  | 0 => rfl
  | n + 1 => by simp [zeroCells, zeroCells_length n]; omega
theorem zeroCells_at : ∀ (n j : Nat), j < n * 2 → (zeroCells n)[j]? = some (if j % 2 = 0 then .int .i64 0 else .slice none 0 0)
  | 0, j, h => by omega
  | n + 1, 0, _ => by simp [zeroCells]
  | n + 1, 1, _ => by simp [zeroCells]
  | n + 1, j + 2, h => by
    have := zeroCells_at n j (by omega)
    simp only [zeroCells, List.getElem?_cons_succ, this]
    congr 2
    simp
theorem madeCells_facts (n : Nat) : (madeCells #[.int .i64 0, .slice none 0 0] (n * 2)).toList = zeroCells n := by
  apply List.ext_getElem?
  intro j
  by_cases h : j < n * 2
  · rw [zeroCells_at n j h]
    have h2 : j % 2 = 0 ∨ j % 2 = 1 := by omega
    rcases h2 with h2 | h2 <;> simp [madeCells, h, h2]
  · rw [List.getElem?_eq_none (by simp [madeCells]; omega), List.getElem?_eq_none (by rw [zeroCells_length]; omega)]

/-- How many integers facts have together. -/
def tot (fs : List LFact) : Nat := (fs.map fun f => f.2.length).sum

theorem len_le_tot : ∀ (fs : List LFact) (k : Nat) (h : k < fs.length), fs[k].2.length ≤ tot fs
  | [], _, h => absurd h (by simp)
  | f :: fs, 0, _ => by simp [tot]
  | f :: fs, k + 1, h => by
    have := len_le_tot fs k (by simpa using h)
    simp only [tot, List.map_cons, List.sum_cons, List.getElem_cons_succ] at this ⊢
    omega
theorem tot_take : ∀ (fs : List LFact) (k : Nat) (h : k < fs.length), tot (fs.take (k + 1)) = tot (fs.take k) + fs[k].2.length
  | [], _, h => absurd h (by simp)
  | f :: fs, 0, _ => by simp [tot]
  | f :: fs, k + 1, h => by
    have := tot_take fs k (by simpa using h)
    simp only [tot, List.take_succ_cons, List.map_cons, List.sum_cons, List.getElem_cons_succ] at this ⊢
    omega
end Go.Proofs.YtcoelmhlkfignaaDoor
/-
  The walks over lists of facts: toFactS, eqFactS, szFactS.
-/
namespace Go.Proofs.YtcoelmhlkfignaaDoor
open Go.RowKit

/-- 'the first k of both are the same', kept from the walk. -/
def FSameTo (xs ys : List LFact) (k : Nat) : Prop := xs.take k = ys.take k
theorem FSameTo.step {xs ys : List LFact} {k : Nat} (h : FSameTo xs ys k) (h1 : k < xs.length) (h2 : k < ys.length) (e : xs[k] = ys[k]) : FSameTo xs ys (k + 1) := by
  unfold FSameTo at h ⊢
  rw [take_snoc xs k h1, take_snoc ys k h2, h, e]
theorem FSameTo.eq {xs ys : List LFact} (h : FSameTo xs ys xs.length) (hl : xs.length = ys.length) : xs = ys := by
  unfold FSameTo at h
  rwa [List.take_length, hl, List.take_length] at h

/-- What szFactS answers: -1, or what is left when the facts and all their integers are taken. -/
def SzResF (r left : Int) (fs : List LFact) : Prop := r = -1 ∨ (0 ≤ r ∧ r + fs.length + tot fs = left)
def SzToF (r left : Int) (fs : List LFact) (k : Nat) : Prop := 0 ≤ r ∧ r + fs.length + tot (fs.take k) = left

end Go.Proofs.YtcoelmhlkfignaaDoor
/-
  Marks: what markIntS, markFactS leave and heldIntS, heldFactS find. The words, and the walks over integers.
-/
namespace Go.Proofs.YtcoelmhlkfignaaDoor
open Go.RowKit

section
variable {lo hi lo' hi' : Nat} {w w1 w' : World}
end

end Go.Proofs.YtcoelmhlkfignaaDoor
/-
  The reader that the drawing goes by: bytes that are read, and pick.
-/
namespace Go.Proofs.YtcoelmhlkfignaaDoor
open Go.RowKit

/-- The slice value v reads as the bytes bs, in blocks below B. -/
def RdBytes (w : World) (B : Nat) (v : Value) (bs : List Nat) : Prop :=
  ∃ A c, v = .slice A bs.length c ∧ bs.length ≤ c ∧ (0 < bs.length → ∃ b o, A = some ⟨b, o, none⟩ ∧ b < B ∧ ∀ k (h : k < bs.length), w.cell? ⟨b, o + k, none⟩ = some (.int .u8 (bs[k] : Nat)))

theorem RdBytes.off {w w' : World} {B : Nat} {v : Value} {bs : List Nat} (h : RdBytes w B v bs) (hb : ∀ k, k < B → w'.heap[k]? = w.heap[k]?) : RdBytes w' B v bs := by
  obtain ⟨A, c, rfl, hc, h⟩ := h
  refine ⟨A, c, rfl, hc, fun hn => ?_⟩
  obtain ⟨b, o, rfl, hlt, hk⟩ := h hn
  refine ⟨b, o, rfl, hlt, fun k hkl => ?_⟩
  rw [← hk k hkl]
  simp [World.cell?, hb b hlt]

/-- What pick may answer. -/
def PickOf (n x : Int) : Prop := (0 < n → 0 ≤ x ∧ x < n) ∧ (n < 1 → x = 0)
theorem PickOf.of {n x : Int} (h1 : 1 ≤ n) (h : 0 ≤ x ∧ x < n) : PickOf n x := ⟨fun _ => h, fun h2 => by omega⟩
theorem PickOf.zero (n : Int) : PickOf n 0 := ⟨fun h => ⟨Int.le_refl _, h⟩, fun _ => rfl⟩
theorem xor_i64 (X Y : Nat) (hX : X < 4611686018427387904) (hY : Y < 4611686018427387904) : bits .xor .i64 (X : Int) (Y : Int) = ((X ^^^ Y : Nat) : Int) ∧ X ^^^ Y < 4611686018427387904 := by
  have hx : X ^^^ Y < 2 ^ 62 := Nat.xor_lt_two_pow (by omega) (by omega)
  refine ⟨?_, by omega⟩
  have h1 : (BitVec.ofInt 64 (X : Int)).toNat = X := by
    rw [BitVec.ofInt_natCast, BitVec.toNat_ofNat]; exact Nat.mod_eq_of_lt (by omega)
  have h2 : (BitVec.ofInt 64 (Y : Int)).toNat = Y := by
    rw [BitVec.ofInt_natCast, BitVec.toNat_ofNat]; exact Nat.mod_eq_of_lt (by omega)
  show IntKind.i64.wrap ((BitVec.ofInt 64 (X : Int) ^^^ BitVec.ofInt 64 (Y : Int)).toNat : Int) = _
  rw [BitVec.toNat_xor, h1, h2]
  simp [IntKind.wrap, IntKind.bits, IntKind.signed]
  omega
theorem emod_range {n y : Int} (h1 : 1 ≤ n) : 0 ≤ y % n ∧ y % n < n := ⟨Int.emod_nonneg _ (by omega), Int.emod_lt_of_pos _ (by omega)⟩

end Go.Proofs.YtcoelmhlkfignaaDoor
/-
  append of a slice of integers that is read, nil and empty let in, onto a row of the call's own: the new value written out.
-/
namespace Go.Proofs.YtcoelmhlkfignaaDoor
open Go.RowKit

section
variable {P : Program} (w : World)

theorem run_append_nilsrc (base : Nat) (t ty e : TypeId) (i : TypeInfo) (size : Nat) (ht : P.underlying t = some (.slice e)) (hi : P.info? e = some i)
    (v : Value) (n : Nat) (xs : List Value) (hown : w.ownsRow base e size v n xs) (c : Nat) : (Builtin.append_ #[t, t] ty #[v, .slice none 0 c]).run P w = .ok v w := by
  rcases hown.2 with ⟨rfl, rfl⟩ | ⟨g, cap, cur, rfl, _, _, hnc, _⟩
  · simp [Builtin.append_, run_underlying ht, sizeOf, typeInfo, hi, Builtin.lenOf, Builtin.firstCells]
  · simp [Builtin.append_, run_underlying ht, sizeOf, typeInfo, hi, Builtin.lenOf, Builtin.firstCells, hnc, storeCells]

theorem run_append_rd (base : Nat) (t ty e : TypeId) (i : TypeInfo) (z : Value) (bytes : Nat) (ht : P.underlying t = some (.slice e)) (hi : P.info? e = some i) (hz : i.zero = some z)
    (hsize : i.size = 1) (hby : i.bytes = bytes) (hzs : z.cells.size = 1)
    (v : Value) (n : Nat) (xs : List Value) (hown : w.ownsRow base e 1 v n xs) (B : Nat) (x : Value) (ys : List Int) (hr : RdInts w B x ys)
    (h63 : n + ys.length ≤ maxLen) (hbytes : (n + ys.length) * bytes ≤ 140737488355328) (hbase : base ≤ w.heap.size) :
    ∃ A' c' w', (Builtin.append_ #[t, t] ty #[v, x]).run P w = .ok (.slice A' (n + ys.length) c') w' ∧ w'.ownsRow base e 1 (.slice A' (n + ys.length) c') (n + ys.length) (xs ++ ys.map (Value.int .i64)) ∧ w.grownBy w' v.ownBlock ∧
      ((Value.slice A' (n + ys.length) c').ownBlock = v.ownBlock ∨ (Value.slice A' (n + ys.length) c').ownBlock = some w.heap.size) := by
  have hform : ∀ {w' : World} {v' : Value} {m : Nat} {zs : List Value}, w'.ownsRow base e 1 v' m zs → ∃ A c, v' = .slice A m c := by
    intro w' v' m zs h
    rcases h.2 with ⟨rfl, h0⟩ | ⟨g, cap, _, rfl, _⟩
    · exact ⟨none, 0, by rw [h0]⟩
    · exact ⟨_, _, rfl⟩
  obtain ⟨A, c, rfl, hc, hcell⟩ := hr
  rcases A with _ | ad
  · have h0 : ys.length = 0 := by
      rcases Nat.eq_zero_or_pos ys.length with h0 | h0
      · exact h0
      · obtain ⟨b, o, e, _⟩ := hcell h0
        cases e
    have hys : ys = [] := List.eq_nil_of_length_eq_zero h0
    subst hys
    obtain ⟨A', c', hv⟩ := hform hown
    refine ⟨A', c', w, ?_, by simpa [← hv] using hown, World.grownBy.refl w _, .inl (by rw [hv]; rfl)⟩
    simp only [List.length_nil, Nat.add_zero]
    rw [← hv]
    exact run_append_nilsrc w base t ty e i 1 ht hi v n xs hown c
  · have hnews : ∀ j u, (ys.map (Value.int .i64))[j]? = some u → w.cell? (ad.add j) = some u := by
      intro j u hu
      have hj : j < ys.length := by
        rcases Nat.lt_or_ge j ys.length with h | h
        · exact h
        · rw [List.getElem?_eq_none (by simpa using h)] at hu; cases hu
      obtain ⟨b, o, e, _, hx⟩ := hcell (by omega)
      injection e with e
      subst e
      rw [Go.WideShapes.add_plain, hx j hj]
      rw [List.getElem?_map, List.getElem?_eq_getElem hj] at hu
      exact hu
    obtain ⟨v', w', hrun, h2, h3, _, h5⟩ := run_append_own_at (P := P) w base t ty e i z 1 bytes ht hi hz hsize hby hzs (by decide) v n xs hown ad ys.length c (ys.map (Value.int .i64)) (by simp) hnews
      (fun u hu => by simp at hu; obtain ⟨q, _, rfl⟩ := hu; rfl) h63 hbytes hbase
    obtain ⟨A', c', hv⟩ := hform h2
    subst hv
    exact ⟨A', c', w', hrun, h2, h3, h5⟩

theorem wp_append_rd {o : Oper} {a : Act} {K : Act → World → Prop} {Q : Exit → Act → World → Prop} (s x : Operand) (t : TypeId)
    (ho : o.op = .call { callee := .builtin .append, args := #[s, x], argTypes := #[t, t] })
    (base : Nat) (e : TypeId) (i : TypeInfo) (z : Value) (bytes : Nat) (ht : P.underlying t = some (.slice e)) (hi : P.info? e = some i) (hz : i.zero = some z)
    (hsize : i.size = 1) (hby : i.bytes = bytes) (hzs : z.cells.size = 1)
    (v : Value) (n : Nat) (xs : List Value) (hs : a.eval s = v) (hown : w.ownsRow base e 1 v n xs) (B : Nat) (xv : Value) (ys : List Int) (hx : a.eval x = xv) (hr : RdInts w B xv ys)
    (h63 : n + ys.length ≤ maxLen) (hbytes : (n + ys.length) * bytes ≤ 140737488355328) (hbase : base ≤ w.heap.size)
    (h : ∀ A' c' w', w'.ownsRow base e 1 (.slice A' (n + ys.length) c') (n + ys.length) (xs ++ ys.map (Value.int .i64)) → w.grownBy w' v.ownBlock →
      ((Value.slice A' (n + ys.length) c').ownBlock = v.ownBlock ∨ (Value.slice A' (n + ys.length) c').ownBlock = some w.heap.size) → K (a.put o.dst (.slice A' (n + ys.length) c')) w') : o.wp P a w K Q := by
  obtain ⟨A', c', w', hrun, h2, h3, h4⟩ := run_append_rd (P := P) w base t o.type e i z bytes ht hi hz hsize hby hzs v n xs hown B xv ys hr h63 hbytes hbase
  unfold Oper.wp execOp
  simp only [ho, resolve, invoke, builtin, Sem.run_bind, Sem.run_pure, Result.andThen_ok, List.map_toArray, List.map_cons, List.map_nil, hs, hx, hrun]
  exact h A' c' w' h2 h3 h4

theorem step_append_rd {ops : Array Oper} {o : Oper} {a : Act} {K : Act → World → Prop} {Q : Exit → Act → World → Prop} {E : Prop} (hgd : o.guard = none) (s x : Operand) (t : TypeId)
    (ho : o.op = .call { callee := .builtin .append, args := #[s, x], argTypes := #[t, t] })
    (base : Nat) (e : TypeId) (i : TypeInfo) (z : Value) (bytes : Nat) (ht : P.underlying t = some (.slice e)) (hi : P.info? e = some i) (hz : i.zero = some z)
    (hsize : i.size = 1) (hby : i.bytes = bytes) (hzs : z.cells.size = 1)
    (v : Value) (n : Nat) (xs : List Value) (hs : a.eval s = v) (hown : w.ownsRow base e 1 v n xs) (B : Nat) (xv : Value) (ys : List Int) (hx : a.eval x = xv) (hr : RdInts w B xv ys)
    (h63 : n + ys.length ≤ maxLen) (hbytes : (n + ys.length) * bytes ≤ 140737488355328) (hbase : base ≤ w.heap.size)
    (h : ∀ A' c' w', w'.ownsRow base e 1 (.slice A' (n + ys.length) c') (n + ys.length) (xs ++ ys.map (Value.int .i64)) → w.grownBy w' v.ownBlock →
      ((Value.slice A' (n + ys.length) c').ownBlock = v.ownBlock ∨ (Value.slice A' (n + ys.length) c').ownBlock = some w.heap.size) → K (a.put o.dst (.slice A' (n + ys.length) c')) w') :
    if Region.wanted o (yielded ops a.tmps) = true then Oper.wp P o a w K Q else E := by
  have hw : Region.wanted o (yielded ops a.tmps) = true := by simp [Region.wanted, hgd]
  rw [if_pos hw]
  exact wp_append_rd w s x t ho base e i z bytes ht hi hz hsize hby hzs v n xs hs hown B xv ys hx hr h63 hbytes hbase h

theorem wpList_append_rd {ops : Array Oper} {rest : List Oper} {o : Oper} {a : Act} {Q : Exit → Act → World → Prop} (hgd : o.guard = none) (s x : Operand) (t : TypeId)
    (ho : o.op = .call { callee := .builtin .append, args := #[s, x], argTypes := #[t, t] })
    (base : Nat) (e : TypeId) (i : TypeInfo) (z : Value) (bytes : Nat) (ht : P.underlying t = some (.slice e)) (hi : P.info? e = some i) (hz : i.zero = some z)
    (hsize : i.size = 1) (hby : i.bytes = bytes) (hzs : z.cells.size = 1)
    (v : Value) (n : Nat) (xs : List Value) (hs : a.eval s = v) (hown : w.ownsRow base e 1 v n xs) (B : Nat) (xv : Value) (ys : List Int) (hx : a.eval x = xv) (hr : RdInts w B xv ys)
    (h63 : n + ys.length ≤ maxLen) (hbytes : (n + ys.length) * bytes ≤ 140737488355328) (hbase : base ≤ w.heap.size)
    (h : ∀ A' c' w', w'.ownsRow base e 1 (.slice A' (n + ys.length) c') (n + ys.length) (xs ++ ys.map (Value.int .i64)) → w.grownBy w' v.ownBlock →
      ((Value.slice A' (n + ys.length) c').ownBlock = v.ownBlock ∨ (Value.slice A' (n + ys.length) c').ownBlock = some w.heap.size) → wpList P ops Q rest (a.put o.dst (.slice A' (n + ys.length) c')) w') : wpList P ops Q (o :: rest) a w :=
  wpList_plain hgd fun _ hK => wp_append_rd w s x t ho base e i z bytes ht hi hz hsize hby hzs v n xs hs hown B xv ys hx hr h63 hbytes hbase fun A' c' w' h2 h3 h4 => hK _ _ (h A' c' w' h2 h3 h4)

end

end Go.Proofs.YtcoelmhlkfignaaDoor
/-
  The walks that copy a fact: the program's copyFact, the specification's l1Copy.
-/
namespace Go.Proofs.YtcoelmhlkfignaaDoor
open Go.RowKit

theorem Only.keepsRd {lo hi : Nat} {w w' : World} (h : Only lo hi w w') {v : Value} {xs : List Int} {B : Nat} (hr : RdInts w B v xs) (hB : B ≤ lo) (hs : B ≤ w.heap.size) : RdInts w' w'.heap.size v xs :=
  (hr.below (h.below hB hs) (Nat.le_refl _)).more (Nat.le_trans hs h.size)
theorem Only.blk {lo hi : Nat} {w w' : World} (h : Only lo hi w w') {g : Nat} {t : TypeId} {cs : Array Value} (hb : Blk w g t cs) (hg : g < lo ∨ hi ≤ g) : Blk w' g t cs := (h.block g hb.lt hg).trans hb

end Go.Proofs.YtcoelmhlkfignaaDoor
