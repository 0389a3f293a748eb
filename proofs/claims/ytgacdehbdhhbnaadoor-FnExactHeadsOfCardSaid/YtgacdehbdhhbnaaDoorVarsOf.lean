/-
  The walks of both VarsOf.
-/
import Derived.Test.YtgacdehbdhhbnaaDoorBitNums
import Derived.Test.YtgacdehbdhhbnaaDoorMk
namespace Go.Proofs.YtgacdehbdhhbnaaDoor
open Go.RowKit

def varsOf (r : LRule) : List Int := bitsOf (ruleMask r)
/-- The marks below k. -/
def marksTo (m k : Nat) : List Int := ((List.range k).filter fun j => m.testBit j).map fun j : Nat => (j : Int)
theorem marksTo_yes {m k : Nat} (h : m.testBit k = true) : marksTo m (k + 1) = marksTo m k ++ [(k : Int)] := by
  unfold marksTo
  rw [List.range_succ, List.filter_append, List.map_append]
  simp [h]
theorem marksTo_no {m k : Nat} (h : m.testBit k = false) : marksTo m (k + 1) = marksTo m k := by
  unfold marksTo
  rw [List.range_succ, List.filter_append, List.map_append]
  simp [h]
theorem marksTo_length (m k : Nat) : (marksTo m k).length ≤ k := by
  unfold marksTo
  rw [List.length_map]
  exact Nat.le_trans (List.length_filter_le _ _) (by simp)
theorem marks_bits (k : Nat) (hk : k ≤ 64) {m : Nat} (hm : m < 2 ^ k) : marksTo m k = bitsOf m := by
  unfold marksTo bitsOf
  obtain ⟨d, hd⟩ : ∃ d, 64 = k + d := ⟨64 - k, by omega⟩
  rw [hd, List.range_add, List.filter_append, List.map_append]
  have : ((List.range d).map (k + ·)).filter (fun j => m.testBit j) = [] := by
    rw [List.filter_eq_nil_iff]
    intro j hj
    simp only [List.mem_map, List.mem_range] at hj
    obtain ⟨a, ha, rfl⟩ := hj
    have : m.testBit (k + a) = false := Nat.testBit_lt_two_pow (Nat.lt_of_lt_of_le hm (Nat.pow_le_pow_right (by omega) (by omega)))
    simp [this]
  rw [this]
  simp

set_option maxHeartbeats 1000000 in
theorem implVarsOf_any (v : Value) (r : LRule) (w : World) (h : RdRule w w.heap.size v r) (hr : szR r ≤ 1048576) (hT : Tab w) :
    Calls Tryd.prog 8 #[v] w fun e w' => ∃ A' c', e = .returned (.slice A' (varsOf r).length c') ∧ OwnInts w' w.heap.size w'.heap.size (.slice A' (varsOf r).length c') (varsOf r) ∧ Below w.heap.size w w' := by
  have hm := ruleMask_lt r
  have H := Lib.hid h
  have HT := Lib.hid hT
  clear hT
  obtain ⟨a, b, rfl, h, h2⟩ := h
  obtain ⟨A, c, rfl, hc, _⟩ := h
  obtain ⟨A2, c2, rfl, hcc, _⟩ := h2
  go_enter Tryd.func8, Tryd.ntmps8
  go_wp2_with (fail)
  refine (ruleVars_any _ r _ (H.out.on (below1 _ _)) hr).mono ?_
  rintro e w1 ⟨rfl, hb1⟩
  have B1 := bthen (below1 _ _) hb1
  clear hb1
  go_wp2_with (fail)
  refine (bitNumbers_any (ruleMask r) (by omega) _ (HT.out.below B1)).mono ?_
  rintro e w2 ⟨A', c', rfl, ho, hb2⟩
  go_wp2_with (fail)
  go_ret
  exact ⟨_, _, rfl, ho.mono B1.size (Nat.le_refl _), bthen B1 hb2⟩

set_option maxHeartbeats 1000000 in
set_option maxRecDepth 100000 in
theorem specVarsOf_any (v : Value) (r : LRule) (w : World) (h : RdRule w w.heap.size v r) (hr : szR r ≤ 1048576) :
    Calls Tryd.prog 6 #[v] w fun e w' => ∃ A' c', e = .returned (.slice A' (varsOf r).length c') ∧ OwnInts w' w.heap.size w'.heap.size (.slice A' (varsOf r).length c') (varsOf r) ∧ Below w.heap.size w w' := by
  obtain ⟨i0, hi0, hz0, hz1, hz2⟩ := info_parts Tryd.infoInt
  have hm := ruleMask_lt r
  have HE := Lib.hid (marks_bits 4 (by omega) hm)
  have H := Lib.hid h
  obtain ⟨a, b, rfl, h, h2⟩ := h
  obtain ⟨A, c, rfl, hc, _⟩ := h
  obtain ⟨A2, c2, rfl, hcc, _⟩ := h2
  go_enter Tryd.func6, Tryd.ntmps6
  go_wp2_with (fail)
  refine (l2Marks_any _ r _ (H.out.on (below1 _ _)) hr).mono ?_
  rintro e w1 ⟨g, rfl, m1, hg, hb1⟩
  have B1 := bthen (below1 _ _) hb1
  clear hb1
  go_wp2_with (fail)
  have hgl := m1.lt
  go_loopw [4, 5] (fun o i wr => ∃ (k : Nat) (A' : Option Addr) (c' : Nat), k ≤ 4 ∧ i = .int .i64 k ∧ o = .slice A' (marksTo (ruleMask r) k).length c' ∧ ColI w1 wr (marksTo (ruleMask r) k) A' c') (fun _ i _ => 4 - (intOf i).toNat)
  case atStart => exact ⟨0, _, 0, Nat.zero_le _, rfl, rfl, ColI.empty (Below.refl _ _)⟩
  case round =>
    obtain ⟨k, A', c', hk, rfl, rfl, hr2⟩ := hrel
    have hln := marksTo_length (ruleMask r) k
    by_cases hlt : k < 4
    · have hck := (m1.below hr2.below hgl).cell hlt
      cases he : (ruleMask r).testBit k
      · rw [he] at hck
        have HS := Lib.hid (marksTo_no he)
        have HP := Lib.hid hr2
        clear he hr2
        go_wp2_with (fail)
        go_roundw
        case rel => exact ⟨k + 1, _, _, by omega, by go_num, by rw [HS.out], by rw [HS.out]; exact HP.out⟩
        case measure => simp [intOf]; omega
      · rw [he] at hck
        have HS := Lib.hid (marksTo_yes he)
        have HP := Lib.hid hr2
        clear he hr2
        go_wp2_with (at_builtin; refine wpList_append_lies _ rfl (.tmp 19) (.tmp 21) 22 rfl w1.heap.size 3 i0 (.int .i64 0) 1 8 Tryd.underlying22 hi0 hz0 hz1 hz2 rfl (by decide) (.slice A' (marksTo (ruleMask r) k).length c') (marksTo (ruleMask r) k).length ((marksTo (ruleMask r) k).map (Value.int .i64)) rfl ?c1 ⟨_, 0, none⟩ 1 1 [.int .i64 k] rfl rfl (news1s _ _ _ _ (by simp)) ?c2 (by omega) (by unfold maxLen; omega) (by omega) ?c3 _ rfl ?_)
        case c1 => exact HP.out.own.1.alloc _
        case c2 => intro u hu; simp at hu; subst hu; rfl
        case c3 => have := HP.out.below.size; simp; omega
        intro g2 cap w4 hown hg2 _ _
        have hcol := HP.out.push (Below.refl _ _) hg2 hown
        rw [← HS.out] at hcol
        have hlen : (marksTo (ruleMask r) k).length + 1 = (marksTo (ruleMask r) (k + 1)).length := by rw [HS.out]; simp
        rw [hlen]
        have HC := Lib.hid hcol
        clear hcol hlen hown hg2
        go_wp2_with (fail)
        go_roundw
        case rel => exact ⟨k + 1, _, _, by omega, by go_num, rfl, HC.out⟩
        case measure => simp [intOf]; omega
    · have HO := Lib.hid (show OwnInts wr w1.heap.size wr.heap.size (.slice A' (varsOf r).length c') (varsOf r) ∧ marksTo (ruleMask r) k = varsOf r by
        have := hr2.own
        rw [show k = 4 by omega, HE.out] at this ⊢
        exact ⟨this, rfl⟩)
      have hbe := bthen B1 hr2.below
      have hsz := B1.size
      rw [HO.out.2]
      clear hr2
      go_wp2_with (fail)
      go_ret
      exact ⟨_, _, rfl, HO.out.1.mono hsz (Nat.le_refl _), hbe⟩

end Go.Proofs.YtgacdehbdhhbnaaDoor
