/-
  Marks on rules and programs that are not read again: markRuleS, markProgram.
-/
import Derived.Test.YtgacdehbdhhbnaaDoorWrites
import Derived.Test.YtgacdehbdhhbnaaDoorPgms
namespace Go.Proofs.YtgacdehbdhhbnaaDoor
open Go.RowKit

theorem endR_le (k : Int) (r : LRule) : k ≤ endR k r ∧ endR k r ≤ k + 2 * (szR r : Int) := by
  unfold endR endL szR
  omega
theorem totR_take_le (rs : List LRule) (j : Nat) : totR (rs.take j) ≤ totR rs := by
  have := congrArg (fun l => (l.map szR).sum) (List.take_append_drop j rs)
  simp only [List.map_append, List.sum_append] at this
  unfold totR
  omega

set_option maxHeartbeats 1000000 in
set_option maxRecDepth 100000 in
theorem wmarkRuleS_any (v : Value) (rs : List LRule) (k : Int) (lo hi : Nat) (w : World) (h : WrRules w lo hi v rs) (hk0 : 0 ≤ k) (hk : k ≤ 2097152) (hn : rs.length ≤ 1048576) (ht : totR rs ≤ 1048576) :
    Calls Tryd.prog 37 #[v, .int .i64 k] w fun e w' => ∃ z : Int, e = .returned (.int .i64 z) ∧ 0 ≤ z ∧ Marked lo hi w w' := by
  have H := Lib.hid h
  obtain ⟨A, c, rfl, _⟩ := h
  go_enter Tryd.func37, Tryd.ntmps37
  go_wp2_with (fail)
  go_loopw [1, 5] (fun m i wr => ∃ (j : Nat) (q : Int), j ≤ rs.length ∧ i = .int .i64 j ∧ m = .int .i64 q ∧ (k ≤ q ∧ q ≤ k + (j : Int) + 2 * (totR (rs.take j) : Int)) ∧ Marked lo hi w wr) (fun _ i _ => rs.length - (intOf i).toNat)
  case atStart => exact ⟨0, k, Nat.zero_le _, rfl, rfl, by simp [totR], Marked.refl _ _ _⟩
  case round =>
    obtain ⟨j, q, hj, rfl, rfl, ⟨hq, hq2⟩, hm⟩ := hrel
    by_cases hlt : j < rs.length
    · obtain ⟨A', c', e, _, hx⟩ := H.out.marked hm
      injection e with e1 _ e3
      subst e1
      subst e3
      obtain ⟨b, o, rfl, h1, h2, hx⟩ := hx (by omega)
      obtain ⟨⟨f0, f1⟩, u0, u1, u2, c0, c1, c2, ⟨x, rfl⟩, hI, hL⟩ := hx j hlt
      have m0 := Marked.store (p := ⟨b, o + j * 3, none⟩) ⟨h1, h2⟩ c0 q
      have hI2 := hI.marked m0
      have hL2 := hL.marked m0
      obtain ⟨A3, n3, rfl, _⟩ := hI
      obtain ⟨A4, n4, rfl, _⟩ := hL
      have d1 := m0.slice c1
      have htk := totR_take rs j hlt
      have hle := totR_take_le rs (j + 1)
      have hsz : rs[j].1.2.length + (rs[j].2.length + totL rs[j].2) = szR rs[j] := rfl
      have hq0 : 0 ≤ q := by omega
      have hq1 : q ≤ 8388608 := by omega
      have HI := Lib.hid hI2
      have HL := Lib.hid hL2
      have HM := Lib.hid (hm.trans m0)
      have HE := endR_le (q + 1) rs[j]
      clear hx hI2 hL2
      go_wp2_with (fail)
      refine (wmarkIntS_any _ _ (q + 1) lo hi _ HI.out (by omega) (by omega)).mono ?_
      rintro e w3 ⟨rfl, hm3⟩
      have d2 := (m0.trans hm3).slice c2
      have HM3 := Lib.hid (HM.out.trans hm3)
      have HL3 := Lib.hid (HL.out.marked hm3)
      clear m0 hm3 c0 c1 c2 d1
      go_wp2_with (fail)
      refine (wmarkLitS_any _ rs[j].2 _ lo hi _ HL3.out (by omega) (by omega) (by omega) (by omega)).mono ?_
      rintro e w4 ⟨rfl, hm4⟩
      have HM4 := Lib.hid (HM3.out.trans hm4)
      have HQ := Lib.hid (show k ≤ endL (q + 1 + (rs[j].1.2.length : Int)) rs[j].2 ∧ endL (q + 1 + (rs[j].1.2.length : Int)) rs[j].2 ≤ k + ((j + 1 : Nat) : Int) + 2 * (totR (rs.take (j + 1)) : Int) by
        unfold endR at HE
        rw [htk]
        omega)
      clear HE htk
      go_wp2_with (fail)
      go_roundw
      case rel => exact ⟨j + 1, _, by omega, by go_num, rfl, HQ.out, HM4.out⟩
      case measure => simp [intOf]; omega
    · have HK := Lib.hid (show 0 ≤ q by omega)
      clear hq hq2
      go_wp2_with (fail)
      go_ret
      exact ⟨_, rfl, HK.out, hm⟩

set_option maxHeartbeats 400000 in
theorem wmarkProgram_any (a b : Value) (p : LProg) (k : Int) (lo hi : Nat) (w : World) (h : WrInts w lo hi a p.1.length) (h2 : WrRules w lo hi b p.2) (hk0 : 0 ≤ k) (hk : k ≤ 1048576) (hs : szP p ≤ 1048576) :
    Calls Tryd.prog 19 #[.agg #[a, b], .int .i64 k] w fun e w' => ∃ z : Int, e = .returned (.int .i64 z) ∧ 0 ≤ z ∧ Marked lo hi w w' := by
  have H := Lib.hid h
  have H2 := Lib.hid h2
  unfold szP at hs
  obtain ⟨A, c, rfl, _⟩ := h
  obtain ⟨A2, c2, rfl, _⟩ := h2
  go_enter Tryd.func19, Tryd.ntmps19
  go_wp2_with (fail)
  obtain ⟨w1, hw1⟩ : ∃ w1, w1 = w.alloc (Obj.cells #[Value.slice A p.1.length c, Value.slice A2 p.2.length c2] 47) := ⟨_, rfl⟩
  have M1 : Marked lo hi w w1 := by rw [hw1]; exact Marked.of_below (below1 _ _)
  have x1 : Blk w1 w.heap.size 47 #[.slice A p.1.length c, .slice A2 p.2.length c2] := by rw [hw1]; exact Blk.new _ _ _
  rw [← hw1]
  clear hw1
  refine (wmarkIntS_any _ _ k lo hi _ (H.out.marked M1) hk0 (by omega)).mono ?_
  rintro e w2 ⟨rfl, hm2⟩
  have y2 : w2.cell? ⟨w.heap.size, 1, none⟩ = some (.slice A2 p.2.length c2) := hm2.slice (x1.cell 1)
  have M2 := M1.trans hm2
  go_wp2_with (fail)
  refine (wmarkRuleS_any _ p.2 _ lo hi _ (H2.out.marked M2) (by omega) (by omega) (by omega) (by omega)).mono ?_
  rintro e w3 ⟨z, rfl, hz, hm3⟩
  have M3 := M2.trans hm3
  go_wp2_with (fail)
  go_ret
  exact ⟨_, rfl, hz, M3⟩

end Go.Proofs.YtgacdehbdhhbnaaDoor
