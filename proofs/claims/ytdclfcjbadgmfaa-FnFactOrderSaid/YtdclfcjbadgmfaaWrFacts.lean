/-
  wrFacts on two slices that read as the same facts.
-/
import Derived.Test.YtdclfcjbadgmfaaFactsOk
namespace Go.Proofs.Ytdclfcjbadgmfaa
open Go.RowKit

theorem cmpL_self (xs : List Int) : cmpL xs xs = 0 := by
  induction xs with
  | nil => simp [cmpL]
  | cons x xs ih => simp [cmpL, ih]
theorem factOrder_self (f : LFact) : factOrder f f = 0 := by simp [factOrder, cmpL_self]

set_option maxHeartbeats 1000000 in
set_option maxRecDepth 100000 in
theorem wrFacts_yes (v v2 : Value) (fs : List LFact) (w : World) (h : RdFacts w w.heap.size v fs) (h2 : RdFacts w w.heap.size v2 fs) (hn : fs.length ≤ 1048576) (ht : tot fs ≤ 1048576) :
    Calls Try.prog 17 #[v, v2] w fun e w' => e = .returned (.bool true) ∧ Below w.heap.size w w' := by
  have H := Lib.hid h
  have H2 := Lib.hid h2
  obtain ⟨A, c, rfl, hc, _⟩ := h
  obtain ⟨A2, c2, rfl, hc2, _⟩ := h2
  have hnn : ((fs.length : Int) != (fs.length : Int)) = false := by simp
  go_enter Try.func17, Try.ntmps17
  go_wp2_with (fail)
  go_loopw [5, 13] (fun _ i wr => ∃ k : Nat, k ≤ fs.length ∧ i = .int .i64 k ∧ Below w.heap.size w wr) (fun _ i _ => fs.length - (intOf i).toNat)
  case atStart => exact ⟨0, Nat.zero_le _, rfl, Below.refl _ _⟩
  case round =>
    obtain ⟨k, hk, rfl, hbe⟩ := hrel
    by_cases hlt : k < fs.length
    · obtain ⟨b, o, A3, c3, rfl, hbB, k1, k2, k3⟩ := (H.out.on hbe).get hlt
      have K3 := Lib.hid (show RdFact wr wr.heap.size (.agg #[.int .i64 fs[k].1, .slice A3 fs[k].2.length c3]) fs[k] from ⟨_, rfl, k3⟩)
      obtain ⟨b', o', A4, c4, rfl, hbB', m1, m2, m3⟩ := (H2.out.on hbe).get hlt
      have K4 := Lib.hid (show RdFact wr wr.heap.size (.agg #[.int .i64 fs[k].1, .slice A4 fs[k].2.length c4]) fs[k] from ⟨_, rfl, m3⟩)
      have hln := len_le_tot fs k hlt
      have L1 := later_cell k1
      have L2 := later_cell k2
      have M1 := later_cell m1
      have M2 := later_cell m2
      have CO := Lib.hid (fun x : Later wr => (implFactOrder_any _ _ fs[k] fs[k] x.val (K3.out.on x.2) (K4.out.on x.2) (by omega) (by omega)).mono fun e w' (hh : e = .returned (.int .i64 (factOrder fs[k] fs[k])) ∧ Below x.val.heap.size x.val w') => (⟨by rw [hh.1, factOrder_self], hh.2⟩ : e = .returned (.int .i64 0) ∧ Below x.val.heap.size x.val w'))
      clear k1 k2 k3 m1 m2 m3
      go_wp2_with (fail)
      refine wp_region_later (by kernel_rfl) (by kernel_rfl) ?_
      repeat (go_big_quiet_step ((go_at_call 12; exact later_of (CO.out _))))
      refine wpQuiet_nil ?_
      rintro _ ⟨xq, rfl⟩
      go_wp2_with (fail)
      go_roundw
      case rel => exact ⟨k + 1, by omega, by go_num, bthen hbe xq.2⟩
      case measure => simp [intOf]; omega
    · have hkn : k = fs.length := by omega
      have hdk : decide ((k : Int) < (fs.length : Int)) = false := by simp; omega
      go_wp2_with (fail)
      go_ret
      exact ⟨rfl, hbe⟩

end Go.Proofs.Ytdclfcjbadgmfaa
