/-
  The walks of nameAhead and l8Formed.
-/
import Derived.Test.YtcoelmhlkfignaaAheadP
import Derived.Test.YtcoelmhlkfignaaL1In
namespace Go.Proofs.Ytcoelmhlkfignaa
open Go.RowKit

theorem RdInts.getS {w : World} {B n c : Nat} {A : Option Addr} {xs : List Int} (h : RdInts w B (.slice A n c) xs) {k : Nat} (hk : k < xs.length) : ∃ b o, A = some ⟨b, o, none⟩ ∧ b < B ∧ w.cell? ⟨b, o + k, none⟩ = some (.int .i64 xs[k]) := by
  obtain ⟨A', c', e, hc, h⟩ := h
  injection e with e1 e2 e3
  subst e1
  obtain ⟨b, o, rfl, hb, hx⟩ := h (by omega)
  exact ⟨b, o, rfl, hb, hx k hk⟩

set_option maxHeartbeats 1000000 in
set_option maxRecDepth 100000 in
theorem nameAhead_any (v : Value) (ss : List LStep) (w : World) (h : RdSteps w w.heap.size v ss) (hl : ss.length ≤ 1048576) (ht : totS ss ≤ 1048576) :
    Calls Try.prog 23 #[v] w fun e w' => e = .returned (.bool (formed ss)) ∧ Below w.heap.size w w' := by
  have H := Lib.hid h
  obtain ⟨A, c, rfl, hc, _⟩ := h
  go_enter Try.func23, Try.ntmps23
  go_wp2_with (fail)
  go_loopw [9] (fun i wr => ∃ k : Nat, k ≤ ss.length ∧ i = .int .i64 k ∧ formedN ss k = true ∧ Below w.heap.size w wr) (fun i _ => ss.length - (intOf i).toNat)
  case atStart => exact ⟨0, Nat.zero_le _, rfl, formedN_zero _, Below.refl _ _⟩
  case round =>
    obtain ⟨k, hk, rfl, hs, hbe⟩ := hrel
    by_cases hlt : k < ss.length
    · obtain ⟨b, o, A1, c1, A2, c2, A3, c3, rfl, hbB, ⟨k0, k1, k2, k3, k4⟩, r1, r2, r3⟩ := (H.out.on hbe).get hlt
      have hln := szSt_le_totS ss k hlt
      unfold szSt at hln
      have HR := Lib.hid r3
      have HS := Lib.hid hs
      clear r1 r2 r3 hs
      go_wp2_with (fail)
      obtain ⟨w3, hw3⟩ : ∃ w3, w3 = wr.alloc (Obj.cells #[Value.int IntKind.i64 ss[k].1.1, Value.slice A1 ss[k].1.2.length c1, Value.int IntKind.i64 ss[k].2.1, Value.slice A2 ss[k].2.2.1.length c2, Value.slice A3 ss[k].2.2.2.length c3] 46) := ⟨_, rfl⟩
      have B3 : Below wr.heap.size wr w3 := by rw [hw3]; exact below1 _ _
      rw [← hw3]
      clear hw3 k0 k1 k2 k3 k4
      go_loopw [17] (fun i ws => ∃ m : Nat, m ≤ ss[k].2.2.2.length ∧ i = .int .i64 m ∧ aheadB k (ss[k].2.2.2.take m) = true ∧ Below w3.heap.size w3 ws) (fun i _ => ss[k].2.2.2.length - (intOf i).toNat)
      case atStart => exact ⟨0, Nat.zero_le _, rfl, aheadB_zero _ _, Below.refl _ _⟩
      case round =>
        obtain ⟨m, hm, rfl, hq, hbt⟩ := hrel
        have BT := bthen B3 hbt
        by_cases hlm : m < ss[k].2.2.2.length
        · obtain ⟨b', o', rfl, hb', q0⟩ := (HR.out.on BT).getS hlm
          by_cases h0 : ss[k].2.2.2[m] < 0
          · have HE := Lib.hid (show formed ss = false from formed_not hlt (aheadB_not hlm (by omega)))
            clear hq
            go_wp2_with (fail)
            go_ret
            exact ⟨ret_bool HE.out.symm, bthen hbe BT⟩
          · by_cases h1 : (k : Int) ≤ ss[k].2.2.2[m]
            · have HE := Lib.hid (show formed ss = false from formed_not hlt (aheadB_not hlm (by omega)))
              clear hq
              go_wp2_with (fail)
              go_ret
              exact ⟨ret_bool HE.out.symm, bthen hbe BT⟩
            · have HQ := Lib.hid (aheadB_step hq hlm (by omega) (by omega))
              clear hq
              go_wp2_with (fail)
              go_roundw
              case rel => exact ⟨m + 1, by omega, by go_num, HQ.out, hbt⟩
              case measure => simp [intOf]; omega
        · have HQ := Lib.hid (formedN_step HS.out hlt (by rw [show m = ss[k].2.2.2.length by omega, List.take_length] at hq; exact hq))
          clear hq
          go_wp2_with (fail)
          go_roundw
          case rel => exact ⟨k + 1, by omega, by go_num, HQ.out, bthen hbe BT⟩
          case measure => simp [intOf]; omega
    · have HE := Lib.hid (show formed ss = true by unfold formed; rw [show ss.length = k by omega]; exact hs)
      clear hs
      go_wp2_with (fail)
      go_ret
      exact ⟨ret_bool HE.out.symm, hbe⟩

set_option maxHeartbeats 1000000 in
set_option maxRecDepth 100000 in
theorem l8Formed_any (v : Value) (ss : List LStep) (w : World) (h : RdSteps w w.heap.size v ss) (hl : ss.length ≤ 1048576) (ht : totS ss ≤ 1048576) :
    Calls Try.prog 21 #[v] w fun e w' => e = .returned (.bool (formed ss)) ∧ w = w' := by
  have H := Lib.hid h
  obtain ⟨A, c, rfl, hc, _⟩ := h
  go_enter Try.func21, Try.ntmps21
  go_wp2_with (fail)
  go_loop [3] (fun i => ∃ k : Nat, k ≤ ss.length ∧ i = .int .i64 k ∧ formedN ss k = true) (fun i => ss.length - (intOf i).toNat)
  case atStart => exact ⟨0, Nat.zero_le _, rfl, formedN_zero _⟩
  case round =>
    obtain ⟨k, hk, rfl, hs⟩ := hrel
    by_cases hlt : k < ss.length
    · obtain ⟨b, o, A1, c1, A2, c2, A3, c3, rfl, hbB, ⟨k0, k1, k2, k3, k4⟩, r1, r2, r3⟩ := H.out.get hlt
      have hln := szSt_le_totS ss k hlt
      unfold szSt at hln
      have HR := Lib.hid r3
      have HS := Lib.hid hs
      clear r1 r2 r3 hs
      go_wp2_with (fail)
      go_loop [4] (fun i => ∃ m : Nat, m ≤ ss[k].2.2.2.length ∧ i = .int .i64 m ∧ aheadB k (ss[k].2.2.2.take m) = true) (fun i => ss[k].2.2.2.length - (intOf i).toNat)
      case atStart => exact ⟨0, Nat.zero_le _, rfl, aheadB_zero _ _⟩
      case round =>
        obtain ⟨m, hm, rfl, hq⟩ := hrel
        by_cases hlm : m < ss[k].2.2.2.length
        · obtain ⟨b', o', rfl, hb', q0⟩ := HR.out.getS hlm
          by_cases h0 : 0 ≤ ss[k].2.2.2[m] ∧ ss[k].2.2.2[m] ≤ (k : Int) - 1
          · have HQ := Lib.hid (aheadB_step hq hlm h0.1 (by omega))
            have CY := Lib.hid (fun W => l1In_yes h0 W)
            clear hq h0
            go_wp2_with (go_at_call 31; refine (CY.out _).mono ?_; rintro e w' ⟨rfl, rfl⟩)
            go_round
            case rel => exact ⟨m + 1, by omega, by go_num, HQ.out⟩
            case measure => simp [intOf]; omega
          · have HE := Lib.hid (show formed ss = false from formed_not hlt (aheadB_not hlm (by omega)))
            have CN := Lib.hid (fun W => l1In_no h0 W)
            clear hq h0
            go_wp2_with (go_at_call 31; refine (CN.out _).mono ?_; rintro e w' ⟨rfl, rfl⟩)
            go_ret
            exact ⟨ret_bool HE.out.symm, rfl⟩
        · have HQ := Lib.hid (formedN_step HS.out hlt (by rw [show m = ss[k].2.2.2.length by omega, List.take_length] at hq; exact hq))
          clear hq
          go_wp2_with (fail)
          go_round
          case rel => exact ⟨k + 1, by omega, by go_num, HQ.out⟩
          case measure => simp [intOf]; omega
    · have HE := Lib.hid (show formed ss = true by unfold formed; rw [show ss.length = k by omega]; exact hs)
      clear hs
      go_wp2_with (fail)
      go_ret
      exact ⟨ret_bool HE.out.symm, rfl⟩

end Go.Proofs.Ytcoelmhlkfignaa
