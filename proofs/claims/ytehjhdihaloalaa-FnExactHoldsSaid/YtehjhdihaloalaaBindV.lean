/-
  The walks of bindingOf, values, numbers.
-/
import Derived.Test.YtehjhdihaloalaaBindW
namespace Go.Proofs.Ytehjhdihaloalaa
open Go.RowKit

set_option maxHeartbeats 400000 in
theorem bindingOf_n (v : Value) (bs : List Int) (B z0 : Nat) (ok : Bool) (hz0 : z0 = if bindOk bs then encB bs else 0) (hok : ok = bindOk bs) (w : World) (h : RdInts w B v bs) (hr : bs.length ≤ 1048576) :
    Calls Try.prog 77 #[v] w fun e w' => e = .returned (.tuple #[.int .u32 (z0 : Nat), .bool ok]) ∧ w = w' := by
  obtain ⟨A, c, rfl, hc, ha⟩ := h
  have HO := Lib.hid (And.intro hz0 hok)
  clear hz0 hok
  by_cases hl : bs.length = 4
  · have hl1 : ((bs.length : Int) != 4) = false := by simp; omega
    have HL := Lib.hid hl
    clear hl
    go_enter Try.func77, Try.ntmps77
    go_wp2_with (fail)
    go_loop [4, 5, 6, 12] (fun m _ _ i => ∃ (k : Nat) (z : Nat), k ≤ bs.length ∧ i = .int .i64 k ∧ m = .int .u32 (z : Nat) ∧ z = encB (padB bs k) ∧ (bs.take k).all hasB = true) (fun _ _ _ i => bs.length - (intOf i).toNat)
    case atStart => exact ⟨0, 0, Nat.zero_le _, rfl, rfl, by rw [padB_zero, encB_none], rfl⟩
    case round =>
      obtain ⟨k, z, hk, rfl, rfl, hz, hs⟩ := hrel
      by_cases hlt : k < bs.length
      · obtain ⟨b, o, rfl, hbB, hx⟩ := ha (by omega)
        have hck : w.cell? ⟨b, o + k, none⟩ = some (.int .i64 bs[k]) := hx k hlt
        clear hx ha
        by_cases h0 : bs[k] < -1
        · have HE := Lib.hid (show bindOk bs = false by
            have : bs.all hasB = false := all_not hlt (by simp [hasB]; omega)
            simp [bindOk, this])
          clear hz hs
          go_wp2_with (fail)
          go_ret2
          rw [show ok = false by rw [HO.out.2, HE.out], show z0 = 0 by rw [HO.out.1, HE.out]; rfl]
          exact ⟨rfl, rfl⟩
        · have hd0 : decide (bs[k] < -1) = false := by simpa using h0
          by_cases h5 : 5 < bs[k]
          · have HE := Lib.hid (show bindOk bs = false by
              have : bs.all hasB = false := all_not hlt (by simp [hasB]; omega)
              simp [bindOk, this])
            clear hz hs
            go_wp2_with (fail)
            go_ret2
            rw [show ok = false by rw [HO.out.2, HE.out], show z0 = 0 by rw [HO.out.1, HE.out]; rfl]
            exact ⟨rfl, rfl⟩
          · have hk4 : k < 4 := by have := HL.out; omega
            have hp := padB_ok HL.out (Nat.le_of_lt hk4) hs
            have hst := padB_step HL.out hk4
            have hin : -1 ≤ bs[k] ∧ bs[k] ≤ 5 := by omega
            have hzl : z < 65536 := by rw [hz]; exact encB_lt hp
            have HZ := Lib.hid (show z ||| shlB k bs[k] = encB (padB bs (k + 1)) by rw [hz, encB_set hp hk4 hst.1 hin, hst.2])
            have HS := Lib.hid (show (bs.take (k + 1)).all hasB = true by rw [take_snoc bs k hlt, List.all_append, hs]; simp [hasB]; omega)
            clear hz hs hst hp
            go_wp2_with (go_at_call 104; refine (with_any _ _ _ hzl hk4 hin _).mono ?_; rintro e w' ⟨rfl, rfl⟩)
            go_round
            case rel => exact ⟨k + 1, _, by omega, by go_num, rfl, HZ.out, HS.out⟩
            case measure => simp [intOf]; omega
      · have hkn : k = bs.length := by omega
        have HE := Lib.hid (show bindOk bs = true by rw [hkn, List.take_length] at hs; exact bindOk_iff HL.out hs)
        have HZ := Lib.hid (show z = encB bs by rw [hz, hkn, HL.out, padB_all HL.out])
        clear hz hs ha hkn
        go_wp2_with (fail)
        go_ret2
        rw [show ok = true by rw [HO.out.2, HE.out], show z0 = z by rw [HO.out.1, HE.out, HZ.out]; rfl]
        exact ⟨rfl, rfl⟩
  · have hl1 : ((bs.length : Int) != 4) = true := by simp; omega
    have HE := Lib.hid (show bindOk bs = false by simp [bindOk, hl])
    clear hl ha
    go_enter Try.func77, Try.ntmps77
    go_wp2_with (fail)
    go_ret2
    rw [show ok = false by rw [HO.out.2, HE.out], show z0 = 0 by rw [HO.out.1, HE.out]; rfl]
    exact ⟨rfl, rfl⟩

theorem bindingOf_yes {bs : List Int} (hb : bindOk bs = true) (v : Value) (B : Nat) (w : World) (h : RdInts w B v bs) :
    Calls Try.prog 77 #[v] w fun e w' => e = .returned (.tuple #[.int .u32 (encB bs : Nat), .bool true]) ∧ w = w' :=
  bindingOf_n v bs B _ true (by rw [hb]; rfl) hb.symm w h (by have := bindOk_len hb; omega)
theorem bindingOf_no {bs : List Int} (hb : bindOk bs = false) (v : Value) (B : Nat) (w : World) (h : RdInts w B v bs) (hr : bs.length ≤ 1048576) :
    Calls Try.prog 77 #[v] w fun e w' => e = .returned (.tuple #[.int .u32 ((0 : Nat) : Int), .bool false]) ∧ w = w' :=
  bindingOf_n v bs B 0 false (by rw [hb]; rfl) hb.symm w h hr

set_option maxHeartbeats 400000 in
theorem values_any (v : Value) (bs args : List Int) (hb : bindOk bs = true) (ht : args.all termOk = true) (w : World) (h : RdInts w w.heap.size v args) (hr : args.length ≤ 1048576) :
    Calls Try.prog 79 #[.int .u32 (encB bs : Nat), v] w fun e w' => ∃ A' c', e = .returned (.slice A' args.length c') ∧ OwnInts w' w.heap.size w'.heap.size (.slice A' args.length c') (args.map (termVal bs)) ∧ Below w.heap.size w w' := by
  obtain ⟨A, c, rfl, hc, hcell⟩ := h
  have hmk := run_make_row' (P := Try.prog) 22 3 (.int .i64 0) 8 Try.underlying22 Try.infoInt rfl .i64 .i64 args.length (by omega) (by omega)
  have HV := Lib.hid (fun t ht => value_any bs hb t ht)
  generalize encB bs = m at HV
  obtain ⟨ys, hys⟩ : ∃ ys, ys = args.map (termVal bs) := ⟨_, rfl⟩
  have hyl : ys.length = args.length := by rw [hys]; simp
  have HY := Lib.hid hys
  have HYL := Lib.hid hyl
  clear hys hyl
  go_enter Try.func79, Try.ntmps79
  go_wp2_with (fail)
  go_loopw [6, 7, 13] (fun _ _ i wr => ∃ k : Nat, k ≤ args.length ∧ i = .int .i64 k ∧ wr.rowIs w.heap.size 3 args.length (fun j => if j < k then .int .i64 (ys.getD j 0) else .int .i64 0) ∧ Below w.heap.size w wr)
    (fun _ _ i _ => args.length - (intOf i).toNat)
  case atStart => exact ⟨0, Nat.zero_le _, rfl, (World.rowIs_made w _ _ _).congr (fun j _ => by simp), (Below.refl _ _).alloc (Nat.le_refl _) _⟩
  case round =>
    obtain ⟨k, hk, rfl, hrow, hb⟩ := hrel
    by_cases hlt : k < args.length
    · obtain ⟨b, o, rfl, hbB, hx⟩ := hcell (by omega)
      have hck : wr.cell? ⟨b, o + k, none⟩ = some (.int .i64 args[k]) := (hb.cell (p := ⟨b, o + k, none⟩) hbB).trans (hx k hlt)
      have hok : termOk args[k] = true := List.all_eq_true.1 ht _ (List.getElem_mem hlt)
      have hc2 := hrow.cell hlt
      have hf2 := hrow.frozen k
      have HV2 := Lib.hid (HV.out _ hok)
      have HG := Lib.hid (show ys.getD k 0 = termVal bs args[k] by rw [HY.out]; simp [hlt])
      clear hx
      have HR := Lib.hid hrow
      clear hrow hok
      go_wp2_with (go_at_call 106; refine (HV2.out _).mono ?_; rintro e w' ⟨rfl, rfl⟩)
      go_roundw
      case rel =>
        refine ⟨k + 1, by omega, by go_num, (HR.out.set k _).congr (fun j hj => ?_), hb.setCell (Nat.le_refl _) _⟩
        by_cases e : j = k
        · subst e
          simp only [if_true]
          rw [if_pos (by omega), HG.out]
        · rw [if_neg e]
          by_cases h2 : j < k
          · rw [if_pos h2, if_pos (by omega)]
          · rw [if_neg h2, if_neg (by omega)]
      case measure => simp [intOf]; omega
    · have hkn : k = args.length := by omega
      have HO : OwnInts wr w.heap.size wr.heap.size (.slice (some ⟨w.heap.size, 0, none⟩) ys.length ys.length) ys :=
        OwnInts.of_rowIs (by rw [HYL.out]; exact hrow.congr (fun j hj => by rw [if_pos (by omega)])) (Nat.le_refl _) hrow.lt (by have := HYL.out; unfold maxLen; omega)
      rw [HYL.out, HY.out] at HO
      clear hrow hcell
      have HH := Lib.hid HO
      clear HO
      clear hkn
      go_wp2_with (fail)
      go_ret
      exact ⟨_, _, rfl, HH.out, hb⟩

theorem bs_getD {bs : List Int} {j : Nat} (hl : bs.length = 4) (hj : j < 4) : bs.getD j (-1) = bs.getD j 0 := by
  rw [List.getD_eq_getElem?_getD, List.getD_eq_getElem?_getD, List.getElem?_eq_getElem (by omega)]
  rfl

theorem make4i (W : World) : (Instr.makeSlice 22 (.int .i64 4) (.int .i64 4)).run Try.prog W = .ok (.slice (some ⟨W.heap.size, 0, none⟩) 4 4) (W.alloc (.cells (madeCells #[.int .i64 0] 4) 3)) :=
  run_make_row' (P := Try.prog) 22 3 (.int .i64 0) 8 Try.underlying22 Try.infoInt rfl .i64 .i64 4 (by omega) (by omega) W

set_option maxHeartbeats 400000 in
set_option maxRecDepth 100000 in
theorem numbers_any (bs : List Int) (hb : bindOk bs = true) (w : World) :
    Calls Try.prog 84 #[.int .u32 (encB bs : Nat)] w fun e w' => ∃ A' c', e = .returned (.slice A' bs.length c') ∧ OwnInts w' w.heap.size w'.heap.size (.slice A' bs.length c') bs ∧ Below w.heap.size w w' := by
  have hmk := make4i
  have hl := bindOk_len hb
  have HV := Lib.hid (fun v (hv : v < 4) => (show (fieldB (encB bs) v : Nat) - 1 = bs.getD v 0 by rw [fieldB_enc hb hv, bs_getD hl hv]))
  have hm := encB_lt hb
  generalize encB bs = m at HV hm
  have HL := Lib.hid hl
  clear hl
  go_enter Try.func84, Try.ntmps84
  go_wp2_with (fail)
  go_loopw [4, 8] (fun _ i wr => ∃ k : Nat, k ≤ 4 ∧ i = .int .i64 k ∧ wr.rowIs w.heap.size 3 4 (fun j => if j < k then .int .i64 (bs.getD j 0) else .int .i64 0) ∧ Below w.heap.size w wr)
    (fun _ i _ => 4 - (intOf i).toNat)
  case atStart => exact ⟨0, Nat.zero_le _, rfl, (World.rowIs_made w _ _ _).congr (fun j _ => by simp), (Below.refl _ _).alloc (Nat.le_refl _) _⟩
  case round =>
    obtain ⟨k, hk, rfl, hrow, hb⟩ := hrel
    by_cases hlt : k < 4
    · have hc2 := hrow.cell hlt
      have hf2 := hrow.frozen k
      have HC := Lib.hid (constant_any m k hm hlt)
      have HG := Lib.hid (HV.out k hlt)
      have HR := Lib.hid hrow
      clear hrow
      go_wp2_with (go_at_call 109; refine (HC.out _).mono ?_; rw [HG.out]; rintro e w' ⟨rfl, rfl⟩)
      go_roundw
      case rel =>
        refine ⟨k + 1, by omega, by go_num, (HR.out.set k _).congr (fun j hj => ?_), hb.setCell (Nat.le_refl _) _⟩
        by_cases e : j = k
        · subst e
          simp only [if_true]
          rw [if_pos (by omega)]
          simp
        · rw [if_neg e]
          by_cases h2 : j < k
          · rw [if_pos h2, if_pos (by omega)]
          · rw [if_neg h2, if_neg (by omega)]
      case measure => simp [intOf]; omega
    · have hkn : k = 4 := by omega
      have HO : OwnInts wr w.heap.size wr.heap.size (.slice (some ⟨w.heap.size, 0, none⟩) bs.length bs.length) bs :=
        OwnInts.of_rowIs (by rw [HL.out]; exact hrow.congr (fun j hj => by rw [if_pos (by omega)])) (Nat.le_refl _) hrow.lt (by have := HL.out; unfold maxLen; omega)
      have HH := Lib.hid HO
      clear HO hrow hkn
      go_wp2_with (fail)
      go_ret
      refine ⟨_, _, ?_, HH.out, hb⟩
      rw [HL.out]
      rfl

end Go.Proofs.Ytehjhdihaloalaa
