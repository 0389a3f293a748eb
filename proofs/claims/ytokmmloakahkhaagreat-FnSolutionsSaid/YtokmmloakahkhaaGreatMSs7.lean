/-
  Texts that the claim's last one imports, laid together: part 7 of 12. No condition of its own.
-/
import Derived.Deep.LoopGhost
import Derived.Sort.LotA
import Derived.Sort.LotB
import Derived.Sort.LotC
import Derived.Sort.LotD3
import Derived.Test.YtokmmloakahkhaaGreatChecked
import Derived.CellFam
import Derived.WalkKit
import Derived.RegionTactic
import Derived.Deep.Draws
import Derived.Deep.QuietTactic
import Derived.BigCall
import Derived.BigGuard
import Derived.BigQuiet
import Derived.Test.YtokmmloakahkhaaGreatMSs1
import Derived.Test.YtokmmloakahkhaaGreatMSs2
import Derived.Test.YtokmmloakahkhaaGreatMSs3
import Derived.Test.YtokmmloakahkhaaGreatMSs5
import Derived.Test.YtokmmloakahkhaaGreatMSs6
/-
  The walks of bindingOf, values, numbers.
-/
namespace Go.Proofs.YtokmmloakahkhaaGreat
open Go.RowKit

set_option maxHeartbeats 400000 in
theorem bindingOf_n (v : Value) (bs : List Int) (B z0 : Nat) (ok : Bool) (hz0 : z0 = if bindOk bs then encB bs else 0) (hok : ok = bindOk bs) (w : World) (h : RdInts w B v bs) (hr : bs.length ≤ 1048576) :
    Calls Tryz.prog 94 #[v] w fun e w' => e = .returned (.tuple #[.int .u32 (z0 : Nat), .bool ok]) ∧ w = w' := by
  obtain ⟨A, c, rfl, hc, ha⟩ := h
  have HO := Lib.hid (And.intro hz0 hok)
  clear hz0 hok
  by_cases hl : bs.length = 4
  · have hl1 : ((bs.length : Int) != 4) = false := by simp; omega
    have HL := Lib.hid hl
    clear hl
    go_enter Tryz.func94, Tryz.ntmps94
    go_wp2_with (fail)
    go_loop [4, 5, 6, 12] (fun m _ _ i => ∃ (k : Nat) (z : Nat), k ≤ bs.length ∧ i = .int .i64 k ∧ m = .int .u32 (z : Nat) ∧ z = encB (padB bs k) ∧ (bs.take k).all hasB = true) (fun _ _ _ i => bs.length - (intOf i).toNat)
    case atStart => exact ⟨0, 0, Nat.zero_le _, rfl, rfl, by rw [padB_zero, encB_none], rfl⟩
    case round =>
      obtain ⟨k, z, hk, rfl, rfl, hz, hs⟩ := hrel
      by_cases hlt : k < bs.length
      · obtain ⟨b, o, rfl, hbB, hx⟩ := ha (by omega)
        have hck : w.cell? ⟨b, o + k, none⟩ = some (.int .i64 bs[k]) := hx k hlt
        clear hx ha
        by_cases h0 : bs[k] < -1
        · have HE := Lib.hid (show bindOk bs = false by
            have : bs.all hasB = false := all_not hlt (by simp [hasB]; omega)
            simp [bindOk, this])
          clear hz hs
          go_wp2_with (fail)
          go_ret2
          rw [show ok = false by rw [HO.out.2, HE.out], show z0 = 0 by rw [HO.out.1, HE.out]; rfl]
          exact ⟨rfl, rfl⟩
        · have hd0 : decide (bs[k] < -1) = false := by simpa using h0
          by_cases h5 : 5 < bs[k]
          · have HE := Lib.hid (show bindOk bs = false by
              have : bs.all hasB = false := all_not hlt (by simp [hasB]; omega)
              simp [bindOk, this])
            clear hz hs
            go_wp2_with (fail)
            go_ret2
            rw [show ok = false by rw [HO.out.2, HE.out], show z0 = 0 by rw [HO.out.1, HE.out]; rfl]
            exact ⟨rfl, rfl⟩
          · have hk4 : k < 4 := by have := HL.out; omega
            have hp := padB_ok HL.out (Nat.le_of_lt hk4) hs
            have hst := padB_step HL.out hk4
            have hin : -1 ≤ bs[k] ∧ bs[k] ≤ 5 := by omega
            have hzl : z < 65536 := by rw [hz]; exact encB_lt hp
            have HZ := Lib.hid (show z ||| shlB k bs[k] = encB (padB bs (k + 1)) by rw [hz, encB_set hp hk4 hst.1 hin, hst.2])
            have HS := Lib.hid (show (bs.take (k + 1)).all hasB = true by rw [take_snoc bs k hlt, List.all_append, hs]; simp [hasB]; omega)
            clear hz hs hst hp
            go_wp2_with (go_at_call 73; refine (with_any _ _ _ hzl hk4 hin _).mono ?_; rintro e w' ⟨rfl, rfl⟩)
            go_round
            case rel => exact ⟨k + 1, _, by omega, by go_num, rfl, HZ.out, HS.out⟩
            case measure => simp [intOf]; omega
      · have hkn : k = bs.length := by omega
        have HE := Lib.hid (show bindOk bs = true by rw [hkn, List.take_length] at hs; exact bindOk_iff HL.out hs)
        have HZ := Lib.hid (show z = encB bs by rw [hz, hkn, HL.out, padB_all HL.out])
        clear hz hs ha hkn
        go_wp2_with (fail)
        go_ret2
        rw [show ok = true by rw [HO.out.2, HE.out], show z0 = z by rw [HO.out.1, HE.out, HZ.out]; rfl]
        exact ⟨rfl, rfl⟩
  · have hl1 : ((bs.length : Int) != 4) = true := by simp; omega
    have HE := Lib.hid (show bindOk bs = false by simp [bindOk, hl])
    clear hl ha
    go_enter Tryz.func94, Tryz.ntmps94
    go_wp2_with (fail)
    go_ret2
    rw [show ok = false by rw [HO.out.2, HE.out], show z0 = 0 by rw [HO.out.1, HE.out]; rfl]
    exact ⟨rfl, rfl⟩

theorem bindingOf_yes {bs : List Int} (hb : bindOk bs = true) (v : Value) (B : Nat) (w : World) (h : RdInts w B v bs) :
    Calls Tryz.prog 94 #[v] w fun e w' => e = .returned (.tuple #[.int .u32 (encB bs : Nat), .bool true]) ∧ w = w' :=
  bindingOf_n v bs B _ true (by rw [hb]; rfl) hb.symm w h (by have := bindOk_len hb; omega)
theorem bindingOf_no {bs : List Int} (hb : bindOk bs = false) (v : Value) (B : Nat) (w : World) (h : RdInts w B v bs) (hr : bs.length ≤ 1048576) :
    Calls Tryz.prog 94 #[v] w fun e w' => e = .returned (.tuple #[.int .u32 ((0 : Nat) : Int), .bool false]) ∧ w = w' :=
  bindingOf_n v bs B 0 false (by rw [hb]; rfl) hb.symm w h hr

set_option maxHeartbeats 400000 in
theorem values_any (v : Value) (bs args : List Int) (hb : bindOk bs = true) (ht : args.all termOk = true) (w : World) (h : RdInts w w.heap.size v args) (hr : args.length ≤ 1048576) :
    Calls Tryz.prog 95 #[.int .u32 (encB bs : Nat), v] w fun e w' => ∃ A' c', e = .returned (.slice A' args.length c') ∧ OwnInts w' w.heap.size w'.heap.size (.slice A' args.length c') (args.map (termVal bs)) ∧ Below w.heap.size w w' := by
  obtain ⟨A, c, rfl, hc, hcell⟩ := h
  have hmk := run_make_row' (P := Tryz.prog) 31 3 (.int .i64 0) 8 Tryz.underlying31 Tryz.infoInt rfl .i64 .i64 args.length (by omega) (by omega)
  have HV := Lib.hid (fun t ht => value_any bs hb t ht)
  generalize encB bs = m at HV
  obtain ⟨ys, hys⟩ : ∃ ys, ys = args.map (termVal bs) := ⟨_, rfl⟩
  have hyl : ys.length = args.length := by rw [hys]; simp
  have HY := Lib.hid hys
  have HYL := Lib.hid hyl
  clear hys hyl
  go_enter Tryz.func95, Tryz.ntmps95
  go_wp2_with (fail)
  go_loopw [6, 7, 13] (fun _ _ i wr => ∃ k : Nat, k ≤ args.length ∧ i = .int .i64 k ∧ wr.rowIs w.heap.size 3 args.length (fun j => if j < k then .int .i64 (ys.getD j 0) else .int .i64 0) ∧ Below w.heap.size w wr)
    (fun _ _ i _ => args.length - (intOf i).toNat)
  case atStart => exact ⟨0, Nat.zero_le _, rfl, (World.rowIs_made w _ _ _).congr (fun j _ => by simp), (Below.refl _ _).alloc (Nat.le_refl _) _⟩
  case round =>
    obtain ⟨k, hk, rfl, hrow, hb⟩ := hrel
    by_cases hlt : k < args.length
    · obtain ⟨b, o, rfl, hbB, hx⟩ := hcell (by omega)
      have hck : wr.cell? ⟨b, o + k, none⟩ = some (.int .i64 args[k]) := (hb.cell (p := ⟨b, o + k, none⟩) hbB).trans (hx k hlt)
      have hok : termOk args[k] = true := List.all_eq_true.1 ht _ (List.getElem_mem hlt)
      have hc2 := hrow.cell hlt
      have hf2 := hrow.frozen k
      have HV2 := Lib.hid (HV.out _ hok)
      have HG := Lib.hid (show ys.getD k 0 = termVal bs args[k] by rw [HY.out]; simp [hlt])
      clear hx
      have HR := Lib.hid hrow
      clear hrow hok
      go_wp2_with (go_at_call 135; refine (HV2.out _).mono ?_; rintro e w' ⟨rfl, rfl⟩)
      go_roundw
      case rel =>
        refine ⟨k + 1, by omega, by go_num, (HR.out.set k _).congr (fun j hj => ?_), hb.setCell (Nat.le_refl _) _⟩
        by_cases e : j = k
        · subst e
          simp only [if_true]
          rw [if_pos (by omega), HG.out]
        · rw [if_neg e]
          by_cases h2 : j < k
          · rw [if_pos h2, if_pos (by omega)]
          · rw [if_neg h2, if_neg (by omega)]
      case measure => simp [intOf]; omega
    · have hkn : k = args.length := by omega
      have HO : OwnInts wr w.heap.size wr.heap.size (.slice (some ⟨w.heap.size, 0, none⟩) ys.length ys.length) ys :=
        OwnInts.of_rowIs (by rw [HYL.out]; exact hrow.congr (fun j hj => by rw [if_pos (by omega)])) (Nat.le_refl _) hrow.lt (by have := HYL.out; unfold maxLen; omega)
      rw [HYL.out, HY.out] at HO
      clear hrow hcell
      have HH := Lib.hid HO
      clear HO
      clear hkn
      go_wp2_with (fail)
      go_ret
      exact ⟨_, _, rfl, HH.out, hb⟩

theorem bs_getD {bs : List Int} {j : Nat} (hl : bs.length = 4) (hj : j < 4) : bs.getD j (-1) = bs.getD j 0 := by
  rw [List.getD_eq_getElem?_getD, List.getD_eq_getElem?_getD, List.getElem?_eq_getElem (by omega)]
  rfl

theorem make4i (W : World) : (Instr.makeSlice 31 (.int .i64 4) (.int .i64 4)).run Tryz.prog W = .ok (.slice (some ⟨W.heap.size, 0, none⟩) 4 4) (W.alloc (.cells (madeCells #[.int .i64 0] 4) 3)) :=
  run_make_row' (P := Tryz.prog) 31 3 (.int .i64 0) 8 Tryz.underlying31 Tryz.infoInt rfl .i64 .i64 4 (by omega) (by omega) W

set_option maxHeartbeats 400000 in
set_option maxRecDepth 100000 in
theorem numbers_any (bs : List Int) (hb : bindOk bs = true) (w : World) :
    Calls Tryz.prog 83 #[.int .u32 (encB bs : Nat)] w fun e w' => ∃ A' c', e = .returned (.slice A' bs.length c') ∧ OwnInts w' w.heap.size w'.heap.size (.slice A' bs.length c') bs ∧ Below w.heap.size w w' := by
  have hmk := make4i
  have hl := bindOk_len hb
  have HV := Lib.hid (fun v (hv : v < 4) => (show (fieldB (encB bs) v : Nat) - 1 = bs.getD v 0 by rw [fieldB_enc hb hv, bs_getD hl hv]))
  have hm := encB_lt hb
  generalize encB bs = m at HV hm
  have HL := Lib.hid hl
  clear hl
  go_enter Tryz.func83, Tryz.ntmps83
  go_wp2_with (fail)
  go_loopw [4, 8] (fun _ i wr => ∃ k : Nat, k ≤ 4 ∧ i = .int .i64 k ∧ wr.rowIs w.heap.size 3 4 (fun j => if j < k then .int .i64 (bs.getD j 0) else .int .i64 0) ∧ Below w.heap.size w wr)
    (fun _ i _ => 4 - (intOf i).toNat)
  case atStart => exact ⟨0, Nat.zero_le _, rfl, (World.rowIs_made w _ _ _).congr (fun j _ => by simp), (Below.refl _ _).alloc (Nat.le_refl _) _⟩
  case round =>
    obtain ⟨k, hk, rfl, hrow, hb⟩ := hrel
    by_cases hlt : k < 4
    · have hc2 := hrow.cell hlt
      have hf2 := hrow.frozen k
      have HC := Lib.hid (constant_any m k hm hlt)
      have HG := Lib.hid (HV.out k hlt)
      have HR := Lib.hid hrow
      clear hrow
      go_wp2_with (go_at_call 74; refine (HC.out _).mono ?_; rw [HG.out]; rintro e w' ⟨rfl, rfl⟩)
      go_roundw
      case rel =>
        refine ⟨k + 1, by omega, by go_num, (HR.out.set k _).congr (fun j hj => ?_), hb.setCell (Nat.le_refl _) _⟩
        by_cases e : j = k
        · subst e
          simp only [if_true]
          rw [if_pos (by omega)]
          simp
        · rw [if_neg e]
          by_cases h2 : j < k
          · rw [if_pos h2, if_pos (by omega)]
          · rw [if_neg h2, if_neg (by omega)]
      case measure => simp [intOf]; omega
    · have hkn : k = 4 := by omega
      have HO : OwnInts wr w.heap.size wr.heap.size (.slice (some ⟨w.heap.size, 0, none⟩) bs.length bs.length) bs :=
        OwnInts.of_rowIs (by rw [HL.out]; exact hrow.congr (fun j hj => by rw [if_pos (by omega)])) (Nat.le_refl _) hrow.lt (by have := HL.out; unfold maxLen; omega)
      have HH := Lib.hid HO
      clear HO hrow hkn
      go_wp2_with (fail)
      go_ret
      refine ⟨_, _, ?_, HH.out, hb⟩
      rw [HL.out]
      rfl

end Go.Proofs.YtokmmloakahkhaaGreat
/-
  The program's Bound.
-/
namespace Go.Proofs.YtokmmloakahkhaaGreat
open Go.RowKit

theorem areTerms_is {xs : List Int} {b : Bool} (e : xs.all termOk = b) (v : Value) (B : Nat) (w : World) (h : RdInts w B v xs) (hr : xs.length ≤ 1048576) :
    Calls Tryz.prog 47 #[v] w fun e w' => e = .returned (.bool b) ∧ w = w' := e ▸ areTerms_any v xs B w h hr

set_option maxHeartbeats 400000 in
set_option maxRecDepth 100000 in
theorem implBound_any (v v2 : Value) (xs bs : List Int) (w : World) (h : RdInts w w.heap.size v xs) (h2 : RdInts w w.heap.size v2 bs) (hr : xs.length ≤ 1048576) (hr2 : bs.length ≤ 1048576) :
    Calls Tryz.prog 55 #[v, v2] w fun e w' => ∃ A' c', e = .returned (.slice A' (boundL xs bs).length c') ∧ OwnInts w' w.heap.size w'.heap.size (.slice A' (boundL xs bs).length c') (boundL xs bs) ∧ Below w.heap.size w w' := by
  have H := Lib.hid h
  have H2 := Lib.hid h2
  obtain ⟨A, c, rfl, hc, _⟩ := h
  obtain ⟨A2, c2, rfl, hc2, _⟩ := h2
  have HBad := Lib.hid (show (bindOk bs && xs.all termOk) = false → boundL xs bs = [] from fun e => by unfold boundL; rw [e]; rfl)
  have N0 := Lib.hid (show OwnInts w w.heap.size w.heap.size (.slice none 0 0) [] from ⟨World.ownsRow_nil _ _ _ _, fun g hg => by cases hg⟩)
  by_cases hb : bindOk bs = true
  · have L1 := Lib.hid (fun W (hW : RdInts W w.heap.size (.slice A2 bs.length c2) bs) => bindingOf_yes hb (.slice A2 bs.length c2) w.heap.size W hW)
    by_cases ht : xs.all termOk = true
    · have HY := Lib.hid (show boundL xs bs = xs.map (termVal bs) by unfold boundL; rw [hb, ht]; rfl)
      have HL := Lib.hid (show (boundL xs bs).length = xs.length by rw [HY.out]; simp)
      have L2 := Lib.hid (areTerms_is ht (.slice A xs.length c) w.heap.size w H.out hr)
      have L3 := Lib.hid (values_any (.slice A xs.length c) bs xs hb ht w H.out hr)
      clear hb ht
      generalize encB bs = m at L1 L3
      go_enter Tryz.func55, Tryz.ntmps55
      go_wp2_with (first | (go_at_call 94; refine (L1.out _ H2.out).mono ?_; rintro e w' ⟨rfl, rfl⟩) | (go_at_call 47; refine L2.out.mono ?_; rintro e w' ⟨rfl, rfl⟩) | (go_at_call 95; refine L3.out.mono ?_; rintro e w1 ⟨A', c', rfl, ho, hbe⟩; have HO := Lib.hid (And.intro ho hbe); clear ho hbe))
      go_ret
      refine ⟨A', c', by rw [HL.out]; rfl, ?_, HO.out.2⟩
      rw [HL.out, HY.out]
      exact HO.out.1
    · have ht' : xs.all termOk = false := by simpa using ht
      have HE := Lib.hid (HBad.out (by rw [ht', Bool.and_false]))
      have L2 := Lib.hid (areTerms_is ht' (.slice A xs.length c) w.heap.size w H.out hr)
      clear hb ht ht'
      generalize encB bs = m at L1
      go_enter Tryz.func55, Tryz.ntmps55
      go_wp2_with (first | (go_at_call 94; refine (L1.out _ H2.out).mono ?_; rintro e w' ⟨rfl, rfl⟩) | (go_at_call 47; refine L2.out.mono ?_; rintro e w' ⟨rfl, rfl⟩))
      go_ret
      rw [HE.out]
      exact ⟨_, _, rfl, N0.out, Below.refl _ _⟩
  · have hb' : bindOk bs = false := by simpa using hb
    have HE := Lib.hid (HBad.out (by rw [hb', Bool.false_and]))
    have L1 := Lib.hid (fun W (hW : RdInts W w.heap.size (.slice A2 bs.length c2) bs) => bindingOf_no hb' (.slice A2 bs.length c2) w.heap.size W hW hr2)
    clear hb hb'
    go_enter Tryz.func55, Tryz.ntmps55
    go_wp2_with (first | (go_at_call 94; refine (L1.out _ H2.out).mono ?_; rintro e w' ⟨rfl, rfl⟩))
    go_ret
    rw [HE.out]
    exact ⟨_, _, rfl, N0.out, Below.refl _ _⟩

end Go.Proofs.YtokmmloakahkhaaGreat
/-
  Both BodySafe.
-/
namespace Go.Proofs.YtokmmloakahkhaaGreat
open Go.RowKit

def litFine (l : LLit) : Bool := decide (0 ≤ l.1 ∧ l.1 ≤ 3) && l.2.2.all termOk
def bodySafe (ls : List LLit) : Bool := (ls.all litFine && decide (ls.length ≤ 4)) && ruleSafe ((0, []), ls)
theorem litFine_kind {l : LLit} (h : ¬ (0 ≤ l.1 ∧ l.1 ≤ 3)) : litFine l = false := by simp [litFine, h]
theorem litFine_terms {l : LLit} (h : l.2.2.all termOk = false) : litFine l = false := by unfold litFine; rw [h, Bool.and_false]
theorem litFine_yes {l : LLit} (h : 0 ≤ l.1 ∧ l.1 ≤ 3) (h2 : l.2.2.all termOk = true) : litFine l = true := by unfold litFine; rw [h2, decide_eq_true h]; rfl
theorem ruleMask_body (ls : List LLit) : ruleMask ((0, []), ls) = bodyMask ls := by simp [ruleMask, maskOf, maskFrom]
theorem bodySafe_not {ls : List LLit} {k : Nat} (hk : k < ls.length) (e : litFine ls[k] = false) : bodySafe ls = false := by
  unfold bodySafe
  rw [all_not hk e]
  rfl
theorem l2Terms_is {xs : List Int} {b : Bool} (e : xs.all termOk = b) (v : Value) (B : Nat) (w : World) (h : RdInts w B v xs) (hr : xs.length ≤ 1048576) :
    Calls Tryz.prog 51 #[v] w fun e w' => e = .returned (.bool b) ∧ w = w' := e ▸ l2Terms_any v xs B w h hr

set_option maxHeartbeats 1000000 in
set_option maxRecDepth 100000 in
theorem specBodySafe_any (v : Value) (ls : List LLit) (w : World) (h : RdLits w w.heap.size v ls) (hr : ls.length + totL ls ≤ 1048576) :
    Calls Tryz.prog 12 #[v] w fun e w' => e = .returned (.bool (bodySafe ls)) ∧ Below w.heap.size w w' := by
  have H := Lib.hid h
  obtain ⟨A, c, rfl, hc, _⟩ := h
  obtain ⟨R, hR⟩ : ∃ R, R = bodySafe ls := ⟨_, rfl⟩
  rw [← hR]
  have HR := Lib.hid hR
  clear hR
  go_enter Tryz.func12, Tryz.ntmps12
  go_wp2_with (fail)
  go_loop [3] (fun i => ∃ k : Nat, k ≤ ls.length ∧ i = .int .i64 k ∧ AllTo litFine ls k) (fun i => ls.length - (intOf i).toNat)
  case atStart => exact ⟨0, Nat.zero_le _, rfl, AllTo.start⟩
  case round =>
    obtain ⟨k, hk, rfl, hs⟩ := hrel
    by_cases hlt : k < ls.length
    · obtain ⟨b, o, u0, u1, u2, rfl, hbB, k0, k1, k2, rfl, rfl, p3⟩ := H.out.get hlt
      have HA := Lib.hid p3
      obtain ⟨A3, c3, rfl, hc3, _⟩ := p3
      have hle := len_le_totL ls k hlt
      by_cases he : 0 ≤ ls[k].1 ∧ ls[k].1 ≤ 3
      · have HK := Lib.hid (l1In_yes he)
        by_cases ht : ls[k].2.2.all termOk = true
        · have HS := Lib.hid (hs.step hlt (litFine_yes he ht))
          have HT := Lib.hid (l2Terms_is ht _ _ w HA.out (by omega))
          clear hs he ht
          go_wp2_with (first | (go_at_call 50; refine (HK.out _).mono ?_; rintro e w' ⟨rfl, rfl⟩) | (go_at_call 51; refine HT.out.mono ?_; rintro e w' ⟨rfl, rfl⟩))
          go_round
          case rel => exact ⟨k + 1, by omega, by go_num, HS.out⟩
          case measure => simp [intOf]; omega
        · have ht' : ls[k].2.2.all termOk = false := by simpa using ht
          have HE := Lib.hid (bodySafe_not hlt (litFine_terms ht'))
          have HT := Lib.hid (l2Terms_is ht' _ _ w HA.out (by omega))
          clear hs he ht ht'
          go_wp2_with (first | (go_at_call 50; refine (HK.out _).mono ?_; rintro e w' ⟨rfl, rfl⟩) | (go_at_call 51; refine HT.out.mono ?_; rintro e w' ⟨rfl, rfl⟩))
          go_ret
          exact ⟨ret_bool (by rw [HR.out, HE.out]), Below.refl _ _⟩
      · have HE := Lib.hid (bodySafe_not hlt (litFine_kind he))
        have HK := Lib.hid (l1In_no he)
        clear hs he
        go_wp2_with (go_at_call 50; refine (HK.out _).mono ?_; rintro e w' ⟨rfl, rfl⟩)
        go_ret
        exact ⟨ret_bool (by rw [HR.out, HE.out]), Below.refl _ _⟩
    · have HE := Lib.hid (hs.done (by omega))
      clear hs
      by_cases hl : ls.length ≤ 4
      · have hlI : (ls.length : Int) ≤ 4 := by omega
        have HY := Lib.hid (show R = ruleSafe ((0, []), ls) by rw [HR.out]; unfold bodySafe; rw [HE.out, decide_eq_true hl]; rfl)
        have HC := Lib.hid (specRuleSafe_any (.agg #[.int .i64 0, .slice none 0 0, .slice A ls.length c]) ((0, []), ls) w ⟨_, _, rfl, ⟨none, 0, rfl, Nat.zero_le _, fun h => absurd h (by simp)⟩, H.out⟩ (by simpa [szR] using hr))
        go_wp2_with (go_at_call 52; refine HC.out.mono ?_; rintro e w1 ⟨rfl, hb1⟩; have HB := Lib.hid hb1; clear hb1)
        go_ret
        exact ⟨ret_bool HY.out.symm, HB.out⟩
      · have hlI : ¬ (ls.length : Int) ≤ 4 := by omega
        have HY := Lib.hid (show R = false by rw [HR.out]; unfold bodySafe; rw [decide_eq_false hl, Bool.and_false]; rfl)
        clear hl
        go_wp2_with (fail)
        go_ret
        exact ⟨ret_bool HY.out.symm, Below.refl _ _⟩

set_option maxHeartbeats 1000000 in
set_option maxRecDepth 100000 in
theorem implBodySafe_any (v : Value) (ls : List LLit) (w : World) (h : RdLits w w.heap.size v ls) (hr : ls.length + totL ls ≤ 1048576) :
    Calls Tryz.prog 11 #[v] w fun e w' => e = .returned (.bool (bodySafe ls)) ∧ Below w.heap.size w w' := by
  have H := Lib.hid h
  obtain ⟨A, c, rfl, hc, _⟩ := h
  obtain ⟨R, hR⟩ : ∃ R, R = bodySafe ls := ⟨_, rfl⟩
  rw [← hR]
  have HR := Lib.hid hR
  clear hR
  by_cases hl : ls.length ≤ 4
  · have hlI : ¬ 4 < (ls.length : Int) := by omega
    have HL := Lib.hid hl
    go_enter Tryz.func11, Tryz.ntmps11
    go_wp2_with (fail)
    go_loopw [4, 10] (fun _ i wr => ∃ k : Nat, k ≤ ls.length ∧ i = .int .i64 k ∧ AllTo litFine ls k ∧ Below w.heap.size w wr) (fun _ i _ => ls.length - (intOf i).toNat)
    case atStart => exact ⟨0, Nat.zero_le _, rfl, AllTo.start, Below.refl _ _⟩
    case round =>
      obtain ⟨k, hk, rfl, hs, hbe⟩ := hrel
      by_cases hlt : k < ls.length
      · obtain ⟨b, o, u0, u1, u2, rfl, hbB, k0, k1, k2, rfl, rfl, p3⟩ := (H.out.on hbe).get hlt
        have HA := Lib.hid p3
        obtain ⟨A3, c3, rfl, hc3, _⟩ := p3
        have hle := len_le_totL ls k hlt
        by_cases h0 : ls[k].1 < 0
        · have HE := Lib.hid (bodySafe_not hlt (litFine_kind (by omega)))
          clear hs
          go_wp2_with (fail)
          go_ret
          exact ⟨ret_bool (by rw [HR.out, HE.out]), bthen hbe (below1 _ _)⟩
        · have hd : decide (ls[k].1 < 0) = false := by simpa using h0
          by_cases h3 : 3 < ls[k].1
          · have HE := Lib.hid (bodySafe_not hlt (litFine_kind (by omega)))
            clear hs
            go_wp2_with (fail)
            go_ret
            exact ⟨ret_bool (by rw [HR.out, HE.out]), bthen hbe (below1 _ _)⟩
          · have hd3 : decide (3 < ls[k].1) = false := by simpa using h3
            by_cases ht : ls[k].2.2.all termOk = true
            · have HS := Lib.hid (hs.step hlt (litFine_yes (by omega) ht))
              have HT := Lib.hid (fun W (hW : Below wr.heap.size wr W) => areTerms_is ht _ _ W (HA.out.on hW) (by omega))
              clear hs ht
              go_wp2_with (go_at_call 47; refine (HT.out _ (below1 _ _)).mono ?_; rintro e w' ⟨rfl, rfl⟩)
              go_roundw
              case rel => exact ⟨k + 1, by omega, by go_num, HS.out, bthen hbe (below1 _ _)⟩
              case measure => simp [intOf]; omega
            · have ht' : ls[k].2.2.all termOk = false := by simpa using ht
              have HE := Lib.hid (bodySafe_not hlt (litFine_terms ht'))
              have HT := Lib.hid (fun W (hW : Below wr.heap.size wr W) => areTerms_is ht' _ _ W (HA.out.on hW) (by omega))
              clear hs ht ht'
              go_wp2_with (go_at_call 47; refine (HT.out _ (below1 _ _)).mono ?_; rintro e w' ⟨rfl, rfl⟩)
              go_ret
              exact ⟨ret_bool (by rw [HR.out, HE.out]), bthen hbe (below1 _ _)⟩
      · have HE := Lib.hid (hs.done (by omega))
        have HY := Lib.hid (show R = ruleSafe ((0, []), ls) by rw [HR.out]; unfold bodySafe; rw [HE.out, decide_eq_true HL.out]; rfl)
        have HZ := Lib.hid (show ruleSafe ((0, []), ls) = (bits .andNot .u64 ((bodyMask ls : Nat) : Int) ((yesMask ls : Nat) : Int) == 0) by unfold ruleSafe; rw [ruleMask_body])
        clear hs
        go_wp2_with (fail)
        refine (bodyVars_any _ ls _ (H.out.on hbe) (by omega) (by omega)).mono ?_
        rintro e w1 ⟨rfl, hb1⟩
        have B1 := bthen hbe hb1
        go_wp2_with (fail)
        refine (yesVars_any _ ls _ (H.out.on B1) (by omega) (by omega)).mono ?_
        rintro e w2 ⟨rfl, hb2⟩
        have B2 := bthen B1 hb2
        go_wp2_with (fail)
        go_ret
        exact ⟨ret_bool (by rw [HY.out, HZ.out]), B2⟩
  · have hlI : 4 < (ls.length : Int) := by omega
    have HY := Lib.hid (show R = false by rw [HR.out]; unfold bodySafe; rw [decide_eq_false hl, Bool.and_false]; rfl)
    clear hl
    go_enter Tryz.func11, Tryz.ntmps11
    go_wp2_with (fail)
    go_ret
    exact ⟨ret_bool HY.out.symm, Below.refl _ _⟩

end Go.Proofs.YtokmmloakahkhaaGreat
/-
  The specification's HeadOf.
-/
namespace Go.Proofs.YtokmmloakahkhaaGreat
open Go.RowKit

theorem zeroI (w : World) (lo hi : Nat) : OwnInts w lo hi (.slice none 0 0) [] := ⟨World.ownsRow_nil _ _ _ _, fun g hg => by cases hg⟩

set_option maxHeartbeats 2000000 in
set_option maxRecDepth 100000 in
theorem specHeadOf_any (v v2 : Value) (a : LFact) (bs : List Int) (w : World) (h : RdFact w w.heap.size v a) (h2 : RdInts w w.heap.size v2 bs) (hr : a.2.length ≤ 1048576) (hr2 : bs.length ≤ 1048576) :
    Calls Tryz.prog 139 #[v, v2] w fun e w' => ∃ A' c', e = .returned (.tuple #[.agg #[.int .i64 (headOf a bs).1, .slice A' (headOf a bs).2.length c'], .bool (headOk a bs)]) ∧ OwnInts w' w.heap.size w'.heap.size (.slice A' (headOf a bs).2.length c') (headOf a bs).2 ∧ Below w.heap.size w w' := by
  obtain ⟨i0, hi0, hz0, hz1, hz2⟩ := info_parts Tryz.infoInt
  obtain ⟨u, rfl, h⟩ := h
  have H := Lib.hid h
  have H2 := Lib.hid h2
  obtain ⟨A, c, rfl, hc, _⟩ := h
  obtain ⟨A2, c2, rfl, hc2, _⟩ := h2
  obtain ⟨F, hF⟩ : ∃ F, F = headOf a bs := ⟨_, rfl⟩
  obtain ⟨ok, hok⟩ : ∃ ok, ok = headOk a bs := ⟨_, rfl⟩
  rw [← hF, ← hok]
  have HF := Lib.hid hF
  have HK := Lib.hid hok
  clear hF hok
  -- the worlds ahead
  have X0 : ∀ T1 c1 T2 c2, Blk ((w.alloc (Obj.cells c1 T1)).alloc (Obj.cells c2 T2)) w.heap.size T1 c1 := fun T1 c1 T2 c2 => (Blk.new w T1 c1).alloc _
  have X1 : ∀ o T2 c2, Blk ((w.alloc o).alloc (Obj.cells c2 T2)) (w.heap.size + 1) T2 c2 := fun o T2 c2 => by simpa using Blk.new (w.alloc o) T2 c2
  by_cases hb : bindOk bs = true
  · have L1 := Lib.hid (fun W (hW : Below w.heap.size w W) => l3Bind_is hb (.slice A2 bs.length c2) w.heap.size W (H2.out.below hW (Nat.le_refl _)) hr2)
    by_cases ht : a.2.all termOk = true
    · have L2 := Lib.hid (fun W (hW : Below w.heap.size w W) => l2Terms_is ht (.slice A a.2.length c) w.heap.size W (H.out.below hW (Nat.le_refl _)) hr)
      have HB4 := Lib.hid (bindOk_len hb)
      have HB := Lib.hid hb
      have HT := Lib.hid ht
      have HTK := Lib.hid (show ∀ k (hk : k < a.2.length), termOk a.2[k] = true ∧ -1 ≤ termVal bs a.2[k] ∧ termVal bs a.2[k] ≤ 5 from fun k hk => by
        have := List.all_eq_true.1 ht _ (List.getElem_mem hk)
        exact ⟨this, termVal_bounds hb this⟩)
      obtain ⟨ys, hys⟩ : ∃ ys, ys = a.2.map (termVal bs) := ⟨_, rfl⟩
      have HY := Lib.hid hys
      have HYL := Lib.hid (show ys.length = a.2.length by rw [hys]; simp)
      have HYK := Lib.hid (show ∀ k (hk : k < a.2.length), ys.take (k + 1) = ys.take k ++ [termVal bs a.2[k]] from fun k hk => by
        rw [take_snoc ys k (by rw [hys]; simpa using hk)]
        simp [hys])
      clear hb ht hys
      go_enter Tryz.func139, Tryz.ntmps139
      go_wp2_with (fail)
      have x0 := X0 33 #[.int .i64 a.1, .slice A a.2.length c] 42 #[.int .i64 0, .slice none 0 0]
      have x1 := X1 (Obj.cells #[.int .i64 a.1, .slice A a.2.length c] 33) 42 #[.int .i64 0, .slice none 0 0]
      obtain ⟨w2, hw2⟩ : ∃ w2, w2 = ((w.alloc (Obj.cells #[Value.int IntKind.i64 a.1, Value.slice A a.2.length c] 33)).alloc (Obj.cells #[Value.int IntKind.i64 0, Value.slice none 0 0] 42)) := ⟨_, rfl⟩
      have B2 : Below w.heap.size w w2 := by rw [hw2]; exact below2 _ _ _
      have hs2 : w.heap.size + 1 < w2.heap.size := by rw [hw2]; simp
      rw [← hw2] at x0 x1 ⊢
      clear hw2 X0 X1
      have q00 : w2.cell? ⟨w.heap.size, 0, none⟩ = some (.int .i64 a.1) := x0.cell 0
      have q01 : w2.cell? ⟨w.heap.size, 1, none⟩ = some (.slice A a.2.length c) := x0.cell 1
      refine (L1.out _ B2).mono ?_
      rintro e w' ⟨rfl, rfl⟩
      go_wp2_with (fail)
      refine (L2.out _ B2).mono ?_
      rintro e w' ⟨rfl, rfl⟩
      go_wp2_with (fail)
      have x2 : Blk (w2.alloc (Obj.cells #[Value.int IntKind.i64 a.1, Value.slice none 0 0] 42)) w2.heap.size 42 #[.int .i64 a.1, .slice none 0 0] := Blk.new _ _ _
      have R0 : Below w.heap.size w (w2.alloc (Obj.cells #[Value.int IntKind.i64 a.1, Value.slice none 0 0] 42)) ∧ Blk (w2.alloc (Obj.cells #[Value.int IntKind.i64 a.1, Value.slice none 0 0] 42)) w.heap.size 33 #[.int .i64 a.1, .slice A a.2.length c] ∧ Blk (w2.alloc (Obj.cells #[Value.int IntKind.i64 a.1, Value.slice none 0 0] 42)) (w.heap.size + 1) 42 #[.int .i64 0, .slice none 0 0] := ⟨bthen B2 (below1 _ _), x0.alloc _, x1.alloc _⟩
      clear x0 x1 q00 q01
      go_loopw [7, 8] (fun i _ wr => ∃ (k : Nat) (A' : Option Addr) (c' : Nat), k ≤ a.2.length ∧ i = .int .i64 k ∧ (ys.take k).all constOk = true ∧ OwnInts wr (w2.heap.size + 1) wr.heap.size (.slice A' (ys.take k).length c') (ys.take k) ∧
          Blk wr w2.heap.size 42 #[.int .i64 a.1, .slice A' (ys.take k).length c'] ∧ (Below w.heap.size w wr ∧ Blk wr w.heap.size 33 #[.int .i64 a.1, .slice A a.2.length c] ∧ Blk wr (w.heap.size + 1) 42 #[.int .i64 0, .slice none 0 0])) (fun i _ _ => a.2.length - (intOf i).toNat)
      case atStart => exact ⟨0, none, 0, Nat.zero_le _, rfl, rfl, zeroI _ _ _, x2, R0⟩
      case round =>
        obtain ⟨k, A', c', hk, rfl, hs, ho, y2, hbe, y0, y1⟩ := hrel
        have hln : (ys.take k).length ≤ k := by simp; omega
        have q00 : wr.cell? ⟨w.heap.size, 0, none⟩ = some (.int .i64 a.1) := y0.cell 0
        have q01 : wr.cell? ⟨w.heap.size, 1, none⟩ = some (.slice A a.2.length c) := y0.cell 1
        by_cases hlt : k < a.2.length
        · have hre := H.out.below hbe (Nat.le_refl _)
          obtain ⟨A3, c3, e3, _, hx⟩ := hre
          injection e3 with e3 _ e4
          subst e3 e4
          obtain ⟨b, o, rfl, hbB, hx⟩ := hx (by omega)
          have hck : wr.cell? ⟨b, o + k, none⟩ = some (.int .i64 a.2[k]) := hx k hlt
          obtain ⟨htk, htl, hth⟩ := HTK.out k hlt
          have T1 := Lib.hid (l3Term_any (.slice A2 bs.length c2) bs a.2[k] w.heap.size wr (H2.out.below hbe (Nat.le_refl _)) HB4.out htk)
          have HS := Lib.hid (HYK.out k hlt)
          clear hx
          obtain ⟨zs, hzs⟩ : ∃ zs, zs = ys.take k := ⟨_, rfl⟩
          rw [← hzs] at ho hln y2 hs
          have HZ := Lib.hid hzs
          clear hzs
          obtain ⟨t, htv⟩ : ∃ t, t = termVal bs a.2[k] := ⟨_, rfl⟩
          rw [← htv] at T1 HS htl hth
          have HTV := Lib.hid htv
          clear htv htk
          have HP := Lib.hid (And.intro ho (And.intro hbe (And.intro y0 (And.intro y1 y2))))
          have c20 : wr.cell? ⟨w2.heap.size, 0, none⟩ = some (.int .i64 a.1) := y2.cell 0
          have c21 : wr.cell? ⟨w2.heap.size, 1, none⟩ = some (.slice A' zs.length c') := y2.cell 1
          have c10 : wr.cell? ⟨w.heap.size + 1, 0, none⟩ = some (.int .i64 0) := y1.cell 0
          have c11 : wr.cell? ⟨w.heap.size + 1, 1, none⟩ = some (.slice none 0 0) := y1.cell 1
          have f10 := y1.frozen 0
          have f11 := y1.frozen 1
          clear ho y0 y1 y2
          by_cases h0 : t < 0
          · have HN := Lib.hid (show ok = false ∧ F = (0, []) by
              have hno : headOk a bs = false := headOk_vals (all_not (k := k) (by simpa using hlt) (by
                have := HTV.out
                simp [constOk]
                omega))
              exact ⟨by rw [HK.out, hno], by rw [HF.out, headOf_no hno]⟩)
            clear hs
            go_wp2_with (go_at_call 129; refine T1.out.mono ?_; rintro e w' ⟨rfl, rfl⟩)
            refine bodyPost_ret (v := .tuple #[.agg #[.int .i64 0, .slice none 0 0], .bool false]) (by simp [results, Tryz.results139, go_sem, c10, c11]) rfl ?_
            rw [HN.out.1, HN.out.2]
            exact ⟨none, 0, rfl, zeroI _ _ _, (hbe.setCell (by simp) _).setCell (by simp) _⟩
          · have hd0 : decide (t < 0) = false := by simpa using h0
            have HCS := Lib.hid (show (zs ++ [t]).all constOk = true by rw [List.all_append, hs]; simp [constOk]; omega)
            clear hs
            go_wp2_with (first | (go_at_call 129; refine T1.out.mono ?_; rintro e w' ⟨rfl, rfl⟩) | (at_builtin; refine wpList_append_lies _ rfl (.tmp 40) (.tmp 42) 31 rfl (w2.heap.size + 1) 3 i0 (.int .i64 0) 1 8 Tryz.underlying31 hi0 hz0 hz1 hz2 rfl (by decide) (.slice A' zs.length c') zs.length (zs.map (Value.int .i64)) rfl ?c1 ⟨_, 0, none⟩ 1 1 [.int .i64 t] rfl rfl (news1s _ _ _ _ (by simp)) ?c2 (by omega) (by unfold maxLen; omega) (by omega) ?c3 _ rfl ?_))
            case c1 => exact HP.out.1.1.alloc _
            case c2 => intro u hu; simp at hu; subst hu; rfl
            case c3 => have := HP.out.2.2.2.2.lt; simp; omega
            intro g cap w4 hown hg _ _
            have hgr := grown_from_alloc hg
            obtain ⟨ho, hbe', y0, y1, y2⟩ := HP.out
            have z0 := y0.grown hgr (ho.apart (by omega))
            have z1 := y1.grown hgr (ho.apart (by omega))
            have z2 := y2.grown hgr (ho.apart (by omega))
            have hb4 : Below w.heap.size w w4 := hbe'.trans (Below.grown (Below.refl _ _) hgr hbe'.size (fun j hj => by have := ho.lt hj; omega))
            have z2f := z2.frozen 1
            have z2c : w4.cell? ⟨w2.heap.size, 1, none⟩ = some (.slice A' zs.length c') := z2.cell 1
            have z2s := z2.set_ 1 (.slice (some ⟨g, 0, none⟩) (zs.length + 1) cap)
            have hlen : zs.length + 1 = (zs ++ [t]).length := by simp
            have hoo : OwnInts w4 (w2.heap.size + 1) w4.heap.size (.slice (some ⟨g, 0, none⟩) (zs.length + 1) cap) (zs ++ [t]) := by
              refine ⟨?_, fun b hb' => (hown.lt b hb').2⟩
              rw [← hlen]
              simpa using hown
            have hos := hoo.set (p := ⟨w2.heap.size, 1, none⟩) (.inl (by show w2.heap.size < w2.heap.size + 1; omega)) (.slice (some ⟨g, 0, none⟩) (zs.length + 1) cap)
            have z0s := z0.far (p := ⟨w2.heap.size, 1, none⟩) (by show w.heap.size ≠ w2.heap.size; omega) (.slice (some ⟨g, 0, none⟩) (zs.length + 1) cap)
            have z1s := z1.far (p := ⟨w2.heap.size, 1, none⟩) (by show w.heap.size + 1 ≠ w2.heap.size; omega) (.slice (some ⟨g, 0, none⟩) (zs.length + 1) cap)
            have HQ := Lib.hid (And.intro hos (And.intro z2s (And.intro (hb4.setCell (p := ⟨w2.heap.size, 1, none⟩) (by show w.heap.size ≤ w2.heap.size; omega) (.slice (some ⟨g, 0, none⟩) (zs.length + 1) cap)) (And.intro z0s z1s))))
            have HSE := Lib.hid (show ys.take (k + 1) = zs ++ [t] by rw [HS.out, HZ.out])
            clear hown hg hgr ho hbe' y0 y1 y2 z0 z1 hb4 z2s hlen hoo hos z0s z1s
            go_wp2_with (fail)
            go_roundw
            case rel =>
              obtain ⟨a1, a2, a3, a4, a5⟩ := HQ.out
              refine ⟨k + 1, some ⟨g, 0, none⟩, cap, by omega, by go_num, by rw [HSE.out]; exact HCS.out, ?_, ?_, a3, a4, a5⟩
              · rw [HSE.out]
                simpa using a1
              · rw [HSE.out]
                simpa using a2
            case measure => simp [intOf]; omega
        · have hkn : k = a.2.length := by omega
          have hall : ys.take k = ys := by rw [hkn, ← HYL.out, List.take_length]
          rw [hall] at hs ho y2
          have HN := Lib.hid (show ok = true ∧ F = (a.1, ys) by
            have hyes : headOk a bs = true := headOk_yes HB.out HT.out (by rw [← HY.out]; exact hs)
            exact ⟨by rw [HK.out, hyes], by rw [HF.out, headOf_yes hyes, HY.out]⟩)
          have c20 : wr.cell? ⟨w2.heap.size, 0, none⟩ = some (.int .i64 a.1) := y2.cell 0
          have c21 : wr.cell? ⟨w2.heap.size, 1, none⟩ = some (.slice A' ys.length c') := y2.cell 1
          have c10 : wr.cell? ⟨w.heap.size + 1, 0, none⟩ = some (.int .i64 0) := y1.cell 0
          have c11 : wr.cell? ⟨w.heap.size + 1, 1, none⟩ = some (.slice none 0 0) := y1.cell 1
          have f10 := y1.frozen 0
          have f11 := y1.frozen 1
          have HP := Lib.hid (And.intro ho hbe)
          clear hs hall hkn ho y0 y1 y2
          go_wp2_with (fail)
          refine bodyPost_ret (v := .tuple #[.agg #[.int .i64 a.1, .slice A' ys.length c'], .bool true]) (by simp [results, Tryz.results139, go_sem, c10, c11]) rfl ?_
          rw [HN.out.1, HN.out.2]
          refine ⟨A', c', rfl, ?_, (HP.out.2.setCell (by simp) _).setCell (by simp) _⟩
          exact ((HP.out.1.set (p := ⟨w.heap.size + 1, 0, none⟩) (.inl (by show w.heap.size + 1 < w2.heap.size + 1; omega)) _).set (p := ⟨w.heap.size + 1, 1, none⟩) (.inl (by show w.heap.size + 1 < w2.heap.size + 1; omega)) _).mono (by omega) (by simp)
    · have ht' : a.2.all termOk = false := by simpa using ht
      have L2 := Lib.hid (fun W (hW : Below w.heap.size w W) => l2Terms_is ht' (.slice A a.2.length c) w.heap.size W (H.out.below hW (Nat.le_refl _)) hr)
      have HN := Lib.hid (show ok = false ∧ F = (0, []) from ⟨by rw [HK.out, headOk_terms ht'], by rw [HF.out, headOf_no (headOk_terms ht')]⟩)
      clear hb ht ht'
      go_enter Tryz.func139, Tryz.ntmps139
      go_wp2_with (fail)
      have x0 := X0 33 #[.int .i64 a.1, .slice A a.2.length c] 42 #[.int .i64 0, .slice none 0 0]
      have x1 := X1 (Obj.cells #[.int .i64 a.1, .slice A a.2.length c] 33) 42 #[.int .i64 0, .slice none 0 0]
      obtain ⟨w2, hw2⟩ : ∃ w2, w2 = ((w.alloc (Obj.cells #[Value.int IntKind.i64 a.1, Value.slice A a.2.length c] 33)).alloc (Obj.cells #[Value.int IntKind.i64 0, Value.slice none 0 0] 42)) := ⟨_, rfl⟩
      have B2 : Below w.heap.size w w2 := by rw [hw2]; exact below2 _ _ _
      rw [← hw2] at x0 x1 ⊢
      clear hw2 X0 X1
      have q00 : w2.cell? ⟨w.heap.size, 0, none⟩ = some (.int .i64 a.1) := x0.cell 0
      have q01 : w2.cell? ⟨w.heap.size, 1, none⟩ = some (.slice A a.2.length c) := x0.cell 1
      have c10 : w2.cell? ⟨w.heap.size + 1, 0, none⟩ = some (.int .i64 0) := x1.cell 0
      have c11 : w2.cell? ⟨w.heap.size + 1, 1, none⟩ = some (.slice none 0 0) := x1.cell 1
      have f10 := x1.frozen 0
      have f11 := x1.frozen 1
      refine (L1.out _ B2).mono ?_
      rintro e w' ⟨rfl, rfl⟩
      go_wp2_with (go_at_call 51; refine (L2.out _ B2).mono ?_; rintro e w' ⟨rfl, rfl⟩)
      refine bodyPost_ret (v := .tuple #[.agg #[.int .i64 0, .slice none 0 0], .bool false]) (by simp [results, Tryz.results139, go_sem, c10, c11]) rfl ?_
      rw [HN.out.1, HN.out.2]
      exact ⟨none, 0, rfl, zeroI _ _ _, (B2.setCell (by simp) _).setCell (by simp) _⟩
  · have hb' : bindOk bs = false := by simpa using hb
    have L1 := Lib.hid (fun W (hW : Below w.heap.size w W) => l3Bind_is hb' (.slice A2 bs.length c2) w.heap.size W (H2.out.below hW (Nat.le_refl _)) hr2)
    have HN := Lib.hid (show ok = false ∧ F = (0, []) from ⟨by rw [HK.out, headOk_bind hb'], by rw [HF.out, headOf_no (headOk_bind hb')]⟩)
    clear hb hb'
    go_enter Tryz.func139, Tryz.ntmps139
    go_wp2_with (fail)
    have x1 := X1 (Obj.cells #[.int .i64 a.1, .slice A a.2.length c] 33) 42 #[.int .i64 0, .slice none 0 0]
    obtain ⟨w2, hw2⟩ : ∃ w2, w2 = ((w.alloc (Obj.cells #[Value.int IntKind.i64 a.1, Value.slice A a.2.length c] 33)).alloc (Obj.cells #[Value.int IntKind.i64 0, Value.slice none 0 0] 42)) := ⟨_, rfl⟩
    have B2 : Below w.heap.size w w2 := by rw [hw2]; exact below2 _ _ _
    rw [← hw2] at x1 ⊢
    clear hw2 X0 X1
    have c10 : w2.cell? ⟨w.heap.size + 1, 0, none⟩ = some (.int .i64 0) := x1.cell 0
    have c11 : w2.cell? ⟨w.heap.size + 1, 1, none⟩ = some (.slice none 0 0) := x1.cell 1
    have f10 := x1.frozen 0
    have f11 := x1.frozen 1
    refine (L1.out _ B2).mono ?_
    rintro e w' ⟨rfl, rfl⟩
    go_wp2_with (fail)
    refine bodyPost_ret (v := .tuple #[.agg #[.int .i64 0, .slice none 0 0], .bool false]) (by simp [results, Tryz.results139, go_sem, c10, c11]) rfl ?_
    rw [HN.out.1, HN.out.2]
    exact ⟨none, 0, rfl, zeroI _ _ _, (B2.setCell (by simp) _).setCell (by simp) _⟩

end Go.Proofs.YtokmmloakahkhaaGreat
/-
  The specification's l3Copy, l3Match.
-/
namespace Go.Proofs.YtokmmloakahkhaaGreat
open Go.RowKit

/-- A row of one's own that is not empty: its block, its cells. -/
theorem OwnInts.at_ {w : World} {lo hi c n : Nat} {A : Option Addr} {xs : List Int} (h : OwnInts w lo hi (.slice A n c) xs) (hn : 0 < xs.length) :
    ∃ g, A = some ⟨g, 0, none⟩ ∧ lo ≤ g ∧ g < hi ∧ g < w.heap.size ∧ (∀ k (hk : k < xs.length), w.cell? ⟨g, k, none⟩ = some (.int .i64 xs[k])) ∧ ∀ k, w.frozen? ⟨g, k, none⟩ = false := by
  obtain ⟨g, cap, e, _, _⟩ := h.1.form hn
  injection e with e1 e2 e3
  subst e1
  subst e2
  obtain ⟨l1, l2, l3⟩ := h.lt (g := g) rfl
  obtain ⟨A', c', e, _, hx⟩ := h.rd
  injection e with e1 _ _
  obtain ⟨b, o, e2, _, hx⟩ := hx hn
  rw [← e1] at e2
  injection e2 with e2
  injection e2 with e2 e3 _
  subst e2
  subst e3
  exact ⟨g, rfl, l1, l2, l3, fun k hk => by simpa using hx k hk, fun k => World.ownsRow.frozenAt h.1 k⟩

theorem OwnInts.atG {w : World} {lo hi c n g : Nat} {xs : List Int} (h : OwnInts w lo hi (.slice (some ⟨g, 0, none⟩) n c) xs) (hn : 0 < xs.length) :
    lo ≤ g ∧ g < hi ∧ g < w.heap.size ∧ (∀ k (hk : k < xs.length), w.cell? ⟨g, k, none⟩ = some (.int .i64 xs[k])) ∧ ∀ k, w.frozen? ⟨g, k, none⟩ = false := by
  obtain ⟨g', e, h'⟩ := h.at_ hn
  injection e with e
  injection e with e _ _
  subst e
  exact h'

set_option maxHeartbeats 1000000 in
set_option maxRecDepth 100000 in
theorem l3Copy_any (v : Value) (xs : List Int) (w : World) (h : RdInts w w.heap.size v xs) (hr : xs.length ≤ 1048576) :
    Calls Tryz.prog 79 #[v] w fun e w' => ∃ A' c', e = .returned (.slice A' xs.length c') ∧ OwnInts w' w.heap.size w'.heap.size (.slice A' xs.length c') xs ∧ Below w.heap.size w w' := by
  obtain ⟨i0, hi0, hz0, hz1, hz2⟩ := info_parts Tryz.infoInt
  have H := Lib.hid h
  obtain ⟨A, c, rfl, hc, _⟩ := h
  have C0 := Lib.hid (ColI.empty (Below.refl w.heap.size w))
  go_enter Tryz.func79, Tryz.ntmps79
  go_wp2_with (fail)
  go_loopw [3, 4] (fun o i wr => ∃ (k : Nat) (A' : Option Addr) (c' : Nat), k ≤ xs.length ∧ i = .int .i64 k ∧ o = .slice A' (xs.take k).length c' ∧ ColI w wr (xs.take k) A' c') (fun _ i _ => xs.length - (intOf i).toNat)
  case atStart => exact ⟨0, _, 0, Nat.zero_le _, rfl, rfl, C0.out⟩
  case round =>
    obtain ⟨k, A', c', hk, rfl, rfl, hr'⟩ := hrel
    have hln : (xs.take k).length ≤ k := by simp; omega
    by_cases hlt : k < xs.length
    · have hre := H.out.below hr'.below (Nat.le_refl _)
      obtain ⟨A3, c3, e3, _, hx⟩ := hre
      injection e3 with e3 _ e4
      subst e3 e4
      obtain ⟨b, o, rfl, hbB, hx⟩ := hx (by omega)
      have hck : wr.cell? ⟨b, o + k, none⟩ = some (.int .i64 xs[k]) := hx k hlt
      have HS := Lib.hid (take_snoc xs k hlt)
      have HP := Lib.hid hr'
      clear hx hr'
      obtain ⟨x, hx⟩ : ∃ x, x = xs[k] := ⟨_, rfl⟩
      rw [← hx] at hck HS
      clear hx
      obtain ⟨zs, hzs⟩ : ∃ zs, zs = xs.take k := ⟨_, rfl⟩
      have HZ := Lib.hid hzs
      rw [← hzs] at HP hln ⊢
      clear hzs
      go_wp2_with (at_builtin; refine wpList_append_lies _ rfl (.tmp 12) (.tmp 17) 31 rfl w.heap.size 3 i0 (.int .i64 0) 1 8 Tryz.underlying31 hi0 hz0 hz1 hz2 rfl (by decide) (.slice A' zs.length c') zs.length (zs.map (Value.int .i64)) rfl ?c1 ⟨_, 0, none⟩ 1 1 [.int .i64 x] rfl rfl (news1s _ _ _ _ (by simp)) ?c2 (by omega) (by unfold maxLen; omega) (by omega) ?c3 _ rfl ?_)
      case c1 => exact HP.out.own.1.alloc _
      case c2 => first | rfl | (intro u hu; simp at hu; subst hu; rfl)
      case c3 => have := HP.out.below.size; simp; omega
      intro g cap w4 hown hg _ _
      have hcol := HP.out.push (Below.refl _ _) hg hown
      rw [HZ.out, ← HS.out] at hcol
      have hlen : zs.length + 1 = (xs.take (k + 1)).length := by rw [HS.out, HZ.out]; simp
      rw [hlen]
      have HC := Lib.hid hcol
      clear hcol hlen hown hg
      go_wp2_with (fail)
      go_roundw
      case rel => exact ⟨k + 1, _, _, by omega, by go_num, rfl, HC.out⟩
      case measure => simp [intOf]; omega
    · have hkn : k = xs.length := by omega
      have HZ := Lib.hid (show xs.take k = xs by rw [hkn, List.take_length])
      have HO := Lib.hid hr'
      rw [HZ.out] at HO ⊢
      clear hkn hr'
      go_wp2_with (fail)
      go_ret
      exact ⟨_, _, rfl, HO.out.own, HO.out.below⟩

set_option maxHeartbeats 4000000 in
set_option maxRecDepth 100000 in
theorem l3Match_n (v v2 v3 : Value) (a f : LFact) (bs R : List Int) (ok : Bool) (hR : R = (matchL a f bs).getD []) (hok : ok = (matchL a f bs).isSome) (w : World) (hb : bindOk bs = true) (h : RdFact w w.heap.size v a) (h2 : RdFact w w.heap.size v2 f) (h3 : RdInts w w.heap.size v3 bs)
    (ht : a.2.all termOk = true) (hf : f.2.all constOk = true) (hr : a.2.length ≤ 1048576) (hr2 : f.2.length ≤ 1048576) :
    Calls Tryz.prog 87 #[v, v2, v3] w fun e w' => ∃ A' c', e = .returned (.tuple #[.slice A' R.length c', .bool ok]) ∧ OwnInts w' w.heap.size w'.heap.size (.slice A' R.length c') R ∧ Below w.heap.size w w' := by
  obtain ⟨pa, xs⟩ := a
  obtain ⟨pf, ys⟩ := f
  simp only at ht hf hr hr2
  have HO := Lib.hid (And.intro hR hok)
  clear hR hok
  have H3 := Lib.hid h3
  obtain ⟨A3, c3, rfl, hc3, _⟩ := h3
  obtain ⟨u, rfl, A, c, rfl, hc, hA⟩ := h
  obtain ⟨u, rfl, A2, c2, rfl, hc2, hA2⟩ := h2
  by_cases hp : pa = pf
  · have hpb : (pa != pf) = false := by simp [hp]
    by_cases hl : xs.length = ys.length
    · have hl1 : ((xs.length : Int) != (ys.length : Int)) = false := by simp [hl]
      have HL := Lib.hid hl
      have HP := Lib.hid hp
      have HB := Lib.hid hb
      have HB4 := Lib.hid (bindOk_len hb)
      clear hl hp hb
      have x0 := (Blk.new w 33 #[.int .i64 pa, .slice A xs.length c]).alloc (Obj.cells #[.int .i64 pf, .slice A2 ys.length c2] 42)
      have x1 : Blk ((w.alloc (Obj.cells #[.int .i64 pa, .slice A xs.length c] 33)).alloc (Obj.cells #[.int .i64 pf, .slice A2 ys.length c2] 42)) (w.heap.size + 1) 42 #[.int .i64 pf, .slice A2 ys.length c2] := by simpa using Blk.new (w.alloc (Obj.cells #[.int .i64 pa, .slice A xs.length c] 33)) 42 #[.int .i64 pf, .slice A2 ys.length c2]
      go_enter Tryz.func87, Tryz.ntmps87
      go_wp2_with (fail)
      obtain ⟨w2, hw2⟩ : ∃ w2, w2 = ((w.alloc (Obj.cells #[Value.int IntKind.i64 pa, Value.slice A xs.length c] 33)).alloc (Obj.cells #[Value.int IntKind.i64 pf, Value.slice A2 ys.length c2] 42)) := ⟨_, rfl⟩
      have B2 : Below w.heap.size w w2 := by rw [hw2]; exact below2 _ _ _
      rw [← hw2] at x0 x1 ⊢
      clear hw2
      have l1 := x1.lt
      refine (l3Copy_any _ bs _ (H3.out.on B2) (by have := HB4.out; omega)).mono ?_
      rintro e w3 ⟨A', c', rfl, ho, hb3⟩
      obtain ⟨g, rfl, hg1, hg2, hg3, _, _⟩ := ho.at_ (by have := HB4.out; omega)
      have R0 : OwnInts w3 w2.heap.size w3.heap.size (.slice (some ⟨g, 0, none⟩) bs.length c') bs ∧ Below w.heap.size w w3 ∧ Blk w3 w.heap.size 33 #[.int .i64 pa, .slice A xs.length c] ∧ Blk w3 (w.heap.size + 1) 42 #[.int .i64 pf, .slice A2 ys.length c2] := ⟨ho, bthen B2 hb3, x0.below hb3 x0.lt, x1.below hb3 x1.lt⟩
      rw [HB4.out] at R0 ⊢
      clear ho hb3 x0 x1 hg3 hg2
      go_wp2_with (fail)
      go_loopw [9, 10] (fun i _ wr => ∃ (k : Nat) (cur : List Int), k ≤ xs.length ∧ i = .int .i64 k ∧ bindOk cur = true ∧ matchTo bs xs ys k = some cur ∧ OwnInts wr w2.heap.size wr.heap.size (.slice (some ⟨g, 0, none⟩) 4 c') cur ∧ Below w.heap.size w wr ∧ Blk wr w.heap.size 33 #[.int .i64 pa, .slice A xs.length c] ∧ Blk wr (w.heap.size + 1) 42 #[.int .i64 pf, .slice A2 ys.length c2]) (fun i _ _ => xs.length - (intOf i).toNat)
      case atStart => exact ⟨0, bs, Nat.zero_le _, rfl, HB.out, rfl, R0.1, R0.2.1, R0.2.2.1, R0.2.2.2⟩
      case round =>
        obtain ⟨k, cur, hk, rfl, hcb, hmt, ho, hbe, y0, y1⟩ := hrel
        have q01 : wr.cell? ⟨w.heap.size, 1, none⟩ = some (.slice A xs.length c) := y0.cell 1
        have q11 : wr.cell? ⟨w.heap.size + 1, 1, none⟩ = some (.slice A2 ys.length c2) := y1.cell 1
        have hcl := bindOk_len hcb
        have HP2 := Lib.hid (And.intro ho (And.intro hbe (And.intro y0 y1)))
        by_cases hlt : k < xs.length
        · have hlt2 : k < ys.length := by have := HL.out; omega
          obtain ⟨b, o, rfl, hbB, hx⟩ := hA (by omega)
          obtain ⟨b2, o2, rfl, hbB2, hx2⟩ := hA2 (by omega)
          have hck : wr.cell? ⟨b, o + k, none⟩ = some (.int .i64 xs[k]) := (hbe.cell (p := ⟨b, o + k, none⟩) hbB).trans (hx k hlt)
          have hck2 : wr.cell? ⟨b2, o2 + k, none⟩ = some (.int .i64 ys[k]) := (hbe.cell (p := ⟨b2, o2 + k, none⟩) hbB2).trans (hx2 k hlt2)
          have htk : termOk xs[k] = true := List.all_eq_true.1 ht _ (List.getElem_mem hlt)
          have hfk : 0 ≤ ys[k] ∧ ys[k] ≤ 5 := by simpa [constOk] using List.all_eq_true.1 hf _ (List.getElem_mem hlt2)
          have hst := matchTo_step hmt hlt hlt2
          have htb := termOk_at htk
          obtain ⟨hg1', _, hg3, hcc, hcf⟩ := ho.atG (by omega)
          clear hx hx2 hA hA2
          obtain ⟨t, htv⟩ : ∃ t, t = xs[k] := ⟨_, rfl⟩
          obtain ⟨y, hyv⟩ : ∃ y, y = ys[k] := ⟨_, rfl⟩
          rw [← htv] at htk hck hst htb
          rw [← hyv] at hfk hck2 hst
          clear htv hyv
          by_cases e2 : termVal cur t = -1
          · -- the variable gets it
            obtain ⟨q1, q2, q3⟩ := termVal_free htk e2
            obtain ⟨j, hj4, rfl⟩ : ∃ j : Nat, j < 4 ∧ t = -1 - (j : Int) := ⟨(-1 - t).toNat, by omega, by omega⟩
            have hjt : (-1 - (-1 - (j : Int))).toNat = j := by omega
            have hje : -1 - (-1 - (j : Int)) = (j : Int) := by omega
            rw [hjt] at q3
            have hjl : j < cur.length := by omega
            have hjI : (j : Int) < 4 := by omega
            have hcj : wr.cell? ⟨g, j, none⟩ = some (.int .i64 (-1)) := by
              have hh := hcc j hjl
              rwa [show cur[j] = -1 by simpa [hjl] using q3] at hh
            have hfj := hcf j
            have hoo := OwnInts.store (A := some ⟨g, 0, none⟩) (c := c') (g := g) (xs := cur) (by rw [hcl]; exact ho) rfl hjl y
            obtain ⟨ws, hws⟩ : ∃ ws, ws = wr.setCell ⟨g, j, none⟩ (.int .i64 y) := ⟨_, rfl⟩
            have z0 := y0.far (p := ⟨g, j, none⟩) (by show w.heap.size ≠ g; omega) (.int .i64 y)
            have z1 := y1.far (p := ⟨g, j, none⟩) (by show w.heap.size + 1 ≠ g; omega) (.int .i64 y)
            have zb : Below w.heap.size w ws := by rw [hws]; exact hbe.setCell (by show w.heap.size ≤ g; omega) _
            have hsz : ws.heap.size = wr.heap.size := by rw [hws]; simp
            rw [← hws] at hoo z0 z1
            rw [hcl] at hoo
            have HCS := Lib.hid (show bindOk (cur.set j y) = true from bindOk_set hcb (by omega) _)
            have hsl : (cur.set j y).length = 4 := by rw [List.length_set]; exact hcl
            have HMS := Lib.hid (show matchTo bs xs ys (k + 1) = some (cur.set j y) by rw [hst, stepM_new e2 (by omega), hjt])
            have HTV := Lib.hid (show termVal (cur.set j y) (-1 - (j : Int)) = y by
              rw [termVal_var (by omega), hjt]
              simp [hjl])
            have hck2s : ws.cell? ⟨b2, o2 + k, none⟩ = some (.int .i64 y) := by
              rw [hws, World.cell?_setCell_other _ _ _ _ (by intro e; injection e with e1 _ _; omega)]
              exact hck2
            have q11s : ws.cell? ⟨w.heap.size + 1, 1, none⟩ = some (.slice (some ⟨b2, o2, none⟩) ys.length c2) := z1.cell 1
            have HT := Lib.hid (fun n => quiet_left (l3Term_any (.slice (some ⟨g, 0, none⟩) 4 c') (cur.set j y) (-1 - (j : Int)) ws.heap.size (ws.drewN n) (by
              have := (hoo.rd.more (B' := ws.heap.size) (by omega)).below (bdrewN (Below.refl ws.heap.size ws) n) (Nat.le_refl _)
              exact this) hsl htk))
            have HQ := Lib.hid (And.intro (show OwnInts ws w2.heap.size ws.heap.size (.slice (some ⟨g, 0, none⟩) 4 c') (cur.set j y) by rw [hsz]; exact hoo) (And.intro zb (And.intro z0 z1)))
            have HW := Lib.hid hws
            have HE2 := Lib.hid (And.intro e2 (And.intro q3 (And.intro hst hmt)))
            clear hoo z0 z1 zb hws hst hmt e2 q3 hcc hcf ho y0 y1
            rw [HTV.out] at HT
            go_wp2_with (fail)
            rw [← HW.out]
            go_quiet ((go_at_call 129; exact HT.out _))
            go_wp2_with (fail)
            go_roundw
            case rel =>
              obtain ⟨a1, a2, a3, a4⟩ := HQ.out
              exact ⟨k + 1, _, by omega, by go_num, HCS.out, HMS.out, a1.below (bdrewN (Below.refl _ _) _) (Nat.le_refl _), bdrewN a2 _, a3.drewN _, a4.drewN _⟩
            case measure => simp [intOf]; omega
          · have HT := Lib.hid (fun n => quiet_left (l3Term_any (.slice (some ⟨g, 0, none⟩) 4 c') cur t wr.heap.size (wr.drewN n) (by
              have h' : OwnInts wr w2.heap.size wr.heap.size (.slice (some ⟨g, 0, none⟩) cur.length c') cur := by rw [hcl]; exact ho
              have := h'.rd.below (bdrewN (Below.refl wr.heap.size wr) n) (Nat.le_refl _)
              rw [hcl] at this
              exact this) hcl htk))
            -- no store: a constant, or a variable that has one
            have hns : 0 ≤ t ∨ ∃ j : Nat, ∃ hj : j < cur.length, t = -1 - (j : Int) ∧ 0 ≤ cur[j] := by
              rcases Int.lt_or_le t 0 with h0 | h0
              · right
                have hj : (-1 - t).toNat < cur.length := by omega
                refine ⟨(-1 - t).toNat, hj, by omega, ?_⟩
                rw [termVal_var h0] at e2
                have e3 : cur[(-1 - t).toNat] ≠ -1 := by simpa [hj] using e2
                have := bindOk_at hcb hj
                omega
              · exact .inl h0
            have HV := Lib.hid (And.intro e2 (And.intro hst hmt))
            clear e2 hst hmt y0 y1
            by_cases e1 : termVal cur t = y
            · have hd1 : (y != y) = false := by simp
              have HMS := Lib.hid (show matchTo bs xs ys (k + 1) = some cur by rw [HV.out.2.1, stepM_same e1])
              rw [e1] at HT
              clear e1
              rcases hns with h0 | ⟨j, hj, rfl, hj0⟩
              · have hd0 : decide (t < 0) = false := by simp; omega
                clear ho hcc hcf
                go_wp2_with (fail)
                go_quiet ((go_at_call 129; exact HT.out _))
                go_wp2_with (fail)
                go_roundw
                case rel =>
                  obtain ⟨a1, a2, a3, a4⟩ := HP2.out
                  exact ⟨k + 1, _, by omega, by go_num, hcb, HMS.out, a1.below (bdrewN (Below.refl _ _) _) (Nat.le_refl _), bdrewN a2 _, a3.drewN _, a4.drewN _⟩
                case measure => simp [intOf]; omega
              · have hje : -1 - (-1 - (j : Int)) = (j : Int) := by omega
                have hjI : (j : Int) < 4 := by omega
                have hcj : wr.cell? ⟨g, j, none⟩ = some (.int .i64 cur[j]) := hcc j hj
                have hdj : decide (cur[j] < 0) = false := by simp; omega
                clear ho hcc hcf
                go_wp2_with (fail)
                go_quiet ((go_at_call 129; exact HT.out _))
                go_wp2_with (fail)
                go_roundw
                case rel =>
                  obtain ⟨a1, a2, a3, a4⟩ := HP2.out
                  exact ⟨k + 1, _, by omega, by go_num, hcb, HMS.out, a1.below (bdrewN (Below.refl _ _) _) (Nat.le_refl _), bdrewN a2 _, a3.drewN _, a4.drewN _⟩
                case measure => simp [intOf]; omega
            · have hd1 : (termVal cur t != y) = true := by simpa using e1
              have HN := Lib.hid (show matchL (pa, xs) (pf, ys) bs = none from matchL_stop HP.out HL.out hlt (by rw [HV.out.2.1, stepM_no e1 HV.out.1]))
              have HZ := Lib.hid (show R = [] ∧ ok = false from ⟨by rw [HO.out.1, HN.out]; rfl, by rw [HO.out.2, HN.out]; rfl⟩)
              clear e1
              rcases hns with h0 | ⟨j, hj, rfl, hj0⟩
              · have hd0 : decide (t < 0) = false := by simp; omega
                clear ho hcc hcf
                go_wp2_with (fail)
                go_quiet ((go_at_call 129; exact HT.out _))
                go_wp2_with (fail)
                go_ret2
                rw [HZ.out.1, HZ.out.2]
                exact ⟨none, 0, rfl, zeroI _ _ _, bdrewN hbe _⟩
              · have hje : -1 - (-1 - (j : Int)) = (j : Int) := by omega
                have hjI : (j : Int) < 4 := by omega
                have hcj : wr.cell? ⟨g, j, none⟩ = some (.int .i64 cur[j]) := hcc j hj
                have hdj : decide (cur[j] < 0) = false := by simp; omega
                clear ho hcc hcf
                go_wp2_with (fail)
                go_quiet ((go_at_call 129; exact HT.out _))
                go_wp2_with (fail)
                go_ret2
                rw [HZ.out.1, HZ.out.2]
                exact ⟨none, 0, rfl, zeroI _ _ _, bdrewN hbe _⟩
        · have hkn : k = xs.length := by omega
          have HN := Lib.hid (show matchL (pa, xs) (pf, ys) bs = some cur by rw [matchL_eq HP.out HL.out, ← hmt, hkn])
          have HZ := Lib.hid (show R = cur ∧ ok = true from ⟨by rw [HO.out.1, HN.out]; rfl, by rw [HO.out.2, HN.out]; rfl⟩)
          have HCL := Lib.hid hcl
          clear hkn hmt hA hA2 ho y0 y1 hcl
          go_wp2_with (fail)
          go_ret2
          rw [HZ.out.1, HZ.out.2, HCL.out]
          exact ⟨_, _, rfl, HP2.out.1.mono (by omega) (Nat.le_refl _), hbe⟩
    · have hl1 : ((xs.length : Int) != (ys.length : Int)) = true := by simp; omega
      have HN := Lib.hid (show matchL (pa, xs) (pf, ys) bs = none from matchL_len hl)
      have HZ := Lib.hid (show R = [] ∧ ok = false from ⟨by rw [HO.out.1, HN.out]; rfl, by rw [HO.out.2, HN.out]; rfl⟩)
      clear hA hA2 hl
      go_enter Tryz.func87, Tryz.ntmps87
      go_wp2_with (fail)
      go_ret2
      rw [HZ.out.1, HZ.out.2]
      exact ⟨none, 0, rfl, zeroI _ _ _, below2 _ _ _⟩
  · have hpb : (pa != pf) = true := by simp [hp]
    have HN := Lib.hid (show matchL (pa, xs) (pf, ys) bs = none from matchL_pred hp)
    have HZ := Lib.hid (show R = [] ∧ ok = false from ⟨by rw [HO.out.1, HN.out]; rfl, by rw [HO.out.2, HN.out]; rfl⟩)
    clear hA hA2 hp
    go_enter Tryz.func87, Tryz.ntmps87
    go_wp2_with (fail)
    go_ret2
    rw [HZ.out.1, HZ.out.2]
    exact ⟨none, 0, rfl, zeroI _ _ _, below2 _ _ _⟩

end Go.Proofs.YtokmmloakahkhaaGreat
/-
  A program and facts of it drawn: the walk of l3Case.
-/
namespace Go.Proofs.YtokmmloakahkhaaGreat
open Go.RowKit

theorem l6Least_any (a b : Int) (w : World) : Calls Tryz.prog 80 #[.int .i64 a, .int .i64 b] w fun e w' => e = .returned (.int .i64 (if b < a then b else a)) ∧ w = w' := by
  go_enter Tryz.func80, Tryz.ntmps80
  by_cases h : b < a
  · have hb : decide (b < a) = true := by simpa using h
    go_wp2_with (fail)
    go_ret
    exact ⟨ret_int rfl, rfl⟩
  · have hb : decide (b < a) = false := by simpa using h
    go_wp2_with (fail)
    go_ret
    exact ⟨ret_int rfl, rfl⟩

section
variable {w wr w' w1 : World} {D g q B : Nat} {bs : List Nat} {A Ar : Option Addr} {c cr : Nat} {ar : List Int} {es : List Ent}
theorem Pg4.go (h : Pg4 w wr D B g bs q A c ar Ar cr es) (hg : g < w.heap.size) {q' : Nat} (hr : Rdr w' g bs q') (ho : Only g (g + 1) wr w') : Pg4 w w' D B g bs q' A c ar Ar cr es :=
  ⟨h.res.only ho (.inr (by omega)), h.prg.only ho (.inr (by have := h.low; have := h.high; omega)), h.own.only ho (.inr (by omega)), h.rules.only ho (by have := h.low; omega), h.low, h.high, hr, h.only.trans ho⟩
theorem Pg4.start (hg : g < w.heap.size) (hB : w.heap.size + 1 ≤ B) (hB2 : B ≤ w1.heap.size) (hw : w' = w1.alloc (.cells #[.slice A ar.length c, .slice Ar es.length cr] 65))
    (h1 : OwnInts w1 (w.heap.size + 1) B (.slice A ar.length c) ar) (h2 : RowR B w1 es Ar cr) (h3 : Rdr w1 g bs q) (h4 : Only g (g + 1) (w.alloc (.cells #[.slice none 0 0, .slice none 0 0] 65)) w1) : Pg4 w w' w1.heap.size B g bs q A c ar Ar cr es := by
  have hb : Below w1.heap.size w1 w' := by rw [hw]; exact below1 _ _
  refine ⟨((Blk.new w 65 #[.slice none 0 0, .slice none 0 0]).only h4 (.inr (by omega))).below hb (by omega), by rw [hw]; exact Blk.new _ _ _, h1.below hb hB2, h2.below hb, hB, hB2, h3.below hb h3.lt, ((Only.of_below (below1 w _)).trans h4).trans (Only.of_below hb)⟩
end
theorem OwnInts.capLe {w : World} {lo hi c : Nat} {A : Option Addr} {xs : List Int} (h : OwnInts w lo hi (.slice A xs.length c) xs) : xs.length ≤ c := by
  rcases h.1.2 with ⟨e, h0⟩ | ⟨g, cq, cur, e, hb, hgg, hn, _⟩
  · injection e with _ _ e
    omega
  · injection e with _ _ e
    omega
/-- A row's first elements. -/
theorem OwnInts.front {w : World} {lo hi c n : Nat} {A : Option Addr} {xs : List Int} (h : OwnInts w lo hi (.slice A xs.length c) xs) (hn : n ≤ xs.length) (h0 : 0 < xs.length) : OwnInts w lo hi (.slice A n c) (xs.take n) := by
  obtain ⟨⟨hl, h⟩, hlt⟩ := h
  rcases h with ⟨e, h1⟩ | ⟨g, cap, cur, e, hb, hg, h1, h2, h3, h4⟩
  · omega
  · injection e with e1 e2 e3
    subst e1 e3
    have hlen : (xs.take n).length = n := by simp; omega
    refine ⟨⟨by rw [List.length_map, hlen]; omega, .inr ⟨g, c, cur, by rw [hlen], hb, hg, by omega, h2, h3, ?_⟩⟩, fun g' hg' => hlt g' hg'⟩
    rw [hlen, List.map_take, ← h4, List.take_take]
    congr 1
    omega

/-- The arity of the facts: a copy, no place over two; wd is the world that it was laid in. -/
def CapAt (wc wx : World) (g : Nat) (bs : List Nat) (q : Nat) (lo hi : Nat) (s : Value) : Prop :=
  ∃ (A4 : Option Addr) (c4 : Nat) (zs : List Int), s = .slice A4 zs.length c4 ∧ zs.length ≤ 5 ∧ (∀ x ∈ zs, 0 ≤ x ∧ x ≤ 2) ∧ OwnInts wx lo hi (.slice A4 zs.length c4) zs ∧ hi ≤ wx.heap.size ∧ Rdr wx g bs q ∧ Only g (g + 1) wc wx

/-- The same, ahead of the cut, with a flag. -/
def CapF (wc wx : World) (g : Nat) (bs : List Nat) (q : Nat) (lo hi : Nat) (A4 : Option Addr) (c4 : Nat) (zs : List Int) (s : Value) : Prop :=
  ∃ fl : Bool, s = .bool fl ∧ OwnInts wx lo hi (.slice A4 zs.length c4) zs ∧ hi ≤ wx.heap.size ∧ Rdr wx g bs q ∧ Only g (g + 1) wc wx

set_option maxHeartbeats 4000000 in
set_option maxRecDepth 100000 in
theorem l3Case_any (g : Nat) (bs : List Nat) (p most : Nat) (no : Int) (w : World) (h : Rdr w g bs p) (hp : p ≤ 50000) (hm : most ≤ 64) :
    Calls Tryz.prog 39 #[.pointer (some ⟨g, 0, none⟩), .int .i64 no, .int .i64 most] w fun e w' => ∃ (A Ar Af : Option Addr) (c cr cf B q : Nat) (ar : List Int) (es : List Ent) (fs : List LFact), e = .returned (.tuple #[.agg #[.slice A ar.length c, .slice Ar es.length cr], .slice Af fs.length cf]) ∧ AnyOk ar es ∧ fs.length ≤ most ∧ tot fs ≤ 3 * most ∧ q ≤ p + 1710 + 24 * most ∧
      w.heap.size ≤ B ∧ B ≤ w'.heap.size ∧ OwnInts w' w.heap.size B (.slice A ar.length c) ar ∧ RowR B w' es Ar cr ∧ OwnFacts w' B w'.heap.size (.slice Af fs.length cf) fs ∧ Rdr w' g bs q ∧ Only g (g + 1) w w' := by
  have hgl := h.lt
  have H := Lib.hid h
  clear h
  go_enter Tryz.func39, Tryz.ntmps39
  go_wp2_with (fail)
  refine (l2Any_any g bs p no _ (H.out.below (below1 w (.cells #[.slice none 0 0, .slice none 0 0] 65)) H.out.lt) (by omega)).mono ?_
  rintro e w1 ⟨A, Ar, c, cr, B, q, ar, es, rfl, hok, hq, hB, hB2, h1, h2, h3, h4⟩
  have HOK := Lib.hid hok
  simp only [World.size_alloc] at hB h1
  have HQ := Lib.hid (And.intro hB (And.intro hB2 (And.intro h1 (And.intro h2 (And.intro h3 h4)))))
  have hal4 := hok.1
  have hal5 := hok.2.1
  clear hok hB hB2 h1 h2 h3 h4
  go_upto_region 2 with (fail)
  obtain ⟨wc, hwc⟩ : ∃ wS, wS = w1.alloc (.cells #[.slice A ar.length c, .slice Ar es.length cr] 65) := ⟨_, rfl⟩
  have H1 := Lib.hid (Pg4.start hgl HQ.out.1 HQ.out.2.1 hwc HQ.out.2.2.1 HQ.out.2.2.2.1 HQ.out.2.2.2.2.1 HQ.out.2.2.2.2.2)
  rw [← hwc]
  clear hwc HQ
  obtain ⟨D, hD⟩ : ∃ D, D = w1.heap.size := ⟨_, rfl⟩
  rw [← hD] at H1 ⊢
  clear hD
  have k0 : wc.cell? ⟨D, 0, none⟩ = some (.slice A ar.length c) := H1.out.prg.cell 0
  have hgc : g < wc.heap.size := H1.out.rdr.lt
  have HSZ := Lib.hid H1.out.only.size
  have hDc := H1.out.prg.lt
  go_wp2_with (fail)
  refine (l3Copy_any (.slice A ar.length c) ar wc (H1.out.own.rd.more (by have := H1.out.high; omega)) (by omega)).mono ?_
  rintro e w2 ⟨A4, c4, rfl, o4, b4⟩
  have HI := Lib.hid o4
  have HO2 := Lib.hid (Only.of_below (lo := g) (hi := g + 1) b4)
  have HR2 := Lib.hid (H1.out.rdr.below b4 hgc)
  have hs2 := b4.size
  clear o4 b4 k0
  go_wp2_with (fail)
  go_loopw [10] (fun i wr => ∃ (k : Nat) (zs : List Int), k ≤ ar.length ∧ i = .int .i64 k ∧ zs.length = ar.length ∧ (∀ x ∈ zs, 0 ≤ x ∧ x ≤ 3) ∧ (∀ j (h : j < zs.length), j < k → zs[j] ≤ 2) ∧ OwnInts wr wc.heap.size w2.heap.size (.slice A4 ar.length c4) zs ∧ Rdr wr g bs q ∧ Only g (g + 1) wc wr ∧ wr.heap.size = w2.heap.size) (fun i _ => ar.length - (intOf i).toNat)
  case atStart => exact ⟨0, ar, Nat.zero_le _, rfl, rfl, HOK.out.2.2.1, fun j _ h => absurd h (Nat.not_lt_zero _), HI.out, HR2.out, HO2.out, rfl⟩
  case round =>
    obtain ⟨k, zs, hk, rfl, hzl, hz3, hz2, hzo, hrr, hor, hsr⟩ := hrel
    have HZL := Lib.hid hzl
    have HZ := Lib.hid (And.intro hz3 (And.intro hz2 (And.intro hzo (And.intro hrr (And.intro hor hsr)))))
    by_cases hlt : k < ar.length
    · have hlz : k < zs.length := by omega
      obtain ⟨g4, hg4⟩ : ∃ g4, A4 = some ⟨g4, 0, none⟩ := by
        obtain ⟨g2, cap, e, _⟩ := hzo.1.form (by omega)
        injection e with e1 _ _
        exact ⟨g2, e1⟩
      subst hg4
      rw [← hzl] at hzo
      have HST := Lib.hid (fun x => hzo.store (j := k) rfl hlz x)
      have r0 := hzo.1.cellAt k (by omega)
      have r1 := hzo.1.frozenAt k
      have hg4l := hzo.lt (g := g4) rfl
      have hg4w : wc.heap.size ≤ g4 := hg4l.1
      rw [show (zs.map (Value.int .i64))[k]? = some (.int .i64 zs[k]) by simp [hlz]] at r0
      have hkb : decide ((k : Int) < (ar.length : Int)) = true := by rw [decide_eq_true_eq]; omega
      clear hzl hz3 hz2 hzo hrr hor hsr hg4l
      go_wp2_with (go_at_call 80; refine (l6Least_any zs[k] 2 wr).mono ?_; rintro e wn ⟨rfl, rfl⟩)
      go_roundw
      case rel =>
        obtain ⟨z3, z2, zo, rr, orr, sr⟩ := HZ.out
        obtain ⟨x, hx⟩ : ∃ x, x = (if (2 : Int) < zs[k] then 2 else zs[k]) := ⟨_, rfl⟩
        have hxr : 0 ≤ x ∧ x ≤ 2 := by
          have := z3 _ (List.getElem_mem hlz)
          rw [hx]
          split <;> omega
        rw [← hx]
        refine ⟨k + 1, zs.set k x, by omega, by go_num, by rw [List.length_set]; exact HZL.out, fun y hy => ?_, fun j hj hjk => ?_, ?_, rr.same fun k' hk' => Below.heap_setCell _ _ _ k' (by show k' ≠ g4; omega), orr.setNew (p := ⟨g4, k, none⟩) hg4w _, by simpa using sr⟩
        · rcases List.mem_or_eq_of_mem_set hy with h | h
          · exact z3 y h
          · omega
        · by_cases e : k = j
          · subst e
            rw [List.getElem_set_self]
            exact hxr.2
          · rw [List.getElem_set_ne e]
            exact z2 j (by simpa using hj) (by omega)
        · have := HST.out x
          rw [HZL.out] at this
          exact this
      case measure => simp [intOf]; omega
    · have hkb : decide ((k : Int) < (ar.length : Int)) = false := by rw [decide_eq_false_iff_not]; omega
      have hz2' : ∀ x ∈ zs, 0 ≤ x ∧ x ≤ 2 := fun x hx => by
        obtain ⟨j, hj, rfl⟩ := List.getElem_of_mem hx
        exact ⟨(hz3 _ (List.getElem_mem hj)).1, hz2 j hj (by omega)⟩
      have HZ2 := Lib.hid (And.intro hz2' (And.intro hzo (And.intro hrr (And.intro hor hsr))))
      have hgr : g < wr.heap.size := hrr.lt
      clear hzl hz3 hz2 hz2' hzo hrr hor hsr HZ HI HR2 HO2
      go_upto_region 7 with (fail)
      obtain ⟨wl, rfl⟩ : ∃ wl, wl = wr := ⟨_, rfl⟩
      go_cut [38] (fun s38 wx => CapF wc wx g bs (q + 1) wc.heap.size w2.heap.size A4 c4 zs s38)
      case first =>
        go_wp2_with (fail)
        refine (pick_any g bs q 5 _ HZ2.out.2.2.1 (by omega) (by omega)).mono ?_
        rintro e w4 ⟨⟨x, rfl, _⟩, hp4⟩
        have H4 := Lib.hid (show OwnInts w4 wc.heap.size w2.heap.size (.slice A4 zs.length c4) zs ∧ w2.heap.size ≤ w4.heap.size ∧ Rdr w4 g bs (q + 1) ∧ Only g (g + 1) wc w4 from ⟨by rw [HZL.out]; exact HZ2.out.2.1.only hp4.2 (.inr hgc), by have := hp4.2.size; have := HZ2.out.2.2.2.2; omega, hp4.1, HZ2.out.2.2.2.1.trans hp4.2⟩)
        clear hp4
        by_cases hx : 0 < x
        · have hxb : decide (0 < x) = true := by simpa using hx
          have hlb : decide (2 < (ar.length : Int)) = true := by rw [decide_eq_true_eq]; omega
          go_wp2_with (fail)
          go_meet
          exact ⟨true, rfl, H4.out⟩
        · have hxb : decide (0 < x) = false := by simpa using hx
          go_wp2_with (fail)
          go_meet
          exact ⟨false, rfl, H4.out⟩
      case rest =>
      obtain ⟨fl, rfl, hcf⟩ := hcut
      rename World => w4
      have H4 := Lib.hid hcf
      clear hcf
      go_upto_if 38 with (fail)
      go_cut [9] (fun s9 wx => CapAt wc wx g bs (q + 1) wc.heap.size w2.heap.size s9)
      case first =>
        cases fl
        · go_wp2_with (fail)
          go_meet
          exact ⟨A4, c4, zs, by rw [HZL.out], by rw [HZL.out]; exact hal5, HZ2.out.1, H4.out⟩
        · have HFR := Lib.hid (H4.out.1.front (n := 2) (by rw [HZL.out]; omega) (by rw [HZL.out]; omega))
          obtain ⟨g4, hg4⟩ : ∃ g4, A4 = some ⟨g4, 0, none⟩ := by
            obtain ⟨g2, cap, e, _⟩ := H4.out.1.1.form (by rw [HZL.out]; omega)
            injection e with e1 _ _
            exact ⟨g2, e1⟩
          subst hg4
          have hc4 : ar.length ≤ c4 := by rw [← HZL.out]; exact H4.out.1.capLe
          go_wp2_with (fail)
          go_meet
          exact ⟨some ⟨g4, 0, none⟩, c4, zs.take 2, by simp [HZL.out]; omega, by simp; omega, fun x hx => HZ2.out.1 x (List.mem_of_mem_take hx), by
            have e : (zs.take 2).length = 2 := by simp [HZL.out]; omega
            rw [e]
            exact HFR.out, H4.out.2⟩
      case rest =>
      obtain ⟨A9, c9, zs9, rfl, hz9, hz9r, ho9, hh9, hr9, hO9⟩ := hcut
      rename World => w5
      have HZ9 := Lib.hid hz9r
      have H5 := Lib.hid (And.intro ho9 (And.intro hh9 (And.intro hr9 hO9)))
      clear ho9 hh9 hr9 hO9 hz9r H4
      obtain ⟨wy, hwy⟩ : ∃ wy, wy = w5.drew := ⟨_, rfl⟩
      have Hy := Lib.hid (show OwnInts wy wc.heap.size w2.heap.size (.slice A9 zs9.length c9) zs9 ∧ w2.heap.size ≤ wy.heap.size ∧ Rdr wy g bs (q + 1) ∧ Only g (g + 1) wc wy by rw [hwy]; exact ⟨H5.out.1.below (Below.refl _ _).drew H5.out.2.1, H5.out.2.1, H5.out.2.2.1.below (Below.refl _ _).drew H5.out.2.2.1.lt, H5.out.2.2.2.trans (Only.of_below (Below.refl _ _).drew)⟩)
      have HPy := Lib.hid (H1.out.go hgl Hy.out.2.2.1 Hy.out.2.2.2)
      obtain ⟨SS, hSS⟩ : ∃ SS : World → Prop, SS = (fun W => W.cell? ⟨D, 0, none⟩ = some (.slice A ar.length c) ∧ W.cell? ⟨D, 1, none⟩ = some (.slice Ar es.length cr)) := ⟨_, rfl⟩
      have HB := Lib.hid (show ∀ W, SS W → W.cell? ⟨D, 0, none⟩ = some (.slice A ar.length c) ∧ W.cell? ⟨D, 1, none⟩ = some (.slice Ar es.length cr) from by rw [hSS]; exact fun W hW => hW)
      have HC := Lib.hid (show ∀ W, W.cell? ⟨D, 0, none⟩ = some (.slice A ar.length c) → W.cell? ⟨D, 1, none⟩ = some (.slice Ar es.length cr) → SS W from by rw [hSS]; exact fun W h1 h2 => ⟨h1, h2⟩)
      clear hSS
      have SB := HC.out _ (HPy.out.prg.cell 0) (HPy.out.prg.cell 1)
      go_upto_region 9 with (fail)
      refine wp_region_rel SS 5 7 (by kernel_rfl) rfl ?_
      rw [← hwy]
      clear hwy
      refine wpAnyR_pure (i := 1) (oi := _) ?vk1 rfl rfl (by kernel_rfl) (by decide) (fun _ _ _ h => h) rfl ?hyk1 (fun _ => SB) ?restk1
      case hyk1 => (intro W; go_simp; (try with_reducible rfl))
      try simp only [List.setIfInBounds_toArray, List.set_cons_zero, List.set_cons_succ]
      refine wpAnyR_pure (i := 2) (oi := _) ?vk2 rfl rfl (by kernel_rfl) (by decide) (fun _ _ _ h => h) rfl ?hyk2 (fun _ => SB) ?restk2
      case hyk2 => (intro W; go_simp; (try with_reducible rfl))
      try simp only [List.setIfInBounds_toArray, List.set_cons_zero, List.set_cons_succ]
      refine wpAnyR_pure (i := 3) (oi := _) ?vk3 rfl rfl (by kernel_rfl) (by decide) (fun _ _ _ h => h) rfl ?hyk3 (fun _ => SB) ?restk3
      case hyk3 => (intro W; go_simp; (try with_reducible rfl))
      try simp only [List.setIfInBounds_toArray, List.set_cons_zero, List.set_cons_succ]
      refine wpAnyR_take (i := 0) (oi := _) ?vk0 rfl rfl (by kernel_rfl) (fun _ _ _ h => h) rfl ?hyk0 SB ?restk0
      case hyk0 => (intro W hW; obtain ⟨E0, E1⟩ := HB.out W hW; go_simp; (try with_reducible rfl))
      try simp only [List.setIfInBounds_toArray, List.set_cons_zero, List.set_cons_succ]
      refine wpAnyR_one (i := 4) (by kernel_rfl) rfl (fun K hK => ?_)
      try rw [if_pos (show Region.wanted _ _ = true from rfl)]
      go_simp
      refine (l1Some_any g bs (q + 1) most wc.heap.size w2.heap.size (.slice A9 zs9.length c9) zs9 wy Hy.out.2.2.1 (by omega) Hy.out.1 hgc Hy.out.2.1 HZ9.out (by omega) hm).mono ?_
      rintro e wn ⟨Af, cf, fs, qn, rfl, hfl, hft, hqn, ofs, hrn, hon⟩
      have HN := Lib.hid (And.intro ofs (And.intro hrn (Hy.out.2.2.2.trans hon)))
      have hsn := hon.size
      have H4n := Lib.hid (H1.out.go hgl hrn (Hy.out.2.2.2.trans hon))
      have j0 : wn.cell? ⟨w.heap.size, 0, none⟩ = some (.slice none 0 0) := H4n.out.res.cell 0
      have j1 : wn.cell? ⟨w.heap.size, 1, none⟩ = some (.slice none 0 0) := H4n.out.res.cell 1
      have l0 := H4n.out.res.frozen 0
      have l1 := H4n.out.res.frozen 1
      have SN := HC.out _ (H4n.out.prg.cell 0) (H4n.out.prg.cell 1)
      clear ofs hrn hon
      refine hK.out _ _ (fun _ => SN) ?_
      clear hK K
      try simp only [List.setIfInBounds_toArray, List.set_cons_zero, List.set_cons_succ, Act.put]
      refine wpAnyR_one (i := 5) (by kernel_rfl) rfl (fun K hK => ?_)
      try rw [if_pos (show Region.wanted _ _ = true from rfl)]
      go_simp
      refine hK.out _ _ (fun hf => absurd hf (by decide)) ?_
      clear hK K
      try simp only [List.setIfInBounds_toArray, List.set_cons_zero, List.set_cons_succ, Act.put]
      refine wpAnyR_one (i := 6) (by kernel_rfl) rfl (fun K hK => ?_)
      go_simp
      refine hK.out _ _ (fun hf => absurd hf (by decide)) ?_
      clear hK K
      refine wpAnyR_done (by kernel_rfl) ?_
      go_wp2_with (fail)
      obtain ⟨W, hW⟩ : ∃ W, W = (wn.setCell ⟨w.heap.size, 0, none⟩ (.slice A ar.length c)).setCell ⟨w.heap.size, 1, none⟩ (.slice Ar es.length cr) := ⟨_, rfl⟩
      rw [← hW]
      have hbk := (H4n.out.res.set_ 0 (.slice A ar.length c)).set_ 1 (.slice Ar es.length cr)
      rw [← hW] at hbk
      have d0 : W.cell? ⟨w.heap.size, 0, none⟩ = some (.slice A ar.length c) := by rw [hbk.cell 0]; simp
      have d1 : W.cell? ⟨w.heap.size, 1, none⟩ = some (.slice Ar es.length cr) := by rw [hbk.cell 1]; simp
      have hB := H4n.out.low
      have hH := H4n.out.high
      have hyB := HPy.out.prg.lt
      have hDn := H4n.out.prg.lt
      have hk : ∀ k, k ≠ w.heap.size → W.heap[k]? = wn.heap[k]? := fun k hk => by
        rw [hW]
        exact (Below.heap_setCell _ _ _ k hk).trans (Below.heap_setCell _ _ _ k hk)
      have hsz : W.heap.size = wn.heap.size := by rw [hW]; simp
      have hO := H4n.out.only
      refine bodyPost_ret (v := .tuple #[.agg #[.slice A ar.length c, .slice Ar es.length cr], .slice Af fs.length cf]) (by simp [results, Tryz.results39, go_sem, d0, d1]) rfl ?_
      refine ⟨A, Ar, Af, c, cr, cf, B, qn, ar, es, fs, rfl, HOK.out, hfl, hft, by omega, by omega, by omega, (H4n.out.own.keep fun k k1 k2 => hk k (by omega)).mono (by omega) (Nat.le_refl _), H4n.out.rules.keep (by rw [hsz]; exact Nat.le_refl _) (fun k k1 _ => hk k (by omega)), ?_, H4n.out.rdr.same fun k hk' => hk k (by omega), ⟨?_, ?_, ?_, by rw [hsz]; exact hO.size, fun k hk' hn => (hk k (by omega)).trans (hO.block k hk' hn)⟩⟩
      · rw [hsz]
        have ho2 : Only w.heap.size (w.heap.size + 1) wn W := by
          rw [hW]
          exact ((Only.refl w.heap.size (w.heap.size + 1) wn).setCell (p := ⟨w.heap.size, 0, none⟩) ⟨Nat.le_refl _, Nat.lt_succ_self _⟩ _).setCell (p := ⟨w.heap.size, 1, none⟩) ⟨Nat.le_refl _, Nat.lt_succ_self _⟩ _
        exact (HN.out.1.only ho2 (.inr (by omega))).mono (by omega) (Nat.le_refl _)
      · rw [hW]; exact hO.os
      · rw [hW]; exact hO.tape
      · rw [hW]; exact hO.output

end Go.Proofs.YtokmmloakahkhaaGreat
/-
  The draw of DrawSolutions: facts, and the body of a rule of a drawn program.
-/
namespace Go.Proofs.YtokmmloakahkhaaGreat
open Go.RowKit

set_option maxHeartbeats 4000000 in
set_option maxRecDepth 100000 in
theorem drawSolutions_any (v : Value) (code : List Nat) (w : World) (h : RdBytes w w.heap.size v code) (hby : ∀ b ∈ code, b < 256) (hn : code.length ≤ 1073741824) :
    Calls Tryz.prog 7 #[v] w fun e w' => ∃ (Af Al : Option Addr) (cf cl : Nat) (fs : List LFact) (ls : List LLit), e = .returned (.tuple #[.slice Af fs.length cf, .slice Al ls.length cl]) ∧ RdFacts w' w'.heap.size (.slice Af fs.length cf) fs ∧ RdLits w' w'.heap.size (.slice Al ls.length cl) ls ∧ fs.length ≤ 9 ∧ tot fs ≤ 27 ∧ ls.length + totL ls ≤ 16 ∧ Below w.heap.size w w' := by
  have HV := Lib.hid h
  clear h
  go_enter Tryz.func7, Tryz.ntmps7
  obtain ⟨g, hg⟩ : ∃ g, g = w.heap.size := ⟨_, rfl⟩
  go_upto_region 3 with (first
    | (go_at_call 38; refine (l40Open_any v code w HV.out hby hn).mono ?_
       rintro e w0 ⟨rfl, hr1, hb1⟩
       rw [← hg] at hr1 ⊢
       have hg1 : g < w0.heap.size := hr1.lt
       have HG := Lib.hid hg
       have HB1 := Lib.hid hb1
       have HR1 := Lib.hid hr1
       obtain ⟨bs, hbs⟩ : ∃ bs, bs = code.take 2000 := ⟨_, rfl⟩
       rw [← hbs] at HR1
       clear hb1 hr1 hbs hg)
    | (go_at_call 39; refine (l3Case_any g bs 0 9 2 w0 HR1.out (by omega) (by omega)).mono ?_
       rintro e w1 ⟨A, Ar, Af, c, cr, cf, B, q, ar, es, fs, rfl, hok, hf1, hf2, hq, hB, hB2, h1, h2, h3, h4, h5⟩
       have HOK := Lib.hid hok
       have HF := Lib.hid (And.intro hf1 hf2)
       have HQ := Lib.hid (And.intro h2 (And.intro h3 (And.intro h4 h5)))
       have HBB := Lib.hid (And.intro hB hB2)
       clear hok hB hB2 h1 h2 h3 h4 h5 hf1 hf2))
  obtain ⟨w2, hw2⟩ : ∃ w2, w2 = w1.alloc (.cells #[.slice A ar.length c, .slice Ar es.length cr] 65) := ⟨_, rfl⟩
  have b12 : Below w1.heap.size w1 w2 := by rw [hw2]; exact below1 _ _
  have XD : Blk w2 w1.heap.size 65 #[.slice A ar.length c, .slice Ar es.length cr] := by rw [hw2]; exact Blk.new _ _ _
  rw [← hw2]
  clear hw2
  have hn1 : 0 < es.length := HOK.out.2.2.2.1
  have h2 := HQ.out.1
  obtain ⟨gr, rfl, hgr1, hgr2⟩ := h2.form hn1
  have hgw : g < w1.heap.size := HQ.out.2.2.1.lt
  have hb0 := HBB.out.1
  have hneg : g ≠ gr := by omega
  have HCE := Lib.hid (show es.length ≤ cr from h2.capOk)
  have hel : es.length ≤ 4 := HOK.out.2.2.2.2.1
  obtain ⟨SS, hSS⟩ : ∃ SS : World → Prop, SS = (fun W => W.cell? ⟨w1.heap.size, 1, none⟩ = some (.slice (some ⟨gr, 0, none⟩) es.length cr) ∧ ∀ i (_ : i < es.length), W.cell? ⟨gr, i * 3 + 2, none⟩ = some es[i].2.2) := ⟨_, rfl⟩
  have HB := Lib.hid (show ∀ W, SS W → (W.cell? ⟨w1.heap.size, 1, none⟩ = some (.slice (some ⟨gr, 0, none⟩) es.length cr) ∧ ∀ i (_ : i < es.length), W.cell? ⟨gr, i * 3 + 2, none⟩ = some es[i].2.2) from by rw [hSS]; exact fun W hW => hW)
  have HS := Lib.hid (show ∀ W, Only g (g + 1) w2 W → SS W from by
    rw [hSS]
    intro W hW
    have y := hW.blk XD (by omega)
    have hr2 : ∀ j, W.cell? ⟨gr, j, none⟩ = w1.cell? ⟨gr, j, none⟩ := fun j => World.cell?_of_block ((hW.block gr (by have := b12.size; omega) (by omega)).trans (b12.block gr hgr2))
    refine ⟨y.cell 1, fun i hi => ?_⟩
    rw [hr2]
    exact (h2.at_ hi).2.2)
  have O12 := Lib.hid (And.intro b12 (show Rdr w2 g bs q from HQ.out.2.2.1.below b12 hgw))
  clear hSS b12 XD h2
  refine wp_region_rel SS 12 13 (by kernel_rfl) rfl ?_
  obtain ⟨wy, hwy⟩ : ∃ wy, wy = w2.drew := ⟨_, rfl⟩
  have OY : Only g (g + 1) w2 wy := by rw [hwy]; exact ⟨rfl, rfl, rfl, Nat.le_refl _, fun _ _ _ => rfl⟩
  have RY : Rdr wy g bs q := by rw [hwy]; exact O12.out.2
  rw [← hwy]
  clear hwy
  have S0 := HS.out _ OY
  refine wpAnyR_pure (i := 0) (oi := _) ?va0 rfl rfl (by kernel_rfl) (by decide) (fun _ _ _ h => h) rfl ?hya0 (fun _ => S0) ?resta0
  case hya0 => (intro W; go_simp; (try with_reducible rfl))
  try simp only [List.setIfInBounds_toArray, List.set_cons_zero, List.set_cons_succ]
  refine wpAnyR_pure (i := 1) (oi := _) ?va1 rfl rfl (by kernel_rfl) (by decide) (fun _ _ _ h => h) rfl ?hya1 (fun _ => S0) ?resta1
  case hya1 => (intro W; go_simp; (try with_reducible rfl))
  try simp only [List.setIfInBounds_toArray, List.set_cons_zero, List.set_cons_succ]
  refine wpAnyR_take (i := 2) (oi := _) ?va2 rfl rfl (by kernel_rfl) (fun _ _ _ h => h) rfl ?hya2 S0 ?resta2
  case hya2 => (intro W hW; obtain ⟨d0, _⟩ := HB.out W hW; go_simp; (try with_reducible rfl))
  try simp only [List.setIfInBounds_toArray, List.set_cons_zero, List.set_cons_succ]
  refine wpAnyR_pure (i := 3) (oi := _) ?va3 rfl rfl (by kernel_rfl) (by decide) (fun _ _ _ h => h) rfl ?hya3 (fun _ => S0) ?resta3
  case hya3 => (intro W; go_simp; (try with_reducible rfl))
  try simp only [List.setIfInBounds_toArray, List.set_cons_zero, List.set_cons_succ]
  refine wpAnyR_pure (i := 4) (oi := _) ?va4 rfl rfl (by kernel_rfl) (by decide) (fun _ _ _ h => h) rfl ?hya4 (fun _ => S0) ?resta4
  case hya4 => (intro W; go_simp; (try with_reducible rfl))
  try simp only [List.setIfInBounds_toArray, List.set_cons_zero, List.set_cons_succ]
  refine wpAnyR_take (i := 5) (oi := _) ?va5 rfl rfl (by kernel_rfl) (fun _ _ _ h => h) rfl ?hya5 S0 ?resta5
  case hya5 => (intro W hW; obtain ⟨d0, _⟩ := HB.out W hW; go_simp; (try with_reducible rfl))
  try simp only [List.setIfInBounds_toArray, List.set_cons_zero, List.set_cons_succ]
  refine wpAnyR_pure (i := 6) (oi := _) ?va6 rfl rfl (by kernel_rfl) (by decide) (fun _ _ _ h => h) rfl ?hya6 (fun _ => S0) ?resta6
  case hya6 => (intro W; go_simp; (try with_reducible rfl))
  try simp only [List.setIfInBounds_toArray, List.set_cons_zero, List.set_cons_succ]
  refine wpAnyR_one (i := 7) (by kernel_rfl) rfl (fun K hK => ?_)
  try rw [if_pos (show Region.wanted _ _ = true from rfl)]
  go_simp
  refine (pick_any g bs q (es.length : Int) wy RY (by omega) (by omega)).mono ?_
  rintro e w3 ⟨⟨x, rfl, hx⟩, hpk⟩
  have hxr := hx.1 (by omega)
  obtain ⟨i, rfl⟩ : ∃ i : Nat, x = (i : Int) := ⟨x.toNat, by omega⟩
  have hi : i < es.length := by omega
  have O3 := Lib.hid (OY.trans hpk.2)
  have S1 := HS.out _ O3.out
  clear hx hpk
  refine hK.out _ _ (fun _ => S1) ?_
  clear hK K
  try simp only [List.setIfInBounds_toArray, List.set_cons_zero, List.set_cons_succ, Act.put]
  obtain ⟨lo1, hi1, lo2, hi2, e1, e2, e3, e4, _, _, e7, e8⟩ := HQ.out.1.own i hi
  obtain ⟨A3, c3, e10⟩ := e8.form
  rw [e10] at e8
  have HEI := Lib.hid (And.intro e1 (And.intro e2 (And.intro e3 (And.intro e4 e8))))
  have HRW := Lib.hid e10
  have HKE := Lib.hid (show es[i].1.2.length ≤ 4 ∧ totL es[i].1.2 ≤ 8 from by
    have := HOK.out.2.2.2.2.2 _ (List.getElem_mem hi)
    exact ⟨this.2.1, this.2.2.1⟩)
  clear e1 e2 e3 e4 e7 e8 e10
  refine wpAnyR_pure (i := 8) (oi := _) (.pointer (some ⟨gr, i * 3, none⟩)) rfl rfl (by kernel_rfl) (by decide) (fun _ _ _ h => h) rfl ?hyb8 (fun _ => S1) ?restb8
  case hyb8 => (intro W; go_simp; (try simp))
  try simp only [List.setIfInBounds_toArray, List.set_cons_zero, List.set_cons_succ]
  refine wpAnyR_pure (i := 9) (oi := _) (.pointer (some ⟨gr, i * 3 + 2, none⟩)) rfl rfl (by kernel_rfl) (by decide) (fun _ _ _ h => h) rfl ?hyb9 (fun _ => S1) ?restb9
  case hyb9 => (intro W; go_simp; (try simp))
  try simp only [List.setIfInBounds_toArray, List.set_cons_zero, List.set_cons_succ]
  refine wpAnyR_take (i := 10) (oi := _) (.slice A3 es[i].1.2.length c3) rfl rfl (by kernel_rfl) (fun _ _ _ h => h) rfl ?hyb10 S1 ?restb10
  case hyb10 =>
    intro W hW
    obtain ⟨_, hall⟩ := HB.out W hW
    have d2 := hall i hi
    rw [HRW.out] at d2
    clear hall
    go_simp
    try with_reducible rfl
  try simp only [List.setIfInBounds_toArray, List.set_cons_zero, List.set_cons_succ]
  refine wpAnyR_one (i := 11) (by kernel_rfl) rfl (fun K hK => ?_)
  try rw [if_pos (show Region.wanted _ _ = true from rfl)]
  go_simp
  refine hK.out _ _ (fun _ => S1) ?_
  clear hK K
  try simp only [List.setIfInBounds_toArray, List.set_cons_zero, List.set_cons_succ, Act.put]
  refine wpAnyR_one (i := 12) (by kernel_rfl) rfl (fun K hK => ?_)
  go_simp
  refine hK.out _ _ (fun hf => absurd hf (by decide)) ?_
  clear hK K
  refine wpAnyR_done (by kernel_rfl) ?_
  go_wp2_with fail
  refine bodyPost_ret (v := .tuple #[.slice Af fs.length cf, .slice A3 es[i].1.2.length c3]) (by simp [results, Tryz.results7, go_sem]) rfl ?_
  have s12 := O12.out.1.size
  have s3 := O3.out.size
  have hk : ∀ k, g < k → k < w1.heap.size → w3.heap[k]? = w1.heap[k]? := fun k k1 k2 => (O3.out.block k (by omega) (by omega)).trans (O12.out.1.block k k2)
  obtain ⟨e1, e2, e3, e4, e8⟩ := HEI.out
  have hBW : Below w.heap.size w w3 := by
    have h1 : Below w.heap.size w w1 := Only.then_ HB1.out HQ.out.2.2.2 (by have := HG.out; omega)
    exact Only.then_ (bthen h1 O12.out.1) O3.out (by have := HG.out; omega)
  refine ⟨Af, A3, cf, c3, fs, es[i].1.2, rfl, ?_, ?_, HF.out.1, HF.out.2, by have := HKE.out; omega, hBW⟩
  · have hb2 := HBB.out.2
    exact ((((HQ.out.2.1.below O12.out.1 (Nat.le_refl _)).only O3.out (.inr (by omega))).rd).more (by omega))
  · exact ((e8.keep fun k k1 k2 => hk k (by omega) (by omega)).rd).more (by omega)

end Go.Proofs.YtokmmloakahkhaaGreat
/-
  Words of what variables have: cutting them to some variables, laying them over one another; bindingMask.
-/
namespace Go.Proofs.YtokmmloakahkhaaGreat
open Go.RowKit

theorem nib_or {x y a b : Nat} (ha : a < 16) (hb : b < 16) : (x * 16 + a) ||| (y * 16 + b) = (x ||| y) * 16 + (a ||| b) := by
  apply Nat.eq_of_testBit_eq
  intro i
  have h := fun (p q : Nat) (hq : q < 16) => Nat.testBit_two_pow_mul_add p (i := 4) (b := q) (by omega) i
  rw [Nat.testBit_or, Nat.mul_comm x, Nat.mul_comm y, Nat.mul_comm (x ||| y)]
  rw [show (16 : Nat) = 2 ^ 4 from rfl, h x a ha, h y b hb, h (x ||| y) (a ||| b) (Nat.or_lt_two_pow (n := 4) ha hb), Nat.testBit_or, Nat.testBit_or]
  split <;> rfl
theorem nib_and {x y a b : Nat} (ha : a < 16) (hb : b < 16) : (x * 16 + a) &&& (y * 16 + b) = (x &&& y) * 16 + (a &&& b) := by
  apply Nat.eq_of_testBit_eq
  intro i
  have h := fun (p q : Nat) (hq : q < 16) => Nat.testBit_two_pow_mul_add p (i := 4) (b := q) (by omega) i
  rw [Nat.testBit_and, Nat.mul_comm x, Nat.mul_comm y, Nat.mul_comm (x &&& y)]
  rw [show (16 : Nat) = 2 ^ 4 from rfl, h x a ha, h y b hb, h (x &&& y) (a &&& b) (Nat.and_lt_two_pow (n := 4) a hb), Nat.testBit_and, Nat.testBit_and]
  split <;> rfl

/-- What some variables have, the others nothing. -/
def restr (V : Nat) (b : List Int) : List Int := [if V.testBit 0 then b.getD 0 (-1) else -1, if V.testBit 1 then b.getD 1 (-1) else -1, if V.testBit 2 then b.getD 2 (-1) else -1, if V.testBit 3 then b.getD 3 (-1) else -1]
def over1 (x y : Int) : Int := if x = -1 then y else x
/-- One over the other. -/
def over (a b : List Int) : List Int := [over1 (a.getD 0 (-1)) (b.getD 0 (-1)), over1 (a.getD 1 (-1)) (b.getD 1 (-1)), over1 (a.getD 2 (-1)) (b.getD 2 (-1)), over1 (a.getD 3 (-1)) (b.getD 3 (-1))]
def bit15 (b : Bool) : Nat := if b then 15 else 0
def maskW (V : Nat) : Nat := ((bit15 (V.testBit 0) * 16 + bit15 (V.testBit 1)) * 16 + bit15 (V.testBit 2)) * 16 + bit15 (V.testBit 3)

theorem bit15_lt (b : Bool) : bit15 b < 16 := by cases b <;> decide
theorem maskW_lt (V : Nat) : maskW V < 65536 := by
  have := bit15_lt (V.testBit 0); have := bit15_lt (V.testBit 1); have := bit15_lt (V.testBit 2); have := bit15_lt (V.testBit 3)
  unfold maskW
  omega
theorem bind_at {b : List Int} (h : bindOk b = true) {v : Nat} (hv : v < 4) : -1 ≤ b.getD v (-1) ∧ b.getD v (-1) ≤ 5 := by
  have hl := bindOk_len h
  have hk : v < b.length := by omega
  rw [List.getD_eq_getElem?_getD, List.getElem?_eq_getElem hk]
  exact bindOk_at h hk
theorem bindOk_four {a b c d : Int} (h0 : -1 ≤ a ∧ a ≤ 5) (h1 : -1 ≤ b ∧ b ≤ 5) (h2 : -1 ≤ c ∧ c ≤ 5) (h3 : -1 ≤ d ∧ d ≤ 5) : bindOk [a, b, c, d] = true := by
  refine bindOk_iff rfl ?_
  simp only [List.all_cons, List.all_nil, Bool.and_true, Bool.and_eq_true, hasB, decide_eq_true_eq]
  exact ⟨h0, h1, h2, h3⟩
theorem restr_ok {b : List Int} (h : bindOk b = true) (V : Nat) : bindOk (restr V b) = true := by
  have key : ∀ v, v < 4 → -1 ≤ (if V.testBit v then b.getD v (-1) else -1) ∧ (if V.testBit v then b.getD v (-1) else -1) ≤ 5 := fun v hv => by
    have := bind_at h hv
    split <;> omega
  exact bindOk_four (key 0 (by omega)) (key 1 (by omega)) (key 2 (by omega)) (key 3 (by omega))
theorem over_ok {a b : List Int} (h : bindOk a = true) (h2 : bindOk b = true) : bindOk (over a b) = true := by
  have key : ∀ v, v < 4 → -1 ≤ over1 (a.getD v (-1)) (b.getD v (-1)) ∧ over1 (a.getD v (-1)) (b.getD v (-1)) ≤ 5 := fun v hv => by
    have := bind_at h hv
    have := bind_at h2 hv
    unfold over1
    split <;> omega
  exact bindOk_four (key 0 (by omega)) (key 1 (by omega)) (key 2 (by omega)) (key 3 (by omega))
theorem restr_at {V : Nat} {b : List Int} {v : Nat} (hv : v < 4) : (restr V b).getD v (-1) = if V.testBit v then b.getD v (-1) else -1 := by
  match v, hv with
  | 0, _ => rfl
  | 1, _ => rfl
  | 2, _ => rfl
  | 3, _ => rfl
theorem over_at {a b : List Int} {v : Nat} (hv : v < 4) : (over a b).getD v (-1) = over1 (a.getD v (-1)) (b.getD v (-1)) := by
  match v, hv with
  | 0, _ => rfl
  | 1, _ => rfl
  | 2, _ => rfl
  | 3, _ => rfl
theorem bind_ext {a b : List Int} (h : bindOk a = true) (h2 : bindOk b = true) (e : ∀ v, v < 4 → a.getD v (-1) = b.getD v (-1)) : a = b := by
  obtain ⟨a0, a1, a2, a3, rfl⟩ := list4 (bindOk_len h)
  obtain ⟨b0, b1, b2, b3, rfl⟩ := list4 (bindOk_len h2)
  have e0 := e 0 (by omega)
  have e1 := e 1 (by omega)
  have e2 := e 2 (by omega)
  have e3 := e 3 (by omega)
  simp only [List.getD_cons_zero, List.getD_cons_succ] at e0 e1 e2 e3
  rw [e0, e1, e2, e3]

theorem and15 : ∀ a : Fin 7, ∀ t : Bool, (a.val &&& bit15 t) = if t then a.val else 0 := by decide
theorem nib_mask {x : Int} (h : -1 ≤ x ∧ x ≤ 5) (t : Bool) : ((x + 1).toNat &&& bit15 t) = ((if t then x else -1) + 1).toNat := by
  obtain ⟨a, e, rfl⟩ := fin7 h
  rw [e, and15]
  cases t <;> simp
theorem nib_over {x y : Int} (h : -1 ≤ x ∧ x ≤ 5) (h2 : -1 ≤ y ∧ y ≤ 5) (hc : x = -1 ∨ y = -1 ∨ x = y) : ((x + 1).toNat ||| (y + 1).toNat) = (over1 x y + 1).toNat := by
  unfold over1
  rcases hc with rfl | rfl | rfl
  · simp
  · by_cases e : x = -1
    · simp [e]
    · simp [e]
  · simp
theorem nib_lt {x : Int} (h : -1 ≤ x ∧ x ≤ 5) : (x + 1).toNat < 16 := by omega

theorem enc_restr {b : List Int} (h : bindOk b = true) (V : Nat) : encB b &&& maskW V = encB (restr V b) := by
  have k0 := bind_at h (v := 0) (by omega)
  have k1 := bind_at h (v := 1) (by omega)
  have k2 := bind_at h (v := 2) (by omega)
  have k3 := bind_at h (v := 3) (by omega)
  unfold encB maskW
  rw [nib_and (nib_lt k3) (bit15_lt _), nib_and (nib_lt k2) (bit15_lt _), nib_and (nib_lt k1) (bit15_lt _), nib_mask k0, nib_mask k1, nib_mask k2, nib_mask k3]
  rfl
theorem enc_over {a b : List Int} (h : bindOk a = true) (h2 : bindOk b = true) (hc : ∀ v, v < 4 → a.getD v (-1) = -1 ∨ b.getD v (-1) = -1 ∨ a.getD v (-1) = b.getD v (-1)) : encB a ||| encB b = encB (over a b) := by
  have k0 := bind_at h (v := 0) (by omega)
  have k1 := bind_at h (v := 1) (by omega)
  have k2 := bind_at h (v := 2) (by omega)
  have k3 := bind_at h (v := 3) (by omega)
  have l0 := bind_at h2 (v := 0) (by omega)
  have l1 := bind_at h2 (v := 1) (by omega)
  have l2 := bind_at h2 (v := 2) (by omega)
  have l3 := bind_at h2 (v := 3) (by omega)
  unfold encB
  rw [nib_or (nib_lt k3) (nib_lt l3), nib_or (nib_lt k2) (nib_lt l2), nib_or (nib_lt k1) (nib_lt l1), nib_over k0 l0 (hc 0 (by omega)), nib_over k1 l1 (hc 1 (by omega)), nib_over k2 l2 (hc 2 (by omega)), nib_over k3 l3 (hc 3 (by omega))]
  rfl

theorem and_word32 {a b : Nat} (ha : a < 65536) (hb : b < 65536) : bits .and .u32 (a : Int) (b : Int) = ((a &&& b : Nat) : Int) := u32_and_nat a b (by omega) (by omega)
theorem mask_bit : ∀ V : Fin 16, ∀ k : Fin 4, (bits .and .u64 ((V.val : Nat) : Int) (((2 ^ k.val : Nat) : Nat) : Int) != 0) = V.val.testBit k.val := by decide +kernel

/-- The mask of the first k variables. -/
def maskTo (V k : Nat) : Nat := maskW (V &&& (2 ^ k - 1))
theorem maskTo_all : ∀ V : Fin 16, maskTo V.val 4 = maskW V.val := by decide +kernel
theorem maskTo_zero (V : Nat) : maskTo V 0 = 0 := by simp [maskTo, maskW, bit15]
theorem maskTo_step : ∀ V : Fin 16, ∀ k : Fin 4, maskTo V.val (k.val + 1) = if V.val.testBit k.val then maskTo V.val k.val ||| (15 * 2 ^ ((3 - k.val) * 4)) else maskTo V.val k.val := by decide +kernel

theorem maskT (V : Nat) (hV : V < 16) {k : Nat} (hk : k < 4) (h : (bits .and .u64 ((V : Nat) : Int) (((2 ^ k : Nat) : Nat) : Int) != 0) = true) : bits .or .u32 ((maskTo V k : Nat) : Int) ((15 * 2 ^ ((3 - k) * 4) : Nat) : Int) = ((maskTo V (k + 1) : Nat) : Int) := by
  have hb := mask_bit ⟨V, hV⟩ ⟨k, hk⟩
  have hs := maskTo_step ⟨V, hV⟩ ⟨k, hk⟩
  simp only at hb hs
  rw [hb] at h
  rw [h, if_pos rfl] at hs
  have hlt : maskTo V k < 65536 := maskW_lt (V &&& (2 ^ k - 1))
  have h2 : 15 * 2 ^ ((3 - k) * 4) < 65536 := by
    rcases (show k = 0 ∨ k = 1 ∨ k = 2 ∨ k = 3 by omega) with rfl | rfl | rfl | rfl <;> decide
  rw [hs]
  exact or_word32 hlt h2
theorem maskF (V : Nat) (hV : V < 16) {k : Nat} (hk : k < 4) (h : (bits .and .u64 ((V : Nat) : Int) (((2 ^ k : Nat) : Nat) : Int) != 0) = false) : ((maskTo V k : Nat) : Int) = ((maskTo V (k + 1) : Nat) : Int) := by
  have hb := mask_bit ⟨V, hV⟩ ⟨k, hk⟩
  have hs := maskTo_step ⟨V, hV⟩ ⟨k, hk⟩
  simp only at hb hs
  rw [hb] at h
  rw [h] at hs
  rw [hs]
  rfl

set_option maxHeartbeats 1000000 in
set_option maxRecDepth 100000 in
theorem bindingMask_any (V : Nat) (hV : V < 16) (w : World) :
    Calls Tryz.prog 197 #[.int .u64 (V : Nat)] w fun e w' => e = .returned (.int .u32 ((maskW V : Nat) : Int)) ∧ w = w' := by
  go_enter Tryz.func197, Tryz.ntmps197
  go_wp2_with (fail)
  go_loopg [3, 4, 5] 4 (fun q m _ i wr => ∃ k : Nat, k ≤ 4 ∧ q = 4 - k ∧ i = .int .i64 k ∧ m = .int .u32 ((maskTo V k : Nat) : Int) ∧ wr = w)
  case atStart => exact ⟨0, by omega, by omega, rfl, by rw [maskTo_zero]; rfl, rfl⟩
  case round =>
    obtain ⟨k, hk, hq, rfl, rfl, rfl⟩ := hrel
    have hlt := maskW_lt (V &&& (2 ^ k - 1))
    by_cases h4 : k < 4
    · rcases (show k = 0 ∨ k = 1 ∨ k = 2 ∨ k = 3 by omega) with rfl | rfl | rfl | rfl
      · have HT := Lib.hid (fun h => maskT V hV (k := 0) (by omega) h)
        have HF := Lib.hid (fun h => maskF V hV (k := 0) (by omega) h)
        clear hlt
        go_wp2_with (go_at_call 122; refine (shift_any _ (by omega) (by omega) _).mono ?_; rintro e w' ⟨rfl, rfl⟩)
        · have ht : (bits .and .u64 ((V : Nat) : Int) (1 : Int) != 0) = true := by assumption
          go_roundg 3
          case measure => omega
          case rel => exact ⟨1, by omega, by omega, rfl, congrArg (Value.int .u32) (HT.out ht), rfl⟩
        · have ht : (bits .and .u64 ((V : Nat) : Int) (1 : Int) != 0) = false := by assumption
          go_roundg 3
          case measure => omega
          case rel => exact ⟨1, by omega, by omega, rfl, congrArg (Value.int .u32) (HF.out ht), rfl⟩
      · have HT := Lib.hid (fun h => maskT V hV (k := 1) (by omega) h)
        have HF := Lib.hid (fun h => maskF V hV (k := 1) (by omega) h)
        clear hlt
        go_wp2_with (go_at_call 122; refine (shift_any _ (by omega) (by omega) _).mono ?_; rintro e w' ⟨rfl, rfl⟩)
        · have ht : (bits .and .u64 ((V : Nat) : Int) (2 : Int) != 0) = true := by assumption
          go_roundg 2
          case measure => omega
          case rel => exact ⟨2, by omega, by omega, rfl, congrArg (Value.int .u32) (HT.out ht), rfl⟩
        · have ht : (bits .and .u64 ((V : Nat) : Int) (2 : Int) != 0) = false := by assumption
          go_roundg 2
          case measure => omega
          case rel => exact ⟨2, by omega, by omega, rfl, congrArg (Value.int .u32) (HF.out ht), rfl⟩
      · have HT := Lib.hid (fun h => maskT V hV (k := 2) (by omega) h)
        have HF := Lib.hid (fun h => maskF V hV (k := 2) (by omega) h)
        clear hlt
        go_wp2_with (go_at_call 122; refine (shift_any _ (by omega) (by omega) _).mono ?_; rintro e w' ⟨rfl, rfl⟩)
        · have ht : (bits .and .u64 ((V : Nat) : Int) (4 : Int) != 0) = true := by assumption
          go_roundg 1
          case measure => omega
          case rel => exact ⟨3, by omega, by omega, rfl, congrArg (Value.int .u32) (HT.out ht), rfl⟩
        · have ht : (bits .and .u64 ((V : Nat) : Int) (4 : Int) != 0) = false := by assumption
          go_roundg 1
          case measure => omega
          case rel => exact ⟨3, by omega, by omega, rfl, congrArg (Value.int .u32) (HF.out ht), rfl⟩
      · have HT := Lib.hid (fun h => maskT V hV (k := 3) (by omega) h)
        have HF := Lib.hid (fun h => maskF V hV (k := 3) (by omega) h)
        clear hlt
        go_wp2_with (go_at_call 122; refine (shift_any _ (by omega) (by omega) _).mono ?_; rintro e w' ⟨rfl, rfl⟩)
        · have ht : (bits .and .u64 ((V : Nat) : Int) (8 : Int) != 0) = true := by assumption
          go_roundg 0
          case measure => omega
          case rel => exact ⟨4, by omega, by omega, rfl, congrArg (Value.int .u32) (HT.out ht), rfl⟩
        · have ht : (bits .and .u64 ((V : Nat) : Int) (8 : Int) != 0) = false := by assumption
          go_roundg 0
          case measure => omega
          case rel => exact ⟨4, by omega, by omega, rfl, congrArg (Value.int .u32) (HF.out ht), rfl⟩
    · obtain rfl : k = 4 := by omega
      have HM := Lib.hid (maskTo_all ⟨V, hV⟩)
      go_wp2_with (fail)
      go_ret
      exact ⟨ret_int (by rw [show maskTo V 4 = maskW V from HM.out]), rfl⟩

end Go.Proofs.YtokmmloakahkhaaGreat
/-
  What a match leaves is a list of what variables have.
-/
namespace Go.Proofs.YtokmmloakahkhaaGreat
open Go.RowKit

theorem matchTo_ok {bs xs ys : List Int} (hb : bindOk bs = true) (hy : ys.all constOk = true) : ∀ {k : Nat} {b : List Int}, k ≤ ys.length → matchTo bs xs ys k = some b → bindOk b = true
  | 0, b, _, e => by
    injection e with e
    rwa [← e]
  | k + 1, b, hk, e => by
    have e' : (matchTo bs xs ys k).bind (fun b => stepM b (xs.getD k 0) (ys.getD k 0)) = some b := e
    obtain ⟨c, h1, h2⟩ := Option.bind_eq_some_iff.1 e'
    refine stepM_ok (matchTo_ok hb hy (by omega) h1) ?_ h2
    have hlt : k < ys.length := by omega
    have := List.all_eq_true.1 hy _ (List.getElem_mem hlt)
    simp [constOk] at this
    simp [hlt]
    omega
theorem matchL_ok {a f : LFact} {bs b : List Int} (hb : bindOk bs = true) (hy : f.2.all constOk = true) (e : matchL a f bs = some b) : bindOk b = true := by
  unfold matchL at e
  split at e
  · rename_i h
    exact matchTo_ok hb hy (by omega) e
  · cases e

end Go.Proofs.YtokmmloakahkhaaGreat
/-
  What makes a literal hold, plain mathematics: matching, joining, denying.
-/
namespace Go.Proofs.YtokmmloakahkhaaGreat
open Go.RowKit

/-- Just the variables of K have something. -/
def DomB (b : List Int) (K : Nat) : Prop := ∀ v, v < 4 → (b.getD v (-1) ≠ -1 ↔ K.testBit v = true)

theorem maskFrom_bit {v : Nat} (hv : v < 4) : ∀ (xs : List Int) (m : Nat), (maskFrom m xs).testBit v = true ↔ m.testBit v = true ∨ (-1 - (v : Int)) ∈ xs
  | [], m => by simp [maskFrom]
  | t :: xs, m => by
    have e : maskFrom m (t :: xs) = maskFrom (orV m t) xs := rfl
    rw [e, maskFrom_bit hv xs]
    unfold orV
    by_cases ht : isVarB t = true
    · have hb : -4 ≤ t ∧ t ≤ -1 := by simpa [isVarB] using ht
      rw [if_pos ht, Nat.testBit_or, Nat.testBit_two_pow]
      simp only [Bool.or_eq_true, decide_eq_true_eq, List.mem_cons]
      constructor
      · rintro ((h | h) | h)
        · exact .inl h
        · exact .inr (.inl (by omega))
        · exact .inr (.inr h)
      · rintro (h | h | h)
        · exact .inl (.inl h)
        · exact .inl (.inr (by omega))
        · exact .inr h
    · have hb : ¬ (-4 ≤ t ∧ t ≤ -1) := by simpa [isVarB] using ht
      rw [if_neg ht, List.mem_cons]
      constructor
      · rintro (h | h)
        · exact .inl h
        · exact .inr (.inr h)
      · rintro (h | h | h)
        · exact .inl h
        · omega
        · exact .inr h
theorem maskOf_bit {v : Nat} (hv : v < 4) (xs : List Int) : (maskOf xs).testBit v = true ↔ (-1 - (v : Int)) ∈ xs := by
  unfold maskOf
  rw [maskFrom_bit hv]
  simp
/-- A term is a constant, or a variable. -/
theorem term_cases {t : Int} (h : termOk t = true) : (0 ≤ t ∧ t ≤ 5) ∨ ∃ v : Nat, v < 4 ∧ t = -1 - (v : Int) := by
  have := termOk_at h
  rcases Int.lt_or_le t 0 with h0 | h0
  · exact .inr ⟨(-1 - t).toNat, by omega, by omega⟩
  · exact .inl ⟨h0, this.2⟩
theorem termVal_v (b : List Int) (v : Nat) : termVal b (-1 - (v : Int)) = b.getD v (-1) := by
  rw [termVal_var (by omega)]
  congr 1
  omega
/-- Terms have the same in both where the variables do. -/
theorem termVal_same {b c : List Int} {t : Int} (h : termOk t = true) (e : ∀ v : Nat, v < 4 → t = -1 - (v : Int) → b.getD v (-1) = c.getD v (-1)) : termVal b t = termVal c t := by
  rcases term_cases h with h0 | ⟨v, hv, rfl⟩
  · rw [termVal_const h0.1, termVal_const h0.1]
  · rw [termVal_v, termVal_v]
    exact e v hv rfl
theorem orV_const {m : Nat} {t : Int} (h : 0 ≤ t) : orV m t = m := by
  unfold orV
  rw [if_neg]
  simp [isVarB]
  omega
theorem orV_var {m v : Nat} (hv : v < 4) : orV m (-1 - (v : Int)) = m ||| 2 ^ v := by
  unfold orV
  rw [if_pos (by simp [isVarB]; omega)]
  congr 2
  omega
theorem or_bit (m v u : Nat) : (m ||| 2 ^ v).testBit u = true ↔ m.testBit u = true ∨ v = u := by
  rw [Nat.testBit_or, Nat.testBit_two_pow]
  simp

theorem restr_dom {b : List Int} {K M : Nat} (h : DomB b K) (hs : ∀ v, v < 4 → M.testBit v = true → K.testBit v = true) : DomB (restr M b) M := fun v hv => by
  rw [restr_at hv]
  by_cases e : M.testBit v = true
  · rw [if_pos e]
    exact ⟨fun _ => e, fun _ => (h v hv).2 (hs v hv e)⟩
  · rw [if_neg e]
    exact ⟨fun h => absurd rfl h, fun h => absurd h e⟩
theorem restr_all {b : List Int} {K : Nat} (hb : bindOk b = true) (h : DomB b K) : restr K b = b := by
  refine bind_ext (restr_ok hb K) hb fun v hv => ?_
  rw [restr_at hv]
  by_cases e : K.testBit v = true
  · rw [if_pos e]
  · rw [if_neg e]
    rcases Decidable.em (b.getD v (-1) = -1) with h2 | h2
    · exact h2.symm
    · exact absurd ((h v hv).1 h2) e

theorem matchTo_iff {xs ys : List Int} (hl : xs.length = ys.length) (hx : xs.all termOk = true) (hy : ys.all constOk = true) : ∀ (k : Nat) (_hk : k ≤ xs.length) (b : List Int), matchTo noneB xs ys k = some b ↔
    (bindOk b = true ∧ DomB b (maskOf (xs.take k)) ∧ ∀ i (h : i < xs.length) (h2 : i < ys.length), i < k → termVal b xs[i] = ys[i])
  | 0, hk, b => by
    constructor
    · intro h
      injection h with h
      subst h
      refine ⟨noneB_ok, fun v hv => ?_, fun i _ _ h => absurd h (by omega)⟩
      have : (maskOf (xs.take 0)).testBit v = false := by simp [maskOf, maskFrom]
      rw [this]
      match v, hv with
      | 0, _ => simp [noneB]
      | 1, _ => simp [noneB]
      | 2, _ => simp [noneB]
      | 3, _ => simp [noneB]
    · rintro ⟨hb, hd, _⟩
      show some noneB = some b
      congr 1
      refine bind_ext noneB_ok hb fun v hv => ?_
      have h0 : (maskOf (xs.take 0)).testBit v = false := by simp [maskOf, maskFrom]
      have := hd v hv
      rw [h0] at this
      have hbv : b.getD v (-1) = -1 := by
        rcases Decidable.em (b.getD v (-1) = -1) with h2 | h2
        · exact h2
        · exact absurd (this.1 h2) (by simp)
      rw [hbv]
      match v, hv with
      | 0, _ => rfl
      | 1, _ => rfl
      | 2, _ => rfl
      | 3, _ => rfl
  | k + 1, hk, b => by
    have hkx : k < xs.length := by omega
    have hky : k < ys.length := by omega
    have ih := matchTo_iff hl hx hy k (by omega)
    have hM := maskOf_take hkx
    have hxk : termOk xs[k] = true := List.all_eq_true.1 hx _ (List.getElem_mem hkx)
    have hyk : 0 ≤ ys[k] ∧ ys[k] ≤ 5 := by simpa [constOk] using List.all_eq_true.1 hy _ (List.getElem_mem hky)
    obtain ⟨M, hMM⟩ : ∃ M, M = maskOf (xs.take k) := ⟨_, rfl⟩
    rw [← hMM] at hM ih
    rw [hM]
    have hin : ∀ (i : Nat) (h : i < xs.length) (v : Nat), i < k → v < 4 → xs[i] = -1 - (v : Int) → M.testBit v = true := fun i h v hik hv e => by
      rw [hMM, maskOf_bit hv, ← e]
      exact List.mem_take_iff_getElem.2 ⟨i, by omega, rfl⟩
    constructor
    · intro h
      cases h0 : matchTo noneB xs ys k with
      | none => rw [matchTo_none h0 (k + 1) (by omega)] at h; cases h
      | some b0 =>
        rw [matchTo_step h0 hkx hky] at h
        obtain ⟨hb0, hd0, hv0⟩ := (ih b0).1 h0
        unfold stepM at h
        split at h
        · rename_i e
          injection h with h
          subst h
          refine ⟨hb0, ?_, fun i h1 h2 hik => ?_⟩
          · rcases term_cases hxk with h0 | ⟨v, hv, hxv⟩
            · rw [orV_const h0.1]
              exact hd0
            · rw [hxv, orV_var hv]
              intro u hu
              rw [or_bit, hd0 u hu]
              constructor
              · exact fun h => .inl h
              · rintro (h | rfl)
                · exact h
                · refine (hd0 v hv).1 ?_
                  rw [hxv, termVal_v] at e
                  omega
          · by_cases ei : i = k
            · subst ei
              exact e
            · exact hv0 i h1 h2 (by omega)
        · split at h
          · rename_i e1 e2
            injection h with h
            rcases term_cases hxk with h0 | ⟨v, hv, hxv⟩
            · rw [termVal_const h0.1] at e2
              omega
            · rw [hxv, termVal_v] at e2
              have hj : (-1 - xs[k]).toNat = v := by omega
              rw [hj] at h
              have hl4 := bindOk_len hb0
              have hset : ∀ u, u < 4 → b.getD u (-1) = if u = v then ys[k] else b0.getD u (-1) := fun u hu => by
                rw [← h]
                simp only [List.getD_eq_getElem?_getD, List.getElem?_set]
                by_cases euv : v = u
                · subst euv
                  simp [hl4, hv]
                · rw [if_neg euv, if_neg (fun e => euv e.symm)]
              refine ⟨by rw [← h]; exact bindOk_set hb0 (by omega) _, fun u hu => ?_, fun i h1 h2 hik => ?_⟩
              · rw [hxv, orV_var hv, or_bit, hset u hu]
                by_cases euv : u = v
                · subst euv
                  simp
                  omega
                · rw [if_neg euv, hd0 u hu]
                  constructor
                  · exact fun h => .inl h
                  · rintro (h | h)
                    · exact h
                    · exact absurd h.symm euv
              · by_cases ei : i = k
                · subst ei
                  rw [hxv, termVal_v, hset v hv, if_pos rfl]
                · have hik' : i < k := by omega
                  rw [← hv0 i h1 h2 hik']
                  refine termVal_same (List.all_eq_true.1 hx _ (List.getElem_mem h1)) fun u hu eu => ?_
                  rw [hset u hu, if_neg]
                  rintro rfl
                  have := (hd0 u hu).2 (hin i h1 u hik' hu eu)
                  exact this e2
          · cases h
    · rintro ⟨hb, hd, hv⟩
      have hMK : ∀ v, v < 4 → M.testBit v = true → (orV M xs[k]).testBit v = true := fun v hv h => by
        rcases term_cases hxk with h0 | ⟨u, hu, hxu⟩
        · rw [orV_const h0.1]; exact h
        · rw [hxu, orV_var hu, or_bit]; exact .inl h
      have h0 : matchTo noneB xs ys k = some (restr M b) := by
        refine (ih _).2 ⟨restr_ok hb M, restr_dom hd hMK, fun i h1 h2 hik => ?_⟩
        rw [← hv i h1 h2 (by omega)]
        refine termVal_same (List.all_eq_true.1 hx _ (List.getElem_mem h1)) fun u hu eu => ?_
        rw [restr_at hu, if_pos (hin i h1 u hik hu eu)]
      rw [matchTo_step h0 hkx hky]
      have hvk := hv k hkx hky (by omega)
      rcases term_cases hxk with h0c | ⟨v, hv4, hxv⟩
      · rw [orV_const h0c.1] at hd
        rw [restr_all hb hd]
        exact stepM_same hvk
      · rw [hxv, orV_var hv4] at hd
        rw [hxv, termVal_v] at hvk
        rw [hxv]
        by_cases hMv : M.testBit v = true
        · have hd2 : DomB b M := fun u hu => by
            rw [hd u hu, or_bit]
            constructor
            · rintro (h | rfl)
              · exact h
              · exact hMv
            · exact fun h => .inl h
          rw [restr_all hb hd2]
          exact stepM_same (by rw [termVal_v]; exact hvk)
        · have hr : termVal (restr M b) (-1 - (v : Int)) = -1 := by rw [termVal_v, restr_at hv4, if_neg hMv]
          rw [stepM_new hr (by omega), show (-1 - (-1 - (v : Int))).toNat = v by omega]
          congr 1
          refine bind_ext (bindOk_set (restr_ok hb M) (by omega) _) hb fun u hu => ?_
          have hl4 := bindOk_len (restr_ok hb M)
          simp only [List.getD_eq_getElem?_getD, List.getElem?_set]
          by_cases euv : v = u
          · subst euv
            simp only [List.getD_eq_getElem?_getD] at hvk
            simp [hl4, hv4, hvk]
          · rw [if_neg euv, ← List.getD_eq_getElem?_getD, ← List.getD_eq_getElem?_getD, restr_at hu]
            by_cases hMu : M.testBit u = true
            · rw [if_pos hMu]
            · rw [if_neg hMu]
              rcases Decidable.em (b.getD u (-1) = -1) with h2 | h2
              · exact h2.symm
              · have := (hd u hu).1 h2
                rw [or_bit] at this
                rcases this with h | h
                · exact absurd h hMu
                · exact absurd h euv

/-- A match from nothing: what the atom's variables have, so that it is the fact. -/
theorem matchL_iff {a f : LFact} (ha : a.2.all termOk = true) (hf : f.2.all constOk = true) (b : List Int) : matchL a f noneB = some b ↔ bindOk b = true ∧ DomB b (maskOf a.2) ∧ f = (a.1, a.2.map (termVal b)) := by
  by_cases h1 : a.1 = f.1
  · by_cases h2 : a.2.length = f.2.length
    · rw [matchL_eq h1 h2, matchTo_iff h2 ha hf a.2.length (Nat.le_refl _) b, List.take_length]
      refine and_congr_right fun _ => and_congr_right fun _ => ?_
      constructor
      · intro h
        refine Prod.ext h1.symm (List.ext_getElem (by simp [h2]) fun i i1 i2 => ?_)
        simp at i2
        simpa using (h i i2 i1 i2).symm
      · intro h i i1 i2 _
        have e : f.2 = a.2.map (termVal b) := by rw [h]
        have := List.getElem_of_eq e i2
        simpa using this.symm
    · rw [matchL_len h2]
      constructor
      · intro h; cases h
      · rintro ⟨_, _, e⟩
        exact absurd (by rw [e]; simp) h2
  · rw [matchL_pred h1]
    constructor
    · intro h; cases h
    · rintro ⟨_, _, e⟩
      exact absurd (by rw [e]) h1

end Go.Proofs.YtokmmloakahkhaaGreat
/-
  The steps of the plain functions of a sort, as a walk takes them. Plain mathematics.
-/
namespace Go.Proofs.YtokmmloakahkhaaGreat
open Go.Sort

section
variable {α : Type} [Inhabited α] (lt : α → α → Bool)
/-- Insertion: one exchange. -/
theorem insStep {a j : Nat} {d : Array α} (hj : a < j) (hl : lt d[j]! d[j - 1]! = true) : insInner lt a j d = insInner lt a (j - 1) (Sort.swp d j (j - 1)) := by
  cases j with
  | zero => omega
  | succ k =>
    simp only [Nat.add_sub_cancel] at hl ⊢
    rw [insInner, if_pos (by simp [hj, hl])]
theorem insDone {a j : Nat} {d : Array α} (h : a < j → lt d[j]! d[j - 1]! = false) : insInner lt a j d = d := by
  cases j with
  | zero => rw [insInner]
  | succ k =>
    rw [insInner]
    by_cases hj : a < k + 1
    · have := h hj
      simp only [Nat.add_sub_cancel] at this
      rw [if_neg (by simp [this])]
    · rw [if_neg (by simp; omega)]

/-- The greater child. -/
def kid (d : Array α) (hi first root : Nat) : Nat := if (decide (2 * root + 2 < hi) && lt d[first + (2 * root + 1)]! d[first + (2 * root + 2)]!) = true then 2 * root + 2 else 2 * root + 1
theorem kid_lt {d : Array α} {hi first root : Nat} (h : 2 * root + 1 < hi) : kid lt d hi first root < hi ∧ root < kid lt d hi first root := by
  unfold kid
  split
  · rename_i e
    simp at e
    omega
  · omega
theorem siftEnd {d : Array α} {hi first root : Nat} (h : ¬ 2 * root + 1 < hi) : siftDown lt hi first root d = d := by
  rw [siftDown, dif_pos (by omega)]
theorem siftStop {d : Array α} {hi first root : Nat} (h : 2 * root + 1 < hi) (hl : lt d[first + root]! d[first + kid lt d hi first root]! = false) : siftDown lt hi first root d = d := by
  unfold kid at hl
  rw [siftDown, dif_neg (by omega)]
  split at hl
  · rename_i e
    rw [if_pos (by exact e), if_pos (by rw [hl]; rfl)]
  · rename_i e
    rw [if_neg (by exact e), if_pos (by rw [hl]; rfl)]
theorem siftStep {d : Array α} {hi first root : Nat} (h : 2 * root + 1 < hi) (hl : lt d[first + root]! d[first + kid lt d hi first root]! = true) :
    siftDown lt hi first root d = siftDown lt hi first (kid lt d hi first root) (Sort.swp d (first + root) (first + kid lt d hi first root)) := by
  unfold kid at hl ⊢
  rw [siftDown, dif_neg (by omega)]
  split at hl
  · rename_i e
    have e2 : 2 * root + 2 < hi := by simp at e; omega
    rw [if_pos (by exact e), if_neg (by rw [hl]; decide), dif_pos e2, if_pos e]
  · rename_i e
    rw [if_neg (by exact e), if_neg (by rw [hl]; decide), if_neg e]

/-- The scans. -/
theorem upStep {p : α → Bool} {d : Array α} {j i : Nat} (h : i ≤ j) (hp : p d[i]! = true) : scanUp p d j i = scanUp p d j (i + 1) := by rw [scanUp, if_pos (by simp [h, hp])]
theorem upDone {p : α → Bool} {d : Array α} {j i : Nat} (h : i ≤ j → p d[i]! = false) : scanUp p d j i = i := by
  rw [scanUp, if_neg]
  intro hc
  simp at hc
  rw [h hc.1] at hc
  exact absurd hc.2 (by simp)
theorem downStep {p : α → Bool} {d : Array α} {j i : Nat} (h : i ≤ j) (h0 : 0 < j) (hp : p d[j]! = true) : scanDown p d i j = scanDown p d i (j - 1) := by
  cases j with
  | zero => omega
  | succ k => rw [scanDown, if_pos (by simp [h, hp]), Nat.add_sub_cancel]
theorem downDone {p : α → Bool} {d : Array α} {j i : Nat} (h : i ≤ j → p d[j]! = false) : scanDown p d i j = j := by
  cases j with
  | zero => rfl
  | succ k =>
    rw [scanDown, if_neg]
    intro hc
    simp at hc
    rw [h hc.1] at hc
    exact absurd hc.2 (by simp)
/-- Where the two scans stand, they don't stand at one place. -/
theorem scans_apart (p q : α → Bool) (hq : ∀ x, q x = !p x) {d : Array α} {i j i2 j2 : Nat} (hi2 : scanUp p d j i = i2) (hj2 : scanDown q d i2 j = j2) (h : i2 ≤ j2) (h0 : 0 < i2) : i2 < j2 := by
  obtain ⟨u1, u2, u3, u4⟩ := scanUp_spec p d j _ i rfl
  obtain ⟨v1, v2, v3, v4⟩ := scanDown_spec q d i2 j
  rw [hi2] at u4
  rw [hj2] at v1 v4
  rcases Nat.lt_or_ge i2 j2 with hlt | hge
  · exact hlt
  · exfalso
    have e : j2 = i2 := by omega
    have f1 := u4 (by omega)
    have f2 := v4 h (by omega)
    rw [e, hq, f1] at f2
    cases f2
end
end Go.Proofs.YtokmmloakahkhaaGreat
/-
  A row of words (one uint32 a cell) in a block of the call's own; its loads, stores and exchanges.
-/
namespace Go.Proofs.YtokmmloakahkhaaGreat
open Go.RowKit Go.Sort

/-- From place o of block g, of c cells, the words d stand. -/
def URow (w : World) (g o c : Nat) (d : Array Int) : Prop :=
  ∃ cur, w.heap[g]? = some (.cells cur 94 (0, 0)) ∧ cur.size = c ∧ ∀ j, j < d.size → cur[o + j]? = some (.int .u32 d[j]!)

section
variable {w w' : World} {g o c lo hi : Nat} {d : Array Int}
theorem URow.lt (h : URow w g o c d) : g < w.heap.size := by
  obtain ⟨cur, hg, _⟩ := h
  exact Blk.lt hg
theorem URow.cell (h : URow w g o c d) {j : Nat} (hj : j < d.size) : w.cell? ⟨g, o + j, none⟩ = some (.int .u32 d[j]!) := by
  obtain ⟨cur, hg, _, hc⟩ := h
  rw [Blk.cell hg, hc j hj]
theorem URow.frozen (h : URow w g o c d) (j : Nat) : w.frozen? ⟨g, j, none⟩ = false := by
  obtain ⟨cur, hg, _⟩ := h
  exact Blk.frozen hg j
theorem URow.set (h : URow w g o c d) {i : Nat} (hi : i < d.size) (x : Int) : URow (w.setCell ⟨g, o + i, none⟩ (.int .u32 x)) g o c (d.setIfInBounds i x) := by
  obtain ⟨cur, hg, h1, hc⟩ := h
  refine ⟨cur.setIfInBounds (o + i) (.int .u32 x), Blk.set_ hg (o + i) _, by simpa using h1, fun j hj => ?_⟩
  have hj' : j < d.size := by simpa using hj
  by_cases e : i = j
  · subst e
    have hin : o + i < cur.size := by
      rcases Nat.lt_or_ge (o + i) cur.size with h | h
      · exact h
      · have := hc i hi
        rw [Array.getElem?_eq_none h] at this
        cases this
    rw [Array.getElem?_setIfInBounds, if_pos rfl, if_pos hin, getElem!_pos (d.setIfInBounds i x) i hj]
    simp
  · rw [Array.getElem?_setIfInBounds, if_neg (by omega), hc j hj', getElem!_pos (d.setIfInBounds i x) j hj, getElem!_pos d j hj', Array.getElem_setIfInBounds, if_neg e]

/-- The exchange of two places. -/
theorem URow.swp (h : URow w g o c d) {i j : Nat} (hi : i < d.size) (hj : j < d.size) : URow ((w.setCell ⟨g, o + i, none⟩ (.int .u32 d[j]!)).setCell ⟨g, o + j, none⟩ (.int .u32 d[i]!)) g o c (Sort.swp d i j) :=
  (h.set hi _).set (by simpa using hj) _
theorem URow.only (h : URow w g o c d) (ho : Only lo hi w w') (hd : g < lo ∨ hi ≤ g) : URow w' g o c d := by
  obtain ⟨cur, hg, r⟩ := h
  exact ⟨cur, (ho.block g (Blk.lt hg) hd).trans hg, r⟩
theorem URow.below {B : Nat} (h : URow w g o c d) (hb : Below B w w') (hg : g < B) : URow w' g o c d := by
  obtain ⟨cur, e, r⟩ := h
  exact ⟨cur, (hb.block g hg).trans e, r⟩
theorem Only.drew' (h : Only lo hi w w') : Only lo hi w w'.drew := ⟨h.os, h.tape, h.output, h.size, h.block⟩
theorem Only.drewN' (h : Only lo hi w w') (n : Nat) : Only lo hi w (w'.drewN n) := ⟨h.os, h.tape, h.output, h.size, h.block⟩
end

/-- In the world wr, which differs from w in block g alone, the row of n words is dk. -/
structure At (w : World) (g o c n : Nat) (wr : World) (dk : Array Int) : Prop where
  row : URow wr g o c dk
  size : dk.size = n
  only : Only g (g + 1) w wr

section
variable {w wr wr2 : World} {g o c n i j : Nat} {d dk : Array Int}
theorem At.start (h : URow w g o c d) (hn : d.size = n) : At w g o c n w d := ⟨h, hn, Only.refl _ _ _⟩
theorem At.drewN (h : At w g o c n wr dk) (m : Nat) : At w g o c n (wr.drewN m) dk := ⟨h.row, h.size, h.only.drewN' m⟩
theorem At.drew (h : At w g o c n wr dk) : At w g o c n wr.drew dk := ⟨h.row, h.size, h.only.drew'⟩
theorem At.then_ {d2 : Array Int} (h : At w g o c n wr dk) (k : At wr g o c n wr2 d2) : At w g o c n wr2 d2 := ⟨k.row, k.size, h.only.trans k.only⟩
/-- What turns blocks of the call's own alone leaves the row. -/
theorem At.aside {lo hi : Nat} (h : At w g o c n wr dk) (k : Only lo hi wr wr2) (hlo : w.heap.size ≤ lo) (hg : g < lo) : At w g o c n wr2 dk :=
  ⟨h.row.only k (.inl hg), h.size, k.os.trans h.only.os, k.tape.trans h.only.tape, k.output.trans h.only.output, Nat.le_trans h.only.size k.size,
    fun i hi' ho => (k.block i (Nat.lt_of_lt_of_le hi' h.only.size) (.inl (by omega))).trans (h.only.block i hi' ho)⟩
theorem At.lt (h : At w g o c n wr dk) : g < wr.heap.size := h.row.lt
theorem At.swp (h : At w g o c n wr dk) (hi : i < n) (hj : j < n) {x y : Value} (hx : x = .int .u32 dk[j]!) (hy : y = .int .u32 dk[i]!) :
    At w g o c n ((wr.setCell ⟨g, o + i, none⟩ x).setCell ⟨g, o + j, none⟩ y) (Sort.swp dk i j) := by
  subst hx hy
  exact ⟨h.row.swp (by have := h.size; omega) (by have := h.size; omega), by rw [Sort.size_swp]; exact h.size,
    Only.setCell (p := ⟨g, o + j, none⟩) (Only.setCell (p := ⟨g, o + i, none⟩) h.only ⟨Nat.le_refl _, Nat.lt_succ_self _⟩ _) ⟨Nat.le_refl _, Nat.lt_succ_self _⟩ _⟩
/-- The row's contents under a name of their own, as the walk's loads and stores want them. -/
theorem At.fam (h : At w g o c n wr dk) : ∃ G : Nat → Int, Hid (∀ t, G t = dk[t]!) ∧ (∀ t, t < n → wr.cell? ⟨g, o + t, none⟩ = some (.int .u32 (G t))) ∧ (∀ t, t < n → wr.frozen? ⟨g, o + t, none⟩ = false) :=
  ⟨fun t => dk[t]!, Lib.hid (fun _ => rfl), fun t ht => h.row.cell (by have := h.size; omega), fun t _ => h.row.frozen _⟩
/-- A store leaves the cell that it is in. -/
theorem At.still (h : At w g o c n wr dk) (hj : j < n) (p : Addr) (x : Value) : ∃ v, (wr.setCell p x).cell? ⟨g, o + j, none⟩ = some v :=
  cell?_setCell_some (h.row.cell (by have := h.size; omega))
end

/-- cmp.Less at words. -/
theorem cmpLess_any (x y : Int) (w : World) :
    Calls Tryz.prog 150 #[.int .u32 x, .int .u32 y] w fun e w' => e = .returned (.bool (ltInt x y)) ∧ w' = w := by
  go_enter Tryz.func150, Tryz.ntmps150
  go_wp2
  go_ret
  simp [ltInt]

end Go.Proofs.YtokmmloakahkhaaGreat
