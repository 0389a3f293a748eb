/-
  Both BodySafe.
-/
import Derived.Test.YtehjhdihaloalaaSafe
import Derived.Test.YtehjhdihaloalaaTerms
import Derived.Test.YtehjhdihaloalaaImplBound
namespace Go.Proofs.Ytehjhdihaloalaa
open Go.RowKit

def litFine (l : LLit) : Bool := decide (0 ≤ l.1 ∧ l.1 ≤ 3) && l.2.2.all termOk
def bodySafe (ls : List LLit) : Bool := (ls.all litFine && decide (ls.length ≤ 4)) && ruleSafe ((0, []), ls)
theorem litFine_kind {l : LLit} (h : ¬ (0 ≤ l.1 ∧ l.1 ≤ 3)) : litFine l = false := by simp [litFine, h]
theorem litFine_terms {l : LLit} (h : l.2.2.all termOk = false) : litFine l = false := by unfold litFine; rw [h, Bool.and_false]
theorem litFine_yes {l : LLit} (h : 0 ≤ l.1 ∧ l.1 ≤ 3) (h2 : l.2.2.all termOk = true) : litFine l = true := by unfold litFine; rw [h2, decide_eq_true h]; rfl
theorem ruleMask_body (ls : List LLit) : ruleMask ((0, []), ls) = bodyMask ls := by simp [ruleMask, maskOf, maskFrom]
theorem bodySafe_not {ls : List LLit} {k : Nat} (hk : k < ls.length) (e : litFine ls[k] = false) : bodySafe ls = false := by
  unfold bodySafe
  rw [all_not hk e]
  rfl
theorem l2Terms_is {xs : List Int} {b : Bool} (e : xs.all termOk = b) (v : Value) (B : Nat) (w : World) (h : RdInts w B v xs) (hr : xs.length ≤ 1048576) :
    Calls Try.prog 75 #[v] w fun e w' => e = .returned (.bool b) ∧ w = w' := e ▸ l2Terms_any v xs B w h hr

set_option maxHeartbeats 1000000 in
set_option maxRecDepth 100000 in
theorem specBodySafe_any (v : Value) (ls : List LLit) (w : World) (h : RdLits w w.heap.size v ls) (hr : ls.length + totL ls ≤ 1048576) :
    Calls Try.prog 51 #[v] w fun e w' => e = .returned (.bool (bodySafe ls)) ∧ Below w.heap.size w w' := by
  have H := Lib.hid h
  obtain ⟨A, c, rfl, hc, _⟩ := h
  obtain ⟨R, hR⟩ : ∃ R, R = bodySafe ls := ⟨_, rfl⟩
  rw [← hR]
  have HR := Lib.hid hR
  clear hR
  go_enter Try.func51, Try.ntmps51
  go_wp2_with (fail)
  go_loop [3] (fun i => ∃ k : Nat, k ≤ ls.length ∧ i = .int .i64 k ∧ AllTo litFine ls k) (fun i => ls.length - (intOf i).toNat)
  case atStart => exact ⟨0, Nat.zero_le _, rfl, AllTo.start⟩
  case round =>
    obtain ⟨k, hk, rfl, hs⟩ := hrel
    by_cases hlt : k < ls.length
    · obtain ⟨b, o, u0, u1, u2, rfl, hbB, k0, k1, k2, rfl, rfl, p3⟩ := H.out.get hlt
      have HA := Lib.hid p3
      obtain ⟨A3, c3, rfl, hc3, _⟩ := p3
      have hle := len_le_totL ls k hlt
      by_cases he : 0 ≤ ls[k].1 ∧ ls[k].1 ≤ 3
      · have HK := Lib.hid (l1In_yes he)
        by_cases ht : ls[k].2.2.all termOk = true
        · have HS := Lib.hid (hs.step hlt (litFine_yes he ht))
          have HT := Lib.hid (l2Terms_is ht _ _ w HA.out (by omega))
          clear hs he ht
          go_wp2_with (first | (go_at_call 63; refine (HK.out _).mono ?_; rintro e w' ⟨rfl, rfl⟩) | (go_at_call 75; refine HT.out.mono ?_; rintro e w' ⟨rfl, rfl⟩))
          go_round
          case rel => exact ⟨k + 1, by omega, by go_num, HS.out⟩
          case measure => simp [intOf]; omega
        · have ht' : ls[k].2.2.all termOk = false := by simpa using ht
          have HE := Lib.hid (bodySafe_not hlt (litFine_terms ht'))
          have HT := Lib.hid (l2Terms_is ht' _ _ w HA.out (by omega))
          clear hs he ht ht'
          go_wp2_with (first | (go_at_call 63; refine (HK.out _).mono ?_; rintro e w' ⟨rfl, rfl⟩) | (go_at_call 75; refine HT.out.mono ?_; rintro e w' ⟨rfl, rfl⟩))
          go_ret
          exact ⟨ret_bool (by rw [HR.out, HE.out]), Below.refl _ _⟩
      · have HE := Lib.hid (bodySafe_not hlt (litFine_kind he))
        have HK := Lib.hid (l1In_no he)
        clear hs he
        go_wp2_with (go_at_call 63; refine (HK.out _).mono ?_; rintro e w' ⟨rfl, rfl⟩)
        go_ret
        exact ⟨ret_bool (by rw [HR.out, HE.out]), Below.refl _ _⟩
    · have HE := Lib.hid (hs.done (by omega))
      clear hs
      by_cases hl : ls.length ≤ 4
      · have hlI : (ls.length : Int) ≤ 4 := by omega
        have HY := Lib.hid (show R = ruleSafe ((0, []), ls) by rw [HR.out]; unfold bodySafe; rw [HE.out, decide_eq_true hl]; rfl)
        have HC := Lib.hid (specRuleSafe_any (.agg #[.int .i64 0, .slice none 0 0, .slice A ls.length c]) ((0, []), ls) w ⟨_, _, rfl, ⟨none, 0, rfl, Nat.zero_le _, fun h => absurd h (by simp)⟩, H.out⟩ (by simpa [szR] using hr))
        go_wp2_with (go_at_call 87; refine HC.out.mono ?_; rintro e w1 ⟨rfl, hb1⟩; have HB := Lib.hid hb1; clear hb1)
        go_ret
        exact ⟨ret_bool HY.out.symm, HB.out⟩
      · have hlI : ¬ (ls.length : Int) ≤ 4 := by omega
        have HY := Lib.hid (show R = false by rw [HR.out]; unfold bodySafe; rw [decide_eq_false hl, Bool.and_false]; rfl)
        clear hl
        go_wp2_with (fail)
        go_ret
        exact ⟨ret_bool HY.out.symm, Below.refl _ _⟩

set_option maxHeartbeats 1000000 in
set_option maxRecDepth 100000 in
theorem implBodySafe_any (v : Value) (ls : List LLit) (w : World) (h : RdLits w w.heap.size v ls) (hr : ls.length + totL ls ≤ 1048576) :
    Calls Try.prog 53 #[v] w fun e w' => e = .returned (.bool (bodySafe ls)) ∧ Below w.heap.size w w' := by
  have H := Lib.hid h
  obtain ⟨A, c, rfl, hc, _⟩ := h
  obtain ⟨R, hR⟩ : ∃ R, R = bodySafe ls := ⟨_, rfl⟩
  rw [← hR]
  have HR := Lib.hid hR
  clear hR
  by_cases hl : ls.length ≤ 4
  · have hlI : ¬ 4 < (ls.length : Int) := by omega
    have HL := Lib.hid hl
    go_enter Try.func53, Try.ntmps53
    go_wp2_with (fail)
    go_loopw [4, 10] (fun _ i wr => ∃ k : Nat, k ≤ ls.length ∧ i = .int .i64 k ∧ AllTo litFine ls k ∧ Below w.heap.size w wr) (fun _ i _ => ls.length - (intOf i).toNat)
    case atStart => exact ⟨0, Nat.zero_le _, rfl, AllTo.start, Below.refl _ _⟩
    case round =>
      obtain ⟨k, hk, rfl, hs, hbe⟩ := hrel
      by_cases hlt : k < ls.length
      · obtain ⟨b, o, u0, u1, u2, rfl, hbB, k0, k1, k2, rfl, rfl, p3⟩ := (H.out.on hbe).get hlt
        have HA := Lib.hid p3
        obtain ⟨A3, c3, rfl, hc3, _⟩ := p3
        have hle := len_le_totL ls k hlt
        by_cases h0 : ls[k].1 < 0
        · have HE := Lib.hid (bodySafe_not hlt (litFine_kind (by omega)))
          clear hs
          go_wp2_with (fail)
          go_ret
          exact ⟨ret_bool (by rw [HR.out, HE.out]), bthen hbe (below1 _ _)⟩
        · have hd : decide (ls[k].1 < 0) = false := by simpa using h0
          by_cases h3 : 3 < ls[k].1
          · have HE := Lib.hid (bodySafe_not hlt (litFine_kind (by omega)))
            clear hs
            go_wp2_with (fail)
            go_ret
            exact ⟨ret_bool (by rw [HR.out, HE.out]), bthen hbe (below1 _ _)⟩
          · have hd3 : decide (3 < ls[k].1) = false := by simpa using h3
            by_cases ht : ls[k].2.2.all termOk = true
            · have HS := Lib.hid (hs.step hlt (litFine_yes (by omega) ht))
              have HT := Lib.hid (fun W (hW : Below wr.heap.size wr W) => areTerms_is ht _ _ W (HA.out.on hW) (by omega))
              clear hs ht
              go_wp2_with (go_at_call 78; refine (HT.out _ (below1 _ _)).mono ?_; rintro e w' ⟨rfl, rfl⟩)
              go_roundw
              case rel => exact ⟨k + 1, by omega, by go_num, HS.out, bthen hbe (below1 _ _)⟩
              case measure => simp [intOf]; omega
            · have ht' : ls[k].2.2.all termOk = false := by simpa using ht
              have HE := Lib.hid (bodySafe_not hlt (litFine_terms ht'))
              have HT := Lib.hid (fun W (hW : Below wr.heap.size wr W) => areTerms_is ht' _ _ W (HA.out.on hW) (by omega))
              clear hs ht ht'
              go_wp2_with (go_at_call 78; refine (HT.out _ (below1 _ _)).mono ?_; rintro e w' ⟨rfl, rfl⟩)
              go_ret
              exact ⟨ret_bool (by rw [HR.out, HE.out]), bthen hbe (below1 _ _)⟩
      · have HE := Lib.hid (hs.done (by omega))
        have HY := Lib.hid (show R = ruleSafe ((0, []), ls) by rw [HR.out]; unfold bodySafe; rw [HE.out, decide_eq_true HL.out]; rfl)
        have HZ := Lib.hid (show ruleSafe ((0, []), ls) = (bits .andNot .u64 ((bodyMask ls : Nat) : Int) ((yesMask ls : Nat) : Int) == 0) by unfold ruleSafe; rw [ruleMask_body])
        clear hs
        go_wp2_with (fail)
        refine (bodyVars_any _ ls _ (H.out.on hbe) (by omega) (by omega)).mono ?_
        rintro e w1 ⟨rfl, hb1⟩
        have B1 := bthen hbe hb1
        go_wp2_with (fail)
        refine (yesVars_any _ ls _ (H.out.on B1) (by omega) (by omega)).mono ?_
        rintro e w2 ⟨rfl, hb2⟩
        have B2 := bthen B1 hb2
        go_wp2_with (fail)
        go_ret
        exact ⟨ret_bool (by rw [HY.out, HZ.out]), B2⟩
  · have hlI : 4 < (ls.length : Int) := by omega
    have HY := Lib.hid (show R = false by rw [HR.out]; unfold bodySafe; rw [decide_eq_false hl, Bool.and_false]; rfl)
    clear hl
    go_enter Try.func53, Try.ntmps53
    go_wp2_with (fail)
    go_ret
    exact ⟨ret_bool HY.out.symm, Below.refl _ _⟩

end Go.Proofs.Ytehjhdihaloalaa
