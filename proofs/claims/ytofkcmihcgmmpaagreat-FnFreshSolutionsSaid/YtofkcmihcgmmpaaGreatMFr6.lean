/-
  Texts that the claim's last one imports, laid together: part 6 of 13. No condition of its own.
-/
import Derived.Laws.BitsAllLaws
import Derived.Deep.RegionLaw
import Derived.Deep.DeepCutAuto
import Derived.Test.YtofkcmihcgmmpaaGreatMFr1
import Derived.Test.YtofkcmihcgmmpaaGreatMFr2
import Derived.Test.YtofkcmihcgmmpaaGreatMFr3
import Derived.Test.YtofkcmihcgmmpaaGreatMFr4
import Derived.Test.YtofkcmihcgmmpaaGreatMFr5
/-
  The walks of the program's words of what variables have: bindingShift, with, constant, value.
-/
namespace Go.Proofs.YtofkcmihcgmmpaaGreat
open Go.RowKit

theorem shift_any (v : Int) (h0 : 0 ≤ v) (h1 : v ≤ 3) (w : World) : Calls Tryz.prog 108 #[.int .i64 v] w fun e w' => e = .returned (.int .i64 ((3 - v) * 4)) ∧ w = w' := by
  go_enter Tryz.func108, Tryz.ntmps108
  go_wp2
  go_ret
  exact ⟨rfl, rfl⟩

theorem shl_word {v : Nat} (hv : v < 4) {c : Int} (hc : -1 ≤ c ∧ c ≤ 5) : (c + 1) * 2 ^ ((3 - v) * 4) % 4294967296 = ((shlB v c : Nat) : Int) := by
  unfold shlB
  match v, hv with
  | 0, _ => show (c + 1) * 4096 % 4294967296 = (((c + 1).toNat * 4096 : Nat) : Int); omega
  | 1, _ => show (c + 1) * 256 % 4294967296 = (((c + 1).toNat * 256 : Nat) : Int); omega
  | 2, _ => show (c + 1) * 16 % 4294967296 = (((c + 1).toNat * 16 : Nat) : Int); omega
  | 3, _ => show (c + 1) * 1 % 4294967296 = (((c + 1).toNat * 1 : Nat) : Int); omega
theorem or_word32 {a b : Nat} (ha : a < 65536) (hb : b < 65536) : bits .or .u32 (a : Int) (b : Int) = ((a ||| b : Nat) : Int) := u32_or_nat a b (by omega) (by omega)
theorem field_word {m v : Nat} (hm : m < 65536) : bits .and .u32 ((m : Int) / 2 ^ ((3 - v) * 4)) 15 = ((fieldB m v : Nat) : Int) := by
  have h := u32_and_nat (m / 2 ^ ((3 - v) * 4)) 15 (Nat.lt_of_le_of_lt (Nat.div_le_self _ _) (by omega)) (by omega)
  have e : (15 : Nat) = 2 ^ 4 - 1 := rfl
  rw [e, Nat.and_two_pow_sub_one_eq_mod] at h
  simpa [fieldB] using h
theorem fieldB_lt (m v : Nat) : fieldB m v < 16 := Nat.mod_lt _ (by omega)

theorem with_any (m v : Nat) (c : Int) (hm : m < 65536) (hv : v < 4) (hc : -1 ≤ c ∧ c ≤ 5) (w : World) :
    Calls Tryz.prog 151 #[.int .u32 (m : Nat), .int .i64 (v : Nat), .int .i64 c] w fun e w' => e = .returned (.int .u32 ((m ||| shlB v c : Nat) : Int)) ∧ w = w' := by
  go_enter Tryz.func151, Tryz.ntmps151
  go_wp2_with (go_at_call 108; refine (shift_any _ (by omega) (by omega) _).mono ?_; rintro e w' ⟨rfl, rfl⟩)
  go_ret
  exact ⟨ret_int (by rw [shl_word hv hc, or_word32 hm (shlB_lt hv hc)]), rfl⟩

theorem constant_any (m v : Nat) (hm : m < 65536) (hv : v < 4) (w : World) :
    Calls Tryz.prog 81 #[.int .u32 (m : Nat), .int .i64 (v : Nat)] w fun e w' => e = .returned (.int .i64 ((fieldB m v : Nat) - 1)) ∧ w = w' := by
  go_enter Tryz.func81, Tryz.ntmps81
  go_wp2_with (go_at_call 108; refine (shift_any _ (by omega) (by omega) _).mono ?_; rintro e w' ⟨rfl, rfl⟩)
  go_ret
  exact ⟨ret_int (by have := fieldB_lt m v; rw [field_word hm, IntWalk.wrap64_in (fieldB m v : Nat) (by omega), IntWalk.wrap64_in _ (by omega)]), rfl⟩

theorem value_any (bs : List Int) (hb : bindOk bs = true) (t : Int) (ht : termOk t = true) (w : World) :
    Calls Tryz.prog 148 #[.int .u32 (encB bs : Nat), .int .i64 t] w fun e w' => e = .returned (.int .i64 (termVal bs t)) ∧ w = w' := by
  have htb := termOk_at ht
  by_cases h1 : isVarB t = true
  · have hv : -4 ≤ t ∧ t ≤ -1 := by simpa [isVarB] using h1
    obtain ⟨v, hv4, rfl⟩ : ∃ v : Nat, v < 4 ∧ t = -1 - (v : Int) := ⟨(-1 - t).toNat, by omega, by omega⟩
    have HE := Lib.hid (show ((fieldB (encB bs) v : Nat) : Int) - 1 = termVal bs (-1 - (v : Int)) by
      rw [fieldB_enc hb hv4, termVal_var (by omega)]
      congr 1
      omega)
    have HN := Lib.hid (show -1 - (-1 - (v : Int)) = (v : Int) by omega)
    have hlt := encB_lt hb
    generalize encB bs = m at HE hlt
    go_enter Tryz.func148, Tryz.ntmps148
    go_wp2_with (first | (go_at_call 88; refine (isVar_is h1 _).mono ?_; rintro e w' ⟨rfl, rfl⟩) | (go_at_call 89; refine (varNumber_any _ hv.1 hv.2 _).mono ?_; rintro e w' ⟨rfl, rfl⟩; rw [HN.out]) | (go_at_call 81; refine (constant_any _ _ hlt hv4 _).mono ?_; rintro e w' ⟨rfl, rfl⟩))
    go_ret
    exact ⟨ret_int HE.out, rfl⟩
  · have h2 : isVarB t = false := by simpa using h1
    have h0 : 0 ≤ t := by simp [isVarB] at h2; omega
    have HE := Lib.hid (termVal_const (bs := bs) h0).symm
    go_enter Tryz.func148, Tryz.ntmps148
    go_wp2_with (go_at_call 88; refine (isVar_is h2 _).mono ?_; rintro e w' ⟨rfl, rfl⟩)
    go_ret
    exact ⟨ret_int HE.out, rfl⟩

end Go.Proofs.YtofkcmihcgmmpaaGreat
/-
  The walks of bindingOf, values, numbers.
-/
namespace Go.Proofs.YtofkcmihcgmmpaaGreat
open Go.RowKit

theorem bs_getD {bs : List Int} {j : Nat} (hl : bs.length = 4) (hj : j < 4) : bs.getD j (-1) = bs.getD j 0 := by
  rw [List.getD_eq_getElem?_getD, List.getD_eq_getElem?_getD, List.getElem?_eq_getElem (by omega)]
  rfl

theorem make4i (W : World) : (Instr.makeSlice 33 (.int .i64 4) (.int .i64 4)).run Tryz.prog W = .ok (.slice (some ⟨W.heap.size, 0, none⟩) 4 4) (W.alloc (.cells (madeCells #[.int .i64 0] 4) 3)) :=
  run_make_row' (P := Tryz.prog) 33 3 (.int .i64 0) 8 Tryz.underlying33 Tryz.infoInt rfl .i64 .i64 4 (by omega) (by omega) W

set_option maxHeartbeats 400000 in
set_option maxRecDepth 100000 in
theorem numbers_any (bs : List Int) (hb : bindOk bs = true) (w : World) :
    Calls Tryz.prog 46 #[.int .u32 (encB bs : Nat)] w fun e w' => ∃ A' c', e = .returned (.slice A' bs.length c') ∧ OwnInts w' w.heap.size w'.heap.size (.slice A' bs.length c') bs ∧ Below w.heap.size w w' := by
  have hmk := make4i
  have hl := bindOk_len hb
  have HV := Lib.hid (fun v (hv : v < 4) => (show (fieldB (encB bs) v : Nat) - 1 = bs.getD v 0 by rw [fieldB_enc hb hv, bs_getD hl hv]))
  have hm := encB_lt hb
  generalize encB bs = m at HV hm
  have HL := Lib.hid hl
  clear hl
  go_enter Tryz.func46, Tryz.ntmps46
  go_wp2_with (fail)
  go_loopw [4, 8] (fun _ i wr => ∃ k : Nat, k ≤ 4 ∧ i = .int .i64 k ∧ wr.rowIs w.heap.size 3 4 (fun j => if j < k then .int .i64 (bs.getD j 0) else .int .i64 0) ∧ Below w.heap.size w wr)
    (fun _ i _ => 4 - (intOf i).toNat)
  case atStart => exact ⟨0, Nat.zero_le _, rfl, (World.rowIs_made w _ _ _).congr (fun j _ => by simp), (Below.refl _ _).alloc (Nat.le_refl _) _⟩
  case round =>
    obtain ⟨k, hk, rfl, hrow, hb⟩ := hrel
    by_cases hlt : k < 4
    · have hc2 := hrow.cell hlt
      have hf2 := hrow.frozen k
      have HC := Lib.hid (constant_any m k hm hlt)
      have HG := Lib.hid (HV.out k hlt)
      have HR := Lib.hid hrow
      clear hrow
      go_wp2_with (go_at_call 81; refine (HC.out _).mono ?_; rw [HG.out]; rintro e w' ⟨rfl, rfl⟩)
      go_roundw
      case rel =>
        refine ⟨k + 1, by omega, by go_num, (HR.out.set k _).congr (fun j hj => ?_), hb.setCell (Nat.le_refl _) _⟩
        by_cases e : j = k
        · subst e
          simp only [if_true]
          rw [if_pos (by omega)]
          simp
        · rw [if_neg e]
          by_cases h2 : j < k
          · rw [if_pos h2, if_pos (by omega)]
          · rw [if_neg h2, if_neg (by omega)]
      case measure => simp [intOf]; omega
    · have hkn : k = 4 := by omega
      have HO : OwnInts wr w.heap.size wr.heap.size (.slice (some ⟨w.heap.size, 0, none⟩) bs.length bs.length) bs :=
        OwnInts.of_rowIs (by rw [HL.out]; exact hrow.congr (fun j hj => by rw [if_pos (by omega)])) (Nat.le_refl _) hrow.lt (by have := HL.out; unfold maxLen; omega)
      have HH := Lib.hid HO
      clear HO hrow hkn
      go_wp2_with (fail)
      go_ret
      refine ⟨_, _, ?_, HH.out, hb⟩
      rw [HL.out]
      rfl

end Go.Proofs.YtofkcmihcgmmpaaGreat
/-
  The program's Bound.
-/
namespace Go.Proofs.YtofkcmihcgmmpaaGreat
open Go.RowKit

theorem areTerms_is {xs : List Int} {b : Bool} (e : xs.all termOk = b) (v : Value) (B : Nat) (w : World) (h : RdInts w B v xs) (hr : xs.length ≤ 1048576) :
    Calls Tryz.prog 25 #[v] w fun e w' => e = .returned (.bool b) ∧ w = w' := e ▸ areTerms_any v xs B w h hr

end Go.Proofs.YtofkcmihcgmmpaaGreat
/-
  Both BodySafe.
-/
namespace Go.Proofs.YtofkcmihcgmmpaaGreat
open Go.RowKit

def litFine (l : LLit) : Bool := decide (0 ≤ l.1 ∧ l.1 ≤ 3) && l.2.2.all termOk
def bodySafe (ls : List LLit) : Bool := (ls.all litFine && decide (ls.length ≤ 4)) && ruleSafe ((0, []), ls)
theorem litFine_kind {l : LLit} (h : ¬ (0 ≤ l.1 ∧ l.1 ≤ 3)) : litFine l = false := by simp [litFine, h]
theorem litFine_terms {l : LLit} (h : l.2.2.all termOk = false) : litFine l = false := by unfold litFine; rw [h, Bool.and_false]
theorem litFine_yes {l : LLit} (h : 0 ≤ l.1 ∧ l.1 ≤ 3) (h2 : l.2.2.all termOk = true) : litFine l = true := by unfold litFine; rw [h2, decide_eq_true h]; rfl
theorem ruleMask_body (ls : List LLit) : ruleMask ((0, []), ls) = bodyMask ls := by simp [ruleMask, maskOf, maskFrom]
theorem bodySafe_not {ls : List LLit} {k : Nat} (hk : k < ls.length) (e : litFine ls[k] = false) : bodySafe ls = false := by
  unfold bodySafe
  rw [all_not hk e]
  rfl
theorem l2Terms_is {xs : List Int} {b : Bool} (e : xs.all termOk = b) (v : Value) (B : Nat) (w : World) (h : RdInts w B v xs) (hr : xs.length ≤ 1048576) :
    Calls Tryz.prog 29 #[v] w fun e w' => e = .returned (.bool b) ∧ w = w' := e ▸ l2Terms_any v xs B w h hr

set_option maxHeartbeats 1000000 in
set_option maxRecDepth 100000 in
theorem specBodySafe_any (v : Value) (ls : List LLit) (w : World) (h : RdLits w w.heap.size v ls) (hr : ls.length + totL ls ≤ 1048576) :
    Calls Tryz.prog 9 #[v] w fun e w' => e = .returned (.bool (bodySafe ls)) ∧ Below w.heap.size w w' := by
  have H := Lib.hid h
  obtain ⟨A, c, rfl, hc, _⟩ := h
  obtain ⟨R, hR⟩ : ∃ R, R = bodySafe ls := ⟨_, rfl⟩
  rw [← hR]
  have HR := Lib.hid hR
  clear hR
  go_enter Tryz.func9, Tryz.ntmps9
  go_wp2_with (fail)
  go_loop [3] (fun i => ∃ k : Nat, k ≤ ls.length ∧ i = .int .i64 k ∧ AllTo litFine ls k) (fun i => ls.length - (intOf i).toNat)
  case atStart => exact ⟨0, Nat.zero_le _, rfl, AllTo.start⟩
  case round =>
    obtain ⟨k, hk, rfl, hs⟩ := hrel
    by_cases hlt : k < ls.length
    · obtain ⟨b, o, u0, u1, u2, rfl, hbB, k0, k1, k2, rfl, rfl, p3⟩ := H.out.get hlt
      have HA := Lib.hid p3
      obtain ⟨A3, c3, rfl, hc3, _⟩ := p3
      have hle := len_le_totL ls k hlt
      by_cases he : 0 ≤ ls[k].1 ∧ ls[k].1 ≤ 3
      · have HK := Lib.hid (l1In_yes he)
        by_cases ht : ls[k].2.2.all termOk = true
        · have HS := Lib.hid (hs.step hlt (litFine_yes he ht))
          have HT := Lib.hid (l2Terms_is ht _ _ w HA.out (by omega))
          clear hs he ht
          go_wp2_with (first | (go_at_call 28; refine (HK.out _).mono ?_; rintro e w' ⟨rfl, rfl⟩) | (go_at_call 29; refine HT.out.mono ?_; rintro e w' ⟨rfl, rfl⟩))
          go_round
          case rel => exact ⟨k + 1, by omega, by go_num, HS.out⟩
          case measure => simp [intOf]; omega
        · have ht' : ls[k].2.2.all termOk = false := by simpa using ht
          have HE := Lib.hid (bodySafe_not hlt (litFine_terms ht'))
          have HT := Lib.hid (l2Terms_is ht' _ _ w HA.out (by omega))
          clear hs he ht ht'
          go_wp2_with (first | (go_at_call 28; refine (HK.out _).mono ?_; rintro e w' ⟨rfl, rfl⟩) | (go_at_call 29; refine HT.out.mono ?_; rintro e w' ⟨rfl, rfl⟩))
          go_ret
          exact ⟨ret_bool (by rw [HR.out, HE.out]), Below.refl _ _⟩
      · have HE := Lib.hid (bodySafe_not hlt (litFine_kind he))
        have HK := Lib.hid (l1In_no he)
        clear hs he
        go_wp2_with (go_at_call 28; refine (HK.out _).mono ?_; rintro e w' ⟨rfl, rfl⟩)
        go_ret
        exact ⟨ret_bool (by rw [HR.out, HE.out]), Below.refl _ _⟩
    · have HE := Lib.hid (hs.done (by omega))
      clear hs
      by_cases hl : ls.length ≤ 4
      · have hlI : (ls.length : Int) ≤ 4 := by omega
        have HY := Lib.hid (show R = ruleSafe ((0, []), ls) by rw [HR.out]; unfold bodySafe; rw [HE.out, decide_eq_true hl]; rfl)
        have HC := Lib.hid (specRuleSafe_any (.agg #[.int .i64 0, .slice none 0 0, .slice A ls.length c]) ((0, []), ls) w ⟨_, _, rfl, ⟨none, 0, rfl, Nat.zero_le _, fun h => absurd h (by simp)⟩, H.out⟩ (by simpa [szR] using hr))
        go_wp2_with (go_at_call 30; refine HC.out.mono ?_; rintro e w1 ⟨rfl, hb1⟩; have HB := Lib.hid hb1; clear hb1)
        go_ret
        exact ⟨ret_bool HY.out.symm, HB.out⟩
      · have hlI : ¬ (ls.length : Int) ≤ 4 := by omega
        have HY := Lib.hid (show R = false by rw [HR.out]; unfold bodySafe; rw [decide_eq_false hl, Bool.and_false]; rfl)
        clear hl
        go_wp2_with (fail)
        go_ret
        exact ⟨ret_bool HY.out.symm, Below.refl _ _⟩

set_option maxHeartbeats 1000000 in
set_option maxRecDepth 100000 in
theorem implBodySafe_any (v : Value) (ls : List LLit) (w : World) (h : RdLits w w.heap.size v ls) (hr : ls.length + totL ls ≤ 1048576) :
    Calls Tryz.prog 8 #[v] w fun e w' => e = .returned (.bool (bodySafe ls)) ∧ Below w.heap.size w w' := by
  have H := Lib.hid h
  obtain ⟨A, c, rfl, hc, _⟩ := h
  obtain ⟨R, hR⟩ : ∃ R, R = bodySafe ls := ⟨_, rfl⟩
  rw [← hR]
  have HR := Lib.hid hR
  clear hR
  by_cases hl : ls.length ≤ 4
  · have hlI : ¬ 4 < (ls.length : Int) := by omega
    have HL := Lib.hid hl
    go_enter Tryz.func8, Tryz.ntmps8
    go_wp2_with (fail)
    go_loopw [4, 10] (fun _ i wr => ∃ k : Nat, k ≤ ls.length ∧ i = .int .i64 k ∧ AllTo litFine ls k ∧ Below w.heap.size w wr) (fun _ i _ => ls.length - (intOf i).toNat)
    case atStart => exact ⟨0, Nat.zero_le _, rfl, AllTo.start, Below.refl _ _⟩
    case round =>
      obtain ⟨k, hk, rfl, hs, hbe⟩ := hrel
      by_cases hlt : k < ls.length
      · obtain ⟨b, o, u0, u1, u2, rfl, hbB, k0, k1, k2, rfl, rfl, p3⟩ := (H.out.on hbe).get hlt
        have HA := Lib.hid p3
        obtain ⟨A3, c3, rfl, hc3, _⟩ := p3
        have hle := len_le_totL ls k hlt
        by_cases h0 : ls[k].1 < 0
        · have HE := Lib.hid (bodySafe_not hlt (litFine_kind (by omega)))
          clear hs
          go_wp2_with (fail)
          go_ret
          exact ⟨ret_bool (by rw [HR.out, HE.out]), bthen hbe (below1 _ _)⟩
        · have hd : decide (ls[k].1 < 0) = false := by simpa using h0
          by_cases h3 : 3 < ls[k].1
          · have HE := Lib.hid (bodySafe_not hlt (litFine_kind (by omega)))
            clear hs
            go_wp2_with (fail)
            go_ret
            exact ⟨ret_bool (by rw [HR.out, HE.out]), bthen hbe (below1 _ _)⟩
          · have hd3 : decide (3 < ls[k].1) = false := by simpa using h3
            by_cases ht : ls[k].2.2.all termOk = true
            · have HS := Lib.hid (hs.step hlt (litFine_yes (by omega) ht))
              have HT := Lib.hid (fun W (hW : Below wr.heap.size wr W) => areTerms_is ht _ _ W (HA.out.on hW) (by omega))
              clear hs ht
              go_wp2_with (go_at_call 25; refine (HT.out _ (below1 _ _)).mono ?_; rintro e w' ⟨rfl, rfl⟩)
              go_roundw
              case rel => exact ⟨k + 1, by omega, by go_num, HS.out, bthen hbe (below1 _ _)⟩
              case measure => simp [intOf]; omega
            · have ht' : ls[k].2.2.all termOk = false := by simpa using ht
              have HE := Lib.hid (bodySafe_not hlt (litFine_terms ht'))
              have HT := Lib.hid (fun W (hW : Below wr.heap.size wr W) => areTerms_is ht' _ _ W (HA.out.on hW) (by omega))
              clear hs ht ht'
              go_wp2_with (go_at_call 25; refine (HT.out _ (below1 _ _)).mono ?_; rintro e w' ⟨rfl, rfl⟩)
              go_ret
              exact ⟨ret_bool (by rw [HR.out, HE.out]), bthen hbe (below1 _ _)⟩
      · have HE := Lib.hid (hs.done (by omega))
        have HY := Lib.hid (show R = ruleSafe ((0, []), ls) by rw [HR.out]; unfold bodySafe; rw [HE.out, decide_eq_true HL.out]; rfl)
        have HZ := Lib.hid (show ruleSafe ((0, []), ls) = (bits .andNot .u64 ((bodyMask ls : Nat) : Int) ((yesMask ls : Nat) : Int) == 0) by unfold ruleSafe; rw [ruleMask_body])
        clear hs
        go_wp2_with (fail)
        refine (bodyVars_any _ ls _ (H.out.on hbe) (by omega) (by omega)).mono ?_
        rintro e w1 ⟨rfl, hb1⟩
        have B1 := bthen hbe hb1
        go_wp2_with (fail)
        refine (yesVars_any _ ls _ (H.out.on B1) (by omega) (by omega)).mono ?_
        rintro e w2 ⟨rfl, hb2⟩
        have B2 := bthen B1 hb2
        go_wp2_with (fail)
        go_ret
        exact ⟨ret_bool (by rw [HY.out, HZ.out]), B2⟩
  · have hlI : 4 < (ls.length : Int) := by omega
    have HY := Lib.hid (show R = false by rw [HR.out]; unfold bodySafe; rw [decide_eq_false hl, Bool.and_false]; rfl)
    clear hl
    go_enter Tryz.func8, Tryz.ntmps8
    go_wp2_with (fail)
    go_ret
    exact ⟨ret_bool HY.out.symm, Below.refl _ _⟩

end Go.Proofs.YtofkcmihcgmmpaaGreat
/-
  The specification's HeadOf.
-/
namespace Go.Proofs.YtofkcmihcgmmpaaGreat
open Go.RowKit

theorem zeroI (w : World) (lo hi : Nat) : OwnInts w lo hi (.slice none 0 0) [] := ⟨World.ownsRow_nil _ _ _ _, fun g hg => by cases hg⟩

set_option maxHeartbeats 2000000 in
set_option maxRecDepth 100000 in
theorem specHeadOf_any (v v2 : Value) (a : LFact) (bs : List Int) (w : World) (h : RdFact w w.heap.size v a) (h2 : RdInts w w.heap.size v2 bs) (hr : a.2.length ≤ 1048576) (hr2 : bs.length ≤ 1048576) :
    Calls Tryz.prog 86 #[v, v2] w fun e w' => ∃ A' c', e = .returned (.tuple #[.agg #[.int .i64 (headOf a bs).1, .slice A' (headOf a bs).2.length c'], .bool (headOk a bs)]) ∧ OwnInts w' w.heap.size w'.heap.size (.slice A' (headOf a bs).2.length c') (headOf a bs).2 ∧ Below w.heap.size w w' := by
  obtain ⟨i0, hi0, hz0, hz1, hz2⟩ := info_parts Tryz.infoInt
  obtain ⟨u, rfl, h⟩ := h
  have H := Lib.hid h
  have H2 := Lib.hid h2
  obtain ⟨A, c, rfl, hc, _⟩ := h
  obtain ⟨A2, c2, rfl, hc2, _⟩ := h2
  obtain ⟨F, hF⟩ : ∃ F, F = headOf a bs := ⟨_, rfl⟩
  obtain ⟨ok, hok⟩ : ∃ ok, ok = headOk a bs := ⟨_, rfl⟩
  rw [← hF, ← hok]
  have HF := Lib.hid hF
  have HK := Lib.hid hok
  clear hF hok
  -- the worlds ahead
  have X0 : ∀ T1 c1 T2 c2, Blk ((w.alloc (Obj.cells c1 T1)).alloc (Obj.cells c2 T2)) w.heap.size T1 c1 := fun T1 c1 T2 c2 => (Blk.new w T1 c1).alloc _
  have X1 : ∀ o T2 c2, Blk ((w.alloc o).alloc (Obj.cells c2 T2)) (w.heap.size + 1) T2 c2 := fun o T2 c2 => by simpa using Blk.new (w.alloc o) T2 c2
  by_cases hb : bindOk bs = true
  · have L1 := Lib.hid (fun W (hW : Below w.heap.size w W) => l3Bind_is hb (.slice A2 bs.length c2) w.heap.size W (H2.out.below hW (Nat.le_refl _)) hr2)
    by_cases ht : a.2.all termOk = true
    · have L2 := Lib.hid (fun W (hW : Below w.heap.size w W) => l2Terms_is ht (.slice A a.2.length c) w.heap.size W (H.out.below hW (Nat.le_refl _)) hr)
      have HB4 := Lib.hid (bindOk_len hb)
      have HB := Lib.hid hb
      have HT := Lib.hid ht
      have HTK := Lib.hid (show ∀ k (hk : k < a.2.length), termOk a.2[k] = true ∧ -1 ≤ termVal bs a.2[k] ∧ termVal bs a.2[k] ≤ 5 from fun k hk => by
        have := List.all_eq_true.1 ht _ (List.getElem_mem hk)
        exact ⟨this, termVal_bounds hb this⟩)
      obtain ⟨ys, hys⟩ : ∃ ys, ys = a.2.map (termVal bs) := ⟨_, rfl⟩
      have HY := Lib.hid hys
      have HYL := Lib.hid (show ys.length = a.2.length by rw [hys]; simp)
      have HYK := Lib.hid (show ∀ k (hk : k < a.2.length), ys.take (k + 1) = ys.take k ++ [termVal bs a.2[k]] from fun k hk => by
        rw [take_snoc ys k (by rw [hys]; simpa using hk)]
        simp [hys])
      clear hb ht hys
      go_enter Tryz.func86, Tryz.ntmps86
      go_wp2_with (fail)
      have x0 := X0 36 #[.int .i64 a.1, .slice A a.2.length c] 35 #[.int .i64 0, .slice none 0 0]
      have x1 := X1 (Obj.cells #[.int .i64 a.1, .slice A a.2.length c] 36) 35 #[.int .i64 0, .slice none 0 0]
      obtain ⟨w2, hw2⟩ : ∃ w2, w2 = ((w.alloc (Obj.cells #[Value.int IntKind.i64 a.1, Value.slice A a.2.length c] 36)).alloc (Obj.cells #[Value.int IntKind.i64 0, Value.slice none 0 0] 35)) := ⟨_, rfl⟩
      have B2 : Below w.heap.size w w2 := by rw [hw2]; exact below2 _ _ _
      have hs2 : w.heap.size + 1 < w2.heap.size := by rw [hw2]; simp
      rw [← hw2] at x0 x1 ⊢
      clear hw2 X0 X1
      have q00 : w2.cell? ⟨w.heap.size, 0, none⟩ = some (.int .i64 a.1) := x0.cell 0
      have q01 : w2.cell? ⟨w.heap.size, 1, none⟩ = some (.slice A a.2.length c) := x0.cell 1
      refine (L1.out _ B2).mono ?_
      rintro e w' ⟨rfl, rfl⟩
      go_wp2_with (fail)
      refine (L2.out _ B2).mono ?_
      rintro e w' ⟨rfl, rfl⟩
      go_wp2_with (fail)
      have x2 : Blk (w2.alloc (Obj.cells #[Value.int IntKind.i64 a.1, Value.slice none 0 0] 35)) w2.heap.size 35 #[.int .i64 a.1, .slice none 0 0] := Blk.new _ _ _
      have R0 : Below w.heap.size w (w2.alloc (Obj.cells #[Value.int IntKind.i64 a.1, Value.slice none 0 0] 35)) ∧ Blk (w2.alloc (Obj.cells #[Value.int IntKind.i64 a.1, Value.slice none 0 0] 35)) w.heap.size 36 #[.int .i64 a.1, .slice A a.2.length c] ∧ Blk (w2.alloc (Obj.cells #[Value.int IntKind.i64 a.1, Value.slice none 0 0] 35)) (w.heap.size + 1) 35 #[.int .i64 0, .slice none 0 0] := ⟨bthen B2 (below1 _ _), x0.alloc _, x1.alloc _⟩
      clear x0 x1 q00 q01
      go_loopw [7, 8] (fun i _ wr => ∃ (k : Nat) (A' : Option Addr) (c' : Nat), k ≤ a.2.length ∧ i = .int .i64 k ∧ (ys.take k).all constOk = true ∧ OwnInts wr (w2.heap.size + 1) wr.heap.size (.slice A' (ys.take k).length c') (ys.take k) ∧
          Blk wr w2.heap.size 35 #[.int .i64 a.1, .slice A' (ys.take k).length c'] ∧ (Below w.heap.size w wr ∧ Blk wr w.heap.size 36 #[.int .i64 a.1, .slice A a.2.length c] ∧ Blk wr (w.heap.size + 1) 35 #[.int .i64 0, .slice none 0 0])) (fun i _ _ => a.2.length - (intOf i).toNat)
      case atStart => exact ⟨0, none, 0, Nat.zero_le _, rfl, rfl, zeroI _ _ _, x2, R0⟩
      case round =>
        obtain ⟨k, A', c', hk, rfl, hs, ho, y2, hbe, y0, y1⟩ := hrel
        have hln : (ys.take k).length ≤ k := by simp; omega
        have q00 : wr.cell? ⟨w.heap.size, 0, none⟩ = some (.int .i64 a.1) := y0.cell 0
        have q01 : wr.cell? ⟨w.heap.size, 1, none⟩ = some (.slice A a.2.length c) := y0.cell 1
        by_cases hlt : k < a.2.length
        · have hre := H.out.below hbe (Nat.le_refl _)
          obtain ⟨A3, c3, e3, _, hx⟩ := hre
          injection e3 with e3 _ e4
          subst e3 e4
          obtain ⟨b, o, rfl, hbB, hx⟩ := hx (by omega)
          have hck : wr.cell? ⟨b, o + k, none⟩ = some (.int .i64 a.2[k]) := hx k hlt
          obtain ⟨htk, htl, hth⟩ := HTK.out k hlt
          have T1 := Lib.hid (l3Term_any (.slice A2 bs.length c2) bs a.2[k] w.heap.size wr (H2.out.below hbe (Nat.le_refl _)) HB4.out htk)
          have HS := Lib.hid (HYK.out k hlt)
          clear hx
          obtain ⟨zs, hzs⟩ : ∃ zs, zs = ys.take k := ⟨_, rfl⟩
          rw [← hzs] at ho hln y2 hs
          have HZ := Lib.hid hzs
          clear hzs
          obtain ⟨t, htv⟩ : ∃ t, t = termVal bs a.2[k] := ⟨_, rfl⟩
          rw [← htv] at T1 HS htl hth
          have HTV := Lib.hid htv
          clear htv htk
          have HP := Lib.hid (And.intro ho (And.intro hbe (And.intro y0 (And.intro y1 y2))))
          have c20 : wr.cell? ⟨w2.heap.size, 0, none⟩ = some (.int .i64 a.1) := y2.cell 0
          have c21 : wr.cell? ⟨w2.heap.size, 1, none⟩ = some (.slice A' zs.length c') := y2.cell 1
          have c10 : wr.cell? ⟨w.heap.size + 1, 0, none⟩ = some (.int .i64 0) := y1.cell 0
          have c11 : wr.cell? ⟨w.heap.size + 1, 1, none⟩ = some (.slice none 0 0) := y1.cell 1
          have f10 := y1.frozen 0
          have f11 := y1.frozen 1
          clear ho y0 y1 y2
          by_cases h0 : t < 0
          · have HN := Lib.hid (show ok = false ∧ F = (0, []) by
              have hno : headOk a bs = false := headOk_vals (all_not (k := k) (by simpa using hlt) (by
                have := HTV.out
                simp [constOk]
                omega))
              exact ⟨by rw [HK.out, hno], by rw [HF.out, headOf_no hno]⟩)
            clear hs
            go_wp2_with (go_at_call 109; refine T1.out.mono ?_; rintro e w' ⟨rfl, rfl⟩)
            refine bodyPost_ret (v := .tuple #[.agg #[.int .i64 0, .slice none 0 0], .bool false]) (by simp [results, Tryz.results86, go_sem, c10, c11]) rfl ?_
            rw [HN.out.1, HN.out.2]
            exact ⟨none, 0, rfl, zeroI _ _ _, (hbe.setCell (by simp) _).setCell (by simp) _⟩
          · have hd0 : decide (t < 0) = false := by simpa using h0
            have HCS := Lib.hid (show (zs ++ [t]).all constOk = true by rw [List.all_append, hs]; simp [constOk]; omega)
            clear hs
            go_wp2_with (first | (go_at_call 109; refine T1.out.mono ?_; rintro e w' ⟨rfl, rfl⟩) | (at_builtin; refine wpList_append_lies _ rfl (.tmp 40) (.tmp 42) 33 rfl (w2.heap.size + 1) 3 i0 (.int .i64 0) 1 8 Tryz.underlying33 hi0 hz0 hz1 hz2 rfl (by decide) (.slice A' zs.length c') zs.length (zs.map (Value.int .i64)) rfl ?c1 ⟨_, 0, none⟩ 1 1 [.int .i64 t] rfl rfl (news1s _ _ _ _ (by simp)) ?c2 (by omega) (by unfold maxLen; omega) (by omega) ?c3 _ rfl ?_))
            case c1 => exact HP.out.1.1.alloc _
            case c2 => intro u hu; simp at hu; subst hu; rfl
            case c3 => have := HP.out.2.2.2.2.lt; simp; omega
            intro g cap w4 hown hg _ _
            have hgr := grown_from_alloc hg
            obtain ⟨ho, hbe', y0, y1, y2⟩ := HP.out
            have z0 := y0.grown hgr (ho.apart (by omega))
            have z1 := y1.grown hgr (ho.apart (by omega))
            have z2 := y2.grown hgr (ho.apart (by omega))
            have hb4 : Below w.heap.size w w4 := hbe'.trans (Below.grown (Below.refl _ _) hgr hbe'.size (fun j hj => by have := ho.lt hj; omega))
            have z2f := z2.frozen 1
            have z2c : w4.cell? ⟨w2.heap.size, 1, none⟩ = some (.slice A' zs.length c') := z2.cell 1
            have z2s := z2.set_ 1 (.slice (some ⟨g, 0, none⟩) (zs.length + 1) cap)
            have hlen : zs.length + 1 = (zs ++ [t]).length := by simp
            have hoo : OwnInts w4 (w2.heap.size + 1) w4.heap.size (.slice (some ⟨g, 0, none⟩) (zs.length + 1) cap) (zs ++ [t]) := by
              refine ⟨?_, fun b hb' => (hown.lt b hb').2⟩
              rw [← hlen]
              simpa using hown
            have hos := hoo.set (p := ⟨w2.heap.size, 1, none⟩) (.inl (by show w2.heap.size < w2.heap.size + 1; omega)) (.slice (some ⟨g, 0, none⟩) (zs.length + 1) cap)
            have z0s := z0.far (p := ⟨w2.heap.size, 1, none⟩) (by show w.heap.size ≠ w2.heap.size; omega) (.slice (some ⟨g, 0, none⟩) (zs.length + 1) cap)
            have z1s := z1.far (p := ⟨w2.heap.size, 1, none⟩) (by show w.heap.size + 1 ≠ w2.heap.size; omega) (.slice (some ⟨g, 0, none⟩) (zs.length + 1) cap)
            have HQ := Lib.hid (And.intro hos (And.intro z2s (And.intro (hb4.setCell (p := ⟨w2.heap.size, 1, none⟩) (by show w.heap.size ≤ w2.heap.size; omega) (.slice (some ⟨g, 0, none⟩) (zs.length + 1) cap)) (And.intro z0s z1s))))
            have HSE := Lib.hid (show ys.take (k + 1) = zs ++ [t] by rw [HS.out, HZ.out])
            clear hown hg hgr ho hbe' y0 y1 y2 z0 z1 hb4 z2s hlen hoo hos z0s z1s
            go_wp2_with (fail)
            go_roundw
            case rel =>
              obtain ⟨a1, a2, a3, a4, a5⟩ := HQ.out
              refine ⟨k + 1, some ⟨g, 0, none⟩, cap, by omega, by go_num, by rw [HSE.out]; exact HCS.out, ?_, ?_, a3, a4, a5⟩
              · rw [HSE.out]
                simpa using a1
              · rw [HSE.out]
                simpa using a2
            case measure => simp [intOf]; omega
        · have hkn : k = a.2.length := by omega
          have hall : ys.take k = ys := by rw [hkn, ← HYL.out, List.take_length]
          rw [hall] at hs ho y2
          have HN := Lib.hid (show ok = true ∧ F = (a.1, ys) by
            have hyes : headOk a bs = true := headOk_yes HB.out HT.out (by rw [← HY.out]; exact hs)
            exact ⟨by rw [HK.out, hyes], by rw [HF.out, headOf_yes hyes, HY.out]⟩)
          have c20 : wr.cell? ⟨w2.heap.size, 0, none⟩ = some (.int .i64 a.1) := y2.cell 0
          have c21 : wr.cell? ⟨w2.heap.size, 1, none⟩ = some (.slice A' ys.length c') := y2.cell 1
          have c10 : wr.cell? ⟨w.heap.size + 1, 0, none⟩ = some (.int .i64 0) := y1.cell 0
          have c11 : wr.cell? ⟨w.heap.size + 1, 1, none⟩ = some (.slice none 0 0) := y1.cell 1
          have f10 := y1.frozen 0
          have f11 := y1.frozen 1
          have HP := Lib.hid (And.intro ho hbe)
          clear hs hall hkn ho y0 y1 y2
          go_wp2_with (fail)
          refine bodyPost_ret (v := .tuple #[.agg #[.int .i64 a.1, .slice A' ys.length c'], .bool true]) (by simp [results, Tryz.results86, go_sem, c10, c11]) rfl ?_
          rw [HN.out.1, HN.out.2]
          refine ⟨A', c', rfl, ?_, (HP.out.2.setCell (by simp) _).setCell (by simp) _⟩
          exact ((HP.out.1.set (p := ⟨w.heap.size + 1, 0, none⟩) (.inl (by show w.heap.size + 1 < w2.heap.size + 1; omega)) _).set (p := ⟨w.heap.size + 1, 1, none⟩) (.inl (by show w.heap.size + 1 < w2.heap.size + 1; omega)) _).mono (by omega) (by simp)
    · have ht' : a.2.all termOk = false := by simpa using ht
      have L2 := Lib.hid (fun W (hW : Below w.heap.size w W) => l2Terms_is ht' (.slice A a.2.length c) w.heap.size W (H.out.below hW (Nat.le_refl _)) hr)
      have HN := Lib.hid (show ok = false ∧ F = (0, []) from ⟨by rw [HK.out, headOk_terms ht'], by rw [HF.out, headOf_no (headOk_terms ht')]⟩)
      clear hb ht ht'
      go_enter Tryz.func86, Tryz.ntmps86
      go_wp2_with (fail)
      have x0 := X0 36 #[.int .i64 a.1, .slice A a.2.length c] 35 #[.int .i64 0, .slice none 0 0]
      have x1 := X1 (Obj.cells #[.int .i64 a.1, .slice A a.2.length c] 36) 35 #[.int .i64 0, .slice none 0 0]
      obtain ⟨w2, hw2⟩ : ∃ w2, w2 = ((w.alloc (Obj.cells #[Value.int IntKind.i64 a.1, Value.slice A a.2.length c] 36)).alloc (Obj.cells #[Value.int IntKind.i64 0, Value.slice none 0 0] 35)) := ⟨_, rfl⟩
      have B2 : Below w.heap.size w w2 := by rw [hw2]; exact below2 _ _ _
      rw [← hw2] at x0 x1 ⊢
      clear hw2 X0 X1
      have q00 : w2.cell? ⟨w.heap.size, 0, none⟩ = some (.int .i64 a.1) := x0.cell 0
      have q01 : w2.cell? ⟨w.heap.size, 1, none⟩ = some (.slice A a.2.length c) := x0.cell 1
      have c10 : w2.cell? ⟨w.heap.size + 1, 0, none⟩ = some (.int .i64 0) := x1.cell 0
      have c11 : w2.cell? ⟨w.heap.size + 1, 1, none⟩ = some (.slice none 0 0) := x1.cell 1
      have f10 := x1.frozen 0
      have f11 := x1.frozen 1
      refine (L1.out _ B2).mono ?_
      rintro e w' ⟨rfl, rfl⟩
      go_wp2_with (go_at_call 29; refine (L2.out _ B2).mono ?_; rintro e w' ⟨rfl, rfl⟩)
      refine bodyPost_ret (v := .tuple #[.agg #[.int .i64 0, .slice none 0 0], .bool false]) (by simp [results, Tryz.results86, go_sem, c10, c11]) rfl ?_
      rw [HN.out.1, HN.out.2]
      exact ⟨none, 0, rfl, zeroI _ _ _, (B2.setCell (by simp) _).setCell (by simp) _⟩
  · have hb' : bindOk bs = false := by simpa using hb
    have L1 := Lib.hid (fun W (hW : Below w.heap.size w W) => l3Bind_is hb' (.slice A2 bs.length c2) w.heap.size W (H2.out.below hW (Nat.le_refl _)) hr2)
    have HN := Lib.hid (show ok = false ∧ F = (0, []) from ⟨by rw [HK.out, headOk_bind hb'], by rw [HF.out, headOf_no (headOk_bind hb')]⟩)
    clear hb hb'
    go_enter Tryz.func86, Tryz.ntmps86
    go_wp2_with (fail)
    have x1 := X1 (Obj.cells #[.int .i64 a.1, .slice A a.2.length c] 36) 35 #[.int .i64 0, .slice none 0 0]
    obtain ⟨w2, hw2⟩ : ∃ w2, w2 = ((w.alloc (Obj.cells #[Value.int IntKind.i64 a.1, Value.slice A a.2.length c] 36)).alloc (Obj.cells #[Value.int IntKind.i64 0, Value.slice none 0 0] 35)) := ⟨_, rfl⟩
    have B2 : Below w.heap.size w w2 := by rw [hw2]; exact below2 _ _ _
    rw [← hw2] at x1 ⊢
    clear hw2 X0 X1
    have c10 : w2.cell? ⟨w.heap.size + 1, 0, none⟩ = some (.int .i64 0) := x1.cell 0
    have c11 : w2.cell? ⟨w.heap.size + 1, 1, none⟩ = some (.slice none 0 0) := x1.cell 1
    have f10 := x1.frozen 0
    have f11 := x1.frozen 1
    refine (L1.out _ B2).mono ?_
    rintro e w' ⟨rfl, rfl⟩
    go_wp2_with (fail)
    refine bodyPost_ret (v := .tuple #[.agg #[.int .i64 0, .slice none 0 0], .bool false]) (by simp [results, Tryz.results86, go_sem, c10, c11]) rfl ?_
    rw [HN.out.1, HN.out.2]
    exact ⟨none, 0, rfl, zeroI _ _ _, (B2.setCell (by simp) _).setCell (by simp) _⟩

end Go.Proofs.YtofkcmihcgmmpaaGreat
/-
  The specification's l3Copy, l3Match.
-/
namespace Go.Proofs.YtofkcmihcgmmpaaGreat
open Go.RowKit

/-- A row of one's own that is not empty: its block, its cells. -/
theorem OwnInts.at_ {w : World} {lo hi c n : Nat} {A : Option Addr} {xs : List Int} (h : OwnInts w lo hi (.slice A n c) xs) (hn : 0 < xs.length) :
    ∃ g, A = some ⟨g, 0, none⟩ ∧ lo ≤ g ∧ g < hi ∧ g < w.heap.size ∧ (∀ k (hk : k < xs.length), w.cell? ⟨g, k, none⟩ = some (.int .i64 xs[k])) ∧ ∀ k, w.frozen? ⟨g, k, none⟩ = false := by
  obtain ⟨g, cap, e, _, _⟩ := h.1.form hn
  injection e with e1 e2 e3
  subst e1
  subst e2
  obtain ⟨l1, l2, l3⟩ := h.lt (g := g) rfl
  obtain ⟨A', c', e, _, hx⟩ := h.rd
  injection e with e1 _ _
  obtain ⟨b, o, e2, _, hx⟩ := hx hn
  rw [← e1] at e2
  injection e2 with e2
  injection e2 with e2 e3 _
  subst e2
  subst e3
  exact ⟨g, rfl, l1, l2, l3, fun k hk => by simpa using hx k hk, fun k => World.ownsRow.frozenAt h.1 k⟩

theorem OwnInts.atG {w : World} {lo hi c n g : Nat} {xs : List Int} (h : OwnInts w lo hi (.slice (some ⟨g, 0, none⟩) n c) xs) (hn : 0 < xs.length) :
    lo ≤ g ∧ g < hi ∧ g < w.heap.size ∧ (∀ k (hk : k < xs.length), w.cell? ⟨g, k, none⟩ = some (.int .i64 xs[k])) ∧ ∀ k, w.frozen? ⟨g, k, none⟩ = false := by
  obtain ⟨g', e, h'⟩ := h.at_ hn
  injection e with e
  injection e with e _ _
  subst e
  exact h'

set_option maxHeartbeats 1000000 in
set_option maxRecDepth 100000 in
theorem l3Copy_any (v : Value) (xs : List Int) (w : World) (h : RdInts w w.heap.size v xs) (hr : xs.length ≤ 1048576) :
    Calls Tryz.prog 35 #[v] w fun e w' => ∃ A' c', e = .returned (.slice A' xs.length c') ∧ OwnInts w' w.heap.size w'.heap.size (.slice A' xs.length c') xs ∧ Below w.heap.size w w' := by
  obtain ⟨i0, hi0, hz0, hz1, hz2⟩ := info_parts Tryz.infoInt
  have H := Lib.hid h
  obtain ⟨A, c, rfl, hc, _⟩ := h
  have C0 := Lib.hid (ColI.empty (Below.refl w.heap.size w))
  go_enter Tryz.func35, Tryz.ntmps35
  go_wp2_with (fail)
  go_loopw [3, 4] (fun o i wr => ∃ (k : Nat) (A' : Option Addr) (c' : Nat), k ≤ xs.length ∧ i = .int .i64 k ∧ o = .slice A' (xs.take k).length c' ∧ ColI w wr (xs.take k) A' c') (fun _ i _ => xs.length - (intOf i).toNat)
  case atStart => exact ⟨0, _, 0, Nat.zero_le _, rfl, rfl, C0.out⟩
  case round =>
    obtain ⟨k, A', c', hk, rfl, rfl, hr'⟩ := hrel
    have hln : (xs.take k).length ≤ k := by simp; omega
    by_cases hlt : k < xs.length
    · have hre := H.out.below hr'.below (Nat.le_refl _)
      obtain ⟨A3, c3, e3, _, hx⟩ := hre
      injection e3 with e3 _ e4
      subst e3 e4
      obtain ⟨b, o, rfl, hbB, hx⟩ := hx (by omega)
      have hck : wr.cell? ⟨b, o + k, none⟩ = some (.int .i64 xs[k]) := hx k hlt
      have HS := Lib.hid (take_snoc xs k hlt)
      have HP := Lib.hid hr'
      clear hx hr'
      obtain ⟨x, hx⟩ : ∃ x, x = xs[k] := ⟨_, rfl⟩
      rw [← hx] at hck HS
      clear hx
      obtain ⟨zs, hzs⟩ : ∃ zs, zs = xs.take k := ⟨_, rfl⟩
      have HZ := Lib.hid hzs
      rw [← hzs] at HP hln ⊢
      clear hzs
      go_wp2_with (at_builtin; refine wpList_append_lies _ rfl (.tmp 12) (.tmp 17) 33 rfl w.heap.size 3 i0 (.int .i64 0) 1 8 Tryz.underlying33 hi0 hz0 hz1 hz2 rfl (by decide) (.slice A' zs.length c') zs.length (zs.map (Value.int .i64)) rfl ?c1 ⟨_, 0, none⟩ 1 1 [.int .i64 x] rfl rfl (news1s _ _ _ _ (by simp)) ?c2 (by omega) (by unfold maxLen; omega) (by omega) ?c3 _ rfl ?_)
      case c1 => exact HP.out.own.1.alloc _
      case c2 => first | rfl | (intro u hu; simp at hu; subst hu; rfl)
      case c3 => have := HP.out.below.size; simp; omega
      intro g cap w4 hown hg _ _
      have hcol := HP.out.push (Below.refl _ _) hg hown
      rw [HZ.out, ← HS.out] at hcol
      have hlen : zs.length + 1 = (xs.take (k + 1)).length := by rw [HS.out, HZ.out]; simp
      rw [hlen]
      have HC := Lib.hid hcol
      clear hcol hlen hown hg
      go_wp2_with (fail)
      go_roundw
      case rel => exact ⟨k + 1, _, _, by omega, by go_num, rfl, HC.out⟩
      case measure => simp [intOf]; omega
    · have hkn : k = xs.length := by omega
      have HZ := Lib.hid (show xs.take k = xs by rw [hkn, List.take_length])
      have HO := Lib.hid hr'
      rw [HZ.out] at HO ⊢
      clear hkn hr'
      go_wp2_with (fail)
      go_ret
      exact ⟨_, _, rfl, HO.out.own, HO.out.below⟩

set_option maxHeartbeats 4000000 in
set_option maxRecDepth 100000 in
theorem l3Match_n (v v2 v3 : Value) (a f : LFact) (bs R : List Int) (ok : Bool) (hR : R = (matchL a f bs).getD []) (hok : ok = (matchL a f bs).isSome) (w : World) (hb : bindOk bs = true) (h : RdFact w w.heap.size v a) (h2 : RdFact w w.heap.size v2 f) (h3 : RdInts w w.heap.size v3 bs)
    (ht : a.2.all termOk = true) (hf : f.2.all constOk = true) (hr : a.2.length ≤ 1048576) (hr2 : f.2.length ≤ 1048576) :
    Calls Tryz.prog 83 #[v, v2, v3] w fun e w' => ∃ A' c', e = .returned (.tuple #[.slice A' R.length c', .bool ok]) ∧ OwnInts w' w.heap.size w'.heap.size (.slice A' R.length c') R ∧ Below w.heap.size w w' := by
  obtain ⟨pa, xs⟩ := a
  obtain ⟨pf, ys⟩ := f
  simp only at ht hf hr hr2
  have HO := Lib.hid (And.intro hR hok)
  clear hR hok
  have H3 := Lib.hid h3
  obtain ⟨A3, c3, rfl, hc3, _⟩ := h3
  obtain ⟨u, rfl, A, c, rfl, hc, hA⟩ := h
  obtain ⟨u, rfl, A2, c2, rfl, hc2, hA2⟩ := h2
  by_cases hp : pa = pf
  · have hpb : (pa != pf) = false := by simp [hp]
    by_cases hl : xs.length = ys.length
    · have hl1 : ((xs.length : Int) != (ys.length : Int)) = false := by simp [hl]
      have HL := Lib.hid hl
      have HP := Lib.hid hp
      have HB := Lib.hid hb
      have HB4 := Lib.hid (bindOk_len hb)
      clear hl hp hb
      have x0 := (Blk.new w 36 #[.int .i64 pa, .slice A xs.length c]).alloc (Obj.cells #[.int .i64 pf, .slice A2 ys.length c2] 35)
      have x1 : Blk ((w.alloc (Obj.cells #[.int .i64 pa, .slice A xs.length c] 36)).alloc (Obj.cells #[.int .i64 pf, .slice A2 ys.length c2] 35)) (w.heap.size + 1) 35 #[.int .i64 pf, .slice A2 ys.length c2] := by simpa using Blk.new (w.alloc (Obj.cells #[.int .i64 pa, .slice A xs.length c] 36)) 35 #[.int .i64 pf, .slice A2 ys.length c2]
      go_enter Tryz.func83, Tryz.ntmps83
      go_wp2_with (fail)
      obtain ⟨w2, hw2⟩ : ∃ w2, w2 = ((w.alloc (Obj.cells #[Value.int IntKind.i64 pa, Value.slice A xs.length c] 36)).alloc (Obj.cells #[Value.int IntKind.i64 pf, Value.slice A2 ys.length c2] 35)) := ⟨_, rfl⟩
      have B2 : Below w.heap.size w w2 := by rw [hw2]; exact below2 _ _ _
      rw [← hw2] at x0 x1 ⊢
      clear hw2
      have l1 := x1.lt
      refine (l3Copy_any _ bs _ (H3.out.on B2) (by have := HB4.out; omega)).mono ?_
      rintro e w3 ⟨A', c', rfl, ho, hb3⟩
      obtain ⟨g, rfl, hg1, hg2, hg3, _, _⟩ := ho.at_ (by have := HB4.out; omega)
      have R0 : OwnInts w3 w2.heap.size w3.heap.size (.slice (some ⟨g, 0, none⟩) bs.length c') bs ∧ Below w.heap.size w w3 ∧ Blk w3 w.heap.size 36 #[.int .i64 pa, .slice A xs.length c] ∧ Blk w3 (w.heap.size + 1) 35 #[.int .i64 pf, .slice A2 ys.length c2] := ⟨ho, bthen B2 hb3, x0.below hb3 x0.lt, x1.below hb3 x1.lt⟩
      rw [HB4.out] at R0 ⊢
      clear ho hb3 x0 x1 hg3 hg2
      go_wp2_with (fail)
      go_loopw [9, 10] (fun i _ wr => ∃ (k : Nat) (cur : List Int), k ≤ xs.length ∧ i = .int .i64 k ∧ bindOk cur = true ∧ matchTo bs xs ys k = some cur ∧ OwnInts wr w2.heap.size wr.heap.size (.slice (some ⟨g, 0, none⟩) 4 c') cur ∧ Below w.heap.size w wr ∧ Blk wr w.heap.size 36 #[.int .i64 pa, .slice A xs.length c] ∧ Blk wr (w.heap.size + 1) 35 #[.int .i64 pf, .slice A2 ys.length c2]) (fun i _ _ => xs.length - (intOf i).toNat)
      case atStart => exact ⟨0, bs, Nat.zero_le _, rfl, HB.out, rfl, R0.1, R0.2.1, R0.2.2.1, R0.2.2.2⟩
      case round =>
        obtain ⟨k, cur, hk, rfl, hcb, hmt, ho, hbe, y0, y1⟩ := hrel
        have q01 : wr.cell? ⟨w.heap.size, 1, none⟩ = some (.slice A xs.length c) := y0.cell 1
        have q11 : wr.cell? ⟨w.heap.size + 1, 1, none⟩ = some (.slice A2 ys.length c2) := y1.cell 1
        have hcl := bindOk_len hcb
        have HP2 := Lib.hid (And.intro ho (And.intro hbe (And.intro y0 y1)))
        by_cases hlt : k < xs.length
        · have hlt2 : k < ys.length := by have := HL.out; omega
          obtain ⟨b, o, rfl, hbB, hx⟩ := hA (by omega)
          obtain ⟨b2, o2, rfl, hbB2, hx2⟩ := hA2 (by omega)
          have hck : wr.cell? ⟨b, o + k, none⟩ = some (.int .i64 xs[k]) := (hbe.cell (p := ⟨b, o + k, none⟩) hbB).trans (hx k hlt)
          have hck2 : wr.cell? ⟨b2, o2 + k, none⟩ = some (.int .i64 ys[k]) := (hbe.cell (p := ⟨b2, o2 + k, none⟩) hbB2).trans (hx2 k hlt2)
          have htk : termOk xs[k] = true := List.all_eq_true.1 ht _ (List.getElem_mem hlt)
          have hfk : 0 ≤ ys[k] ∧ ys[k] ≤ 5 := by simpa [constOk] using List.all_eq_true.1 hf _ (List.getElem_mem hlt2)
          have hst := matchTo_step hmt hlt hlt2
          have htb := termOk_at htk
          obtain ⟨hg1', _, hg3, hcc, hcf⟩ := ho.atG (by omega)
          clear hx hx2 hA hA2
          obtain ⟨t, htv⟩ : ∃ t, t = xs[k] := ⟨_, rfl⟩
          obtain ⟨y, hyv⟩ : ∃ y, y = ys[k] := ⟨_, rfl⟩
          rw [← htv] at htk hck hst htb
          rw [← hyv] at hfk hck2 hst
          clear htv hyv
          by_cases e2 : termVal cur t = -1
          · -- the variable gets it
            obtain ⟨q1, q2, q3⟩ := termVal_free htk e2
            obtain ⟨j, hj4, rfl⟩ : ∃ j : Nat, j < 4 ∧ t = -1 - (j : Int) := ⟨(-1 - t).toNat, by omega, by omega⟩
            have hjt : (-1 - (-1 - (j : Int))).toNat = j := by omega
            have hje : -1 - (-1 - (j : Int)) = (j : Int) := by omega
            rw [hjt] at q3
            have hjl : j < cur.length := by omega
            have hjI : (j : Int) < 4 := by omega
            have hcj : wr.cell? ⟨g, j, none⟩ = some (.int .i64 (-1)) := by
              have hh := hcc j hjl
              rwa [show cur[j] = -1 by simpa [hjl] using q3] at hh
            have hfj := hcf j
            have hoo := OwnInts.store (A := some ⟨g, 0, none⟩) (c := c') (g := g) (xs := cur) (by rw [hcl]; exact ho) rfl hjl y
            obtain ⟨ws, hws⟩ : ∃ ws, ws = wr.setCell ⟨g, j, none⟩ (.int .i64 y) := ⟨_, rfl⟩
            have z0 := y0.far (p := ⟨g, j, none⟩) (by show w.heap.size ≠ g; omega) (.int .i64 y)
            have z1 := y1.far (p := ⟨g, j, none⟩) (by show w.heap.size + 1 ≠ g; omega) (.int .i64 y)
            have zb : Below w.heap.size w ws := by rw [hws]; exact hbe.setCell (by show w.heap.size ≤ g; omega) _
            have hsz : ws.heap.size = wr.heap.size := by rw [hws]; simp
            rw [← hws] at hoo z0 z1
            rw [hcl] at hoo
            have HCS := Lib.hid (show bindOk (cur.set j y) = true from bindOk_set hcb (by omega) _)
            have hsl : (cur.set j y).length = 4 := by rw [List.length_set]; exact hcl
            have HMS := Lib.hid (show matchTo bs xs ys (k + 1) = some (cur.set j y) by rw [hst, stepM_new e2 (by omega), hjt])
            have HTV := Lib.hid (show termVal (cur.set j y) (-1 - (j : Int)) = y by
              rw [termVal_var (by omega), hjt]
              simp [hjl])
            have hck2s : ws.cell? ⟨b2, o2 + k, none⟩ = some (.int .i64 y) := by
              rw [hws, World.cell?_setCell_other _ _ _ _ (by intro e; injection e with e1 _ _; omega)]
              exact hck2
            have q11s : ws.cell? ⟨w.heap.size + 1, 1, none⟩ = some (.slice (some ⟨b2, o2, none⟩) ys.length c2) := z1.cell 1
            have HT := Lib.hid (fun n => quiet_left (l3Term_any (.slice (some ⟨g, 0, none⟩) 4 c') (cur.set j y) (-1 - (j : Int)) ws.heap.size (ws.drewN n) (by
              have := (hoo.rd.more (B' := ws.heap.size) (by omega)).below (bdrewN (Below.refl ws.heap.size ws) n) (Nat.le_refl _)
              exact this) hsl htk))
            have HQ := Lib.hid (And.intro (show OwnInts ws w2.heap.size ws.heap.size (.slice (some ⟨g, 0, none⟩) 4 c') (cur.set j y) by rw [hsz]; exact hoo) (And.intro zb (And.intro z0 z1)))
            have HW := Lib.hid hws
            have HE2 := Lib.hid (And.intro e2 (And.intro q3 (And.intro hst hmt)))
            clear hoo z0 z1 zb hws hst hmt e2 q3 hcc hcf ho y0 y1
            rw [HTV.out] at HT
            go_wp2_with (fail)
            rw [← HW.out]
            go_quiet ((go_at_call 109; exact HT.out _))
            go_wp2_with (fail)
            go_roundw
            case rel =>
              obtain ⟨a1, a2, a3, a4⟩ := HQ.out
              exact ⟨k + 1, _, by omega, by go_num, HCS.out, HMS.out, a1.below (bdrewN (Below.refl _ _) _) (Nat.le_refl _), bdrewN a2 _, a3.drewN _, a4.drewN _⟩
            case measure => simp [intOf]; omega
          · have HT := Lib.hid (fun n => quiet_left (l3Term_any (.slice (some ⟨g, 0, none⟩) 4 c') cur t wr.heap.size (wr.drewN n) (by
              have h' : OwnInts wr w2.heap.size wr.heap.size (.slice (some ⟨g, 0, none⟩) cur.length c') cur := by rw [hcl]; exact ho
              have := h'.rd.below (bdrewN (Below.refl wr.heap.size wr) n) (Nat.le_refl _)
              rw [hcl] at this
              exact this) hcl htk))
            -- no store: a constant, or a variable that has one
            have hns : 0 ≤ t ∨ ∃ j : Nat, ∃ hj : j < cur.length, t = -1 - (j : Int) ∧ 0 ≤ cur[j] := by
              rcases Int.lt_or_le t 0 with h0 | h0
              · right
                have hj : (-1 - t).toNat < cur.length := by omega
                refine ⟨(-1 - t).toNat, hj, by omega, ?_⟩
                rw [termVal_var h0] at e2
                have e3 : cur[(-1 - t).toNat] ≠ -1 := by simpa [hj] using e2
                have := bindOk_at hcb hj
                omega
              · exact .inl h0
            have HV := Lib.hid (And.intro e2 (And.intro hst hmt))
            clear e2 hst hmt y0 y1
            by_cases e1 : termVal cur t = y
            · have hd1 : (y != y) = false := by simp
              have HMS := Lib.hid (show matchTo bs xs ys (k + 1) = some cur by rw [HV.out.2.1, stepM_same e1])
              rw [e1] at HT
              clear e1
              rcases hns with h0 | ⟨j, hj, rfl, hj0⟩
              · have hd0 : decide (t < 0) = false := by simp; omega
                clear ho hcc hcf
                go_wp2_with (fail)
                go_quiet ((go_at_call 109; exact HT.out _))
                go_wp2_with (fail)
                go_roundw
                case rel =>
                  obtain ⟨a1, a2, a3, a4⟩ := HP2.out
                  exact ⟨k + 1, _, by omega, by go_num, hcb, HMS.out, a1.below (bdrewN (Below.refl _ _) _) (Nat.le_refl _), bdrewN a2 _, a3.drewN _, a4.drewN _⟩
                case measure => simp [intOf]; omega
              · have hje : -1 - (-1 - (j : Int)) = (j : Int) := by omega
                have hjI : (j : Int) < 4 := by omega
                have hcj : wr.cell? ⟨g, j, none⟩ = some (.int .i64 cur[j]) := hcc j hj
                have hdj : decide (cur[j] < 0) = false := by simp; omega
                clear ho hcc hcf
                go_wp2_with (fail)
                go_quiet ((go_at_call 109; exact HT.out _))
                go_wp2_with (fail)
                go_roundw
                case rel =>
                  obtain ⟨a1, a2, a3, a4⟩ := HP2.out
                  exact ⟨k + 1, _, by omega, by go_num, hcb, HMS.out, a1.below (bdrewN (Below.refl _ _) _) (Nat.le_refl _), bdrewN a2 _, a3.drewN _, a4.drewN _⟩
                case measure => simp [intOf]; omega
            · have hd1 : (termVal cur t != y) = true := by simpa using e1
              have HN := Lib.hid (show matchL (pa, xs) (pf, ys) bs = none from matchL_stop HP.out HL.out hlt (by rw [HV.out.2.1, stepM_no e1 HV.out.1]))
              have HZ := Lib.hid (show R = [] ∧ ok = false from ⟨by rw [HO.out.1, HN.out]; rfl, by rw [HO.out.2, HN.out]; rfl⟩)
              clear e1
              rcases hns with h0 | ⟨j, hj, rfl, hj0⟩
              · have hd0 : decide (t < 0) = false := by simp; omega
                clear ho hcc hcf
                go_wp2_with (fail)
                go_quiet ((go_at_call 109; exact HT.out _))
                go_wp2_with (fail)
                go_ret2
                rw [HZ.out.1, HZ.out.2]
                exact ⟨none, 0, rfl, zeroI _ _ _, bdrewN hbe _⟩
              · have hje : -1 - (-1 - (j : Int)) = (j : Int) := by omega
                have hjI : (j : Int) < 4 := by omega
                have hcj : wr.cell? ⟨g, j, none⟩ = some (.int .i64 cur[j]) := hcc j hj
                have hdj : decide (cur[j] < 0) = false := by simp; omega
                clear ho hcc hcf
                go_wp2_with (fail)
                go_quiet ((go_at_call 109; exact HT.out _))
                go_wp2_with (fail)
                go_ret2
                rw [HZ.out.1, HZ.out.2]
                exact ⟨none, 0, rfl, zeroI _ _ _, bdrewN hbe _⟩
        · have hkn : k = xs.length := by omega
          have HN := Lib.hid (show matchL (pa, xs) (pf, ys) bs = some cur by rw [matchL_eq HP.out HL.out, ← hmt, hkn])
          have HZ := Lib.hid (show R = cur ∧ ok = true from ⟨by rw [HO.out.1, HN.out]; rfl, by rw [HO.out.2, HN.out]; rfl⟩)
          have HCL := Lib.hid hcl
          clear hkn hmt hA hA2 ho y0 y1 hcl
          go_wp2_with (fail)
          go_ret2
          rw [HZ.out.1, HZ.out.2, HCL.out]
          exact ⟨_, _, rfl, HP2.out.1.mono (by omega) (Nat.le_refl _), hbe⟩
    · have hl1 : ((xs.length : Int) != (ys.length : Int)) = true := by simp; omega
      have HN := Lib.hid (show matchL (pa, xs) (pf, ys) bs = none from matchL_len hl)
      have HZ := Lib.hid (show R = [] ∧ ok = false from ⟨by rw [HO.out.1, HN.out]; rfl, by rw [HO.out.2, HN.out]; rfl⟩)
      clear hA hA2 hl
      go_enter Tryz.func83, Tryz.ntmps83
      go_wp2_with (fail)
      go_ret2
      rw [HZ.out.1, HZ.out.2]
      exact ⟨none, 0, rfl, zeroI _ _ _, below2 _ _ _⟩
  · have hpb : (pa != pf) = true := by simp [hp]
    have HN := Lib.hid (show matchL (pa, xs) (pf, ys) bs = none from matchL_pred hp)
    have HZ := Lib.hid (show R = [] ∧ ok = false from ⟨by rw [HO.out.1, HN.out]; rfl, by rw [HO.out.2, HN.out]; rfl⟩)
    clear hA hA2 hp
    go_enter Tryz.func83, Tryz.ntmps83
    go_wp2_with (fail)
    go_ret2
    rw [HZ.out.1, HZ.out.2]
    exact ⟨none, 0, rfl, zeroI _ _ _, below2 _ _ _⟩

end Go.Proofs.YtofkcmihcgmmpaaGreat
/-
  A program and facts of it drawn: the walk of l3Case.
-/
namespace Go.Proofs.YtofkcmihcgmmpaaGreat
open Go.RowKit

theorem l6Least_any (a b : Int) (w : World) : Calls Tryz.prog 36 #[.int .i64 a, .int .i64 b] w fun e w' => e = .returned (.int .i64 (if b < a then b else a)) ∧ w = w' := by
  go_enter Tryz.func36, Tryz.ntmps36
  by_cases h : b < a
  · have hb : decide (b < a) = true := by simpa using h
    go_wp2_with (fail)
    go_ret
    exact ⟨ret_int rfl, rfl⟩
  · have hb : decide (b < a) = false := by simpa using h
    go_wp2_with (fail)
    go_ret
    exact ⟨ret_int rfl, rfl⟩

section
variable {w wr w' w1 : World} {D g q B : Nat} {bs : List Nat} {A Ar : Option Addr} {c cr : Nat} {ar : List Int} {es : List Ent}
theorem Pg4.go (h : Pg4 w wr D B g bs q A c ar Ar cr es) (hg : g < w.heap.size) {q' : Nat} (hr : Rdr w' g bs q') (ho : Only g (g + 1) wr w') : Pg4 w w' D B g bs q' A c ar Ar cr es :=
  ⟨h.res.only ho (.inr (by omega)), h.prg.only ho (.inr (by have := h.low; have := h.high; omega)), h.own.only ho (.inr (by omega)), h.rules.only ho (by have := h.low; omega), h.low, h.high, hr, h.only.trans ho⟩
theorem Pg4.start (hg : g < w.heap.size) (hB : w.heap.size + 1 ≤ B) (hB2 : B ≤ w1.heap.size) (hw : w' = w1.alloc (.cells #[.slice A ar.length c, .slice Ar es.length cr] 45))
    (h1 : OwnInts w1 (w.heap.size + 1) B (.slice A ar.length c) ar) (h2 : RowR B w1 es Ar cr) (h3 : Rdr w1 g bs q) (h4 : Only g (g + 1) (w.alloc (.cells #[.slice none 0 0, .slice none 0 0] 45)) w1) : Pg4 w w' w1.heap.size B g bs q A c ar Ar cr es := by
  have hb : Below w1.heap.size w1 w' := by rw [hw]; exact below1 _ _
  refine ⟨((Blk.new w 45 #[.slice none 0 0, .slice none 0 0]).only h4 (.inr (by omega))).below hb (by omega), by rw [hw]; exact Blk.new _ _ _, h1.below hb hB2, h2.below hb, hB, hB2, h3.below hb h3.lt, ((Only.of_below (below1 w _)).trans h4).trans (Only.of_below hb)⟩
end
theorem OwnInts.capLe {w : World} {lo hi c : Nat} {A : Option Addr} {xs : List Int} (h : OwnInts w lo hi (.slice A xs.length c) xs) : xs.length ≤ c := by
  rcases h.1.2 with ⟨e, h0⟩ | ⟨g, cq, cur, e, hb, hgg, hn, _⟩
  · injection e with _ _ e
    omega
  · injection e with _ _ e
    omega
/-- A row's first elements. -/
theorem OwnInts.front {w : World} {lo hi c n : Nat} {A : Option Addr} {xs : List Int} (h : OwnInts w lo hi (.slice A xs.length c) xs) (hn : n ≤ xs.length) (h0 : 0 < xs.length) : OwnInts w lo hi (.slice A n c) (xs.take n) := by
  obtain ⟨⟨hl, h⟩, hlt⟩ := h
  rcases h with ⟨e, h1⟩ | ⟨g, cap, cur, e, hb, hg, h1, h2, h3, h4⟩
  · omega
  · injection e with e1 e2 e3
    subst e1 e3
    have hlen : (xs.take n).length = n := by simp; omega
    refine ⟨⟨by rw [List.length_map, hlen]; omega, .inr ⟨g, c, cur, by rw [hlen], hb, hg, by omega, h2, h3, ?_⟩⟩, fun g' hg' => hlt g' hg'⟩
    rw [hlen, List.map_take, ← h4, List.take_take]
    congr 1
    omega

/-- The arity of the facts: a copy, no place over two; wd is the world that it was laid in. -/
def CapAt (wc wx : World) (g : Nat) (bs : List Nat) (q : Nat) (lo hi : Nat) (s : Value) : Prop :=
  ∃ (A4 : Option Addr) (c4 : Nat) (zs : List Int), s = .slice A4 zs.length c4 ∧ zs.length ≤ 5 ∧ (∀ x ∈ zs, 0 ≤ x ∧ x ≤ 2) ∧ OwnInts wx lo hi (.slice A4 zs.length c4) zs ∧ hi ≤ wx.heap.size ∧ Rdr wx g bs q ∧ Only g (g + 1) wc wx

/-- The same, ahead of the cut, with a flag. -/
def CapF (wc wx : World) (g : Nat) (bs : List Nat) (q : Nat) (lo hi : Nat) (A4 : Option Addr) (c4 : Nat) (zs : List Int) (s : Value) : Prop :=
  ∃ fl : Bool, s = .bool fl ∧ OwnInts wx lo hi (.slice A4 zs.length c4) zs ∧ hi ≤ wx.heap.size ∧ Rdr wx g bs q ∧ Only g (g + 1) wc wx

set_option maxHeartbeats 4000000 in
set_option maxRecDepth 100000 in
theorem l3Case_any (g : Nat) (bs : List Nat) (p most : Nat) (no : Int) (w : World) (h : Rdr w g bs p) (hp : p ≤ 50000) (hm : most ≤ 64) :
    Calls Tryz.prog 14 #[.pointer (some ⟨g, 0, none⟩), .int .i64 no, .int .i64 most] w fun e w' => ∃ (A Ar Af : Option Addr) (c cr cf B q : Nat) (ar : List Int) (es : List Ent) (fs : List LFact), e = .returned (.tuple #[.agg #[.slice A ar.length c, .slice Ar es.length cr], .slice Af fs.length cf]) ∧ AnyOk ar es ∧ fs.length ≤ most ∧ tot fs ≤ 3 * most ∧ q ≤ p + 1710 + 24 * most ∧
      w.heap.size ≤ B ∧ B ≤ w'.heap.size ∧ OwnInts w' w.heap.size B (.slice A ar.length c) ar ∧ RowR B w' es Ar cr ∧ OwnFacts w' B w'.heap.size (.slice Af fs.length cf) fs ∧ Rdr w' g bs q ∧ Only g (g + 1) w w' := by
  have hgl := h.lt
  have H := Lib.hid h
  clear h
  go_enter Tryz.func14, Tryz.ntmps14
  go_wp2_with (fail)
  refine (l2Any_any g bs p no _ (H.out.below (below1 w (.cells #[.slice none 0 0, .slice none 0 0] 45)) H.out.lt) (by omega)).mono ?_
  rintro e w1 ⟨A, Ar, c, cr, B, q, ar, es, rfl, hok, hq, hB, hB2, h1, h2, h3, h4⟩
  have HOK := Lib.hid hok
  simp only [World.size_alloc] at hB h1
  have HQ := Lib.hid (And.intro hB (And.intro hB2 (And.intro h1 (And.intro h2 (And.intro h3 h4)))))
  have hal4 := hok.1
  have hal5 := hok.2.1
  clear hok hB hB2 h1 h2 h3 h4
  go_upto_region 2 with (fail)
  obtain ⟨wc, hwc⟩ : ∃ wS, wS = w1.alloc (.cells #[.slice A ar.length c, .slice Ar es.length cr] 45) := ⟨_, rfl⟩
  have H1 := Lib.hid (Pg4.start hgl HQ.out.1 HQ.out.2.1 hwc HQ.out.2.2.1 HQ.out.2.2.2.1 HQ.out.2.2.2.2.1 HQ.out.2.2.2.2.2)
  rw [← hwc]
  clear hwc HQ
  obtain ⟨D, hD⟩ : ∃ D, D = w1.heap.size := ⟨_, rfl⟩
  rw [← hD] at H1 ⊢
  clear hD
  have k0 : wc.cell? ⟨D, 0, none⟩ = some (.slice A ar.length c) := H1.out.prg.cell 0
  have hgc : g < wc.heap.size := H1.out.rdr.lt
  have HSZ := Lib.hid H1.out.only.size
  have hDc := H1.out.prg.lt
  go_wp2_with (fail)
  refine (l3Copy_any (.slice A ar.length c) ar wc (H1.out.own.rd.more (by have := H1.out.high; omega)) (by omega)).mono ?_
  rintro e w2 ⟨A4, c4, rfl, o4, b4⟩
  have HI := Lib.hid o4
  have HO2 := Lib.hid (Only.of_below (lo := g) (hi := g + 1) b4)
  have HR2 := Lib.hid (H1.out.rdr.below b4 hgc)
  have hs2 := b4.size
  clear o4 b4 k0
  go_wp2_with (fail)
  go_loopw [10] (fun i wr => ∃ (k : Nat) (zs : List Int), k ≤ ar.length ∧ i = .int .i64 k ∧ zs.length = ar.length ∧ (∀ x ∈ zs, 0 ≤ x ∧ x ≤ 3) ∧ (∀ j (h : j < zs.length), j < k → zs[j] ≤ 2) ∧ OwnInts wr wc.heap.size w2.heap.size (.slice A4 ar.length c4) zs ∧ Rdr wr g bs q ∧ Only g (g + 1) wc wr ∧ wr.heap.size = w2.heap.size) (fun i _ => ar.length - (intOf i).toNat)
  case atStart => exact ⟨0, ar, Nat.zero_le _, rfl, rfl, HOK.out.2.2.1, fun j _ h => absurd h (Nat.not_lt_zero _), HI.out, HR2.out, HO2.out, rfl⟩
  case round =>
    obtain ⟨k, zs, hk, rfl, hzl, hz3, hz2, hzo, hrr, hor, hsr⟩ := hrel
    have HZL := Lib.hid hzl
    have HZ := Lib.hid (And.intro hz3 (And.intro hz2 (And.intro hzo (And.intro hrr (And.intro hor hsr)))))
    by_cases hlt : k < ar.length
    · have hlz : k < zs.length := by omega
      obtain ⟨g4, hg4⟩ : ∃ g4, A4 = some ⟨g4, 0, none⟩ := by
        obtain ⟨g2, cap, e, _⟩ := hzo.1.form (by omega)
        injection e with e1 _ _
        exact ⟨g2, e1⟩
      subst hg4
      rw [← hzl] at hzo
      have HST := Lib.hid (fun x => hzo.store (j := k) rfl hlz x)
      have r0 := hzo.1.cellAt k (by omega)
      have r1 := hzo.1.frozenAt k
      have hg4l := hzo.lt (g := g4) rfl
      have hg4w : wc.heap.size ≤ g4 := hg4l.1
      rw [show (zs.map (Value.int .i64))[k]? = some (.int .i64 zs[k]) by simp [hlz]] at r0
      have hkb : decide ((k : Int) < (ar.length : Int)) = true := by rw [decide_eq_true_eq]; omega
      clear hzl hz3 hz2 hzo hrr hor hsr hg4l
      go_wp2_with (go_at_call 36; refine (l6Least_any zs[k] 2 wr).mono ?_; rintro e wn ⟨rfl, rfl⟩)
      go_roundw
      case rel =>
        obtain ⟨z3, z2, zo, rr, orr, sr⟩ := HZ.out
        obtain ⟨x, hx⟩ : ∃ x, x = (if (2 : Int) < zs[k] then 2 else zs[k]) := ⟨_, rfl⟩
        have hxr : 0 ≤ x ∧ x ≤ 2 := by
          have := z3 _ (List.getElem_mem hlz)
          rw [hx]
          split <;> omega
        rw [← hx]
        refine ⟨k + 1, zs.set k x, by omega, by go_num, by rw [List.length_set]; exact HZL.out, fun y hy => ?_, fun j hj hjk => ?_, ?_, rr.same fun k' hk' => Below.heap_setCell _ _ _ k' (by show k' ≠ g4; omega), orr.setNew (p := ⟨g4, k, none⟩) hg4w _, by simpa using sr⟩
        · rcases List.mem_or_eq_of_mem_set hy with h | h
          · exact z3 y h
          · omega
        · by_cases e : k = j
          · subst e
            rw [List.getElem_set_self]
            exact hxr.2
          · rw [List.getElem_set_ne e]
            exact z2 j (by simpa using hj) (by omega)
        · have := HST.out x
          rw [HZL.out] at this
          exact this
      case measure => simp [intOf]; omega
    · have hkb : decide ((k : Int) < (ar.length : Int)) = false := by rw [decide_eq_false_iff_not]; omega
      have hz2' : ∀ x ∈ zs, 0 ≤ x ∧ x ≤ 2 := fun x hx => by
        obtain ⟨j, hj, rfl⟩ := List.getElem_of_mem hx
        exact ⟨(hz3 _ (List.getElem_mem hj)).1, hz2 j hj (by omega)⟩
      have HZ2 := Lib.hid (And.intro hz2' (And.intro hzo (And.intro hrr (And.intro hor hsr))))
      have hgr : g < wr.heap.size := hrr.lt
      clear hzl hz3 hz2 hz2' hzo hrr hor hsr HZ HI HR2 HO2
      go_upto_region 7 with (fail)
      obtain ⟨wl, rfl⟩ : ∃ wl, wl = wr := ⟨_, rfl⟩
      go_cut [38] (fun s38 wx => CapF wc wx g bs (q + 1) wc.heap.size w2.heap.size A4 c4 zs s38)
      case first =>
        go_wp2_with (fail)
        refine (pick_any g bs q 5 _ HZ2.out.2.2.1 (by omega) (by omega)).mono ?_
        rintro e w4 ⟨⟨x, rfl, _⟩, hp4⟩
        have H4 := Lib.hid (show OwnInts w4 wc.heap.size w2.heap.size (.slice A4 zs.length c4) zs ∧ w2.heap.size ≤ w4.heap.size ∧ Rdr w4 g bs (q + 1) ∧ Only g (g + 1) wc w4 from ⟨by rw [HZL.out]; exact HZ2.out.2.1.only hp4.2 (.inr hgc), by have := hp4.2.size; have := HZ2.out.2.2.2.2; omega, hp4.1, HZ2.out.2.2.2.1.trans hp4.2⟩)
        clear hp4
        by_cases hx : 0 < x
        · have hxb : decide (0 < x) = true := by simpa using hx
          have hlb : decide (2 < (ar.length : Int)) = true := by rw [decide_eq_true_eq]; omega
          go_wp2_with (fail)
          go_meet
          exact ⟨true, rfl, H4.out⟩
        · have hxb : decide (0 < x) = false := by simpa using hx
          go_wp2_with (fail)
          go_meet
          exact ⟨false, rfl, H4.out⟩
      case rest =>
      obtain ⟨fl, rfl, hcf⟩ := hcut
      rename World => w4
      have H4 := Lib.hid hcf
      clear hcf
      go_upto_if 38 with (fail)
      go_cut [9] (fun s9 wx => CapAt wc wx g bs (q + 1) wc.heap.size w2.heap.size s9)
      case first =>
        cases fl
        · go_wp2_with (fail)
          go_meet
          exact ⟨A4, c4, zs, by rw [HZL.out], by rw [HZL.out]; exact hal5, HZ2.out.1, H4.out⟩
        · have HFR := Lib.hid (H4.out.1.front (n := 2) (by rw [HZL.out]; omega) (by rw [HZL.out]; omega))
          obtain ⟨g4, hg4⟩ : ∃ g4, A4 = some ⟨g4, 0, none⟩ := by
            obtain ⟨g2, cap, e, _⟩ := H4.out.1.1.form (by rw [HZL.out]; omega)
            injection e with e1 _ _
            exact ⟨g2, e1⟩
          subst hg4
          have hc4 : ar.length ≤ c4 := by rw [← HZL.out]; exact H4.out.1.capLe
          go_wp2_with (fail)
          go_meet
          exact ⟨some ⟨g4, 0, none⟩, c4, zs.take 2, by simp [HZL.out]; omega, by simp; omega, fun x hx => HZ2.out.1 x (List.mem_of_mem_take hx), by
            have e : (zs.take 2).length = 2 := by simp [HZL.out]; omega
            rw [e]
            exact HFR.out, H4.out.2⟩
      case rest =>
      obtain ⟨A9, c9, zs9, rfl, hz9, hz9r, ho9, hh9, hr9, hO9⟩ := hcut
      rename World => w5
      have HZ9 := Lib.hid hz9r
      have H5 := Lib.hid (And.intro ho9 (And.intro hh9 (And.intro hr9 hO9)))
      clear ho9 hh9 hr9 hO9 hz9r H4
      obtain ⟨wy, hwy⟩ : ∃ wy, wy = w5.drew := ⟨_, rfl⟩
      have Hy := Lib.hid (show OwnInts wy wc.heap.size w2.heap.size (.slice A9 zs9.length c9) zs9 ∧ w2.heap.size ≤ wy.heap.size ∧ Rdr wy g bs (q + 1) ∧ Only g (g + 1) wc wy by rw [hwy]; exact ⟨H5.out.1.below (Below.refl _ _).drew H5.out.2.1, H5.out.2.1, H5.out.2.2.1.below (Below.refl _ _).drew H5.out.2.2.1.lt, H5.out.2.2.2.trans (Only.of_below (Below.refl _ _).drew)⟩)
      have HPy := Lib.hid (H1.out.go hgl Hy.out.2.2.1 Hy.out.2.2.2)
      obtain ⟨SS, hSS⟩ : ∃ SS : World → Prop, SS = (fun W => W.cell? ⟨D, 0, none⟩ = some (.slice A ar.length c) ∧ W.cell? ⟨D, 1, none⟩ = some (.slice Ar es.length cr)) := ⟨_, rfl⟩
      have HB := Lib.hid (show ∀ W, SS W → W.cell? ⟨D, 0, none⟩ = some (.slice A ar.length c) ∧ W.cell? ⟨D, 1, none⟩ = some (.slice Ar es.length cr) from by rw [hSS]; exact fun W hW => hW)
      have HC := Lib.hid (show ∀ W, W.cell? ⟨D, 0, none⟩ = some (.slice A ar.length c) → W.cell? ⟨D, 1, none⟩ = some (.slice Ar es.length cr) → SS W from by rw [hSS]; exact fun W h1 h2 => ⟨h1, h2⟩)
      clear hSS
      have SB := HC.out _ (HPy.out.prg.cell 0) (HPy.out.prg.cell 1)
      go_upto_region 9 with (fail)
      refine wp_region_rel SS 5 7 (by kernel_rfl) rfl ?_
      rw [← hwy]
      clear hwy
      refine wpAnyR_pure (i := 1) (oi := _) ?vk1 rfl rfl (by kernel_rfl) (by decide) (fun _ _ _ h => h) rfl ?hyk1 (fun _ => SB) ?restk1
      case hyk1 => (intro W; go_simp; (try with_reducible rfl))
      try simp only [List.setIfInBounds_toArray, List.set_cons_zero, List.set_cons_succ]
      refine wpAnyR_pure (i := 2) (oi := _) ?vk2 rfl rfl (by kernel_rfl) (by decide) (fun _ _ _ h => h) rfl ?hyk2 (fun _ => SB) ?restk2
      case hyk2 => (intro W; go_simp; (try with_reducible rfl))
      try simp only [List.setIfInBounds_toArray, List.set_cons_zero, List.set_cons_succ]
      refine wpAnyR_pure (i := 3) (oi := _) ?vk3 rfl rfl (by kernel_rfl) (by decide) (fun _ _ _ h => h) rfl ?hyk3 (fun _ => SB) ?restk3
      case hyk3 => (intro W; go_simp; (try with_reducible rfl))
      try simp only [List.setIfInBounds_toArray, List.set_cons_zero, List.set_cons_succ]
      refine wpAnyR_take (i := 0) (oi := _) ?vk0 rfl rfl (by kernel_rfl) (fun _ _ _ h => h) rfl ?hyk0 SB ?restk0
      case hyk0 => (intro W hW; obtain ⟨E0, E1⟩ := HB.out W hW; go_simp; (try with_reducible rfl))
      try simp only [List.setIfInBounds_toArray, List.set_cons_zero, List.set_cons_succ]
      refine wpAnyR_one (i := 4) (by kernel_rfl) rfl (fun K hK => ?_)
      try rw [if_pos (show Region.wanted _ _ = true from rfl)]
      go_simp
      refine (l1Some_any g bs (q + 1) most wc.heap.size w2.heap.size (.slice A9 zs9.length c9) zs9 wy Hy.out.2.2.1 (by omega) Hy.out.1 hgc Hy.out.2.1 HZ9.out (by omega) hm).mono ?_
      rintro e wn ⟨Af, cf, fs, qn, rfl, hfl, hft, hqn, ofs, hrn, hon⟩
      have HN := Lib.hid (And.intro ofs (And.intro hrn (Hy.out.2.2.2.trans hon)))
      have hsn := hon.size
      have H4n := Lib.hid (H1.out.go hgl hrn (Hy.out.2.2.2.trans hon))
      have j0 : wn.cell? ⟨w.heap.size, 0, none⟩ = some (.slice none 0 0) := H4n.out.res.cell 0
      have j1 : wn.cell? ⟨w.heap.size, 1, none⟩ = some (.slice none 0 0) := H4n.out.res.cell 1
      have l0 := H4n.out.res.frozen 0
      have l1 := H4n.out.res.frozen 1
      have SN := HC.out _ (H4n.out.prg.cell 0) (H4n.out.prg.cell 1)
      clear ofs hrn hon
      refine hK.out _ _ (fun _ => SN) ?_
      clear hK K
      try simp only [List.setIfInBounds_toArray, List.set_cons_zero, List.set_cons_succ, Act.put]
      refine wpAnyR_one (i := 5) (by kernel_rfl) rfl (fun K hK => ?_)
      try rw [if_pos (show Region.wanted _ _ = true from rfl)]
      go_simp
      refine hK.out _ _ (fun hf => absurd hf (by decide)) ?_
      clear hK K
      try simp only [List.setIfInBounds_toArray, List.set_cons_zero, List.set_cons_succ, Act.put]
      refine wpAnyR_one (i := 6) (by kernel_rfl) rfl (fun K hK => ?_)
      go_simp
      refine hK.out _ _ (fun hf => absurd hf (by decide)) ?_
      clear hK K
      refine wpAnyR_done (by kernel_rfl) ?_
      go_wp2_with (fail)
      obtain ⟨W, hW⟩ : ∃ W, W = (wn.setCell ⟨w.heap.size, 0, none⟩ (.slice A ar.length c)).setCell ⟨w.heap.size, 1, none⟩ (.slice Ar es.length cr) := ⟨_, rfl⟩
      rw [← hW]
      have hbk := (H4n.out.res.set_ 0 (.slice A ar.length c)).set_ 1 (.slice Ar es.length cr)
      rw [← hW] at hbk
      have d0 : W.cell? ⟨w.heap.size, 0, none⟩ = some (.slice A ar.length c) := by rw [hbk.cell 0]; simp
      have d1 : W.cell? ⟨w.heap.size, 1, none⟩ = some (.slice Ar es.length cr) := by rw [hbk.cell 1]; simp
      have hB := H4n.out.low
      have hH := H4n.out.high
      have hyB := HPy.out.prg.lt
      have hDn := H4n.out.prg.lt
      have hk : ∀ k, k ≠ w.heap.size → W.heap[k]? = wn.heap[k]? := fun k hk => by
        rw [hW]
        exact (Below.heap_setCell _ _ _ k hk).trans (Below.heap_setCell _ _ _ k hk)
      have hsz : W.heap.size = wn.heap.size := by rw [hW]; simp
      have hO := H4n.out.only
      refine bodyPost_ret (v := .tuple #[.agg #[.slice A ar.length c, .slice Ar es.length cr], .slice Af fs.length cf]) (by simp [results, Tryz.results14, go_sem, d0, d1]) rfl ?_
      refine ⟨A, Ar, Af, c, cr, cf, B, qn, ar, es, fs, rfl, HOK.out, hfl, hft, by omega, by omega, by omega, (H4n.out.own.keep fun k k1 k2 => hk k (by omega)).mono (by omega) (Nat.le_refl _), H4n.out.rules.keep (by rw [hsz]; exact Nat.le_refl _) (fun k k1 _ => hk k (by omega)), ?_, H4n.out.rdr.same fun k hk' => hk k (by omega), ⟨?_, ?_, ?_, by rw [hsz]; exact hO.size, fun k hk' hn => (hk k (by omega)).trans (hO.block k hk' hn)⟩⟩
      · rw [hsz]
        have ho2 : Only w.heap.size (w.heap.size + 1) wn W := by
          rw [hW]
          exact ((Only.refl w.heap.size (w.heap.size + 1) wn).setCell (p := ⟨w.heap.size, 0, none⟩) ⟨Nat.le_refl _, Nat.lt_succ_self _⟩ _).setCell (p := ⟨w.heap.size, 1, none⟩) ⟨Nat.le_refl _, Nat.lt_succ_self _⟩ _
        exact (HN.out.1.only ho2 (.inr (by omega))).mono (by omega) (Nat.le_refl _)
      · rw [hW]; exact hO.os
      · rw [hW]; exact hO.tape
      · rw [hW]; exact hO.output

end Go.Proofs.YtofkcmihcgmmpaaGreat
/-
  Some facts drawn, none twice: l1Some again.
-/
namespace Go.Proofs.YtofkcmihcgmmpaaGreat
open Go.RowKit

theorem asc_withN {fs : List LFact} (h : Asc fs) (f : LFact) : Asc (factsWith fs f) := by rw [h.with_ f]; exact h.ins
theorem asc_nodupN {fs : List LFact} (h : Asc fs) : fs.Nodup := h.imp fun h e => by
  subst e
  rw [order_refl] at h
  omega
theorem nodup_swapN {f0 f1 : LFact} {fs : List LFact} (h : Asc (f0 :: f1 :: fs)) : (f1 :: f0 :: fs).Nodup := (List.Perm.swap f1 f0 fs).nodup (asc_nodupN h)

set_option maxHeartbeats 2000000 in
set_option maxRecDepth 100000 in
theorem l1SomeN_any (g : Nat) (bs : List Nat) (p m lo hi : Nat) (v : Value) (ar : List Int) (w : World) (h : Rdr w g bs p) (hp : p ≤ 65536) (ha : OwnInts w lo hi v ar) (hg : g < lo) (hh : hi ≤ w.heap.size) (hr : ∀ x ∈ ar, 0 ≤ x ∧ x ≤ 2) (hl : ar.length ≤ 1048576) (hm : m ≤ 64) :
    Calls Tryz.prog 37 #[.pointer (some ⟨g, 0, none⟩), v, .int .i64 m] w fun e w' => ∃ (A : Option Addr) (c : Nat) (fs : List LFact) (q : Nat), e = .returned (.slice A fs.length c) ∧ (fs.Nodup ∧ fs.length ≤ m) ∧ tot fs ≤ 3 * m ∧ q ≤ p + 2 + 24 * m ∧
      OwnFacts w' w.heap.size w'.heap.size (.slice A fs.length c) fs ∧ Rdr w' g bs q ∧ Only g (g + 1) w w' := by
  obtain ⟨A0, c0, rfl⟩ := ha.form
  have hgl := h.lt
  have H := Lib.hid h
  have HA := Lib.hid ha
  have HR0 := Lib.hid hr
  clear h ha hr
  go_enter Tryz.func37, Tryz.ntmps37
  go_wp2_with (fail)
  refine (pick_any g bs p _ _ (H.out.below (below1 _ _) hgl) (by omega) (by omega)).mono ?_
  rintro e w1 ⟨⟨x, rfl, hx⟩, hpk⟩
  obtain ⟨j, rfl⟩ : ∃ j : Nat, x = (j : Int) := ⟨x.toNat, by have := hx.1 (by omega); omega⟩
  have hj : j ≤ m := by have := hx.1 (by omega); omega
  have HS := Lib.hid (show OwnFacts w1 w.heap.size w1.heap.size (.slice (some ⟨w.heap.size, 0, none⟩) 0 0) [] from (((ColRel.empty w).own.own.mono (Nat.le_refl _) (Nat.le_refl _)).offG hpk.2 hgl).mono (Nat.le_refl _) hpk.2.size)
  have HR1 := Lib.hid hpk.1
  have HO1 := Lib.hid ((Only.of_below (below1 w _)).trans hpk.2)
  clear hpk hx
  go_wp2_with (fail)
  go_loopw [7, 8] (fun o i wr => ∃ (k : Nat) (fs : List LFact) (A : Option Addr) (c q : Nat), i = .int .i64 k ∧ (Asc fs ∧ fs.length + k ≤ m) ∧ tot fs + 3 * k ≤ 3 * m ∧ q + 24 * k ≤ p + 1 + 24 * m ∧ o = .slice A fs.length c ∧ OwnFacts wr w.heap.size wr.heap.size (.slice A fs.length c) fs ∧ Rdr wr g bs q ∧ Only g (g + 1) w wr) (fun _ i _ => (intOf i).toNat)
  case atStart => exact ⟨j, [], _, 0, p + 1, rfl, ⟨List.Pairwise.nil, by simpa using hj⟩, by have : tot [] = 0 := rfl; omega, by omega, rfl, HS.out, HR1.out, HO1.out⟩
  case round =>
    obtain ⟨k, fs, A, c, q, rfl, ⟨has, hk⟩, htk, hqk, rfl, ho, hrd, hon⟩ := hrel
    have HAS := Lib.hid has
    clear has
    have HO := Lib.hid ho
    have HRD := Lib.hid hrd
    have hsz := hon.size
    have HN := Lib.hid hon
    have hfl : fs.length ≤ m := by omega
    clear ho hrd hon
    by_cases hlt : 0 < k
    · obtain ⟨k, rfl⟩ : ∃ k', k = k' + 1 := ⟨k - 1, by omega⟩
      have hd : decide ((0 : Int) < ((k + 1 : Nat) : Int)) = true := by simp
      go_wp2_with (fail)
      refine (l1Fact_own g bs q lo hi _ ar wr HRD.out (by omega) (HA.out.offG HN.out hg) hg (Nat.le_trans hh hsz) HR0.out hl).mono ?_
      rintro e w2 ⟨A3, c3, f, q3, rfl, hf, hq3, ho, hR, hO⟩
      have HF := Lib.hid ho
      have HR2 := Lib.hid hR
      have HO2 := Lib.hid hO
      have hs2 := hO.size
      clear ho hR hO
      go_wp2_with (fail)
      have RA := Lib.hid (show RdInts (w2.alloc (Obj.cells #[Value.int IntKind.i64 f.fst, Value.slice A3 f.snd.length c3] 35)) (w2.alloc (Obj.cells #[Value.int IntKind.i64 f.fst, Value.slice A3 f.snd.length c3] 35)).heap.size (.slice A0 ar.length c0) ar from
        (((HA.out.offG HN.out hg).offG HO2.out hg).rd.more (by omega)).on (below1 w2 _))
      have RB := Lib.hid (show RdFact (w2.alloc (Obj.cells #[Value.int IntKind.i64 f.fst, Value.slice A3 f.snd.length c3] 35)) (w2.alloc (Obj.cells #[Value.int IntKind.i64 f.fst, Value.slice A3 f.snd.length c3] 35)).heap.size (.agg #[.int .i64 f.1, .slice A3 f.2.length c3]) f from
        RdFact.on ⟨_, rfl, HF.out.rd⟩ (below1 w2 _))
      refine (specFactOk_any _ _ ar f _ RA.out RB.out hl (by omega)).mono ?_
      rintro e w3 ⟨rfl, hb3⟩
      have B3 := bthen (below1 w2 _) hb3
      have hs3 := B3.size
      have K3 : Blk w3 w2.heap.size 35 #[.int .i64 f.1, .slice A3 f.2.length c3] := (Blk.new w2 _ _).below hb3 (by simp)
      have O3 : OwnFacts w3 w.heap.size wr.heap.size (.slice A fs.length c) fs := (HO.out.offG HO2.out (by omega)).below B3 hs2
      have F3 : OwnInts w3 wr.heap.size w2.heap.size (.slice A3 f.2.length c3) f.2 := HF.out.below B3 (Nat.le_refl _)
      have R3 := HR2.out.below B3 HR2.out.lt
      have N3 := HN.out.trans (HO2.out.trans (Only.of_below (lo := g) (hi := g + 1) B3))
      have hbd := factsWith_bound fs f
      have hgr : g < w3.heap.size := R3.lt
      clear hb3 B3 HRD HR2 HO2 HO HF RA RB HN
      cases hok : factOk ar f
      · have HX3 := Lib.hid (And.intro O3 (And.intro F3 (And.intro R3 N3)))
        have HK3 := Lib.hid K3
        clear O3 F3 N3 K3
        have HR3 := Lib.hid R3
        clear R3
        go_wp2_with (fail)
        refine (pick_any g bs q3 _ _ HR3.out (by omega) (by omega)).mono ?_
        rintro e w4 ⟨⟨x, rfl, _⟩, hpk⟩
        have hs4 := hpk.2.size
        have K4 := HK3.out.only hpk.2 (.inr (by omega))
        obtain ⟨O3, F3, _, N3⟩ := HX3.out
        have O4 := (O3.offG hpk.2 (by omega)).mono (Nat.le_refl _) (show wr.heap.size ≤ w4.heap.size by omega)
        have F4 := (F3.offG hpk.2 (by omega)).rd.more (show w2.heap.size ≤ w4.heap.size by omega)
        have R4 := hpk.1
        have N4 := N3.trans hpk.2
        have k0 : w4.cell? ⟨w2.heap.size, 0, none⟩ = some (.int .i64 f.1) := K4.cell 0
        have k1 : w4.cell? ⟨w2.heap.size, 1, none⟩ = some (.slice A3 f.2.length c3) := K4.cell 1
        clear hpk O3 F3 N3 K4 HX3 HK3 HR3
        have HX4 := Lib.hid (And.intro O4 (And.intro F4 (And.intro R4 N4)))
        clear O4 F4 R4 N4
        by_cases hx0 : x = 0
        · subst hx0
          go_wp2_with (fail)
          refine (specFactsWith_any _ _ fs f _ HX4.out.1.rd ⟨_, rfl, HX4.out.2.1⟩ (by omega) (by omega) (by omega)).mono ?_
          rintro e w5 ⟨A5, c5, rfl, ho5, hb5⟩
          have HE := Lib.hid (show OwnFacts w5 w.heap.size w5.heap.size _ _ from ho5.mono (by omega) (Nat.le_refl _))
          have HR5 := Lib.hid (HX4.out.2.2.1.below hb5 (by omega))
          have HN5 := Lib.hid (HX4.out.2.2.2.trans (Only.of_below (lo := g) (hi := g + 1) hb5))
          clear ho5 hb5
          go_wp2_with (fail)
          go_roundw
          case rel => exact ⟨k, factsWith fs f, A5, c5, q3 + 1, by go_num, ⟨asc_withN HAS.out f, by omega⟩, by omega, by omega, rfl, HE.out, HR5.out, HN5.out⟩
          case measure => simp [intOf]
        · have hd0 : (x == 0) = false := by simpa using hx0
          go_wp2_with (fail)
          go_roundw
          case rel => exact ⟨k, fs, A, c, q3 + 1, by go_num, ⟨HAS.out, by omega⟩, by omega, by omega, rfl, HX4.out.1, HX4.out.2.2.1, HX4.out.2.2.2⟩
          case measure => simp [intOf]
      · have k0 : w3.cell? ⟨w2.heap.size, 0, none⟩ = some (.int .i64 f.1) := K3.cell 0
        have k1 : w3.cell? ⟨w2.heap.size, 1, none⟩ = some (.slice A3 f.2.length c3) := K3.cell 1
        have HX3 := Lib.hid (And.intro O3 (And.intro F3 (And.intro R3 N3)))
        clear O3 F3 R3 N3 K3
        go_wp2_with (fail)
        refine (specFactsWith_any _ _ fs f _ (HX3.out.1.rd.more (by omega)) ⟨_, rfl, HX3.out.2.1.rd.more (by omega)⟩ (by omega) (by omega) (by omega)).mono ?_
        rintro e w5 ⟨A5, c5, rfl, ho5, hb5⟩
        have HE := Lib.hid (show OwnFacts w5 w.heap.size w5.heap.size _ _ from ho5.mono (by omega) (Nat.le_refl _))
        have HR5 := Lib.hid (HX3.out.2.2.1.below hb5 (by omega))
        have HN5 := Lib.hid (HX3.out.2.2.2.trans (Only.of_below (lo := g) (hi := g + 1) hb5))
        clear ho5 hb5
        go_wp2_with (fail)
        go_roundw
        case rel => exact ⟨k, factsWith fs f, A5, c5, q3, by go_num, ⟨asc_withN HAS.out f, by omega⟩, by omega, by omega, rfl, HE.out, HR5.out, HN5.out⟩
        case measure => simp [intOf]
    · have hk0 : k = 0 := by omega
      subst hk0
      by_cases h1 : 1 < fs.length
      · obtain ⟨f0, f1, fs, rfl⟩ : ∃ f0 f1 fs', fs = f0 :: f1 :: fs' := by
          rcases fs with _ | ⟨f0, _ | ⟨f1, fs⟩⟩
          · simp at h1
          · simp at h1
          · exact ⟨f0, f1, fs, rfl⟩
        have hd1 : decide ((1 : Int) < ((f0 :: f1 :: fs).length : Int)) = true := by simp only [List.length_cons]; simp; omega
        go_wp2_with (fail)
        refine (pick_any g bs q _ _ HRD.out (by omega) (by omega)).mono ?_
        rintro e w3 ⟨⟨x, rfl, _⟩, hpk⟩
        have O3 := (HO.out.offG hpk.2 hgl).mono (Nat.le_refl _) hpk.2.size
        have HN3 := Lib.hid (HN.out.trans hpk.2)
        have HR3 := Lib.hid hpk.1
        have hs3 := hpk.2.size
        clear hpk
        by_cases hx0 : x = 0
        · subst hx0
          obtain ⟨g2, cp, B0, d0, B1, d1, e0, hlo, hhi, k0, k1, k2, k3, kf, hsw⟩ := O3.swap (Nat.le_refl _)
          injection e0 with e1 _ e3
          subst e1
          subst e3
          have f0' := kf 0
          have f1' := kf 1
          have f2' := kf 2
          have f3' := kf 3
          have HSW := Lib.hid hsw
          clear hsw kf
          go_wp2_with (fail)
          go_ret
          refine ⟨some ⟨g2, 0, none⟩, _, f1 :: f0 :: fs, q + 1, rfl, ⟨nodup_swapN HAS.out, by simpa using hk⟩, by simp only [tot_cons] at htk ⊢; omega, by omega, ?_⟩
          have hso := HSW.out w3 (Below.refl _ _)
          have hkb : ∀ b, b ≠ g2 → ((((w3.setCell ⟨g2, 0, none⟩ (.int .i64 f1.1)).setCell ⟨g2, 1, none⟩ (.slice B1 f1.2.length d1)).setCell ⟨g2, 2, none⟩ (.int .i64 f0.1)).setCell ⟨g2, 3, none⟩ (.slice B0 f0.2.length d0)).heap[b]? = w3.heap[b]? := fun b hne =>
            (Below.heap_setCell _ ⟨g2, 3, none⟩ _ _ hne).trans ((Below.heap_setCell _ ⟨g2, 2, none⟩ _ _ hne).trans ((Below.heap_setCell _ ⟨g2, 1, none⟩ _ _ hne).trans (Below.heap_setCell _ ⟨g2, 0, none⟩ _ _ hne)))
          have hN3 := HN3.out
          have hR3 := HR3.out
          have ho : Only g (g + 1) w ((((w3.setCell ⟨g2, 0, none⟩ (.int .i64 f1.1)).setCell ⟨g2, 1, none⟩ (.slice B1 f1.2.length d1)).setCell ⟨g2, 2, none⟩ (.int .i64 f0.1)).setCell ⟨g2, 3, none⟩ (.slice B0 f0.2.length d0)) :=
            ⟨hN3.os, hN3.tape, hN3.output, by simpa using hN3.size, fun k hk hn => (hkb k (by omega)).trans (hN3.block k hk hn)⟩
          have hsz4 : ((((w3.setCell ⟨g2, 0, none⟩ (.int .i64 f1.1)).setCell ⟨g2, 1, none⟩ (.slice B1 f1.2.length d1)).setCell ⟨g2, 2, none⟩ (.int .i64 f0.1)).setCell ⟨g2, 3, none⟩ (.slice B0 f0.2.length d0)).heap.size = w3.heap.size := by simp
          have hr4 := hR3.same (w' := ((((w3.setCell ⟨g2, 0, none⟩ (.int .i64 f1.1)).setCell ⟨g2, 1, none⟩ (.slice B1 f1.2.length d1)).setCell ⟨g2, 2, none⟩ (.int .i64 f0.1)).setCell ⟨g2, 3, none⟩ (.slice B0 f0.2.length d0))) fun k hk => hkb k (by omega)
          exact ⟨(hso.below (below1 _ _) (by omega)).mono (Nat.le_refl _) (by rw [World.size_alloc]; omega), hr4.below (below1 _ _) (by omega), ho.trans (Only.of_below (below1 _ _))⟩
        · have hd0 : (x == 0) = false := by simpa using hx0
          have HO3 := Lib.hid O3
          clear O3
          go_wp2_with (fail)
          go_ret
          exact ⟨A, c, f0 :: f1 :: fs, q + 1, rfl, ⟨asc_nodupN HAS.out, by simpa using hk⟩, by simpa using htk, by omega, HO3.out, HR3.out, HN3.out⟩
      · have hd1 : decide ((1 : Int) < (fs.length : Int)) = false := by simp; omega
        go_wp2_with (fail)
        go_ret
        exact ⟨A, c, fs, q, rfl, ⟨asc_nodupN HAS.out, by simpa using hk⟩, by simpa using htk, by omega, HO.out, HRD.out, HN.out⟩

end Go.Proofs.YtofkcmihcgmmpaaGreat
/-
  A case drawn whose facts are none twice: l3Case again.
-/
namespace Go.Proofs.YtofkcmihcgmmpaaGreat
open Go.RowKit

set_option maxHeartbeats 4000000 in
set_option maxRecDepth 100000 in
theorem l3CaseN_any (g : Nat) (bs : List Nat) (p most : Nat) (no : Int) (w : World) (h : Rdr w g bs p) (hp : p ≤ 50000) (hm : most ≤ 64) :
    Calls Tryz.prog 14 #[.pointer (some ⟨g, 0, none⟩), .int .i64 no, .int .i64 most] w fun e w' => ∃ (A Ar Af : Option Addr) (c cr cf B q : Nat) (ar : List Int) (es : List Ent) (fs : List LFact), e = .returned (.tuple #[.agg #[.slice A ar.length c, .slice Ar es.length cr], .slice Af fs.length cf]) ∧ AnyOk ar es ∧ (fs.Nodup ∧ fs.length ≤ most) ∧ tot fs ≤ 3 * most ∧ q ≤ p + 1710 + 24 * most ∧
      w.heap.size ≤ B ∧ B ≤ w'.heap.size ∧ OwnInts w' w.heap.size B (.slice A ar.length c) ar ∧ RowR B w' es Ar cr ∧ OwnFacts w' B w'.heap.size (.slice Af fs.length cf) fs ∧ Rdr w' g bs q ∧ Only g (g + 1) w w' := by
  have hgl := h.lt
  have H := Lib.hid h
  clear h
  go_enter Tryz.func14, Tryz.ntmps14
  go_wp2_with (fail)
  refine (l2Any_any g bs p no _ (H.out.below (below1 w (.cells #[.slice none 0 0, .slice none 0 0] 45)) H.out.lt) (by omega)).mono ?_
  rintro e w1 ⟨A, Ar, c, cr, B, q, ar, es, rfl, hok, hq, hB, hB2, h1, h2, h3, h4⟩
  have HOK := Lib.hid hok
  simp only [World.size_alloc] at hB h1
  have HQ := Lib.hid (And.intro hB (And.intro hB2 (And.intro h1 (And.intro h2 (And.intro h3 h4)))))
  have hal4 := hok.1
  have hal5 := hok.2.1
  clear hok hB hB2 h1 h2 h3 h4
  go_upto_region 2 with (fail)
  obtain ⟨wc, hwc⟩ : ∃ wS, wS = w1.alloc (.cells #[.slice A ar.length c, .slice Ar es.length cr] 45) := ⟨_, rfl⟩
  have H1 := Lib.hid (Pg4.start hgl HQ.out.1 HQ.out.2.1 hwc HQ.out.2.2.1 HQ.out.2.2.2.1 HQ.out.2.2.2.2.1 HQ.out.2.2.2.2.2)
  rw [← hwc]
  clear hwc HQ
  obtain ⟨D, hD⟩ : ∃ D, D = w1.heap.size := ⟨_, rfl⟩
  rw [← hD] at H1 ⊢
  clear hD
  have k0 : wc.cell? ⟨D, 0, none⟩ = some (.slice A ar.length c) := H1.out.prg.cell 0
  have hgc : g < wc.heap.size := H1.out.rdr.lt
  have HSZ := Lib.hid H1.out.only.size
  have hDc := H1.out.prg.lt
  go_wp2_with (fail)
  refine (l3Copy_any (.slice A ar.length c) ar wc (H1.out.own.rd.more (by have := H1.out.high; omega)) (by omega)).mono ?_
  rintro e w2 ⟨A4, c4, rfl, o4, b4⟩
  have HI := Lib.hid o4
  have HO2 := Lib.hid (Only.of_below (lo := g) (hi := g + 1) b4)
  have HR2 := Lib.hid (H1.out.rdr.below b4 hgc)
  have hs2 := b4.size
  clear o4 b4 k0
  go_wp2_with (fail)
  go_loopw [10] (fun i wr => ∃ (k : Nat) (zs : List Int), k ≤ ar.length ∧ i = .int .i64 k ∧ zs.length = ar.length ∧ (∀ x ∈ zs, 0 ≤ x ∧ x ≤ 3) ∧ (∀ j (h : j < zs.length), j < k → zs[j] ≤ 2) ∧ OwnInts wr wc.heap.size w2.heap.size (.slice A4 ar.length c4) zs ∧ Rdr wr g bs q ∧ Only g (g + 1) wc wr ∧ wr.heap.size = w2.heap.size) (fun i _ => ar.length - (intOf i).toNat)
  case atStart => exact ⟨0, ar, Nat.zero_le _, rfl, rfl, HOK.out.2.2.1, fun j _ h => absurd h (Nat.not_lt_zero _), HI.out, HR2.out, HO2.out, rfl⟩
  case round =>
    obtain ⟨k, zs, hk, rfl, hzl, hz3, hz2, hzo, hrr, hor, hsr⟩ := hrel
    have HZL := Lib.hid hzl
    have HZ := Lib.hid (And.intro hz3 (And.intro hz2 (And.intro hzo (And.intro hrr (And.intro hor hsr)))))
    by_cases hlt : k < ar.length
    · have hlz : k < zs.length := by omega
      obtain ⟨g4, hg4⟩ : ∃ g4, A4 = some ⟨g4, 0, none⟩ := by
        obtain ⟨g2, cap, e, _⟩ := hzo.1.form (by omega)
        injection e with e1 _ _
        exact ⟨g2, e1⟩
      subst hg4
      rw [← hzl] at hzo
      have HST := Lib.hid (fun x => hzo.store (j := k) rfl hlz x)
      have r0 := hzo.1.cellAt k (by omega)
      have r1 := hzo.1.frozenAt k
      have hg4l := hzo.lt (g := g4) rfl
      have hg4w : wc.heap.size ≤ g4 := hg4l.1
      rw [show (zs.map (Value.int .i64))[k]? = some (.int .i64 zs[k]) by simp [hlz]] at r0
      have hkb : decide ((k : Int) < (ar.length : Int)) = true := by rw [decide_eq_true_eq]; omega
      clear hzl hz3 hz2 hzo hrr hor hsr hg4l
      go_wp2_with (go_at_call 36; refine (l6Least_any zs[k] 2 wr).mono ?_; rintro e wn ⟨rfl, rfl⟩)
      go_roundw
      case rel =>
        obtain ⟨z3, z2, zo, rr, orr, sr⟩ := HZ.out
        obtain ⟨x, hx⟩ : ∃ x, x = (if (2 : Int) < zs[k] then 2 else zs[k]) := ⟨_, rfl⟩
        have hxr : 0 ≤ x ∧ x ≤ 2 := by
          have := z3 _ (List.getElem_mem hlz)
          rw [hx]
          split <;> omega
        rw [← hx]
        refine ⟨k + 1, zs.set k x, by omega, by go_num, by rw [List.length_set]; exact HZL.out, fun y hy => ?_, fun j hj hjk => ?_, ?_, rr.same fun k' hk' => Below.heap_setCell _ _ _ k' (by show k' ≠ g4; omega), orr.setNew (p := ⟨g4, k, none⟩) hg4w _, by simpa using sr⟩
        · rcases List.mem_or_eq_of_mem_set hy with h | h
          · exact z3 y h
          · omega
        · by_cases e : k = j
          · subst e
            rw [List.getElem_set_self]
            exact hxr.2
          · rw [List.getElem_set_ne e]
            exact z2 j (by simpa using hj) (by omega)
        · have := HST.out x
          rw [HZL.out] at this
          exact this
      case measure => simp [intOf]; omega
    · have hkb : decide ((k : Int) < (ar.length : Int)) = false := by rw [decide_eq_false_iff_not]; omega
      have hz2' : ∀ x ∈ zs, 0 ≤ x ∧ x ≤ 2 := fun x hx => by
        obtain ⟨j, hj, rfl⟩ := List.getElem_of_mem hx
        exact ⟨(hz3 _ (List.getElem_mem hj)).1, hz2 j hj (by omega)⟩
      have HZ2 := Lib.hid (And.intro hz2' (And.intro hzo (And.intro hrr (And.intro hor hsr))))
      have hgr : g < wr.heap.size := hrr.lt
      clear hzl hz3 hz2 hz2' hzo hrr hor hsr HZ HI HR2 HO2
      go_upto_region 7 with (fail)
      obtain ⟨wl, rfl⟩ : ∃ wl, wl = wr := ⟨_, rfl⟩
      go_cut [38] (fun s38 wx => CapF wc wx g bs (q + 1) wc.heap.size w2.heap.size A4 c4 zs s38)
      case first =>
        go_wp2_with (fail)
        refine (pick_any g bs q 5 _ HZ2.out.2.2.1 (by omega) (by omega)).mono ?_
        rintro e w4 ⟨⟨x, rfl, _⟩, hp4⟩
        have H4 := Lib.hid (show OwnInts w4 wc.heap.size w2.heap.size (.slice A4 zs.length c4) zs ∧ w2.heap.size ≤ w4.heap.size ∧ Rdr w4 g bs (q + 1) ∧ Only g (g + 1) wc w4 from ⟨by rw [HZL.out]; exact HZ2.out.2.1.only hp4.2 (.inr hgc), by have := hp4.2.size; have := HZ2.out.2.2.2.2; omega, hp4.1, HZ2.out.2.2.2.1.trans hp4.2⟩)
        clear hp4
        by_cases hx : 0 < x
        · have hxb : decide (0 < x) = true := by simpa using hx
          have hlb : decide (2 < (ar.length : Int)) = true := by rw [decide_eq_true_eq]; omega
          go_wp2_with (fail)
          go_meet
          exact ⟨true, rfl, H4.out⟩
        · have hxb : decide (0 < x) = false := by simpa using hx
          go_wp2_with (fail)
          go_meet
          exact ⟨false, rfl, H4.out⟩
      case rest =>
      obtain ⟨fl, rfl, hcf⟩ := hcut
      rename World => w4
      have H4 := Lib.hid hcf
      clear hcf
      go_upto_if 38 with (fail)
      go_cut [9] (fun s9 wx => CapAt wc wx g bs (q + 1) wc.heap.size w2.heap.size s9)
      case first =>
        cases fl
        · go_wp2_with (fail)
          go_meet
          exact ⟨A4, c4, zs, by rw [HZL.out], by rw [HZL.out]; exact hal5, HZ2.out.1, H4.out⟩
        · have HFR := Lib.hid (H4.out.1.front (n := 2) (by rw [HZL.out]; omega) (by rw [HZL.out]; omega))
          obtain ⟨g4, hg4⟩ : ∃ g4, A4 = some ⟨g4, 0, none⟩ := by
            obtain ⟨g2, cap, e, _⟩ := H4.out.1.1.form (by rw [HZL.out]; omega)
            injection e with e1 _ _
            exact ⟨g2, e1⟩
          subst hg4
          have hc4 : ar.length ≤ c4 := by rw [← HZL.out]; exact H4.out.1.capLe
          go_wp2_with (fail)
          go_meet
          exact ⟨some ⟨g4, 0, none⟩, c4, zs.take 2, by simp [HZL.out]; omega, by simp; omega, fun x hx => HZ2.out.1 x (List.mem_of_mem_take hx), by
            have e : (zs.take 2).length = 2 := by simp [HZL.out]; omega
            rw [e]
            exact HFR.out, H4.out.2⟩
      case rest =>
      obtain ⟨A9, c9, zs9, rfl, hz9, hz9r, ho9, hh9, hr9, hO9⟩ := hcut
      rename World => w5
      have HZ9 := Lib.hid hz9r
      have H5 := Lib.hid (And.intro ho9 (And.intro hh9 (And.intro hr9 hO9)))
      clear ho9 hh9 hr9 hO9 hz9r H4
      obtain ⟨wy, hwy⟩ : ∃ wy, wy = w5.drew := ⟨_, rfl⟩
      have Hy := Lib.hid (show OwnInts wy wc.heap.size w2.heap.size (.slice A9 zs9.length c9) zs9 ∧ w2.heap.size ≤ wy.heap.size ∧ Rdr wy g bs (q + 1) ∧ Only g (g + 1) wc wy by rw [hwy]; exact ⟨H5.out.1.below (Below.refl _ _).drew H5.out.2.1, H5.out.2.1, H5.out.2.2.1.below (Below.refl _ _).drew H5.out.2.2.1.lt, H5.out.2.2.2.trans (Only.of_below (Below.refl _ _).drew)⟩)
      have HPy := Lib.hid (H1.out.go hgl Hy.out.2.2.1 Hy.out.2.2.2)
      obtain ⟨SS, hSS⟩ : ∃ SS : World → Prop, SS = (fun W => W.cell? ⟨D, 0, none⟩ = some (.slice A ar.length c) ∧ W.cell? ⟨D, 1, none⟩ = some (.slice Ar es.length cr)) := ⟨_, rfl⟩
      have HB := Lib.hid (show ∀ W, SS W → W.cell? ⟨D, 0, none⟩ = some (.slice A ar.length c) ∧ W.cell? ⟨D, 1, none⟩ = some (.slice Ar es.length cr) from by rw [hSS]; exact fun W hW => hW)
      have HC := Lib.hid (show ∀ W, W.cell? ⟨D, 0, none⟩ = some (.slice A ar.length c) → W.cell? ⟨D, 1, none⟩ = some (.slice Ar es.length cr) → SS W from by rw [hSS]; exact fun W h1 h2 => ⟨h1, h2⟩)
      clear hSS
      have SB := HC.out _ (HPy.out.prg.cell 0) (HPy.out.prg.cell 1)
      go_upto_region 9 with (fail)
      refine wp_region_rel SS 5 7 (by kernel_rfl) rfl ?_
      rw [← hwy]
      clear hwy
      refine wpAnyR_pure (i := 1) (oi := _) ?vk1 rfl rfl (by kernel_rfl) (by decide) (fun _ _ _ h => h) rfl ?hyk1 (fun _ => SB) ?restk1
      case hyk1 => (intro W; go_simp; (try with_reducible rfl))
      try simp only [List.setIfInBounds_toArray, List.set_cons_zero, List.set_cons_succ]
      refine wpAnyR_pure (i := 2) (oi := _) ?vk2 rfl rfl (by kernel_rfl) (by decide) (fun _ _ _ h => h) rfl ?hyk2 (fun _ => SB) ?restk2
      case hyk2 => (intro W; go_simp; (try with_reducible rfl))
      try simp only [List.setIfInBounds_toArray, List.set_cons_zero, List.set_cons_succ]
      refine wpAnyR_pure (i := 3) (oi := _) ?vk3 rfl rfl (by kernel_rfl) (by decide) (fun _ _ _ h => h) rfl ?hyk3 (fun _ => SB) ?restk3
      case hyk3 => (intro W; go_simp; (try with_reducible rfl))
      try simp only [List.setIfInBounds_toArray, List.set_cons_zero, List.set_cons_succ]
      refine wpAnyR_take (i := 0) (oi := _) ?vk0 rfl rfl (by kernel_rfl) (fun _ _ _ h => h) rfl ?hyk0 SB ?restk0
      case hyk0 => (intro W hW; obtain ⟨E0, E1⟩ := HB.out W hW; go_simp; (try with_reducible rfl))
      try simp only [List.setIfInBounds_toArray, List.set_cons_zero, List.set_cons_succ]
      refine wpAnyR_one (i := 4) (by kernel_rfl) rfl (fun K hK => ?_)
      try rw [if_pos (show Region.wanted _ _ = true from rfl)]
      go_simp
      refine (l1SomeN_any g bs (q + 1) most wc.heap.size w2.heap.size (.slice A9 zs9.length c9) zs9 wy Hy.out.2.2.1 (by omega) Hy.out.1 hgc Hy.out.2.1 HZ9.out (by omega) hm).mono ?_
      rintro e wn ⟨Af, cf, fs, qn, rfl, ⟨hnd, hfl⟩, hft, hqn, ofs, hrn, hon⟩
      have HN := Lib.hid (And.intro ofs (And.intro hrn (Hy.out.2.2.2.trans hon)))
      have hsn := hon.size
      have HND := Lib.hid hnd
      clear hnd
      have H4n := Lib.hid (H1.out.go hgl hrn (Hy.out.2.2.2.trans hon))
      have j0 : wn.cell? ⟨w.heap.size, 0, none⟩ = some (.slice none 0 0) := H4n.out.res.cell 0
      have j1 : wn.cell? ⟨w.heap.size, 1, none⟩ = some (.slice none 0 0) := H4n.out.res.cell 1
      have l0 := H4n.out.res.frozen 0
      have l1 := H4n.out.res.frozen 1
      have SN := HC.out _ (H4n.out.prg.cell 0) (H4n.out.prg.cell 1)
      clear ofs hrn hon
      refine hK.out _ _ (fun _ => SN) ?_
      clear hK K
      try simp only [List.setIfInBounds_toArray, List.set_cons_zero, List.set_cons_succ, Act.put]
      refine wpAnyR_one (i := 5) (by kernel_rfl) rfl (fun K hK => ?_)
      try rw [if_pos (show Region.wanted _ _ = true from rfl)]
      go_simp
      refine hK.out _ _ (fun hf => absurd hf (by decide)) ?_
      clear hK K
      try simp only [List.setIfInBounds_toArray, List.set_cons_zero, List.set_cons_succ, Act.put]
      refine wpAnyR_one (i := 6) (by kernel_rfl) rfl (fun K hK => ?_)
      go_simp
      refine hK.out _ _ (fun hf => absurd hf (by decide)) ?_
      clear hK K
      refine wpAnyR_done (by kernel_rfl) ?_
      go_wp2_with (fail)
      obtain ⟨W, hW⟩ : ∃ W, W = (wn.setCell ⟨w.heap.size, 0, none⟩ (.slice A ar.length c)).setCell ⟨w.heap.size, 1, none⟩ (.slice Ar es.length cr) := ⟨_, rfl⟩
      rw [← hW]
      have hbk := (H4n.out.res.set_ 0 (.slice A ar.length c)).set_ 1 (.slice Ar es.length cr)
      rw [← hW] at hbk
      have d0 : W.cell? ⟨w.heap.size, 0, none⟩ = some (.slice A ar.length c) := by rw [hbk.cell 0]; simp
      have d1 : W.cell? ⟨w.heap.size, 1, none⟩ = some (.slice Ar es.length cr) := by rw [hbk.cell 1]; simp
      have hB := H4n.out.low
      have hH := H4n.out.high
      have hyB := HPy.out.prg.lt
      have hDn := H4n.out.prg.lt
      have hk : ∀ k, k ≠ w.heap.size → W.heap[k]? = wn.heap[k]? := fun k hk => by
        rw [hW]
        exact (Below.heap_setCell _ _ _ k hk).trans (Below.heap_setCell _ _ _ k hk)
      have hsz : W.heap.size = wn.heap.size := by rw [hW]; simp
      have hO := H4n.out.only
      refine bodyPost_ret (v := .tuple #[.agg #[.slice A ar.length c, .slice Ar es.length cr], .slice Af fs.length cf]) (by simp [results, Tryz.results14, go_sem, d0, d1]) rfl ?_
      refine ⟨A, Ar, Af, c, cr, cf, B, qn, ar, es, fs, rfl, HOK.out, ⟨HND.out, hfl⟩, hft, by omega, by omega, by omega, (H4n.out.own.keep fun k k1 k2 => hk k (by omega)).mono (by omega) (Nat.le_refl _), H4n.out.rules.keep (by rw [hsz]; exact Nat.le_refl _) (fun k k1 _ => hk k (by omega)), ?_, H4n.out.rdr.same fun k hk' => hk k (by omega), ⟨?_, ?_, ?_, by rw [hsz]; exact hO.size, fun k hk' hn => (hk k (by omega)).trans (hO.block k hk' hn)⟩⟩
      · rw [hsz]
        have ho2 : Only w.heap.size (w.heap.size + 1) wn W := by
          rw [hW]
          exact ((Only.refl w.heap.size (w.heap.size + 1) wn).setCell (p := ⟨w.heap.size, 0, none⟩) ⟨Nat.le_refl _, Nat.lt_succ_self _⟩ _).setCell (p := ⟨w.heap.size, 1, none⟩) ⟨Nat.le_refl _, Nat.lt_succ_self _⟩ _
        exact (HN.out.1.only ho2 (.inr (by omega))).mono (by omega) (Nat.le_refl _)
      · rw [hW]; exact hO.os
      · rw [hW]; exact hO.tape
      · rw [hW]; exact hO.output

end Go.Proofs.YtofkcmihcgmmpaaGreat
/-
  Two lists of facts drawn: the arguments of FactsEither.
-/
namespace Go.Proofs.YtofkcmihcgmmpaaGreat
open Go.RowKit

/-- A call's two lists. -/
def TwoFacts (w w' : World) (e : Ending) : Prop := ∃ (A : Option Addr) (c : Nat) (fs : List LFact) (A2 : Option Addr) (c2 : Nat) (gs : List LFact), e = .returned (.tuple #[.slice A fs.length c, .slice A2 gs.length c2]) ∧ fs.length ≤ 6 ∧ tot fs ≤ 18 ∧ gs.length ≤ 6 ∧ tot gs ≤ 18 ∧
  RdFacts w' w'.heap.size (.slice A fs.length c) fs ∧ RdFacts w' w'.heap.size (.slice A2 gs.length c2) gs ∧ Below w.heap.size w w'

end Go.Proofs.YtofkcmihcgmmpaaGreat
/-
  The walks of FactsOk: the program's and the specification's.
-/
namespace Go.Proofs.YtofkcmihcgmmpaaGreat
open Go.RowKit

def roundOk (ar : List Int) (fs : List LFact) (k : Nat) : Bool := factFits ar (fs.getD k (0, [])) && (decide (k = 0) || decide (factOrder (fs.getD (k - 1) (0, [])) (fs.getD k (0, [])) < 0))
def factsOk (ar : List Int) (fs : List LFact) : Bool := arityOk ar && (List.range fs.length).all (roundOk ar fs)
def OkTo (ar : List Int) (fs : List LFact) (k : Nat) : Prop := (List.range k).all (roundOk ar fs) = true
theorem OkTo.step {ar : List Int} {fs : List LFact} {k : Nat} (h : OkTo ar fs k) (e : roundOk ar fs k = true) : OkTo ar fs (k + 1) := by
  unfold OkTo at h ⊢
  rw [List.range_succ, List.all_append, h]
  simp [e]
theorem round_not {ar : List Int} {fs : List LFact} {k : Nat} (hk : k < fs.length) (e : roundOk ar fs k = false) : factsOk ar fs = false := by
  unfold factsOk
  have : (List.range fs.length).all (roundOk ar fs) = false := by
    rw [List.all_eq_false]
    exact ⟨k, List.mem_range.2 hk, by simp [e]⟩
  rw [this, Bool.and_false]
theorem getD_at {α : Type} {l : List α} {k : Nat} (h : k < l.length) {d : α} : l.getD k d = l[k] := by simp [h]
theorem round_first {ar : List Int} {fs : List LFact} {k : Nat} (hk : k < fs.length) (h : factFits ar fs[k] = true) (h0 : k = 0) : roundOk ar fs k = true := by
  unfold roundOk
  rw [getD_at hk, h]
  simp [h0]
theorem round_next {ar : List Int} {fs : List LFact} {j : Nat} (hk : j + 1 < fs.length) (hj : j < fs.length) (h : factFits ar fs[j + 1] = true) : roundOk ar fs (j + 1) = decide (factOrder fs[j] fs[j + 1] < 0) := by
  unfold roundOk
  rw [getD_at hk, h, Nat.add_sub_cancel, getD_at hj]
  simp
theorem round_unfit {ar : List Int} {fs : List LFact} {k : Nat} (hk : k < fs.length) (h : factFits ar fs[k] = false) : roundOk ar fs k = false := by
  unfold roundOk
  rw [getD_at hk, h]
  simp
theorem later_fact {w0 : World} {v : Value} {f : LFact} (h : RdFact w0 w0.heap.size v f) (x : Later w0) : RdFact x.val x.val.heap.size v f := h.on x.2
theorem later_ints {w0 : World} {v : Value} {f : List Int} (h : RdInts w0 w0.heap.size v f) (x : Later w0) : RdInts x.val x.val.heap.size v f := h.on x.2

end Go.Proofs.YtofkcmihcgmmpaaGreat
/-
  wrFacts on two slices that read as the same facts.
-/
namespace Go.Proofs.YtofkcmihcgmmpaaGreat
open Go.RowKit

theorem cmpL_self (xs : List Int) : cmpL xs xs = 0 := by
  induction xs with
  | nil => simp [cmpL]
  | cons x xs ih => simp [cmpL, ih]
theorem factOrder_self (f : LFact) : factOrder f f = 0 := by simp [factOrder, cmpL_self]

end Go.Proofs.YtofkcmihcgmmpaaGreat
/-
  The arguments of AllFacts drawn; the order turned round.
-/
namespace Go.Proofs.YtofkcmihcgmmpaaGreat
open Go.RowKit

theorem cmpI_turn (a b : Int) : cmpI a b = -cmpI b a := by
  unfold cmpI
  split <;> split <;> (try split) <;> omega
theorem cmpL_turn : ∀ xs ys : List Int, cmpL xs ys = -cmpL ys xs
  | [], [] => rfl
  | [], _ :: _ => rfl
  | _ :: _, [] => rfl
  | x :: xs, y :: ys => by
    unfold cmpL
    by_cases h : x = y
    · subst h
      simpa using cmpL_turn xs ys
    · rw [if_neg h, if_neg (fun e => h e.symm)]
      exact cmpI_turn x y
theorem factOrder_turn (f g : LFact) : factOrder f g = -factOrder g f := by
  unfold factOrder
  by_cases h : f.1 = g.1
  · rw [if_pos h, if_pos h.symm]
    exact cmpL_turn _ _
  · rw [if_neg h, if_neg (fun e => h e.symm)]
    exact cmpI_turn _ _

end Go.Proofs.YtofkcmihcgmmpaaGreat
/-
  The arguments of FactOk and of FactOrder drawn.
-/
namespace Go.Proofs.YtofkcmihcgmmpaaGreat
open Go.RowKit

/-- The two cells of a result's block set, of blocks behind it. -/
theorem keepTwo {w w3 : World} {lo hi lo2 hi2 : Nat} {v v2 : Value} {xs ys : List Int} {t : TypeId} {a b : Value} (h : Blk w3 w.heap.size t #[a, b]) (hv : OwnInts w3 lo hi v xs) (hv2 : OwnInts w3 lo2 hi2 v2 ys) (h1 : w.heap.size < lo) (h2 : w.heap.size < lo2) (hb : Below w.heap.size w w3) (x : Int) (u : Value) :
    Blk ((w3.setCell ⟨w.heap.size, 0, none⟩ (.int .i64 x)).setCell ⟨w.heap.size, 1, none⟩ u) w.heap.size t #[.int .i64 x, u] ∧ OwnInts ((w3.setCell ⟨w.heap.size, 0, none⟩ (.int .i64 x)).setCell ⟨w.heap.size, 1, none⟩ u) lo hi v xs ∧
    OwnInts ((w3.setCell ⟨w.heap.size, 0, none⟩ (.int .i64 x)).setCell ⟨w.heap.size, 1, none⟩ u) lo2 hi2 v2 ys ∧ Below w.heap.size w ((w3.setCell ⟨w.heap.size, 0, none⟩ (.int .i64 x)).setCell ⟨w.heap.size, 1, none⟩ u) :=
  ⟨by simpa using (h.set_ 0 (.int .i64 x)).set_ 1 u, (hv.set (.inl h1) _).set (.inl h1) _, (hv2.set (.inl h2) _).set (.inl h2) _, (hb.setCell (Nat.le_refl _) _).setCell (Nat.le_refl _) _⟩

theorem RdBytes.on {w w' : World} {v : Value} {bs : List Nat} (h : RdBytes w w.heap.size v bs) (hb : Below w.heap.size w w') : RdBytes w' w'.heap.size v bs := by
  obtain ⟨A, c, rfl, hc, hx⟩ := h.off (w' := w') (fun k hk => hb.block k hk)
  refine ⟨A, c, rfl, hc, fun hn => ?_⟩
  obtain ⟨b, o, rfl, hlt, hk⟩ := hx hn
  exact ⟨b, o, rfl, by have := hb.size; omega, hk⟩

end Go.Proofs.YtofkcmihcgmmpaaGreat
/-
  The arguments of FactsHas, FactsWith, FactsOf drawn.
-/
namespace Go.Proofs.YtofkcmihcgmmpaaGreat
open Go.RowKit

theorem OwnFacts.place {w : World} {lo hi c : Nat} {A : Option Addr} {fs : List LFact} (h : OwnFacts w lo hi (.slice A fs.length c) fs) {k : Nat} (hk : k < fs.length) :
    ∃ g A3 c3, A = some ⟨g, 0, none⟩ ∧ lo ≤ g ∧ g < hi ∧ w.cell? ⟨g, k * 2, none⟩ = some (.int .i64 fs[k].1) ∧ w.cell? ⟨g, k * 2 + 1, none⟩ = some (.slice A3 fs[k].2.length c3) ∧ OwnInts w lo hi (.slice A3 fs[k].2.length c3) fs[k].2 := by
  obtain ⟨av, ha, hr, hlt⟩ := h
  have hcells := @World.ownsRow.cells w lo 35 2 _ fs.length (flat fs av) hr
  have hl : av.length = fs.length := by simpa using ha.len
  have hb := hr.lt
  rcases hr.2 with ⟨e, e0⟩ | ⟨g, cap, cur, e, _⟩
  · omega
  · injection e with e1 _ _
    subst e1
    have h1 : OwnInts w lo hi (av[k]'(by omega)) fs[k].2 := by
      have := ha.own k (by simpa using hk) (by omega)
      simpa using this
    obtain ⟨A3, c3, e2⟩ := h1.form
    have d0 := hcells (g := g) rfl _ _ (flat_at fs av hl k hk (by omega)).1
    have d1 := hcells (g := g) rfl _ _ (flat_at fs av hl k hk (by omega)).2
    rw [Go.WideShapes.add_plain, Nat.zero_add] at d0 d1
    rw [e2] at d1
    exact ⟨g, A3, c3, rfl, (hb g rfl).1, hlt g rfl, d0, d1, e2 ▸ h1⟩

/-- A call's list of facts and a fact. -/
def HasDrawn (w w' : World) (e : Ending) : Prop := ∃ (A : Option Addr) (c : Nat) (fs : List LFact) (A3 : Option Addr) (c3 : Nat) (f : LFact), e = .returned (.tuple #[.slice A fs.length c, .agg #[.int .i64 f.1, .slice A3 f.2.length c3]]) ∧ fs.length ≤ 6 ∧ tot fs ≤ 18 ∧ f.2.length ≤ 18 ∧
  OwnFacts w' w.heap.size w'.heap.size (.slice A fs.length c) fs ∧ OwnInts w' w.heap.size w'.heap.size (.slice A3 f.2.length c3) f.2 ∧ Below w.heap.size w w'
/-- The tape was asked: nothing else has changed. -/
theorem HasDrawn.drew {w W : World} {e : Ending} (h : HasDrawn w W e) : HasDrawn w W.drew e := by
  obtain ⟨A, c, fs, A3, c3, f, h0, h1, h2, h3, h4, h5, h6⟩ := h
  have hb : Below W.heap.size W W.drew := (Below.refl _ _).drew
  exact ⟨A, c, fs, A3, c3, f, h0, h1, h2, h3, h4.below hb (Nat.le_refl _), h5.below hb (Nat.le_refl _), bthen h6 hb⟩

/-- The result's block is filled: all that stands behind it is as it was. -/
theorem hasDone {w w3 W : World} {fs : List LFact} {f : LFact} {A A3 : Option Addr} {c c3 lo : Nat} (h : Blk w3 w.heap.size 35 #[.int .i64 0, .slice none 0 0]) (hb : Below w.heap.size w w3) (hlo : w.heap.size < lo)
    (hf : OwnFacts w3 lo w3.heap.size (.slice A fs.length c) fs) (hi : OwnInts w3 lo w3.heap.size (.slice A3 f.2.length c3) f.2) (h1 : fs.length ≤ 6) (h2 : tot fs ≤ 18) (h3 : f.2.length ≤ 18)
    (hW : W = (w3.setCell ⟨w.heap.size, 0, none⟩ (.int .i64 f.1)).setCell ⟨w.heap.size, 1, none⟩ (.slice A3 f.2.length c3)) :
    W.cell? ⟨w.heap.size, 0, none⟩ = some (.int .i64 f.1) ∧ W.cell? ⟨w.heap.size, 1, none⟩ = some (.slice A3 f.2.length c3) ∧ HasDrawn w W (.returned (.tuple #[.slice A fs.length c, .agg #[.int .i64 f.1, .slice A3 f.2.length c3]])) := by
  have hB : Blk W w.heap.size 35 #[.int .i64 f.1, .slice A3 f.2.length c3] := by rw [hW]; simpa using (h.set_ 0 (.int .i64 f.1)).set_ 1 (.slice A3 f.2.length c3)
  have hO : Only w.heap.size (w.heap.size + 1) w3 W := by
    rw [hW]
    exact ((Only.refl _ _ w3).setCell (p := ⟨w.heap.size, 0, none⟩) ⟨Nat.le_refl _, Nat.lt_succ_self _⟩ _).setCell (p := ⟨w.heap.size, 1, none⟩) ⟨Nat.le_refl _, Nat.lt_succ_self _⟩ _
  have hbW : Below w.heap.size w W := by
    rw [hW]
    exact (hb.setCell (Nat.le_refl _) _).setCell (Nat.le_refl _) _
  have hs := hO.size
  exact ⟨hB.cell 0, hB.cell 1, A, c, fs, A3, c3, f, rfl, h1, h2, h3, (hf.offG hO hlo).mono (Nat.le_of_lt hlo) hs, (hi.offG hO hlo).mono (Nat.le_of_lt hlo) hs, hbW⟩

end Go.Proofs.YtofkcmihcgmmpaaGreat
/-
  A row of facts picked out of a list: the row is the call's own, the facts' integers lie in the list's blocks and are shared.
-/
namespace Go.Proofs.YtofkcmihcgmmpaaGreat
open Go.RowKit

/-- v is a row of facts, in a block that came behind wb; each fact's integers lie in [B, hi) of wb. -/
structure PickF (B hi : Nat) (wb wr : World) (v : Value) (fs : List LFact) (av : List Value) : Prop where
  row : wr.ownsRow wb.heap.size 35 2 v fs.length (flat fs av)
  len : av.length = fs.length
  own : ∀ i (h : i < fs.length) (h' : i < av.length), OwnInts wb B hi av[i] fs[i].2
section
variable {B hi : Nat} {wb wr w4 : World} {v v' a : Value} {fs : List LFact} {av : List Value} {f : LFact}
theorem PickF.empty (B hi : Nat) {wb wr : World} (h : wb.heap.size ≤ wr.heap.size) : PickF B hi wb (wr.alloc (.cells #[] 35)) (.slice (some ⟨wr.heap.size, 0, none⟩) 0 0) [] [] :=
  ⟨World.ownsRow_made wr #[] 0 h (by decide) rfl, rfl, fun i h => absurd h (by simp)⟩
theorem PickF.far (h : PickF B hi wb wr v fs av) (hk : ∀ b, v.ownBlock = some b → w4.heap[b]? = wr.heap[b]?) : PickF B hi wb w4 v fs av := ⟨ownsRow_only h.row hk, h.len, h.own⟩
theorem PickF.push (h : PickF B hi wb wr v fs av) (ha : OwnInts wb B hi a f.2) (hown : w4.ownsRow wb.heap.size 35 2 v' (fs.length + 1) (flat fs av ++ [.int .i64 f.1, a])) : PickF B hi wb w4 v' (fs ++ [f]) (av ++ [a]) := by
  have hl := h.len
  refine ⟨?_, by simp [hl], fun i h1 h2 => ?_⟩
  · rw [flat_snoc _ _ hl, List.length_append, List.length_singleton]
    exact hown
  · by_cases e : i < fs.length
    · rw [List.getElem_append_left (by omega), List.getElem_append_left e]
      exact h.own i e (by omega)
    · have e2 : i = fs.length := by simp at h1; omega
      subst e2
      have e3 : (av ++ [a])[fs.length]'h2 = a := by simp [← hl]
      have e4 : (fs ++ [f])[fs.length]'h1 = f := by simp
      rw [e3, e4]
      exact ha
theorem PickF.form (h : PickF B hi wb wr v fs av) : ∃ A c, v = .slice A fs.length c := by
  rcases h.row.2 with ⟨rfl, h0⟩ | ⟨g, cap, _, rfl, _⟩
  · exact ⟨none, 0, by rw [h0]⟩
  · exact ⟨_, _, rfl⟩
theorem PickF.lt (h : PickF B hi wb wr v fs av) {g : Nat} (hg : v.ownBlock = some g) : wb.heap.size ≤ g ∧ g < wr.heap.size := h.row.lt g hg
theorem PickF.rd {g : Nat} (h : PickF B hi wb wr v fs av) (ho : Only g (g + 1) wb wr) (hg : g < B) (hh : hi ≤ wb.heap.size) : RdFacts wr wr.heap.size v fs := by
  have hcells := @World.ownsRow.cells wr wb.heap.size 35 2 v fs.length (flat fs av) h.row
  have hlt := h.row.lt
  have hl := h.len
  have hs := ho.size
  rcases h.row.2 with ⟨rfl, h0⟩ | ⟨gb, cap, cur, rfl, hb, hgb, hn, hm, _⟩
  · have : fs = [] := List.eq_nil_of_length_eq_zero h0
    subst this
    exact ⟨none, 0, rfl, by simp, fun h => absurd h (by simp)⟩
  · refine ⟨_, cap, rfl, hn, fun _ => ⟨gb, 0, rfl, (hlt gb rfl).2, fun k hk => ⟨av[k]'(by omega), ?_, ?_, ?_⟩⟩⟩
    · have := hcells (g := gb) rfl _ _ (flat_at fs av hl k hk (by omega)).1
      rwa [Go.WideShapes.add_plain] at this
    · have := hcells (g := gb) rfl _ _ (flat_at fs av hl k hk (by omega)).2
      rwa [Go.WideShapes.add_plain, ← Nat.add_assoc] at this
    · exact ((h.own k hk (by omega)).only ho (.inr (by omega))).rd.more (by omega)
end

end Go.Proofs.YtofkcmihcgmmpaaGreat
