/-
  Texts that the claim's last one imports, laid together: part 4 of 9. No condition of its own.
-/
import Derived.Deep.LoopGhost
import Derived.Sort.LotA
import Derived.Sort.LotB
import Derived.Sort.LotC
import Derived.Sort.LotD3
import Derived.Test.YtcceololijefiaaGreatDoorChecked
import Derived.CellFam
import Derived.WalkKit
import Derived.RegionTactic
import Derived.Deep.Draws
import Derived.Deep.QuietTactic
import Derived.BigCall
import Derived.BigGuard
import Derived.BigQuiet
import Derived.Deep.Cut
import Derived.Deep.CutRange
import Derived.Shelf.SlSortCmp.Whole1
import Derived.Shelf.SlicesE.DeleteFunc
import Derived.Shelf.SlicesE.Compact
import Derived.Sort.LotD1
import Derived.Sort.LotD5
import Derived.Sort.Walk7a
import Derived.Test.YtcceololijefiaaGreatDoorMCo1
import Derived.Test.YtcceololijefiaaGreatDoorMCo2
import Derived.Test.YtcceololijefiaaGreatDoorMCo3
/-
  Words of what variables have: cutting them to some variables, laying them over one another; bindingMask.
-/
namespace Go.Proofs.YtcceololijefiaaGreatDoor
open Go.RowKit

theorem nib_or {x y a b : Nat} (ha : a < 16) (hb : b < 16) : (x * 16 + a) ||| (y * 16 + b) = (x ||| y) * 16 + (a ||| b) := by
  apply Nat.eq_of_testBit_eq
  intro i
  have h := fun (p q : Nat) (hq : q < 16) => Nat.testBit_two_pow_mul_add p (i := 4) (b := q) (by omega) i
  rw [Nat.testBit_or, Nat.mul_comm x, Nat.mul_comm y, Nat.mul_comm (x ||| y)]
  rw [show (16 : Nat) = 2 ^ 4 from rfl, h x a ha, h y b hb, h (x ||| y) (a ||| b) (Nat.or_lt_two_pow (n := 4) ha hb), Nat.testBit_or, Nat.testBit_or]
  split <;> rfl
theorem nib_and {x y a b : Nat} (ha : a < 16) (hb : b < 16) : (x * 16 + a) &&& (y * 16 + b) = (x &&& y) * 16 + (a &&& b) := by
  apply Nat.eq_of_testBit_eq
  intro i
  have h := fun (p q : Nat) (hq : q < 16) => Nat.testBit_two_pow_mul_add p (i := 4) (b := q) (by omega) i
  rw [Nat.testBit_and, Nat.mul_comm x, Nat.mul_comm y, Nat.mul_comm (x &&& y)]
  rw [show (16 : Nat) = 2 ^ 4 from rfl, h x a ha, h y b hb, h (x &&& y) (a &&& b) (Nat.and_lt_two_pow (n := 4) a hb), Nat.testBit_and, Nat.testBit_and]
  split <;> rfl

/-- What some variables have, the others nothing. -/
def restr (V : Nat) (b : List Int) : List Int := [if V.testBit 0 then b.getD 0 (-1) else -1, if V.testBit 1 then b.getD 1 (-1) else -1, if V.testBit 2 then b.getD 2 (-1) else -1, if V.testBit 3 then b.getD 3 (-1) else -1]
def over1 (x y : Int) : Int := if x = -1 then y else x
/-- One over the other. -/
def over (a b : List Int) : List Int := [over1 (a.getD 0 (-1)) (b.getD 0 (-1)), over1 (a.getD 1 (-1)) (b.getD 1 (-1)), over1 (a.getD 2 (-1)) (b.getD 2 (-1)), over1 (a.getD 3 (-1)) (b.getD 3 (-1))]
def bit15 (b : Bool) : Nat := if b then 15 else 0
def maskW (V : Nat) : Nat := ((bit15 (V.testBit 0) * 16 + bit15 (V.testBit 1)) * 16 + bit15 (V.testBit 2)) * 16 + bit15 (V.testBit 3)

theorem bit15_lt (b : Bool) : bit15 b < 16 := by cases b <;> decide
theorem maskW_lt (V : Nat) : maskW V < 65536 := by
  have := bit15_lt (V.testBit 0); have := bit15_lt (V.testBit 1); have := bit15_lt (V.testBit 2); have := bit15_lt (V.testBit 3)
  unfold maskW
  omega
theorem bind_at {b : List Int} (h : bindOk b = true) {v : Nat} (hv : v < 4) : -1 ≤ b.getD v (-1) ∧ b.getD v (-1) ≤ 5 := by
  have hl := bindOk_len h
  have hk : v < b.length := by omega
  rw [List.getD_eq_getElem?_getD, List.getElem?_eq_getElem hk]
  exact bindOk_at h hk
theorem bindOk_four {a b c d : Int} (h0 : -1 ≤ a ∧ a ≤ 5) (h1 : -1 ≤ b ∧ b ≤ 5) (h2 : -1 ≤ c ∧ c ≤ 5) (h3 : -1 ≤ d ∧ d ≤ 5) : bindOk [a, b, c, d] = true := by
  refine bindOk_iff rfl ?_
  simp only [List.all_cons, List.all_nil, Bool.and_true, Bool.and_eq_true, hasB, decide_eq_true_eq]
  exact ⟨h0, h1, h2, h3⟩
theorem restr_ok {b : List Int} (h : bindOk b = true) (V : Nat) : bindOk (restr V b) = true := by
  have key : ∀ v, v < 4 → -1 ≤ (if V.testBit v then b.getD v (-1) else -1) ∧ (if V.testBit v then b.getD v (-1) else -1) ≤ 5 := fun v hv => by
    have := bind_at h hv
    split <;> omega
  exact bindOk_four (key 0 (by omega)) (key 1 (by omega)) (key 2 (by omega)) (key 3 (by omega))
theorem over_ok {a b : List Int} (h : bindOk a = true) (h2 : bindOk b = true) : bindOk (over a b) = true := by
  have key : ∀ v, v < 4 → -1 ≤ over1 (a.getD v (-1)) (b.getD v (-1)) ∧ over1 (a.getD v (-1)) (b.getD v (-1)) ≤ 5 := fun v hv => by
    have := bind_at h hv
    have := bind_at h2 hv
    unfold over1
    split <;> omega
  exact bindOk_four (key 0 (by omega)) (key 1 (by omega)) (key 2 (by omega)) (key 3 (by omega))
theorem restr_at {V : Nat} {b : List Int} {v : Nat} (hv : v < 4) : (restr V b).getD v (-1) = if V.testBit v then b.getD v (-1) else -1 := by
  match v, hv with
  | 0, _ => rfl
  | 1, _ => rfl
  | 2, _ => rfl
  | 3, _ => rfl
theorem over_at {a b : List Int} {v : Nat} (hv : v < 4) : (over a b).getD v (-1) = over1 (a.getD v (-1)) (b.getD v (-1)) := by
  match v, hv with
  | 0, _ => rfl
  | 1, _ => rfl
  | 2, _ => rfl
  | 3, _ => rfl
theorem bind_ext {a b : List Int} (h : bindOk a = true) (h2 : bindOk b = true) (e : ∀ v, v < 4 → a.getD v (-1) = b.getD v (-1)) : a = b := by
  obtain ⟨a0, a1, a2, a3, rfl⟩ := list4 (bindOk_len h)
  obtain ⟨b0, b1, b2, b3, rfl⟩ := list4 (bindOk_len h2)
  have e0 := e 0 (by omega)
  have e1 := e 1 (by omega)
  have e2 := e 2 (by omega)
  have e3 := e 3 (by omega)
  simp only [List.getD_cons_zero, List.getD_cons_succ] at e0 e1 e2 e3
  rw [e0, e1, e2, e3]

theorem and15 : ∀ a : Fin 7, ∀ t : Bool, (a.val &&& bit15 t) = if t then a.val else 0 := by decide
theorem nib_mask {x : Int} (h : -1 ≤ x ∧ x ≤ 5) (t : Bool) : ((x + 1).toNat &&& bit15 t) = ((if t then x else -1) + 1).toNat := by
  obtain ⟨a, e, rfl⟩ := fin7 h
  rw [e, and15]
  cases t <;> simp
theorem nib_over {x y : Int} (h : -1 ≤ x ∧ x ≤ 5) (h2 : -1 ≤ y ∧ y ≤ 5) (hc : x = -1 ∨ y = -1 ∨ x = y) : ((x + 1).toNat ||| (y + 1).toNat) = (over1 x y + 1).toNat := by
  unfold over1
  rcases hc with rfl | rfl | rfl
  · simp
  · by_cases e : x = -1
    · simp [e]
    · simp [e]
  · simp
theorem nib_lt {x : Int} (h : -1 ≤ x ∧ x ≤ 5) : (x + 1).toNat < 16 := by omega

theorem enc_restr {b : List Int} (h : bindOk b = true) (V : Nat) : encB b &&& maskW V = encB (restr V b) := by
  have k0 := bind_at h (v := 0) (by omega)
  have k1 := bind_at h (v := 1) (by omega)
  have k2 := bind_at h (v := 2) (by omega)
  have k3 := bind_at h (v := 3) (by omega)
  unfold encB maskW
  rw [nib_and (nib_lt k3) (bit15_lt _), nib_and (nib_lt k2) (bit15_lt _), nib_and (nib_lt k1) (bit15_lt _), nib_mask k0, nib_mask k1, nib_mask k2, nib_mask k3]
  rfl
theorem enc_over {a b : List Int} (h : bindOk a = true) (h2 : bindOk b = true) (hc : ∀ v, v < 4 → a.getD v (-1) = -1 ∨ b.getD v (-1) = -1 ∨ a.getD v (-1) = b.getD v (-1)) : encB a ||| encB b = encB (over a b) := by
  have k0 := bind_at h (v := 0) (by omega)
  have k1 := bind_at h (v := 1) (by omega)
  have k2 := bind_at h (v := 2) (by omega)
  have k3 := bind_at h (v := 3) (by omega)
  have l0 := bind_at h2 (v := 0) (by omega)
  have l1 := bind_at h2 (v := 1) (by omega)
  have l2 := bind_at h2 (v := 2) (by omega)
  have l3 := bind_at h2 (v := 3) (by omega)
  unfold encB
  rw [nib_or (nib_lt k3) (nib_lt l3), nib_or (nib_lt k2) (nib_lt l2), nib_or (nib_lt k1) (nib_lt l1), nib_over k0 l0 (hc 0 (by omega)), nib_over k1 l1 (hc 1 (by omega)), nib_over k2 l2 (hc 2 (by omega)), nib_over k3 l3 (hc 3 (by omega))]
  rfl

theorem and_word32 {a b : Nat} (ha : a < 65536) (hb : b < 65536) : bits .and .u32 (a : Int) (b : Int) = ((a &&& b : Nat) : Int) := u32_and_nat a b (by omega) (by omega)
theorem mask_bit : ∀ V : Fin 16, ∀ k : Fin 4, (bits .and .u64 ((V.val : Nat) : Int) (((2 ^ k.val : Nat) : Nat) : Int) != 0) = V.val.testBit k.val := by decide +kernel

/-- The mask of the first k variables. -/
def maskTo (V k : Nat) : Nat := maskW (V &&& (2 ^ k - 1))
theorem maskTo_all : ∀ V : Fin 16, maskTo V.val 4 = maskW V.val := by decide +kernel
theorem maskTo_zero (V : Nat) : maskTo V 0 = 0 := by simp [maskTo, maskW, bit15]
theorem maskTo_step : ∀ V : Fin 16, ∀ k : Fin 4, maskTo V.val (k.val + 1) = if V.val.testBit k.val then maskTo V.val k.val ||| (15 * 2 ^ ((3 - k.val) * 4)) else maskTo V.val k.val := by decide +kernel

theorem maskT (V : Nat) (hV : V < 16) {k : Nat} (hk : k < 4) (h : (bits .and .u64 ((V : Nat) : Int) (((2 ^ k : Nat) : Nat) : Int) != 0) = true) : bits .or .u32 ((maskTo V k : Nat) : Int) ((15 * 2 ^ ((3 - k) * 4) : Nat) : Int) = ((maskTo V (k + 1) : Nat) : Int) := by
  have hb := mask_bit ⟨V, hV⟩ ⟨k, hk⟩
  have hs := maskTo_step ⟨V, hV⟩ ⟨k, hk⟩
  simp only at hb hs
  rw [hb] at h
  rw [h, if_pos rfl] at hs
  have hlt : maskTo V k < 65536 := maskW_lt (V &&& (2 ^ k - 1))
  have h2 : 15 * 2 ^ ((3 - k) * 4) < 65536 := by
    rcases (show k = 0 ∨ k = 1 ∨ k = 2 ∨ k = 3 by omega) with rfl | rfl | rfl | rfl <;> decide
  rw [hs]
  exact or_word32 hlt h2
theorem maskF (V : Nat) (hV : V < 16) {k : Nat} (hk : k < 4) (h : (bits .and .u64 ((V : Nat) : Int) (((2 ^ k : Nat) : Nat) : Int) != 0) = false) : ((maskTo V k : Nat) : Int) = ((maskTo V (k + 1) : Nat) : Int) := by
  have hb := mask_bit ⟨V, hV⟩ ⟨k, hk⟩
  have hs := maskTo_step ⟨V, hV⟩ ⟨k, hk⟩
  simp only at hb hs
  rw [hb] at h
  rw [h] at hs
  rw [hs]
  rfl

set_option maxHeartbeats 1000000 in
set_option maxRecDepth 100000 in
theorem bindingMask_any (V : Nat) (hV : V < 16) (w : World) :
    Calls Tryz.prog 108 #[.int .u64 (V : Nat)] w fun e w' => e = .returned (.int .u32 ((maskW V : Nat) : Int)) ∧ w = w' := by
  go_enter Tryz.func108, Tryz.ntmps108
  go_wp2_with (fail)
  go_loopg [3, 4, 5] 4 (fun q m _ i wr => ∃ k : Nat, k ≤ 4 ∧ q = 4 - k ∧ i = .int .i64 k ∧ m = .int .u32 ((maskTo V k : Nat) : Int) ∧ wr = w)
  case atStart => exact ⟨0, by omega, by omega, rfl, by rw [maskTo_zero]; rfl, rfl⟩
  case round =>
    obtain ⟨k, hk, hq, rfl, rfl, rfl⟩ := hrel
    have hlt := maskW_lt (V &&& (2 ^ k - 1))
    by_cases h4 : k < 4
    · rcases (show k = 0 ∨ k = 1 ∨ k = 2 ∨ k = 3 by omega) with rfl | rfl | rfl | rfl
      · have HT := Lib.hid (fun h => maskT V hV (k := 0) (by omega) h)
        have HF := Lib.hid (fun h => maskF V hV (k := 0) (by omega) h)
        clear hlt
        go_wp2_with (go_at_call 114; refine (shift_any _ (by omega) (by omega) _).mono ?_; rintro e w' ⟨rfl, rfl⟩)
        · have ht : (bits .and .u64 ((V : Nat) : Int) (1 : Int) != 0) = true := by assumption
          go_roundg 3
          case measure => omega
          case rel => exact ⟨1, by omega, by omega, rfl, congrArg (Value.int .u32) (HT.out ht), rfl⟩
        · have ht : (bits .and .u64 ((V : Nat) : Int) (1 : Int) != 0) = false := by assumption
          go_roundg 3
          case measure => omega
          case rel => exact ⟨1, by omega, by omega, rfl, congrArg (Value.int .u32) (HF.out ht), rfl⟩
      · have HT := Lib.hid (fun h => maskT V hV (k := 1) (by omega) h)
        have HF := Lib.hid (fun h => maskF V hV (k := 1) (by omega) h)
        clear hlt
        go_wp2_with (go_at_call 114; refine (shift_any _ (by omega) (by omega) _).mono ?_; rintro e w' ⟨rfl, rfl⟩)
        · have ht : (bits .and .u64 ((V : Nat) : Int) (2 : Int) != 0) = true := by assumption
          go_roundg 2
          case measure => omega
          case rel => exact ⟨2, by omega, by omega, rfl, congrArg (Value.int .u32) (HT.out ht), rfl⟩
        · have ht : (bits .and .u64 ((V : Nat) : Int) (2 : Int) != 0) = false := by assumption
          go_roundg 2
          case measure => omega
          case rel => exact ⟨2, by omega, by omega, rfl, congrArg (Value.int .u32) (HF.out ht), rfl⟩
      · have HT := Lib.hid (fun h => maskT V hV (k := 2) (by omega) h)
        have HF := Lib.hid (fun h => maskF V hV (k := 2) (by omega) h)
        clear hlt
        go_wp2_with (go_at_call 114; refine (shift_any _ (by omega) (by omega) _).mono ?_; rintro e w' ⟨rfl, rfl⟩)
        · have ht : (bits .and .u64 ((V : Nat) : Int) (4 : Int) != 0) = true := by assumption
          go_roundg 1
          case measure => omega
          case rel => exact ⟨3, by omega, by omega, rfl, congrArg (Value.int .u32) (HT.out ht), rfl⟩
        · have ht : (bits .and .u64 ((V : Nat) : Int) (4 : Int) != 0) = false := by assumption
          go_roundg 1
          case measure => omega
          case rel => exact ⟨3, by omega, by omega, rfl, congrArg (Value.int .u32) (HF.out ht), rfl⟩
      · have HT := Lib.hid (fun h => maskT V hV (k := 3) (by omega) h)
        have HF := Lib.hid (fun h => maskF V hV (k := 3) (by omega) h)
        clear hlt
        go_wp2_with (go_at_call 114; refine (shift_any _ (by omega) (by omega) _).mono ?_; rintro e w' ⟨rfl, rfl⟩)
        · have ht : (bits .and .u64 ((V : Nat) : Int) (8 : Int) != 0) = true := by assumption
          go_roundg 0
          case measure => omega
          case rel => exact ⟨4, by omega, by omega, rfl, congrArg (Value.int .u32) (HT.out ht), rfl⟩
        · have ht : (bits .and .u64 ((V : Nat) : Int) (8 : Int) != 0) = false := by assumption
          go_roundg 0
          case measure => omega
          case rel => exact ⟨4, by omega, by omega, rfl, congrArg (Value.int .u32) (HF.out ht), rfl⟩
    · obtain rfl : k = 4 := by omega
      have HM := Lib.hid (maskTo_all ⟨V, hV⟩)
      go_wp2_with (fail)
      go_ret
      exact ⟨ret_int (by rw [show maskTo V 4 = maskW V from HM.out]), rfl⟩

end Go.Proofs.YtcceololijefiaaGreatDoor
/-
  What a match leaves is a list of what variables have.
-/
namespace Go.Proofs.YtcceololijefiaaGreatDoor
open Go.RowKit

theorem matchTo_ok {bs xs ys : List Int} (hb : bindOk bs = true) (hy : ys.all constOk = true) : ∀ {k : Nat} {b : List Int}, k ≤ ys.length → matchTo bs xs ys k = some b → bindOk b = true
  | 0, b, _, e => by
    injection e with e
    rwa [← e]
  | k + 1, b, hk, e => by
    have e' : (matchTo bs xs ys k).bind (fun b => stepM b (xs.getD k 0) (ys.getD k 0)) = some b := e
    obtain ⟨c, h1, h2⟩ := Option.bind_eq_some_iff.1 e'
    refine stepM_ok (matchTo_ok hb hy (by omega) h1) ?_ h2
    have hlt : k < ys.length := by omega
    have := List.all_eq_true.1 hy _ (List.getElem_mem hlt)
    simp [constOk] at this
    simp [hlt]
    omega
theorem matchL_ok {a f : LFact} {bs b : List Int} (hb : bindOk bs = true) (hy : f.2.all constOk = true) (e : matchL a f bs = some b) : bindOk b = true := by
  unfold matchL at e
  split at e
  · rename_i h
    exact matchTo_ok hb hy (by omega) e
  · cases e

end Go.Proofs.YtcceololijefiaaGreatDoor
/-
  What makes a literal hold, plain mathematics: matching, joining, denying.
-/
namespace Go.Proofs.YtcceololijefiaaGreatDoor
open Go.RowKit

/-- Just the variables of K have something. -/
def DomB (b : List Int) (K : Nat) : Prop := ∀ v, v < 4 → (b.getD v (-1) ≠ -1 ↔ K.testBit v = true)

theorem maskFrom_bit {v : Nat} (hv : v < 4) : ∀ (xs : List Int) (m : Nat), (maskFrom m xs).testBit v = true ↔ m.testBit v = true ∨ (-1 - (v : Int)) ∈ xs
  | [], m => by simp [maskFrom]
  | t :: xs, m => by
    have e : maskFrom m (t :: xs) = maskFrom (orV m t) xs := rfl
    rw [e, maskFrom_bit hv xs]
    unfold orV
    by_cases ht : isVarB t = true
    · have hb : -4 ≤ t ∧ t ≤ -1 := by simpa [isVarB] using ht
      rw [if_pos ht, Nat.testBit_or, Nat.testBit_two_pow]
      simp only [Bool.or_eq_true, decide_eq_true_eq, List.mem_cons]
      constructor
      · rintro ((h | h) | h)
        · exact .inl h
        · exact .inr (.inl (by omega))
        · exact .inr (.inr h)
      · rintro (h | h | h)
        · exact .inl (.inl h)
        · exact .inl (.inr (by omega))
        · exact .inr h
    · have hb : ¬ (-4 ≤ t ∧ t ≤ -1) := by simpa [isVarB] using ht
      rw [if_neg ht, List.mem_cons]
      constructor
      · rintro (h | h)
        · exact .inl h
        · exact .inr (.inr h)
      · rintro (h | h | h)
        · exact .inl h
        · omega
        · exact .inr h
theorem maskOf_bit {v : Nat} (hv : v < 4) (xs : List Int) : (maskOf xs).testBit v = true ↔ (-1 - (v : Int)) ∈ xs := by
  unfold maskOf
  rw [maskFrom_bit hv]
  simp
/-- A term is a constant, or a variable. -/
theorem term_cases {t : Int} (h : termOk t = true) : (0 ≤ t ∧ t ≤ 5) ∨ ∃ v : Nat, v < 4 ∧ t = -1 - (v : Int) := by
  have := termOk_at h
  rcases Int.lt_or_le t 0 with h0 | h0
  · exact .inr ⟨(-1 - t).toNat, by omega, by omega⟩
  · exact .inl ⟨h0, this.2⟩
theorem termVal_v (b : List Int) (v : Nat) : termVal b (-1 - (v : Int)) = b.getD v (-1) := by
  rw [termVal_var (by omega)]
  congr 1
  omega
/-- Terms have the same in both where the variables do. -/
theorem termVal_same {b c : List Int} {t : Int} (h : termOk t = true) (e : ∀ v : Nat, v < 4 → t = -1 - (v : Int) → b.getD v (-1) = c.getD v (-1)) : termVal b t = termVal c t := by
  rcases term_cases h with h0 | ⟨v, hv, rfl⟩
  · rw [termVal_const h0.1, termVal_const h0.1]
  · rw [termVal_v, termVal_v]
    exact e v hv rfl
theorem orV_const {m : Nat} {t : Int} (h : 0 ≤ t) : orV m t = m := by
  unfold orV
  rw [if_neg]
  simp [isVarB]
  omega
theorem orV_var {m v : Nat} (hv : v < 4) : orV m (-1 - (v : Int)) = m ||| 2 ^ v := by
  unfold orV
  rw [if_pos (by simp [isVarB]; omega)]
  congr 2
  omega
theorem or_bit (m v u : Nat) : (m ||| 2 ^ v).testBit u = true ↔ m.testBit u = true ∨ v = u := by
  rw [Nat.testBit_or, Nat.testBit_two_pow]
  simp

theorem restr_dom {b : List Int} {K M : Nat} (h : DomB b K) (hs : ∀ v, v < 4 → M.testBit v = true → K.testBit v = true) : DomB (restr M b) M := fun v hv => by
  rw [restr_at hv]
  by_cases e : M.testBit v = true
  · rw [if_pos e]
    exact ⟨fun _ => e, fun _ => (h v hv).2 (hs v hv e)⟩
  · rw [if_neg e]
    exact ⟨fun h => absurd rfl h, fun h => absurd h e⟩
theorem restr_all {b : List Int} {K : Nat} (hb : bindOk b = true) (h : DomB b K) : restr K b = b := by
  refine bind_ext (restr_ok hb K) hb fun v hv => ?_
  rw [restr_at hv]
  by_cases e : K.testBit v = true
  · rw [if_pos e]
  · rw [if_neg e]
    rcases Decidable.em (b.getD v (-1) = -1) with h2 | h2
    · exact h2.symm
    · exact absurd ((h v hv).1 h2) e

theorem matchTo_iff {xs ys : List Int} (hl : xs.length = ys.length) (hx : xs.all termOk = true) (hy : ys.all constOk = true) : ∀ (k : Nat) (_hk : k ≤ xs.length) (b : List Int), matchTo noneB xs ys k = some b ↔
    (bindOk b = true ∧ DomB b (maskOf (xs.take k)) ∧ ∀ i (h : i < xs.length) (h2 : i < ys.length), i < k → termVal b xs[i] = ys[i])
  | 0, hk, b => by
    constructor
    · intro h
      injection h with h
      subst h
      refine ⟨noneB_ok, fun v hv => ?_, fun i _ _ h => absurd h (by omega)⟩
      have : (maskOf (xs.take 0)).testBit v = false := by simp [maskOf, maskFrom]
      rw [this]
      match v, hv with
      | 0, _ => simp [noneB]
      | 1, _ => simp [noneB]
      | 2, _ => simp [noneB]
      | 3, _ => simp [noneB]
    · rintro ⟨hb, hd, _⟩
      show some noneB = some b
      congr 1
      refine bind_ext noneB_ok hb fun v hv => ?_
      have h0 : (maskOf (xs.take 0)).testBit v = false := by simp [maskOf, maskFrom]
      have := hd v hv
      rw [h0] at this
      have hbv : b.getD v (-1) = -1 := by
        rcases Decidable.em (b.getD v (-1) = -1) with h2 | h2
        · exact h2
        · exact absurd (this.1 h2) (by simp)
      rw [hbv]
      match v, hv with
      | 0, _ => rfl
      | 1, _ => rfl
      | 2, _ => rfl
      | 3, _ => rfl
  | k + 1, hk, b => by
    have hkx : k < xs.length := by omega
    have hky : k < ys.length := by omega
    have ih := matchTo_iff hl hx hy k (by omega)
    have hM := maskOf_take hkx
    have hxk : termOk xs[k] = true := List.all_eq_true.1 hx _ (List.getElem_mem hkx)
    have hyk : 0 ≤ ys[k] ∧ ys[k] ≤ 5 := by simpa [constOk] using List.all_eq_true.1 hy _ (List.getElem_mem hky)
    obtain ⟨M, hMM⟩ : ∃ M, M = maskOf (xs.take k) := ⟨_, rfl⟩
    rw [← hMM] at hM ih
    rw [hM]
    have hin : ∀ (i : Nat) (h : i < xs.length) (v : Nat), i < k → v < 4 → xs[i] = -1 - (v : Int) → M.testBit v = true := fun i h v hik hv e => by
      rw [hMM, maskOf_bit hv, ← e]
      exact List.mem_take_iff_getElem.2 ⟨i, by omega, rfl⟩
    constructor
    · intro h
      cases h0 : matchTo noneB xs ys k with
      | none => rw [matchTo_none h0 (k + 1) (by omega)] at h; cases h
      | some b0 =>
        rw [matchTo_step h0 hkx hky] at h
        obtain ⟨hb0, hd0, hv0⟩ := (ih b0).1 h0
        unfold stepM at h
        split at h
        · rename_i e
          injection h with h
          subst h
          refine ⟨hb0, ?_, fun i h1 h2 hik => ?_⟩
          · rcases term_cases hxk with h0 | ⟨v, hv, hxv⟩
            · rw [orV_const h0.1]
              exact hd0
            · rw [hxv, orV_var hv]
              intro u hu
              rw [or_bit, hd0 u hu]
              constructor
              · exact fun h => .inl h
              · rintro (h | rfl)
                · exact h
                · refine (hd0 v hv).1 ?_
                  rw [hxv, termVal_v] at e
                  omega
          · by_cases ei : i = k
            · subst ei
              exact e
            · exact hv0 i h1 h2 (by omega)
        · split at h
          · rename_i e1 e2
            injection h with h
            rcases term_cases hxk with h0 | ⟨v, hv, hxv⟩
            · rw [termVal_const h0.1] at e2
              omega
            · rw [hxv, termVal_v] at e2
              have hj : (-1 - xs[k]).toNat = v := by omega
              rw [hj] at h
              have hl4 := bindOk_len hb0
              have hset : ∀ u, u < 4 → b.getD u (-1) = if u = v then ys[k] else b0.getD u (-1) := fun u hu => by
                rw [← h]
                simp only [List.getD_eq_getElem?_getD, List.getElem?_set]
                by_cases euv : v = u
                · subst euv
                  simp [hl4, hv]
                · rw [if_neg euv, if_neg (fun e => euv e.symm)]
              refine ⟨by rw [← h]; exact bindOk_set hb0 (by omega) _, fun u hu => ?_, fun i h1 h2 hik => ?_⟩
              · rw [hxv, orV_var hv, or_bit, hset u hu]
                by_cases euv : u = v
                · subst euv
                  simp
                  omega
                · rw [if_neg euv, hd0 u hu]
                  constructor
                  · exact fun h => .inl h
                  · rintro (h | h)
                    · exact h
                    · exact absurd h.symm euv
              · by_cases ei : i = k
                · subst ei
                  rw [hxv, termVal_v, hset v hv, if_pos rfl]
                · have hik' : i < k := by omega
                  rw [← hv0 i h1 h2 hik']
                  refine termVal_same (List.all_eq_true.1 hx _ (List.getElem_mem h1)) fun u hu eu => ?_
                  rw [hset u hu, if_neg]
                  rintro rfl
                  have := (hd0 u hu).2 (hin i h1 u hik' hu eu)
                  exact this e2
          · cases h
    · rintro ⟨hb, hd, hv⟩
      have hMK : ∀ v, v < 4 → M.testBit v = true → (orV M xs[k]).testBit v = true := fun v hv h => by
        rcases term_cases hxk with h0 | ⟨u, hu, hxu⟩
        · rw [orV_const h0.1]; exact h
        · rw [hxu, orV_var hu, or_bit]; exact .inl h
      have h0 : matchTo noneB xs ys k = some (restr M b) := by
        refine (ih _).2 ⟨restr_ok hb M, restr_dom hd hMK, fun i h1 h2 hik => ?_⟩
        rw [← hv i h1 h2 (by omega)]
        refine termVal_same (List.all_eq_true.1 hx _ (List.getElem_mem h1)) fun u hu eu => ?_
        rw [restr_at hu, if_pos (hin i h1 u hik hu eu)]
      rw [matchTo_step h0 hkx hky]
      have hvk := hv k hkx hky (by omega)
      rcases term_cases hxk with h0c | ⟨v, hv4, hxv⟩
      · rw [orV_const h0c.1] at hd
        rw [restr_all hb hd]
        exact stepM_same hvk
      · rw [hxv, orV_var hv4] at hd
        rw [hxv, termVal_v] at hvk
        rw [hxv]
        by_cases hMv : M.testBit v = true
        · have hd2 : DomB b M := fun u hu => by
            rw [hd u hu, or_bit]
            constructor
            · rintro (h | rfl)
              · exact h
              · exact hMv
            · exact fun h => .inl h
          rw [restr_all hb hd2]
          exact stepM_same (by rw [termVal_v]; exact hvk)
        · have hr : termVal (restr M b) (-1 - (v : Int)) = -1 := by rw [termVal_v, restr_at hv4, if_neg hMv]
          rw [stepM_new hr (by omega), show (-1 - (-1 - (v : Int))).toNat = v by omega]
          congr 1
          refine bind_ext (bindOk_set (restr_ok hb M) (by omega) _) hb fun u hu => ?_
          have hl4 := bindOk_len (restr_ok hb M)
          simp only [List.getD_eq_getElem?_getD, List.getElem?_set]
          by_cases euv : v = u
          · subst euv
            simp only [List.getD_eq_getElem?_getD] at hvk
            simp [hl4, hv4, hvk]
          · rw [if_neg euv, ← List.getD_eq_getElem?_getD, ← List.getD_eq_getElem?_getD, restr_at hu]
            by_cases hMu : M.testBit u = true
            · rw [if_pos hMu]
            · rw [if_neg hMu]
              rcases Decidable.em (b.getD u (-1) = -1) with h2 | h2
              · exact h2.symm
              · have := (hd u hu).1 h2
                rw [or_bit] at this
                rcases this with h | h
                · exact absurd h hMu
                · exact absurd h euv

/-- A match from nothing: what the atom's variables have, so that it is the fact. -/
theorem matchL_iff {a f : LFact} (ha : a.2.all termOk = true) (hf : f.2.all constOk = true) (b : List Int) : matchL a f noneB = some b ↔ bindOk b = true ∧ DomB b (maskOf a.2) ∧ f = (a.1, a.2.map (termVal b)) := by
  by_cases h1 : a.1 = f.1
  · by_cases h2 : a.2.length = f.2.length
    · rw [matchL_eq h1 h2, matchTo_iff h2 ha hf a.2.length (Nat.le_refl _) b, List.take_length]
      refine and_congr_right fun _ => and_congr_right fun _ => ?_
      constructor
      · intro h
        refine Prod.ext h1.symm (List.ext_getElem (by simp [h2]) fun i i1 i2 => ?_)
        simp at i2
        simpa using (h i i2 i1 i2).symm
      · intro h i i1 i2 _
        have e : f.2 = a.2.map (termVal b) := by rw [h]
        have := List.getElem_of_eq e i2
        simpa using this.symm
    · rw [matchL_len h2]
      constructor
      · intro h; cases h
      · rintro ⟨_, _, e⟩
        exact absurd (by rw [e]; simp) h2
  · rw [matchL_pred h1]
    constructor
    · intro h; cases h
    · rintro ⟨_, _, e⟩
      exact absurd (by rw [e]) h1

end Go.Proofs.YtcceololijefiaaGreatDoor
/-
  The steps of the plain functions of a sort, as a walk takes them. Plain mathematics.
-/
namespace Go.Proofs.YtcceololijefiaaGreatDoor
open Go.Sort

section
variable {α : Type} [Inhabited α] (lt : α → α → Bool)
/-- Insertion: one exchange. -/
theorem insStep {a j : Nat} {d : Array α} (hj : a < j) (hl : lt d[j]! d[j - 1]! = true) : insInner lt a j d = insInner lt a (j - 1) (Sort.swp d j (j - 1)) := by
  cases j with
  | zero => omega
  | succ k =>
    simp only [Nat.add_sub_cancel] at hl ⊢
    rw [insInner, if_pos (by simp [hj, hl])]
theorem insDone {a j : Nat} {d : Array α} (h : a < j → lt d[j]! d[j - 1]! = false) : insInner lt a j d = d := by
  cases j with
  | zero => rw [insInner]
  | succ k =>
    rw [insInner]
    by_cases hj : a < k + 1
    · have := h hj
      simp only [Nat.add_sub_cancel] at this
      rw [if_neg (by simp [this])]
    · rw [if_neg (by simp; omega)]

/-- The greater child. -/
def kid (d : Array α) (hi first root : Nat) : Nat := if (decide (2 * root + 2 < hi) && lt d[first + (2 * root + 1)]! d[first + (2 * root + 2)]!) = true then 2 * root + 2 else 2 * root + 1
theorem kid_lt {d : Array α} {hi first root : Nat} (h : 2 * root + 1 < hi) : kid lt d hi first root < hi ∧ root < kid lt d hi first root := by
  unfold kid
  split
  · rename_i e
    simp at e
    omega
  · omega
theorem siftEnd {d : Array α} {hi first root : Nat} (h : ¬ 2 * root + 1 < hi) : siftDown lt hi first root d = d := by
  rw [siftDown, dif_pos (by omega)]
theorem siftStop {d : Array α} {hi first root : Nat} (h : 2 * root + 1 < hi) (hl : lt d[first + root]! d[first + kid lt d hi first root]! = false) : siftDown lt hi first root d = d := by
  unfold kid at hl
  rw [siftDown, dif_neg (by omega)]
  split at hl
  · rename_i e
    rw [if_pos (by exact e), if_pos (by rw [hl]; rfl)]
  · rename_i e
    rw [if_neg (by exact e), if_pos (by rw [hl]; rfl)]
theorem siftStep {d : Array α} {hi first root : Nat} (h : 2 * root + 1 < hi) (hl : lt d[first + root]! d[first + kid lt d hi first root]! = true) :
    siftDown lt hi first root d = siftDown lt hi first (kid lt d hi first root) (Sort.swp d (first + root) (first + kid lt d hi first root)) := by
  unfold kid at hl ⊢
  rw [siftDown, dif_neg (by omega)]
  split at hl
  · rename_i e
    have e2 : 2 * root + 2 < hi := by simp at e; omega
    rw [if_pos (by exact e), if_neg (by rw [hl]; decide), dif_pos e2, if_pos e]
  · rename_i e
    rw [if_neg (by exact e), if_neg (by rw [hl]; decide), if_neg e]

/-- The scans. -/
theorem upStep {p : α → Bool} {d : Array α} {j i : Nat} (h : i ≤ j) (hp : p d[i]! = true) : scanUp p d j i = scanUp p d j (i + 1) := by rw [scanUp, if_pos (by simp [h, hp])]
theorem upDone {p : α → Bool} {d : Array α} {j i : Nat} (h : i ≤ j → p d[i]! = false) : scanUp p d j i = i := by
  rw [scanUp, if_neg]
  intro hc
  simp at hc
  rw [h hc.1] at hc
  exact absurd hc.2 (by simp)
theorem downStep {p : α → Bool} {d : Array α} {j i : Nat} (h : i ≤ j) (h0 : 0 < j) (hp : p d[j]! = true) : scanDown p d i j = scanDown p d i (j - 1) := by
  cases j with
  | zero => omega
  | succ k => rw [scanDown, if_pos (by simp [h, hp]), Nat.add_sub_cancel]
theorem downDone {p : α → Bool} {d : Array α} {j i : Nat} (h : i ≤ j → p d[j]! = false) : scanDown p d i j = j := by
  cases j with
  | zero => rfl
  | succ k =>
    rw [scanDown, if_neg]
    intro hc
    simp at hc
    rw [h hc.1] at hc
    exact absurd hc.2 (by simp)
/-- Where the two scans stand, they don't stand at one place. -/
theorem scans_apart (p q : α → Bool) (hq : ∀ x, q x = !p x) {d : Array α} {i j i2 j2 : Nat} (hi2 : scanUp p d j i = i2) (hj2 : scanDown q d i2 j = j2) (h : i2 ≤ j2) (h0 : 0 < i2) : i2 < j2 := by
  obtain ⟨u1, u2, u3, u4⟩ := scanUp_spec p d j _ i rfl
  obtain ⟨v1, v2, v3, v4⟩ := scanDown_spec q d i2 j
  rw [hi2] at u4
  rw [hj2] at v1 v4
  rcases Nat.lt_or_ge i2 j2 with hlt | hge
  · exact hlt
  · exfalso
    have e : j2 = i2 := by omega
    have f1 := u4 (by omega)
    have f2 := v4 h (by omega)
    rw [e, hq, f1] at f2
    cases f2
end
end Go.Proofs.YtcceololijefiaaGreatDoor
/-
  A row of words (one uint32 a cell) in a block of the call's own; its loads, stores and exchanges.
-/
namespace Go.Proofs.YtcceololijefiaaGreatDoor
open Go.RowKit Go.Sort

/-- From place o of block g, of c cells, the words d stand. -/
def URow (w : World) (g o c : Nat) (d : Array Int) : Prop :=
  ∃ cur, w.heap[g]? = some (.cells cur 83 (0, 0)) ∧ cur.size = c ∧ ∀ j, j < d.size → cur[o + j]? = some (.int .u32 d[j]!)

section
variable {w w' : World} {g o c lo hi : Nat} {d : Array Int}
theorem URow.lt (h : URow w g o c d) : g < w.heap.size := by
  obtain ⟨cur, hg, _⟩ := h
  exact Blk.lt hg
theorem URow.cell (h : URow w g o c d) {j : Nat} (hj : j < d.size) : w.cell? ⟨g, o + j, none⟩ = some (.int .u32 d[j]!) := by
  obtain ⟨cur, hg, _, hc⟩ := h
  rw [Blk.cell hg, hc j hj]
theorem URow.frozen (h : URow w g o c d) (j : Nat) : w.frozen? ⟨g, j, none⟩ = false := by
  obtain ⟨cur, hg, _⟩ := h
  exact Blk.frozen hg j
theorem URow.set (h : URow w g o c d) {i : Nat} (hi : i < d.size) (x : Int) : URow (w.setCell ⟨g, o + i, none⟩ (.int .u32 x)) g o c (d.setIfInBounds i x) := by
  obtain ⟨cur, hg, h1, hc⟩ := h
  refine ⟨cur.setIfInBounds (o + i) (.int .u32 x), Blk.set_ hg (o + i) _, by simpa using h1, fun j hj => ?_⟩
  have hj' : j < d.size := by simpa using hj
  by_cases e : i = j
  · subst e
    have hin : o + i < cur.size := by
      rcases Nat.lt_or_ge (o + i) cur.size with h | h
      · exact h
      · have := hc i hi
        rw [Array.getElem?_eq_none h] at this
        cases this
    rw [Array.getElem?_setIfInBounds, if_pos rfl, if_pos hin, getElem!_pos (d.setIfInBounds i x) i hj]
    simp
  · rw [Array.getElem?_setIfInBounds, if_neg (by omega), hc j hj', getElem!_pos (d.setIfInBounds i x) j hj, getElem!_pos d j hj', Array.getElem_setIfInBounds, if_neg e]

/-- The exchange of two places. -/
theorem URow.swp (h : URow w g o c d) {i j : Nat} (hi : i < d.size) (hj : j < d.size) : URow ((w.setCell ⟨g, o + i, none⟩ (.int .u32 d[j]!)).setCell ⟨g, o + j, none⟩ (.int .u32 d[i]!)) g o c (Sort.swp d i j) :=
  (h.set hi _).set (by simpa using hj) _
theorem URow.only (h : URow w g o c d) (ho : Only lo hi w w') (hd : g < lo ∨ hi ≤ g) : URow w' g o c d := by
  obtain ⟨cur, hg, r⟩ := h
  exact ⟨cur, (ho.block g (Blk.lt hg) hd).trans hg, r⟩
theorem URow.below {B : Nat} (h : URow w g o c d) (hb : Below B w w') (hg : g < B) : URow w' g o c d := by
  obtain ⟨cur, e, r⟩ := h
  exact ⟨cur, (hb.block g hg).trans e, r⟩
theorem Only.drew' (h : Only lo hi w w') : Only lo hi w w'.drew := ⟨h.os, h.tape, h.output, h.size, h.block⟩
theorem Only.drewN' (h : Only lo hi w w') (n : Nat) : Only lo hi w (w'.drewN n) := ⟨h.os, h.tape, h.output, h.size, h.block⟩
end

/-- In the world wr, which differs from w in block g alone, the row of n words is dk. -/
structure At (w : World) (g o c n : Nat) (wr : World) (dk : Array Int) : Prop where
  row : URow wr g o c dk
  size : dk.size = n
  only : Only g (g + 1) w wr

section
variable {w wr wr2 : World} {g o c n i j : Nat} {d dk : Array Int}
theorem At.start (h : URow w g o c d) (hn : d.size = n) : At w g o c n w d := ⟨h, hn, Only.refl _ _ _⟩
theorem At.drewN (h : At w g o c n wr dk) (m : Nat) : At w g o c n (wr.drewN m) dk := ⟨h.row, h.size, h.only.drewN' m⟩
theorem At.drew (h : At w g o c n wr dk) : At w g o c n wr.drew dk := ⟨h.row, h.size, h.only.drew'⟩
theorem At.then_ {d2 : Array Int} (h : At w g o c n wr dk) (k : At wr g o c n wr2 d2) : At w g o c n wr2 d2 := ⟨k.row, k.size, h.only.trans k.only⟩
/-- What turns blocks of the call's own alone leaves the row. -/
theorem At.aside {lo hi : Nat} (h : At w g o c n wr dk) (k : Only lo hi wr wr2) (hlo : w.heap.size ≤ lo) (hg : g < lo) : At w g o c n wr2 dk :=
  ⟨h.row.only k (.inl hg), h.size, k.os.trans h.only.os, k.tape.trans h.only.tape, k.output.trans h.only.output, Nat.le_trans h.only.size k.size,
    fun i hi' ho => (k.block i (Nat.lt_of_lt_of_le hi' h.only.size) (.inl (by omega))).trans (h.only.block i hi' ho)⟩
theorem At.lt (h : At w g o c n wr dk) : g < wr.heap.size := h.row.lt
theorem At.swp (h : At w g o c n wr dk) (hi : i < n) (hj : j < n) {x y : Value} (hx : x = .int .u32 dk[j]!) (hy : y = .int .u32 dk[i]!) :
    At w g o c n ((wr.setCell ⟨g, o + i, none⟩ x).setCell ⟨g, o + j, none⟩ y) (Sort.swp dk i j) := by
  subst hx hy
  exact ⟨h.row.swp (by have := h.size; omega) (by have := h.size; omega), by rw [Sort.size_swp]; exact h.size,
    Only.setCell (p := ⟨g, o + j, none⟩) (Only.setCell (p := ⟨g, o + i, none⟩) h.only ⟨Nat.le_refl _, Nat.lt_succ_self _⟩ _) ⟨Nat.le_refl _, Nat.lt_succ_self _⟩ _⟩
/-- The row's contents under a name of their own, as the walk's loads and stores want them. -/
theorem At.fam (h : At w g o c n wr dk) : ∃ G : Nat → Int, Hid (∀ t, G t = dk[t]!) ∧ (∀ t, t < n → wr.cell? ⟨g, o + t, none⟩ = some (.int .u32 (G t))) ∧ (∀ t, t < n → wr.frozen? ⟨g, o + t, none⟩ = false) :=
  ⟨fun t => dk[t]!, Lib.hid (fun _ => rfl), fun t ht => h.row.cell (by have := h.size; omega), fun t _ => h.row.frozen _⟩
/-- A store leaves the cell that it is in. -/
theorem At.still (h : At w g o c n wr dk) (hj : j < n) (p : Addr) (x : Value) : ∃ v, (wr.setCell p x).cell? ⟨g, o + j, none⟩ = some v :=
  cell?_setCell_some (h.row.cell (by have := h.size; omega))
end

/-- cmp.Less at words. -/
theorem cmpLess_any (x y : Int) (w : World) :
    Calls Tryz.prog 134 #[.int .u32 x, .int .u32 y] w fun e w' => e = .returned (.bool (ltInt x y)) ∧ w' = w := by
  go_enter Tryz.func134, Tryz.ntmps134
  go_wp2
  go_ret
  simp [ltInt]

end Go.Proofs.YtcceololijefiaaGreatDoor
/-
  slices.insertionSortOrdered at words: the plain insertion sort.
-/
namespace Go.Proofs.YtcceololijefiaaGreatDoor
open Go.RowKit Go.Sort

set_option maxHeartbeats 8000000 in
set_option maxRecDepth 100000 in
theorem insertU (g o c cap n a b : Nat) (d : Array Int) (w : World) (hu : URow w g o c d) (hn : d.size = n) (hab : a ≤ b) (hb : b ≤ n) (hsz : n < 4611686018427387904) :
    Calls Tryz.prog 146 #[.slice (some ⟨g, o, none⟩) n cap, .int .i64 a, .int .i64 b] w fun e w' =>
      e = .returned (.tuple #[]) ∧ At w g o c n w' (insertionSort ltInt d a b) := by
  have A0 := At.start hu hn
  have HA := Lib.hid A0
  clear hu A0 hn
  go_enter Tryz.func146, Tryz.ntmps146
  go_wp2
  go_loopw [6] (fun vi wr => ∃ (i : Nat) (dk : Array Int), vi = .int .i64 i ∧ a < i ∧ At w g o c n wr dk ∧ Hid (insOuter ltInt a b i dk = insertionSort ltInt d a b)) (fun vi _ => b - (intOf vi).toNat)
  case atStart => exact ⟨a + 1, d, by go_num, by omega, HA.out, Lib.hid rfl⟩
  case round =>
    obtain ⟨i, dk, rfl, hai, K, HE⟩ := hrel
    by_cases hib : i < b
    · go_wp2
      go_loopw [7] (fun vj wr2 => ∃ (j : Nat) (dj : Array Int), vj = .int .i64 j ∧ j ≤ i ∧ At w g o c n wr2 dj ∧ Hid (insInner ltInt a j dj = insInner ltInt a i dk)) (fun vj _ => (intOf vj).toNat)
      case atStart => exact ⟨i, dk, rfl, Nat.le_refl _, K, Lib.hid rfl⟩
      case round =>
        obtain ⟨j, dj, rfl, hji, KJ, HJ⟩ := hrel
        obtain ⟨G, HG, hc, hf⟩ := KJ.fam
        have HN := Lib.hid (show insInner ltInt a j dj = dj → insOuter ltInt a b (i + 1) dj = insertionSort ltInt d a b from fun e => by
          rw [← HE.out, insOuter.eq_def ltInt a b i dk, if_pos hib, ← HJ.out, e])
        by_cases hja : a < j
        · go_wp2_with (fail)
          go_big_quiet (first | (go_at_call 134; refine Calls.quiet_of_same (cmpLess_any _ _ _)))
          go_wp2
          · have hl : ltInt (G j) (G (j - 1)) = true := by assumption
            have KQ := Lib.hid (KJ.drewN nq)
            obtain ⟨v', hy'⟩ := KQ.out.still (j := j - 1) (by omega) ⟨g, o + j, none⟩ (.int .u32 (G (j - 1)))
            go_region
            all_goals go_wp2
            go_roundw
            case rel => exact ⟨j - 1, Sort.swp dj j (j - 1), by congr 1; omega, by omega, (KQ.out.swp (by omega) (by omega) (by rw [HG.out]) (by rw [HG.out])).drew, Lib.hid (by rw [← HJ.out, insStep ltInt hja (by rw [← HG.out, ← HG.out]; exact hl)])⟩
            case measure => simp [intOf]; omega
          · have hl : ltInt (G j) (G (j - 1)) = false := by assumption
            have hnext := HN.out (insDone ltInt (fun _ => by rw [← HG.out, ← HG.out]; exact hl))
            have HX := Lib.hid hnext
            clear hnext
            go_roundw
            case rel => exact ⟨i + 1, dj, by go_num, by omega, KJ.drewN nq, HX⟩
            case measure => simp [intOf]; omega
        · have HX := Lib.hid (HN.out (insDone ltInt (fun e => absurd e hja)))
          go_wp2_with (fail)
          go_big_quiet (fail)
          go_wp2
          go_roundw
          case rel => exact ⟨i + 1, dj, by go_num, by omega, KJ.drewN nq, HX⟩
          case measure => simp [intOf]; omega
    · go_wp2
      go_end0
      refine ⟨rfl, ?_⟩
      rw [← HE.out, insOuter.eq_def, if_neg hib]
      exact K

end Go.Proofs.YtcceololijefiaaGreatDoor
/-
  slices.siftDownOrdered, slices.heapSortOrdered at words: the plain ones.
-/
namespace Go.Proofs.YtcceololijefiaaGreatDoor
open Go.RowKit Go.Sort

set_option maxHeartbeats 8000000 in
set_option maxRecDepth 100000 in
theorem siftU (g o c cap n lo hi first : Nat) (d : Array Int) (w : World) (hu : URow w g o c d) (hn : d.size = n) (hb : first + hi ≤ n) (hsz : n < 1152921504606846976) (hlo : lo ≤ n) :
    Calls Tryz.prog 159 #[.slice (some ⟨g, o, none⟩) n cap, .int .i64 lo, .int .i64 hi, .int .i64 first] w fun e w' =>
      e = .returned (.tuple #[]) ∧ At w g o c n w' (siftDown ltInt hi first lo d) := by
  have HA := Lib.hid (At.start hu hn)
  clear hu hn
  go_enter Tryz.func159, Tryz.ntmps159
  go_wp2
  go_loopg [8] (hi - lo) (fun k vr wr => ∃ (root : Nat) (dk : Array Int), vr = .int .i64 root ∧ root ≤ n ∧ hi - root ≤ k ∧ At w g o c n wr dk ∧ Hid (siftDown ltInt hi first root dk = siftDown ltInt hi first lo d))
  case atStart => exact ⟨lo, d, rfl, hlo, Nat.le_refl _, HA.out, Lib.hid rfl⟩
  case round =>
    obtain ⟨root, dk, rfl, hrh, hgk, K, HE⟩ := hrel
    by_cases h1 : 2 * root + 1 < hi
    · have h1z : ¬ ((hi : Int) ≤ 2 * (root : Int) + 1) := by omega
      obtain ⟨G, HG, hc, hf⟩ := K.fam
      obtain ⟨kd, hkd⟩ : ∃ kd, kd = kid ltInt dk hi first root := ⟨_, rfl⟩
      obtain ⟨hk1, hk2⟩ := kid_lt ltInt (d := dk) (first := first) h1
      rw [← hkd] at hk1 hk2
      have HS1 := Lib.hid (fun h => (siftStop ltInt (d := dk) (first := first) h1 h).symm.trans HE.out)
      have HS2 := Lib.hid (fun h => (siftStep ltInt (d := dk) (first := first) h1 h).symm.trans HE.out)
      rw [← hkd] at HS1 HS2
      obtain ⟨B, hB⟩ : ∃ B, B = (decide (2 * root + 2 < hi) && ltInt (G (first + root * 2 + 1)) (G (first + root * 2 + 2))) := ⟨_, rfl⟩
      have HKC := Lib.hid (show kd = if B then 2 * root + 2 else 2 * root + 1 by
        rw [hkd, hB, HG.out, HG.out, show first + root * 2 + 1 = first + (2 * root + 1) by omega, show first + root * 2 + 2 = first + (2 * root + 2) by omega]
        rfl)
      have HB := Lib.hid hB
      have HK := Lib.hid K
      clear K hkd hB
      go_upto_region 3 with fail
      go_cut [36] from 11 (fun s36 wc => s36 = .bool B ∧ At w g o c n wc dk)
      case first =>
        by_cases h2 : 2 * root + 2 < hi
        · have h2z : 2 * (root : Int) + 1 + 1 < (hi : Int) := by omega
          go_big_quiet (first | (go_at_call 134; refine Calls.quiet_of_same (cmpLess_any _ _ _)))
          go_wp2_with fail
          go_meet
          case rel => exact ⟨by rw [HB.out, decide_eq_true h2, Bool.true_and]; congr 2 <;> congr 1 <;> omega, HK.out.drewN nq⟩
        · have h2z : decide (2 * (root : Int) + 1 + 1 < (hi : Int)) = false := decide_eq_false (by omega)
          go_big_quiet (first | (go_at_call 134; refine Calls.quiet_of_same (cmpLess_any _ _ _)))
          go_wp2_with fail
          go_meet
          case rel => exact ⟨by rw [HB.out]; simp [h2], HK.out.drewN nq⟩
      case rest =>
        obtain ⟨rfl, K2⟩ := hcut
        clear hc hf HB
        have HK2 := Lib.hid K2
        clear K2
        go_upto_if 36 with fail
        go_cut [9] from 11 (fun s9 wx => s9 = .int .i64 kd ∧ wx = wc)
        case first =>
          cases hB : B
          · have hkd : kd = 2 * root + 1 := by rw [HKC.out, hB]; rfl
            have HKD := Lib.hid hkd
            clear hkd
            go_wp2_with fail
            go_meet
            case rel => exact ⟨by rw [HKD.out]; go_num, rfl⟩
          · have hkd : kd = 2 * root + 2 := by rw [HKC.out, hB]; rfl
            have HKD := Lib.hid hkd
            clear hkd
            go_wp2_with fail
            go_meet
            case rel => exact ⟨by rw [HKD.out]; go_num, rfl⟩
        case rest =>
          obtain ⟨rfl, rfl⟩ := hcut
          obtain ⟨G2, HG2, hc, hf⟩ := HK2.out.fam
          go_wp2_with fail
          go_big_quiet (first | (go_at_call 134; refine Calls.quiet_of_same (cmpLess_any _ _ _)))
          go_wp2_with fail
          · have hl : (!ltInt (G2 (first + root)) (G2 (first + kd))) = true := by assumption
            (try simp only [Exit.inBlock, Exit.then]); refine bodyPost_ret (results_none rfl _ _ _) rfl ?_
            refine ⟨rfl, ?_⟩
            rw [← HS1.out (by rw [← HG2.out, ← HG2.out]; simpa using hl)]
            exact HK2.out.drewN nq
          · have hl : (!ltInt (G2 (first + root)) (G2 (first + kd))) = false := by assumption
            have HL := Lib.hid (HS2.out (by rw [← HG2.out, ← HG2.out]; simpa using hl))
            have KQ := Lib.hid (HK2.out.drewN nq)
            obtain ⟨v', hy'⟩ := KQ.out.still (j := first + kd) (by omega) ⟨g, o + (first + root), none⟩ (.int .u32 (G2 (first + kd)))
            clear hl
            go_region
            all_goals go_wp2
            go_roundg (hi - kd)
            case measure => omega
            case rel => exact ⟨kd, Sort.swp dk (first + root) (first + kd), rfl, by omega, Nat.le_refl _, (KQ.out.swp (by omega) (by omega) (by rw [HG2.out]) (by rw [HG2.out])).drew, Lib.hid HL.out⟩
    · have h1z : (hi : Int) ≤ 2 * (root : Int) + 1 := by omega
      go_wp2
      go_end0
      rw [← HE.out, siftEnd ltInt h1]
      exact ⟨rfl, K⟩

theorem halfU (a L : Nat) : (((a : Int) + (L : Int) - (a : Int) - 1).tdiv 2) = (((L - 1) / 2 + 1 : Nat) : Int) - 1 := by
  rw [show (a : Int) + (L : Int) - (a : Int) - 1 = (L : Int) - 1 by omega]
  rcases Nat.eq_zero_or_pos L with rfl | h
  · decide
  · rw [Int.tdiv_eq_ediv_of_nonneg (by omega)]
    omega

set_option maxHeartbeats 8000000 in
set_option maxRecDepth 100000 in
theorem heapU (g o c cap n a b : Nat) (d : Array Int) (w : World) (hu : URow w g o c d) (hn : d.size = n) (hab : a ≤ b) (hb : b ≤ n) (hsz : n < 1152921504606846976) :
    Calls Tryz.prog 147 #[.slice (some ⟨g, o, none⟩) n cap, .int .i64 a, .int .i64 b] w fun e w' =>
      e = .returned (.tuple #[]) ∧ At w g o c n w' (heapSort ltInt d a b) := by
  have HA := Lib.hid (At.start hu hn)
  obtain ⟨L, hL⟩ : ∃ L, b = a + L := ⟨b - a, by omega⟩
  subst hL
  clear hu hn
  go_enter Tryz.func147, Tryz.ntmps147
  go_wp2_with fail
  have hL0 : ((a + L : Nat) : Int) - (a : Int) = (L : Int) := by omega
  go_loopg [9] ((L - 1) / 2 + 1) (fun k vi wr => ∃ (dk : Array Int), vi = .int .i64 ((k : Int) - 1) ∧ k ≤ (L - 1) / 2 + 1 ∧ At w g o c n wr dk ∧ Hid (heapBuild ltInt L a k dk = heapBuild ltInt L a ((L - 1) / 2 + 1) d))
  case atStart => exact ⟨d, by rw [halfU], Nat.le_refl _, HA.out, Lib.hid rfl⟩
  case round =>
    obtain ⟨dk, rfl, hk, K, HE⟩ := hrel
    rcases Nat.eq_zero_or_pos gk with rfl | hk0
    · have HK := Lib.hid K
      clear K
      have h0 : ¬ ((((0 : Nat) : Int) - 1) ≥ 0) := by decide
      go_wp2_with fail
      go_loopg [10] L (fun k vi wr => ∃ (dj : Array Int), vi = .int .i64 ((k : Int) - 1) ∧ k ≤ L ∧ At w g o c n wr dj ∧ Hid (heapPop ltInt a k dj = heapPop ltInt a L dk))
      case atStart => exact ⟨dk, by congr 1; omega, Nat.le_refl _, HK.out, Lib.hid rfl⟩
      case round =>
        obtain ⟨dj, rfl, hk, KJ, HJ⟩ := hrel
        rcases Nat.eq_zero_or_pos gk with rfl | hk0
        · have h0 : ¬ ((((0 : Nat) : Int) - 1) ≥ 0) := by decide
          go_wp2_with fail
          go_end0
          refine ⟨rfl, ?_⟩
          have : heapSort ltInt d a (a + L) = dj := by
            unfold heapSort
            rw [Nat.add_sub_cancel_left, ← HE.out]
            exact HJ.out.symm
          rw [this]
          exact KJ
        · obtain ⟨m, rfl⟩ : ∃ m, gk = m + 1 := ⟨gk - 1, by omega⟩
          have hm : ((m + 1 : Nat) : Int) - 1 = (m : Int) := by omega
          rw [hm]
          obtain ⟨G, HG, hc, hf⟩ := KJ.fam
          obtain ⟨v', hy'⟩ := KJ.still (j := a + m) (by omega) ⟨g, o + a, none⟩ (.int .u32 (G (a + m)))
          have KS1 := Lib.hid (show At w g o c n (((wr.setCell ⟨g, o + a, none⟩ (.int .u32 (G (a + m)))).setCell ⟨g, o + (a + m), none⟩ (.int .u32 (G a))).drew) (Sort.swp dj a (a + m)) from (KJ.swp (by omega) (by omega) (by rw [HG.out]) (by rw [HG.out])).drew)
          clear KJ
          go_wp2_with fail
          go_region
          all_goals
            go_wp2_with (go_at_call 159; refine Calls.mono (siftU g o c cap n 0 m a (Sort.swp dj a (a + m)) _ KS1.out.row KS1.out.size (by omega) hsz (by omega)) ?_; rintro e w1 ⟨rfl, KS⟩)
            go_roundg m
            case measure => omega
            case rel => exact ⟨siftDown ltInt m a 0 (Sort.swp dj a (a + m)), rfl, by omega, KS1.out.then_ KS, Lib.hid (by rw [← HJ.out, heapPop])⟩
    · obtain ⟨m, rfl⟩ : ∃ m, gk = m + 1 := ⟨gk - 1, by omega⟩
      have hm : ((m + 1 : Nat) : Int) - 1 = (m : Int) := by omega
      rw [hm]
      have hmL : (a : Int) + (L : Int) - (a : Int) = (L : Int) := by omega
      have HK := Lib.hid K
      clear K
      have hsf := siftU g o c cap n m L a dk _ HK.out.row HK.out.size (by omega) hsz (by omega)
      rw [← hmL] at hsf
      have HSF := Lib.hid hsf
      clear hmL hsf
      go_wp2_with (go_at_call 159; refine Calls.mono HSF.out ?_; rintro e w1 ⟨rfl, KS⟩)
      go_roundg m
      case measure => omega
      case rel => exact ⟨siftDown ltInt L a m dk, rfl, by omega, HK.out.then_ KS, Lib.hid (by rw [← HE.out, heapBuild])⟩

end Go.Proofs.YtcceololijefiaaGreatDoor
/-
  slices.reverseRangeOrdered at words: a permutation of the range.
-/
namespace Go.Proofs.YtcceololijefiaaGreatDoor
open Go.RowKit Go.Sort

set_option maxHeartbeats 4000000 in
set_option maxRecDepth 100000 in
theorem reverseU (g o c cap n a b : Nat) (d : Array Int) (w : World) (hu : URow w g o c d) (hn : d.size = n) (hab : a ≤ b) (hb : b ≤ n) (hsz : n < 4611686018427387904) :
    Calls Tryz.prog 150 #[.slice (some ⟨g, o, none⟩) n cap, .int .i64 a, .int .i64 b] w fun e w' =>
      e = .returned (.tuple #[]) ∧ ∃ d', At w g o c n w' d' ∧ PermIn a b d d' := by
  have HA := Lib.hid (At.start hu hn)
  clear hu hn
  go_enter Tryz.func150, Tryz.ntmps150
  go_wp2
  go_loopw [6, 7] (fun vi vj wr => ∃ (i : Nat) (j : Int) (dk : Array Int), vi = .int .i64 i ∧ vj = .int .i64 j ∧ a ≤ i ∧ j < b ∧ -1 ≤ j ∧ i ≤ n + 1 ∧ At w g o c n wr dk ∧ Hid (PermIn a b d dk)) (fun vi vj _ => ((intOf vj) - (intOf vi)).toNat)
  case atStart => exact ⟨a, (b : Int) - 1, d, rfl, rfl, Nat.le_refl _, by omega, by omega, by omega, HA.out, Lib.hid (permIn_refl _ _ _)⟩
  case round =>
    obtain ⟨i, j, dk, rfl, rfl, hai, hjb, hj1, hin, K, HP⟩ := hrel
    by_cases hij : (i : Int) < j
    · obtain ⟨m, rfl⟩ : ∃ m : Nat, j = m := ⟨j.toNat, by omega⟩
      have hm : m < n := by omega
      have hi : i < n := by omega
      obtain ⟨G, HG, hc, hf⟩ := K.fam
      obtain ⟨v', hy'⟩ := K.still (j := m) hm ⟨g, o + i, none⟩ (.int .u32 (G m))
      have HK := Lib.hid K
      clear K
      go_wp2_with (fail)
      go_region
      all_goals go_wp2
      go_roundw
      case rel => exact ⟨i + 1, (m : Int) - 1, Sort.swp dk i m, by go_num, rfl, by omega, by omega, by omega, by omega, (HK.out.swp hi hm (by rw [HG.out]) (by rw [HG.out])).drew,
        Lib.hid (permIn_trans _ _ _ _ _ HP.out (swp_permIn dk a b i m hai (by omega) (by omega) (by omega) (by have := HK.out.size; omega)))⟩
      case measure => simp [intOf]; omega
    · go_wp2
      go_end0
      exact ⟨rfl, dk, K, HP.out⟩

end Go.Proofs.YtcceololijefiaaGreatDoor
/-
  slices.partitionOrdered at words: the plain one.
-/
namespace Go.Proofs.YtcceololijefiaaGreatDoor
open Go.RowKit Go.Sort

set_option maxHeartbeats 16000000 in
set_option maxRecDepth 100000 in
theorem partU (g o c cap n a b q : Nat) (d : Array Int) (w : World) (hu : URow w g o c d) (hn : d.size = n) (haq : a ≤ q) (hqb : q < b) (hb : b ≤ n) (hsz : n < 1152921504606846976) :
    Calls Tryz.prog 153 #[.slice (some ⟨g, o, none⟩) n cap, .int .i64 a, .int .i64 b, .int .i64 q] w fun e w' =>
      e = .returned (.tuple #[.int .i64 (partition ltInt d a b q).1, .bool (partition ltInt d a b q).2.1]) ∧ At w g o c n w' (partition ltInt d a b q).2.2 := by
  have KK := Lib.hid (At.start hu hn)
  clear hu hn
  obtain ⟨G, HG, hc, hf⟩ := KK.out.fam
  obtain ⟨v', hy'⟩ := KK.out.still (j := q) (by omega) ⟨g, o + a, none⟩ (.int .u32 (G q))
  have KS := Lib.hid (fun (W : World) (hW : W = ((w.setCell ⟨g, o + a, none⟩ (.int .u32 (G q))).setCell ⟨g, o + q, none⟩ (.int .u32 (G a))).drew) => show At w g o c n W (Sort.swp d a q) from hW ▸ (KK.out.swp (by omega) (by omega) (by rw [HG.out]) (by rw [HG.out])).drew)
  clear KK HG
  go_enter Tryz.func153, Tryz.ntmps153
  go_wp2_with fail
  go_region
  go_wp2_with fail
  have KK := Lib.hid (KS.out _ rfl)
  clear KS hc hf hy' v'
  obtain ⟨i, hi⟩ : ∃ i, i = a + 1 := ⟨_, rfl⟩
  obtain ⟨j, hj⟩ : ∃ j, j = b - 1 := ⟨_, rfl⟩
  rw [show ((a : Int) + 1) = ((i : Nat) : Int) by omega, show ((b : Int) - 1) = ((j : Nat) : Int) by omega]
  have hai : a < i := by omega
  have hij : i ≤ j + 1 := by omega
  have hjb : j < b := by omega
  obtain ⟨dk, hdk⟩ : ∃ dk, dk = Sort.swp d a q := ⟨_, rfl⟩
  rw [← hdk] at KK
  have HF := Lib.hid (And.intro hdk (And.intro hi hj))
  clear hdk hi hj
  go_loopg [10] (j + 1 - i) (fun k vi w1 => ∃ x : Nat, vi = .int .i64 x ∧ i ≤ x ∧ x ≤ j + 1 ∧ j + 1 - x ≤ k ∧ At w g o c n w1 dk ∧ Hid (scanUp (fun x => ltInt x dk[a]!) dk j x = scanUp (fun x => ltInt x dk[a]!) dk j i))
  case atStart => exact ⟨i, by first | rfl | go_num, Nat.le_refl _, hij, Nat.le_refl _, KK.out, Lib.hid rfl⟩
  case round =>
    clear KK
    obtain ⟨x, rfl, hx1, hx2, hgk, K1, HS⟩ := hrel
    obtain ⟨G, HG, hc, hf⟩ := K1.fam
    obtain ⟨B, hB⟩ : ∃ B, B = (decide (x ≤ j) && ltInt (G x) (G a)) := ⟨_, rfl⟩
    have HB := Lib.hid hB
    have KK := Lib.hid K1
    clear hB K1
    go_upto_region 3 with fail
    go_cut [43] from 30 to 45 (fun s wc => s = .bool B ∧ At w g o c n wc dk)
    case first =>
      by_cases hle : x ≤ j
      · go_big_quiet (first | (go_at_call 134; refine Calls.quiet_of_same (cmpLess_any _ _ _)))
        go_wp2_with fail
        go_meet
        case rel => exact ⟨by rw [HB.out, decide_eq_true hle, Bool.true_and], KK.out.drewN nq⟩
      · have hlez : decide ((x : Int) ≤ (j : Int)) = false := decide_eq_false (by omega)
        go_big_quiet (first | (go_at_call 134; refine Calls.quiet_of_same (cmpLess_any _ _ _)))
        go_wp2_with fail
        go_meet
        case rel => exact ⟨by rw [HB.out, decide_eq_false hle, Bool.false_and], KK.out.drewN nq⟩
    case rest =>
      obtain ⟨rfl, K2⟩ := hcut
      clear hc hf KK
      have KK := Lib.hid K2
      clear K2
      cases hBv : B
      rotate_left
      · have hb2 : x ≤ j ∧ (fun x => ltInt x dk[a]!) dk[x]! = true := by
          have := HB.out.symm.trans hBv
          simp only [HG.out] at this
          simpa using this
        have HN := Lib.hid ((upStep hb2.1 hb2.2).symm.trans HS.out)
        have hxj := hb2.1
        clear hb2
        go_wp2_with fail
        go_roundg (j - x)
        case measure => omega
        case rel => exact ⟨x + 1, by go_num, by omega, by omega, by omega, KK.out, HN⟩
      · have HU := Lib.hid (show scanUp (fun x => ltInt x dk[a]!) dk j i = x by
          rw [← HS.out]
          refine upDone (fun hle => ?_)
          have := HB.out.symm.trans hBv
          simp only [HG.out] at this
          simpa [hle] using this)
        obtain ⟨i2, hi2⟩ : ∃ i2, i2 = x := ⟨x, rfl⟩
        subst hi2
        have hi2j := hx2
        have hii2 := hx1
        clear hx1 hx2 hgk HS HB HG hBv
        go_wp2_with fail
        go_loopg [11] j (fun k vi w1 => ∃ x : Nat, vi = .int .i64 x ∧ x ≤ j ∧ i2 ≤ x + 1 ∧ x ≤ k ∧ At w g o c n w1 dk ∧ Hid (scanDown (fun x => !ltInt x dk[a]!) dk i2 x = scanDown (fun x => !ltInt x dk[a]!) dk i2 j))
        case atStart => exact ⟨j, by first | rfl | go_num, Nat.le_refl _, hi2j, Nat.le_refl _, KK.out, Lib.hid rfl⟩
        case round =>
          clear KK
          obtain ⟨x, rfl, hx1, hx2, hgk, K1, HS⟩ := hrel
          obtain ⟨G, HG, hc, hf⟩ := K1.fam
          obtain ⟨B, hB⟩ : ∃ B, B = (decide (i2 ≤ x) && !ltInt (G x) (G a)) := ⟨_, rfl⟩
          have HB := Lib.hid hB
          have KK := Lib.hid K1
          clear hB K1
          go_upto_region 5 with fail
          go_cut [60] from 46 to 62 (fun s wc => s = .bool B ∧ At w g o c n wc dk)
          case first =>
            by_cases hle : i2 ≤ x
            · go_big_quiet (first | (go_at_call 134; refine Calls.quiet_of_same (cmpLess_any _ _ _)))
              go_wp2_with fail
              go_meet
              case rel => exact ⟨by rw [HB.out, decide_eq_true hle, Bool.true_and], KK.out.drewN nq⟩
            · have hlez : decide ((i2 : Int) ≤ (x : Int)) = false := decide_eq_false (by omega)
              go_big_quiet (first | (go_at_call 134; refine Calls.quiet_of_same (cmpLess_any _ _ _)))
              go_wp2_with fail
              go_meet
              case rel => exact ⟨by rw [HB.out, decide_eq_false hle, Bool.false_and], KK.out.drewN nq⟩
          case rest =>
            obtain ⟨rfl, K2⟩ := hcut
            clear hc hf KK
            have KK := Lib.hid K2
            clear K2
            cases hBv : B
            rotate_left
            · have hb2 : i2 ≤ x ∧ (fun x => !ltInt x dk[a]!) dk[x]! = true := by
                have := HB.out.symm.trans hBv
                simp only [HG.out] at this
                simpa using this
              have HN := Lib.hid ((downStep hb2.1 (by omega) hb2.2).symm.trans HS.out)
              have hxj := hb2.1
              clear hb2
              go_wp2_with fail
              go_roundg (x - 1)
              case measure => omega
              case rel => exact ⟨x - 1, by go_num, by omega, by omega, by omega, KK.out, HN⟩
            · have HD := Lib.hid (show scanDown (fun x => !ltInt x dk[a]!) dk i2 j = x by
                rw [← HS.out]
                refine downDone (fun hle => ?_)
                have := HB.out.symm.trans hBv
                simp only [HG.out] at this
                simpa [hle] using this)
              obtain ⟨j2, hj2⟩ : ∃ j2, j2 = x := ⟨x, rfl⟩
              subst hj2
              have hj2j := hx1
              have hi2j2 := hx2
              clear hx1 hx2 hgk HS HB HG hBv
              by_cases hij2 : j2 < i2
              · have HX := Lib.hid (show partition ltInt d a b q = (j2, true, Sort.swp dk j2 a) by
                  obtain ⟨rfl, rfl, rfl⟩ := HF.out
                  unfold partition
                  simp only [HU.out, HD.out]
                  rw [if_pos hij2])
                obtain ⟨G, HG, hc, hf⟩ := KK.out.fam
                obtain ⟨v', hy'⟩ := KK.out.still (j := a) (by omega) ⟨g, o + j2, none⟩ (.int .u32 (G a))
                have KS := Lib.hid (fun (W : World) (hW : W = ((wc.setCell ⟨g, o + j2, none⟩ (.int .u32 (G a))).setCell ⟨g, o + a, none⟩ (.int .u32 (G j2))).drew) => show At w g o c n W (Sort.swp dk j2 a) from hW ▸ (KK.out.swp (by omega) (by omega) (by rw [HG.out]) (by rw [HG.out])).drew)
                go_wp2_with fail
                go_region
                all_goals go_wp2_with fail
                go_ret2
                rw [HX.out]
                exact ⟨rfl, KS.out _ rfl⟩
              · have HX := Lib.hid (show partition ltInt d a b q = ((partLoop ltInt a (i2 + 1) (j2 - 1) (Sort.swp dk i2 j2)).1, false, Sort.swp (partLoop ltInt a (i2 + 1) (j2 - 1) (Sort.swp dk i2 j2)).2 (partLoop ltInt a (i2 + 1) (j2 - 1) (Sort.swp dk i2 j2)).1 a) by
                  obtain ⟨rfl, rfl, rfl⟩ := HF.out
                  unfold partition
                  simp only [HU.out, HD.out]
                  rw [if_neg hij2])
                have hap := scans_apart _ _ (fun x => by simp) HU.out HD.out (by omega) (by omega)
                obtain ⟨G, HG, hc, hf⟩ := KK.out.fam
                obtain ⟨v', hy'⟩ := KK.out.still (j := j2) (by omega) ⟨g, o + i2, none⟩ (.int .u32 (G j2))
                have KS := Lib.hid (fun (W : World) (hW : W = ((wc.setCell ⟨g, o + i2, none⟩ (.int .u32 (G j2))).setCell ⟨g, o + j2, none⟩ (.int .u32 (G i2))).drew) => show At w g o c n W (Sort.swp dk i2 j2) from hW ▸ (KK.out.swp (by omega) (by omega) (by rw [HG.out]) (by rw [HG.out])).drew)
                go_wp2_with fail
                go_region
                all_goals go_wp2_with fail
                have KK2 := Lib.hid (KS.out _ rfl)
                clear KK KS hc hf hy' v' HG
                have KK := KK2
                clear KK2
                obtain ⟨i0, hi0⟩ : ∃ z, z = i2 := ⟨_, rfl⟩
                obtain ⟨j0, hj0⟩ : ∃ z, z = j2 := ⟨_, rfl⟩
                obtain ⟨R, hR⟩ : ∃ R, R = partLoop ltInt a (i2 + 1) (j2 - 1) (Sort.swp dk i2 j2) := ⟨_, rfl⟩
                rw [← hR] at HX
                have HR := Lib.hid hR
                clear hR HU HD HF
                obtain ⟨dk0, hdk0⟩ : ∃ z, z = dk := ⟨_, rfl⟩
                go_loopg [10, 11] b (fun k vi vj wr => ∃ (i j : Nat) (dk : Array Int), vi = .int .i64 i ∧ vj = .int .i64 j ∧ a < i ∧ i ≤ j + 1 ∧ j < b ∧ j + 1 - i ≤ k ∧ At w g o c n wr dk ∧ Hid (partLoop ltInt a i j dk = R))
                case atStart => exact ⟨i2 + 1, j2 - 1, Sort.swp dk i2 j2, by go_num, by go_num, by omega, by omega, by omega, by omega, KK.out, Lib.hid HR.out.symm⟩
                case round =>
                  clear KK HR hi0 hj0 hdk0 hai hij hjb hi2j hii2 hj2j hi2j2 hij2 hap i0 j0 dk0
                  obtain ⟨i, j, dk, rfl, rfl, hai, hij, hjb, hgko, K0, HE⟩ := hrel
                  have KK := Lib.hid K0
                  clear K0
                  go_wp2_with fail
                  go_loopg [10] (j + 1 - i) (fun k vi w1 => ∃ x : Nat, vi = .int .i64 x ∧ i ≤ x ∧ x ≤ j + 1 ∧ j + 1 - x ≤ k ∧ At w g o c n w1 dk ∧ Hid (scanUp (fun x => ltInt x dk[a]!) dk j x = scanUp (fun x => ltInt x dk[a]!) dk j i))
                  case atStart => exact ⟨i, by first | rfl | go_num, Nat.le_refl _, hij, Nat.le_refl _, KK.out, Lib.hid rfl⟩
                  case round =>
                    clear KK
                    obtain ⟨x, rfl, hx1, hx2, hgk, K1, HS⟩ := hrel
                    obtain ⟨G, HG, hc, hf⟩ := K1.fam
                    obtain ⟨B, hB⟩ : ∃ B, B = (decide (x ≤ j) && ltInt (G x) (G a)) := ⟨_, rfl⟩
                    have HB := Lib.hid hB
                    have KK := Lib.hid K1
                    clear hB K1
                    go_upto_region 13 with fail
                    go_cut [112] from 99 to 114 (fun s wc => s = .bool B ∧ At w g o c n wc dk)
                    case first =>
                      by_cases hle : x ≤ j
                      · go_big_quiet (first | (go_at_call 134; refine Calls.quiet_of_same (cmpLess_any _ _ _)))
                        go_wp2_with fail
                        go_meet
                        case rel => exact ⟨by rw [HB.out, decide_eq_true hle, Bool.true_and], KK.out.drewN nq⟩
                      · have hlez : decide ((x : Int) ≤ (j : Int)) = false := decide_eq_false (by omega)
                        go_big_quiet (first | (go_at_call 134; refine Calls.quiet_of_same (cmpLess_any _ _ _)))
                        go_wp2_with fail
                        go_meet
                        case rel => exact ⟨by rw [HB.out, decide_eq_false hle, Bool.false_and], KK.out.drewN nq⟩
                    case rest =>
                      obtain ⟨rfl, K2⟩ := hcut
                      clear hc hf KK
                      have KK := Lib.hid K2
                      clear K2
                      cases hBv : B
                      rotate_left
                      · have hb2 : x ≤ j ∧ (fun x => ltInt x dk[a]!) dk[x]! = true := by
                          have := HB.out.symm.trans hBv
                          simp only [HG.out] at this
                          simpa using this
                        have HN := Lib.hid ((upStep hb2.1 hb2.2).symm.trans HS.out)
                        have hxj := hb2.1
                        clear hb2
                        go_wp2_with fail
                        go_roundg (j - x)
                        case measure => omega
                        case rel => exact ⟨x + 1, by go_num, by omega, by omega, by omega, KK.out, HN⟩
                      · have HU := Lib.hid (show scanUp (fun x => ltInt x dk[a]!) dk j i = x by
                          rw [← HS.out]
                          refine upDone (fun hle => ?_)
                          have := HB.out.symm.trans hBv
                          simp only [HG.out] at this
                          simpa [hle] using this)
                        obtain ⟨i2, hi2⟩ : ∃ i2, i2 = x := ⟨x, rfl⟩
                        subst hi2
                        have hi2j := hx2
                        have hii2 := hx1
                        clear hx1 hx2 hgk HS HB HG hBv
                        go_wp2_with fail
                        go_loopg [11] j (fun k vi w1 => ∃ x : Nat, vi = .int .i64 x ∧ x ≤ j ∧ i2 ≤ x + 1 ∧ x ≤ k ∧ At w g o c n w1 dk ∧ Hid (scanDown (fun x => !ltInt x dk[a]!) dk i2 x = scanDown (fun x => !ltInt x dk[a]!) dk i2 j))
                        case atStart => exact ⟨j, by first | rfl | go_num, Nat.le_refl _, hi2j, Nat.le_refl _, KK.out, Lib.hid rfl⟩
                        case round =>
                          clear KK
                          obtain ⟨x, rfl, hx1, hx2, hgk, K1, HS⟩ := hrel
                          obtain ⟨G, HG, hc, hf⟩ := K1.fam
                          obtain ⟨B, hB⟩ : ∃ B, B = (decide (i2 ≤ x) && !ltInt (G x) (G a)) := ⟨_, rfl⟩
                          have HB := Lib.hid hB
                          have KK := Lib.hid K1
                          clear hB K1
                          go_upto_region 15 with fail
                          go_cut [129] from 115 to 131 (fun s wc => s = .bool B ∧ At w g o c n wc dk)
                          case first =>
                            by_cases hle : i2 ≤ x
                            · go_big_quiet (first | (go_at_call 134; refine Calls.quiet_of_same (cmpLess_any _ _ _)))
                              go_wp2_with fail
                              go_meet
                              case rel => exact ⟨by rw [HB.out, decide_eq_true hle, Bool.true_and], KK.out.drewN nq⟩
                            · have hlez : decide ((i2 : Int) ≤ (x : Int)) = false := decide_eq_false (by omega)
                              go_big_quiet (first | (go_at_call 134; refine Calls.quiet_of_same (cmpLess_any _ _ _)))
                              go_wp2_with fail
                              go_meet
                              case rel => exact ⟨by rw [HB.out, decide_eq_false hle, Bool.false_and], KK.out.drewN nq⟩
                          case rest =>
                            obtain ⟨rfl, K2⟩ := hcut
                            clear hc hf KK
                            have KK := Lib.hid K2
                            clear K2
                            cases hBv : B
                            rotate_left
                            · have hb2 : i2 ≤ x ∧ (fun x => !ltInt x dk[a]!) dk[x]! = true := by
                                have := HB.out.symm.trans hBv
                                simp only [HG.out] at this
                                simpa using this
                              have HN := Lib.hid ((downStep hb2.1 (by omega) hb2.2).symm.trans HS.out)
                              have hxj := hb2.1
                              clear hb2
                              go_wp2_with fail
                              go_roundg (x - 1)
                              case measure => omega
                              case rel => exact ⟨x - 1, by go_num, by omega, by omega, by omega, KK.out, HN⟩
                            · have HD := Lib.hid (show scanDown (fun x => !ltInt x dk[a]!) dk i2 j = x by
                                rw [← HS.out]
                                refine downDone (fun hle => ?_)
                                have := HB.out.symm.trans hBv
                                simp only [HG.out] at this
                                simpa [hle] using this)
                              obtain ⟨j2, hj2⟩ : ∃ j2, j2 = x := ⟨x, rfl⟩
                              subst hj2
                              have hj2j := hx1
                              have hi2j2 := hx2
                              clear hx1 hx2 hgk HS HB HG hBv
                              by_cases hij2 : j2 < i2
                              · have HY := Lib.hid (show R = (j2, dk) by rw [← HE.out, partLoop_eq, HU.out, HD.out, if_pos hij2])
                                obtain ⟨G, HG, hc, hf⟩ := KK.out.fam
                                obtain ⟨v', hy'⟩ := KK.out.still (j := a) (by omega) ⟨g, o + j2, none⟩ (.int .u32 (G a))
                                have KS := Lib.hid (fun (W : World) (hW : W = ((wc.setCell ⟨g, o + j2, none⟩ (.int .u32 (G a))).setCell ⟨g, o + a, none⟩ (.int .u32 (G j2))).drew) => show At w g o c n W (Sort.swp dk j2 a) from hW ▸ (KK.out.swp (by omega) (by omega) (by rw [HG.out]) (by rw [HG.out])).drew)
                                go_wp2_with fail
                                go_region
                                all_goals go_wp2_with fail
                                go_ret2
                                rw [HX.out, HY.out]
                                exact ⟨rfl, KS.out _ rfl⟩
                              · have HY := Lib.hid (show partLoop ltInt a (i2 + 1) (j2 - 1) (Sort.swp dk i2 j2) = R by rw [← HE.out, partLoop_eq ltInt a i j dk, HU.out, HD.out, if_neg hij2])
                                have hap := scans_apart _ _ (fun x => by simp) HU.out HD.out (by omega) (by omega)
                                obtain ⟨G, HG, hc, hf⟩ := KK.out.fam
                                obtain ⟨v', hy'⟩ := KK.out.still (j := j2) (by omega) ⟨g, o + i2, none⟩ (.int .u32 (G j2))
                                have KS := Lib.hid (fun (W : World) (hW : W = ((wc.setCell ⟨g, o + i2, none⟩ (.int .u32 (G j2))).setCell ⟨g, o + j2, none⟩ (.int .u32 (G i2))).drew) => show At w g o c n W (Sort.swp dk i2 j2) from hW ▸ (KK.out.swp (by omega) (by omega) (by rw [HG.out]) (by rw [HG.out])).drew)
                                go_wp2_with fail
                                go_region
                                all_goals go_wp2_with fail
                                go_roundg (j2 - 1 + 1 - (i2 + 1))
                                case measure => omega
                                case rel => exact ⟨i2 + 1, j2 - 1, Sort.swp dk i2 j2, by go_num, by go_num, by omega, by omega, by omega, by omega, KS.out _ rfl, HY⟩

end Go.Proofs.YtcceololijefiaaGreatDoor
/-
  slices.partitionEqualOrdered at words: the plain one.
-/
namespace Go.Proofs.YtcceololijefiaaGreatDoor
open Go.RowKit Go.Sort

set_option maxHeartbeats 16000000 in
set_option maxRecDepth 100000 in
theorem partEqU (g o c cap n a b q : Nat) (d : Array Int) (w : World) (hu : URow w g o c d) (hn : d.size = n) (haq : a ≤ q) (hqb : q < b) (hb : b ≤ n) (hsz : n < 1152921504606846976) :
    Calls Tryz.prog 152 #[.slice (some ⟨g, o, none⟩) n cap, .int .i64 a, .int .i64 b, .int .i64 q] w fun e w' =>
      e = .returned (.int .i64 (partitionEqual ltInt d a b q).1) ∧ At w g o c n w' (partitionEqual ltInt d a b q).2 := by
  have KK := Lib.hid (At.start hu hn)
  clear hu hn
  obtain ⟨G, HG, hc, hf⟩ := KK.out.fam
  obtain ⟨v', hy'⟩ := KK.out.still (j := q) (by omega) ⟨g, o + a, none⟩ (.int .u32 (G q))
  have KS := Lib.hid (fun (W : World) (hW : W = ((w.setCell ⟨g, o + a, none⟩ (.int .u32 (G q))).setCell ⟨g, o + q, none⟩ (.int .u32 (G a))).drew) => show At w g o c n W (Sort.swp d a q) from hW ▸ (KK.out.swp (by omega) (by omega) (by rw [HG.out]) (by rw [HG.out])).drew)
  clear KK HG
  go_enter Tryz.func152, Tryz.ntmps152
  go_wp2_with fail
  go_region
  go_wp2_with fail
  have KK := Lib.hid (KS.out _ rfl)
  clear KS hc hf hy' v'
  go_loopg [9, 10] b (fun k vi vj wr => ∃ (i j : Nat) (dk : Array Int), vi = .int .i64 i ∧ vj = .int .i64 j ∧ a < i ∧ i ≤ j + 1 ∧ j < b ∧ j + 1 - i ≤ k ∧ At w g o c n wr dk ∧ Hid (partEqLoop ltInt a i j dk = partitionEqual ltInt d a b q))
  case atStart => exact ⟨a + 1, b - 1, Sort.swp d a q, by go_num, by go_num, by omega, by omega, by omega, by omega, KK.out, Lib.hid rfl⟩
  case round =>
    clear KK
    obtain ⟨i, j, dk, rfl, rfl, hai, hij, hjb, hgko, K0, HE⟩ := hrel
    have KK := Lib.hid K0
    clear K0
    go_wp2_with fail
    go_loopg [9] (j + 1 - i) (fun k vi w1 => ∃ x : Nat, vi = .int .i64 x ∧ i ≤ x ∧ x ≤ j + 1 ∧ j + 1 - x ≤ k ∧ At w g o c n w1 dk ∧ Hid (scanUp (fun x => !ltInt dk[a]! x) dk j x = scanUp (fun x => !ltInt dk[a]! x) dk j i))
    case atStart => exact ⟨i, by first | rfl | go_num, Nat.le_refl _, hij, Nat.le_refl _, KK.out, Lib.hid rfl⟩
    case round =>
      clear KK
      obtain ⟨x, rfl, hx1, hx2, hgk, K1, HS⟩ := hrel
      obtain ⟨G, HG, hc, hf⟩ := K1.fam
      obtain ⟨B, hB⟩ : ∃ B, B = (decide (x ≤ j) && !ltInt (G a) (G x)) := ⟨_, rfl⟩
      have HB := Lib.hid hB
      have KK := Lib.hid K1
      clear hB K1
      go_upto_region 3 with fail
      go_cut [43] from 29 to 45 (fun s wc => s = .bool B ∧ At w g o c n wc dk)
      case first =>
        by_cases hle : x ≤ j
        · go_big_quiet (first | (go_at_call 134; refine Calls.quiet_of_same (cmpLess_any _ _ _)))
          go_wp2_with fail
          go_meet
          case rel => exact ⟨by rw [HB.out, decide_eq_true hle, Bool.true_and], KK.out.drewN nq⟩
        · have hlez : decide ((x : Int) ≤ (j : Int)) = false := decide_eq_false (by omega)
          go_big_quiet (first | (go_at_call 134; refine Calls.quiet_of_same (cmpLess_any _ _ _)))
          go_wp2_with fail
          go_meet
          case rel => exact ⟨by rw [HB.out, decide_eq_false hle, Bool.false_and], KK.out.drewN nq⟩
      case rest =>
        obtain ⟨rfl, K2⟩ := hcut
        clear hc hf KK
        have KK := Lib.hid K2
        clear K2
        cases hBv : B
        rotate_left
        · have hb2 : x ≤ j ∧ (fun x => !ltInt dk[a]! x) dk[x]! = true := by
            have := HB.out.symm.trans hBv
            simp only [HG.out] at this
            simpa using this
          have HN := Lib.hid ((upStep hb2.1 hb2.2).symm.trans HS.out)
          have hxj := hb2.1
          clear hb2
          go_wp2_with fail
          go_roundg (j - x)
          case measure => omega
          case rel => exact ⟨x + 1, by go_num, by omega, by omega, by omega, KK.out, HN⟩
        · have HU := Lib.hid (show scanUp (fun x => !ltInt dk[a]! x) dk j i = x by
            rw [← HS.out]
            refine upDone (fun hle => ?_)
            have := HB.out.symm.trans hBv
            simp only [HG.out] at this
            simpa [hle] using this)
          obtain ⟨i2, hi2⟩ : ∃ i2, i2 = x := ⟨x, rfl⟩
          subst hi2
          have hi2j := hx2
          have hii2 := hx1
          clear hx1 hx2 hgk HS HB HG hBv
          go_wp2_with fail
          go_loopg [10] j (fun k vi w1 => ∃ x : Nat, vi = .int .i64 x ∧ x ≤ j ∧ i2 ≤ x + 1 ∧ x ≤ k ∧ At w g o c n w1 dk ∧ Hid (scanDown (fun x => ltInt dk[a]! x) dk i2 x = scanDown (fun x => ltInt dk[a]! x) dk i2 j))
          case atStart => exact ⟨j, by first | rfl | go_num, Nat.le_refl _, hi2j, Nat.le_refl _, KK.out, Lib.hid rfl⟩
          case round =>
            clear KK
            obtain ⟨x, rfl, hx1, hx2, hgk, K1, HS⟩ := hrel
            obtain ⟨G, HG, hc, hf⟩ := K1.fam
            obtain ⟨B, hB⟩ : ∃ B, B = (decide (i2 ≤ x) && ltInt (G a) (G x)) := ⟨_, rfl⟩
            have HB := Lib.hid hB
            have KK := Lib.hid K1
            clear hB K1
            go_upto_region 5 with fail
            go_cut [59] from 46 to 61 (fun s wc => s = .bool B ∧ At w g o c n wc dk)
            case first =>
              by_cases hle : i2 ≤ x
              · go_big_quiet (first | (go_at_call 134; refine Calls.quiet_of_same (cmpLess_any _ _ _)))
                go_wp2_with fail
                go_meet
                case rel => exact ⟨by rw [HB.out, decide_eq_true hle, Bool.true_and], KK.out.drewN nq⟩
              · have hlez : decide ((i2 : Int) ≤ (x : Int)) = false := decide_eq_false (by omega)
                go_big_quiet (first | (go_at_call 134; refine Calls.quiet_of_same (cmpLess_any _ _ _)))
                go_wp2_with fail
                go_meet
                case rel => exact ⟨by rw [HB.out, decide_eq_false hle, Bool.false_and], KK.out.drewN nq⟩
            case rest =>
              obtain ⟨rfl, K2⟩ := hcut
              clear hc hf KK
              have KK := Lib.hid K2
              clear K2
              cases hBv : B
              rotate_left
              · have hb2 : i2 ≤ x ∧ (fun x => ltInt dk[a]! x) dk[x]! = true := by
                  have := HB.out.symm.trans hBv
                  simp only [HG.out] at this
                  simpa using this
                have HN := Lib.hid ((downStep hb2.1 (by omega) hb2.2).symm.trans HS.out)
                have hxj := hb2.1
                clear hb2
                go_wp2_with fail
                go_roundg (x - 1)
                case measure => omega
                case rel => exact ⟨x - 1, by go_num, by omega, by omega, by omega, KK.out, HN⟩
              · have HD := Lib.hid (show scanDown (fun x => ltInt dk[a]! x) dk i2 j = x by
                  rw [← HS.out]
                  refine downDone (fun hle => ?_)
                  have := HB.out.symm.trans hBv
                  simp only [HG.out] at this
                  simpa [hle] using this)
                obtain ⟨j2, hj2⟩ : ∃ j2, j2 = x := ⟨x, rfl⟩
                subst hj2
                have hj2j := hx1
                have hi2j2 := hx2
                clear hx1 hx2 hgk HS HB HG hBv
                by_cases hij2 : j2 < i2
                · have HX := Lib.hid (show partitionEqual ltInt d a b q = (i2, dk) by rw [← HE.out, partEqLoop_eq, HU.out, HD.out, if_pos hij2])
                  go_wp2_with fail
                  go_ret
                  rw [HX.out]
                  exact ⟨rfl, KK.out⟩
                · have HX := Lib.hid (show partEqLoop ltInt a (i2 + 1) (j2 - 1) (Sort.swp dk i2 j2) = partitionEqual ltInt d a b q by rw [← HE.out, partEqLoop_eq ltInt a i j dk, HU.out, HD.out, if_neg hij2])
                  have hap := scans_apart _ _ (fun x => by simp) HU.out HD.out (by omega) (by omega)
                  obtain ⟨G, HG, hc, hf⟩ := KK.out.fam
                  obtain ⟨v', hy'⟩ := KK.out.still (j := j2) (by omega) ⟨g, o + i2, none⟩ (.int .u32 (G j2))
                  have KS := Lib.hid (fun (W : World) (hW : W = ((wc.setCell ⟨g, o + i2, none⟩ (.int .u32 (G j2))).setCell ⟨g, o + j2, none⟩ (.int .u32 (G i2))).drew) => show At w g o c n W (Sort.swp dk i2 j2) from hW ▸ (KK.out.swp (by omega) (by omega) (by rw [HG.out]) (by rw [HG.out])).drew)
                  go_wp2_with fail
                  go_region
                  all_goals go_wp2_with fail
                  go_roundg (j2 - 1 + 1 - (i2 + 1))
                  case measure => omega
                  case rel => exact ⟨i2 + 1, j2 - 1, Sort.swp dk i2 j2, by go_num, by go_num, by omega, by omega, by omega, by omega, KS.out _ rfl, HX⟩

end Go.Proofs.YtcceololijefiaaGreatDoor
/-
  slices.partialInsertionSortOrdered at words: the plain one.
-/
namespace Go.Proofs.YtcceololijefiaaGreatDoor
open Go.RowKit Go.Sort

section
variable {α : Type} [Inhabited α] (lt : α → α → Bool)
theorem sortedStep {d : Array α} {b i : Nat} (h : i < b) (hl : lt d[i]! d[i - 1]! = false) : scanSorted lt d b i = scanSorted lt d b (i + 1) := by
  rw [scanSorted, if_pos (by simp [h, hl])]
theorem sortedDone {d : Array α} {b i : Nat} (h : i < b → lt d[i]! d[i - 1]! = true) : scanSorted lt d b i = i := by
  rw [scanSorted, if_neg]
  intro hc
  simp at hc
  rw [h hc.1] at hc
  exact absurd hc.2 (by simp)
theorem sdStep {d : Array α} {j : Nat} (h : 1 ≤ j) (hl : lt d[j]! d[j - 1]! = true) : shiftDown lt j d = shiftDown lt (j - 1) (Sort.swp d j (j - 1)) := by
  cases j with
  | zero => omega
  | succ k =>
    rw [Nat.add_sub_cancel] at hl ⊢
    rw [shiftDown, if_neg (by rw [hl]; decide)]
theorem sdDone {d : Array α} {j : Nat} (h : 1 ≤ j → lt d[j]! d[j - 1]! = false) : shiftDown lt j d = d := by
  cases j with
  | zero => rfl
  | succ k =>
    have := h (by omega)
    rw [Nat.add_sub_cancel] at this
    rw [shiftDown, if_pos (by rw [this]; decide)]
theorem suStep {d : Array α} {b j : Nat} (h : j < b) (hl : lt d[j]! d[j - 1]! = true) : shiftUp lt b j d = shiftUp lt b (j + 1) (Sort.swp d j (j - 1)) := by
  rw [shiftUp, if_pos h, if_neg (by rw [hl]; decide)]
theorem suDone {d : Array α} {b j : Nat} (h : j < b → lt d[j]! d[j - 1]! = false) : shiftUp lt b j d = d := by
  rw [shiftUp]
  split
  · rename_i e
    rw [if_pos (by rw [h e]; decide)]
  · rfl
end

set_option maxHeartbeats 16000000 in
set_option maxRecDepth 100000 in
theorem partialU (g o c cap n a b : Nat) (d : Array Int) (w : World) (hu : URow w g o c d) (hn : d.size = n) (hab : a < b) (hb : b ≤ n) (hsz : n < 1152921504606846976) :
    Calls Tryz.prog 151 #[.slice (some ⟨g, o, none⟩) n cap, .int .i64 a, .int .i64 b] w fun e w' =>
      e = .returned (.bool (partialInsertionSort ltInt d a b).2) ∧ At w g o c n w' (partialInsertionSort ltInt d a b).1 := by
  have KK := Lib.hid (At.start hu hn)
  clear hu hn
  go_enter Tryz.func151, Tryz.ntmps151
  go_wp2_with fail
  go_loopg [7, 8] 5 (fun k vi vs wr => ∃ (i s : Nat) (dk : Array Int), vi = .int .i64 i ∧ vs = .int .i64 s ∧ s ≤ 5 ∧ 5 - s ≤ k ∧ a < i ∧ i ≤ b ∧ At w g o c n wr dk ∧ Hid (partialIns ltInt a b (5 - s) i dk = partialInsertionSort ltInt d a b))
  case atStart => exact ⟨a + 1, 0, d, by go_num, rfl, by omega, by omega, by omega, by omega, KK.out, Lib.hid rfl⟩
  case round =>
    clear KK
    obtain ⟨i, s, dk, rfl, rfl, hs5, hgk, hai, hib, K0, HE⟩ := hrel
    have KK := Lib.hid K0
    clear K0
    by_cases hs : s < 5
    · obtain ⟨t, ht⟩ : ∃ t, 5 - s = t + 1 := ⟨5 - s - 1, by omega⟩
      rw [ht, partialIns_succ] at HE
      go_wp2_with fail
      go_loopg [7] (b - i) (fun k vi w1 => ∃ x : Nat, vi = .int .i64 x ∧ i ≤ x ∧ x ≤ b ∧ b - x ≤ k ∧ At w g o c n w1 dk ∧ Hid (scanSorted ltInt dk b x = scanSorted ltInt dk b i))
      case atStart => exact ⟨i, rfl, Nat.le_refl _, hib, Nat.le_refl _, KK.out, Lib.hid rfl⟩
      case round =>
        clear KK
        obtain ⟨x, rfl, hx1, hx2, hgk2, K1, HS⟩ := hrel
        obtain ⟨G, HG, hc, hf⟩ := K1.fam
        obtain ⟨B, hB⟩ : ∃ B, B = (decide (x < b) && !ltInt (G x) (G (x - 1))) := ⟨_, rfl⟩
        have HB := Lib.hid hB
        have KK := Lib.hid K1
        clear hB K1
        go_upto_region 5 with fail
        go_cut [32] from 17 to 34 (fun s wc => s = .bool B ∧ At w g o c n wc dk)
        case first =>
          by_cases hle : x < b
          · go_big_quiet (first | (go_at_call 134; refine Calls.quiet_of_same (cmpLess_any _ _ _)))
            go_wp2_with fail
            go_meet
            case rel => exact ⟨by rw [HB.out, decide_eq_true hle, Bool.true_and], KK.out.drewN nq⟩
          · have hlez : decide ((x : Int) < (b : Int)) = false := decide_eq_false (by omega)
            go_big_quiet (first | (go_at_call 134; refine Calls.quiet_of_same (cmpLess_any _ _ _)))
            go_wp2_with fail
            go_meet
            case rel => exact ⟨by rw [HB.out, decide_eq_false hle, Bool.false_and], KK.out.drewN nq⟩
        case rest =>
          obtain ⟨rfl, K2⟩ := hcut
          clear hc hf KK
          have KK := Lib.hid K2
          clear K2
          cases hBv : B
          rotate_left
          · have hb2 : x < b ∧ ltInt dk[x]! dk[x - 1]! = false := by
              have := HB.out.symm.trans hBv
              simp only [HG.out] at this
              simpa using this
            have HN := Lib.hid ((sortedStep ltInt hb2.1 hb2.2).symm.trans HS.out)
            have hxb := hb2.1
            clear hb2
            go_wp2_with fail
            go_roundg (b - (x + 1))
            case measure => omega
            case rel => exact ⟨x + 1, by go_num, by omega, by omega, Nat.le_refl _, KK.out, HN⟩
          · have HU := Lib.hid (show scanSorted ltInt dk b i = x by
              rw [← HS.out]
              refine sortedDone ltInt (fun hle => ?_)
              have := HB.out.symm.trans hBv
              simp only [HG.out] at this
              simpa [hle] using this)
            clear HS HB HG hBv
            have hE := HE.out
            simp only [HU.out] at hE
            by_cases hxb : x = b
            · rw [if_pos hxb] at hE
              have HE2 := Lib.hid hE
              have hxbz : (x : Int) = (b : Int) := by omega
              clear hE
              go_wp2_with fail
              go_ret
              rw [← HE2.out]
              exact ⟨rfl, KK.out⟩
            · rw [if_neg hxb] at hE
              have hxbz : ¬ (x : Int) = (b : Int) := by omega
              by_cases h50 : b - a < 50
              · rw [if_pos h50] at hE
                have HE2 := Lib.hid hE
                have h50z : (b : Int) - (a : Int) < 50 := by omega
                clear hE
                go_wp2_with fail
                go_ret
                rw [← HE2.out]
                exact ⟨rfl, KK.out⟩
              · rw [if_neg h50] at hE
                have HE2 := Lib.hid hE
                have h50z : ¬ (b : Int) - (a : Int) < 50 := by omega
                clear hE
                obtain ⟨G, HG, hc, hf⟩ := KK.out.fam
                obtain ⟨v', hy'⟩ := KK.out.still (j := x - 1) (by omega) ⟨g, o + x, none⟩ (.int .u32 (G (x - 1)))
                have KS := Lib.hid (fun (W : World) (hW : W = ((wc.setCell ⟨g, o + x, none⟩ (.int .u32 (G (x - 1)))).setCell ⟨g, o + (x - 1), none⟩ (.int .u32 (G x))).drew) => show At w g o c n W (Sort.swp dk x (x - 1)) from hW ▸ (KK.out.swp (by omega) (by omega) (by rw [HG.out]) (by rw [HG.out])).drew)
                go_wp2_with fail
                go_region
                all_goals go_upto_if 61 with fail
                have KK2 := Lib.hid (KS.out _ rfl)
                clear KS KK hc hf hy' v' HG
                obtain ⟨d1, hd1⟩ : ∃ d1, d1 = Sort.swp dk x (x - 1) := ⟨_, rfl⟩
                rw [← hd1] at KK2 HE2
                clear hd1
                obtain ⟨d2, hd2⟩ : ∃ d2, d2 = fixDown ltInt a x d1 := ⟨_, rfl⟩
                rw [← hd2] at HE2
                have HD2 := Lib.hid hd2
                clear hd2
                go_cut [9] from 13 to 132 (fun s9 wx => At w g o c n wx d2)
                case first =>
                  by_cases h2 : x - a ≥ 2
                  · have h2z : (x : Int) - (a : Int) ≥ 2 := by omega
                    have HD := Lib.hid (show d2 = shiftDown ltInt (x - 1) d1 by rw [HD2.out, fixDown, if_pos h2])
                    go_wp2_with fail
                    go_loopg [9] n (fun k vj wr => ∃ (j : Nat) (dj : Array Int), vj = .int .i64 j ∧ j ≤ x - 1 ∧ j ≤ k ∧ At w g o c n wr dj ∧ Hid (shiftDown ltInt j dj = d2))
                    case atStart => exact ⟨x - 1, d1, by congr 1; omega, Nat.le_refl _, by omega, KK2.out, Lib.hid HD.out.symm⟩
                    case round =>
                      obtain ⟨j, dj, rfl, hjx, hgk3, KJ, HJ⟩ := hrel
                      by_cases hj1 : 1 ≤ j
                      · have hj1z : (j : Int) ≥ 1 := by omega
                        obtain ⟨G, HG, hc, hf⟩ := KJ.fam
                        have KJH := Lib.hid KJ
                        clear KJ
                        go_wp2_with fail
                        go_big_quiet (first | (go_at_call 134; refine Calls.quiet_of_same (cmpLess_any _ _ _)))
                        go_wp2_with fail
                        · have hl : (!ltInt (G j) (G (j - 1))) = true := by assumption
                          have HX := Lib.hid (show dj = d2 by rw [← HJ.out, sdDone ltInt (fun _ => by rw [← HG.out, ← HG.out]; simpa using hl)])
                          have KX := Lib.hid (HX.out ▸ KJH.out.drewN nq)
                          clear hl
                          go_meet
                          case rel => exact KX.out
                        · have hl : (!ltInt (G j) (G (j - 1))) = false := by assumption
                          have HX := Lib.hid (show shiftDown ltInt (j - 1) (Sort.swp dj j (j - 1)) = d2 by rw [← HJ.out, sdStep ltInt hj1 (by rw [← HG.out, ← HG.out]; simpa using hl)])
                          have KQ := Lib.hid (KJH.out.drewN nq)
                          obtain ⟨v', hy'⟩ := KQ.out.still (j := j - 1) (by omega) ⟨g, o + j, none⟩ (.int .u32 (G (j - 1)))
                          clear hl
                          go_region
                          all_goals go_wp2_with fail
                          go_roundg (j - 1)
                          case measure => omega
                          case rel => exact ⟨j - 1, Sort.swp dj j (j - 1), by congr 1; omega, by omega, Nat.le_refl _, (KQ.out.swp (by omega) (by omega) (by rw [HG.out]) (by rw [HG.out])).drew, HX⟩
                      · have hj1z : ¬ (j : Int) ≥ 1 := by omega
                        have HX := Lib.hid (show dj = d2 by rw [← HJ.out, sdDone ltInt (fun h => absurd h hj1)])
                        have KX := Lib.hid (HX.out ▸ KJ)
                        clear KJ
                        go_wp2_with fail
                        go_meet
                        case rel => exact KX.out
                  · have h2z : ¬ (x : Int) - (a : Int) ≥ 2 := by omega
                    have HD := Lib.hid (show d2 = d1 by rw [HD2.out, fixDown, if_neg h2])
                    go_wp2_with fail
                    go_meet
                    case rel => exact HD.out ▸ KK2.out
                case rest =>
                  have KK := Lib.hid hcut
                  clear hcut KK2 HD2
                  obtain ⟨d3, hd3⟩ : ∃ d3, d3 = fixUp ltInt b x d2 := ⟨_, rfl⟩
                  rw [← hd3] at HE2
                  have HD3 := Lib.hid hd3
                  clear hd3
                  go_upto_if 98 with fail
                  by_cases h2 : b - x ≥ 2
                  · have h2z : (b : Int) - (x : Int) ≥ 2 := by omega
                    have HD := Lib.hid (show d3 = shiftUp ltInt b (x + 1) d2 by rw [HD3.out, fixUp, if_pos h2])
                    go_wp2_with fail
                    go_loopg [10] n (fun k vj wr => ∃ (j : Nat) (dj : Array Int), vj = .int .i64 j ∧ x + 1 ≤ j ∧ j ≤ b ∧ b - j ≤ k ∧ At w g o c n wr dj ∧ Hid (shiftUp ltInt b j dj = d3))
                    case atStart => exact ⟨x + 1, d2, by go_num, Nat.le_refl _, by omega, by omega, KK.out, Lib.hid HD.out.symm⟩
                    case round =>
                      obtain ⟨j, dj, rfl, hjx, hjb, hgk3, KJ, HJ⟩ := hrel
                      by_cases hj1 : j < b
                      · have hj1z : (j : Int) < (b : Int) := by omega
                        obtain ⟨G, HG, hc, hf⟩ := KJ.fam
                        have KJH := Lib.hid KJ
                        clear KJ
                        go_wp2_with fail
                        go_big_quiet (first | (go_at_call 134; refine Calls.quiet_of_same (cmpLess_any _ _ _)))
                        go_wp2_with fail
                        · have hl : (!ltInt (G j) (G (j - 1))) = true := by assumption
                          have HX := Lib.hid (show dj = d3 by rw [← HJ.out, suDone ltInt (fun _ => by rw [← HG.out, ← HG.out]; simpa using hl)])
                          have KX := Lib.hid (HX.out ▸ KJH.out.drewN nq)
                          clear hl
                          go_roundg t
                          case measure => omega
                          case rel => exact ⟨x, s + 1, d3, rfl, by go_num, by omega, by omega, by omega, hx2, (KX.out), by rw [show 5 - (s + 1) = t by omega]; exact HE2⟩
                        · have hl : (!ltInt (G j) (G (j - 1))) = false := by assumption
                          have HX := Lib.hid (show shiftUp ltInt b (j + 1) (Sort.swp dj j (j - 1)) = d3 by rw [← HJ.out, suStep ltInt hj1 (by rw [← HG.out, ← HG.out]; simpa using hl)])
                          have KQ := Lib.hid (KJH.out.drewN nq)
                          obtain ⟨v', hy'⟩ := KQ.out.still (j := j - 1) (by omega) ⟨g, o + j, none⟩ (.int .u32 (G (j - 1)))
                          clear hl
                          go_region
                          all_goals go_wp2_with fail
                          go_roundg (b - (j + 1))
                          case measure => omega
                          case rel => exact ⟨j + 1, Sort.swp dj j (j - 1), by go_num, by omega, by omega, Nat.le_refl _, (KQ.out.swp (by omega) (by omega) (by rw [HG.out]) (by rw [HG.out])).drew, HX⟩
                      · have hj1z : ¬ (j : Int) < (b : Int) := by omega
                        have HX := Lib.hid (show dj = d3 by rw [← HJ.out, suDone ltInt (fun h => absurd h hj1)])
                        have KX := Lib.hid (HX.out ▸ KJ)
                        clear KJ
                        go_wp2_with fail
                        go_roundg t
                        case measure => omega
                        case rel => exact ⟨x, s + 1, d3, rfl, by go_num, by omega, by omega, by omega, hx2, (KX.out), by rw [show 5 - (s + 1) = t by omega]; exact HE2⟩
                  · have h2z : ¬ (b : Int) - (x : Int) ≥ 2 := by omega
                    have HD := Lib.hid (show d3 = d2 by rw [HD3.out, fixUp, if_neg h2])
                    go_wp2_with fail
                    go_roundg t
                    case measure => omega
                    case rel => exact ⟨x, s + 1, d3, rfl, by go_num, by omega, by omega, by omega, hx2, (HD.out ▸ KK.out), by rw [show 5 - (s + 1) = t by omega]; exact HE2⟩
    · have hs5 : s = 5 := by omega
      subst hs5
      go_wp2_with fail
      go_ret
      rw [← HE.out]
      exact ⟨rfl, KK.out⟩

end Go.Proofs.YtcceololijefiaaGreatDoor
/-
  slices.order2Ordered, medianOrdered, medianAdjacentOrdered at words: one of the places that came in; the row is only read.
-/
namespace Go.Proofs.YtcceololijefiaaGreatDoor
open Go.RowKit Go.Sort

theorem Blk.set1 {w : World} {g : Nat} {t : TypeId} {u : Value} (h : Blk w g t #[u]) (v : Value) : Blk (w.setCell ⟨g, 0, none⟩ v) g t #[v] := by
  have := h.set_ 0 v
  simpa using this

set_option maxHeartbeats 2000000 in
set_option maxRecDepth 100000 in
theorem order2U (g o c cap n a b sb s : Nat) (d : Array Int) (w : World) (hu : URow w g o c d) (hn : d.size = n) (ha : a < n) (hb : b < n) (_hsz : n < 1152921504606846976) (hs : s < 1000) (hS : Blk w sb 3 #[.int .i64 s]) :
    Calls Tryz.prog 163 #[.slice (some ⟨g, o, none⟩) n cap, .int .i64 a, .int .i64 b, .pointer (some ⟨sb, 0, none⟩)] w fun e w' =>
      ∃ x y s' : Nat, e = .returned (.tuple #[.int .i64 x, .int .i64 y]) ∧ ((x = a ∧ y = b) ∨ (x = b ∧ y = a)) ∧ s' ≤ s + 1 ∧ Blk w' sb 3 #[.int .i64 s'] ∧ Only sb (sb + 1) w w' := by
  have K := At.start hu hn
  obtain ⟨G, HG, hc, hf⟩ := K.fam
  have cs : w.cell? ⟨sb, 0, none⟩ = some (.int .i64 s) := hS.cell 0
  have fs := hS.frozen 0
  have HS := Lib.hid hS
  clear K hu hn hS
  go_enter Tryz.func163, Tryz.ntmps163
  go_wp2_with fail
  go_big_quiet (first | (go_at_call 134; refine Calls.quiet_of_same (cmpLess_any _ _ _)))
  go_wp2_with fail
  · go_ret2
    exact ⟨b, a, s + 1, rfl, .inr ⟨rfl, rfl⟩, Nat.le_refl _, ((HS.out.drewN nq).set1 _), Only.setCell (p := ⟨sb, 0, none⟩) ((Only.refl _ _ _).drewN' nq) ⟨Nat.le_refl _, Nat.lt_succ_self _⟩ _⟩
  · go_ret2
    exact ⟨a, b, s, rfl, .inl ⟨rfl, rfl⟩, by omega, HS.out.drewN nq, (Only.refl _ _ _).drewN' nq⟩

set_option maxHeartbeats 2000000 in
set_option maxRecDepth 100000 in
theorem medianU (g o c cap n a b q sb s : Nat) (d : Array Int) (w : World) (hu : URow w g o c d) (hn : d.size = n) (ha : a < n) (hb : b < n) (hq : q < n) (hsz : n < 1152921504606846976) (hs : s < 900) (hS : Blk w sb 3 #[.int .i64 s]) (hne : sb ≠ g) :
    Calls Tryz.prog 161 #[.slice (some ⟨g, o, none⟩) n cap, .int .i64 a, .int .i64 b, .int .i64 q, .pointer (some ⟨sb, 0, none⟩)] w fun e w' =>
      ∃ m s' : Nat, e = .returned (.int .i64 m) ∧ (m = a ∨ m = b ∨ m = q) ∧ s' ≤ s + 3 ∧ Blk w' sb 3 #[.int .i64 s'] ∧ Only sb (sb + 1) w w' := by
  have HU := Lib.hid hu
  have HN := Lib.hid hn
  have HS := Lib.hid hS
  clear hu hn hS
  go_enter Tryz.func161, Tryz.ntmps161
  go_upto_region 2 with (go_at_call 163; refine Calls.mono (order2U g o c cap n a b sb s d w HU.out HN.out ha hb hsz (by omega) HS.out) ?_; rintro e w1 ⟨x1, y1, s1, rfl, h1, hs1, B1, O1⟩)
  have hx1 : x1 < n := by omega
  have hy1 : y1 < n := by omega
  have U1 := Lib.hid (HU.out.only O1 (by omega))
  have HB1 := Lib.hid (And.intro B1 O1)
  clear B1 O1
  go_upto_region 3 with (go_at_call 163; refine Calls.mono (order2U g o c cap n y1 q sb s1 d w1 U1.out HN.out hy1 hq hsz (by omega) HB1.out.1) ?_; rintro e w2 ⟨x2, y2, s2, rfl, h2, hs2, B2, O2⟩)
  have hx2 : x2 < n := by omega
  have U2 := Lib.hid (U1.out.only O2 (by omega))
  have HB2 := Lib.hid (And.intro B2 (HB1.out.2.trans O2))
  clear B2 O2
  go_wp2_with (go_at_call 163; refine Calls.mono (order2U g o c cap n x1 x2 sb s2 d w2 U2.out HN.out hx1 hx2 hsz (by omega) HB2.out.1) ?_; rintro e w3 ⟨x3, y3, s3, rfl, h3, hs3, B3, O3⟩)
  go_ret
  exact ⟨y3, s3, rfl, by omega, by omega, B3, HB2.out.2.trans O3⟩

set_option maxHeartbeats 2000000 in
set_option maxRecDepth 100000 in
theorem medAdjU (g o c cap n a sb s : Nat) (d : Array Int) (w : World) (hu : URow w g o c d) (hn : d.size = n) (ha : a + 1 < n) (ha1 : 1 ≤ a) (hsz : n < 1152921504606846976) (hs : s < 900) (hS : Blk w sb 3 #[.int .i64 s]) (hne : sb ≠ g) :
    Calls Tryz.prog 160 #[.slice (some ⟨g, o, none⟩) n cap, .int .i64 a, .pointer (some ⟨sb, 0, none⟩)] w fun e w' =>
      ∃ m s' : Nat, e = .returned (.int .i64 m) ∧ a ≤ m + 1 ∧ m ≤ a + 1 ∧ s' ≤ s + 3 ∧ Blk w' sb 3 #[.int .i64 s'] ∧ Only sb (sb + 1) w w' := by
  have hm := medianU g o c cap n (a - 1) a (a + 1) sb s d w hu hn (by omega) (by omega) (by omega) hsz hs hS hne
  rw [show ((a - 1 : Nat) : Int) = (a : Int) - 1 by omega, show ((a + 1 : Nat) : Int) = (a : Int) + 1 by omega] at hm
  have HM := Lib.hid hm
  clear hm hu hn hS
  go_enter Tryz.func160, Tryz.ntmps160
  go_wp2_with (go_at_call 161; refine Calls.mono HM.out ?_; rintro e w3 ⟨m, s3, rfl, h3, hs3, B3, O3⟩)
  go_ret
  exact ⟨m, s3, rfl, by omega, by omega, by omega, B3, O3⟩

end Go.Proofs.YtcceololijefiaaGreatDoor
/-
  slices.choosePivotOrdered at words: a place of the range, and a hint; the row is only read.
-/
namespace Go.Proofs.YtcceololijefiaaGreatDoor
open Go.RowKit Go.Sort

set_option maxHeartbeats 4000000 in
set_option maxRecDepth 100000 in
theorem pivotU (g o c cap n a L : Nat) (d : Array Int) (w : World) (hu : URow w g o c d) (hn : d.size = n) (hL : 12 < L) (hb : a + L ≤ n) (hsz : n < 1152921504606846976) :
    Calls Tryz.prog 149 #[.slice (some ⟨g, o, none⟩) n cap, .int .i64 a, .int .i64 (a + L : Nat)] w fun e w' =>
      ∃ m h : Nat, e = .returned (.tuple #[.int .i64 m, .int .i64 h]) ∧ a ≤ m ∧ m < a + L ∧ h ≤ 2 ∧ Below w.heap.size w w' := by
  have HU := Lib.hid hu
  have HN := Lib.hid hn
  have hglt := hu.lt
  clear hu hn
  go_enter Tryz.func149, Tryz.ntmps149
  go_upto_if 32 with fail
  rw [show (a : Int) + (L : Int) - (a : Int) = (L : Int) by omega]
  obtain ⟨i, hi⟩ : ∃ i : Nat, (a : Int) + (L : Int) / 4 = (i : Int) := ⟨a + L / 4, by omega⟩
  obtain ⟨j, hj⟩ : ∃ j : Nat, (a : Int) + (L : Int) / 4 * 2 = (j : Int) := ⟨a + L / 4 * 2, by omega⟩
  obtain ⟨k, hk⟩ : ∃ k : Nat, (a : Int) + (L : Int) / 4 * 3 = (k : Int) := ⟨a + L / 4 * 3, by omega⟩
  rw [hi, hj, hk]
  have hi2 : a + 2 ≤ i ∧ i + 2 ≤ a + L := by omega
  have hj2 : a + 2 ≤ j ∧ j + 2 ≤ a + L := by omega
  have hk2 : a + 2 ≤ k ∧ k + 2 ≤ a + L := by omega
  clear hi hj hk
  have h8 : (8 : Int) ≤ (L : Int) := by omega
  obtain ⟨w1, hw1⟩ : ∃ w1, w1 = w.alloc (Obj.cells #[Value.int IntKind.i64 0] 3) := ⟨_, rfl⟩
  have B1 : Below w.heap.size w w1 := by rw [hw1]; exact below1 _ _
  have S1 : Blk w1 w.heap.size 3 #[.int .i64 (0 : Nat)] := by rw [hw1]; exact Blk.new _ _ _
  rw [← hw1]
  clear hw1
  have U1 := Lib.hid (HU.out.below B1 hglt)
  have HB := Lib.hid (And.intro B1 S1)
  clear B1 S1
  go_cut [10, 11, 12] from 13 (fun _ s11 _ wc => ∃ m s : Nat, s11 = .int .i64 m ∧ a ≤ m ∧ m < a + L ∧ Hid (Blk wc w.heap.size 3 #[.int .i64 s] ∧ Only w.heap.size (w.heap.size + 1) w1 wc))
  case first =>
    by_cases h50 : 50 ≤ L
    · have h50z : (50 : Int) ≤ (L : Int) := by omega
      go_upto_region 9 with (go_at_call 160; refine Calls.mono (medAdjU g o c cap n i w.heap.size 0 d w1 U1.out HN.out (by omega) (by omega) hsz (by omega) HB.out.2 (by omega)) ?_; rintro e w2 ⟨x1, s1, rfl, a1, b1, hs1, B2, O2⟩)
      have U2 := Lib.hid (U1.out.only O2 (by omega))
      have HB2 := Lib.hid (And.intro B2 O2)
      clear B2 O2
      go_upto_region 10 with (go_at_call 160; refine Calls.mono (medAdjU g o c cap n j w.heap.size s1 d w2 U2.out HN.out (by omega) (by omega) hsz (by omega) HB2.out.1 (by omega)) ?_; rintro e w3 ⟨x2, s2, rfl, a2, b2, hs2, B3, O3⟩)
      have U3 := Lib.hid (U2.out.only O3 (by omega))
      have HB3 := Lib.hid (And.intro B3 (HB2.out.2.trans O3))
      clear B3 O3
      go_upto_region 11 with (go_at_call 160; refine Calls.mono (medAdjU g o c cap n k w.heap.size s2 d w3 U3.out HN.out (by omega) (by omega) hsz (by omega) HB3.out.1 (by omega)) ?_; rintro e w4 ⟨x3, s3, rfl, a3, b3, hs3, B4, O4⟩)
      have U4 := Lib.hid (U3.out.only O4 (by omega))
      have HB4 := Lib.hid (And.intro B4 (HB3.out.2.trans O4))
      clear B4 O4
      go_wp2_with (go_at_call 161; refine Calls.mono (medianU g o c cap n x1 x2 x3 w.heap.size s3 d w4 U4.out HN.out (by omega) (by omega) (by omega) hsz (by omega) HB4.out.1 (by omega)) ?_; rintro e w5 ⟨m, s4, rfl, hm, hs4, B5, O5⟩)
      go_meet
      case rel => exact ⟨m, s4, rfl, by omega, by omega, B5, HB4.out.2.trans O5⟩
    · have h50z : ¬ (50 : Int) ≤ (L : Int) := by omega
      go_wp2_with (go_at_call 161; refine Calls.mono (medianU g o c cap n i j k w.heap.size 0 d w1 U1.out HN.out (by omega) (by omega) (by omega) hsz (by omega) HB.out.2 (by omega)) ?_; rintro e w5 ⟨m, s4, rfl, hm, hs4, B5, O5⟩)
      go_meet
      case rel => exact ⟨m, s4, rfl, by omega, by omega, B5, O5⟩
  case rest =>
    obtain ⟨m, s, rfl, hm1, hm2, HR⟩ := hcut
    have cs : wc.cell? ⟨w.heap.size, 0, none⟩ = some (.int .i64 s) := HR.out.1.cell 0
    have HF := Lib.hid (show Below w.heap.size w wc from Only.then_ HB.out.1 HR.out.2 (Nat.le_refl _))
    go_wp2_with fail
    all_goals go_ret2
    · exact ⟨m, 1, rfl, hm1, hm2, by omega, HF.out⟩
    · exact ⟨m, 2, rfl, hm1, hm2, by omega, HF.out⟩
    · exact ⟨m, 0, rfl, hm1, hm2, by omega, HF.out⟩

end Go.Proofs.YtcceololijefiaaGreatDoor
/-
  Functions of the library, laid at this program: the numbers of their functions and types. No condition.
-/
namespace Go.Proofs
open Go.Shelf
def Tryz.npot_ren : Go.Shelf.Ren := ⟨fun | 47 => 155 | 15 => 130 | 28 => 144 | 29 => 145 | n => n, fun | 3 => 3 | 39 => 110 | 53 => 82 | 55 => 53 | 4 => 4 | 5 => 5 | 9 => 9 | n => n, fun | n => n⟩
theorem Tryz.npot : Go.Proofs.SlLaysF0.n47 Tryz.prog Tryz.npot_ren := {
  mixed := by kernel_rfl
  f15 := Tryz.func130.trans (congrArg some (by kernel_rfl))
  f28 := Tryz.func144.trans (congrArg some (by kernel_rfl))
  f29 := Tryz.func145.trans (congrArg some (by kernel_rfl))
  f47 := Tryz.func155.trans (congrArg some (by kernel_rfl))
  t3 := Tryz.underlying3
  a3 := Tryz.isAgg3
  z3 := Tryz.sizeOf3
  v3 := Tryz.zeroValue3
  t4 := Tryz.underlying4
  a4 := Tryz.isAgg4
  z4 := Tryz.sizeOf4
  v4 := Tryz.zeroValue4
  t5 := Tryz.underlying5
  a5 := Tryz.isAgg5
  z5 := Tryz.sizeOf5
  v5 := Tryz.zeroValue5
  t9 := Tryz.underlying9
  a9 := Tryz.isAgg9
  z9 := Tryz.sizeOf9
  v9 := Tryz.zeroValue9
  t39 := Tryz.underlying110
  a39 := Tryz.isAgg110
  z39 := Tryz.sizeOf110
  v39 := Tryz.zeroValue110
  t53 := Tryz.underlying82
  a53 := Tryz.isAgg82
  z53 := Tryz.sizeOf82
  v53 := Tryz.zeroValue82
  t55 := Tryz.underlying53
  a55 := Tryz.isAgg53
  z55 := Tryz.sizeOf53
  v55 := Tryz.zeroValue53 }
def Tryz.xorNext_ren : Go.Shelf.Ren := ⟨fun | 48 => 156 | n => n, fun | 76 => 185 | 55 => 53 | 0 => 0 | 66 => 177 | 39 => 110 | n => n, fun | n => n⟩
theorem Tryz.xorNext : Go.Proofs.SlLaysF0.n48 Tryz.prog Tryz.xorNext_ren := {
  mixed := by kernel_rfl
  f48 := Tryz.func156.trans (congrArg some (by kernel_rfl))
  t0 := Tryz.underlying0
  a0 := Tryz.isAgg0
  z0 := Tryz.sizeOf0
  v0 := Tryz.zeroValue0
  t39 := Tryz.underlying110
  a39 := Tryz.isAgg110
  z39 := Tryz.sizeOf110
  v39 := Tryz.zeroValue110
  t55 := Tryz.underlying53
  a55 := Tryz.isAgg53
  z55 := Tryz.sizeOf53
  v55 := Tryz.zeroValue53
  t66 := Tryz.underlying177
  a66 := Tryz.isAgg177
  z66 := Tryz.sizeOf177
  v66 := Tryz.zeroValue177
  t76 := Tryz.underlying185
  a76 := Tryz.isAgg185
  z76 := Tryz.sizeOf185
  v76 := Tryz.zeroValue185 }
def Tryz.bitsLen_ren : Go.Shelf.Ren := ⟨fun | 15 => 130 | 28 => 144 | 29 => 145 | n => n, fun | 39 => 110 | 3 => 3 | 53 => 82 | 55 => 53 | 4 => 4 | 5 => 5 | 9 => 9 | n => n, fun | n => n⟩
theorem Tryz.bitsLen : Go.Proofs.SlLaysF0.n15 Tryz.prog Tryz.bitsLen_ren := {
  mixed := by kernel_rfl
  f15 := Tryz.func130.trans (congrArg some (by kernel_rfl))
  f28 := Tryz.func144.trans (congrArg some (by kernel_rfl))
  f29 := Tryz.func145.trans (congrArg some (by kernel_rfl))
  t3 := Tryz.underlying3
  a3 := Tryz.isAgg3
  z3 := Tryz.sizeOf3
  v3 := Tryz.zeroValue3
  t4 := Tryz.underlying4
  a4 := Tryz.isAgg4
  z4 := Tryz.sizeOf4
  v4 := Tryz.zeroValue4
  t5 := Tryz.underlying5
  a5 := Tryz.isAgg5
  z5 := Tryz.sizeOf5
  v5 := Tryz.zeroValue5
  t9 := Tryz.underlying9
  a9 := Tryz.isAgg9
  z9 := Tryz.sizeOf9
  v9 := Tryz.zeroValue9
  t39 := Tryz.underlying110
  a39 := Tryz.isAgg110
  z39 := Tryz.sizeOf110
  v39 := Tryz.zeroValue110
  t53 := Tryz.underlying82
  a53 := Tryz.isAgg82
  z53 := Tryz.sizeOf82
  v53 := Tryz.zeroValue82
  t55 := Tryz.underlying53
  a55 := Tryz.isAgg53
  z55 := Tryz.sizeOf53
  v55 := Tryz.zeroValue53 }
def Tryz.sortB_ren : Go.Shelf.Ren := ⟨fun | 6 => 118 | 15 => 130 | 14 => 129 | 28 => 144 | 29 => 145 | 20 => 136 | 21 => 137 | 22 => 138 | 23 => 139 | 24 => 140 | 25 => 141 | 26 => 142 | 27 => 143 | 46 => 154 | 47 => 155 | 48 => 156 | 49 => 157 | 50 => 158 | 57 => 162 | n => n, fun | 22 => 78 | 24 => 83 | 25 => 147 | 3 => 3 | 39 => 110 | 0 => 0 | 53 => 82 | 55 => 53 | 4 => 4 | 46 => 166 | 45 => 165 | 50 => 149 | 5 => 5 | 9 => 9 | 66 => 177 | 70 => 181 | 76 => 185 | 77 => 186 | n => n, fun | n => n⟩
theorem Tryz.sortB : Go.Proofs.SlLaysF.n6 Tryz.prog Tryz.sortB_ren := {
  mixed := by kernel_rfl
  f6 := ⟨Tryz.f118.name, by decide, Tryz.func118.trans (congrArg some (by kernel_rfl))⟩
  f14 := ⟨Tryz.f129.name, by decide, Tryz.func129.trans (congrArg some (by kernel_rfl))⟩
  f15 := Tryz.func130.trans (congrArg some (by kernel_rfl))
  f20 := ⟨Tryz.f136.name, by decide, Tryz.func136.trans (congrArg some (by kernel_rfl))⟩
  f21 := ⟨Tryz.f137.name, by decide, Tryz.func137.trans (congrArg some (by kernel_rfl))⟩
  f22 := ⟨Tryz.f138.name, by decide, Tryz.func138.trans (congrArg some (by kernel_rfl))⟩
  f23 := ⟨Tryz.f139.name, by decide, Tryz.func139.trans (congrArg some (by kernel_rfl))⟩
  f24 := ⟨Tryz.f140.name, by decide, Tryz.func140.trans (congrArg some (by kernel_rfl))⟩
  f25 := ⟨Tryz.f141.name, by decide, Tryz.func141.trans (congrArg some (by kernel_rfl))⟩
  f26 := ⟨Tryz.f142.name, by decide, Tryz.func142.trans (congrArg some (by kernel_rfl))⟩
  f27 := ⟨Tryz.f143.name, by decide, Tryz.func143.trans (congrArg some (by kernel_rfl))⟩
  f28 := Tryz.func144.trans (congrArg some (by kernel_rfl))
  f29 := Tryz.func145.trans (congrArg some (by kernel_rfl))
  f46 := ⟨Tryz.f154.name, by decide, Tryz.func154.trans (congrArg some (by kernel_rfl))⟩
  f47 := Tryz.func155.trans (congrArg some (by kernel_rfl))
  f48 := Tryz.func156.trans (congrArg some (by kernel_rfl))
  f49 := ⟨Tryz.f157.name, by decide, Tryz.func157.trans (congrArg some (by kernel_rfl))⟩
  f50 := ⟨Tryz.f158.name, by decide, Tryz.func158.trans (congrArg some (by kernel_rfl))⟩
  f57 := ⟨Tryz.f162.name, by decide, Tryz.func162.trans (congrArg some (by kernel_rfl))⟩
  t0 := Tryz.underlying0
  a0 := Tryz.isAgg0
  z0 := Tryz.sizeOf0
  v0 := Tryz.zeroValue0
  t3 := Tryz.underlying3
  a3 := Tryz.isAgg3
  z3 := Tryz.sizeOf3
  v3 := Tryz.zeroValue3
  t4 := Tryz.underlying4
  a4 := Tryz.isAgg4
  z4 := Tryz.sizeOf4
  v4 := Tryz.zeroValue4
  t5 := Tryz.underlying5
  a5 := Tryz.isAgg5
  z5 := Tryz.sizeOf5
  v5 := Tryz.zeroValue5
  t9 := Tryz.underlying9
  a9 := Tryz.isAgg9
  z9 := Tryz.sizeOf9
  v9 := Tryz.zeroValue9
  t22 := Tryz.underlying78
  a22 := Tryz.isAgg78
  z22 := Tryz.sizeOf78
  v22 := Tryz.zeroValue78
  a24 := Tryz.isAgg83
  z24 := Tryz.sizeOf83
  t25 := Tryz.underlying147
  a25 := Tryz.isAgg147
  z25 := Tryz.sizeOf147
  v25 := Tryz.zeroValue147
  t39 := Tryz.underlying110
  a39 := Tryz.isAgg110
  z39 := Tryz.sizeOf110
  v39 := Tryz.zeroValue110
  t45 := Tryz.underlying165
  a45 := Tryz.isAgg165
  z45 := Tryz.sizeOf165
  v45 := Tryz.zeroValue165
  t46 := Tryz.underlying166
  a46 := Tryz.isAgg166
  z46 := Tryz.sizeOf166
  v46 := Tryz.zeroValue166
  t50 := Tryz.underlying149
  a50 := Tryz.isAgg149
  z50 := Tryz.sizeOf149
  v50 := Tryz.zeroValue149
  t53 := Tryz.underlying82
  a53 := Tryz.isAgg82
  z53 := Tryz.sizeOf82
  v53 := Tryz.zeroValue82
  t55 := Tryz.underlying53
  a55 := Tryz.isAgg53
  z55 := Tryz.sizeOf53
  v55 := Tryz.zeroValue53
  t66 := Tryz.underlying177
  a66 := Tryz.isAgg177
  z66 := Tryz.sizeOf177
  v66 := Tryz.zeroValue177
  t70 := Tryz.underlying181
  a70 := Tryz.isAgg181
  z70 := Tryz.sizeOf181
  v70 := Tryz.zeroValue181
  t76 := Tryz.underlying185
  a76 := Tryz.isAgg185
  z76 := Tryz.sizeOf185
  v76 := Tryz.zeroValue185
  t77 := Tryz.underlying186
  a77 := Tryz.isAgg186
  z77 := Tryz.sizeOf186
  v77 := Tryz.zeroValue186 }
def Tryz.compactB_ren : Go.Shelf.Ren := ⟨fun | 43 => 122 | n => n, fun | 22 => 78 | 23 => 83 | 3 => 3 | 4 => 4 | 0 => 0 | n => n, fun | n => n⟩
theorem Tryz.compactB : Go.Proofs.SlLaysE.n43 Tryz.prog Tryz.compactB_ren := {
  mixed := by kernel_rfl
  f43 := ⟨Tryz.f122.name, by decide, Tryz.func122.trans (congrArg some (by kernel_rfl))⟩
  t0 := Tryz.underlying0
  a0 := Tryz.isAgg0
  z0 := Tryz.sizeOf0
  v0 := Tryz.zeroValue0
  t3 := Tryz.underlying3
  a3 := Tryz.isAgg3
  z3 := Tryz.sizeOf3
  v3 := Tryz.zeroValue3
  t4 := Tryz.underlying4
  a4 := Tryz.isAgg4
  z4 := Tryz.sizeOf4
  v4 := Tryz.zeroValue4
  t22 := Tryz.underlying78
  a22 := Tryz.isAgg78
  z22 := Tryz.sizeOf78
  v22 := Tryz.zeroValue78
  a23 := Tryz.isAgg83
  z23 := Tryz.sizeOf83 }
def Tryz.deleteB_ren : Go.Shelf.Ren := ⟨fun | 10 => 123 | 6 => 133 | n => n, fun | 22 => 78 | 23 => 83 | 25 => 157 | 3 => 3 | 4 => 4 | 0 => 0 | n => n, fun | n => n⟩
theorem Tryz.deleteB : Go.Proofs.SlLaysH.n10 Tryz.prog Tryz.deleteB_ren := {
  mixed := by kernel_rfl
  f6 := ⟨Tryz.f133.name, by decide, Tryz.func133.trans (congrArg some (by kernel_rfl))⟩
  f10 := ⟨Tryz.f123.name, by decide, Tryz.func123.trans (congrArg some (by kernel_rfl))⟩
  t0 := Tryz.underlying0
  a0 := Tryz.isAgg0
  z0 := Tryz.sizeOf0
  v0 := Tryz.zeroValue0
  t3 := Tryz.underlying3
  a3 := Tryz.isAgg3
  z3 := Tryz.sizeOf3
  v3 := Tryz.zeroValue3
  t4 := Tryz.underlying4
  a4 := Tryz.isAgg4
  z4 := Tryz.sizeOf4
  v4 := Tryz.zeroValue4
  t22 := Tryz.underlying78
  a22 := Tryz.isAgg78
  z22 := Tryz.sizeOf78
  v22 := Tryz.zeroValue78
  a23 := Tryz.isAgg83
  z23 := Tryz.sizeOf83
  t25 := Tryz.underlying157
  a25 := Tryz.isAgg157
  z25 := Tryz.sizeOf157
  v25 := Tryz.zeroValue157 }
end Go.Proofs
/-
  slices.breakPatternsOrdered at words: a permutation of the range.
-/
namespace Go.Proofs.YtcceololijefiaaGreatDoor
open Go.RowKit Go.Sort Go.Shelf

set_option maxHeartbeats 4000000 in
set_option maxRecDepth 100000 in
theorem breakU (g o c cap n a L : Nat) (d : Array Int) (w : World) (hu : URow w g o c d) (hn : d.size = n) (hL : 12 < L) (hb : a + L ≤ n) (hsz : n < 1152921504606846976) :
    Calls Tryz.prog 148 #[.slice (some ⟨g, o, none⟩) n cap, .int .i64 a, .int .i64 (a + L : Nat)] w fun e w' =>
      e = .returned (.tuple #[]) ∧ ∃ d', At w g o c n w' d' ∧ PermIn a (a + L) d d' := by
  obtain ⟨M, hM⟩ : ∃ M : Nat, M = 1 <<< bitsLen L := ⟨_, rfl⟩
  have hM1 : 1 ≤ M := by rw [hM, Nat.one_shiftLeft]; exact Nat.two_pow_pos _
  have hM2 : M ≤ 2 * L := by rw [hM, Nat.one_shiftLeft]; exact two_pow_bitsLen_le (by omega)
  have hNP : ∀ w, Calls Tryz.prog 155 #[.int .i64 ((a : Int) + (L : Int) - (a : Int))] w fun e w' => e = .returned (.int .u64 (M : Int)) ∧ w' = w := by
    intro w
    rw [hM, show (a : Int) + (L : Int) - (a : Int) = (L : Int) by omega]
    exact AnyF.nextPowerOfTwo Tryz.npot L (by omega) w
  have HNP := Lib.hid hNP
  have hglt := hu.lt
  have KK := Lib.hid (At.start hu hn)
  clear hu hn hNP hM
  go_enter Tryz.func148, Tryz.ntmps148
  go_wp2_with (go_at_call 155; refine Calls.mono (HNP.out _) ?_; rintro e w1 ⟨rfl, rfl⟩)
  obtain ⟨w1, hw1⟩ : ∃ w1, w1 = w.alloc (Obj.cells #[Value.int IntKind.u64 ((a : Int) + (L : Int) - (a : Int))] 177) := ⟨_, rfl⟩
  have B1 : Below w.heap.size w w1 := by rw [hw1]; exact below1 _ _
  have S1 : Blk w1 w.heap.size 177 #[.int .u64 (L : Nat)] := by rw [hw1, show (a : Int) + (L : Int) - (a : Int) = (L : Int) by omega]; exact Blk.new _ _ _
  rw [← hw1]
  clear hw1
  have K1 := Lib.hid (show At w g o c n w1 d from ⟨KK.out.row.below B1 hglt, KK.out.size, Only.of_below B1⟩)
  have HS := Lib.hid S1
  clear S1 B1 KK
  go_loopg [9] 3 (fun k vi wr => ∃ (t X : Nat) (dk : Array Int), vi = .int .i64 ((a + L / 4 * 2 - 1 + t : Nat) : Int) ∧ t + k = 3 ∧ X < 18446744073709551616 ∧ At w g o c n wr dk ∧ Hid (Blk wr w.heap.size 177 #[.int .u64 (X : Nat)] ∧ PermIn a (a + L) d dk))
  case atStart => exact ⟨0, L, d, by congr 1; omega, rfl, by omega, K1.out, HS.out, permIn_refl _ _ _⟩
  case round =>
    clear K1 HS
    obtain ⟨t, X, dk, rfl, htk, hX, K, HB⟩ := hrel
    obtain ⟨I, hI⟩ : ∃ I, I = a + L / 4 * 2 - 1 + t := ⟨_, rfl⟩
    rw [← hI]
    by_cases ht : t < 3
    · have hIz : (I : Int) ≤ (a : Int) + ((a : Int) + (L : Int) - (a : Int)) / 4 * 2 + 1 := by omega
      have hI1 : a ≤ I := by omega
      have hI2 : I < a + L := by omega
      have hIn : I + 1 = a + L / 4 * 2 - 1 + (t + 1) := by omega
      have HI := Lib.hid hIn
      clear hI hIn
      obtain ⟨R, hR⟩ : ∃ R, R = xorNextN X := ⟨_, rfl⟩
      have lR : R < 18446744073709551616 := by rw [hR]; exact xorNextN_lt X hX
      obtain ⟨O, hO⟩ : ∃ O : Nat, O = R &&& (M - 1) := ⟨_, rfl⟩
      have lO : O ≤ M - 1 := by rw [hO]; exact Nat.and_le_right
      have eAnd : bits .and .u64 (R : Int) ((M : Int) - 1) = (O : Int) := by
        rw [show ((M : Int) - 1) = ((M - 1 : Nat) : Int) by omega, bits_and_u64_nat _ _ lR (by omega), hO]
      have hNext : Calls Tryz.prog 156 #[.pointer (some ⟨w.heap.size, 0, none⟩)] wr fun e w' => e = .returned (.int .u64 (R : Int)) ∧ w' = (wr.setCell ⟨w.heap.size, 0, none⟩ (.int .u64 (R : Int))).drewN 3 := by
        rw [hR]
        exact AnyF.xorshift_Next Tryz.xorNext w.heap.size 0 X hX wr (HB.out.1.cell 0) (HB.out.1.frozen 0)
      have HNX := Lib.hid hNext
      clear hR hO hNext
      go_upto_if 43 with (go_at_call 156; refine Calls.mono HNX.out ?_; rintro e w2 ⟨rfl, hw2⟩; have HW2 := Lib.hid hw2; clear hw2)
      have hw2 := HW2.out
      clear HW2
      have B2 : Blk w2 w.heap.size 177 #[.int .u64 (R : Nat)] := by
        rw [hw2]
        have := (HB.out.1.set_ 0 (.int .u64 (R : Nat))).drewN 3
        simpa using this
      have O2 : Only w.heap.size (w.heap.size + 1) wr w2 := by
        rw [hw2]
        exact (Only.setCell (p := ⟨w.heap.size, 0, none⟩) (Only.refl _ _ _) ⟨Nat.le_refl _, Nat.lt_succ_self _⟩ _).drewN' 3
      have KK := Lib.hid (K.aside O2 (Nat.le_refl _) hglt)
      have HB2 := Lib.hid (And.intro B2 HB.out.2)
      clear B2 O2 hw2 K HB HNX
      go_cut [10] from 26 to 64 (fun s10 wc => ∃ q : Nat, s10 = .int .i64 q ∧ q < L ∧ wc = w2)
      case first =>
        by_cases hLO : L ≤ O
        · have hz : (L : Int) ≤ (O : Int) := by omega
          go_wp2_with fail
          go_meet
          case rel => exact ⟨O - L, by congr 1; omega, by omega, rfl⟩
        · have hz : ¬ ((L : Int) ≤ (O : Int)) := by omega
          go_wp2_with fail
          go_meet
          case rel => exact ⟨O, by first | rfl | (congr 1; omega), by omega, rfl⟩
      case rest =>
        obtain ⟨q, rfl, hq, rfl⟩ := hcut
        obtain ⟨G, HG, hc, hf⟩ := KK.out.fam
        obtain ⟨v', hy'⟩ := KK.out.still (j := a + q) (by omega) ⟨g, o + I, none⟩ (.int .u32 (G (a + q)))
        have KS := Lib.hid (fun (W : World) (hW : W = ((wc.setCell ⟨g, o + I, none⟩ (.int .u32 (G (a + q)))).setCell ⟨g, o + (a + q), none⟩ (.int .u32 (G I))).drew) => show At w g o c n W (Sort.swp dk I (a + q)) from hW ▸ (KK.out.swp (by omega) (by omega) (by rw [HG.out]) (by rw [HG.out])).drew)
        have HB3 := Lib.hid (fun (W : World) (hW : W = ((wc.setCell ⟨g, o + I, none⟩ (.int .u32 (G (a + q)))).setCell ⟨g, o + (a + q), none⟩ (.int .u32 (G I))).drew) =>
          show Blk W w.heap.size 177 #[.int .u64 (R : Nat)] ∧ PermIn a (a + L) d (Sort.swp dk I (a + q)) from hW ▸ ⟨((HB2.out.1.far (p := ⟨g, o + I, none⟩) (by show w.heap.size ≠ g; omega) _).far (p := ⟨g, o + (a + q), none⟩) (by show w.heap.size ≠ g; omega) _).drewN 1,
            permIn_trans _ _ _ _ _ HB2.out.2 (swp_permIn dk a (a + L) I (a + q) hI1 hI2 (by omega) (by omega) (by have := KK.out.size; omega))⟩)
        by_cases hEq : I = a + q
        all_goals
          go_wp2_with fail
          go_region
          all_goals go_wp2_with fail
          go_roundg (3 - (t + 1))
          case measure => omega
          case rel => exact ⟨t + 1, R, Sort.swp dk I (a + q), by rw [← HI.out]; go_num, by omega, lR, KS.out _ (by first | rfl | rw [hEq]), HB3.out _ (by first | rfl | rw [hEq])⟩
    · have hIz : ¬ (I : Int) ≤ (a : Int) + ((a : Int) + (L : Int) - (a : Int)) / 4 * 2 + 1 := by omega
      go_wp2_with fail
      go_end0
      exact ⟨rfl, dk, K, HB.out.2⟩

end Go.Proofs.YtcceololijefiaaGreatDoor
