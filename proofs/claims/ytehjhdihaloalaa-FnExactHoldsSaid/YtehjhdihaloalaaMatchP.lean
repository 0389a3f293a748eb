/-
  Matching an atom with a fact, plain mathematics.
-/
import Derived.Test.YtehjhdihaloalaaBinds
namespace Go.Proofs.Ytehjhdihaloalaa
open Go.RowKit

/-- One term against one constant. -/
def stepM (bs : List Int) (t c : Int) : Option (List Int) :=
  if termVal bs t = c then some bs else if termVal bs t = -1 then some (bs.set (-1 - t).toNat c) else none
def matchTo (bs xs ys : List Int) : Nat → Option (List Int)
  | 0 => some bs
  | k + 1 => (matchTo bs xs ys k).bind fun b => stepM b (xs.getD k 0) (ys.getD k 0)
def matchL (a f : LFact) (bs : List Int) : Option (List Int) :=
  if a.1 = f.1 ∧ a.2.length = f.2.length then matchTo bs a.2 f.2 a.2.length else none

theorem stepM_ok {bs b : List Int} (h : bindOk bs = true) {t c : Int} (hc : -1 ≤ c ∧ c ≤ 5) (e : stepM bs t c = some b) : bindOk b = true := by
  unfold stepM at e
  split at e
  · injection e with e
    rwa [← e]
  · split at e
    · injection e with e
      rw [← e]
      exact bindOk_set h hc _
    · cases e
theorem matchTo_step {bs xs ys b : List Int} {k : Nat} (h : matchTo bs xs ys k = some b) (h1 : k < xs.length) (h2 : k < ys.length) : matchTo bs xs ys (k + 1) = stepM b xs[k] ys[k] := by
  show (matchTo bs xs ys k).bind _ = _
  rw [h]
  simp [h1, h2]
theorem matchTo_none {bs xs ys : List Int} {k : Nat} (h : matchTo bs xs ys k = none) : ∀ n, k ≤ n → matchTo bs xs ys n = none
  | 0, hn => by
    have : k = 0 := by omega
    subst this
    exact h
  | n + 1, hn => by
    by_cases e : k = n + 1
    · rw [← e]; exact h
    · show (matchTo bs xs ys n).bind _ = none
      rw [matchTo_none h n (by omega)]
      rfl
theorem matchL_eq {a f : LFact} {bs : List Int} (h1 : a.1 = f.1) (h2 : a.2.length = f.2.length) : matchL a f bs = matchTo bs a.2 f.2 a.2.length := if_pos ⟨h1, h2⟩
theorem matchL_pred {a f : LFact} {bs : List Int} (h : a.1 ≠ f.1) : matchL a f bs = none := if_neg fun e => h e.1
theorem matchL_len {a f : LFact} {bs : List Int} (h : a.2.length ≠ f.2.length) : matchL a f bs = none := if_neg fun e => h e.2
theorem matchL_stop {a f : LFact} {bs : List Int} {k : Nat} (h1 : a.1 = f.1) (h2 : a.2.length = f.2.length) (hk : k < a.2.length) (e : matchTo bs a.2 f.2 (k + 1) = none) : matchL a f bs = none := by
  rw [matchL_eq h1 h2]
  exact matchTo_none e _ hk
theorem stepM_same {bs : List Int} {t c : Int} (h : termVal bs t = c) : stepM bs t c = some bs := if_pos h
theorem stepM_new {bs : List Int} {t c : Int} (h : termVal bs t = -1) (hc : c ≠ -1) : stepM bs t c = some (bs.set (-1 - t).toNat c) := by
  unfold stepM
  rw [if_neg (by omega), if_pos h]
theorem stepM_no {bs : List Int} {t c : Int} (h : termVal bs t ≠ c) (h2 : termVal bs t ≠ -1) : stepM bs t c = none := by
  unfold stepM
  rw [if_neg h, if_neg h2]
theorem termVal_free {bs : List Int} {t : Int} (ht : termOk t = true) (h : termVal bs t = -1) : -4 ≤ t ∧ t ≤ -1 ∧ bs.getD (-1 - t).toNat (-1) = -1 := by
  have htb := termOk_at ht
  have h0 : t < 0 := by
    rcases Int.lt_or_le t 0 with h1 | h1
    · exact h1
    · rw [termVal_const h1] at h
      omega
  rw [termVal_var h0] at h
  exact ⟨htb.1, by omega, h⟩

end Go.Proofs.Ytehjhdihaloalaa
