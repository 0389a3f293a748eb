/-
  AllFacts ascends: plain mathematics.
-/
import Derived.Test.YtdclfcjbadgmfaaDigits
import Derived.Test.YtdclfcjbadgmfaaOrder
namespace Go.Proofs.Ytdclfcjbadgmfaa

theorem digits_ascend1 : ∀ i, i < 6 → i + 1 < 6 → cmpL (digits i 1) (digits (i + 1) 1) < 0 := by decide
theorem digits_ascend2 : ∀ i, i < 36 → i + 1 < 36 → cmpL (digits i 2) (digits (i + 1) 2) < 0 := by decide

theorem allFacts_ascend (p q : Int) (i : Nat) (h1 : i < (allFacts p q).length) (h2 : i + 1 < (allFacts p q).length) : factOrder (allFacts p q)[i] (allFacts p q)[i + 1] < 0 := by
  unfold allFacts at h1 h2 ⊢
  by_cases ho : allOk p q = true
  · simp only [ho, if_true] at h1 h2 ⊢
    rw [allTo_length] at h1 h2
    have hq : q.toNat ≤ 2 := by
      unfold allOk at ho
      simp at ho
      omega
    have e : ∀ (k : Nat) (hk : k < (allTo p q.toNat (6 ^ q.toNat)).length), (allTo p q.toNat (6 ^ q.toNat))[k] = (p, digits k q.toNat) := fun k hk => by simp [allTo]
    rw [e, e]
    simp only [factOrder, if_true]
    generalize q.toNat = n at *
    match n, hq with
    | 0, _ => exact absurd h2 (by simp)
    | 1, _ => exact digits_ascend1 i (by simpa using h1) (by simpa using h2)
    | 2, _ => exact digits_ascend2 i (by simpa using h1) (by simpa using h2)
  · rw [if_neg ho] at h1
    simp at h1

theorem allFacts_head (p q : Int) (h : 0 < (allFacts p q).length) : (allFacts p q)[0].1 = p := by
  unfold allFacts at h ⊢
  by_cases ho : allOk p q = true
  · simp only [ho, if_true]
    simp [allTo]
  · rw [if_neg ho] at h
    simp at h

end Go.Proofs.Ytdclfcjbadgmfaa
