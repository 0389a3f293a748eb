/-
  The walk of the law on ArityOk.
-/
import Derived.Test.YtacfcobfkklnoaaArity
import Derived.Test.YtacfcobfkklnoaaOpen
namespace Go.Proofs.Ytacfcobfkklnoaa
open Go.RowKit

set_option maxHeartbeats 400000 in
theorem lawArityOk_any (v : Value) (xs : List Int) (w : World) (h : RdInts w w.heap.size v xs) :
    Calls Try.prog 4 #[v] w fun e w' => e = .returned (.bool true) ∧ Below w.heap.size w w' := by
  have h' := h
  obtain ⟨A, c, rfl, hc, _⟩ := h'
  have H := Lib.hid h
  clear h
  by_cases hl : 1048576 < xs.length
  · go_enter Try.func4, Try.ntmps4
    go_wp2_with (fail)
    go_ret
    exact ⟨rfl, Below.refl _ _⟩
  · have hr : xs.length * 8 ≤ 140737488351232 := by omega
    go_enter Try.func4, Try.ntmps4
    go_wp2_with (fail)
    refine (toIntS_any _ xs _ H.out hr).mono ?_
    rintro e w1 ⟨_, _, rfl, ho1, hb1⟩
    go_wp2_with (fail)
    refine (specArityOk_any _ xs _ ho1.rd hr).mono ?_
    rintro e w2 ⟨rfl, hw2⟩
    subst hw2
    have B2 := hb1
    go_wp2_with (fail)
    refine (toIntS_any _ xs _ ((H.out.below B2 (Nat.le_refl _)).more B2.size) hr).mono ?_
    rintro e w3 ⟨_, _, rfl, ho3, hb3⟩
    have B3 := bthen B2 hb3
    go_wp2_with (fail)
    refine (arityOk_any _ xs _ ho3.rd hr).mono ?_
    rintro e w4 ⟨rfl, hb4⟩
    have B4 := bthen B3 hb4
    go_wp2_with (fail)
    refine (toIntS_any _ xs _ ((H.out.below B4 (Nat.le_refl _)).more B4.size) hr).mono ?_
    rintro e w5 ⟨_, _, rfl, ho5, hb5⟩
    have B5 := bthen B4 hb5
    go_wp2_with (fail)
    refine (eqIntS_any _ _ xs xs _ (((ho3.below hb4 (Nat.le_refl _)).below hb5 hb4.size).rd.more (Nat.le_trans hb4.size hb5.size)) ho5.rd hr hr).mono ?_
    rintro e w6 ⟨rfl, hb6⟩
    have B6 := bthen B5 hb6
    go_wp2_with (fail)
    go_ret
    exact ⟨rfl, B6⟩

theorem lawArityOk_in (v : Value) (xs : List Int) (w : World) (h : InInts w v xs) : Calls Try.prog 4 #[v] w fun e w' => e = .returned (.bool true) ∧ Below w.heap.size w w' := lawArityOk_any v xs w h.1

end Go.Proofs.Ytacfcobfkklnoaa
