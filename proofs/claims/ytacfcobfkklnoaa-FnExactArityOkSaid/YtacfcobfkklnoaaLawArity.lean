/-
  The law on ArityOk: it returns true whatever slice of integers it is given, and writes nothing that was there. Conditions: none but the row's own reach.
-/
import Derived.Test.YtacfcobfkklnoaaRows
import Derived.Test.YtacfcobfkklnoaaArity
import Derived.Test.YtacfcobfkklnoaaOpen
namespace Go.Proofs.Ytacfcobfkklnoaa
open Go.ChangeShapes Go.WideShapes Go.ChangeAt Go.RowKit

set_option maxHeartbeats 400000 in
theorem lawArityOk_any (v : Value) (xs : List Int) (w : World) (h : RdInts w w.heap.size v xs) :
    Calls Try.prog 4 #[v] w fun e w' => e = .returned (.bool true) ∧ Below w.heap.size w w' := by
  have h' := h
  obtain ⟨A, c, rfl, hc, _⟩ := h'
  have H := Lib.hid h
  clear h
  by_cases hl : 1048576 < xs.length
  · go_enter Try.func4, Try.ntmps4
    go_wp2_with (fail)
    go_ret
    exact ⟨rfl, Below.refl _ _⟩
  · have hr : xs.length * 8 ≤ 140737488351232 := by omega
    go_enter Try.func4, Try.ntmps4
    go_wp2_with (fail)
    refine (toIntS_any _ xs _ H.out hr).mono ?_
    rintro e w1 ⟨v1, rfl, ho1, hb1⟩
    go_wp2_with (fail)
    refine (specArityOk_any _ xs _ ho1.rd hr).mono ?_
    rintro e w2 ⟨rfl, hb2⟩
    have B2 := bthen hb1 hb2
    go_wp2_with (fail)
    refine (toIntS_any _ xs _ ((H.out.below B2 (Nat.le_refl _)).more B2.size) hr).mono ?_
    rintro e w3 ⟨v3, rfl, ho3, hb3⟩
    have B3 := bthen B2 hb3
    go_wp2_with (fail)
    refine (arityOk_any _ xs _ ho3.rd hr).mono ?_
    rintro e w4 ⟨rfl, hb4⟩
    have B4 := bthen B3 hb4
    go_wp2_with (fail)
    refine (toIntS_any _ xs _ ((H.out.below B4 (Nat.le_refl _)).more B4.size) hr).mono ?_
    rintro e w5 ⟨v5, rfl, ho5, hb5⟩
    have B5 := bthen B4 hb5
    go_wp2_with (fail)
    refine (eqIntS_any _ _ xs xs _ (((ho3.below hb4 (Nat.le_refl _)).below hb5 hb4.size).rd.more (Nat.le_trans hb4.size hb5.size)) ho5.rd hr hr).mono ?_
    rintro e w6 ⟨rfl, hb6⟩
    have B6 := bthen B5 hb6
    go_wp2_with (fail)
    go_ret
    exact ⟨rfl, B6⟩

set_option maxRecDepth 100000 in
theorem lawArityOk_lifted (os : Os) (started : os.Started) (H : Type) (enc : TypeId × Value → H) :
    ReturnsInHanded {} Try.checked os 4 .any (Rows.fnExactArityOkSpec.pre6 enc Try.prog Try.f4 Rows.fnExactArityOkRow.domain false) (Rows.fnExactArityOkSpec.post enc Try.prog Try.f4 false true false false) := by
  refine returnsInHanded_of_change (C := Try.checked) Try.own started (by kernel_rfl) Try.func4
    (ChangeSpec.witness6 (enc := enc) (C := Try.checked) false ⟨#[], #[.slice none 0 0], []⟩ 8 (by kernel_rfl) (by kernel_rfl) (by kernel_rfl) (by kernel_rfl)) ?_
  intro W base args ds gs before hval0 hW hcnd _
  have hval : ∀ (j : Nat) t v, Try.f4.params[j]? = some t → args[j]? = some v → Value.okWide Try.prog W .any base t v := hval0
  have hW' := hW
  obtain ⟨p, q, hA0, hV, rfl, hfz, hnd⟩ := hW
  have hA : DataW.TrodAll enc Try.prog W 0 (fun _ => true) true Try.f4.params.toList args.toList ds p := hA0
  rw [Try.params4] at hA hval
  obtain ⟨v0, vs0, d0, ds0, p0, q0, hargs, rfl, rfl, h0, r0⟩ := trodAll_cons hA
  obtain ⟨rfl, rfl, rfl⟩ := trodAll_nil r0
  obtain rfl : args = #[v0] := by cases args; simp_all
  obtain ⟨rfl, rfl⟩ := trodVars_none hV
  have k0 := h0
  have lt0 : ∀ x ∈ p0, x.block < W.heap.size := by obtain ⟨m, hm⟩ := k0; exact DataW.trod_lt m _ _ _ hm
  obtain ⟨x0, w0⟩ := open_rdInts (hval 0 23 v0 rfl rfl) h0
  clear hA0 hval0
  refine (lawArityOk_any v0 x0 W w0).mono fun e W' ⟨he, bel⟩ => ?_
  subst he
  exact ⟨_, rfl, _, _, _, [], _, [], hW', trodAll_mk1 (shut_bool Try.underlying4 _), (trodAll_cons_mk (Below.trod Try.laidOut (by kernel_rfl) (of_decide_eq_true (by kernel_rfl)) k0 bel lt0) trodAll_mk0), rfl, bel.frame _, fun h => by cases h⟩

theorem fnExactArityOk_holds : Rows.FnExactArityOkSaid :=
  OpenClaim.holds_of_wide 4 Try.f4 rfl rfl rfl rfl rfl rfl rfl ⟨rfl, rfl, rfl, rfl, rfl⟩ rfl rfl rfl rfl rfl (by kernel_rfl) Try.func4 (by kernel_rfl)
    (of_decide_eq_true (by kernel_rfl)) (by unfold Func.isWrapper; rw [if_neg (of_decide_eq_false (by kernel_rfl))]; exact ⟨rfl, rfl⟩)
    (fun os started H enc _ => lawArityOk_lifted os started H enc)

end Go.Proofs.Ytacfcobfkklnoaa
