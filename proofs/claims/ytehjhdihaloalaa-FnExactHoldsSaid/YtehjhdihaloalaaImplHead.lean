/-
  The program's HeadOf.
-/
import Derived.Test.YtehjhdihaloalaaSpecHead
import Derived.Test.YtehjhdihaloalaaImplBound
namespace Go.Proofs.Ytehjhdihaloalaa
open Go.RowKit

theorem areConstants_is {xs : List Int} {b : Bool} (e : xs.all constOk = b) (v : Value) (B : Nat) (w : World) (h : RdInts w B v xs) (hr : xs.length ≤ 1048576) :
    Calls Try.prog 82 #[v] w fun e w' => e = .returned (.bool b) ∧ w = w' := e ▸ areConstants_any v xs B w h hr

set_option maxHeartbeats 2000000 in
set_option maxRecDepth 100000 in
theorem implHeadOf_any (v v2 : Value) (a : LFact) (bs : List Int) (w : World) (h : RdFact w w.heap.size v a) (h2 : RdInts w w.heap.size v2 bs) (hr : a.2.length ≤ 1048576) (hr2 : bs.length ≤ 1048576) :
    Calls Try.prog 56 #[v, v2] w fun e w' => ∃ A' c', e = .returned (.tuple #[.agg #[.int .i64 (headOf a bs).1, .slice A' (headOf a bs).2.length c'], .bool (headOk a bs)]) ∧ OwnInts w' w.heap.size w'.heap.size (.slice A' (headOf a bs).2.length c') (headOf a bs).2 ∧ Below w.heap.size w w' := by
  obtain ⟨u, rfl, h⟩ := h
  have H := Lib.hid h
  have H2 := Lib.hid h2
  obtain ⟨A, c, rfl, hc, _⟩ := h
  obtain ⟨A2, c2, rfl, hc2, _⟩ := h2
  obtain ⟨F, hF⟩ : ∃ F, F = headOf a bs := ⟨_, rfl⟩
  obtain ⟨ok, hok⟩ : ∃ ok, ok = headOk a bs := ⟨_, rfl⟩
  rw [← hF, ← hok]
  have HF := Lib.hid hF
  have HK := Lib.hid hok
  clear hF hok
  have x0 := (Blk.new w 49 #[.int .i64 a.1, .slice A a.2.length c]).alloc (Obj.cells #[.int .i64 0, .slice none 0 0] 28)
  have x1 : Blk ((w.alloc (Obj.cells #[.int .i64 a.1, .slice A a.2.length c] 49)).alloc (Obj.cells #[.int .i64 0, .slice none 0 0] 28)) (w.heap.size + 1) 28 #[.int .i64 0, .slice none 0 0] := by simpa using Blk.new (w.alloc (Obj.cells #[.int .i64 a.1, .slice A a.2.length c] 49)) 28 #[.int .i64 0, .slice none 0 0]
  obtain ⟨w2, hw2⟩ : ∃ w2, w2 = ((w.alloc (Obj.cells #[Value.int IntKind.i64 a.1, Value.slice A a.2.length c] 49)).alloc (Obj.cells #[Value.int IntKind.i64 0, Value.slice none 0 0] 28)) := ⟨_, rfl⟩
  have B2 : Below w.heap.size w w2 := by rw [hw2]; exact below2 _ _ _
  have HW := Lib.hid hw2
  rw [← hw2] at x0 x1
  have q00 : w2.cell? ⟨w.heap.size, 0, none⟩ = some (.int .i64 a.1) := x0.cell 0
  have q01 : w2.cell? ⟨w.heap.size, 1, none⟩ = some (.slice A a.2.length c) := x0.cell 1
  have c10 : w2.cell? ⟨w.heap.size + 1, 0, none⟩ = some (.int .i64 0) := x1.cell 0
  have c11 : w2.cell? ⟨w.heap.size + 1, 1, none⟩ = some (.slice none 0 0) := x1.cell 1
  have f10 := x1.frozen 0
  have f11 := x1.frozen 1
  clear hw2
  by_cases hb : bindOk bs = true
  · have L1 := Lib.hid (bindingOf_yes hb (.slice A2 bs.length c2) w2.heap.size w2 (H2.out.on B2))
    by_cases ht : a.2.all termOk = true
    · have L2 := Lib.hid (areTerms_is ht (.slice A a.2.length c) w2.heap.size w2 (H.out.on B2) hr)
      have L3 := Lib.hid (values_any (.slice A a.2.length c) bs a.2 hb ht w2 (H.out.on B2) hr)
      obtain ⟨ys, hys⟩ : ∃ ys, ys = a.2.map (termVal bs) := ⟨_, rfl⟩
      have HYL := Lib.hid (show ys.length = a.2.length by rw [hys]; simp)
      rw [← hys] at L3
      have HY := Lib.hid (And.intro hys (And.intro hb ht))
      clear hys hb ht
      generalize encB bs = m at L1 L3
      go_enter Try.func56, Try.ntmps56
      go_wp2_with (fail)
      rw [← HW.out]
      refine L1.out.mono ?_
      rintro e w' ⟨rfl, rfl⟩
      go_wp2_with (fail)
      refine L2.out.mono ?_
      rintro e w' ⟨rfl, rfl⟩
      go_wp2_with (fail)
      refine L3.out.mono ?_
      rintro e w3 ⟨A', c', rfl, ho, hb3⟩
      rw [← HYL.out] at ho ⊢
      have ho' := ho
      have x0' := x0.below hb3 x0.lt
      have x1' := x1.below hb3 x1.lt
      have l1 := x1.lt
      have B3 := bthen B2 hb3
      clear q00 q01 c10 c11 f10 f11 x0 x1
      have q00 : w3.cell? ⟨w.heap.size, 0, none⟩ = some (.int .i64 a.1) := x0'.cell 0
      have q01 : w3.cell? ⟨w.heap.size, 1, none⟩ = some (.slice A a.2.length c) := x0'.cell 1
      have c10 : w3.cell? ⟨w.heap.size + 1, 0, none⟩ = some (.int .i64 0) := x1'.cell 0
      have c11 : w3.cell? ⟨w.heap.size + 1, 1, none⟩ = some (.slice none 0 0) := x1'.cell 1
      have f10 := x1'.frozen 0
      have f11 := x1'.frozen 1
      have HO := Lib.hid ho
      have hyr : ys.length ≤ 1048576 := by rw [HYL.out]; exact hr
      clear ho ho' x0' x1'
      by_cases hcst : ys.all constOk = true
      · have HN := Lib.hid (show ok = true ∧ F = (a.1, ys) by
          obtain ⟨e1, e2, e3⟩ := HY.out
          have hyes : headOk a bs = true := headOk_yes e2 e3 (by rw [← e1]; exact hcst)
          exact ⟨by rw [HK.out, hyes], by rw [HF.out, headOf_yes hyes, e1]⟩)
        have L4 := Lib.hid (areConstants_is hcst (.slice A' ys.length c') w3.heap.size w3 HO.out.rd hyr)
        clear hcst
        go_wp2_with (go_at_call 82; refine L4.out.mono ?_; rintro e w' ⟨rfl, rfl⟩)
        refine bodyPost_ret (v := .tuple #[.agg #[.int .i64 a.1, .slice A' ys.length c'], .bool true]) (by simp [results, Try.results56, go_sem, c10, c11]) rfl ?_
        rw [HN.out.1, HN.out.2]
        refine ⟨A', c', rfl, ?_, (B3.setCell (by simp) _).setCell (by simp) _⟩
        exact ((HO.out.set (p := ⟨w.heap.size + 1, 0, none⟩) (.inl (by show w.heap.size + 1 < w2.heap.size; omega)) _).set (p := ⟨w.heap.size + 1, 1, none⟩) (.inl (by show w.heap.size + 1 < w2.heap.size; omega)) _).mono (by omega) (by simp)
      · have hcst' : ys.all constOk = false := by simpa using hcst
        have HN := Lib.hid (show ok = false ∧ F = (0, []) by
          obtain ⟨e1, e2, e3⟩ := HY.out
          have hno : headOk a bs = false := headOk_vals (by rw [← e1]; exact hcst')
          exact ⟨by rw [HK.out, hno], by rw [HF.out, headOf_no hno]⟩)
        have L4 := Lib.hid (areConstants_is hcst' (.slice A' ys.length c') w3.heap.size w3 HO.out.rd hyr)
        clear hcst hcst'
        go_wp2_with (go_at_call 82; refine L4.out.mono ?_; rintro e w' ⟨rfl, rfl⟩)
        refine bodyPost_ret (v := .tuple #[.agg #[.int .i64 0, .slice none 0 0], .bool false]) (by simp [results, Try.results56, go_sem, c10, c11]) rfl ?_
        rw [HN.out.1, HN.out.2]
        exact ⟨none, 0, rfl, zeroI _ _ _, (B3.setCell (by simp) _).setCell (by simp) _⟩
    · have ht' : a.2.all termOk = false := by simpa using ht
      have L2 := Lib.hid (areTerms_is ht' (.slice A a.2.length c) w2.heap.size w2 (H.out.on B2) hr)
      have HN := Lib.hid (show ok = false ∧ F = (0, []) from ⟨by rw [HK.out, headOk_terms ht'], by rw [HF.out, headOf_no (headOk_terms ht')]⟩)
      clear hb ht ht'
      generalize encB bs = m at L1
      go_enter Try.func56, Try.ntmps56
      go_wp2_with (fail)
      rw [← HW.out]
      refine L1.out.mono ?_
      rintro e w' ⟨rfl, rfl⟩
      go_wp2_with (fail)
      refine L2.out.mono ?_
      rintro e w' ⟨rfl, rfl⟩
      go_wp2_with (fail)
      refine bodyPost_ret (v := .tuple #[.agg #[.int .i64 0, .slice none 0 0], .bool false]) (by simp [results, Try.results56, go_sem, c10, c11]) rfl ?_
      rw [HN.out.1, HN.out.2]
      exact ⟨none, 0, rfl, zeroI _ _ _, (B2.setCell (by simp) _).setCell (by simp) _⟩
  · have hb' : bindOk bs = false := by simpa using hb
    have L1 := Lib.hid (bindingOf_no hb' (.slice A2 bs.length c2) w2.heap.size w2 (H2.out.on B2) hr2)
    have HN := Lib.hid (show ok = false ∧ F = (0, []) from ⟨by rw [HK.out, headOk_bind hb'], by rw [HF.out, headOf_no (headOk_bind hb')]⟩)
    clear hb hb'
    go_enter Try.func56, Try.ntmps56
    go_wp2_with (fail)
    rw [← HW.out]
    refine L1.out.mono ?_
    rintro e w' ⟨rfl, rfl⟩
    go_wp2_with (fail)
    refine bodyPost_ret (v := .tuple #[.agg #[.int .i64 0, .slice none 0 0], .bool false]) (by simp [results, Try.results56, go_sem, c10, c11]) rfl ?_
    rw [HN.out.1, HN.out.2]
    exact ⟨none, 0, rfl, zeroI _ _ _, (B2.setCell (by simp) _).setCell (by simp) _⟩

end Go.Proofs.Ytehjhdihaloalaa
