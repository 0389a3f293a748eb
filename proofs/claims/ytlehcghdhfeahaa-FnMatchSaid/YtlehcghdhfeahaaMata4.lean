/-
  Texts that the claim's last one imports, laid together: part 4 of 5. No condition of its own.
-/
import Derived.Deep.RegionLaw
import Derived.Deep.DeepCutAuto
import Derived.BigRegion
import Derived.Deep.RegionHeld3
import Derived.Deep.RegionWith
import Derived.Test.YtlehcghdhfeahaaChecked
import Derived.ProofKit
import Derived.OpenShut
import Derived.ChangeOld
import Derived.WalkKit
import Derived.Deep.Slices
import Derived.Deep.Fields
import Derived.ChangeSame
import Derived.Lib.SmallJoins
import Derived.KernelRfl
import Derived.Deep.SlicePairs
import Derived.Test.YtlehcghdhfeahaaMata1
import Derived.Test.YtlehcghdhfeahaaMata2
import Derived.Test.YtlehcghdhfeahaaMata3
/-
  Both Holds: literals that an atom holds, or does not.
-/
namespace Go.Proofs.Ytlehcghdhfeahaa
open Go.RowKit

theorem l1In_is {n lo hi : Int} {b : Bool} (h : decide (lo ≤ n ∧ n ≤ hi) = b) (w : World) : Calls Try.prog 36 #[.int .i64 n, .int .i64 lo, .int .i64 hi] w fun e w' => e = .returned (.bool b) ∧ w = w' := h ▸ l1In_any n lo hi w

set_option maxHeartbeats 2000000 in
set_option maxRecDepth 100000 in
theorem l3HoldsAsk_any (v0 v v3 : Value) (fs : List LFact) (l : LLit) (bs : List Int) (w : World) (hkd : ¬ (l.1 = 2 ∨ l.1 = 3)) (h1 : RdFacts w w.heap.size v0 fs) (h2 : RdLit w w.heap.size v l) (h3 : RdInts w w.heap.size v3 bs)
    (hn : fs.length ≤ 1048576) (htt : tot fs ≤ 1048576) (hr : l.2.2.length ≤ 1048576) (hr2 : bs.length ≤ 1048576) :
    Calls Try.prog 57 #[v0, v, v3] w fun e w' => e = .returned (.bool ((headOk l.2 bs && decide (0 ≤ l.1 ∧ l.1 ≤ 1)) && (factsHas fs (headOf l.2 bs) == decide (l.1 = 0)))) ∧ Below w.heap.size w w' := by
  obtain ⟨kd, a⟩ := l
  obtain ⟨u, rfl, h2⟩ := h2
  have H1 := Lib.hid h1
  have H2 := Lib.hid h2
  have H3 := Lib.hid h3
  obtain ⟨A1, c1, rfl, hc1, _⟩ := h1
  obtain ⟨A, c, rfl, hc, _⟩ := h2
  obtain ⟨A3, c3, rfl, hc3, _⟩ := h3
  simp only at hkd hc hr
  obtain ⟨F, hF⟩ : ∃ F, F = headOf a bs := ⟨_, rfl⟩
  obtain ⟨ok, hok⟩ : ∃ ok, ok = headOk a bs := ⟨_, rfl⟩
  obtain ⟨hs, hhs⟩ : ∃ hs, hs = factsHas fs F := ⟨_, rfl⟩
  obtain ⟨R, hR⟩ : ∃ R, R = ((ok && decide (0 ≤ kd ∧ kd ≤ 1)) && (hs == decide (kd = 0))) := ⟨_, rfl⟩
  show Calls _ _ _ _ fun e w' => e = .returned (.bool ((headOk a bs && decide (0 ≤ kd ∧ kd ≤ 1)) && (factsHas fs (headOf a bs) == decide (kd = 0)))) ∧ _
  rw [← hF, ← hok, ← hhs, ← hR]
  have HR := Lib.hid hR
  have HF := Lib.hid (And.intro hF hok)
  have HFL := Lib.hid (show F.2.length ≤ 1048576 by have := headOf_length a bs; rw [hF]; omega)
  have HH := Lib.hid hhs
  clear hR hF hok hhs
  have k2 : (kd == 2) = false := by have h : kd ≠ 2 := fun e => hkd (.inl e); simpa using h
  have k3 : (kd == 3) = false := by have h : kd ≠ 3 := fun e => hkd (.inr e); simpa using h
  have y0 := Blk.new w 27 #[.int .i64 kd, .int .i64 a.1, .slice A a.2.length c]
  have q0 := y0.cell 0
  have q1 := y0.cell 1
  have q2 := y0.cell 2
  go_enter Try.func57, Try.ntmps57
  go_wp2_with (fail)
  obtain ⟨w1, hw1⟩ : ∃ w1, w1 = w.alloc (Obj.cells #[Value.int IntKind.i64 kd, Value.int IntKind.i64 a.1, Value.slice A a.2.length c] 27) := ⟨_, rfl⟩
  have B1 : Below w.heap.size w w1 := by rw [hw1]; exact below1 _ _
  rw [← hw1] at y0 ⊢
  clear hw1 q0 q1 q2
  refine (specHeadOf_any _ _ a bs _ ⟨_, rfl, H2.out.on B1⟩ (H3.out.on B1) hr hr2).mono ?_
  rw [← HF.out.1, ← HF.out.2]
  rintro e w2 ⟨A', c', rfl, ho, hb2⟩
  have B2 := bthen B1 hb2
  have y2 := y0.below hb2 y0.lt
  have HO := Lib.hid ho
  clear ho y0
  go_wp2_with (fail)
  obtain ⟨w3, hw3⟩ : ∃ w3, w3 = w2.alloc (Obj.cells #[Value.int IntKind.i64 F.1, Value.slice A' F.2.length c'] 35) := ⟨_, rfl⟩
  have B23 : Below w2.heap.size w2 w3 := by rw [hw3]; exact below1 _ _
  have f3 : Blk w3 w2.heap.size 35 #[.int .i64 F.1, .slice A' F.2.length c'] := by rw [hw3]; exact Blk.new _ _ _
  rw [← hw3]
  clear hw3
  have y3 := y2.below B23 y2.lt
  have B3 := bthen B2 B23
  have RF := Lib.hid (show RdFact w3 w3.heap.size (.agg #[.int .i64 F.1, .slice A' F.2.length c']) F from ⟨_, rfl, HO.out.rd.on B23⟩)
  have L0 := later_cell (y3.cell 0 : w3.cell? ⟨w.heap.size, 0, none⟩ = some (.int .i64 kd))
  have L1 := later_cell (f3.cell 0 : w3.cell? ⟨w2.heap.size, 0, none⟩ = some (.int .i64 F.1))
  have L2 := later_cell (f3.cell 1 : w3.cell? ⟨w2.heap.size, 1, none⟩ = some (.slice A' F.2.length c'))
  have CF := Lib.hid (fun x : Later w3 => (specFactsHas_any _ _ fs F x.val ((H1.out.on B3).on x.2) (RF.out.on x.2) hn htt HFL.out))
  rw [← HH.out] at CF
  clear y2 y3 f3
  cases ok
  · have HE := Lib.hid (show R = false by rw [HR.out]; rfl)
    refine wp_region_later (by kernel_rfl) (by kernel_rfl) ?_
    repeat (go_big_quiet_step (fail))
    refine wpQuiet_nil ?_
    rintro _ ⟨xq, rfl⟩
    go_wp2_with (fail)
    go_ret
    exact ⟨ret_bool HE.out.symm, bthen B3 xq.2⟩
  · by_cases hin : 0 ≤ kd ∧ kd ≤ 1
    · have CI := Lib.hid (fun W => l1In_yes hin W)
      have HD := Lib.hid (show R = (hs == decide (kd = 0)) by rw [HR.out, decide_eq_true hin]; rfl)
      by_cases h0 : kd = 0
      · have k0 : (kd == 0) = true := by simpa using h0
        have HE := Lib.hid (show R = (hs == true) by rw [HD.out, decide_eq_true h0])
        clear h0 hin
        cases hs
        all_goals
          refine wp_region_later (by kernel_rfl) (by kernel_rfl) ?_
          repeat (go_big_quiet_step (first | (go_at_call 36; exact later_same (CI.out _)) | (go_at_call 68; exact later_of (CF.out _))))
          refine wpQuiet_nil ?_
          rintro _ ⟨xq, rfl⟩
          go_wp2_with (fail)
          go_ret
          exact ⟨ret_bool (by rw [HE.out]; rfl), bthen B3 xq.2⟩
      · have k0 : (kd == 0) = false := by simpa using h0
        have HE := Lib.hid (show R = (hs == false) by rw [HD.out, decide_eq_false h0])
        clear h0 hin
        cases hs
        all_goals
          refine wp_region_later (by kernel_rfl) (by kernel_rfl) ?_
          repeat (go_big_quiet_step (first | (go_at_call 36; exact later_same (CI.out _)) | (go_at_call 68; exact later_of (CF.out _))))
          refine wpQuiet_nil ?_
          rintro _ ⟨xq, rfl⟩
          go_wp2_with (fail)
          go_ret
          exact ⟨ret_bool (by rw [HE.out]; rfl), bthen B3 xq.2⟩
    · have CI := Lib.hid (fun W => l1In_no hin W)
      have HE := Lib.hid (show R = false by rw [HR.out, decide_eq_false hin]; rfl)
      clear hin
      refine wp_region_later (by kernel_rfl) (by kernel_rfl) ?_
      repeat (go_big_quiet_step (first | (go_at_call 36; exact later_same (CI.out _))))
      refine wpQuiet_nil ?_
      rintro _ ⟨xq, rfl⟩
      go_wp2_with (fail)
      go_ret
      exact ⟨ret_bool HE.out.symm, bthen B3 xq.2⟩

theorem l3Holds_any (v0 v v3 : Value) (fs : List LFact) (l : LLit) (bs : List Int) (w : World) (h1 : RdFacts w w.heap.size v0 fs) (h2 : RdLit w w.heap.size v l) (h3 : RdInts w w.heap.size v3 bs)
    (hb : bs.length = 4) (ht : l.2.2.all termOk = true) (hn : fs.length ≤ 1048576) (htt : tot fs ≤ 1048576) (hr : l.2.2.length ≤ 1048576) :
    Calls Try.prog 57 #[v0, v, v3] w fun e w' => e = .returned (.bool (litHolds fs l bs)) ∧ Below w.heap.size w w' := by
  by_cases h : l.1 = 2 ∨ l.1 = 3
  · have := l3HoldsCmp_any v v3 l bs v0 w h h2 h3 hb ht
    unfold litHolds
    rw [if_pos h]
    exact this
  · have := l3HoldsAsk_any v0 v v3 fs l bs w h h1 h2 h3 hn htt hr (by omega)
    unfold litHolds
    rw [if_neg h]
    exact this

set_option maxHeartbeats 2000000 in
set_option maxRecDepth 100000 in
theorem specHolds_any (v0 v v3 : Value) (fs : List LFact) (l : LLit) (bs : List Int) (w : World) (h1 : RdFacts w w.heap.size v0 fs) (h2 : RdLit w w.heap.size v l) (h3 : RdInts w w.heap.size v3 bs)
    (hn : fs.length ≤ 1048576) (htt : tot fs ≤ 1048576) (hr : l.2.2.length ≤ 1048576) (hr2 : bs.length ≤ 1048576) :
    Calls Try.prog 25 #[v0, v, v3] w fun e w' => e = .returned (.bool (holdsB fs l bs)) ∧ Below w.heap.size w w' := by
  obtain ⟨u, rfl, h2⟩ := h2
  have H1 := Lib.hid h1
  have H2 := Lib.hid h2
  have H3 := Lib.hid h3
  obtain ⟨A1, c1, rfl, hc1, _⟩ := h1
  obtain ⟨A, c, rfl, hc, _⟩ := h2
  obtain ⟨A3, c3, rfl, hc3, _⟩ := h3
  obtain ⟨R, hR⟩ : ∃ R, R = holdsB fs l bs := ⟨_, rfl⟩
  rw [← hR]
  have HR := Lib.hid hR
  clear hR
  have y0 := Blk.new w 27 #[.int .i64 l.1, .int .i64 l.2.1, .slice A l.2.2.length c]
  have q0 := y0.cell 0
  have q1 := y0.cell 1
  have q2 := y0.cell 2
  by_cases hb : bindOk bs = true
  · have L1 := Lib.hid (fun O => l3Bind_is hb (.slice A3 bs.length c3) _ (w.alloc O) (H3.out.on (below1 w O)) hr2)
    by_cases ht : l.2.2.all termOk = true
    · have L2 := Lib.hid (fun O => l2Terms_is ht (.slice A l.2.2.length c) _ (w.alloc O) (H2.out.on (below1 w O)) hr)
      have L3 := Lib.hid (fun O => l3Holds_any (.slice A1 fs.length c1) (.agg #[.int .i64 l.1, .int .i64 l.2.1, .slice A l.2.2.length c]) (.slice A3 bs.length c3) fs l bs (w.alloc O) (H1.out.on (below1 w O)) ⟨_, rfl, H2.out.on (below1 w O)⟩ (H3.out.on (below1 w O)) (bindOk_len hb) ht hn htt hr)
      obtain ⟨S, hS⟩ : ∃ S, S = litHolds fs l bs := ⟨_, rfl⟩
      rw [← hS] at L3
      have HE := Lib.hid (show R = S by rw [HR.out, hS]; unfold holdsB; rw [hb, ht]; rfl)
      clear hb ht hS
      go_enter Try.func25, Try.ntmps25
      go_wp2_with (fail)
      refine (L1.out _).mono ?_
      rintro e w' ⟨rfl, rfl⟩
      go_wp2_with (fail)
      refine (L2.out _).mono ?_
      rintro e w' ⟨rfl, rfl⟩
      go_wp2_with (fail)
      refine (L3.out _).mono ?_
      rintro e w2 ⟨rfl, hb2⟩
      have B2 := bthen (below1 _ _) hb2
      clear hb2
      go_wp2_with (fail)
      go_ret
      exact ⟨ret_bool HE.out.symm, B2⟩
    · have ht' : l.2.2.all termOk = false := by simpa using ht
      have L2 := Lib.hid (fun O => l2Terms_is ht' (.slice A l.2.2.length c) _ (w.alloc O) (H2.out.on (below1 w O)) hr)
      have HE := Lib.hid (show R = false by rw [HR.out]; unfold holdsB; rw [ht', Bool.and_false]; rfl)
      clear hb ht ht'
      go_enter Try.func25, Try.ntmps25
      go_wp2_with (fail)
      refine (L1.out _).mono ?_
      rintro e w' ⟨rfl, rfl⟩
      go_wp2_with (fail)
      refine (L2.out _).mono ?_
      rintro e w' ⟨rfl, rfl⟩
      go_wp2_with (fail)
      go_ret
      exact ⟨ret_bool HE.out.symm, below1 _ _⟩
  · have hb' : bindOk bs = false := by simpa using hb
    have L1 := Lib.hid (fun O => l3Bind_is hb' (.slice A3 bs.length c3) _ (w.alloc O) (H3.out.on (below1 w O)) hr2)
    have HE := Lib.hid (show R = false by rw [HR.out]; unfold holdsB; rw [hb']; rfl)
    clear hb hb'
    go_enter Try.func25, Try.ntmps25
    go_wp2_with (fail)
    refine (L1.out _).mono ?_
    rintro e w' ⟨rfl, rfl⟩
    go_wp2_with (fail)
    go_ret
    exact ⟨ret_bool HE.out.symm, below1 _ _⟩

set_option maxHeartbeats 2000000 in
set_option maxRecDepth 100000 in
theorem implHolds_any (v0 v v3 : Value) (fs : List LFact) (l : LLit) (bs : List Int) (w : World) (h1 : RdFacts w w.heap.size v0 fs) (h2 : RdLit w w.heap.size v l) (h3 : RdInts w w.heap.size v3 bs)
    (hn : fs.length ≤ 1048576) (htt : tot fs ≤ 1048576) (hr : l.2.2.length ≤ 1048576) (hr2 : bs.length ≤ 1048576) :
    Calls Try.prog 22 #[v0, v, v3] w fun e w' => e = .returned (.bool (holdsB fs l bs)) ∧ Below w.heap.size w w' := by
  obtain ⟨kd, a⟩ := l
  obtain ⟨u, rfl, h2⟩ := h2
  have H1 := Lib.hid h1
  have H2 := Lib.hid h2
  have H3 := Lib.hid h3
  obtain ⟨A1, c1, rfl, hc1, _⟩ := h1
  obtain ⟨A, c, rfl, hc, _⟩ := h2
  obtain ⟨A3, c3, rfl, hc3, _⟩ := h3
  simp only at hc hr
  obtain ⟨R, hR⟩ : ∃ R, R = holdsB fs (kd, a) bs := ⟨_, rfl⟩
  rw [← hR]
  have HR := Lib.hid hR
  clear hR
  have y0 := Blk.new w 27 #[.int .i64 kd, .int .i64 a.1, .slice A a.2.length c]
  have q0 := y0.cell 0
  have q1 := y0.cell 1
  have q2 := y0.cell 2
  have HW := Lib.hid (show ∀ W1, W1 = w.alloc (Obj.cells #[Value.int IntKind.i64 kd, Value.int IntKind.i64 a.1, Value.slice A a.2.length c] 27) → Below w.heap.size w W1 ∧ Blk W1 w.heap.size 27 #[.int .i64 kd, .int .i64 a.1, .slice A a.2.length c] from fun W1 e => ⟨by rw [e]; exact below1 _ _, by rw [e]; exact y0⟩)
  by_cases hk : kd = 0 ∨ kd = 1
  · -- an atom that holds, or does not
    have HHd := Lib.hid (show headOk a bs = true → bindOk bs = true ∧ a.2.all termOk = true from fun e => by
      unfold headOk at e
      simp only [Bool.and_eq_true] at e
      exact e.1)
    obtain ⟨F, hF⟩ : ∃ F, F = headOf a bs := ⟨_, rfl⟩
    obtain ⟨ok, hok⟩ : ∃ ok, ok = headOk a bs := ⟨_, rfl⟩
    obtain ⟨hs, hhs⟩ : ∃ hs, hs = factsHas fs F := ⟨_, rfl⟩
    have HD := Lib.hid (show R = (ok && (hs == decide (kd = 0))) by
      rw [HR.out, hhs, hF, hok]
      show (bindOk bs && a.2.all termOk && litHolds fs (kd, a) bs) = _
      unfold litHolds
      rw [if_neg (show ¬ ((kd, a).1 = 2 ∨ (kd, a).1 = 3) by show ¬ (kd = 2 ∨ kd = 3); omega), decide_eq_true (show 0 ≤ (kd, a).1 ∧ (kd, a).1 ≤ 1 by show 0 ≤ kd ∧ kd ≤ 1; omega)]
      show (bindOk bs && a.2.all termOk && (headOk a bs && true && (factsHas fs (headOf a bs) == decide (kd = 0)))) = _
      rw [Bool.and_true]
      cases he : headOk a bs with
      | false => simp
      | true =>
        obtain ⟨e1, e2⟩ := HHd.out he
        rw [e1, e2]
        rfl)
    have HF := Lib.hid (And.intro hF hok)
    have HFL := Lib.hid (show F.2.length ≤ 1048576 by have := headOf_length a bs; rw [hF]; omega)
    have HH := Lib.hid hhs
    clear hF hok hhs
    have k01 : ((kd == 0) = true ∧ decide (kd = 0) = true) ∨ ((kd == 0) = false ∧ (kd == 1) = true ∧ decide (kd = 0) = false) := by
      rcases hk with rfl | rfl
      · exact .inl ⟨rfl, rfl⟩
      · exact .inr ⟨rfl, rfl, rfl⟩
    clear hk
    rcases k01 with ⟨k0, kq⟩ | ⟨k0, k1, kq⟩
    all_goals
      have HKQ := Lib.hid kq
      clear kq
      go_enter Try.func22, Try.ntmps22
      go_wp2_with (fail)
      obtain ⟨w1, hw1⟩ : ∃ w1, w1 = w.alloc (Obj.cells #[Value.int IntKind.i64 kd, Value.int IntKind.i64 a.1, Value.slice A a.2.length c] 27) := ⟨_, rfl⟩
      obtain ⟨B1, y1⟩ := HW.out w1 hw1
      rw [← hw1]
      clear hw1 q0 q1 q2 y0
      refine (implHeadOf_any _ _ a bs _ ⟨_, rfl, H2.out.on B1⟩ (H3.out.on B1) hr hr2).mono ?_
      rw [← HF.out.1, ← HF.out.2]
      rintro e w2 ⟨A', c', rfl, ho, hb2⟩
      have B2 := bthen B1 hb2
      have y2 := y1.below hb2 y1.lt
      have HO := Lib.hid ho
      clear ho y1
      go_wp2_with (fail)
      obtain ⟨w3, hw3⟩ : ∃ w3, w3 = w2.alloc (Obj.cells #[Value.int IntKind.i64 F.1, Value.slice A' F.2.length c'] 35) := ⟨_, rfl⟩
      have B23 : Below w2.heap.size w2 w3 := by rw [hw3]; exact below1 _ _
      have f3 : Blk w3 w2.heap.size 35 #[.int .i64 F.1, .slice A' F.2.length c'] := by rw [hw3]; exact Blk.new _ _ _
      rw [← hw3]
      clear hw3
      have y3 := y2.below B23 y2.lt
      have B3 := bthen B2 B23
      have RF := Lib.hid (show RdFact w3 w3.heap.size (.agg #[.int .i64 F.1, .slice A' F.2.length c']) F from ⟨_, rfl, HO.out.rd.on B23⟩)
      have L0 := later_cell (y3.cell 0 : w3.cell? ⟨w.heap.size, 0, none⟩ = some (.int .i64 kd))
      have L1 := later_cell (f3.cell 0 : w3.cell? ⟨w2.heap.size, 0, none⟩ = some (.int .i64 F.1))
      have L2 := later_cell (f3.cell 1 : w3.cell? ⟨w2.heap.size, 1, none⟩ = some (.slice A' F.2.length c'))
      have CF := Lib.hid (fun x : Later w3 => (implFactsHas_any _ _ fs F x.val ((H1.out.on B3).on x.2) (RF.out.on x.2) hn htt HFL.out))
      rw [← HH.out] at CF
      clear y2 y3 f3
      cases ok
      · have HE := Lib.hid (show R = false by rw [HD.out]; rfl)
        refine wp_region_later (by kernel_rfl) (by kernel_rfl) ?_
        repeat (go_big_quiet_step (fail))
        refine wpQuiet_nil ?_
        rintro _ ⟨xq, rfl⟩
        go_wp2_with (fail)
        go_ret
        exact ⟨ret_bool HE.out.symm, bthen B3 xq.2⟩
      · have HE := Lib.hid (show R = (hs == decide (kd = 0)) by rw [HD.out]; rfl)
        rw [HKQ.out] at HE
        cases hs
        all_goals
          refine wp_region_later (by kernel_rfl) (by kernel_rfl) ?_
          repeat (go_big_quiet_step (first | (go_at_call 26; exact later_of (CF.out _))))
          refine wpQuiet_nil ?_
          rintro _ ⟨xq, rfl⟩
          go_wp2_with (fail)
          go_ret
          exact ⟨ret_bool (by rw [HE.out]; rfl), bthen B3 xq.2⟩
  · by_cases hk2 : kd = 2 ∨ kd = 3
    · -- two terms that are compared
      obtain ⟨V, hV⟩ : ∃ V, V = boundL a.2 bs := ⟨_, rfl⟩
      have HV := Lib.hid hV
      have hVl : V.length ≤ a.2.length := by rw [hV]; exact boundL_length _ _
      have HD := Lib.hid (show R = (decide (V.length = 2) && cmpB kd (V.getD 0 0) (V.getD 1 0)) by
        rw [HR.out, hV]
        show (bindOk bs && a.2.all termOk && litHolds fs (kd, a) bs) = _
        unfold litHolds
        rw [if_pos (show (kd, a).1 = 2 ∨ (kd, a).1 = 3 from hk2)]
        show (bindOk bs && a.2.all termOk && (decide (a.2.length = 2) && cmpB kd (termVal bs (a.2.getD 0 0)) (termVal bs (a.2.getD 1 0)))) = _
        unfold boundL
        cases he : (bindOk bs && a.2.all termOk) with
        | false => simp
        | true =>
          simp only [Bool.true_and, if_true, List.length_map]
          by_cases hl : a.2.length = 2
          · obtain ⟨s, t, e⟩ : ∃ s t, a.2 = [s, t] := by
              match a.2, hl with
              | [s, t], _ => exact ⟨s, t, rfl⟩
            rw [e]
            rfl
          · rw [decide_eq_false hl]
            rfl)
      have k0 : (kd == 0) = false := by simp; omega
      have k1 : (kd == 1) = false := by simp; omega
      have k23 : (kd == 2) = true ∨ ((kd == 2) = false ∧ (kd == 3) = true) := by
        rcases hk2 with rfl | rfl
        · exact .inl rfl
        · exact .inr ⟨rfl, rfl⟩
      have HK2 := Lib.hid hk2
      clear hV hk hk2
      rcases k23 with k2 | ⟨k2, k3⟩
      all_goals
        go_enter Try.func22, Try.ntmps22
        go_wp2_with (fail)
        obtain ⟨w1, hw1⟩ : ∃ w1, w1 = w.alloc (Obj.cells #[Value.int IntKind.i64 kd, Value.int IntKind.i64 a.1, Value.slice A a.2.length c] 27) := ⟨_, rfl⟩
        obtain ⟨B1, y1⟩ := HW.out w1 hw1
        rw [← hw1]
        clear hw1 q0 q1 q2 y0
        refine (implBound_any _ _ a.2 bs _ (H2.out.on B1) (H3.out.on B1) hr hr2).mono ?_
        rw [← HV.out]
        rintro e w2 ⟨A', c', rfl, ho, hb2⟩
        have B2 := bthen B1 hb2
        have y2 := y1.below hb2 y1.lt
        have L0 := later_cell (y2.cell 0 : w2.cell? ⟨w.heap.size, 0, none⟩ = some (.int .i64 kd))
        by_cases hl : V.length = 2
        · obtain ⟨s, t, rfl⟩ : ∃ s t, V = [s, t] := by
            match V, hl with
            | [s, t], _ => exact ⟨s, t, rfl⟩
          obtain ⟨g, rfl, _, _, _, hcc, _⟩ := ho.at_ (by simp)
          have L1 := later_cell (hcc 0 (by simp) : w2.cell? ⟨g, 0, none⟩ = some (.int .i64 s))
          have L2 := later_cell (hcc 1 (by simp) : w2.cell? ⟨g, 1, none⟩ = some (.int .i64 t))
          have CC := Lib.hid (fun W => comparison_any kd s t HK2.out W)
          have HE := Lib.hid (show R = cmpB kd s t by rw [HD.out]; rfl)
          generalize cmpB kd s t = T at CC HE
          clear y1 y2 ho hcc hl hVl
          go_wp2_with (fail)
          refine wp_region_later (by kernel_rfl) (by kernel_rfl) ?_
          repeat (go_big_quiet_step (first | (go_at_call 56; exact later_same (CC.out _))))
          refine wpQuiet_nil ?_
          rintro _ ⟨xq, rfl⟩
          go_wp2_with (fail)
          go_ret
          exact ⟨ret_bool HE.out.symm, bthen B2 xq.2⟩
        · have hl1 : ((V.length : Int) == 2) = false := by simp; omega
          have HE := Lib.hid (show R = false by rw [HD.out, decide_eq_false hl]; rfl)
          clear y1 y2 ho hl
          go_wp2_with (fail)
          refine wp_region_later (by kernel_rfl) (by kernel_rfl) ?_
          repeat (go_big_quiet_step (fail))
          refine wpQuiet_nil ?_
          rintro _ ⟨xq, rfl⟩
          go_wp2_with (fail)
          go_ret
          exact ⟨ret_bool HE.out.symm, bthen B2 xq.2⟩
    · -- no kind
      have HE := Lib.hid (show R = false by
        rw [HR.out]
        show (bindOk bs && a.2.all termOk && litHolds fs (kd, a) bs) = false
        unfold litHolds
        rw [if_neg (show ¬ ((kd, a).1 = 2 ∨ (kd, a).1 = 3) from hk2), decide_eq_false (show ¬ (0 ≤ (kd, a).1 ∧ (kd, a).1 ≤ 1) by show ¬ (0 ≤ kd ∧ kd ≤ 1); omega), Bool.and_false, Bool.false_and, Bool.and_false])
      have k0 : (kd == 0) = false := by simp; omega
      have k1 : (kd == 1) = false := by simp; omega
      have k2 : (kd == 2) = false := by simp; omega
      have k3 : (kd == 3) = false := by simp; omega
      clear hk hk2
      go_enter Try.func22, Try.ntmps22
      go_wp2_with (fail)
      go_ret
      exact ⟨ret_bool HE.out.symm, below1 _ _⟩

end Go.Proofs.Ytlehcghdhfeahaa
/-
  The specification's l3Row, l3None, l3Try.
-/
namespace Go.Proofs.Ytlehcghdhfeahaa
open Go.RowKit

set_option maxHeartbeats 1000000 in
set_option maxRecDepth 100000 in
theorem l3None_any (w : World) :
    Calls Try.prog 41 #[] w fun e w' => ∃ A' c', e = .returned (.slice A' 4 c') ∧ OwnInts w' w.heap.size w'.heap.size (.slice A' 4 c') noneB ∧ Below w.heap.size w w' := by
  obtain ⟨i0, hi0, hz0, hz1, hz2⟩ := info_parts Try.infoInt
  have C0 := Lib.hid (ColI.empty (Below.refl w.heap.size w))
  go_enter Try.func41, Try.ntmps41
  go_wp2_with (fail)
  go_loopw [1, 2] (fun o i wr => ∃ (k : Nat) (A' : Option Addr) (c' : Nat), k ≤ 4 ∧ i = .int .i64 k ∧ o = .slice A' (List.replicate k (-1 : Int)).length c' ∧ ColI w wr (List.replicate k (-1)) A' c') (fun _ i _ => 4 - (intOf i).toNat)
  case atStart => exact ⟨0, _, 0, Nat.zero_le _, rfl, rfl, C0.out⟩
  case round =>
    obtain ⟨k, A', c', hk, rfl, rfl, hr'⟩ := hrel
    by_cases hlt : k < 4
    · have HS := Lib.hid (show List.replicate (k + 1) (-1 : Int) = List.replicate k (-1) ++ [-1] from List.replicate_succ')
      have HP := Lib.hid hr'
      clear hr'
      obtain ⟨zs, hzs⟩ : ∃ zs, zs = List.replicate k (-1 : Int) := ⟨_, rfl⟩
      have hln : zs.length ≤ 4 := by rw [hzs]; simp; omega
      have HZ := Lib.hid hzs
      rw [← hzs] at HP ⊢
      clear hzs
      go_wp2_with (at_builtin; refine wpList_append_lies _ rfl (.tmp 8) (.tmp 9) 23 rfl w.heap.size 3 i0 (.int .i64 0) 1 8 Try.underlying23 hi0 hz0 hz1 hz2 rfl (by decide) (.slice A' zs.length c') zs.length (zs.map (Value.int .i64)) rfl ?c1 ⟨_, 0, none⟩ 1 1 [.int .i64 (-1)] rfl rfl (news1s _ _ _ _ (by simp)) ?c2 (by omega) (by unfold maxLen; omega) (by omega) ?c3 _ rfl ?_)
      case c1 => exact HP.out.own.1.alloc _
      case c2 => first | rfl | (intro u hu; simp at hu; subst hu; rfl)
      case c3 => have := HP.out.below.size; simp; omega
      intro g cap w4 hown hg _ _
      have hcol := HP.out.push (Below.refl _ _) hg hown
      rw [HZ.out, ← HS.out] at hcol
      have hlen : zs.length + 1 = (List.replicate (k + 1) (-1 : Int)).length := by rw [HZ.out]; simp
      rw [hlen]
      have HC := Lib.hid hcol
      clear hcol hlen hown hg
      go_wp2_with (fail)
      go_roundw
      case rel => exact ⟨k + 1, _, _, by omega, by go_num, rfl, HC.out⟩
      case measure => simp [intOf]; omega
    · have hkn : k = 4 := by omega
      subst hkn
      have HP := Lib.hid hr'
      clear hr'
      go_wp2_with (fail)
      go_ret
      exact ⟨_, _, rfl, HP.out.own, HP.out.below⟩

end Go.Proofs.Ytlehcghdhfeahaa
/-
  The walk of DrawMatch.
-/
namespace Go.Proofs.Ytlehcghdhfeahaa
open Go.RowKit

theorem RdBytes.onM {w w' : World} {v : Value} {bs : List Nat} (h : RdBytes w w.heap.size v bs) (hb : Below w.heap.size w w') : RdBytes w' w'.heap.size v bs := by
  obtain ⟨A, c, rfl, hc, hx⟩ := h.off (w' := w') (fun k hk => hb.block k hk)
  refine ⟨A, c, rfl, hc, fun hn => ?_⟩
  obtain ⟨b, o, rfl, hlt, hk⟩ := hx hn
  exact ⟨b, o, rfl, by have := hb.size; omega, hk⟩

/-- What the loop of DrawMatch keeps: bf is the fact's block, its arguments lie from base on, g is the reader. -/
structure P2 (w w0 wr : World) (g bf base : Nat) (bs : List Nat) (q : Nat) (p : Int) (A : Option Addr) (c : Nat) (zs : List Int) : Prop where
  keep : ∀ b, b < base → b ≠ bf → b ≠ g → wr.heap[b]? = w0.heap[b]?
  fact : Blk wr bf 35 #[.int .i64 p, .slice A zs.length c]
  own : wr.ownsRow base 3 1 (.slice A zs.length c) zs.length (zs.map (Value.int .i64))
  rdr : Rdr wr g bs q
  below : Below w.heap.size w wr
  size : base ≤ wr.heap.size
section
variable {w w0 wr w' w4 : World} {g bf base q : Nat} {bs : List Nat} {p : Int} {A : Option Addr} {c : Nat} {zs : List Int}
theorem P2.pick (h : P2 w w0 wr g bf base bs q p A c zs) (hg : g < base) (hb : bf < base) (hne : bf ≠ g) (hw : w.heap.size ≤ g) (hk : Picked wr w' g bs q) : P2 w w0 w' g bf base bs (q + 1) p A c zs :=
  ⟨fun b h1 h2 h3 => (hk.2.block b (Nat.lt_of_lt_of_le h1 h.size) (by omega)).trans (h.keep b h1 h2 h3), h.fact.only hk.2 (by omega), ownsRow_only h.own (fun b hb' => hk.2.block b (h.own.lt b hb').2 (by have := (h.own.lt b hb').1; omega)),
    hk.1, Only.then_ h.below hk.2 hw, Nat.le_trans h.size hk.2.size⟩
theorem P2.alloc (h : P2 w w0 wr g bf base bs q p A c zs) (o : Obj) : P2 w w0 (wr.alloc o) g bf base bs q p A c zs :=
  ⟨fun b h1 h2 h3 => (Below.heap_alloc wr o b (Nat.lt_of_lt_of_le h1 h.size)).trans (h.keep b h1 h2 h3), h.fact.alloc o, h.own.alloc o, h.rdr.below (below1 wr o) h.rdr.lt, bthen h.below (below1 wr o), by have := h.size; simp; omega⟩
theorem P2.push (h : P2 w w0 wr g bf base bs q p A c zs) (hg : g < base) (hb : bf < base) (hgb : g < bf) (hw : w.heap.size ≤ bf) (hgr : wr.grownBy w4 (Value.slice A zs.length c).ownBlock) {g2 cap : Nat} {x : Int}
    (hown : w4.ownsRow base 3 1 (.slice (some ⟨g2, 0, none⟩) (zs.length + 1) cap) (zs.length + 1) (zs.map (Value.int .i64) ++ [.int .i64 x])) :
    P2 w w0 (w4.setCell ⟨bf, 1, none⟩ (.slice (some ⟨g2, 0, none⟩) (zs.length + 1) cap)) g bf base bs q p (some ⟨g2, 0, none⟩) cap (zs ++ [x]) := by
  have hlow : ∀ b, b < base → w4.heap[b]? = wr.heap[b]? := fun b hb' => hgr.block b (Nat.lt_of_lt_of_le hb' h.size) (fun e => by have := (h.own.lt b e.symm).1; omega)
  have hset : ∀ b, b ≠ bf → (w4.setCell ⟨bf, 1, none⟩ (.slice (some ⟨g2, 0, none⟩) (zs.length + 1) cap)).heap[b]? = w4.heap[b]? := fun b hb' => Below.heap_setCell _ _ _ _ hb'
  have hl : (zs ++ [x]).length = zs.length + 1 := by simp
  refine ⟨fun b h1 h2 h3 => (hset b h2).trans ((hlow b h1).trans (h.keep b h1 h2 h3)), ?_, ?_, ?_, ?_, Nat.le_trans h.size (Nat.le_trans hgr.size (by simp))⟩
  · have := (show Blk w4 bf 35 _ from (hlow bf hb).trans h.fact).set_ 1 (.slice (some ⟨g2, 0, none⟩) (zs.length + 1) cap)
    rw [hl]
    simpa using this
  · rw [hl]
    have := ownsRow_only hown (fun b hb' => hset b (by have := (hown.lt b hb').1; omega))
    simpa using this
  · exact h.rdr.same fun k hk => (hset k (by omega)).trans (hlow k (by omega))
  · exact (h.below.trans ⟨hgr.os, hgr.tape, hgr.output, hgr.size, fun k hk => hlow k (by omega)⟩).setCell hw _
theorem P2.keepFact (h : P2 w w0 wr g bf base bs q p A c zs) (hb : bf < base) (hgr : wr.grownBy w4 (Value.slice A zs.length c).ownBlock) : Blk w4 bf 35 #[.int .i64 p, .slice A zs.length c] :=
  (hgr.block bf h.fact.lt (fun e => by have := (h.own.lt bf e.symm).1; omega)).trans h.fact
theorem P2.old {lo hi : Nat} {v : Value} {xs : List Int} (h : P2 w w0 wr g bf base bs q p A c zs) (ho : OwnInts w0 lo hi v xs) (h1 : g < lo) (h2 : hi ≤ bf ∨ bf < lo) (h3 : hi ≤ base) : OwnInts wr lo hi v xs :=
  ho.kept fun b hb => by
    have := ho.lt hb
    exact h.keep b (by omega) (by omega) (by omega)
theorem P2.ints (h : P2 w w0 wr g bf base bs q p A c zs) : OwnInts wr base wr.heap.size (.slice A zs.length c) zs := ⟨h.own, fun b hb => (h.own.lt b hb).2⟩
end

/-- What the two results' stores leave. -/
theorem matchDone {w W : World} {ra rb lo hi : Nat} {ta tb : TypeId} {a f : LFact} {va vf vb : Value} {ys : List Int} (RA : Blk W ra ta #[.int .i64 0, .slice none 0 0]) (RB : Blk W rb tb #[.int .i64 0, .slice none 0 0]) (hab : ra ≠ rb) (B : Below w.heap.size w W) (h1 : w.heap.size ≤ ra) (h2 : w.heap.size ≤ rb)
    (ha : ra < lo) (hb : rb < lo) (oa : OwnInts W lo hi va a.2) (of : OwnInts W lo hi vf f.2) (ob : OwnInts W lo hi vb ys) (hh : hi ≤ W.heap.size) {Wf : World} (hW : Wf = (((W.setCell ⟨ra, 0, none⟩ (.int .i64 a.1)).setCell ⟨ra, 1, none⟩ va).setCell ⟨rb, 0, none⟩ (.int .i64 f.1)).setCell ⟨rb, 1, none⟩ vf) :
    Wf.cell? ⟨ra, 0, none⟩ = some (.int .i64 a.1) ∧ Wf.cell? ⟨ra, 1, none⟩ = some va ∧ Wf.cell? ⟨rb, 0, none⟩ = some (.int .i64 f.1) ∧ Wf.cell? ⟨rb, 1, none⟩ = some vf ∧
    RdInts Wf Wf.heap.size va a.2 ∧ RdInts Wf Wf.heap.size vf f.2 ∧ RdInts Wf Wf.heap.size vb ys ∧ Below w.heap.size w Wf := by
  subst hW
  have A2 := (RA.set_ 0 (.int .i64 a.1)).set_ 1 va
  have B2 := (((RB.far (p := ⟨ra, 0, none⟩) (fun e => hab e.symm) (.int .i64 a.1)).far (p := ⟨ra, 1, none⟩) (fun e => hab e.symm) va).set_ 0 (.int .i64 f.1)).set_ 1 vf
  have A3 := (A2.far (p := ⟨rb, 0, none⟩) hab (.int .i64 f.1)).far (p := ⟨rb, 1, none⟩) hab vf
  have rows : ∀ {v : Value} {xs : List Int}, OwnInts W lo hi v xs → RdInts ((((W.setCell ⟨ra, 0, none⟩ (.int .i64 a.1)).setCell ⟨ra, 1, none⟩ va).setCell ⟨rb, 0, none⟩ (.int .i64 f.1)).setCell ⟨rb, 1, none⟩ vf) ((((W.setCell ⟨ra, 0, none⟩ (.int .i64 a.1)).setCell ⟨ra, 1, none⟩ va).setCell ⟨rb, 0, none⟩ (.int .i64 f.1)).setCell ⟨rb, 1, none⟩ vf).heap.size v xs := fun h =>
    ((((h.set (p := ⟨ra, 0, none⟩) (.inl ha) _).set (p := ⟨ra, 1, none⟩) (.inl ha) _).set (p := ⟨rb, 0, none⟩) (.inl hb) _).set (p := ⟨rb, 1, none⟩) (.inl hb) _).rd.more (by simpa using hh)
  refine ⟨by rw [A3.cell 0]; simp, by rw [A3.cell 1]; simp, by rw [B2.cell 0]; simp, by rw [B2.cell 1]; simp, rows oa, rows of, rows ob, ?_⟩
  exact (((B.setCell h1 _).setCell h1 _).setCell h2 _).setCell h2 _

set_option maxHeartbeats 4000000 in
set_option maxRecDepth 100000 in
theorem drawMatch_any (v : Value) (code : List Nat) (w : World) (h : RdBytes w w.heap.size v code) (hby : ∀ b ∈ code, b < 256) (hn : code.length ≤ 1073741824) :
    Calls Try.prog 12 #[v] w fun e w' => ∃ (a f : LFact) (ys : List Int) (A : Option Addr) (c : Nat) (A2 : Option Addr) (c2 : Nat) (A3 : Option Addr) (c3 : Nat),
      e = .returned (.tuple #[.agg #[.int .i64 a.1, .slice A a.2.length c], .agg #[.int .i64 f.1, .slice A2 f.2.length c2], .slice A3 ys.length c3]) ∧ a.2.length ≤ 8 ∧ f.2.length ≤ 8 ∧ ys.length ≤ 8 ∧
      RdInts w' w'.heap.size (.slice A a.2.length c) a.2 ∧ RdInts w' w'.heap.size (.slice A2 f.2.length c2) f.2 ∧ RdInts w' w'.heap.size (.slice A3 ys.length c3) ys ∧ Below w.heap.size w w' := by
  obtain ⟨i0, hi0, hz0, hz1, hz2⟩ := info_parts Try.infoInt
  have HV := Lib.hid h
  clear h
  go_enter Try.func12, Try.ntmps12
  go_upto_region 1 with fail
  obtain ⟨w0, hw0⟩ : ∃ w0, w0 = (w.alloc (Obj.cells #[Value.int IntKind.i64 0, Value.slice none 0 0] 25)).alloc (Obj.cells #[Value.int IntKind.i64 0, Value.slice none 0 0] 35) := ⟨_, rfl⟩
  have RA0 : Blk w0 w.heap.size 25 #[.int .i64 0, .slice none 0 0] := by rw [hw0]; exact (Blk.new _ _ _).alloc _
  have RB0 : Blk w0 (w.heap.size + 1) 35 #[.int .i64 0, .slice none 0 0] := by
    rw [hw0]
    have := Blk.new (w.alloc (Obj.cells #[Value.int IntKind.i64 0, Value.slice none 0 0] 25)) 35 #[.int .i64 0, .slice none 0 0]
    simpa using this
  have B0 : Below w.heap.size w w0 := by rw [hw0]; exact below2 _ _ _
  have hs0 : w0.heap.size = w.heap.size + 2 := by rw [hw0]; simp
  rw [← hw0]
  clear hw0
  obtain ⟨ra, hra⟩ : ∃ ra, ra = w.heap.size := ⟨_, rfl⟩
  obtain ⟨g, hg⟩ : ∃ g, g = w0.heap.size := ⟨_, rfl⟩
  have HRA := Lib.hid RA0
  have HRB := Lib.hid RB0
  have HB0 := Lib.hid B0
  have HS0 := Lib.hid hs0
  have HG := Lib.hid hg
  clear RA0 RB0 B0 hs0 hra
  go_wp2_with fail
  refine (l40Open_any v code w0 (HV.out.onM HB0.out) hby hn).mono ?_
  rintro e w1 ⟨rfl, hr1, hb1⟩
  rw [← hg] at hr1 ⊢
  have hg2a : g ≤ w.heap.size + 2 := by rw [hg, HS0.out]; exact Nat.le_refl _
  have hg2 : w.heap.size + 2 ≤ g := by rw [hg, HS0.out]; exact Nat.le_refl _
  have hg1 : g < w1.heap.size := hr1.lt
  have HB1 := Lib.hid hb1
  have HR1 := Lib.hid hr1
  obtain ⟨bs, hbs⟩ : ∃ bs, bs = code.take 2000 := ⟨_, rfl⟩
  rw [← hbs] at HR1
  clear hb1 hr1 hbs hg
  go_wp2_with fail
  refine (l1Arity_any g bs 0 2 w1 HR1.out (by omega) (by omega)).mono ?_
  rintro e w2 ⟨A2, c2, ar, rfl, hd⟩
  have hlen := hd.len
  have HI := Lib.hid (show OwnInts w2 w1.heap.size w2.heap.size (.slice A2 2 c2) ar from hd.ints)
  have HD2 := Lib.hid hd.rdr
  have HRG := Lib.hid hd.range
  have HO2 := Lib.hid hd.only
  have hs2 := hd.only.size
  have HLN := Lib.hid hlen
  have hal : ar.length ≤ 2 := by omega
  have hal2 : 2 ≤ ar.length := by omega
  clear hd hlen
  go_wp2_with fail
  refine (pick_any g bs (0 + 2) 2 w2 HD2.out (by omega) (by omega)).mono ?_
  rintro e w3 ⟨⟨x, rfl, hx⟩, hp3⟩
  have hxr : 0 ≤ x ∧ x < 2 := hx.1 (by omega)
  obtain ⟨j, rfl⟩ : ∃ j : Nat, x = (j : Int) := ⟨x.toNat, by omega⟩
  have hj : j < ar.length := by omega
  obtain ⟨m, hm⟩ : ∃ m : Nat, ar[j] = (m : Int) := ⟨ar[j].toNat, by have := HRG.out _ (List.getElem_mem hj); omega⟩
  have hm2 : m ≤ 2 := by have := HRG.out _ (List.getElem_mem hj); omega
  have HR3 := Lib.hid hp3.1
  have HO3 := Lib.hid (HO2.out.trans hp3.2)
  have HI3 := Lib.hid (HI.out.only hp3.2 (.inr (by omega)))
  have hs3 := hp3.2.size
  have HM := Lib.hid hm
  clear hp3 hx hxr hm
  go_wp2_with fail
  refine (l2Draw_any g bs (0 + 2 + 1) w1.heap.size w2.heap.size j m 3 _ ar w3 HR3.out (by omega) HI3.out hg1 hs3 hj HM.out hm2 (by omega) (by omega)).mono ?_
  rintro e w4 ⟨A, c, az, q4, rfl, hal4, hq4, ho4, hr4, hO4⟩
  have HO4 := Lib.hid (HO3.out.trans hO4)
  have HI4 := Lib.hid (HI3.out.only hO4 (.inr (by omega)))
  have HR4 := Lib.hid hr4
  have HA4 := Lib.hid ho4
  have hs4 := hO4.size
  clear hO4 hr4 ho4
  go_upto_region 4 with fail
  obtain ⟨wa, hwa⟩ : ∃ wa, wa = w4.alloc (Obj.cells #[Value.int IntKind.i64 (j : Int), Value.slice A az.length c] 25) := ⟨_, rfl⟩
  have ba4 : Below w4.heap.size w4 wa := by rw [hwa]; exact below1 _ _
  have BA := Blk.new w4 25 #[.int .i64 (j : Int), .slice A az.length c]
  rw [← hwa] at BA ⊢
  have hsa : wa.heap.size = w4.heap.size + 1 := by rw [hwa]; simp
  obtain ⟨ba, hba⟩ : ∃ ba, ba = w4.heap.size := ⟨_, rfl⟩
  rw [← hba] at BA ⊢
  have HBA := Lib.hid BA
  have HOa := Lib.hid (HO4.out.trans (Only.of_below ba4))
  have HIa := Lib.hid (HI4.out.below ba4 (by omega))
  have HRa := Lib.hid (HR4.out.below ba4 HR4.out.lt)
  have HAa := Lib.hid (HA4.out.below ba4 (Nat.le_refl _))
  have hsaa : ba + 1 ≤ wa.heap.size := by omega
  have hsab : wa.heap.size ≤ ba + 1 := by omega
  have hba4 : w4.heap.size ≤ ba := by omega
  have hba5 : ba ≤ w4.heap.size := by omega
  have hba3 : w3.heap.size ≤ ba := by omega
  clear hwa ba4 BA hsa hba
  go_wp2_with fail
  refine (l1Fact_own g bs q4 w1.heap.size w2.heap.size _ ar wa HRa.out (by omega) HIa.out hg1 (by omega) HRG.out (by omega)).mono ?_
  rintro e w5 ⟨A3, c3, f, q5, rfl, hf5, hq5, ho5, hr5, hO5⟩
  have HO5 := Lib.hid (HOa.out.trans hO5)
  have HR5 := Lib.hid hr5
  have HF5 := Lib.hid ho5
  have HBA5 := Lib.hid (HBA.out.only hO5 (.inr (by omega)))
  have HA5 := Lib.hid (HAa.out.only hO5 (.inr (by omega)))
  have hs5 := hO5.size
  clear hO5 hr5 ho5
  go_upto_region 5 with fail
  obtain ⟨wb, hwb⟩ : ∃ wb, wb = w5.alloc (Obj.cells #[Value.int IntKind.i64 f.1, Value.slice A3 f.2.length c3] 35) := ⟨_, rfl⟩
  have bb5 : Below w5.heap.size w5 wb := by rw [hwb]; exact below1 _ _
  have BF := Blk.new w5 35 #[.int .i64 f.1, .slice A3 f.2.length c3]
  rw [← hwb] at BF ⊢
  have hsb : wb.heap.size = w5.heap.size + 1 := by rw [hwb]; simp
  obtain ⟨bf, hbf⟩ : ∃ bf, bf = w5.heap.size := ⟨_, rfl⟩
  rw [← hbf] at BF ⊢
  have HBF := Lib.hid BF
  have HOb := Lib.hid (HO5.out.trans (Only.of_below bb5))
  have HRb := Lib.hid (HR5.out.below bb5 HR5.out.lt)
  have HAb := Lib.hid (HA5.out.below bb5 (by omega))
  have HBAb := Lib.hid (HBA5.out.below bb5 (by omega))
  have HFb := Lib.hid (HF5.out.below bb5 (Nat.le_refl _))
  have hsbb : bf + 1 ≤ wb.heap.size := by omega
  have hsbc : wb.heap.size ≤ bf + 1 := by omega
  have hbfa : wa.heap.size ≤ bf := by omega
  have hw4b : w4.heap.size ≤ bf := by omega
  have hw5b : w5.heap.size ≤ bf := by omega
  have hw5c : bf ≤ w5.heap.size := by omega
  clear hwb bb5 BF hsb hbf
  go_wp2_with fail
  refine (l3Draw_any g bs q5 wb HRb.out (by omega)).mono ?_
  rintro e w6 ⟨A5, c5, ys, q6, rfl, hy6, hq6, h6⟩
  have HO6 := Lib.hid (HOb.out.trans h6.only)
  have HD6 := Lib.hid h6
  have HBA6 := Lib.hid (HBAb.out.only h6.only (.inr (by omega)))
  have HBF6 := Lib.hid (HBF.out.only h6.only (.inr (by omega)))
  have HA6 := Lib.hid (HAb.out.only h6.only (.inr (by omega)))
  have HF6 := Lib.hid (HFb.out.only h6.only (.inr (by omega)))
  have hs6 := h6.only.size
  clear h6
  go_wp2_with fail
  refine (pick_any g bs q6 3 w6 HD6.out.rdr (by omega) (by omega)).mono ?_
  rintro e w7 ⟨⟨x7, rfl, _⟩, hp7⟩
  obtain ⟨a, hae⟩ : ∃ a : LFact, a = ((j : Int), az) := ⟨_, rfl⟩
  have HO7 := Lib.hid (HO6.out.trans hp7.2)
  have hs7 := hp7.2.size
  have HR7 := Lib.hid hp7.1
  have HBA7 := Lib.hid (show Blk w7 ba 25 #[.int .i64 a.1, .slice A a.2.length c] by rw [hae]; exact HBA6.out.only hp7.2 (.inr (by omega)))
  have HBF7 := Lib.hid (HBF6.out.only hp7.2 (.inr (by omega)))
  have HA7 := Lib.hid (show OwnInts w7 (g + 1) bf (.slice A a.2.length c) a.2 by rw [hae]; exact (HA6.out.only hp7.2 (.inr (by omega))).mono (by omega) hw4b)
  have HF7 := Lib.hid ((HF6.out.only hp7.2 (.inr (by omega))).mono (show g + 1 ≤ wa.heap.size by omega) hw5b)
  have HY8 := Lib.hid (show OwnInts w7 wb.heap.size w6.heap.size (.slice A5 ys.length c5) ys from HD6.out.own.only hp7.2 (.inr (by omega)))
  have HY7 := Lib.hid ((HD6.out.own.only hp7.2 (.inr (by omega))).mono (show g + 1 ≤ wb.heap.size by omega) (Nat.le_refl _))
  have HBW7 := Lib.hid (show Below w.heap.size w w7 from (bthen HB0.out HB1.out).trans (HO7.out.below (by omega) (by omega)))
  have HRA7 := Lib.hid (show Blk w7 w.heap.size 25 #[.int .i64 0, .slice none 0 0] from (HRA.out.below HB1.out (by have := HS0.out; omega)).only HO7.out (.inl (by omega)))
  have HRB7 := Lib.hid (show Blk w7 (w.heap.size + 1) 35 #[.int .i64 0, .slice none 0 0] from (HRB.out.below HB1.out (by have := HS0.out; omega)).only HO7.out (.inl (by omega)))
  have hal8 : a.2.length ≤ 2 := by rw [hae]; exact hal4
  clear hp7
  by_cases hx7 : 0 < x7
  · have hxb : decide (0 < x7) = true := by simpa using hx7
    clear hae
    have z0 : w7.cell? ⟨ba, 0, none⟩ = some (.int .i64 a.1) := HBA7.out.cell 0
    have z1 : w7.cell? ⟨bf, 0, none⟩ = some (.int .i64 f.1) := HBF7.out.cell 0
    have z2 : w7.cell? ⟨bf, 1, none⟩ = some (.slice A3 f.2.length c3) := HBF7.out.cell 1
    have z3 : w7.frozen? ⟨bf, 0, none⟩ = false := HBF7.out.frozen 0
    have z4 : w7.frozen? ⟨bf, 1, none⟩ = false := HBF7.out.frozen 1
    go_upto_region 8 with fail
    obtain ⟨w8, hw8⟩ : ∃ w8, w8 = (w7.setCell ⟨bf, 0, none⟩ (.int .i64 a.1)).setCell ⟨bf, 1, none⟩ (.slice none 0 0) := ⟨_, rfl⟩
    have P0 : P2 w w7 w8 g bf w7.heap.size bs (q6 + 1) a.1 none 0 [] := by
      rw [hw8]
      have hset : ∀ b, b ≠ bf → ((w7.setCell ⟨bf, 0, none⟩ (.int .i64 a.1)).setCell ⟨bf, 1, none⟩ (.slice none 0 0)).heap[b]? = w7.heap[b]? := fun b hb => (Below.heap_setCell _ _ _ _ hb).trans (Below.heap_setCell _ _ _ _ hb)
      refine ⟨fun b _ h2 _ => hset b h2, ?_, World.ownsRow_nil _ _ _ _, HR7.out.same fun k hk => hset k (by omega), (HBW7.out.setCell (by show w.heap.size ≤ bf; omega) _).setCell (by show w.heap.size ≤ bf; omega) _, by simp⟩
      have := (HBF7.out.set_ 0 (.int .i64 a.1)).set_ 1 (.slice none 0 0)
      simpa using this
    rw [← hw8]
    have HP0 := Lib.hid P0
    clear hw8 P0 z0 z1 z2 z3 z4
    go_wp2_with fail
    go_loopw [10] (fun i wr => ∃ (k : Nat) (A4 : Option Addr) (c4 : Nat) (zs : List Int) (q : Nat), k ≤ a.2.length ∧ i = .int .i64 k ∧ zs.length = k ∧ q ≤ q6 + 1 + 2 * k ∧ P2 w w7 wr g bf w7.heap.size bs q a.1 A4 c4 zs) (fun i _ => a.2.length - (intOf i).toNat)
    case atStart => exact ⟨0, none, 0, [], q6 + 1, Nat.zero_le _, rfl, rfl, by omega, HP0.out⟩
    case round =>
      obtain ⟨k, A4, c4, zs, q, hk, rfl, hzl, hq, hp⟩ := hrel
      have HZL := Lib.hid hzl
      have hzl2 : zs.length ≤ 2 := by omega
      have HR := Lib.hid hp
      have hbar : Blk wr ba 25 #[.int .i64 a.1, .slice A a.2.length c] := (hp.keep ba (by omega) (by omega) (by omega)).trans HBA7.out
      have y1 : wr.cell? ⟨ba, 1, none⟩ = some (.slice A a.2.length c) := hbar.cell 1
      have HAR := Lib.hid (hp.old HA7.out (Nat.lt_succ_self g) (.inl (Nat.le_refl bf)) (by omega))
      clear hzl hp hbar
      by_cases hlt : k < a.2.length
      · go_wp2_with (fail)
        refine (pick_any g bs q 3 _ HR.out.rdr (by omega) (by omega)).mono ?_
        rintro e w2' ⟨⟨x1, rfl, _⟩, hp1⟩
        have H1 := Lib.hid (HR.out.pick (by omega) (by omega) (by omega) (by omega) hp1)
        have hba1 : Blk w2' ba 25 #[.int .i64 a.1, .slice A a.2.length c] := (H1.out.keep ba (by omega) (by omega) (by omega)).trans HBA7.out
        have y2 : w2'.cell? ⟨ba, 1, none⟩ = some (.slice A a.2.length c) := hba1.cell 1
        obtain ⟨A9, c9, e9, _, hxx⟩ := (H1.out.old HA7.out (Nat.lt_succ_self g) (.inl (Nat.le_refl bf)) (by omega)).rd
        injection e9 with e9 e11 e10
        clear e11
        subst e9 e10
        obtain ⟨b9, o9, rfl, hb9, hxx⟩ := hxx (by omega)
        have y3 : w2'.cell? ⟨b9, o9 + k, none⟩ = some (.int .i64 a.2[k]) := hxx k hlt
        have HCELL := Lib.hid hxx
        clear hp1 hba1 hxx y1
        by_cases ha0 : 0 ≤ a.2[k]
        · have hab : decide (0 ≤ a.2[k]) = true := by simpa using ha0
          go_wp2_with (fail)
          refine (pick_any g bs (q + 1) 5 _ H1.out.rdr (by omega) (by omega)).mono ?_
          rintro e w3' ⟨⟨x2, rfl, _⟩, hp2⟩
          have H2 := Lib.hid (H1.out.pick (by omega) (by omega) (by omega) (by omega) hp2)
          have hba2 : Blk w3' ba 25 #[.int .i64 a.1, .slice (some ⟨b9, o9, none⟩) a.2.length c] := (H2.out.keep ba (by omega) (by omega) (by omega)).trans HBA7.out
          have y4 : w3'.cell? ⟨ba, 1, none⟩ = some (.slice (some ⟨b9, o9, none⟩) a.2.length c) := hba2.cell 1
          have y5 : w3'.cell? ⟨b9, o9 + k, none⟩ = some (.int .i64 a.2[k]) := by
            have h1 := (H2.out.old HA7.out (Nat.lt_succ_self g) (.inl (Nat.le_refl bf)) (by omega)).rd
            obtain ⟨_, _, e12, _, hxy⟩ := h1
            injection e12 with e12 _ _
            obtain ⟨b', o', e13, _, hxy⟩ := hxy (by omega)
            rw [e13] at e12
            injection e12 with e12
            injection e12 with e14 e15 _
            subst e14 e15
            exact hxy k hlt
          clear hp2 hba2
          by_cases hx2 : 0 < x2
          · have hxb2 : decide (0 < x2) = true := by simpa using hx2
            obtain ⟨wS, rfl⟩ : ∃ wS, wS = w3' := ⟨_, rfl⟩
            have a1 : wS.cell? ⟨bf, 1, none⟩ = some (.slice A4 zs.length c4) := H2.out.fact.cell 1
            go_wp2_with (at_builtin; refine wpList_append_lies _ rfl (.tmp 58) (.tmp 60) 23 rfl w7.heap.size 3 i0 (.int .i64 0) 1 8 Try.underlying23 hi0 hz0 hz1 hz2 rfl (by decide) (.slice A4 zs.length c4) zs.length (zs.map (Value.int .i64)) rfl ?c1 ⟨wS.heap.size, 0, none⟩ 1 1 [.int .i64 a.2[k]] rfl rfl (cell_one_new _ _ _) ?c2 (by omega) (by unfold maxLen; omega) (by omega) ?c3 _ rfl ?_)
            case c1 => exact (H2.out.alloc _).own
            case c2 => intro u hu; simp at hu; subst hu; rfl
            case c3 => exact (H2.out.alloc _).size
            intro g2 cap w9 hown hgr _ _
            have HST := Lib.hid (P2.push (H2.out.alloc _) (by omega) (by omega) (by omega) (by omega) hgr hown)
            have hkf := P2.keepFact (H2.out.alloc _) (by omega) hgr
            have e1 : w9.cell? ⟨bf, 1, none⟩ = some (.slice A4 zs.length c4) := hkf.cell 1
            have e2 := hkf.frozen 1
            clear hkf hown hgr
            go_wp2_with (fail)
            go_roundw
            case rel => exact ⟨k + 1, _, _, zs ++ [a.2[k]], q + 1 + 1, by omega, by go_num, by simp; exact HZL.out, by omega, by simpa using HST.out⟩
            case measure => simp [intOf]; omega
          · have hxb2 : decide (0 < x2) = false := by simpa using hx2
            obtain ⟨wS, rfl⟩ : ∃ wS, wS = w3' := ⟨_, rfl⟩
            have a1 : wS.cell? ⟨bf, 1, none⟩ = some (.slice A4 zs.length c4) := H2.out.fact.cell 1
            go_wp2_with (at_builtin; refine wpList_append_lies _ rfl (.tmp 58) (.tmp 60) 23 rfl w7.heap.size 3 i0 (.int .i64 0) 1 8 Try.underlying23 hi0 hz0 hz1 hz2 rfl (by decide) (.slice A4 zs.length c4) zs.length (zs.map (Value.int .i64)) rfl ?c1 ⟨wS.heap.size, 0, none⟩ 1 1 [.int .i64 x1] rfl rfl (cell_one_new _ _ _) ?c2 (by omega) (by unfold maxLen; omega) (by omega) ?c3 _ rfl ?_)
            case c1 => exact (H2.out.alloc _).own
            case c2 => intro u hu; simp at hu; subst hu; rfl
            case c3 => exact (H2.out.alloc _).size
            intro g2 cap w9 hown hgr _ _
            have HST := Lib.hid (P2.push (H2.out.alloc _) (by omega) (by omega) (by omega) (by omega) hgr hown)
            have hkf := P2.keepFact (H2.out.alloc _) (by omega) hgr
            have e1 : w9.cell? ⟨bf, 1, none⟩ = some (.slice A4 zs.length c4) := hkf.cell 1
            have e2 := hkf.frozen 1
            clear hkf hown hgr
            go_wp2_with (fail)
            go_roundw
            case rel => exact ⟨k + 1, _, _, zs ++ [x1], q + 1 + 1, by omega, by go_num, by simp; exact HZL.out, by omega, by simpa using HST.out⟩
            case measure => simp [intOf]; omega
        · have hab : decide (0 ≤ a.2[k]) = false := by simpa using ha0
          obtain ⟨wS, rfl⟩ : ∃ wS, wS = w2' := ⟨_, rfl⟩
          have a1 : wS.cell? ⟨bf, 1, none⟩ = some (.slice A4 zs.length c4) := H1.out.fact.cell 1
          go_wp2_with (at_builtin; refine wpList_append_lies _ rfl (.tmp 58) (.tmp 60) 23 rfl w7.heap.size 3 i0 (.int .i64 0) 1 8 Try.underlying23 hi0 hz0 hz1 hz2 rfl (by decide) (.slice A4 zs.length c4) zs.length (zs.map (Value.int .i64)) rfl ?c1 ⟨wS.heap.size, 0, none⟩ 1 1 [.int .i64 x1] rfl rfl (cell_one_new _ _ _) ?c2 (by omega) (by unfold maxLen; omega) (by omega) ?c3 _ rfl ?_)
          case c1 => exact (H1.out.alloc _).own
          case c2 => intro u hu; simp at hu; subst hu; rfl
          case c3 => exact (H1.out.alloc _).size
          intro g2 cap w9 hown hgr _ _
          have HST := Lib.hid (P2.push (H1.out.alloc _) (by omega) (by omega) (by omega) (by omega) hgr hown)
          have hkf := P2.keepFact (H1.out.alloc _) (by omega) hgr
          have e1 : w9.cell? ⟨bf, 1, none⟩ = some (.slice A4 zs.length c4) := hkf.cell 1
          have e2 := hkf.frozen 1
          clear hkf hown hgr
          go_wp2_with (fail)
          go_roundw
          case rel => exact ⟨k + 1, _, _, zs ++ [x1], q + 1, by omega, by go_num, by simp; exact HZL.out, by omega, by simpa using HST.out⟩
          case measure => simp [intOf]; omega
      · go_wp2_with (fail)
        refine (pick_any g bs q 2 _ HR.out.rdr (by omega) (by omega)).mono ?_
        rintro e w2' ⟨⟨x9, rfl, _⟩, hp1⟩
        have H1 := Lib.hid (HR.out.pick (by omega) (by omega) (by omega) (by omega) hp1)
        clear hp1 y1
        obtain ⟨f, hfe⟩ : ∃ f : LFact, f = (a.1, zs) := ⟨_, rfl⟩
        obtain ⟨A3, hA3⟩ : ∃ A3, A3 = A4 := ⟨_, rfl⟩
        obtain ⟨c3, hc3⟩ : ∃ c3, c3 = c4 := ⟨_, rfl⟩
        have hfl : f.2.length ≤ 2 := by rw [hfe]; exact hzl2
        have BAX := Lib.hid (show Blk w2' ba 25 #[.int .i64 a.1, .slice A a.2.length c] from (H1.out.keep ba (by omega) (by omega) (by omega)).trans HBA7.out)
        have BFX := Lib.hid (show Blk w2' bf 35 #[.int .i64 f.1, .slice A3 f.2.length c3] by rw [hfe, hA3, hc3]; exact H1.out.fact)
        have RAX := Lib.hid (show Blk w2' w.heap.size 25 #[.int .i64 0, .slice none 0 0] from (H1.out.keep _ (by omega) (by omega) (by omega)).trans HRA7.out)
        have RBX := Lib.hid (show Blk w2' (w.heap.size + 1) 35 #[.int .i64 0, .slice none 0 0] from (H1.out.keep _ (by omega) (by omega) (by omega)).trans HRB7.out)
        have hsx := H1.out.size
        have OAX := Lib.hid ((H1.out.old HA7.out (Nat.lt_succ_self g) (.inl (Nat.le_refl bf)) (by omega)).mono (Nat.le_refl (g + 1)) (show bf ≤ w2'.heap.size by omega))
        have OFX := Lib.hid (show OwnInts w2' (g + 1) w2'.heap.size (.slice A3 f.2.length c3) f.2 by rw [hfe, hA3, hc3]; exact H1.out.ints.mono (by omega) (Nat.le_refl _))
        have OBX := Lib.hid ((H1.out.old HY8.out (by omega) (.inr (by omega)) (by omega)).mono (show g + 1 ≤ wb.heap.size by omega) (show w6.heap.size ≤ w2'.heap.size by omega))
        clear hfe hA3 hc3
        by_cases hx9 : x9 = 0
        · have hxc : (x9 == 0) = true := by simp [hx9]
          clear hx9
          go_wp2_with (fail)
          refine (l3None_any _).mono ?_
          rintro e WW ⟨A5, c5, rfl, o5, b5⟩
          obtain ⟨ys, hys⟩ : ∃ ys, ys = noneB := ⟨_, rfl⟩
          have hyl : ys.length = 4 := by rw [hys]; rfl
          rw [← hys] at o5
          have hs5' := b5.size
          have BAW := BAX.out.below b5 BAX.out.lt
          have BFW := BFX.out.below b5 BFX.out.lt
          have RAW := RAX.out.below b5 RAX.out.lt
          have RBW := RBX.out.below b5 RBX.out.lt
          have BWW := bthen H1.out.below b5
          have OAW := (OAX.out.below b5 (Nat.le_refl _)).mono (Nat.le_refl (g + 1)) hs5'
          have OFW := (OFX.out.below b5 (Nat.le_refl _)).mono (Nat.le_refl (g + 1)) hs5'
          have OBW : OwnInts WW (g + 1) WW.heap.size (.slice A5 ys.length c5) ys := by rw [hyl]; exact o5.mono (by omega) (Nat.le_refl _)
          rw [show Value.slice A5 4 c5 = Value.slice A5 ys.length c5 by rw [hyl]]
          have hy6 : ys.length ≤ 4 := by omega
          clear hys hyl o5 b5
          have hwA : WW.cell? ⟨ba, 0, none⟩ = some (.int .i64 a.1) := BAW.cell 0
          have hwA1 : WW.cell? ⟨ba, 1, none⟩ = some (.slice A a.2.length c) := BAW.cell 1
          have hwF : WW.cell? ⟨bf, 0, none⟩ = some (.int .i64 f.1) := BFW.cell 0
          have hwF1 : WW.cell? ⟨bf, 1, none⟩ = some (.slice A3 f.2.length c3) := BFW.cell 1
          have r0 : WW.cell? ⟨w.heap.size, 0, none⟩ = some (.int .i64 0) := RAW.cell 0
          have r1 : WW.cell? ⟨w.heap.size, 1, none⟩ = some (.slice none 0 0) := RAW.cell 1
          have r2 : WW.cell? ⟨w.heap.size + 1, 0, none⟩ = some (.int .i64 0) := RBW.cell 0
          have r3 : WW.cell? ⟨w.heap.size + 1, 1, none⟩ = some (.slice none 0 0) := RBW.cell 1
          have t0 : WW.frozen? ⟨w.heap.size, 0, none⟩ = false := RAW.frozen 0
          have t1 : WW.frozen? ⟨w.heap.size, 1, none⟩ = false := RAW.frozen 1
          have t2 : WW.frozen? ⟨w.heap.size + 1, 0, none⟩ = false := RBW.frozen 0
          have t3 : WW.frozen? ⟨w.heap.size + 1, 1, none⟩ = false := RBW.frozen 1
          have dA : WW.drew.cell? ⟨ba, 0, none⟩ = some (.int .i64 a.1) := hwA
          have dA1 : WW.drew.cell? ⟨ba, 1, none⟩ = some (.slice A a.2.length c) := hwA1
          have dF : WW.drew.cell? ⟨bf, 0, none⟩ = some (.int .i64 f.1) := hwF
          have dF1 : WW.drew.cell? ⟨bf, 1, none⟩ = some (.slice A3 f.2.length c3) := hwF1
          have d0 : WW.drew.cell? ⟨w.heap.size, 0, none⟩ = some (.int .i64 0) := r0
          have d1 : WW.drew.cell? ⟨w.heap.size, 1, none⟩ = some (.slice none 0 0) := r1
          have d2 : WW.drew.cell? ⟨w.heap.size + 1, 0, none⟩ = some (.int .i64 0) := r2
          have d3 : WW.drew.cell? ⟨w.heap.size + 1, 1, none⟩ = some (.slice none 0 0) := r3
          have e0 : WW.drew.frozen? ⟨w.heap.size, 0, none⟩ = false := t0
          have e1 : WW.drew.frozen? ⟨w.heap.size, 1, none⟩ = false := t1
          have e2 : WW.drew.frozen? ⟨w.heap.size + 1, 0, none⟩ = false := t2
          have e3 : WW.drew.frozen? ⟨w.heap.size + 1, 1, none⟩ = false := t3
          have HD1 := Lib.hid (matchDone (a := a) (f := f) (ys := ys) (va := .slice A a.2.length c) (vf := .slice A3 f.2.length c3) (vb := .slice A5 ys.length c5) RAW RBW (by omega) BWW (Nat.le_refl _) (Nat.le_succ _) (by omega) (by omega) OAW OFW OBW (Nat.le_refl _) rfl)
          clear BAW BFW RAW RBW OAW OFW OBW BWW
          go_upto_region 17 with fail
          go_region_law (fail)
          all_goals
            obtain ⟨W, hW⟩ : ∃ W, W = (((WW.setCell ⟨w.heap.size, 0, none⟩ (.int .i64 a.1)).setCell ⟨w.heap.size, 1, none⟩ (.slice A a.2.length c)).setCell ⟨w.heap.size + 1, 0, none⟩ (.int .i64 f.1)).setCell ⟨w.heap.size + 1, 1, none⟩ (.slice A3 f.2.length c3) := ⟨_, rfl⟩
            rw [← hW] at HD1 ⊢
            obtain ⟨c0, c1, c4, c5', i1, i2, i3, bb⟩ := HD1.out
            have HE := Lib.hid (And.intro i1 (And.intro i2 (And.intro i3 bb)))
            clear HD1 hW i1 i2 i3 bb dA dA1 dF dF1 d0 d1 d2 d3 e0 e1 e2 e3 hwA hwA1 hwF hwF1 r0 r1 r2 r3 t0 t1 t2 t3
            go_wp2_with fail
            refine bodyPost_ret (v := .tuple #[.agg #[.int .i64 a.1, .slice A a.2.length c], .agg #[.int .i64 f.1, .slice A3 f.2.length c3], .slice A5 ys.length c5]) (by simp [results, Try.results12, go_sem, c0, c1, c4, c5']) rfl ?_
            exact ⟨a, f, ys, A, c, A3, c3, A5, c5, rfl, by omega, by omega, by omega, HE.out.1, HE.out.2.1, HE.out.2.2.1, HE.out.2.2.2.drew⟩

        · have hxc : (x9 == 0) = false := by simp [hx9]
          clear hx9
          obtain ⟨WW, rfl⟩ : ∃ WW, WW = w2' := ⟨_, rfl⟩
          have BAW := BAX.out
          have BFW := BFX.out
          have RAW := RAX.out
          have RBW := RBX.out
          have BWW := H1.out.below
          have OAW := OAX.out
          have OFW := OFX.out
          have OBW := OBX.out
          have hwA : WW.cell? ⟨ba, 0, none⟩ = some (.int .i64 a.1) := BAW.cell 0
          have hwA1 : WW.cell? ⟨ba, 1, none⟩ = some (.slice A a.2.length c) := BAW.cell 1
          have hwF : WW.cell? ⟨bf, 0, none⟩ = some (.int .i64 f.1) := BFW.cell 0
          have hwF1 : WW.cell? ⟨bf, 1, none⟩ = some (.slice A3 f.2.length c3) := BFW.cell 1
          have r0 : WW.cell? ⟨w.heap.size, 0, none⟩ = some (.int .i64 0) := RAW.cell 0
          have r1 : WW.cell? ⟨w.heap.size, 1, none⟩ = some (.slice none 0 0) := RAW.cell 1
          have r2 : WW.cell? ⟨w.heap.size + 1, 0, none⟩ = some (.int .i64 0) := RBW.cell 0
          have r3 : WW.cell? ⟨w.heap.size + 1, 1, none⟩ = some (.slice none 0 0) := RBW.cell 1
          have t0 : WW.frozen? ⟨w.heap.size, 0, none⟩ = false := RAW.frozen 0
          have t1 : WW.frozen? ⟨w.heap.size, 1, none⟩ = false := RAW.frozen 1
          have t2 : WW.frozen? ⟨w.heap.size + 1, 0, none⟩ = false := RBW.frozen 0
          have t3 : WW.frozen? ⟨w.heap.size + 1, 1, none⟩ = false := RBW.frozen 1
          have dA : WW.drew.cell? ⟨ba, 0, none⟩ = some (.int .i64 a.1) := hwA
          have dA1 : WW.drew.cell? ⟨ba, 1, none⟩ = some (.slice A a.2.length c) := hwA1
          have dF : WW.drew.cell? ⟨bf, 0, none⟩ = some (.int .i64 f.1) := hwF
          have dF1 : WW.drew.cell? ⟨bf, 1, none⟩ = some (.slice A3 f.2.length c3) := hwF1
          have d0 : WW.drew.cell? ⟨w.heap.size, 0, none⟩ = some (.int .i64 0) := r0
          have d1 : WW.drew.cell? ⟨w.heap.size, 1, none⟩ = some (.slice none 0 0) := r1
          have d2 : WW.drew.cell? ⟨w.heap.size + 1, 0, none⟩ = some (.int .i64 0) := r2
          have d3 : WW.drew.cell? ⟨w.heap.size + 1, 1, none⟩ = some (.slice none 0 0) := r3
          have e0 : WW.drew.frozen? ⟨w.heap.size, 0, none⟩ = false := t0
          have e1 : WW.drew.frozen? ⟨w.heap.size, 1, none⟩ = false := t1
          have e2 : WW.drew.frozen? ⟨w.heap.size + 1, 0, none⟩ = false := t2
          have e3 : WW.drew.frozen? ⟨w.heap.size + 1, 1, none⟩ = false := t3
          have HD1 := Lib.hid (matchDone (a := a) (f := f) (ys := ys) (va := .slice A a.2.length c) (vf := .slice A3 f.2.length c3) (vb := .slice A5 ys.length c5) RAW RBW (by omega) BWW (Nat.le_refl _) (Nat.le_succ _) (by omega) (by omega) OAW OFW OBW (Nat.le_refl _) rfl)
          clear BAW BFW RAW RBW OAW OFW OBW BWW
          go_upto_region 17 with fail
          go_region_law (fail)
          all_goals
            obtain ⟨W, hW⟩ : ∃ W, W = (((WW.setCell ⟨w.heap.size, 0, none⟩ (.int .i64 a.1)).setCell ⟨w.heap.size, 1, none⟩ (.slice A a.2.length c)).setCell ⟨w.heap.size + 1, 0, none⟩ (.int .i64 f.1)).setCell ⟨w.heap.size + 1, 1, none⟩ (.slice A3 f.2.length c3) := ⟨_, rfl⟩
            rw [← hW] at HD1 ⊢
            obtain ⟨c0, c1, c4, c5', i1, i2, i3, bb⟩ := HD1.out
            have HE := Lib.hid (And.intro i1 (And.intro i2 (And.intro i3 bb)))
            clear HD1 hW i1 i2 i3 bb dA dA1 dF dF1 d0 d1 d2 d3 e0 e1 e2 e3 hwA hwA1 hwF hwF1 r0 r1 r2 r3 t0 t1 t2 t3
            go_wp2_with fail
            refine bodyPost_ret (v := .tuple #[.agg #[.int .i64 a.1, .slice A a.2.length c], .agg #[.int .i64 f.1, .slice A3 f.2.length c3], .slice A5 ys.length c5]) (by simp [results, Try.results12, go_sem, c0, c1, c4, c5']) rfl ?_
            exact ⟨a, f, ys, A, c, A3, c3, A5, c5, rfl, by omega, by omega, by omega, HE.out.1, HE.out.2.1, HE.out.2.2.1, HE.out.2.2.2.drew⟩

  · have hxb : decide (0 < x7) = false := by simpa using hx7
    obtain ⟨WW, rfl⟩ : ∃ WW, WW = w7 := ⟨_, rfl⟩
    have BAW := HBA7.out
    have BFW := HBF7.out
    have RAW := HRA7.out
    have RBW := HRB7.out
    have BWW := HBW7.out
    have OAW := HA7.out.mono (Nat.le_refl (g + 1)) (show bf ≤ WW.heap.size by omega)
    have OFW := HF7.out.mono (Nat.le_refl (g + 1)) (show bf ≤ WW.heap.size by omega)
    have OBW := HY7.out.mono (Nat.le_refl (g + 1)) (show w6.heap.size ≤ WW.heap.size by omega)
    clear hx7 hae
    have hwA : WW.cell? ⟨ba, 0, none⟩ = some (.int .i64 a.1) := BAW.cell 0
    have hwA1 : WW.cell? ⟨ba, 1, none⟩ = some (.slice A a.2.length c) := BAW.cell 1
    have hwF : WW.cell? ⟨bf, 0, none⟩ = some (.int .i64 f.1) := BFW.cell 0
    have hwF1 : WW.cell? ⟨bf, 1, none⟩ = some (.slice A3 f.2.length c3) := BFW.cell 1
    have r0 : WW.cell? ⟨w.heap.size, 0, none⟩ = some (.int .i64 0) := RAW.cell 0
    have r1 : WW.cell? ⟨w.heap.size, 1, none⟩ = some (.slice none 0 0) := RAW.cell 1
    have r2 : WW.cell? ⟨w.heap.size + 1, 0, none⟩ = some (.int .i64 0) := RBW.cell 0
    have r3 : WW.cell? ⟨w.heap.size + 1, 1, none⟩ = some (.slice none 0 0) := RBW.cell 1
    have t0 : WW.frozen? ⟨w.heap.size, 0, none⟩ = false := RAW.frozen 0
    have t1 : WW.frozen? ⟨w.heap.size, 1, none⟩ = false := RAW.frozen 1
    have t2 : WW.frozen? ⟨w.heap.size + 1, 0, none⟩ = false := RBW.frozen 0
    have t3 : WW.frozen? ⟨w.heap.size + 1, 1, none⟩ = false := RBW.frozen 1
    have dA : WW.drew.cell? ⟨ba, 0, none⟩ = some (.int .i64 a.1) := hwA
    have dA1 : WW.drew.cell? ⟨ba, 1, none⟩ = some (.slice A a.2.length c) := hwA1
    have dF : WW.drew.cell? ⟨bf, 0, none⟩ = some (.int .i64 f.1) := hwF
    have dF1 : WW.drew.cell? ⟨bf, 1, none⟩ = some (.slice A3 f.2.length c3) := hwF1
    have d0 : WW.drew.cell? ⟨w.heap.size, 0, none⟩ = some (.int .i64 0) := r0
    have d1 : WW.drew.cell? ⟨w.heap.size, 1, none⟩ = some (.slice none 0 0) := r1
    have d2 : WW.drew.cell? ⟨w.heap.size + 1, 0, none⟩ = some (.int .i64 0) := r2
    have d3 : WW.drew.cell? ⟨w.heap.size + 1, 1, none⟩ = some (.slice none 0 0) := r3
    have e0 : WW.drew.frozen? ⟨w.heap.size, 0, none⟩ = false := t0
    have e1 : WW.drew.frozen? ⟨w.heap.size, 1, none⟩ = false := t1
    have e2 : WW.drew.frozen? ⟨w.heap.size + 1, 0, none⟩ = false := t2
    have e3 : WW.drew.frozen? ⟨w.heap.size + 1, 1, none⟩ = false := t3
    have HD1 := Lib.hid (matchDone (a := a) (f := f) (ys := ys) (va := .slice A a.2.length c) (vf := .slice A3 f.2.length c3) (vb := .slice A5 ys.length c5) RAW RBW (by omega) BWW (Nat.le_refl _) (Nat.le_succ _) (by omega) (by omega) OAW OFW OBW (Nat.le_refl _) rfl)
    clear BAW BFW RAW RBW OAW OFW OBW BWW
    go_upto_region 17 with fail
    go_region_law (fail)
    all_goals
      obtain ⟨W, hW⟩ : ∃ W, W = (((WW.setCell ⟨w.heap.size, 0, none⟩ (.int .i64 a.1)).setCell ⟨w.heap.size, 1, none⟩ (.slice A a.2.length c)).setCell ⟨w.heap.size + 1, 0, none⟩ (.int .i64 f.1)).setCell ⟨w.heap.size + 1, 1, none⟩ (.slice A3 f.2.length c3) := ⟨_, rfl⟩
      rw [← hW] at HD1 ⊢
      obtain ⟨c0, c1, c4, c5', i1, i2, i3, bb⟩ := HD1.out
      have HE := Lib.hid (And.intro i1 (And.intro i2 (And.intro i3 bb)))
      clear HD1 hW i1 i2 i3 bb dA dA1 dF dF1 d0 d1 d2 d3 e0 e1 e2 e3 hwA hwA1 hwF hwF1 r0 r1 r2 r3 t0 t1 t2 t3
      go_wp2_with fail
      refine bodyPost_ret (v := .tuple #[.agg #[.int .i64 a.1, .slice A a.2.length c], .agg #[.int .i64 f.1, .slice A3 f.2.length c3], .slice A5 ys.length c5]) (by simp [results, Try.results12, go_sem, c0, c1, c4, c5']) rfl ?_
      exact ⟨a, f, ys, A, c, A3, c3, A5, c5, rfl, by omega, by omega, by omega, HE.out.1, HE.out.2.1, HE.out.2.2.1, HE.out.2.2.2.drew⟩

end Go.Proofs.Ytlehcghdhfeahaa
/-
  The walk of DrawBound.
-/
namespace Go.Proofs.Ytlehcghdhfeahaa
open Go.RowKit

theorem news_set {w : World} {b g : Nat} {cs : Array Value} (h : Blk w b 3 cs) (hb : b ≠ g) {v : Value} : Blk (w.setCell ⟨g, 1, none⟩ v) b 3 cs := h.far hb v

set_option maxHeartbeats 2000000 in
set_option maxRecDepth 100000 in
theorem drawBound_any (v : Value) (code : List Nat) (w : World) (h : RdBytes w w.heap.size v code) (hby : ∀ b ∈ code, b < 256) (hn : code.length ≤ 1073741824) :
    Calls Try.prog 15 #[v] w fun e w' => ∃ (A : Option Addr) (c : Nat) (xs : List Int) (A2 : Option Addr) (c2 : Nat) (ys : List Int), e = .returned (.tuple #[.slice A xs.length c, .slice A2 ys.length c2]) ∧ xs.length ≤ 8 ∧ ys.length ≤ 4 ∧
      RdInts w' w'.heap.size (.slice A xs.length c) xs ∧ RdInts w' w'.heap.size (.slice A2 ys.length c2) ys ∧ Below w.heap.size w w' := by
  obtain ⟨i0, hi0, hz0, hz1, hz2⟩ := info_parts Try.infoInt
  have HV := Lib.hid h
  clear h
  go_enter Try.func15, Try.ntmps15
  go_wp2_with (fail)
  refine (l40Open_any v code w HV.out hby hn).mono ?_
  rintro e w1 ⟨rfl, hr1, hb1⟩
  obtain ⟨g, hg⟩ : ∃ g, g = w.heap.size := ⟨_, rfl⟩
  rw [← hg] at hr1 ⊢
  have hgl : g < w1.heap.size := hr1.lt
  have HB1 := Lib.hid hb1
  have HG := Lib.hid hg
  have HR1 := Lib.hid hr1
  obtain ⟨bs, hbs⟩ : ∃ bs, bs = code.take 2000 := ⟨_, rfl⟩
  rw [← hbs] at HR1
  clear hb1 hr1 hg hbs
  go_wp2_with (fail)
  have H2 := Lib.hid (DrI.empty HR1.out)
  refine (pick_any g bs 0 4 _ H2.out.rdr (by omega) (by omega)).mono ?_
  rintro e w2 ⟨⟨x, rfl, hx⟩, hp2⟩
  have hxr : 0 ≤ x ∧ x < 4 := hx.1 (by omega)
  obtain ⟨i, rfl⟩ : ∃ i : Nat, x = (i : Int) := ⟨x.toNat, by omega⟩
  have hi3 : i ≤ 3 := by omega
  have H3 := Lib.hid (H2.out.pick hgl hp2)
  obtain ⟨b0, hb0⟩ : ∃ b0, b0 = w1.heap.size := ⟨_, rfl⟩
  clear hp2 hx hxr
  go_wp2_with (fail)
  go_loopw [5, 6] (fun o i wr => ∃ (k : Nat) (A : Option Addr) (c : Nat) (xs : List Int) (q : Nat), k ≤ 3 ∧ i = .int .i64 k ∧ xs.length + k ≤ 3 ∧ q ≤ 4 ∧ q + k ≤ 4 ∧ o = .slice A xs.length c ∧ DrI w1 wr g bs q A c xs) (fun _ i _ => (intOf i).toNat)
  case atStart => exact ⟨i, _, 0, [], 1, hi3, rfl, by simp; omega, by omega, by omega, by rw [← hb0]; rfl, by rw [← hb0] at H3; exact H3.out⟩
  case round =>
    obtain ⟨k, A, c, xs, q, hk, rfl, hxl, hq, hqk, rfl, hr⟩ := hrel
    have HP := Lib.hid hr
    have hxl3 : xs.length ≤ 3 := by omega
    have hws := hr.only.size
    clear hr
    by_cases hlt : 0 < k
    · go_wp2_with (fail)
      have H4 := Lib.hid (HP.out.on (below1 wr (.cells #[.int .i64 0, .int .i64 3, .int .i64 (-1), .int .i64 (-2), .int .i64 (-4), .int .i64 5] 3)))
      refine (num_any g bs q _ _ [0, 3, -1, -2, -4, 5] 6 _ H4.out.rdr (by omega) (Blk.new _ _ _) rfl (by omega) rfl (by simp) (by simp)).mono ?_
      rintro e w4 ⟨⟨x3, rfl, _⟩, hp4⟩
      have H5 := Lib.hid (H4.out.pick hgl hp4)
      have hs5 := H5.out.only.size
      clear hp4
      go_wp2_with (at_builtin; refine wpList_append_lies _ rfl (.tmp 16) (.tmp 20) 23 rfl w1.heap.size 3 i0 (.int .i64 0) 1 8 Try.underlying23 hi0 hz0 hz1 hz2 rfl (by decide) (.slice A xs.length c) xs.length (xs.map (Value.int .i64)) rfl ?c1 ⟨w4.heap.size, 0, none⟩ 1 1 [.int .i64 x3] rfl rfl (cell_one_new _ _ _) ?c2 (by omega) (by unfold maxLen; omega) (by omega) ?c3 _ rfl ?_)
      case c1 => exact H5.out.own.1.alloc _
      case c2 => intro u hu; simp at hu; subst hu; rfl
      case c3 => simp; omega
      intro g2 cap w5 hown hgr _ _
      have HC := Lib.hid (H5.out.push hgl hgr hown)
      obtain ⟨ys, hys⟩ : ∃ ys, ys = xs ++ [x3] := ⟨_, rfl⟩
      have hle : xs.length + 1 = ys.length := by rw [hys]; simp
      have hyl : ys.length + (k - 1) ≤ 3 := by omega
      rw [hle]
      rw [← hys] at HC
      have HLE := Lib.hid hyl
      clear hown hgr hys hle hyl
      obtain ⟨k', rfl⟩ : ∃ k', k = k' + 1 := ⟨k - 1, by omega⟩
      go_wp2_with (fail)
      go_roundw
      case rel => exact ⟨k', _, _, ys, q + 1, by omega, by go_num, by have := HLE.out; omega, by omega, by omega, rfl, HC.out⟩
      case measure => simp [intOf]
    · have hk0 : k = 0 := by omega
      subst hk0
      go_wp2_with (fail)
      refine (pick_any g bs q 20 _ HP.out.rdr (by omega) (by omega)).mono ?_
      rintro e w3 ⟨⟨y, rfl, _⟩, hp3⟩
      have H4 := Lib.hid (HP.out.pick hgl hp3)
      clear hp3
      by_cases hy : y = 0
      · have hyb : (y == 0) = true := by simp [hy]
        clear hy
        go_wp2_with (fail)
        have H5 := Lib.hid (H4.out.on (below1 w3 (.cells #[.int .i64 (-5), .int .i64 6] 3)))
        refine (num_any g bs (q + 1) _ _ [-5, 6] 2 _ H5.out.rdr (by omega) (Blk.new _ _ _) rfl (by have := H4.out.only.size; omega) rfl (by simp) (by simp)).mono ?_
        rintro e w4 ⟨⟨x3, rfl, _⟩, hp4⟩
        have H6 := Lib.hid (H5.out.pick hgl hp4)
        have hs6 := H6.out.only.size
        clear hp4
        go_wp2_with (at_builtin; refine wpList_append_lies _ rfl (.tmp 25) (.tmp 29) 23 rfl w1.heap.size 3 i0 (.int .i64 0) 1 8 Try.underlying23 hi0 hz0 hz1 hz2 rfl (by decide) (.slice A xs.length c) xs.length (xs.map (Value.int .i64)) rfl ?d1 ⟨w4.heap.size, 0, none⟩ 1 1 [.int .i64 x3] rfl rfl (cell_one_new _ _ _) ?d2 (by omega) (by unfold maxLen; omega) (by omega) ?d3 _ rfl ?_)
        case d1 => exact H6.out.own.1.alloc _
        case d2 => intro u hu; simp at hu; subst hu; rfl
        case d3 => simp; omega
        intro g2 cap w5 hown hgr _ _
        have HC := Lib.hid (H6.out.push hgl hgr hown)
        obtain ⟨ys, hys⟩ : ∃ ys, ys = xs ++ [x3] := ⟨_, rfl⟩
        have hle : xs.length + 1 = ys.length := by rw [hys]; simp
        have hyl : ys.length ≤ 8 := by omega
        rw [hle]
        rw [← hys] at HC
        clear hown hgr hys hle
        go_wp2_with (fail)
        refine (l3Draw_any g bs (q + 1 + 1) w5 HC.out.rdr (by omega)).mono ?_
        rintro e w6 ⟨A6, c6, zs, q6, rfl, hz4, hq6, h6⟩
        have H7 := Lib.hid (And.intro (HC.out.own.only h6.only (.inr (by omega))) h6)
        have hs7 := h6.only.size
        clear h6
        go_wp2_with (fail)
        refine bodyPost_ret (v := .tuple #[.slice (some ⟨g2, 0, none⟩) ys.length cap, .slice A6 zs.length c6]) (by simp [results, Try.results15, go_sem]) rfl ?_
        exact ⟨_, _, ys, _, _, zs, rfl, hyl, hz4, H7.out.1.rd.more hs7, H7.out.2.own.rd, by
          have h1 := HC.out.only.trans H7.out.2.only
          rw [HG.out] at h1
          exact Only.then_ HB1.out h1 (Nat.le_refl _)⟩
      · have hyb : (y == 0) = false := by simp [hy]
        clear hy
        go_wp2_with (fail)
        refine (l3Draw_any g bs (q + 1) w3 H4.out.rdr (by omega)).mono ?_
        rintro e w6 ⟨A6, c6, zs, q6, rfl, hz4, hq6, h6⟩
        have H7 := Lib.hid (And.intro (H4.out.own.only h6.only (.inr (by omega))) h6)
        have hs7 := h6.only.size
        clear h6
        go_wp2_with (fail)
        refine bodyPost_ret (v := .tuple #[.slice A xs.length c, .slice A6 zs.length c6]) (by simp [results, Try.results15, go_sem]) rfl ?_
        exact ⟨_, _, xs, _, _, zs, rfl, by omega, hz4, H7.out.1.rd.more hs7, H7.out.2.own.rd, by
          have h1 := H4.out.only.trans H7.out.2.only
          rw [HG.out] at h1
          exact Only.then_ HB1.out h1 (Nat.le_refl _)⟩

end Go.Proofs.Ytlehcghdhfeahaa
/-
  The walk of the plain laws' wrInts.
-/
namespace Go.Proofs.Ytlehcghdhfeahaa
open Go.RowKit

theorem RdInts.at_ {w : World} {B c : Nat} {A : Option Addr} {xs : List Int} (h : RdInts w B (.slice A xs.length c) xs) {k : Nat} (hk : k < xs.length) : ∃ b o, A = some ⟨b, o, none⟩ ∧ b < B ∧ w.cell? ⟨b, o + k, none⟩ = some (.int .i64 xs[k]) := by
  obtain ⟨A', c', e, _, hx⟩ := h
  injection e with e1 _ _
  subst e1
  obtain ⟨b, o, rfl, hb, hx⟩ := hx (by omega)
  exact ⟨b, o, rfl, hb, hx k hk⟩

set_option maxHeartbeats 1000000 in
set_option maxRecDepth 100000 in
theorem wrInts_any (va vb : Value) (xs ys : List Int) (w : World) (ha : RdInts w w.heap.size va xs) (hb : RdInts w w.heap.size vb ys) (hx : xs.length ≤ 1048576) (hy : ys.length ≤ 1048576) :
    Calls Try.prog 16 #[va, vb] w fun e w' => e = .returned (.bool (decide (xs = ys))) ∧ Below w.heap.size w w' := by
  have HX := Lib.hid ha
  have HY := Lib.hid hb
  obtain ⟨A, c, rfl, hc, _⟩ := ha
  obtain ⟨A2, c2, rfl, hc2, _⟩ := hb
  by_cases hl : xs.length = ys.length
  · have hl1 : ((xs.length : Int) != (ys.length : Int)) = false := by simp [hl]
    have HL := Lib.hid hl
    clear hl
    go_enter Try.func16, Try.ntmps16
    go_wp2_with (fail)
    go_loopw [13] (fun i wr => ∃ k : Nat, k ≤ xs.length ∧ i = .int .i64 k ∧ (∀ j, j < k → xs[j]? = ys[j]?) ∧ Below w.heap.size w wr) (fun i _ => xs.length - (intOf i).toNat)
    case atStart => exact ⟨0, Nat.zero_le _, rfl, fun j h => absurd h (Nat.not_lt_zero _), Below.refl _ _⟩
    case round =>
      obtain ⟨k, hk, rfl, hs, hbe⟩ := hrel
      by_cases hlt : k < xs.length
      · have hlt2 : k < ys.length := by have := HL.out; omega
        obtain ⟨b, o, rfl, hbB, k0⟩ := (HX.out.on hbe).at_ hlt
        obtain ⟨b2, o2, rfl, hbB2, m0⟩ := (HY.out.on hbe).at_ hlt2
        have d0 : wr.drew.cell? ⟨b, o + k, none⟩ = some (.int .i64 xs[k]) := k0
        have d1 : wr.drew.cell? ⟨b2, o2 + k, none⟩ = some (.int .i64 ys[k]) := m0
        have HBE := Lib.hid hbe
        by_cases he : xs[k] = ys[k]
        · have hdb : (xs[k] != ys[k]) = false := by simp [he]
          have HS2 := Lib.hid (show ∀ j, j < k + 1 → xs[j]? = ys[j]? from fun j hj => by
            by_cases e : j = k
            · subst e; rw [List.getElem?_eq_getElem hlt, List.getElem?_eq_getElem hlt2, he]
            · exact hs j (by omega))
          clear he hs hbe
          go_upto_region 6 with fail
          go_big_region
          go_wp2_with (fail)
          go_roundw
          case rel => exact ⟨k + 1, by omega, by go_num, HS2.out, HBE.out.drew⟩
          case measure => simp [intOf]; omega
        · have hdb : (xs[k] != ys[k]) = true := by simpa using he
          have HE := Lib.hid (show decide (xs = ys) = false from decide_eq_false fun e => he (by subst e; rfl))
          clear he hs hbe
          go_upto_region 6 with fail
          go_big_region
          go_wp2_with (fail)
          go_ret
          exact ⟨ret_bool HE.out.symm, HBE.out.drew⟩
      · have HE := Lib.hid (show decide (xs = ys) = true from decide_eq_true (List.ext_getElem? fun j => by
          by_cases e : j < k
          · exact hs j e
          · have := HL.out
            rw [List.getElem?_eq_none (by omega), List.getElem?_eq_none (by omega)]))
        clear hs
        go_wp2_with (fail)
        go_ret
        exact ⟨ret_bool HE.out.symm, hbe⟩
  · have hl1 : ((xs.length : Int) != (ys.length : Int)) = true := by simp; omega
    have HE := Lib.hid (show decide (xs = ys) = false from decide_eq_false fun e => hl (by rw [e]))
    clear hl
    go_enter Try.func16, Try.ntmps16
    go_wp2_with (fail)
    go_ret
    exact ⟨ret_bool HE.out.symm, Below.refl _ _⟩

end Go.Proofs.Ytlehcghdhfeahaa
/-
  l3Consts.
-/
namespace Go.Proofs.Ytlehcghdhfeahaa
open Go.RowKit

def constsL (fs : List LFact) : Bool := fs.all fun f => f.2.all constOk
/-- 'the first k facts have constants alone'. -/
def ConstsFs (fs : List LFact) (k : Nat) : Prop := ∀ j (h : j < fs.length), j < k → fs[j].2.all constOk = true
theorem ConstsFs.all {fs : List LFact} (h : ConstsFs fs fs.length) : constsL fs = true := by
  unfold constsL
  rw [List.all_eq_true]
  intro f hf
  obtain ⟨j, hj, rfl⟩ := List.getElem_of_mem hf
  exact h j hj hj
theorem ConstsFs.step {fs : List LFact} {k : Nat} (h : ConstsFs fs k) (hk : k < fs.length) (e : fs[k].2.all constOk = true) : ConstsFs fs (k + 1) := fun j hj hlt => by
  by_cases h2 : j = k
  · subst h2; exact e
  · exact h j hj (by omega)
theorem constsL_not {fs : List LFact} {k j : Nat} (hk : k < fs.length) (hj : j < fs[k].2.length) (e : constOk fs[k].2[j] = false) : constsL fs = false := by
  unfold constsL
  rw [List.all_eq_false]
  exact ⟨fs[k], List.getElem_mem hk, by rw [consts_not hj e]; simp⟩

set_option maxHeartbeats 1000000 in
set_option maxRecDepth 100000 in
theorem l3Consts_any (v : Value) (fs : List LFact) (B : Nat) (w : World) (h : RdFacts w B v fs) (hn : fs.length ≤ 1048576) (ht : tot fs ≤ 1048576) :
    Calls Try.prog 48 #[v] w fun e w' => e = .returned (.bool (constsL fs)) ∧ w = w' := by
  have H := Lib.hid h
  obtain ⟨A, c, rfl, hc, _⟩ := h
  go_enter Try.func48, Try.ntmps48
  go_wp2_with (fail)
  go_loop [3, 4] (fun i _ => ∃ k : Nat, k ≤ fs.length ∧ i = .int .i64 k ∧ ConstsFs fs k) (fun i _ => fs.length - (intOf i).toNat)
  case atStart => exact ⟨0, Nat.zero_le _, rfl, fun j _ hj => absurd hj (by omega)⟩
  case round =>
    obtain ⟨k, hk, rfl, hs⟩ := hrel
    by_cases hlt : k < fs.length
    · obtain ⟨b, o, A3, c3, rfl, hbB, k1, k2, k3⟩ := H.out.get hlt
      have hln := len_le_tot fs k hlt
      obtain ⟨_, _, e3, _, hx⟩ := k3
      injection e3 with e3 _ e4
      subst e3 e4
      have HS := Lib.hid hs
      clear hs
      go_wp2_with (fail)
      go_loop [4] (fun i => ∃ j : Nat, j ≤ fs[k].2.length ∧ i = .int .i64 j ∧ ConstsTo fs[k].2 j) (fun i => fs[k].2.length - (intOf i).toNat)
      case atStart => exact ⟨0, Nat.zero_le _, rfl, fun j hj => absurd hj (by omega)⟩
      case round =>
        obtain ⟨j, hj, rfl, hs⟩ := hrel
        by_cases hltj : j < fs[k].2.length
        · obtain ⟨b4, o4, rfl, _, hx⟩ := hx (by omega)
          have hck : w.cell? ⟨b4, o4 + j, none⟩ = some (.int .i64 fs[k].2[j]) := hx j hltj
          clear hx
          by_cases he : 0 ≤ fs[k].2[j] ∧ fs[k].2[j] ≤ 5
          · have HT := Lib.hid (hs.step (by simpa [hltj, constOk] using he))
            have HK := Lib.hid (l1In_yes he)
            clear hs he
            go_wp2_with (go_at_call 36; refine (HK.out _).mono ?_; rintro e w' ⟨rfl, rfl⟩)
            go_round
            case rel => exact ⟨j + 1, by omega, by go_num, HT.out⟩
            case measure => simp [intOf]; omega
          · have HE := Lib.hid (constsL_not hlt hltj (by simpa [constOk] using he))
            have HK := Lib.hid (l1In_no he)
            clear hs he
            go_wp2_with (go_at_call 36; refine (HK.out _).mono ?_; rintro e w' ⟨rfl, rfl⟩)
            go_ret
            exact ⟨ret_bool HE.out.symm, rfl⟩
        · have hjn : j = fs[k].2.length := by omega
          have HE := Lib.hid (HS.out.step hlt (ConstsTo.all (by rw [← hjn]; exact hs)))
          clear hs hjn hx
          go_wp2_with (fail)
          go_round
          case rel => exact ⟨k + 1, by omega, by go_num, HE.out⟩
          case measure => simp [intOf]; omega
    · have hkn : k = fs.length := by omega
      have HE := Lib.hid (show constsL fs = true from ConstsFs.all (by rw [← hkn]; exact hs))
      clear hkn hs
      go_wp2_with (fail)
      go_ret
      exact ⟨ret_bool HE.out.symm, rfl⟩

theorem l3Consts_is {fs : List LFact} {b : Bool} (e : constsL fs = b) (v : Value) (B : Nat) (w : World) (h : RdFacts w B v fs) (hn : fs.length ≤ 1048576) (ht : tot fs ≤ 1048576) :
    Calls Try.prog 48 #[v] w fun e w' => e = .returned (.bool b) ∧ w = w' := e ▸ l3Consts_any v fs B w h hn ht

end Go.Proofs.Ytlehcghdhfeahaa
/-
  The walk of matched.
-/
namespace Go.Proofs.Ytlehcghdhfeahaa
open Go.RowKit

/-- What matched hands back: the word, and whether there is one. -/
def encO (o : Option (List Int)) : Nat := match o with | some b => encB b | none => 0

set_option maxHeartbeats 1000000 in
set_option maxRecDepth 100000 in
theorem matched_n (v v2 : Value) (a f : LFact) (bs : List Int) (z0 : Nat) (ok : Bool) (hz0 : z0 = encO (matchL a f bs)) (hok : ok = (matchL a f bs).isSome) (w : World) (hb : bindOk bs = true) (h : RdFact w w.heap.size v a) (h2 : RdFact w w.heap.size v2 f)
    (ht : a.2.all termOk = true) (hf : f.2.all constOk = true) (hr : a.2.length ≤ 1048576) (hr2 : f.2.length ≤ 1048576) :
    Calls Try.prog 45 #[.int .u32 (encB bs : Nat), v, v2] w fun e w' => e = .returned (.tuple #[.int .u32 (z0 : Nat), .bool ok]) ∧ Below w.heap.size w w' := by
  obtain ⟨pa, xs⟩ := a
  obtain ⟨pf, ys⟩ := f
  simp only at ht hf hr hr2
  have HO := Lib.hid (And.intro hz0 hok)
  clear hz0 hok
  obtain ⟨u, rfl, A, c, rfl, hc, hA⟩ := h
  obtain ⟨u, rfl, A2, c2, rfl, hc2, hA2⟩ := h2
  by_cases hp : pa = pf
  · have hpb : (pa != pf) = false := by simp [hp]
    by_cases hl : xs.length = ys.length
    · have hl1 : ((xs.length : Int) != (ys.length : Int)) = false := by simp [hl]
      have HL := Lib.hid hl
      have HP := Lib.hid hp
      have HM := Lib.hid (encB_lt hb)
      have HB := Lib.hid hb
      obtain ⟨m, hm⟩ : ∃ m, m = encB bs := ⟨_, rfl⟩
      rw [← hm]
      have HE := Lib.hid hm
      clear hl hp hm hb
      go_enter Try.func45, Try.ntmps45
      go_wp2_with (fail)
      go_loopw [0, 8, 9, 27] (fun m _ _ i wr => ∃ (k z : Nat) (cur : List Int), k ≤ xs.length ∧ i = .int .i64 k ∧ m = .int .u32 (z : Nat) ∧ z = encB cur ∧ bindOk cur = true ∧ matchTo bs xs ys k = some cur ∧ Below w.heap.size w wr ∧ Blk wr (w.heap.size + 1) 35 #[.int .i64 pf, .slice A2 ys.length c2]) (fun _ _ _ i _ => xs.length - (intOf i).toNat)
      case atStart => exact ⟨0, _, bs, Nat.zero_le _, rfl, rfl, HE.out, HB.out, rfl, below2 _ _ _, by simpa using Blk.new (w.alloc (Obj.cells #[Value.int IntKind.i64 pa, Value.slice A xs.length c] 25)) 35 #[.int .i64 pf, .slice A2 ys.length c2]⟩
      case round =>
        obtain ⟨k, z, cur, hk, rfl, rfl, hz, hcb, hmt, hbe, hblk⟩ := hrel
        by_cases hlt : k < xs.length
        · have hlt2 : k < ys.length := by have := HL.out; omega
          obtain ⟨b, o, rfl, hbB, hx⟩ := hA (by omega)
          obtain ⟨b2, o2, rfl, hbB2, hx2⟩ := hA2 (by omega)
          have hck : wr.cell? ⟨b, o + k, none⟩ = some (.int .i64 xs[k]) := (hbe.cell (p := ⟨b, o + k, none⟩) hbB).trans (hx k hlt)
          have hck2 : wr.cell? ⟨b2, o2 + k, none⟩ = some (.int .i64 ys[k]) := (hbe.cell (p := ⟨b2, o2 + k, none⟩) hbB2).trans (hx2 k hlt2)
          have hc1 : wr.cell? ⟨w.heap.size + 1, 1, none⟩ = some (.slice (some ⟨b2, o2, none⟩) ys.length c2) := hblk.cell 1
          have htk : termOk xs[k] = true := List.all_eq_true.1 ht _ (List.getElem_mem hlt)
          have hfk : 0 ≤ ys[k] ∧ ys[k] ≤ 5 := by simpa [constOk] using List.all_eq_true.1 hf _ (List.getElem_mem hlt2)
          have HV := Lib.hid (hz ▸ value_any cur hcb xs[k] htk)
          have hst := matchTo_step hmt hlt hlt2
          have HBK := Lib.hid hblk
          clear hx hx2 hA hA2 hblk
          by_cases e1 : termVal cur xs[k] = ys[k]
          · have HS := Lib.hid (show matchTo bs xs ys (k + 1) = some cur by rw [hst, stepM_same e1])
            have HZ := Lib.hid (And.intro hz hcb)
            have HT := Lib.hid e1
            clear hst hz hcb hmt e1 htk
            go_wp2_with (go_at_call 61; refine (HV.out _).mono ?_; rw [HT.out]; rintro e w' ⟨rfl, rfl⟩)
            go_roundw
            case rel => exact ⟨k + 1, z, cur, by omega, by go_num, rfl, HZ.out.1, HZ.out.2, HS.out, hbe, HBK.out⟩
            case measure => simp [intOf]; omega
          · have hd1 : (termVal cur xs[k] == ys[k]) = false := by simpa using e1
            by_cases e2 : termVal cur xs[k] = -1
            · obtain ⟨q1, q2, q3⟩ := termVal_free htk e2
              obtain ⟨j, hj4, hj⟩ : ∃ j : Nat, j < 4 ∧ -1 - xs[k] = (j : Int) := ⟨(-1 - xs[k]).toNat, by omega, by omega⟩
              have hjt : (-1 - xs[k]).toNat = j := by omega
              rw [hjt] at q3
              have HS := Lib.hid (show matchTo bs xs ys (k + 1) = some (cur.set j ys[k]) by rw [hst, stepM_new e2 (by omega), hjt])
              have HZ := Lib.hid (show z ||| shlB j ys[k] = encB (cur.set j ys[k]) by rw [hz, encB_set hcb hj4 q3 (by omega)])
              have HCB := Lib.hid (show bindOk (cur.set j ys[k]) = true from bindOk_set hcb (by omega) _)
              have hd1 : ((-1 : Int) == ys[k]) = false := by simp; omega
              have hzl : z < 65536 := by rw [hz]; exact encB_lt hcb
              have HT := Lib.hid e2
              have HN := Lib.hid (fun W => hj ▸ varNumber_any xs[k] q1 q2 W)
              have HW := Lib.hid (fun W => with_any z j ys[k] hzl hj4 (by omega) W)
              clear hst hz hcb hmt e1 e2 htk hj hjt q3
              go_wp2_with (go_at_call 61; refine (HV.out _).mono ?_; rw [HT.out]; rintro e w' ⟨rfl, rfl⟩)
              go_quiet (first | (go_at_call 62; exact quiet_left (HN.out _)) | (go_at_call 59; exact quiet_left (HW.out _)))
              go_wp2_with (fail)
              go_roundw
              case rel => exact ⟨k + 1, _, _, by omega, by go_num, rfl, HZ.out, HCB.out, HS.out, bdrewN hbe _, HBK.out.drewN _⟩
              case measure => simp [intOf]; omega
            · have hd2 : (termVal cur xs[k] == -1) = false := by simpa using e2
              have HN := Lib.hid (show matchL (pa, xs) (pf, ys) bs = none from matchL_stop HP.out HL.out hlt (by rw [hst, stepM_no e1 e2]))
              clear hst hz hcb hmt e1 e2 htk
              go_wp2_with (go_at_call 61; refine (HV.out _).mono ?_; rintro e w' ⟨rfl, rfl⟩)
              go_ret2
              rw [show ok = false by rw [HO.out.2, HN.out]; rfl, show z0 = 0 by rw [HO.out.1, HN.out]; rfl]
              exact ⟨rfl, hbe⟩
        · have hkn : k = xs.length := by omega
          have HN := Lib.hid (show matchL (pa, xs) (pf, ys) bs = some cur by rw [matchL_eq HP.out HL.out, ← hmt, hkn])
          have HZ := Lib.hid hz
          clear hkn hmt hz hA hA2 hblk
          go_wp2_with (fail)
          go_ret2
          rw [show ok = true by rw [HO.out.2, HN.out]; rfl, show z0 = z by rw [HO.out.1, HN.out, HZ.out]; rfl]
          exact ⟨rfl, hbe⟩
    · have hl1 : ((xs.length : Int) != (ys.length : Int)) = true := by simp; omega
      have HN := Lib.hid (show matchL (pa, xs) (pf, ys) bs = none from matchL_len hl)
      clear hA hA2 hl
      go_enter Try.func45, Try.ntmps45
      go_wp2_with (fail)
      go_ret2
      rw [show ok = false by rw [HO.out.2, HN.out]; rfl, show z0 = 0 by rw [HO.out.1, HN.out]; rfl]
      exact ⟨rfl, below2 _ _ _⟩
  · have hpb : (pa != pf) = true := by simp [hp]
    have HN := Lib.hid (show matchL (pa, xs) (pf, ys) bs = none from matchL_pred hp)
    clear hA hA2 hp
    go_enter Try.func45, Try.ntmps45
    go_wp2_with (fail)
    go_ret2
    rw [show ok = false by rw [HO.out.2, HN.out]; rfl, show z0 = 0 by rw [HO.out.1, HN.out]; rfl]
    exact ⟨rfl, below2 _ _ _⟩

end Go.Proofs.Ytlehcghdhfeahaa
/-
  What a match leaves is a list of what variables have.
-/
namespace Go.Proofs.Ytlehcghdhfeahaa
open Go.RowKit

theorem matchTo_ok {bs xs ys : List Int} (hb : bindOk bs = true) (hy : ys.all constOk = true) : ∀ {k : Nat} {b : List Int}, k ≤ ys.length → matchTo bs xs ys k = some b → bindOk b = true
  | 0, b, _, e => by
    injection e with e
    rwa [← e]
  | k + 1, b, hk, e => by
    have e' : (matchTo bs xs ys k).bind (fun b => stepM b (xs.getD k 0) (ys.getD k 0)) = some b := e
    obtain ⟨c, h1, h2⟩ := Option.bind_eq_some_iff.1 e'
    refine stepM_ok (matchTo_ok hb hy (by omega) h1) ?_ h2
    have hlt : k < ys.length := by omega
    have := List.all_eq_true.1 hy _ (List.getElem_mem hlt)
    simp [constOk] at this
    simp [hlt]
    omega
theorem matchL_ok {a f : LFact} {bs b : List Int} (hb : bindOk bs = true) (hy : f.2.all constOk = true) (e : matchL a f bs = some b) : bindOk b = true := by
  unfold matchL at e
  split at e
  · rename_i h
    exact matchTo_ok hb hy (by omega) e
  · cases e

end Go.Proofs.Ytlehcghdhfeahaa
/-
  Both Match.
-/
namespace Go.Proofs.Ytlehcghdhfeahaa
open Go.RowKit

def matchOk (a f : LFact) (bs : List Int) : Bool := (bindOk bs && a.2.all termOk) && f.2.all constOk
def matchO (a f : LFact) (bs : List Int) : Option (List Int) := if matchOk a f bs then matchL a f bs else none
def matchR (a f : LFact) (bs : List Int) : List Int := (matchO a f bs).getD []
def matchB (a f : LFact) (bs : List Int) : Bool := (matchO a f bs).isSome
theorem matchO_no {a f : LFact} {bs : List Int} (h : matchOk a f bs = false) : matchO a f bs = none := by unfold matchO; rw [h]; rfl
theorem matchO_yes {a f : LFact} {bs : List Int} (h : matchOk a f bs = true) : matchO a f bs = matchL a f bs := by unfold matchO; rw [h]; rfl
theorem matchOk_bind {a f : LFact} {bs : List Int} (h : bindOk bs = false) : matchOk a f bs = false := by unfold matchOk; rw [h]; rfl
theorem matchOk_terms {a f : LFact} {bs : List Int} (h : a.2.all termOk = false) : matchOk a f bs = false := by unfold matchOk; rw [h, Bool.and_false]; rfl
theorem matchOk_consts {a f : LFact} {bs : List Int} (h : f.2.all constOk = false) : matchOk a f bs = false := by unfold matchOk; rw [h, Bool.and_false]
theorem matchOk_yes {a f : LFact} {bs : List Int} (h1 : bindOk bs = true) (h2 : a.2.all termOk = true) (h3 : f.2.all constOk = true) : matchOk a f bs = true := by unfold matchOk; rw [h1, h2, h3]; rfl
theorem matchR_length (a f : LFact) (bs : List Int) : (matchR a f bs).length ≤ 4 := by
  unfold matchR
  cases h : matchO a f bs with
  | none => simp
  | some b =>
    unfold matchO at h
    split at h
    · rename_i hok
      unfold matchOk at hok
      simp only [Bool.and_eq_true] at hok
      have := bindOk_len (matchL_ok hok.1.1 hok.2 h)
      simp [this]
    · cases h
theorem constsL_one (f : LFact) : constsL [f] = f.2.all constOk := by simp [constsL]

/-- A slice of one fact that a call lays. -/
theorem rdFacts_one {W : World} {A : Option Addr} {c : Nat} {f : LFact} (h : RdInts W W.heap.size (.slice A f.2.length c) f.2) (T : TypeId) :
    RdFacts (W.alloc (.cells #[.int .i64 f.1, .slice A f.2.length c] T)) (W.alloc (.cells #[.int .i64 f.1, .slice A f.2.length c] T)).heap.size (.slice (some ⟨W.heap.size, 0, none⟩) 1 1) [f] := by
  have hb := Blk.new W T #[.int .i64 f.1, .slice A f.2.length c]
  refine ⟨_, 1, rfl, by simp, fun _ => ⟨W.heap.size, 0, rfl, by simp, fun k hk => ?_⟩⟩
  match k, hk with
  | 0, _ => exact ⟨_, hb.cell 0, hb.cell 1, h.on (below1 _ _)⟩

set_option maxHeartbeats 2000000 in
set_option maxRecDepth 100000 in
theorem specMatch_any (v v2 v3 : Value) (a f : LFact) (bs : List Int) (w : World) (h : RdFact w w.heap.size v a) (h2 : RdFact w w.heap.size v2 f) (h3 : RdInts w w.heap.size v3 bs) (hr : a.2.length ≤ 1048576) (hr2 : f.2.length ≤ 1048576) (hr3 : bs.length ≤ 1048576) :
    Calls Try.prog 14 #[v, v2, v3] w fun e w' => ∃ A' c', e = .returned (.tuple #[.slice A' (matchR a f bs).length c', .bool (matchB a f bs)]) ∧ OwnInts w' w.heap.size w'.heap.size (.slice A' (matchR a f bs).length c') (matchR a f bs) ∧ Below w.heap.size w w' := by
  obtain ⟨pa, xs⟩ := a
  obtain ⟨pf, ys⟩ := f
  obtain ⟨u, rfl, h⟩ := h
  obtain ⟨u2, rfl, h2⟩ := h2
  have H := Lib.hid h
  have H2 := Lib.hid h2
  have H3 := Lib.hid h3
  obtain ⟨A, c, rfl, hc, _⟩ := h
  obtain ⟨A2, c2, rfl, hc2, _⟩ := h2
  obtain ⟨A3, c3, rfl, hc3, _⟩ := h3
  simp only at hc hc2 hr hr2
  obtain ⟨R, hR⟩ : ∃ R, R = matchR (pa, xs) (pf, ys) bs := ⟨_, rfl⟩
  obtain ⟨ok, hok⟩ : ∃ ok, ok = matchB (pa, xs) (pf, ys) bs := ⟨_, rfl⟩
  rw [← hR, ← hok]
  have HO := Lib.hid (And.intro hR hok)
  clear hR hok
  have HNo := Lib.hid (show matchOk (pa, xs) (pf, ys) bs = false → R = [] ∧ ok = false from fun e => ⟨by rw [HO.out.1]; unfold matchR; rw [matchO_no e]; rfl, by rw [HO.out.2]; unfold matchB; rw [matchO_no e]; rfl⟩)
  have x0 := (Blk.new w 25 #[.int .i64 pa, .slice A xs.length c]).alloc (Obj.cells #[.int .i64 pf, .slice A2 ys.length c2] 35)
  have x1 : Blk ((w.alloc (Obj.cells #[.int .i64 pa, .slice A xs.length c] 25)).alloc (Obj.cells #[.int .i64 pf, .slice A2 ys.length c2] 35)) (w.heap.size + 1) 35 #[.int .i64 pf, .slice A2 ys.length c2] := by simpa using Blk.new (w.alloc (Obj.cells #[.int .i64 pa, .slice A xs.length c] 25)) 35 #[.int .i64 pf, .slice A2 ys.length c2]
  obtain ⟨w2, hw2⟩ : ∃ w2, w2 = ((w.alloc (Obj.cells #[Value.int IntKind.i64 pa, Value.slice A xs.length c] 25)).alloc (Obj.cells #[Value.int IntKind.i64 pf, Value.slice A2 ys.length c2] 35)) := ⟨_, rfl⟩
  have B2 : Below w.heap.size w w2 := by rw [hw2]; exact below2 _ _ _
  have HW := Lib.hid hw2
  rw [← hw2] at x0 x1
  clear hw2
  have q00 : w2.cell? ⟨w.heap.size, 0, none⟩ = some (.int .i64 pa) := x0.cell 0
  have q01 : w2.cell? ⟨w.heap.size, 1, none⟩ = some (.slice A xs.length c) := x0.cell 1
  have q10 : w2.cell? ⟨w.heap.size + 1, 0, none⟩ = some (.int .i64 pf) := x1.cell 0
  have q11 : w2.cell? ⟨w.heap.size + 1, 1, none⟩ = some (.slice A2 ys.length c2) := x1.cell 1
  by_cases hb : bindOk bs = true
  · have L1 := Lib.hid (l3Bind_is hb (.slice A3 bs.length c3) w2.heap.size w2 (H3.out.on B2) hr3)
    by_cases ht : xs.all termOk = true
    · have L2 := Lib.hid (l2Terms_is ht (.slice A xs.length c) w2.heap.size w2 (H.out.on B2) hr)
      have F1 := Lib.hid (rdFacts_one (f := (pf, ys)) (H2.out.on B2) 35)
      have htot : tot [(pf, ys)] ≤ 1048576 := by simp [tot]; exact hr2
      by_cases hf : ys.all constOk = true
      · have L3 := Lib.hid (l3Consts_is (fs := [(pf, ys)]) (b := true) (by rw [constsL_one]; exact hf) _ _ _ F1.out (by simp) htot)
        have hRL : R = (matchL (pa, xs) (pf, ys) bs).getD [] := by rw [HO.out.1]; unfold matchR; rw [matchO_yes (matchOk_yes hb ht hf)]
        have hOL : ok = (matchL (pa, xs) (pf, ys) bs).isSome := by rw [HO.out.2]; unfold matchB; rw [matchO_yes (matchOk_yes hb ht hf)]
        have B3 : Below w2.heap.size w2 (w2.alloc (Obj.cells #[Value.int IntKind.i64 pf, Value.slice A2 ys.length c2] 35)) := below1 _ _
        have L4 := Lib.hid (l3Match_n (.agg #[.int .i64 pa, .slice A xs.length c]) (.agg #[.int .i64 pf, .slice A2 ys.length c2]) (.slice A3 bs.length c3) (pa, xs) (pf, ys) bs R ok hRL hOL (w2.alloc (Obj.cells #[Value.int IntKind.i64 pf, Value.slice A2 ys.length c2] 35)) hb ⟨_, rfl, H.out.on (bthen B2 B3)⟩ ⟨_, rfl, H2.out.on (bthen B2 B3)⟩ (H3.out.on (bthen B2 B3)) ht hf hr hr2)
        have B23 := Lib.hid (bthen B2 B3)
        have hs23 : w.heap.size ≤ (w2.alloc (Obj.cells #[Value.int IntKind.i64 pf, Value.slice A2 ys.length c2] 35)).heap.size := B23.out.size
        have HS23 := Lib.hid hs23
        clear hRL hOL B3 hb ht hf hs23
        have r0 : (w2.alloc (Obj.cells #[Value.int IntKind.i64 pf, Value.slice A2 ys.length c2] 35)).cell? ⟨w.heap.size, 0, none⟩ = some (.int .i64 pa) := (x0.alloc _).cell 0
        have r1 : (w2.alloc (Obj.cells #[Value.int IntKind.i64 pf, Value.slice A2 ys.length c2] 35)).cell? ⟨w.heap.size, 1, none⟩ = some (.slice A xs.length c) := (x0.alloc _).cell 1
        have r2 : (w2.alloc (Obj.cells #[Value.int IntKind.i64 pf, Value.slice A2 ys.length c2] 35)).cell? ⟨w.heap.size + 1, 0, none⟩ = some (.int .i64 pf) := (x1.alloc _).cell 0
        have r3 : (w2.alloc (Obj.cells #[Value.int IntKind.i64 pf, Value.slice A2 ys.length c2] 35)).cell? ⟨w.heap.size + 1, 1, none⟩ = some (.slice A2 ys.length c2) := (x1.alloc _).cell 1
        go_enter Try.func14, Try.ntmps14
        go_wp2_with (fail)
        rw [← HW.out]
        refine L1.out.mono ?_
        rintro e w' ⟨rfl, rfl⟩
        go_wp2_with (fail)
        refine L2.out.mono ?_
        rintro e w' ⟨rfl, rfl⟩
        go_wp2_with (fail)
        refine L3.out.mono ?_
        rintro e w' ⟨rfl, rfl⟩
        go_wp2_with (fail)
        refine L4.out.mono ?_
        rintro e w4 ⟨A', c', rfl, ho, hb4⟩
        have HQ := Lib.hid (And.intro ho hb4)
        clear ho hb4
        go_wp2_with (fail)
        go_ret2
        exact ⟨A', c', rfl, HQ.out.1.mono HS23.out (Nat.le_refl _), bthen B23.out HQ.out.2⟩
      · have hf' : ys.all constOk = false := by simpa using hf
        have L3 := Lib.hid (l3Consts_is (fs := [(pf, ys)]) (b := false) (by rw [constsL_one]; exact hf') _ _ _ F1.out (by simp) htot)
        have HN := Lib.hid (HNo.out (matchOk_consts hf'))
        clear hb ht hf hf'
        go_enter Try.func14, Try.ntmps14
        go_wp2_with (fail)
        rw [← HW.out]
        refine L1.out.mono ?_
        rintro e w' ⟨rfl, rfl⟩
        go_wp2_with (fail)
        refine L2.out.mono ?_
        rintro e w' ⟨rfl, rfl⟩
        go_wp2_with (fail)
        refine L3.out.mono ?_
        rintro e w' ⟨rfl, rfl⟩
        go_wp2_with (fail)
        go_ret2
        rw [HN.out.1, HN.out.2]
        exact ⟨none, 0, rfl, zeroI _ _ _, bthen B2 (below1 _ _)⟩
    · have ht' : xs.all termOk = false := by simpa using ht
      have L2 := Lib.hid (l2Terms_is ht' (.slice A xs.length c) w2.heap.size w2 (H.out.on B2) hr)
      have HN := Lib.hid (HNo.out (matchOk_terms ht'))
      clear hb ht ht'
      go_enter Try.func14, Try.ntmps14
      go_wp2_with (fail)
      rw [← HW.out]
      refine L1.out.mono ?_
      rintro e w' ⟨rfl, rfl⟩
      go_wp2_with (fail)
      refine L2.out.mono ?_
      rintro e w' ⟨rfl, rfl⟩
      go_wp2_with (fail)
      go_ret2
      rw [HN.out.1, HN.out.2]
      exact ⟨none, 0, rfl, zeroI _ _ _, B2⟩
  · have hb' : bindOk bs = false := by simpa using hb
    have L1 := Lib.hid (l3Bind_is hb' (.slice A3 bs.length c3) w2.heap.size w2 (H3.out.on B2) hr3)
    have HN := Lib.hid (HNo.out (matchOk_bind hb'))
    clear hb hb'
    go_enter Try.func14, Try.ntmps14
    go_wp2_with (fail)
    rw [← HW.out]
    refine L1.out.mono ?_
    rintro e w' ⟨rfl, rfl⟩
    go_wp2_with (fail)
    go_ret2
    rw [HN.out.1, HN.out.2]
    exact ⟨none, 0, rfl, zeroI _ _ _, B2⟩

set_option maxHeartbeats 2000000 in
set_option maxRecDepth 100000 in
theorem implMatch_any (v v2 v3 : Value) (a f : LFact) (bs : List Int) (w : World) (h : RdFact w w.heap.size v a) (h2 : RdFact w w.heap.size v2 f) (h3 : RdInts w w.heap.size v3 bs) (hr : a.2.length ≤ 1048576) (hr2 : f.2.length ≤ 1048576) (hr3 : bs.length ≤ 1048576) :
    Calls Try.prog 13 #[v, v2, v3] w fun e w' => ∃ A' c', e = .returned (.tuple #[.slice A' (matchR a f bs).length c', .bool (matchB a f bs)]) ∧ OwnInts w' w.heap.size w'.heap.size (.slice A' (matchR a f bs).length c') (matchR a f bs) ∧ Below w.heap.size w w' := by
  obtain ⟨pa, xs⟩ := a
  obtain ⟨pf, ys⟩ := f
  obtain ⟨u, rfl, h⟩ := h
  obtain ⟨u2, rfl, h2⟩ := h2
  have H := Lib.hid h
  have H2 := Lib.hid h2
  have H3 := Lib.hid h3
  obtain ⟨A, c, rfl, hc, _⟩ := h
  obtain ⟨A2, c2, rfl, hc2, _⟩ := h2
  obtain ⟨A3, c3, rfl, hc3, _⟩ := h3
  simp only at hc hc2 hr hr2
  obtain ⟨R, hR⟩ : ∃ R, R = matchR (pa, xs) (pf, ys) bs := ⟨_, rfl⟩
  obtain ⟨ok, hok⟩ : ∃ ok, ok = matchB (pa, xs) (pf, ys) bs := ⟨_, rfl⟩
  rw [← hR, ← hok]
  have HO := Lib.hid (And.intro hR hok)
  clear hR hok
  have HNo := Lib.hid (show matchOk (pa, xs) (pf, ys) bs = false → R = [] ∧ ok = false from fun e => ⟨by rw [HO.out.1]; unfold matchR; rw [matchO_no e]; rfl, by rw [HO.out.2]; unfold matchB; rw [matchO_no e]; rfl⟩)
  have x0 := (Blk.new w 25 #[.int .i64 pa, .slice A xs.length c]).alloc (Obj.cells #[.int .i64 pf, .slice A2 ys.length c2] 35)
  have x1 : Blk ((w.alloc (Obj.cells #[.int .i64 pa, .slice A xs.length c] 25)).alloc (Obj.cells #[.int .i64 pf, .slice A2 ys.length c2] 35)) (w.heap.size + 1) 35 #[.int .i64 pf, .slice A2 ys.length c2] := by simpa using Blk.new (w.alloc (Obj.cells #[.int .i64 pa, .slice A xs.length c] 25)) 35 #[.int .i64 pf, .slice A2 ys.length c2]
  obtain ⟨w2, hw2⟩ : ∃ w2, w2 = ((w.alloc (Obj.cells #[Value.int IntKind.i64 pa, Value.slice A xs.length c] 25)).alloc (Obj.cells #[Value.int IntKind.i64 pf, Value.slice A2 ys.length c2] 35)) := ⟨_, rfl⟩
  have B2 : Below w.heap.size w w2 := by rw [hw2]; exact below2 _ _ _
  have HW := Lib.hid hw2
  rw [← hw2] at x0 x1
  clear hw2
  have q00 : w2.cell? ⟨w.heap.size, 0, none⟩ = some (.int .i64 pa) := x0.cell 0
  have q01 : w2.cell? ⟨w.heap.size, 1, none⟩ = some (.slice A xs.length c) := x0.cell 1
  have q10 : w2.cell? ⟨w.heap.size + 1, 0, none⟩ = some (.int .i64 pf) := x1.cell 0
  have q11 : w2.cell? ⟨w.heap.size + 1, 1, none⟩ = some (.slice A2 ys.length c2) := x1.cell 1
  by_cases hb : bindOk bs = true
  · have L1 := Lib.hid (bindingOf_yes hb (.slice A3 bs.length c3) w2.heap.size w2 (H3.out.on B2))
    obtain ⟨m, hm⟩ : ∃ m, m = encB bs := ⟨_, rfl⟩
    rw [← hm] at L1
    have HM := Lib.hid hm
    clear hm
    by_cases ht : xs.all termOk = true
    · have L2 := Lib.hid (areTerms_is ht (.slice A xs.length c) w2.heap.size w2 (H.out.on B2) hr)
      by_cases hf : ys.all constOk = true
      · have L3 := Lib.hid (areConstants_is hf (.slice A2 ys.length c2) w2.heap.size w2 (H2.out.on B2) hr2)
        have HRL := Lib.hid (show R = (matchL (pa, xs) (pf, ys) bs).getD [] ∧ ok = (matchL (pa, xs) (pf, ys) bs).isSome from ⟨by rw [HO.out.1]; unfold matchR; rw [matchO_yes (matchOk_yes hb ht hf)], by rw [HO.out.2]; unfold matchB; rw [matchO_yes (matchOk_yes hb ht hf)]⟩)
        have L4 := Lib.hid (matched_n (.agg #[.int .i64 pa, .slice A xs.length c]) (.agg #[.int .i64 pf, .slice A2 ys.length c2]) (pa, xs) (pf, ys) bs (encO (matchL (pa, xs) (pf, ys) bs)) (matchL (pa, xs) (pf, ys) bs).isSome rfl rfl w2 hb ⟨_, rfl, H.out.on B2⟩ ⟨_, rfl, H2.out.on B2⟩ ht hf hr hr2)
        rw [← HM.out] at L4
        have HMO := Lib.hid (show ∀ b, matchL (pa, xs) (pf, ys) bs = some b → bindOk b = true from fun b e => matchL_ok hb hf e)
        clear hb ht hf
        go_enter Try.func13, Try.ntmps13
        go_wp2_with (fail)
        rw [← HW.out]
        refine L1.out.mono ?_
        rintro e w' ⟨rfl, rfl⟩
        go_wp2_with (fail)
        refine L2.out.mono ?_
        rintro e w' ⟨rfl, rfl⟩
        go_wp2_with (fail)
        refine L3.out.mono ?_
        rintro e w' ⟨rfl, rfl⟩
        go_wp2_with (fail)
        refine L4.out.mono ?_
        rintro e w3 ⟨rfl, hb3⟩
        have B3 := bthen B2 hb3
        rcases ho : matchL (pa, xs) (pf, ys) bs with _ | b
        · have HN := Lib.hid (show R = [] ∧ ok = false from ⟨by rw [HRL.out.1, ho]; rfl, by rw [HRL.out.2, ho]; rfl⟩)
          have hsn : (none : Option (List Int)).isSome = false := rfl
          clear ho
          go_wp2_with (fail)
          go_ret2
          rw [HN.out.1, HN.out.2]
          exact ⟨none, 0, rfl, zeroI _ _ _, B3⟩
        · have hbb := HMO.out b ho
          have HN := Lib.hid (show R = b ∧ ok = true from ⟨by rw [HRL.out.1, ho]; rfl, by rw [HRL.out.2, ho]; rfl⟩)
          have hsn : (some b).isSome = true := rfl
          have hen : encO (some b) = encB b := rfl
          have LN := Lib.hid (numbers_any b hbb w3)
          rw [hen]
          clear ho hen hbb
          generalize encB b = z at LN
          go_wp2_with (fail)
          refine LN.out.mono ?_
          rintro e w4 ⟨A', c', rfl, ho, hb4⟩
          have HQ := Lib.hid (And.intro ho (bthen B3 hb4))
          have hs3 := B3.size
          clear ho hb4
          go_wp2_with (fail)
          go_ret2
          rw [HN.out.1, HN.out.2]
          exact ⟨A', c', rfl, HQ.out.1.mono hs3 (Nat.le_refl _), HQ.out.2⟩
      · have hf' : ys.all constOk = false := by simpa using hf
        have L3 := Lib.hid (areConstants_is hf' (.slice A2 ys.length c2) w2.heap.size w2 (H2.out.on B2) hr2)
        have HN := Lib.hid (HNo.out (matchOk_consts hf'))
        clear hb ht hf hf'
        go_enter Try.func13, Try.ntmps13
        go_wp2_with (fail)
        rw [← HW.out]
        refine L1.out.mono ?_
        rintro e w' ⟨rfl, rfl⟩
        go_wp2_with (fail)
        refine L2.out.mono ?_
        rintro e w' ⟨rfl, rfl⟩
        go_wp2_with (fail)
        refine L3.out.mono ?_
        rintro e w' ⟨rfl, rfl⟩
        go_wp2_with (fail)
        go_ret2
        rw [HN.out.1, HN.out.2]
        exact ⟨none, 0, rfl, zeroI _ _ _, B2⟩
    · have ht' : xs.all termOk = false := by simpa using ht
      have L2 := Lib.hid (areTerms_is ht' (.slice A xs.length c) w2.heap.size w2 (H.out.on B2) hr)
      have HN := Lib.hid (HNo.out (matchOk_terms ht'))
      clear hb ht ht'
      go_enter Try.func13, Try.ntmps13
      go_wp2_with (fail)
      rw [← HW.out]
      refine L1.out.mono ?_
      rintro e w' ⟨rfl, rfl⟩
      go_wp2_with (fail)
      refine L2.out.mono ?_
      rintro e w' ⟨rfl, rfl⟩
      go_wp2_with (fail)
      go_ret2
      rw [HN.out.1, HN.out.2]
      exact ⟨none, 0, rfl, zeroI _ _ _, B2⟩
  · have hb' : bindOk bs = false := by simpa using hb
    have L1 := Lib.hid (bindingOf_no hb' (.slice A3 bs.length c3) w2.heap.size w2 (H3.out.on B2) hr3)
    have HN := Lib.hid (HNo.out (matchOk_bind hb'))
    clear hb hb'
    go_enter Try.func13, Try.ntmps13
    go_wp2_with (fail)
    rw [← HW.out]
    refine L1.out.mono ?_
    rintro e w' ⟨rfl, rfl⟩
    go_wp2_with (fail)
    go_ret2
    rw [HN.out.1, HN.out.2]
    exact ⟨none, 0, rfl, zeroI _ _ _, B2⟩

end Go.Proofs.Ytlehcghdhfeahaa
/-
  The rules of a match, in plain mathematics.
-/
namespace Go.Proofs.Ytlehcghdhfeahaa
open Go.RowKit

/-- More variables have something. -/
def ExtB (b c : List Int) : Prop := c.length = b.length ∧ ∀ i, 0 ≤ b.getD i (-1) → c.getD i (-1) = b.getD i (-1)
theorem ExtB.val {b c : List Int} (h : ExtB b c) {t : Int} (ht : 0 ≤ termVal b t) : termVal c t = termVal b t := by
  unfold termVal at *
  split
  · rfl
  · rename_i h0
    rw [if_neg h0] at ht
    exact h.2 _ ht
theorem stepM_ext {b b' : List Int} {t c : Int} (hl : b.length = 4) (ht : termOk t = true) (hc : 0 ≤ c) (e : stepM b t c = some b') : ExtB b b' ∧ termVal b' t = c := by
  unfold stepM at e
  split at e
  · rename_i h
    injection e with e
    subst e
    exact ⟨⟨rfl, fun _ _ => rfl⟩, h⟩
  · split at e
    · rename_i h1 h2
      injection e with e
      subst e
      obtain ⟨h3, h4, h5⟩ := termVal_free ht h2
      have hi : (-1 - t).toNat < b.length := by omega
      refine ⟨⟨by simp, fun i hi0 => ?_⟩, ?_⟩
      · by_cases e : (-1 - t).toNat = i
        · subst e
          omega
        · simp [List.getD_eq_getElem?_getD, List.getElem?_set_ne e]
      · unfold termVal
        rw [if_neg (by omega)]
        simp [List.getD_eq_getElem?_getD, hi]
    · cases e
theorem matchTo_rules {bs xs ys : List Int} (hb : bindOk bs = true) (hx : xs.all termOk = true) (hy : ys.all constOk = true) (hl : xs.length = ys.length) : ∀ (k : Nat) (b : List Int), k ≤ xs.length → matchTo bs xs ys k = some b →
    ExtB bs b ∧ ∀ j (h1 : j < xs.length) (h2 : j < ys.length), j < k → termVal b xs[j] = ys[j]
  | 0, b, _, e => by
    have e : some bs = some b := e
    injection e with e
    subst e
    exact ⟨⟨rfl, fun _ _ => rfl⟩, fun j _ _ h => absurd h (Nat.not_lt_zero _)⟩
  | k + 1, b, hk, e => by
    have e' : (matchTo bs xs ys k).bind (fun b => stepM b (xs.getD k 0) (ys.getD k 0)) = some b := e
    obtain ⟨c, h1, h2⟩ := Option.bind_eq_some_iff.1 e'
    obtain ⟨i1, i2⟩ := matchTo_rules hb hx hy hl k c (by omega) h1
    have hkx : k < xs.length := by omega
    have hky : k < ys.length := by omega
    have ex : xs.getD k 0 = xs[k] := by simp [hkx]
    have ey : ys.getD k 0 = ys[k] := by simp [hky]
    rw [ex, ey] at h2
    have hcl : c.length = 4 := by rw [i1.1]; exact bindOk_len hb
    have hcy : ∀ j (h : j < ys.length), 0 ≤ ys[j] := fun j h => by
      have := List.all_eq_true.1 hy _ (List.getElem_mem h)
      simp [constOk] at this
      exact this.1
    obtain ⟨s1, s2⟩ := stepM_ext hcl (List.all_eq_true.1 hx _ (List.getElem_mem hkx)) (hcy k hky) h2
    refine ⟨⟨s1.1.trans i1.1, fun i hi => ?_⟩, fun j h3 h4 hj => ?_⟩
    · have h5 := i1.2 i hi
      rw [s1.2 i (by rw [h5]; exact hi), h5]
    · by_cases e : j = k
      · subst e
        exact s2
      · have h5 := i2 j h3 h4 (by omega)
        rw [s1.val (by rw [h5]; exact hcy j h4), h5]
theorem matchTo_again {b xs ys : List Int} (hl : xs.length = ys.length) (h : ∀ j (h1 : j < xs.length) (h2 : j < ys.length), termVal b xs[j] = ys[j]) : ∀ k, k ≤ xs.length → matchTo b xs ys k = some b
  | 0, _ => rfl
  | k + 1, hk => by
    have hkx : k < xs.length := by omega
    have hky : k < ys.length := by omega
    rw [matchTo_step (matchTo_again hl h k (by omega)) hkx hky]
    exact stepM_same (h k hkx hky)

/-- What a match that succeeds tells. -/
theorem match_rules {a f : LFact} {bs : List Int} (h : matchB a f bs = true) :
    bs.length = 4 ∧ (matchR a f bs).length = 4 ∧ (∀ i, 0 ≤ bs.getD i (-1) → (matchR a f bs).getD i (-1) = bs.getD i (-1)) ∧ headOk a (matchR a f bs) = true ∧ headOf a (matchR a f bs) = f ∧ matchB a f (matchR a f bs) = true ∧ matchR a f (matchR a f bs) = matchR a f bs := by
  unfold matchB at h
  obtain ⟨b, hb⟩ := Option.isSome_iff_exists.1 h
  have hr : matchR a f bs = b := by unfold matchR; rw [hb]; rfl
  rw [hr]
  unfold matchO at hb
  split at hb
  · rename_i hok
    unfold matchOk at hok
    simp only [Bool.and_eq_true] at hok
    obtain ⟨⟨k1, k2⟩, k3⟩ := hok
    have hbo := matchL_ok k1 k3 hb
    have hml : a.1 = f.1 ∧ a.2.length = f.2.length := by
      apply Classical.byContradiction
      intro hn
      unfold matchL at hb
      rw [if_neg hn] at hb
      cases hb
    have hb2 := hb
    rw [matchL_eq hml.1 hml.2] at hb2
    obtain ⟨i1, i2⟩ := matchTo_rules k1 k2 k3 hml.2 _ b (Nat.le_refl _) hb2
    have hmap : a.2.map (termVal b) = f.2 := by
      apply List.ext_getElem (by simp [hml.2])
      intro j h1 h2
      have hj : j < a.2.length := by simpa using h1
      rw [List.getElem_map]
      exact i2 j hj h2 hj
    have hho : headOk a b = true := headOk_yes hbo k2 (by rw [hmap]; exact k3)
    have hag : matchO a f b = some b := by
      rw [matchO_yes (matchOk_yes hbo k2 k3), matchL_eq hml.1 hml.2]
      exact matchTo_again hml.2 (fun j h1 h2 => i2 j h1 h2 h1) _ (Nat.le_refl _)
    refine ⟨bindOk_len k1, bindOk_len hbo, i1.2, hho, ?_, by unfold matchB; rw [hag]; rfl, by unfold matchR; rw [hag]; rfl⟩
    unfold headOf
    rw [hho, if_pos rfl, hmap, hml.1]
  · cases hb
theorem match_none {a f : LFact} {bs : List Int} (h : matchB a f bs = false) : matchR a f bs = [] := by
  unfold matchB at h
  unfold matchR
  cases e : matchO a f bs with
  | none => rfl
  | some b => rw [e] at h; cases h

end Go.Proofs.Ytlehcghdhfeahaa
/-
  What comes in, opened: integers.
-/
namespace Go.Proofs.Ytlehcghdhfeahaa
open Go.ChangeShapes Go.WideShapes Go.ChangeAt Go.RowKit Go.Joins Go.Deep

theorem Try.own : ownKnob Try.prog.godebug = none := by kernel_rfl
theorem Try.laidOut : laidOutB Try.prog = true := by kernel_rfl
theorem Try.cells3 : Try.prog.cellsOf 3 = 1 := by kernel_rfl
theorem Try.cells23 : Try.prog.cellsOf 23 = 1 := by kernel_rfl

section
variable {H : Type} {enc : TypeId × Value → H} {W : World}

/-- What is known of a slice of integers that came in. -/
def InInts (W : World) (v : Value) (xs : List Int) : Prop := RdInts W W.heap.size v xs ∧ xs.length ≤ maxLen

/-- The cells of a slice of integers. -/
theorem open_inInts_cells {fuel : Nat} {v : Value} {x : DataW H × List MemPlace} (h : DataW.trod enc Try.prog W 0 (fun _ => true) true fuel 23 [v] = some x) : ∃ xs, InInts W v xs := by
  rcases open_ints Try.underlying23 Try.underlying3 Try.cells3 h with ⟨hcs, _⟩ | ⟨a, len, cap, zs, hcs, _, hl, hm, hz, _, hcell, _⟩
  · simp at hcs
    subst hcs
    exact ⟨[], ⟨none, 0, rfl, by simp, fun h => absurd h (by simp)⟩, by simp⟩
  · simp at hcs
    subst hcs
    simp at hz
    refine ⟨zs.take len, ⟨some a, cap, ?_, by simp; omega, fun hn => ?_⟩, by simp; omega⟩
    · congr 1
      simp
      omega
    · have hlen : (zs.take len).length = len := by simp; omega
      obtain ⟨b, o, rfl, hc⟩ := ints_at hcell (by omega)
      refine ⟨b, o, rfl, World.block_lt_of_cell? _ _ (hc 0 (by omega)), fun k hk => ?_⟩
      rw [hc k (by omega)]
      simp [show k < zs.length by omega]

set_option maxRecDepth 100000 in
theorem open_inInts {v : Value} {d : DataW H} {p : List MemPlace} {b0 : Nat} (hv : Value.okWide Try.prog W .any b0 23 v) (h : DataW.Trod enc Try.prog W 0 (fun _ => true) true 23 v d p) :
    ∃ xs, InInts W v xs := by
  obtain ⟨a, len, cap, rfl⟩ := okWide_slice Try.underlying23 hv
  obtain ⟨fuel, hf⟩ := h
  exact open_inInts_cells (by simpa [Value.cells] using hf)

/-- What is known of an int that came in. -/
def InInt (v : Value) (n : Int) : Prop := v = .int .i64 n ∧ -9223372036854775808 ≤ n ∧ n ≤ 9223372036854775807

set_option maxRecDepth 100000 in
theorem open_inInt {v : Value} {d : DataW H} {p : List MemPlace} {b0 : Nat} (hv : Value.okWide Try.prog W .any b0 3 v) (h : DataW.Trod enc Try.prog W 0 (fun _ => true) true 3 v d p) : ∃ n, InInt v n := by
  obtain ⟨n, rfl, _, _, hw⟩ := open_int Try.underlying3 hv h
  exact ⟨n, rfl, bounds_i64 hw⟩
end

end Go.Proofs.Ytlehcghdhfeahaa
/-
  What comes in, opened into the words of the Base text.
-/
namespace Go.Proofs.Ytlehcghdhfeahaa
open Go.ChangeShapes Go.WideShapes Go.ChangeAt Go.RowKit Go.Joins Go.Deep

section
variable {H : Type} {enc : TypeId × Value → H} {W : World}

def InFact (W : World) (v : Value) (f : LFact) : Prop := RdFact W W.heap.size v f ∧ f.2.length ≤ maxLen
def InFacts (W : World) (v : Value) (fs : List LFact) : Prop := RdFacts W W.heap.size v fs ∧ fs.length ≤ maxLen ∧ ∀ k (h : k < fs.length), fs[k].2.length ≤ maxLen

end

end Go.Proofs.Ytlehcghdhfeahaa
/-
  A slice of bytes that came in.
-/
namespace Go.Proofs.Ytlehcghdhfeahaa
open Go.ChangeShapes Go.WideShapes Go.ChangeAt Go.RowKit Go.Joins Go.Deep

theorem Try.cells5 : Try.prog.cellsOf 5 = 1 := by kernel_rfl

/-- What is known of a slice of bytes that came in. -/
def InBytes (W : World) (v : Value) (bs : List Nat) : Prop := RdBytes W W.heap.size v bs ∧ bs.length ≤ maxLen ∧ ∀ b ∈ bs, b < 256

theorem byte_of_wf {n : Int} (h : (Lit.int .u8 n).wf = true) : 0 ≤ n ∧ n < 256 := by
  simp only [Lit.wf, Bool.and_eq_true, decide_eq_true_eq] at h
  have h1 : IntKind.u8.min = 0 := by decide
  have h2 : IntKind.u8.max = 255 := by decide
  omega

set_option maxRecDepth 100000 in
theorem open_inBytes {H : Type} {enc : TypeId × Value → H} {W : World} {v : Value} {d : DataW H} {p : List MemPlace} {b0 : Nat} (hv : Value.okWide Try.prog W .any b0 22 v) (h : DataW.Trod enc Try.prog W 0 (fun _ => true) true 22 v d p) :
    ∃ bs, InBytes W v bs := by
  obtain ⟨a, len, cap, rfl⟩ := okWide_slice Try.underlying22 hv
  obtain ⟨fuel, hf⟩ := h
  have hf : DataW.trod enc Try.prog W 0 (fun _ => true) true fuel 22 [.slice a len cap] = some (d, p) := by simpa [Value.cells] using hf
  rcases open_ints Try.underlying22 Try.underlying5 Try.cells5 hf with ⟨hcs, _⟩ | ⟨a, len, cap, zs, hcs, _, hl, hm, hz, _, hcell, hwz⟩
  · simp at hcs
    obtain ⟨rfl, rfl, rfl⟩ := hcs
    exact ⟨[], ⟨none, 0, rfl, by simp, fun h => absurd h (by simp)⟩, by simp, by simp⟩
  · simp at hcs
    obtain ⟨rfl, rfl, rfl⟩ := hcs
    simp at hz
    refine ⟨(zs.take len).map Int.toNat, ⟨some a, cap, ?_, by simp; omega, fun hn => ?_⟩, by simp; omega, ?_⟩
    · congr 1
      simp
      omega
    · have hlen : (zs.take len).length = len := by simp; omega
      simp only [List.length_map, hlen] at hn
      obtain ⟨b, o, rfl, hc⟩ := ints_at hcell (by omega)
      refine ⟨b, o, rfl, World.block_lt_of_cell? _ _ (hc 0 (by omega)), fun k hk => ?_⟩
      simp only [List.length_map, hlen] at hk
      have hw := byte_of_wf (hwz zs[k] (List.getElem_mem (by omega)))
      rw [hc k (by omega)]
      simp [show k < zs.length by omega]
      omega
    · intro b hb
      rw [List.mem_map] at hb
      obtain ⟨z, hz1, rfl⟩ := hb
      have := byte_of_wf (hwz z (List.mem_of_mem_take hz1))
      omega

end Go.Proofs.Ytlehcghdhfeahaa
