/-
  Both Holds: literals that an atom holds, or does not.
-/
import Derived.Test.YtehjhdihaloalaaHolds
namespace Go.Proofs.Ytehjhdihaloalaa
open Go.RowKit

theorem l1In_is {n lo hi : Int} {b : Bool} (h : decide (lo ≤ n ∧ n ≤ hi) = b) (w : World) : Calls Try.prog 63 #[.int .i64 n, .int .i64 lo, .int .i64 hi] w fun e w' => e = .returned (.bool b) ∧ w = w' := h ▸ l1In_any n lo hi w

set_option maxHeartbeats 2000000 in
set_option maxRecDepth 100000 in
theorem l3HoldsAsk_any (v0 v v3 : Value) (fs : List LFact) (l : LLit) (bs : List Int) (w : World) (hkd : ¬ (l.1 = 2 ∨ l.1 = 3)) (h1 : RdFacts w w.heap.size v0 fs) (h2 : RdLit w w.heap.size v l) (h3 : RdInts w w.heap.size v3 bs)
    (hn : fs.length ≤ 1048576) (htt : tot fs ≤ 1048576) (hr : l.2.2.length ≤ 1048576) (hr2 : bs.length ≤ 1048576) :
    Calls Try.prog 85 #[v0, v, v3] w fun e w' => e = .returned (.bool ((headOk l.2 bs && decide (0 ≤ l.1 ∧ l.1 ≤ 1)) && (factsHas fs (headOf l.2 bs) == decide (l.1 = 0)))) ∧ Below w.heap.size w w' := by
  obtain ⟨kd, a⟩ := l
  obtain ⟨u, rfl, h2⟩ := h2
  have H1 := Lib.hid h1
  have H2 := Lib.hid h2
  have H3 := Lib.hid h3
  obtain ⟨A1, c1, rfl, hc1, _⟩ := h1
  obtain ⟨A, c, rfl, hc, _⟩ := h2
  obtain ⟨A3, c3, rfl, hc3, _⟩ := h3
  simp only at hkd hc hr
  obtain ⟨F, hF⟩ : ∃ F, F = headOf a bs := ⟨_, rfl⟩
  obtain ⟨ok, hok⟩ : ∃ ok, ok = headOk a bs := ⟨_, rfl⟩
  obtain ⟨hs, hhs⟩ : ∃ hs, hs = factsHas fs F := ⟨_, rfl⟩
  obtain ⟨R, hR⟩ : ∃ R, R = ((ok && decide (0 ≤ kd ∧ kd ≤ 1)) && (hs == decide (kd = 0))) := ⟨_, rfl⟩
  show Calls _ _ _ _ fun e w' => e = .returned (.bool ((headOk a bs && decide (0 ≤ kd ∧ kd ≤ 1)) && (factsHas fs (headOf a bs) == decide (kd = 0)))) ∧ _
  rw [← hF, ← hok, ← hhs, ← hR]
  have HR := Lib.hid hR
  have HF := Lib.hid (And.intro hF hok)
  have HFL := Lib.hid (show F.2.length ≤ 1048576 by have := headOf_length a bs; rw [hF]; omega)
  have HH := Lib.hid hhs
  clear hR hF hok hhs
  have k2 : (kd == 2) = false := by have h : kd ≠ 2 := fun e => hkd (.inl e); simpa using h
  have k3 : (kd == 3) = false := by have h : kd ≠ 3 := fun e => hkd (.inr e); simpa using h
  have y0 := Blk.new w 60 #[.int .i64 kd, .int .i64 a.1, .slice A a.2.length c]
  have q0 := y0.cell 0
  have q1 := y0.cell 1
  have q2 := y0.cell 2
  go_enter Try.func85, Try.ntmps85
  go_wp2_with (fail)
  obtain ⟨w1, hw1⟩ : ∃ w1, w1 = w.alloc (Obj.cells #[Value.int IntKind.i64 kd, Value.int IntKind.i64 a.1, Value.slice A a.2.length c] 60) := ⟨_, rfl⟩
  have B1 : Below w.heap.size w w1 := by rw [hw1]; exact below1 _ _
  rw [← hw1] at y0 ⊢
  clear hw1 q0 q1 q2
  refine (specHeadOf_any _ _ a bs _ ⟨_, rfl, H2.out.on B1⟩ (H3.out.on B1) hr hr2).mono ?_
  rw [← HF.out.1, ← HF.out.2]
  rintro e w2 ⟨A', c', rfl, ho, hb2⟩
  have B2 := bthen B1 hb2
  have y2 := y0.below hb2 y0.lt
  have HO := Lib.hid ho
  clear ho y0
  go_wp2_with (fail)
  obtain ⟨w3, hw3⟩ : ∃ w3, w3 = w2.alloc (Obj.cells #[Value.int IntKind.i64 F.1, Value.slice A' F.2.length c'] 28) := ⟨_, rfl⟩
  have B23 : Below w2.heap.size w2 w3 := by rw [hw3]; exact below1 _ _
  have f3 : Blk w3 w2.heap.size 28 #[.int .i64 F.1, .slice A' F.2.length c'] := by rw [hw3]; exact Blk.new _ _ _
  rw [← hw3]
  clear hw3
  have y3 := y2.below B23 y2.lt
  have B3 := bthen B2 B23
  have RF := Lib.hid (show RdFact w3 w3.heap.size (.agg #[.int .i64 F.1, .slice A' F.2.length c']) F from ⟨_, rfl, HO.out.rd.on B23⟩)
  have L0 := later_cell (y3.cell 0 : w3.cell? ⟨w.heap.size, 0, none⟩ = some (.int .i64 kd))
  have L1 := later_cell (f3.cell 0 : w3.cell? ⟨w2.heap.size, 0, none⟩ = some (.int .i64 F.1))
  have L2 := later_cell (f3.cell 1 : w3.cell? ⟨w2.heap.size, 1, none⟩ = some (.slice A' F.2.length c'))
  have CF := Lib.hid (fun x : Later w3 => (specFactsHas_any _ _ fs F x.val ((H1.out.on B3).on x.2) (RF.out.on x.2) hn htt HFL.out))
  rw [← HH.out] at CF
  clear y2 y3 f3
  cases ok
  · have HE := Lib.hid (show R = false by rw [HR.out]; rfl)
    refine wp_region_later (by kernel_rfl) (by kernel_rfl) ?_
    repeat (go_big_quiet_step (fail))
    refine wpQuiet_nil ?_
    rintro _ ⟨xq, rfl⟩
    go_wp2_with (fail)
    go_ret
    exact ⟨ret_bool HE.out.symm, bthen B3 xq.2⟩
  · by_cases hin : 0 ≤ kd ∧ kd ≤ 1
    · have CI := Lib.hid (fun W => l1In_yes hin W)
      have HD := Lib.hid (show R = (hs == decide (kd = 0)) by rw [HR.out, decide_eq_true hin]; rfl)
      by_cases h0 : kd = 0
      · have k0 : (kd == 0) = true := by simpa using h0
        have HE := Lib.hid (show R = (hs == true) by rw [HD.out, decide_eq_true h0])
        clear h0 hin
        cases hs
        all_goals
          refine wp_region_later (by kernel_rfl) (by kernel_rfl) ?_
          repeat (go_big_quiet_step (first | (go_at_call 63; exact later_same (CI.out _)) | (go_at_call 102; exact later_of (CF.out _))))
          refine wpQuiet_nil ?_
          rintro _ ⟨xq, rfl⟩
          go_wp2_with (fail)
          go_ret
          exact ⟨ret_bool (by rw [HE.out]; rfl), bthen B3 xq.2⟩
      · have k0 : (kd == 0) = false := by simpa using h0
        have HE := Lib.hid (show R = (hs == false) by rw [HD.out, decide_eq_false h0])
        clear h0 hin
        cases hs
        all_goals
          refine wp_region_later (by kernel_rfl) (by kernel_rfl) ?_
          repeat (go_big_quiet_step (first | (go_at_call 63; exact later_same (CI.out _)) | (go_at_call 102; exact later_of (CF.out _))))
          refine wpQuiet_nil ?_
          rintro _ ⟨xq, rfl⟩
          go_wp2_with (fail)
          go_ret
          exact ⟨ret_bool (by rw [HE.out]; rfl), bthen B3 xq.2⟩
    · have CI := Lib.hid (fun W => l1In_no hin W)
      have HE := Lib.hid (show R = false by rw [HR.out, decide_eq_false hin]; rfl)
      clear hin
      refine wp_region_later (by kernel_rfl) (by kernel_rfl) ?_
      repeat (go_big_quiet_step (first | (go_at_call 63; exact later_same (CI.out _))))
      refine wpQuiet_nil ?_
      rintro _ ⟨xq, rfl⟩
      go_wp2_with (fail)
      go_ret
      exact ⟨ret_bool HE.out.symm, bthen B3 xq.2⟩

theorem l3Holds_any (v0 v v3 : Value) (fs : List LFact) (l : LLit) (bs : List Int) (w : World) (h1 : RdFacts w w.heap.size v0 fs) (h2 : RdLit w w.heap.size v l) (h3 : RdInts w w.heap.size v3 bs)
    (hb : bs.length = 4) (ht : l.2.2.all termOk = true) (hn : fs.length ≤ 1048576) (htt : tot fs ≤ 1048576) (hr : l.2.2.length ≤ 1048576) :
    Calls Try.prog 85 #[v0, v, v3] w fun e w' => e = .returned (.bool (litHolds fs l bs)) ∧ Below w.heap.size w w' := by
  by_cases h : l.1 = 2 ∨ l.1 = 3
  · have := l3HoldsCmp_any v v3 l bs v0 w h h2 h3 hb ht
    unfold litHolds
    rw [if_pos h]
    exact this
  · have := l3HoldsAsk_any v0 v v3 fs l bs w h h1 h2 h3 hn htt hr (by omega)
    unfold litHolds
    rw [if_neg h]
    exact this

set_option maxHeartbeats 2000000 in
set_option maxRecDepth 100000 in
theorem specHolds_any (v0 v v3 : Value) (fs : List LFact) (l : LLit) (bs : List Int) (w : World) (h1 : RdFacts w w.heap.size v0 fs) (h2 : RdLit w w.heap.size v l) (h3 : RdInts w w.heap.size v3 bs)
    (hn : fs.length ≤ 1048576) (htt : tot fs ≤ 1048576) (hr : l.2.2.length ≤ 1048576) (hr2 : bs.length ≤ 1048576) :
    Calls Try.prog 46 #[v0, v, v3] w fun e w' => e = .returned (.bool (holdsB fs l bs)) ∧ Below w.heap.size w w' := by
  obtain ⟨u, rfl, h2⟩ := h2
  have H1 := Lib.hid h1
  have H2 := Lib.hid h2
  have H3 := Lib.hid h3
  obtain ⟨A1, c1, rfl, hc1, _⟩ := h1
  obtain ⟨A, c, rfl, hc, _⟩ := h2
  obtain ⟨A3, c3, rfl, hc3, _⟩ := h3
  obtain ⟨R, hR⟩ : ∃ R, R = holdsB fs l bs := ⟨_, rfl⟩
  rw [← hR]
  have HR := Lib.hid hR
  clear hR
  have y0 := Blk.new w 60 #[.int .i64 l.1, .int .i64 l.2.1, .slice A l.2.2.length c]
  have q0 := y0.cell 0
  have q1 := y0.cell 1
  have q2 := y0.cell 2
  by_cases hb : bindOk bs = true
  · have L1 := Lib.hid (fun O => l3Bind_is hb (.slice A3 bs.length c3) _ (w.alloc O) (H3.out.on (below1 w O)) hr2)
    by_cases ht : l.2.2.all termOk = true
    · have L2 := Lib.hid (fun O => l2Terms_is ht (.slice A l.2.2.length c) _ (w.alloc O) (H2.out.on (below1 w O)) hr)
      have L3 := Lib.hid (fun O => l3Holds_any (.slice A1 fs.length c1) (.agg #[.int .i64 l.1, .int .i64 l.2.1, .slice A l.2.2.length c]) (.slice A3 bs.length c3) fs l bs (w.alloc O) (H1.out.on (below1 w O)) ⟨_, rfl, H2.out.on (below1 w O)⟩ (H3.out.on (below1 w O)) (bindOk_len hb) ht hn htt hr)
      obtain ⟨S, hS⟩ : ∃ S, S = litHolds fs l bs := ⟨_, rfl⟩
      rw [← hS] at L3
      have HE := Lib.hid (show R = S by rw [HR.out, hS]; unfold holdsB; rw [hb, ht]; rfl)
      clear hb ht hS
      go_enter Try.func46, Try.ntmps46
      go_wp2_with (fail)
      refine (L1.out _).mono ?_
      rintro e w' ⟨rfl, rfl⟩
      go_wp2_with (fail)
      refine (L2.out _).mono ?_
      rintro e w' ⟨rfl, rfl⟩
      go_wp2_with (fail)
      refine (L3.out _).mono ?_
      rintro e w2 ⟨rfl, hb2⟩
      have B2 := bthen (below1 _ _) hb2
      clear hb2
      go_wp2_with (fail)
      go_ret
      exact ⟨ret_bool HE.out.symm, B2⟩
    · have ht' : l.2.2.all termOk = false := by simpa using ht
      have L2 := Lib.hid (fun O => l2Terms_is ht' (.slice A l.2.2.length c) _ (w.alloc O) (H2.out.on (below1 w O)) hr)
      have HE := Lib.hid (show R = false by rw [HR.out]; unfold holdsB; rw [ht', Bool.and_false]; rfl)
      clear hb ht ht'
      go_enter Try.func46, Try.ntmps46
      go_wp2_with (fail)
      refine (L1.out _).mono ?_
      rintro e w' ⟨rfl, rfl⟩
      go_wp2_with (fail)
      refine (L2.out _).mono ?_
      rintro e w' ⟨rfl, rfl⟩
      go_wp2_with (fail)
      go_ret
      exact ⟨ret_bool HE.out.symm, below1 _ _⟩
  · have hb' : bindOk bs = false := by simpa using hb
    have L1 := Lib.hid (fun O => l3Bind_is hb' (.slice A3 bs.length c3) _ (w.alloc O) (H3.out.on (below1 w O)) hr2)
    have HE := Lib.hid (show R = false by rw [HR.out]; unfold holdsB; rw [hb']; rfl)
    clear hb hb'
    go_enter Try.func46, Try.ntmps46
    go_wp2_with (fail)
    refine (L1.out _).mono ?_
    rintro e w' ⟨rfl, rfl⟩
    go_wp2_with (fail)
    go_ret
    exact ⟨ret_bool HE.out.symm, below1 _ _⟩

set_option maxHeartbeats 2000000 in
set_option maxRecDepth 100000 in
theorem implHolds_any (v0 v v3 : Value) (fs : List LFact) (l : LLit) (bs : List Int) (w : World) (h1 : RdFacts w w.heap.size v0 fs) (h2 : RdLit w w.heap.size v l) (h3 : RdInts w w.heap.size v3 bs)
    (hn : fs.length ≤ 1048576) (htt : tot fs ≤ 1048576) (hr : l.2.2.length ≤ 1048576) (hr2 : bs.length ≤ 1048576) :
    Calls Try.prog 48 #[v0, v, v3] w fun e w' => e = .returned (.bool (holdsB fs l bs)) ∧ Below w.heap.size w w' := by
  obtain ⟨kd, a⟩ := l
  obtain ⟨u, rfl, h2⟩ := h2
  have H1 := Lib.hid h1
  have H2 := Lib.hid h2
  have H3 := Lib.hid h3
  obtain ⟨A1, c1, rfl, hc1, _⟩ := h1
  obtain ⟨A, c, rfl, hc, _⟩ := h2
  obtain ⟨A3, c3, rfl, hc3, _⟩ := h3
  simp only at hc hr
  obtain ⟨R, hR⟩ : ∃ R, R = holdsB fs (kd, a) bs := ⟨_, rfl⟩
  rw [← hR]
  have HR := Lib.hid hR
  clear hR
  have y0 := Blk.new w 60 #[.int .i64 kd, .int .i64 a.1, .slice A a.2.length c]
  have q0 := y0.cell 0
  have q1 := y0.cell 1
  have q2 := y0.cell 2
  have HW := Lib.hid (show ∀ W1, W1 = w.alloc (Obj.cells #[Value.int IntKind.i64 kd, Value.int IntKind.i64 a.1, Value.slice A a.2.length c] 60) → Below w.heap.size w W1 ∧ Blk W1 w.heap.size 60 #[.int .i64 kd, .int .i64 a.1, .slice A a.2.length c] from fun W1 e => ⟨by rw [e]; exact below1 _ _, by rw [e]; exact y0⟩)
  by_cases hk : kd = 0 ∨ kd = 1
  · -- an atom that holds, or does not
    have HHd := Lib.hid (show headOk a bs = true → bindOk bs = true ∧ a.2.all termOk = true from fun e => by
      unfold headOk at e
      simp only [Bool.and_eq_true] at e
      exact e.1)
    obtain ⟨F, hF⟩ : ∃ F, F = headOf a bs := ⟨_, rfl⟩
    obtain ⟨ok, hok⟩ : ∃ ok, ok = headOk a bs := ⟨_, rfl⟩
    obtain ⟨hs, hhs⟩ : ∃ hs, hs = factsHas fs F := ⟨_, rfl⟩
    have HD := Lib.hid (show R = (ok && (hs == decide (kd = 0))) by
      rw [HR.out, hhs, hF, hok]
      show (bindOk bs && a.2.all termOk && litHolds fs (kd, a) bs) = _
      unfold litHolds
      rw [if_neg (show ¬ ((kd, a).1 = 2 ∨ (kd, a).1 = 3) by show ¬ (kd = 2 ∨ kd = 3); omega), decide_eq_true (show 0 ≤ (kd, a).1 ∧ (kd, a).1 ≤ 1 by show 0 ≤ kd ∧ kd ≤ 1; omega)]
      show (bindOk bs && a.2.all termOk && (headOk a bs && true && (factsHas fs (headOf a bs) == decide (kd = 0)))) = _
      rw [Bool.and_true]
      cases he : headOk a bs with
      | false => simp
      | true =>
        obtain ⟨e1, e2⟩ := HHd.out he
        rw [e1, e2]
        rfl)
    have HF := Lib.hid (And.intro hF hok)
    have HFL := Lib.hid (show F.2.length ≤ 1048576 by have := headOf_length a bs; rw [hF]; omega)
    have HH := Lib.hid hhs
    clear hF hok hhs
    have k01 : ((kd == 0) = true ∧ decide (kd = 0) = true) ∨ ((kd == 0) = false ∧ (kd == 1) = true ∧ decide (kd = 0) = false) := by
      rcases hk with rfl | rfl
      · exact .inl ⟨rfl, rfl⟩
      · exact .inr ⟨rfl, rfl, rfl⟩
    clear hk
    rcases k01 with ⟨k0, kq⟩ | ⟨k0, k1, kq⟩
    all_goals
      have HKQ := Lib.hid kq
      clear kq
      go_enter Try.func48, Try.ntmps48
      go_wp2_with (fail)
      obtain ⟨w1, hw1⟩ : ∃ w1, w1 = w.alloc (Obj.cells #[Value.int IntKind.i64 kd, Value.int IntKind.i64 a.1, Value.slice A a.2.length c] 60) := ⟨_, rfl⟩
      obtain ⟨B1, y1⟩ := HW.out w1 hw1
      rw [← hw1]
      clear hw1 q0 q1 q2 y0
      refine (implHeadOf_any _ _ a bs _ ⟨_, rfl, H2.out.on B1⟩ (H3.out.on B1) hr hr2).mono ?_
      rw [← HF.out.1, ← HF.out.2]
      rintro e w2 ⟨A', c', rfl, ho, hb2⟩
      have B2 := bthen B1 hb2
      have y2 := y1.below hb2 y1.lt
      have HO := Lib.hid ho
      clear ho y1
      go_wp2_with (fail)
      obtain ⟨w3, hw3⟩ : ∃ w3, w3 = w2.alloc (Obj.cells #[Value.int IntKind.i64 F.1, Value.slice A' F.2.length c'] 28) := ⟨_, rfl⟩
      have B23 : Below w2.heap.size w2 w3 := by rw [hw3]; exact below1 _ _
      have f3 : Blk w3 w2.heap.size 28 #[.int .i64 F.1, .slice A' F.2.length c'] := by rw [hw3]; exact Blk.new _ _ _
      rw [← hw3]
      clear hw3
      have y3 := y2.below B23 y2.lt
      have B3 := bthen B2 B23
      have RF := Lib.hid (show RdFact w3 w3.heap.size (.agg #[.int .i64 F.1, .slice A' F.2.length c']) F from ⟨_, rfl, HO.out.rd.on B23⟩)
      have L0 := later_cell (y3.cell 0 : w3.cell? ⟨w.heap.size, 0, none⟩ = some (.int .i64 kd))
      have L1 := later_cell (f3.cell 0 : w3.cell? ⟨w2.heap.size, 0, none⟩ = some (.int .i64 F.1))
      have L2 := later_cell (f3.cell 1 : w3.cell? ⟨w2.heap.size, 1, none⟩ = some (.slice A' F.2.length c'))
      have CF := Lib.hid (fun x : Later w3 => (implFactsHas_any _ _ fs F x.val ((H1.out.on B3).on x.2) (RF.out.on x.2) hn htt HFL.out))
      rw [← HH.out] at CF
      clear y2 y3 f3
      cases ok
      · have HE := Lib.hid (show R = false by rw [HD.out]; rfl)
        refine wp_region_later (by kernel_rfl) (by kernel_rfl) ?_
        repeat (go_big_quiet_step (fail))
        refine wpQuiet_nil ?_
        rintro _ ⟨xq, rfl⟩
        go_wp2_with (fail)
        go_ret
        exact ⟨ret_bool HE.out.symm, bthen B3 xq.2⟩
      · have HE := Lib.hid (show R = (hs == decide (kd = 0)) by rw [HD.out]; rfl)
        rw [HKQ.out] at HE
        cases hs
        all_goals
          refine wp_region_later (by kernel_rfl) (by kernel_rfl) ?_
          repeat (go_big_quiet_step (first | (go_at_call 60; exact later_of (CF.out _))))
          refine wpQuiet_nil ?_
          rintro _ ⟨xq, rfl⟩
          go_wp2_with (fail)
          go_ret
          exact ⟨ret_bool (by rw [HE.out]; rfl), bthen B3 xq.2⟩
  · by_cases hk2 : kd = 2 ∨ kd = 3
    · -- two terms that are compared
      obtain ⟨V, hV⟩ : ∃ V, V = boundL a.2 bs := ⟨_, rfl⟩
      have HV := Lib.hid hV
      have hVl : V.length ≤ a.2.length := by rw [hV]; exact boundL_length _ _
      have HD := Lib.hid (show R = (decide (V.length = 2) && cmpB kd (V.getD 0 0) (V.getD 1 0)) by
        rw [HR.out, hV]
        show (bindOk bs && a.2.all termOk && litHolds fs (kd, a) bs) = _
        unfold litHolds
        rw [if_pos (show (kd, a).1 = 2 ∨ (kd, a).1 = 3 from hk2)]
        show (bindOk bs && a.2.all termOk && (decide (a.2.length = 2) && cmpB kd (termVal bs (a.2.getD 0 0)) (termVal bs (a.2.getD 1 0)))) = _
        unfold boundL
        cases he : (bindOk bs && a.2.all termOk) with
        | false => simp
        | true =>
          simp only [Bool.true_and, if_true, List.length_map]
          by_cases hl : a.2.length = 2
          · obtain ⟨s, t, e⟩ : ∃ s t, a.2 = [s, t] := by
              match a.2, hl with
              | [s, t], _ => exact ⟨s, t, rfl⟩
            rw [e]
            rfl
          · rw [decide_eq_false hl]
            rfl)
      have k0 : (kd == 0) = false := by simp; omega
      have k1 : (kd == 1) = false := by simp; omega
      have k23 : (kd == 2) = true ∨ ((kd == 2) = false ∧ (kd == 3) = true) := by
        rcases hk2 with rfl | rfl
        · exact .inl rfl
        · exact .inr ⟨rfl, rfl⟩
      have HK2 := Lib.hid hk2
      clear hV hk hk2
      rcases k23 with k2 | ⟨k2, k3⟩
      all_goals
        go_enter Try.func48, Try.ntmps48
        go_wp2_with (fail)
        obtain ⟨w1, hw1⟩ : ∃ w1, w1 = w.alloc (Obj.cells #[Value.int IntKind.i64 kd, Value.int IntKind.i64 a.1, Value.slice A a.2.length c] 60) := ⟨_, rfl⟩
        obtain ⟨B1, y1⟩ := HW.out w1 hw1
        rw [← hw1]
        clear hw1 q0 q1 q2 y0
        refine (implBound_any _ _ a.2 bs _ (H2.out.on B1) (H3.out.on B1) hr hr2).mono ?_
        rw [← HV.out]
        rintro e w2 ⟨A', c', rfl, ho, hb2⟩
        have B2 := bthen B1 hb2
        have y2 := y1.below hb2 y1.lt
        have L0 := later_cell (y2.cell 0 : w2.cell? ⟨w.heap.size, 0, none⟩ = some (.int .i64 kd))
        by_cases hl : V.length = 2
        · obtain ⟨s, t, rfl⟩ : ∃ s t, V = [s, t] := by
            match V, hl with
            | [s, t], _ => exact ⟨s, t, rfl⟩
          obtain ⟨g, rfl, _, _, _, hcc, _⟩ := ho.at_ (by simp)
          have L1 := later_cell (hcc 0 (by simp) : w2.cell? ⟨g, 0, none⟩ = some (.int .i64 s))
          have L2 := later_cell (hcc 1 (by simp) : w2.cell? ⟨g, 1, none⟩ = some (.int .i64 t))
          have CC := Lib.hid (fun W => comparison_any kd s t HK2.out W)
          have HE := Lib.hid (show R = cmpB kd s t by rw [HD.out]; rfl)
          generalize cmpB kd s t = T at CC HE
          clear y1 y2 ho hcc hl hVl
          go_wp2_with (fail)
          refine wp_region_later (by kernel_rfl) (by kernel_rfl) ?_
          repeat (go_big_quiet_step (first | (go_at_call 86; exact later_same (CC.out _))))
          refine wpQuiet_nil ?_
          rintro _ ⟨xq, rfl⟩
          go_wp2_with (fail)
          go_ret
          exact ⟨ret_bool HE.out.symm, bthen B2 xq.2⟩
        · have hl1 : ((V.length : Int) == 2) = false := by simp; omega
          have HE := Lib.hid (show R = false by rw [HD.out, decide_eq_false hl]; rfl)
          clear y1 y2 ho hl
          go_wp2_with (fail)
          refine wp_region_later (by kernel_rfl) (by kernel_rfl) ?_
          repeat (go_big_quiet_step (fail))
          refine wpQuiet_nil ?_
          rintro _ ⟨xq, rfl⟩
          go_wp2_with (fail)
          go_ret
          exact ⟨ret_bool HE.out.symm, bthen B2 xq.2⟩
    · -- no kind
      have HE := Lib.hid (show R = false by
        rw [HR.out]
        show (bindOk bs && a.2.all termOk && litHolds fs (kd, a) bs) = false
        unfold litHolds
        rw [if_neg (show ¬ ((kd, a).1 = 2 ∨ (kd, a).1 = 3) from hk2), decide_eq_false (show ¬ (0 ≤ (kd, a).1 ∧ (kd, a).1 ≤ 1) by show ¬ (0 ≤ kd ∧ kd ≤ 1); omega), Bool.and_false, Bool.false_and, Bool.and_false])
      have k0 : (kd == 0) = false := by simp; omega
      have k1 : (kd == 1) = false := by simp; omega
      have k2 : (kd == 2) = false := by simp; omega
      have k3 : (kd == 3) = false := by simp; omega
      clear hk hk2
      go_enter Try.func48, Try.ntmps48
      go_wp2_with (fail)
      go_ret
      exact ⟨ret_bool HE.out.symm, below1 _ _⟩

end Go.Proofs.Ytehjhdihaloalaa
