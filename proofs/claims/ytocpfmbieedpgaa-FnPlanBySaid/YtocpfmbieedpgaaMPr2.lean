/-
  Texts that the claim's last one imports, laid together: part 2 of 3. No condition of its own.
-/
import Derived.Test.YtocpfmbieedpgaaMPb1
import Derived.Test.YtocpfmbieedpgaaMPb4
import Derived.Test.YtocpfmbieedpgaaMPb3
import Derived.Test.YtocpfmbieedpgaaMPb5
import Derived.Test.YtocpfmbieedpgaaMPb2
import Derived.Test.YtocpfmbieedpgaaMPr1
/-
  Both Holds.
-/
namespace Go.Proofs.Ytocpfmbieedpgaa
open Go.RowKit

/-- LitSame, LitLess: both have constants, and are the same, or the first is less. -/
def cmpB (k a b : Int) : Bool := (decide (0 ≤ a) && decide (0 ≤ b)) && (if k = 2 then decide (a = b) else decide (a < b))
def litHolds (fs : List LFact) (l : LLit) (bs : List Int) : Bool :=
  if l.1 = 2 ∨ l.1 = 3 then decide (l.2.2.length = 2) && cmpB l.1 (termVal bs (l.2.2.getD 0 0)) (termVal bs (l.2.2.getD 1 0))
  else (headOk l.2 bs && decide (0 ≤ l.1 ∧ l.1 ≤ 1)) && (factsHas fs (headOf l.2 bs) == decide (l.1 = 0))
def holdsB (fs : List LFact) (l : LLit) (bs : List Int) : Bool := (bindOk bs && l.2.2.all termOk) && litHolds fs l bs

theorem cmpB_neg {k a b : Int} (h : a < 0) : cmpB k a b = false := by unfold cmpB; rw [decide_eq_false (show ¬ 0 ≤ a by omega)]; rfl
theorem cmpB_neg2 {k a b : Int} (h : b < 0) : cmpB k a b = false := by unfold cmpB; rw [decide_eq_false (show ¬ 0 ≤ b by omega), Bool.and_false]; rfl
theorem cmpB_same {a b : Int} (h : 0 ≤ a) (h2 : 0 ≤ b) : cmpB 2 a b = decide (a = b) := by unfold cmpB; rw [decide_eq_true h, decide_eq_true h2]; simp
theorem cmpB_less {a b : Int} (h : 0 ≤ a) (h2 : 0 ≤ b) : cmpB 3 a b = decide (a < b) := by unfold cmpB; rw [decide_eq_true h, decide_eq_true h2]; simp

theorem comparison_any (k a b : Int) (hk : k = 2 ∨ k = 3) (w : World) :
    Calls Try.prog 161 #[.int .i64 k, .int .i64 a, .int .i64 b] w fun e w' => e = .returned (.bool (cmpB k a b)) ∧ w = w' := by
  by_cases h1 : a < 0
  · have HE := Lib.hid (cmpB_neg (k := k) (b := b) h1)
    go_enter Try.func161, Try.ntmps161
    go_wp2_with (fail)
    go_ret
    exact ⟨ret_bool HE.out.symm, rfl⟩
  · have hd1 : decide (a < 0) = false := by simpa using h1
    by_cases h2 : b < 0
    · have HE := Lib.hid (cmpB_neg2 (k := k) (a := a) h2)
      go_enter Try.func161, Try.ntmps161
      go_wp2_with (fail)
      go_ret
      exact ⟨ret_bool HE.out.symm, rfl⟩
    · have hd2 : decide (b < 0) = false := by simpa using h2
      rcases hk with rfl | rfl
      · by_cases h3 : a = b
        · have HE := Lib.hid (show cmpB 2 a b = true by rw [cmpB_same (by omega) (by omega)]; exact decide_eq_true h3)
          have hd3 : (a == b) = true := by simpa using h3
          clear h3
          go_enter Try.func161, Try.ntmps161
          go_wp2_with (fail)
          go_ret
          exact ⟨ret_bool HE.out.symm, rfl⟩
        · have HE := Lib.hid (show cmpB 2 a b = false by rw [cmpB_same (by omega) (by omega)]; exact decide_eq_false h3)
          have hd3 : (a == b) = false := by simpa using h3
          clear h3
          go_enter Try.func161, Try.ntmps161
          go_wp2_with (fail)
          go_ret
          exact ⟨ret_bool HE.out.symm, rfl⟩
      · by_cases h3 : a < b
        · have HE := Lib.hid (show cmpB 3 a b = true by rw [cmpB_less (by omega) (by omega)]; exact decide_eq_true h3)
          go_enter Try.func161, Try.ntmps161
          go_wp2_with (fail)
          go_ret
          exact ⟨ret_bool HE.out.symm, rfl⟩
        · have HE := Lib.hid (show cmpB 3 a b = false by rw [cmpB_less (by omega) (by omega)]; exact decide_eq_false h3)
          have hd3 : decide (a < b) = false := by simpa using h3
          go_enter Try.func161, Try.ntmps161
          go_wp2_with (fail)
          go_ret
          exact ⟨ret_bool HE.out.symm, rfl⟩

/-- Two values, and what a comparison of them answers. -/
theorem cmpB_cases (k a b : Int) (hk : k = 2 ∨ k = 3) : (a < 0 ∧ cmpB k a b = false) ∨ (0 ≤ a ∧ b < 0 ∧ cmpB k a b = false) ∨ (0 ≤ a ∧ 0 ≤ b ∧ cmpB k a b = (if k = 2 then a == b else decide (a < b))) := by
  rcases Int.lt_or_le a 0 with h | h
  · exact .inl ⟨h, cmpB_neg h⟩
  · rcases Int.lt_or_le b 0 with h2 | h2
    · exact .inr (.inl ⟨h, h2, cmpB_neg2 h2⟩)
    · refine .inr (.inr ⟨h, h2, ?_⟩)
      rcases hk with rfl | rfl
      · rw [cmpB_same h h2]
        rfl
      · rw [cmpB_less h h2]
        rfl

set_option maxHeartbeats 2000000 in
set_option maxRecDepth 100000 in
theorem l3HoldsCmp_any (v v3 : Value) (l : LLit) (bs : List Int) (v0 : Value) (w : World) (hkd : l.1 = 2 ∨ l.1 = 3) (h2 : RdLit w w.heap.size v l) (h3 : RdInts w w.heap.size v3 bs) (hb : bs.length = 4) (ht : l.2.2.all termOk = true) :
    Calls Try.prog 130 #[v0, v, v3] w fun e w' => e = .returned (.bool (decide (l.2.2.length = 2) && cmpB l.1 (termVal bs (l.2.2.getD 0 0)) (termVal bs (l.2.2.getD 1 0)))) ∧ Below w.heap.size w w' := by
  obtain ⟨kd, p, xs⟩ := l
  obtain ⟨u, rfl, A, c, rfl, hc, hx⟩ := h2
  simp only at hkd hx hc ht
  have H3 := Lib.hid h3
  obtain ⟨A3, c3, rfl, hc3, _⟩ := h3
  have HB := Lib.hid hb
  clear hb
  have y0 := Blk.new w 81 #[.int .i64 kd, .int .i64 p, .slice A xs.length c]
  by_cases hl : xs.length = 2
  · obtain ⟨s, t, rfl⟩ : ∃ s t, xs = [s, t] := by
      match xs, hl with
      | [s, t], _ => exact ⟨s, t, rfl⟩
    obtain ⟨b, o, rfl, hbB, hx⟩ := hx (by simp)
    have hs := List.all_eq_true.1 ht s (by simp)
    have htt := List.all_eq_true.1 ht t (by simp)
    have c0 : ∀ O, (w.alloc O).cell? ⟨b, o, none⟩ = some (.int .i64 s) := fun O => (World.cell?_alloc_lt w O ⟨b, o, none⟩ hbB).trans (hx 0 (by simp))
    have c1 : ∀ O, (w.alloc O).cell? ⟨b, o + 1, none⟩ = some (.int .i64 t) := fun O => (World.cell?_alloc_lt w O ⟨b, o + 1, none⟩ hbB).trans (hx 1 (by simp))
    have T1 := Lib.hid (fun O => l3Term_any (.slice A3 bs.length c3) bs s _ (w.alloc O) (H3.out.on (below1 w O)) HB.out hs)
    have T2 := Lib.hid (fun O => l3Term_any (.slice A3 bs.length c3) bs t _ (w.alloc O) (H3.out.on (below1 w O)) HB.out htt)
    obtain ⟨R, hR⟩ : ∃ R, R = cmpB kd (termVal bs s) (termVal bs t) := ⟨_, rfl⟩
    have HR := Lib.hid hR
    have HX := Lib.hid (cmpB_cases kd (termVal bs s) (termVal bs t) hkd)
    rw [← hR] at HX
    obtain ⟨av, hav⟩ : ∃ av, av = termVal bs s := ⟨_, rfl⟩
    obtain ⟨bv, hbv⟩ : ∃ bv, bv = termVal bs t := ⟨_, rfl⟩
    rw [← hav] at T1 HX
    rw [← hbv] at T2 HX
    have HG := Lib.hid (show (decide ([s, t].length = 2) && cmpB kd (termVal bs ([s, t].getD 0 0)) (termVal bs ([s, t].getD 1 0))) = R by rw [hR]; rfl)
    show Calls _ _ _ _ fun e w' => e = .returned (.bool (decide ([s, t].length = 2) && cmpB kd (termVal bs ([s, t].getD 0 0)) (termVal bs ([s, t].getD 1 0)))) ∧ _
    rw [HG.out]
    clear hR hav hbv hs htt ht hx hl HR
    have q0 := y0.cell 0
    have q1 := y0.cell 1
    have q2 := y0.cell 2
    simp only [List.length_cons, List.length_nil] at q2
    rcases hkd with rfl | rfl
    · rcases HX.out with ⟨h1, e⟩ | ⟨h1, h2, e⟩ | ⟨h1, h2, e⟩
      · have hd1 : decide (0 ≤ av) = false := by simp; omega
        have HE := Lib.hid e
        clear e
        go_enter Try.func130, Try.ntmps130
        go_wp2_with (fail)
        refine (T1.out _).mono ?_
        rintro e w' ⟨rfl, rfl⟩
        go_wp2_with (fail)
        refine (T2.out _).mono ?_
        rintro e w' ⟨rfl, rfl⟩
        go_wp2_with (fail)
        go_ret
        exact ⟨ret_bool HE.out.symm, below1 _ _⟩
      · have hd2 : decide (0 ≤ bv) = false := by simp; omega
        have HE := Lib.hid e
        clear e
        go_enter Try.func130, Try.ntmps130
        go_wp2_with (fail)
        refine (T1.out _).mono ?_
        rintro e w' ⟨rfl, rfl⟩
        go_wp2_with (fail)
        refine (T2.out _).mono ?_
        rintro e w' ⟨rfl, rfl⟩
        go_wp2_with (fail)
        go_ret
        exact ⟨ret_bool HE.out.symm, below1 _ _⟩
      · have e' : R = (av == bv) := e
        clear e
        by_cases h3 : av = bv
        · have hd3 : (av == bv) = true := by simpa using h3
          have HE := Lib.hid (show R = true by rw [e', hd3])
          clear e' h3
          go_enter Try.func130, Try.ntmps130
          go_wp2_with (fail)
          refine (T1.out _).mono ?_
          rintro e w' ⟨rfl, rfl⟩
          go_wp2_with (fail)
          refine (T2.out _).mono ?_
          rintro e w' ⟨rfl, rfl⟩
          go_wp2_with (fail)
          go_ret
          exact ⟨ret_bool HE.out.symm, below1 _ _⟩
        · have hd3 : (av == bv) = false := by simpa using h3
          have HE := Lib.hid (show R = false by rw [e', hd3])
          clear e' h3
          go_enter Try.func130, Try.ntmps130
          go_wp2_with (fail)
          refine (T1.out _).mono ?_
          rintro e w' ⟨rfl, rfl⟩
          go_wp2_with (fail)
          refine (T2.out _).mono ?_
          rintro e w' ⟨rfl, rfl⟩
          go_wp2_with (fail)
          go_ret
          exact ⟨ret_bool HE.out.symm, below1 _ _⟩
    · rcases HX.out with ⟨h1, e⟩ | ⟨h1, h2, e⟩ | ⟨h1, h2, e⟩
      · have hd1 : decide (0 ≤ av) = false := by simp; omega
        have HE := Lib.hid e
        clear e
        go_enter Try.func130, Try.ntmps130
        go_wp2_with (fail)
        refine (T1.out _).mono ?_
        rintro e w' ⟨rfl, rfl⟩
        go_wp2_with (fail)
        refine (T2.out _).mono ?_
        rintro e w' ⟨rfl, rfl⟩
        go_wp2_with (fail)
        go_ret
        exact ⟨ret_bool HE.out.symm, below1 _ _⟩
      · have hd2 : decide (0 ≤ bv) = false := by simp; omega
        have HE := Lib.hid e
        clear e
        go_enter Try.func130, Try.ntmps130
        go_wp2_with (fail)
        refine (T1.out _).mono ?_
        rintro e w' ⟨rfl, rfl⟩
        go_wp2_with (fail)
        refine (T2.out _).mono ?_
        rintro e w' ⟨rfl, rfl⟩
        go_wp2_with (fail)
        go_ret
        exact ⟨ret_bool HE.out.symm, below1 _ _⟩
      · have e' : R = decide (av < bv) := e
        clear e
        by_cases h3 : av < bv
        · have HE := Lib.hid (show R = true by rw [e']; exact decide_eq_true h3)
          clear e'
          go_enter Try.func130, Try.ntmps130
          go_wp2_with (fail)
          refine (T1.out _).mono ?_
          rintro e w' ⟨rfl, rfl⟩
          go_wp2_with (fail)
          refine (T2.out _).mono ?_
          rintro e w' ⟨rfl, rfl⟩
          go_wp2_with (fail)
          go_ret
          exact ⟨ret_bool HE.out.symm, below1 _ _⟩
        · have hd3 : decide (av < bv) = false := by simpa using h3
          have HE := Lib.hid (show R = false by rw [e', hd3])
          clear e'
          go_enter Try.func130, Try.ntmps130
          go_wp2_with (fail)
          refine (T1.out _).mono ?_
          rintro e w' ⟨rfl, rfl⟩
          go_wp2_with (fail)
          refine (T2.out _).mono ?_
          rintro e w' ⟨rfl, rfl⟩
          go_wp2_with (fail)
          go_ret
          exact ⟨ret_bool HE.out.symm, below1 _ _⟩
  · have hl1 : ((xs.length : Int) != 2) = true := by simp; omega
    have HG := Lib.hid (show (decide (xs.length = 2) && cmpB kd (termVal bs (xs.getD 0 0)) (termVal bs (xs.getD 1 0))) = false by rw [decide_eq_false hl]; rfl)
    show Calls _ _ _ _ fun e w' => e = .returned (.bool (decide (xs.length = 2) && cmpB kd (termVal bs (xs.getD 0 0)) (termVal bs (xs.getD 1 0)))) ∧ _
    rw [HG.out]
    clear hx hl
    have q0 := y0.cell 0
    have q2 := y0.cell 2
    rcases hkd with rfl | rfl
    all_goals
      go_enter Try.func130, Try.ntmps130
      go_wp2_with (fail)
      go_ret
      exact ⟨rfl, below1 _ _⟩

end Go.Proofs.Ytocpfmbieedpgaa
/-
  Both Holds: literals that an atom holds, or does not.
-/
namespace Go.Proofs.Ytocpfmbieedpgaa
open Go.RowKit

theorem l1In_is {n lo hi : Int} {b : Bool} (h : decide (lo ≤ n ∧ n ≤ hi) = b) (w : World) : Calls Try.prog 61 #[.int .i64 n, .int .i64 lo, .int .i64 hi] w fun e w' => e = .returned (.bool b) ∧ w = w' := h ▸ l1In_any n lo hi w

set_option maxHeartbeats 2000000 in
set_option maxRecDepth 100000 in
theorem l3HoldsAsk_any (v0 v v3 : Value) (fs : List LFact) (l : LLit) (bs : List Int) (w : World) (hkd : ¬ (l.1 = 2 ∨ l.1 = 3)) (h1 : RdFacts w w.heap.size v0 fs) (h2 : RdLit w w.heap.size v l) (h3 : RdInts w w.heap.size v3 bs)
    (hn : fs.length ≤ 1048576) (htt : tot fs ≤ 1048576) (hr : l.2.2.length ≤ 1048576) (hr2 : bs.length ≤ 1048576) :
    Calls Try.prog 130 #[v0, v, v3] w fun e w' => e = .returned (.bool ((headOk l.2 bs && decide (0 ≤ l.1 ∧ l.1 ≤ 1)) && (factsHas fs (headOf l.2 bs) == decide (l.1 = 0)))) ∧ Below w.heap.size w w' := by
  obtain ⟨kd, a⟩ := l
  obtain ⟨u, rfl, h2⟩ := h2
  have H1 := Lib.hid h1
  have H2 := Lib.hid h2
  have H3 := Lib.hid h3
  obtain ⟨A1, c1, rfl, hc1, _⟩ := h1
  obtain ⟨A, c, rfl, hc, _⟩ := h2
  obtain ⟨A3, c3, rfl, hc3, _⟩ := h3
  simp only at hkd hc hr
  obtain ⟨F, hF⟩ : ∃ F, F = headOf a bs := ⟨_, rfl⟩
  obtain ⟨ok, hok⟩ : ∃ ok, ok = headOk a bs := ⟨_, rfl⟩
  obtain ⟨hs, hhs⟩ : ∃ hs, hs = factsHas fs F := ⟨_, rfl⟩
  obtain ⟨R, hR⟩ : ∃ R, R = ((ok && decide (0 ≤ kd ∧ kd ≤ 1)) && (hs == decide (kd = 0))) := ⟨_, rfl⟩
  show Calls _ _ _ _ fun e w' => e = .returned (.bool ((headOk a bs && decide (0 ≤ kd ∧ kd ≤ 1)) && (factsHas fs (headOf a bs) == decide (kd = 0)))) ∧ _
  rw [← hF, ← hok, ← hhs, ← hR]
  have HR := Lib.hid hR
  have HF := Lib.hid (And.intro hF hok)
  have HFL := Lib.hid (show F.2.length ≤ 1048576 by have := headOf_length a bs; rw [hF]; omega)
  have HH := Lib.hid hhs
  clear hR hF hok hhs
  have k2 : (kd == 2) = false := by have h : kd ≠ 2 := fun e => hkd (.inl e); simpa using h
  have k3 : (kd == 3) = false := by have h : kd ≠ 3 := fun e => hkd (.inr e); simpa using h
  have y0 := Blk.new w 81 #[.int .i64 kd, .int .i64 a.1, .slice A a.2.length c]
  have q0 := y0.cell 0
  have q1 := y0.cell 1
  have q2 := y0.cell 2
  go_enter Try.func130, Try.ntmps130
  go_wp2_with (fail)
  obtain ⟨w1, hw1⟩ : ∃ w1, w1 = w.alloc (Obj.cells #[Value.int IntKind.i64 kd, Value.int IntKind.i64 a.1, Value.slice A a.2.length c] 81) := ⟨_, rfl⟩
  have B1 : Below w.heap.size w w1 := by rw [hw1]; exact below1 _ _
  rw [← hw1] at y0 ⊢
  clear hw1 q0 q1 q2
  refine (specHeadOf_any _ _ a bs _ ⟨_, rfl, H2.out.on B1⟩ (H3.out.on B1) hr hr2).mono ?_
  rw [← HF.out.1, ← HF.out.2]
  rintro e w2 ⟨A', c', rfl, ho, hb2⟩
  have B2 := bthen B1 hb2
  have y2 := y0.below hb2 y0.lt
  have HO := Lib.hid ho
  clear ho y0
  go_wp2_with (fail)
  obtain ⟨w3, hw3⟩ : ∃ w3, w3 = w2.alloc (Obj.cells #[Value.int IntKind.i64 F.1, Value.slice A' F.2.length c'] 118) := ⟨_, rfl⟩
  have B23 : Below w2.heap.size w2 w3 := by rw [hw3]; exact below1 _ _
  have f3 : Blk w3 w2.heap.size 118 #[.int .i64 F.1, .slice A' F.2.length c'] := by rw [hw3]; exact Blk.new _ _ _
  rw [← hw3]
  clear hw3
  have y3 := y2.below B23 y2.lt
  have B3 := bthen B2 B23
  have RF := Lib.hid (show RdFact w3 w3.heap.size (.agg #[.int .i64 F.1, .slice A' F.2.length c']) F from ⟨_, rfl, HO.out.rd.on B23⟩)
  have L0 := later_cell (y3.cell 0 : w3.cell? ⟨w.heap.size, 0, none⟩ = some (.int .i64 kd))
  have L1 := later_cell (f3.cell 0 : w3.cell? ⟨w2.heap.size, 0, none⟩ = some (.int .i64 F.1))
  have L2 := later_cell (f3.cell 1 : w3.cell? ⟨w2.heap.size, 1, none⟩ = some (.slice A' F.2.length c'))
  have CF := Lib.hid (fun x : Later w3 => (specFactsHas_any _ _ fs F x.val ((H1.out.on B3).on x.2) (RF.out.on x.2) hn htt HFL.out))
  rw [← HH.out] at CF
  clear y2 y3 f3
  cases ok
  · have HE := Lib.hid (show R = false by rw [HR.out]; rfl)
    refine wp_region_later (by kernel_rfl) (by kernel_rfl) ?_
    repeat (go_big_quiet_step (fail))
    refine wpQuiet_nil ?_
    rintro _ ⟨xq, rfl⟩
    go_wp2_with (fail)
    go_ret
    exact ⟨ret_bool HE.out.symm, bthen B3 xq.2⟩
  · by_cases hin : 0 ≤ kd ∧ kd ≤ 1
    · have CI := Lib.hid (fun W => l1In_yes hin W)
      have HD := Lib.hid (show R = (hs == decide (kd = 0)) by rw [HR.out, decide_eq_true hin]; rfl)
      by_cases h0 : kd = 0
      · have k0 : (kd == 0) = true := by simpa using h0
        have HE := Lib.hid (show R = (hs == true) by rw [HD.out, decide_eq_true h0])
        clear h0 hin
        cases hs
        all_goals
          refine wp_region_later (by kernel_rfl) (by kernel_rfl) ?_
          repeat (go_big_quiet_step (first | (go_at_call 61; exact later_same (CI.out _)) | (go_at_call 150; exact later_of (CF.out _))))
          refine wpQuiet_nil ?_
          rintro _ ⟨xq, rfl⟩
          go_wp2_with (fail)
          go_ret
          exact ⟨ret_bool (by rw [HE.out]; rfl), bthen B3 xq.2⟩
      · have k0 : (kd == 0) = false := by simpa using h0
        have HE := Lib.hid (show R = (hs == false) by rw [HD.out, decide_eq_false h0])
        clear h0 hin
        cases hs
        all_goals
          refine wp_region_later (by kernel_rfl) (by kernel_rfl) ?_
          repeat (go_big_quiet_step (first | (go_at_call 61; exact later_same (CI.out _)) | (go_at_call 150; exact later_of (CF.out _))))
          refine wpQuiet_nil ?_
          rintro _ ⟨xq, rfl⟩
          go_wp2_with (fail)
          go_ret
          exact ⟨ret_bool (by rw [HE.out]; rfl), bthen B3 xq.2⟩
    · have CI := Lib.hid (fun W => l1In_no hin W)
      have HE := Lib.hid (show R = false by rw [HR.out, decide_eq_false hin]; rfl)
      clear hin
      refine wp_region_later (by kernel_rfl) (by kernel_rfl) ?_
      repeat (go_big_quiet_step (first | (go_at_call 61; exact later_same (CI.out _))))
      refine wpQuiet_nil ?_
      rintro _ ⟨xq, rfl⟩
      go_wp2_with (fail)
      go_ret
      exact ⟨ret_bool HE.out.symm, bthen B3 xq.2⟩

theorem l3Holds_any (v0 v v3 : Value) (fs : List LFact) (l : LLit) (bs : List Int) (w : World) (h1 : RdFacts w w.heap.size v0 fs) (h2 : RdLit w w.heap.size v l) (h3 : RdInts w w.heap.size v3 bs)
    (hb : bs.length = 4) (ht : l.2.2.all termOk = true) (hn : fs.length ≤ 1048576) (htt : tot fs ≤ 1048576) (hr : l.2.2.length ≤ 1048576) :
    Calls Try.prog 130 #[v0, v, v3] w fun e w' => e = .returned (.bool (litHolds fs l bs)) ∧ Below w.heap.size w w' := by
  by_cases h : l.1 = 2 ∨ l.1 = 3
  · have := l3HoldsCmp_any v v3 l bs v0 w h h2 h3 hb ht
    unfold litHolds
    rw [if_pos h]
    exact this
  · have := l3HoldsAsk_any v0 v v3 fs l bs w h h1 h2 h3 hn htt hr (by omega)
    unfold litHolds
    rw [if_neg h]
    exact this

end Go.Proofs.Ytocpfmbieedpgaa
/-
  The specification's l3Row, l3None, l3Try.
-/
namespace Go.Proofs.Ytocpfmbieedpgaa
open Go.RowKit

set_option maxHeartbeats 1000000 in
set_option maxRecDepth 100000 in
theorem l3None_any (w : World) :
    Calls Try.prog 113 #[] w fun e w' => ∃ A' c', e = .returned (.slice A' 4 c') ∧ OwnInts w' w.heap.size w'.heap.size (.slice A' 4 c') noneB ∧ Below w.heap.size w w' := by
  obtain ⟨i0, hi0, hz0, hz1, hz2⟩ := info_parts Try.infoInt
  have C0 := Lib.hid (ColI.empty (Below.refl w.heap.size w))
  go_enter Try.func113, Try.ntmps113
  go_wp2_with (fail)
  go_loopw [1, 2] (fun o i wr => ∃ (k : Nat) (A' : Option Addr) (c' : Nat), k ≤ 4 ∧ i = .int .i64 k ∧ o = .slice A' (List.replicate k (-1 : Int)).length c' ∧ ColI w wr (List.replicate k (-1)) A' c') (fun _ i _ => 4 - (intOf i).toNat)
  case atStart => exact ⟨0, _, 0, Nat.zero_le _, rfl, rfl, C0.out⟩
  case round =>
    obtain ⟨k, A', c', hk, rfl, rfl, hr'⟩ := hrel
    by_cases hlt : k < 4
    · have HS := Lib.hid (show List.replicate (k + 1) (-1 : Int) = List.replicate k (-1) ++ [-1] from List.replicate_succ')
      have HP := Lib.hid hr'
      clear hr'
      obtain ⟨zs, hzs⟩ : ∃ zs, zs = List.replicate k (-1 : Int) := ⟨_, rfl⟩
      have hln : zs.length ≤ 4 := by rw [hzs]; simp; omega
      have HZ := Lib.hid hzs
      rw [← hzs] at HP ⊢
      clear hzs
      go_wp2_with (at_builtin; refine wpList_append_lies _ rfl (.tmp 8) (.tmp 9) 23 rfl w.heap.size 3 i0 (.int .i64 0) 1 8 Try.underlying23 hi0 hz0 hz1 hz2 rfl (by decide) (.slice A' zs.length c') zs.length (zs.map (Value.int .i64)) rfl ?c1 ⟨_, 0, none⟩ 1 1 [.int .i64 (-1)] rfl rfl (news1s _ _ _ _ (by simp)) ?c2 (by omega) (by unfold maxLen; omega) (by omega) ?c3 _ rfl ?_)
      case c1 => exact HP.out.own.1.alloc _
      case c2 => first | rfl | (intro u hu; simp at hu; subst hu; rfl)
      case c3 => have := HP.out.below.size; simp; omega
      intro g cap w4 hown hg _ _
      have hcol := HP.out.push (Below.refl _ _) hg hown
      rw [HZ.out, ← HS.out] at hcol
      have hlen : zs.length + 1 = (List.replicate (k + 1) (-1 : Int)).length := by rw [HZ.out]; simp
      rw [hlen]
      have HC := Lib.hid hcol
      clear hcol hlen hown hg
      go_wp2_with (fail)
      go_roundw
      case rel => exact ⟨k + 1, _, _, by omega, by go_num, rfl, HC.out⟩
      case measure => simp [intOf]; omega
    · have hkn : k = 4 := by omega
      subst hkn
      have HP := Lib.hid hr'
      clear hr'
      go_wp2_with (fail)
      go_ret
      exact ⟨_, _, rfl, HP.out.own, HP.out.below⟩

end Go.Proofs.Ytocpfmbieedpgaa
/-
  slices.Clone at integers.
-/
namespace Go.Proofs.Ytocpfmbieedpgaa
open Go.RowKit

set_option maxRecDepth 100000 in
theorem cloneI_any (v : Value) (xs : List Int) (w : World) (h : RdInts w w.heap.size v xs) (hn : xs.length ≤ 1048576) :
    Calls Try.prog 98 #[v] w fun e w' => ∃ A c, e = .returned (.slice A xs.length c) ∧ OwnInts w' w.heap.size w'.heap.size (.slice A xs.length c) xs ∧ Below w.heap.size w w' := by
  obtain ⟨A, c, rfl, hc, hx⟩ := h
  have fin : ∀ (v' : Value) (w' : World), w'.ownsRow w.heap.size 3 1 v' xs.length (xs.map (Value.int .i64)) → Below w.heap.size w w' → ∃ A c, Ending.returned v' = .returned (.slice A xs.length c) ∧ OwnInts w' w.heap.size w'.heap.size (.slice A xs.length c) xs ∧ Below w.heap.size w w' := fun v' w' ho hb => by
    have ho2 : OwnInts w' w.heap.size w'.heap.size v' xs := ⟨ho, fun g hg => (ho.lt g hg).2⟩
    obtain ⟨A', c', rfl⟩ := ho2.form
    exact ⟨A', c', rfl, ho2, hb⟩
  by_cases hp : 0 < xs.length
  · obtain ⟨b, o, rfl, hb, hk⟩ := hx hp
    have hcon := Any.slices_Clone_int Try.cloneI b o xs.length c xs w (Nat.le_refl _) (by omega) (fun j hj => by rw [hk j hj]; simp [hj])
    refine Calls.mono hcon ?_
    rintro e w' ⟨v', rfl, ho, _, hb'⟩
    exact fin v' w' (by rw [List.take_length] at ho; exact ho) hb'
  · have h0 : xs = [] := List.eq_nil_of_length_eq_zero (by omega)
    subst h0
    rcases A with _ | a
    · have hcon := Any.slices_Clone_int_nil Try.cloneI 0 c w
      refine Calls.mono hcon ?_
      rintro e w' ⟨rfl, rfl⟩
      exact ⟨none, 0, rfl, ⟨World.ownsRow_nil _ _ _ _, fun g hg => by cases hg⟩, Below.refl _ _⟩
    · have hcon := Any.slices_Clone_int_zero Try.cloneI a c w
      refine Calls.mono hcon ?_
      rintro e w' ⟨v', rfl, ho, _, hb'⟩
      exact fin v' w' ho hb'

end Go.Proofs.Ytocpfmbieedpgaa
/-
  The walks of ordersFrom and PlanOrders of the program.
-/
namespace Go.Proofs.Ytocpfmbieedpgaa
open Go.RowKit

theorem Try.infoIntSO : (Try.prog.info? 23).map (fun i => (i.zero, i.size, i.bytes)) = some (some (.slice none 0 0), 1, 24) := by kernel_rfl
/-- Blocks that stand keep what they hold, but for the orders' row and the begun order's. -/
structure OrdKept (w w' : World) (u x u' : Value) : Prop where
  size : w.heap.size ≤ w'.heap.size
  block : ∀ q, q < w.heap.size → some q ≠ u.ownBlock → some q ≠ x.ownBlock → w'.heap[q]? = w.heap[q]?
  own : u'.ownBlock = u.ownBlock ∨ ∀ g, u'.ownBlock = some g → w.heap.size ≤ g
section
variable {w w1 w' : World} {u x u' u2 x2 : Value}
theorem OrdKept.refl (w : World) (u x : Value) : OrdKept w w u x u := ⟨Nat.le_refl _, fun _ _ _ _ => rfl, .inl rfl⟩
theorem OrdKept.on (h : OrdKept w w1 u x u') (hb : Below w1.heap.size w1 w') : OrdKept w w' u x u' := ⟨Nat.le_trans h.size hb.size, fun q h1 h2 h3 => (hb.block q (Nat.lt_of_lt_of_le h1 h.size)).trans (h.block q h1 h2 h3), h.own⟩
theorem OrdKept.trans (h : OrdKept w w1 u x u') (k : OrdKept w1 w' u' x2 u2) (hx : x2.ownBlock = x.ownBlock ∨ ∀ g, x2.ownBlock = some g → w.heap.size ≤ g) : OrdKept w w' u x u2 := by
  refine ⟨Nat.le_trans h.size k.size, fun q h1 h2 h3 => ?_, ?_⟩
  · refine (k.block q (Nat.lt_of_lt_of_le h1 h.size) (fun e => ?_) (fun e => ?_)).trans (h.block q h1 h2 h3)
    · rcases h.own with h4 | h4
      · exact h2 (e.trans h4)
      · have := h4 q e.symm; omega
    · rcases hx with h4 | h4
      · exact h3 (e.trans h4)
      · have := h4 q e.symm; omega
  · rcases k.own with h4 | h4
    · rcases h.own with h5 | h5
      · exact .inl (h4.trans h5)
      · exact .inr fun g hg => h5 g (h4 ▸ hg)
    · exact .inr fun g hg => Nat.le_trans h.size (h4 g hg)
/-- The begun order has grown by one. -/
theorem OrdKept.begun (h : OrdKept w w1 u x u') (hg : w1.grownBy w' x.ownBlock) : OrdKept w w' u x u' :=
  ⟨Nat.le_trans h.size hg.size, fun q h1 h2 h3 => (hg.block q (Nat.lt_of_lt_of_le h1 h.size) h3).trans (h.block q h1 h2 h3), h.own⟩
end
theorem ColO.begun {lo : Nat} {w wr w2 : World} {xss : List (List Int)} {A AX : Option Addr} {c cX n hi : Nat} {av : List Value} {xs : List Int} (h : ColO lo w wr xss A c av) (hX : OwnInts wr lo hi (.slice AX n cX) xs)
    (hap : ∀ a ∈ av, ∀ g, a.ownBlock = some g → (Value.slice AX n cX).ownBlock ≠ some g) (hg : wr.grownBy w2 (Value.slice AX n cX).ownBlock) : ColO lo w w2 xss A c av := by
  refine h.kept (h.below.grown hg h.below.size fun k hk => Nat.le_trans h.lo1 (hX.lt hk).1) hg.size fun q hq hc => hg.block q hq fun e => ?_
  rcases hc with hc | ⟨a, ha, hc⟩
  · exact rowsI_ne h.row hc.symm hX e.symm
  · exact hap a ha q hc e.symm

set_option maxHeartbeats 8000000 in
set_option maxRecDepth 100000 in
theorem ordersFrom_any (b : List LLit) (lo : Nat) (w0 : World) (AB : Option Addr) (cB : Nat) (hB : RdLits w0 w0.heap.size (.slice AB b.length cB) b) (hb4 : b.length ≤ 4) (ht : totL b ≤ 1048576) :
    ∀ (d : Nat) (xs : List Int) (out : List (List Int)) (A : Option Addr) (c : Nat) (av : List Value) (AX : Option Addr) (cX : Nat) (w : World),
      xs.length + d = b.length → out.length + 4 ^ d ≤ 4096 → ColO lo w0 w out A c av → OwnInts w lo w.heap.size (.slice AX xs.length cX) xs → (∀ a ∈ av, ∀ g, a.ownBlock = some g → (Value.slice AX xs.length cX).ownBlock ≠ some g) →
      Calls Try.prog 54 #[.slice A out.length c, .slice AB b.length cB, .slice AX xs.length cX, .int .u64 ((ordMask b xs : Nat) : Int)] w fun e w' =>
        ∃ A' c' avn, e = .returned (.slice A' (out ++ ordF b d xs).length c') ∧ ColO lo w0 w' (out ++ ordF b d xs) A' c' (av ++ avn) ∧ (∀ a ∈ avn, ∀ g, a.ownBlock = some g → w.heap.size ≤ g) ∧
          OwnInts w' lo w'.heap.size (.slice AX xs.length cX) xs ∧ OrdKept w w' (.slice A out.length c) (.slice AX xs.length cX) (.slice A' (out ++ ordF b d xs).length c') := by
  obtain ⟨i0, hi0, hz0, hz1, hz2⟩ := info_parts Try.infoInt
  obtain ⟨i1, hi1, hy0, hy1, hy2⟩ := info_parts Try.infoIntSO
  have HB0 := Lib.hid hB
  clear hB
  intro d
  induction d with
  | zero =>
    intro xs out A c av AX cX w hlen hout hcol hbeg hap
    have HCOL := Lib.hid hcol
    have HBEG := Lib.hid hbeg
    have l0 : ((xs.length : Int) == (b.length : Int)) = true := by rw [beq_iff_eq]; omega
    have CC := Lib.hid (cloneI_any (.slice AX xs.length cX) xs w hbeg.rd (by omega))
    have hol : out.length ≤ 4096 := by omega
    clear hcol hbeg hap hlen
    go_enter Try.func54, Try.ntmps54
    go_wp2_with (first | (go_at_call 98; refine CC.out.mono ?_; rintro e w1 ⟨P, q, rfl, o1, g1⟩) | (at_builtin; refine wpList_append_lies _ rfl (.tmp 16) (.tmp 19) 35 rfl lo 23 i1 (.slice none 0 0) 1 24 Try.underlying35 hi1 hy0 hy1 hy2 rfl (by decide) (.slice A out.length c) out.length av rfl ?c1 ⟨w1.heap.size, 0, none⟩ 1 1 [.slice P xs.length q] rfl rfl (news1o w1 _ _) ?c2 (by omega) (by unfold maxLen; omega) (by omega) ?c3 _ rfl ?_))
    case c1 => exact ((HCOL.out.on g1).row).alloc _
    case c2 => first | (intro u hu; simp at hu; subst hu; rfl) | rfl
    case c3 => have := HCOL.out.lo2; have := g1.size; simp; omega
    intro g2 cap w4 hown hg hat _
    have hpush := HCOL.out.push (xs := xs) (xss' := out ++ ordF b 0 xs) rfl g1 o1 hg hown
    have HPU := Lib.hid hpush
    have hgf := grown_from_alloc hg
    have s1 := g1.size
    have HK := Lib.hid (show OrdKept w w4 (.slice A out.length c) (.slice AX xs.length cX) (.slice (some ⟨g2, 0, none⟩) (out.length + 1) cap) from
      ⟨Nat.le_trans s1 hgf.size, fun q h1 h2 _ => (hgf.block q (by omega) h2).trans (g1.block q h1), by
        rcases hat with h | h
        · exact .inl h.symm
        · refine .inr fun g hg => ?_
          have : g2 = g := by simpa [Value.ownBlock] using hg
          omega⟩)
    have HX := Lib.hid (show OwnInts w4 lo w4.heap.size (.slice AX xs.length cX) xs from by
      refine ((HBEG.out.below g1 (Nat.le_refl _)).kept fun q hq => hgf.block q ?_ fun e => ?_).mono (Nat.le_refl _) (by have := hgf.size; omega)
      · have := HBEG.out.lt hq; omega
      · exact rowsI_ne HCOL.out.row e.symm HBEG.out hq)
    have HN := Lib.hid (show ∀ a ∈ [Value.slice P xs.length q], ∀ g, a.ownBlock = some g → w.heap.size ≤ g from fun a ha g hg => by
      obtain rfl := List.mem_singleton.1 ha
      exact (o1.lt hg).1)
    clear hpush hown hg hat hgf
    go_wp2_with fail
    go_ret
    refine ⟨some ⟨g2, 0, none⟩, cap, [.slice P xs.length q], by rw [← HPU.out.2]; rfl, HPU.out.1, HN.out, HX.out, ?_⟩
    rw [← HPU.out.2]
    exact HK.out
  | succ d ih =>
    intro xs out A c av AX cX w hlen hout hcol hbeg hap
    have HIH := Lib.hid ih
    clear ih
    have HCOL0 := Lib.hid hcol
    have HBEG0 := Lib.hid hbeg
    have HAP0 := Lib.hid hap
    have HLEN := Lib.hid hlen
    have hxl : xs.length < b.length := by omega
    have hd3 : d ≤ 3 := by omega
    have HP := Lib.hid (show out.length + 4 * 4 ^ d ≤ 4096 by rw [Nat.pow_succ] at hout; omega)
    have HF := Lib.hid (ordF_few hb4 d)
    have l0 : ((xs.length : Int) == (b.length : Int)) = false := by rw [beq_eq_false_iff_ne]; omega
    obtain ⟨m, hm⟩ : ∃ m, m = ordMask b xs := ⟨_, rfl⟩
    have HM := Lib.hid (And.intro hm (show m < 16 by rw [hm]; exact ordMask_lt _ _))
    rw [← hm]
    obtain ⟨M, hMM⟩ : ∃ M : Int, M = ((m : Nat) : Int) := ⟨_, rfl⟩
    rw [← hMM]
    have HMM := Lib.hid hMM
    clear hcol hbeg hap hlen hout hm hMM
    go_enter Try.func54, Try.ntmps54
    go_wp2_with fail
    go_loopw [0, 9, 10, 23] (fun p _ _ i wr => ∃ (j : Nat) (A' : Option Addr) (c' : Nat) (avn : List Value), j ≤ b.length ∧ i = .int .i64 j ∧ p = .slice A' (out ++ ordTo (ordF b d) (canAt b xs) xs j).length c' ∧ ColO lo w0 wr (out ++ ordTo (ordF b d) (canAt b xs) xs j) A' c' (av ++ avn) ∧ (∀ a ∈ avn, ∀ g, a.ownBlock = some g → w.heap.size ≤ g) ∧ OwnInts wr lo wr.heap.size (.slice AX xs.length cX) xs ∧ OrdKept w wr (.slice A out.length c) (.slice AX xs.length cX) (.slice A' (out ++ ordTo (ordF b d) (canAt b xs) xs j).length c')) (fun _ _ _ i _ => b.length - (intOf i).toNat)
    case atStart => exact ⟨0, A, c, [], Nat.zero_le _, rfl, by rw [ordTo_zero, List.append_nil], by rw [ordTo_zero, List.append_nil, List.append_nil]; exact HCOL0.out, (fun a ha => by cases ha), HBEG0.out, by rw [ordTo_zero, List.append_nil]; exact OrdKept.refl _ _ _⟩
    case round =>
      obtain ⟨j, A', c', avn, hj, rfl, rfl, hcol, havn, hbeg, hkp⟩ := hrel
      obtain ⟨O, hO⟩ : ∃ O, O = out ++ ordTo (ordF b d) (canAt b xs) xs j := ⟨_, rfl⟩
      rw [← hO] at hcol hkp ⊢
      have HO := Lib.hid hO
      clear hO
      have HCOL := Lib.hid hcol
      have HAVN := Lib.hid havn
      have HBEG := Lib.hid hbeg
      have HKP := Lib.hid hkp
      have BW := hcol.below
      have hRL := HF.out
      have HRN := Lib.hid (ordTo_few (q := canAt b xs) (xs := xs) HF.out j)
      clear hcol havn hbeg hkp hRL
      by_cases hlt : j < b.length
      · obtain ⟨b3, o3, u0, u1, u2, hAB, hbB3, k0, k1, k2, rfl, rfl, p3⟩ := HB0.out.get hlt
        subst hAB
        have HA3 := Lib.hid p3
        obtain ⟨A4, c4, rfl, hc4, _⟩ := p3
        have hle := len_le_totL b j hlt
        have k0 := (BW.cell (p := ⟨b3, o3 + j * 3, none⟩) hbB3).trans k0
        have k1 := (BW.cell (p := ⟨b3, o3 + j * 3 + 1, none⟩) hbB3).trans k1
        have k2 := (BW.cell (p := ⟨b3, o3 + j * 3 + 2, none⟩) hbB3).trans k2
        obtain ⟨w4, hw4⟩ : ∃ w4, w4 = wr.alloc (Obj.cells #[.int .i64 b[j].1, .int .i64 b[j].2.1, .slice A4 b[j].2.2.length c4] 81) := ⟨_, rfl⟩
        have B4 := Lib.hid (show Below wr.heap.size wr w4 by rw [hw4]; exact below1 _ _)
        have X4 := Lib.hid (show Blk w4 wr.heap.size 81 #[.int .i64 b[j].1, .int .i64 b[j].2.1, .slice A4 b[j].2.2.length c4] by rw [hw4]; exact Blk.new _ _ _)
        have HBEG4 := Lib.hid ((HBEG.out.below B4.out (Nat.le_refl _)).mono (Nat.le_refl _) B4.out.size)
        have CC := Lib.hid (containsI_any (.slice AX xs.length cX) xs (j : Int) _ w4 HBEG4.out.rd (by omega))
        have CN := Lib.hid (canCome_any (.agg #[.int .i64 b[j].1, .int .i64 b[j].2.1, .slice A4 b[j].2.2.length c4]) b[j] m w4 ⟨_, rfl, (HA3.out.on BW).on B4.out⟩ (by omega) HM.out.2)
        rw [← HMM.out] at CN
        have HCA := Lib.hid (show canAt b xs j = (!(xs.contains (j : Int)) && canB b[j] m) by unfold canAt; rw [litAt_get rfl hlt, HM.out.1])
        obtain ⟨cc, hcc⟩ : ∃ cc, cc = xs.contains (j : Int) := ⟨_, rfl⟩
        obtain ⟨nn, hnn⟩ : ∃ nn, nn = canB b[j] m := ⟨_, rfl⟩
        rw [← hcc] at CC HCA
        rw [← hnn] at CN HCA
        obtain ⟨qq, hqq⟩ : ∃ qq, qq = canAt b xs j := ⟨_, rfl⟩
        rw [← hqq] at HCA
        have HQQ := Lib.hid hqq
        have BW4 := Lib.hid BW
        clear hcc hnn hqq BW
        go_upto_region 6 with fail
        rw [← hw4]
        clear hw4 k0 k1 k2
        have t0 : w4.cell? ⟨wr.heap.size, 0, none⟩ = some (.int .i64 b[j].1) := X4.out.cell 0
        have t1 : w4.cell? ⟨wr.heap.size, 1, none⟩ = some (.int .i64 b[j].2.1) := X4.out.cell 1
        have t2 : w4.cell? ⟨wr.heap.size, 2, none⟩ = some (.slice A4 b[j].2.2.length c4) := X4.out.cell 2
        go_cut [36] (fun v wx => v = .bool qq ∧ Below w4.heap.size w4 wx)
        case first =>
          cases cc
          · go_wp2_with (first | (go_at_call 99; refine CC.out.mono ?_; rintro e w5 ⟨rfl, rfl⟩) | (go_at_call 100; refine CN.out.mono ?_; rintro e w6 ⟨rfl, b6⟩))
            go_meet
            exact ⟨by rw [HCA.out]; rfl, b6⟩
          · go_wp2_with (go_at_call 99; refine CC.out.mono ?_; rintro e w5 ⟨rfl, rfl⟩)
            go_meet
            exact ⟨by rw [HCA.out]; rfl, Below.refl _ _⟩
        case rest =>
          obtain ⟨rfl, b5⟩ := hcut
          have B5 := Lib.hid (B4.out.trans (b5.mono B4.out.size))
          have X5 := Lib.hid (X4.out.below b5 X4.out.lt)
          have HC5 := Lib.hid (HCOL.out.on B5.out)
          have HB5 := Lib.hid ((HBEG.out.below B5.out (Nat.le_refl _)).mono (Nat.le_refl _) B5.out.size)
          have HK5 := Lib.hid (HKP.out.on B5.out)
          clear b5 t0 t1 t2
          cases qq
          · have HN := Lib.hid (ordTo_no (f := ordF b d) (xs := xs) HQQ.out.symm)
            go_wp2_with fail
            go_roundw
            case rel => exact ⟨j + 1, A', c', avn, by omega, by go_num, by rw [HN.out, ← HO.out], by rw [HN.out, ← HO.out]; exact HC5.out, HAVN.out, HB5.out, by rw [HN.out, ← HO.out]; exact HK5.out⟩
            case measure => simp [intOf]; omega
          · have HN := Lib.hid (ordTo_yes (f := ordF b d) (xs := xs) HQQ.out.symm)
            have HOL := Lib.hid (show O.length + 4 ^ d ≤ 4096 by
              rw [HO.out, List.length_append]
              have h1 := HRN.out
              have h2 := HP.out
              have h3 : j * 4 ^ d ≤ 3 * 4 ^ d := Nat.mul_le_mul_right _ (by omega)
              omega)
            have hgl := X5.out.lt
            have hst : O ++ ordF b d (xs ++ [(j : Int)]) = out ++ ordTo (ordF b d) (canAt b xs) xs (j + 1) := by rw [HN.out, HO.out, List.append_assoc]
            have HST := Lib.hid hst
            have hom : ordMask b (xs ++ [(j : Int)]) = m ||| maskOf b[j].2.2 := by rw [ordMask_snoc, litAt_get rfl hlt, HM.out.1]
            have HOM := Lib.hid hom
            have hlx : (xs ++ [(j : Int)]).length = xs.length + 1 := by simp
            have HLX := Lib.hid hlx
            have hap5 : ∀ a ∈ av ++ avn, ∀ g, a.ownBlock = some g → (Value.slice AX xs.length cX).ownBlock ≠ some g := fun a ha g hg e => by
              rcases List.mem_append.1 ha with h | h
              · exact HAP0.out a h g hg e
              · have := HAVN.out a h g hg
                have := HBEG0.out.lt e
                omega
            have HAP5 := Lib.hid hap5
            obtain ⟨SS, hSS⟩ : ∃ SS : World → Prop, SS = (fun W => W.cell? ⟨wr.heap.size, 2, none⟩ = some (.slice A4 b[j].2.2.length c4) ∧ True) := ⟨_, rfl⟩
            have HB := Lib.hid (show ∀ W, SS W → (W.cell? ⟨wr.heap.size, 2, none⟩ = some (.slice A4 b[j].2.2.length c4) ∧ True) from by rw [hSS]; exact fun W hW => hW)
            have HS := Lib.hid (show ∀ W, W.heap[wr.heap.size]? = wc.heap[wr.heap.size]? → SS W from by
              rw [hSS]
              exact fun W hW => ⟨(World.cell?_of_block (w := wc) (a := ⟨wr.heap.size, 2, none⟩) hW).trans (X5.out.cell 2), trivial⟩)
            clear hSS hst hom hlx hap5
            go_upto_region 7 with fail
            refine wp_region_rel SS 10 14 (by kernel_rfl) rfl ?_
            obtain ⟨wy, hwy⟩ : ∃ wy, wy = wc.drew := ⟨_, rfl⟩
            have BY : Below wc.heap.size wc wy := by rw [hwy]; exact (Below.refl _ _).drew
            have HSY := Lib.hid (show wy.heap.size = wc.heap.size by rw [hwy]; rfl)
            rw [← hwy]
            clear hwy
            have S0 := HS.out _ (BY.block _ hgl)
            refine wpAnyR_pure (i := 0) (oi := _) ?va0 rfl rfl (by kernel_rfl) (by decide) (fun _ _ _ h => h) rfl ?hya0 (fun _ => S0) ?resta0
            case hya0 => (intro W; go_simp; (try with_reducible rfl))
            try simp only [List.setIfInBounds_toArray, List.set_cons_zero, List.set_cons_succ]
            refine wpAnyR_pure (i := 1) (oi := _) ?va1 rfl rfl (by kernel_rfl) (by decide) (fun _ _ _ h => h) rfl ?hya1 (fun _ => S0) ?resta1
            case hya1 => (intro W; go_simp; (try with_reducible rfl))
            try simp only [List.setIfInBounds_toArray, List.set_cons_zero, List.set_cons_succ]
            refine wpAnyR_pure (i := 2) (oi := _) ?va2 rfl rfl (by kernel_rfl) (by decide) (fun _ _ _ h => h) rfl ?hya2 (fun _ => S0) ?resta2
            case hya2 => (intro W; go_simp; (try with_reducible rfl))
            try simp only [List.setIfInBounds_toArray, List.set_cons_zero, List.set_cons_succ]
            refine wpAnyR_pure (i := 3) (oi := _) ?va3 rfl rfl (by kernel_rfl) (by decide) (fun _ _ _ h => h) rfl ?hya3 (fun _ => S0) ?resta3
            case hya3 => (intro W; go_simp; (try with_reducible rfl))
            try simp only [List.setIfInBounds_toArray, List.set_cons_zero, List.set_cons_succ]
            refine wpAnyR_pure (i := 6) (oi := _) ?va6 rfl rfl (by kernel_rfl) (by decide) (fun _ _ _ h => h) rfl ?hya6 (fun _ => S0) ?resta6
            case hya6 => (intro W; go_simp; (try with_reducible rfl))
            try simp only [List.setIfInBounds_toArray, List.set_cons_zero, List.set_cons_succ]
            refine wpAnyR_pure (i := 7) (oi := _) ?va7 rfl rfl (by kernel_rfl) (by decide) (fun _ _ _ h => h) rfl ?hya7 (fun _ => S0) ?resta7
            case hya7 => (intro W; go_simp; (try with_reducible rfl))
            try simp only [List.setIfInBounds_toArray, List.set_cons_zero, List.set_cons_succ]
            refine wpAnyR_pure (i := 8) (oi := _) ?va8 rfl rfl (by kernel_rfl) (by decide) (fun _ _ _ h => h) rfl ?hya8 (fun _ => S0) ?resta8
            case hya8 => (intro W; go_simp; (try with_reducible rfl))
            try simp only [List.setIfInBounds_toArray, List.set_cons_zero, List.set_cons_succ]
            refine wpAnyR_take (i := 9) (oi := _) ?va9 rfl rfl (by kernel_rfl) (fun _ _ _ h => h) rfl ?hya9 S0 ?resta9
            case hya9 => (intro W hW; obtain ⟨d0, _⟩ := HB.out W hW; go_simp; (try with_reducible rfl))
            try simp only [List.setIfInBounds_toArray, List.set_cons_zero, List.set_cons_succ]
            refine wpAnyR_one (i := 4) (by kernel_rfl) rfl (fun K hK => ?_)
            try rw [if_pos (show Region.wanted _ _ = true from rfl)]
            go_simp
            obtain ⟨wz, hwz⟩ : ∃ wz, wz = wy.alloc (Obj.cells #[Value.int IntKind.i64 (j : Int)] 3) := ⟨_, rfl⟩
            have BZ : Below wc.heap.size wc wz := by rw [hwz]; exact bthen BY (below1 _ _)
            have hnz : ∀ i x, [Value.int IntKind.i64 (j : Int)][i]? = some x → wz.cell? ((⟨wy.heap.size, 0, none⟩ : Addr).add i) = some x := by rw [hwz]; exact news1o wy _ _
            rw [← hwz]
            clear hwz
            have S1 := HS.out _ (BZ.block _ hgl)
            have HCZ := Lib.hid (HC5.out.on BZ)
            have HBZ := Lib.hid ((HB5.out.below BZ (Nat.le_refl _)).mono (Nat.le_refl _) BZ.size)
            have HKZ := Lib.hid (HK5.out.on BZ)
            have HZS := Lib.hid BZ.size
            refine hK.out _ _ (fun _ => S1) ?_
            clear hK K
            try simp only [List.setIfInBounds_toArray, List.set_cons_zero, List.set_cons_succ, Act.put]
            refine wpAnyR_one (i := 5) (by kernel_rfl) rfl (fun K hK => ?_)
            refine step_append_begun rfl (.tmp 39) (.tmp 41) 23 rfl lo 3 i0 Try.underlying23 hi0 hz0 hz1 hz2 (.slice AX xs.length cX) xs.length (xs.map (Value.int .i64)) rfl HBZ.out.1 (by omega) ⟨wy.heap.size, 0, none⟩ 1 (.int .i64 (j : Int)) rfl hnz rfl HCZ.out.lo2 ?d4
            case d4 =>
            intro g2 cap w5 hown hg hcase
            have hnx : (Value.slice AX xs.length cX).ownBlock ≠ some wr.heap.size := fun e => by have := HBEG.out.lt e; omega
            have hb5 : w5.heap[wr.heap.size]? = wc.heap[wr.heap.size]? := (hg.block _ (Nat.lt_of_lt_of_le hgl HZS.out) (fun e => hnx e.symm)).trans (BZ.block _ hgl)
            have S2 := HS.out _ hb5
            have HC6 := Lib.hid (HCZ.out.begun HBZ.out HAP5.out hg)
            have HX6 := Lib.hid (show OwnInts w5 lo w5.heap.size (.slice (some ⟨g2, 0, none⟩) (xs.length + 1) cap) (xs ++ [(j : Int)]) from by
              refine ⟨?_, fun q hq => (hown.lt q hq).2⟩
              rw [HLX.out, List.map_append]
              exact hown)
            have HAP6 := Lib.hid (show ∀ a ∈ av ++ avn, ∀ g, a.ownBlock = some g → (Value.slice (some ⟨g2, 0, none⟩) (xs.length + 1) cap).ownBlock ≠ some g from fun a ha g hga e => by
              have e2 : g2 = g := by simpa [Value.ownBlock] using e
              rcases hcase with ⟨h1, _⟩ | h1
              · obtain ⟨i, hi, rfl⟩ := List.getElem_of_mem ha
                have := (HCZ.out.args.own i (by rw [← HCZ.out.args.len]; exact hi) hi).lt hga
                omega
              · refine HAP5.out a ha g hga ?_
                rw [h1]
                exact e)
            have HK6 := Lib.hid (HKZ.out.begun hg)
            have HCS := Lib.hid (And.intro hcase hg)
            have hW : bits .or .u64 M ((maskOf b[j].2.2 : Nat) : Int) = ((ordMask b (xs ++ [(j : Int)]) : Nat) : Int) := by rw [HMM.out, or_word HM.out.2 (maskOf_lt _), HOM.out]
            clear hown hg hcase hb5 hnx
            refine hK.out _ _ (fun _ => S2) ?_
            clear hK K
            try simp only [List.setIfInBounds_toArray, Act.put]
            refine wpAnyR_one (i := 10) (by kernel_rfl) rfl (fun K hK => ?_)
            try rw [if_pos (show Region.wanted _ _ = true from rfl)]
            go_simp
            refine (argVars_any (.slice A4 b[j].2.2.length c4) b[j].2.2 _ w5 (HA3.out.on HC6.out.below) (by omega)).mono ?_
            rintro e w6 ⟨rfl, rfl⟩
            refine hK.out _ _ (fun hf => absurd hf (by decide)) ?_
            clear hK K
            refine wpAnyR_pure (i := 11) (oi := _) (.int .u64 ((ordMask b (xs ++ [(j : Int)]) : Nat) : Int)) rfl rfl (by kernel_rfl) (by decide) (fun _ _ _ h => h) rfl ?hyb11 (fun _ => S2) ?restb11
            case hyb11 => (intro W; go_simp; (try simp))
            try simp only [List.setIfInBounds_toArray, List.set_cons_zero, List.set_cons_succ]
            refine wpAnyR_one (i := 12) (by kernel_rfl) rfl (fun K hK => ?_)
            try rw [if_pos (show Region.wanted _ _ = true from rfl)]
            go_simp
            have IHc := HIH.out (xs ++ [(j : Int)]) O A' c' (av ++ avn) (some ⟨g2, 0, none⟩) cap w5 (by rw [HLX.out]; have := HLEN.out; omega) HOL.out HC6.out (by rw [HLX.out]; exact HX6.out) (by rw [HLX.out]; exact HAP6.out)
            rw [HLX.out] at IHc
            refine IHc.mono ?_
            rintro e w7 ⟨A7, c7, av7, rfl, hc7, ha7, hx7, hk7⟩
            have HX7 := Lib.hid (show OwnInts w7 lo w7.heap.size (.slice AX xs.length cX) xs from by
              rcases HCS.out.1 with ⟨hg2, hgn⟩ | hv
              · refine (HBZ.out.kept fun q hq => ?_).mono (Nat.le_refl _) (Nat.le_trans HCS.out.2.size hk7.size)
                have hql := (HBZ.out.lt hq).2.2
                refine (hk7.block q (Nat.lt_of_lt_of_le hql hgn.size) (fun e => ?_) (fun e => ?_)).trans (hgn.block q hql (by simp))
                · exact rowsI_ne HCZ.out.row e.symm HBZ.out hq
                · have : q = g2 := by simpa [Value.ownBlock] using e
                  omega
              · injection hv with e1 _ e3
                subst e1
                subst e3
                exact hx7.less rfl)
            have HAV7 := Lib.hid (show ∀ a ∈ avn ++ av7, ∀ g, a.ownBlock = some g → w.heap.size ≤ g from fun a ha g hga => by
              rcases List.mem_append.1 ha with h | h
              · exact HAVN.out a h g hga
              · exact Nat.le_trans HK6.out.size (ha7 a h g hga))
            have HK7 := Lib.hid (HK6.out.trans hk7 (by
              rcases HCS.out.1 with ⟨hg2, _⟩ | hv
              · refine .inr fun g hg => ?_
                have : g2 = g := by simpa [Value.ownBlock] using hg
                have := HKZ.out.size
                omega
              · rw [hv]
                exact .inl rfl))
            have HC7 := Lib.hid hc7
            clear hc7 ha7 hx7 hk7 IHc hW
            refine hK.out _ _ (fun hf => absurd hf (by decide)) ?_
            clear hK K
            refine wpAnyR_one (i := 13) (by kernel_rfl) rfl (fun K hK => ?_)
            go_simp
            refine hK.out _ _ (fun hf => absurd hf (by decide)) ?_
            clear hK K
            refine wpAnyR_done (by kernel_rfl) ?_
            go_wp2_with fail
            go_roundw
            case rel => exact ⟨j + 1, A7, c7, avn ++ av7, by omega, by go_num, by rw [← HST.out, List.length_append], by rw [← HST.out, ← List.append_assoc]; exact HC7.out, HAV7.out, HX7.out, by rw [← HST.out]; exact HK7.out⟩
            case measure => simp [intOf]; omega
      · obtain rfl : j = b.length := by omega
        have HE := Lib.hid (show out ++ ordF b (d + 1) xs = O from HO.out.symm)
        go_wp2_with fail
        go_ret
        rw [HE.out]
        exact ⟨A', c', avn, rfl, HCOL.out, HAVN.out, HBEG.out, HKP.out⟩

end Go.Proofs.Ytocpfmbieedpgaa
/-
  The specification's search of an integer in a row.
-/
namespace Go.Proofs.Ytocpfmbieedpgaa
open Go.RowKit

theorem RdInts.getP {w : World} {B n c : Nat} {A : Option Addr} {xs : List Int} (h : RdInts w B (.slice A n c) xs) {k : Nat} (hk : k < xs.length) : ∃ b o, A = some ⟨b, o, none⟩ ∧ b < B ∧ w.cell? ⟨b, o + k, none⟩ = some (.int .i64 xs[k]) := by
  obtain ⟨A', c', e, hc, h⟩ := h
  injection e with e1 e2 e3
  subst e1
  obtain ⟨b, o, rfl, hb, hx⟩ := h (by omega)
  exact ⟨b, o, rfl, hb, hx k hk⟩
theorem memP_step {xs : List Int} {x : Int} {k : Nat} (hlt : k < xs.length) (h : x ∉ xs.take k) (hn : ¬ xs[k] = x) : x ∉ xs.take (k + 1) := by
  rw [List.take_succ_eq_append_getElem hlt, List.mem_append, List.mem_singleton]
  rintro (h1 | h1)
  · exact h h1
  · exact hn h1.symm
set_option maxRecDepth 100000 in
theorem l10Has_any (v : Value) (xs : List Int) (x : Int) (w : World) (h : RdInts w w.heap.size v xs) (hl : xs.length ≤ 1048576) :
    Calls Try.prog 109 #[v, .int .i64 x] w fun e w' => e = .returned (.bool (decide (x ∈ xs))) ∧ w = w' := by
  have H := Lib.hid h
  obtain ⟨A, c, rfl, hc, _⟩ := h
  obtain ⟨R, hR⟩ : ∃ R, R = decide (x ∈ xs) := ⟨_, rfl⟩
  have HR := Lib.hid hR
  rw [← hR]
  clear hR
  go_enter Try.func109, Try.ntmps109
  go_wp2_with (fail)
  go_loop [5] (fun i => ∃ k : Nat, k ≤ xs.length ∧ i = .int .i64 k ∧ x ∉ xs.take k) (fun i => xs.length - (intOf i).toNat)
  case atStart => exact ⟨0, Nat.zero_le _, rfl, by simp⟩
  case round =>
    obtain ⟨k, hk, rfl, hs⟩ := hrel
    have HS := Lib.hid hs
    clear hs
    by_cases hlt : k < xs.length
    · obtain ⟨b, o, rfl, hb, q0⟩ := RdInts.getP H.out hlt
      obtain ⟨y, hy⟩ : ∃ y, y = xs[k] := ⟨_, rfl⟩
      rw [← hy] at q0
      have HY := Lib.hid hy
      clear hy hb
      by_cases he : y = x
      · have he0 : (y == x) = true := by simp [he]
        have HE := Lib.hid (show true = R by rw [HR.out]; symm; simp; rw [← he, HY.out]; exact List.getElem_mem hlt)
        clear he
        go_wp2_with (fail)
        go_ret
        exact ⟨ret_bool HE.out, rfl⟩
      · have he0 : (y == x) = false := by simp [he]
        have HN := Lib.hid (memP_step hlt HS.out (by rw [← HY.out]; exact he))
        clear he
        go_wp2_with (fail)
        go_round
        case rel => exact ⟨k + 1, by omega, by go_num, HN.out⟩
        case measure => simp [intOf]; omega
    · have HE := Lib.hid (show false = R by rw [HR.out]; have := HS.out; rw [show k = xs.length by omega, List.take_length] at this; simp [this])
      go_wp2_with (fail)
      go_ret
      exact ⟨ret_bool HE.out, rfl⟩

end Go.Proofs.Ytocpfmbieedpgaa
/-
  The walks of l10Orders and PlanOrders of the specification.
-/
namespace Go.Proofs.Ytocpfmbieedpgaa
open Go.RowKit

theorem OwnInts.rd' {w : World} {lo : Nat} {v : Value} {xs : List Int} {hi : Nat} (h : OwnInts w lo hi v xs) (hh : hi ≤ w.heap.size := by omega) : RdInts w w.heap.size v xs := (h.mono (Nat.le_refl _) hh).rd
theorem ordS_zero_yes {b : List LLit} {xs : List Int} (h : orderOk b xs = true) : ordS b 0 xs = [xs] := by unfold ordS; rw [if_pos h]
theorem ordS_zero_no {b : List LLit} {xs : List Int} (h : orderOk b xs = false) : ordS b 0 xs = [] := by unfold ordS; rw [h]; rfl

set_option maxHeartbeats 8000000 in
set_option maxRecDepth 100000 in
theorem l10Orders_any (v v2 : Value) (ar : List Int) (r : LRule) (w0 : World) (lo : Nat) (h : RdInts w0 w0.heap.size v ar) (h2 : RdRule w0 w0.heap.size v2 r) (hok : ruleOk ar r = true) (hr : ar.length ≤ 1048576) (hs : szR r ≤ 1048576) :
    ∀ (d : Nat) (xs : List Int) (out : List (List Int)) (A : Option Addr) (c : Nat) (av : List Value) (AX : Option Addr) (cX : Nat) (w : World),
      xs.length + d = r.2.length → out.length + 4 ^ d ≤ 4096 → ColO lo w0 w out A c av → OwnInts w lo w.heap.size (.slice AX xs.length cX) xs →
      Calls Try.prog 79 #[v, v2, .slice AX xs.length cX, .slice A out.length c] w fun e w' =>
        ∃ A' c' av', e = .returned (.slice A' (out ++ ordS r.2 d xs).length c') ∧ ColO lo w0 w' (out ++ ordS r.2 d xs) A' c' av' ∧ OrdKept w w' (.slice A out.length c) (.slice none 0 0) (.slice A' (out ++ ordS r.2 d xs).length c') := by
  obtain ⟨i0, hi0, hz0, hz1, hz2⟩ := info_parts Try.infoInt
  obtain ⟨i1, hi1, hy0, hy1, hy2⟩ := info_parts Try.infoIntSO
  have H := Lib.hid h
  have H2 := Lib.hid h2
  obtain ⟨hd, b⟩ := r
  have hss := hs
  unfold szR at hss
  simp only at hss
  obtain ⟨AR, cR, rfl, hcR, _⟩ := h
  obtain ⟨a1, a2, rfl, h2a, h2b⟩ := h2
  have H2B := Lib.hid h2b
  obtain ⟨A1, c1, rfl, hc1, _⟩ := h2a
  obtain ⟨A2, c2, rfl, hc2, _⟩ := h2b
  simp only at hc1 hc2
  have hb4 : b.length ≤ 4 := (ruleOk_safe hok).2
  have HOKR := Lib.hid hok
  show ∀ (d : Nat) (xs : List Int) (out : List (List Int)) (A : Option Addr) (c : Nat) (av : List Value) (AX : Option Addr) (cX : Nat) (w : World),
      xs.length + d = b.length → out.length + 4 ^ d ≤ 4096 → ColO lo w0 w out A c av → OwnInts w lo w.heap.size (.slice AX xs.length cX) xs →
      Calls Try.prog 79 #[.slice AR ar.length cR, .agg #[.int .i64 hd.1, .slice A1 hd.2.length c1, .slice A2 b.length c2], .slice AX xs.length cX, .slice A out.length c] w fun e w' =>
        ∃ A' c' av', e = .returned (.slice A' (out ++ ordS b d xs).length c') ∧ ColO lo w0 w' (out ++ ordS b d xs) A' c' av' ∧ OrdKept w w' (.slice A out.length c) (.slice none 0 0) (.slice A' (out ++ ordS b d xs).length c')
  clear hok
  intro d
  induction d with
  | zero =>
    intro xs out A c av AX cX w hlen hout hcol hbeg
    have HCOL := Lib.hid hcol
    have HBEG := Lib.hid hbeg
    have hxl : xs.length ≤ 4 := by omega
    have l0 : ((xs.length : Int) == (b.length : Int)) = true := by rw [beq_iff_eq]; omega
    have hol : out.length ≤ 4096 := by omega
    obtain ⟨w1, hw1⟩ : ∃ w1, w1 = w.alloc (Obj.cells #[Value.int IntKind.i64 hd.1, Value.slice A1 hd.2.length c1, Value.slice A2 b.length c2] 28) := ⟨_, rfl⟩
    have HB1 := Lib.hid (show Below w.heap.size w w1 by rw [hw1]; exact below1 _ _)
    have X1 := Lib.hid (show Blk w1 w.heap.size 28 #[.int .i64 hd.1, .slice A1 hd.2.length c1, .slice A2 b.length c2] by rw [hw1]; exact Blk.new _ _ _)
    have q0 : w1.cell? ⟨w.heap.size, 0, none⟩ = some (.int .i64 hd.1) := X1.out.cell 0
    have q1 : w1.cell? ⟨w.heap.size, 1, none⟩ = some (.slice A1 hd.2.length c1) := X1.out.cell 1
    have q2 : w1.cell? ⟨w.heap.size, 2, none⟩ = some (.slice A2 b.length c2) := X1.out.cell 2
    have HB01 := Lib.hid (bthen hcol.below HB1.out)
    have CP := Lib.hid (specPlanBy_any (.slice AR ar.length cR) (.agg #[.int .i64 hd.1, .slice A1 hd.2.length c1, .slice A2 b.length c2]) (.slice AX xs.length cX) ar (hd, b) xs w1 (H.out.on HB01.out) (H2.out.on HB01.out) (hbeg.rd.on HB1.out) hr hs (by omega))
    obtain ⟨k, hk⟩ : ∃ k, k = planByK ar (hd, b) xs := ⟨_, rfl⟩
    obtain ⟨L, hL⟩ : ∃ L, L = planByL ar (hd, b) xs := ⟨_, rfl⟩
    rw [← hk, ← hL] at CP
    have HK := Lib.hid (show orderOk b xs = k by rw [hk]; unfold planByK; rw [HOKR.out, Bool.true_and])
    clear hcol hbeg hlen hk hL
    go_enter Try.func79, Try.ntmps79
    go_upto_region 1 with fail
    rw [← hw1]
    clear hw1
    cases k
    · have HE := Lib.hid (show out = out ++ ordS b 0 xs by rw [ordS_zero_no HK.out, List.append_nil])
      go_wp2_with (go_at_call 20; refine CP.out.mono ?_; rintro e w2 ⟨A3, c3, rfl, _, b2⟩)
      go_ret
      rw [← HE.out]
      have hb := bthen HB1.out b2
      exact ⟨A, c, av, rfl, HCOL.out.on hb, (OrdKept.refl _ _ _).on hb⟩
    · go_upto_region 4 with (go_at_call 20; refine CP.out.mono ?_; rintro e w2 ⟨A3, c3, rfl, _, b2⟩)
      have HB2 := Lib.hid (bthen HB1.out b2)
      have CC := Lib.hid (l3Copy_any (.slice AX xs.length cX) xs w2 (HBEG.out.rd.on HB2.out) (by omega))
      clear b2 q0 q1 q2
      go_wp2_with (first | (go_at_call 108; refine CC.out.mono ?_; rintro e w3 ⟨P, q, rfl, o1, g1⟩) | (at_builtin; refine wpList_append_lies _ rfl (.tmp 26) (.tmp 29) 35 rfl lo 23 i1 (.slice none 0 0) 1 24 Try.underlying35 hi1 hy0 hy1 hy2 rfl (by decide) (.slice A out.length c) out.length av rfl ?c1 ⟨w3.heap.size, 0, none⟩ 1 1 [.slice P xs.length q] rfl rfl (news1o w3 _ _) ?c2 (by omega) (by unfold maxLen; omega) (by omega) ?c3 _ rfl ?_))
      case c1 => exact ((HCOL.out.on (bthen HB2.out g1)).row).alloc _
      case c2 => first | (intro u hu; simp at hu; subst hu; rfl) | rfl
      case c3 => have := HCOL.out.lo2; have := (bthen HB2.out g1).size; simp; omega
      intro g2 cap w4 hown hg hat _
      have G1 := bthen HB2.out g1
      have hpush := HCOL.out.push (xs := xs) (xss' := out ++ ordS b 0 xs) (by rw [ordS_zero_yes HK.out]) G1 (o1.mono HB2.out.size (Nat.le_refl _)) hg hown
      have HPU := Lib.hid hpush
      have hgf := grown_from_alloc hg
      have s1 := G1.size
      have HK := Lib.hid (show OrdKept w w4 (.slice A out.length c) (.slice none 0 0) (.slice (some ⟨g2, 0, none⟩) (out.length + 1) cap) from
        ⟨Nat.le_trans s1 hgf.size, fun q h1 h2 _ => (hgf.block q (by omega) h2).trans (G1.block q h1), by
          rcases hat with h | h
          · exact .inl h.symm
          · refine .inr fun g hg => ?_
            have : g2 = g := by simpa [Value.ownBlock] using hg
            omega⟩)
      clear hpush hown hg hat hgf
      go_wp2_with fail
      go_ret
      refine ⟨some ⟨g2, 0, none⟩, cap, av ++ [.slice P xs.length q], by rw [← HPU.out.2]; rfl, HPU.out.1, ?_⟩
      rw [← HPU.out.2]
      exact HK.out
  | succ d ih =>
    intro xs out A c av AX cX w hlen hout hcol hbeg
    have HIH := Lib.hid ih
    clear ih
    have HCOL0 := Lib.hid hcol
    have HBEG0 := Lib.hid hbeg
    have HLEN := Lib.hid hlen
    have hxl : xs.length < b.length := by omega
    have hd3 : d ≤ 3 := by omega
    have HP := Lib.hid (show out.length + 4 * 4 ^ d ≤ 4096 by rw [Nat.pow_succ] at hout; omega)
    have HF := Lib.hid (ordS_few hb4 d)
    have l0 : ((xs.length : Int) == (b.length : Int)) = false := by rw [beq_eq_false_iff_ne]; omega
    obtain ⟨w1, hw1⟩ : ∃ w1, w1 = w.alloc (Obj.cells #[Value.int IntKind.i64 hd.1, Value.slice A1 hd.2.length c1, Value.slice A2 b.length c2] 28) := ⟨_, rfl⟩
    have HB1 := Lib.hid (show Below w.heap.size w w1 by rw [hw1]; exact below1 _ _)
    have X1 := Lib.hid (show Blk w1 w.heap.size 28 #[.int .i64 hd.1, .slice A1 hd.2.length c1, .slice A2 b.length c2] by rw [hw1]; exact Blk.new _ _ _)
    have q0 : w1.cell? ⟨w.heap.size, 0, none⟩ = some (.int .i64 hd.1) := X1.out.cell 0
    have q1 : w1.cell? ⟨w.heap.size, 1, none⟩ = some (.slice A1 hd.2.length c1) := X1.out.cell 1
    have q2 : w1.cell? ⟨w.heap.size, 2, none⟩ = some (.slice A2 b.length c2) := X1.out.cell 2
    have HC1 := Lib.hid (hcol.on HB1.out)
    have HQ := Lib.hid (show ∀ i : Nat, (decide ((i : Int) ∈ xs)) = xs.contains (i : Int) from fun i => by rw [List.contains_eq_mem])
    clear hcol hbeg hlen hout
    go_enter Try.func79, Try.ntmps79
    go_upto_region 1 with fail
    rw [← hw1]
    clear hw1
    go_upto_region 6 with fail
    clear q0 q1 q2
    go_wp2_with fail
    go_loopw [3, 11] (fun p i wr => ∃ (j : Nat) (A' : Option Addr) (c' : Nat) (av' : List Value), j ≤ b.length ∧ i = .int .i64 j ∧ p = .slice A' (out ++ ordTo (ordS b d) (fun i => !(xs.contains (i : Int))) xs j).length c' ∧ ColO lo w0 wr (out ++ ordTo (ordS b d) (fun i => !(xs.contains (i : Int))) xs j) A' c' av' ∧ OrdKept w1 wr (.slice A out.length c) (.slice none 0 0) (.slice A' (out ++ ordTo (ordS b d) (fun i => !(xs.contains (i : Int))) xs j).length c')) (fun _ i _ => b.length - (intOf i).toNat)
    case atStart => exact ⟨0, A, c, av, Nat.zero_le _, rfl, by rw [ordTo_zero, List.append_nil], by rw [ordTo_zero, List.append_nil]; exact HC1.out, by rw [ordTo_zero, List.append_nil]; exact OrdKept.refl _ _ _⟩
    case round =>
      obtain ⟨j, A', c', av', hj, rfl, rfl, hcol, hkp⟩ := hrel
      obtain ⟨O, hO⟩ : ∃ O, O = out ++ ordTo (ordS b d) (fun i => !(xs.contains (i : Int))) xs j := ⟨_, rfl⟩
      rw [← hO] at hcol hkp ⊢
      have HO := Lib.hid hO
      clear hO
      have HC5 := Lib.hid hcol
      have HK5 := Lib.hid hkp
      have HLO := Lib.hid hcol.lo2
      have hb0 : wr.heap[w.heap.size]? = w1.heap[w.heap.size]? := hkp.block _ X1.out.lt (fun e => by have := (HCOL0.out.row.lt _ e.symm).2; omega) (by simp [Value.ownBlock])
      have hgl : w.heap.size < wr.heap.size := Nat.lt_of_lt_of_le X1.out.lt hkp.size
      have q0 : wr.cell? ⟨w.heap.size, 0, none⟩ = some (.int .i64 hd.1) := (World.cell?_of_block (w := w1) (a := ⟨w.heap.size, 0, none⟩) hb0).trans (X1.out.cell 0)
      have q1 : wr.cell? ⟨w.heap.size, 1, none⟩ = some (.slice A1 hd.2.length c1) := (World.cell?_of_block (w := w1) (a := ⟨w.heap.size, 1, none⟩) hb0).trans (X1.out.cell 1)
      have q2 : wr.cell? ⟨w.heap.size, 2, none⟩ = some (.slice A2 b.length c2) := (World.cell?_of_block (w := w1) (a := ⟨w.heap.size, 2, none⟩) hb0).trans (X1.out.cell 2)
      have HX5 := Lib.hid (show OwnInts wr lo wr.heap.size (.slice AX xs.length cX) xs from by
        refine ((HBEG0.out.below HB1.out (Nat.le_refl _)).kept fun q hq => hkp.block q ?_ (fun e => ?_) (by simp [Value.ownBlock])).mono (Nat.le_refl _) (Nat.le_of_lt hgl)
        · have := HBEG0.out.lt hq; have := HB1.out.size; omega
        · exact rowsI_ne HCOL0.out.row e.symm HBEG0.out hq)
      have HRN := Lib.hid (ordTo_few (q := fun i => !(xs.contains (i : Int))) (xs := xs) HF.out j)
      clear hcol hkp hb0
      by_cases hlt : j < b.length
      · have CH := Lib.hid (l10Has_any (.slice AX xs.length cX) xs (j : Int) wr HX5.out.rd (by omega))
        rw [HQ.out j] at CH
        obtain ⟨cc, hcc⟩ : ∃ cc, cc = xs.contains (j : Int) := ⟨_, rfl⟩
        rw [← hcc] at CH
        have HCC := Lib.hid (show (!(xs.contains (j : Int))) = !cc by rw [hcc])
        clear hcc
        cases cc
        · have HN := Lib.hid (ordTo_yes (f := ordS b d) (q := fun i => !(xs.contains (i : Int))) (xs := xs) (j := j) HCC.out)
          have HOL := Lib.hid (show O.length + 4 ^ d ≤ 4096 by
            rw [HO.out, List.length_append]
            have h1 := HRN.out
            have h2 := HP.out
            have h3 : j * 4 ^ d ≤ 3 * 4 ^ d := Nat.mul_le_mul_right _ (by omega)
            omega)
          have HST := Lib.hid (show O ++ ordS b d (xs ++ [(j : Int)]) = out ++ ordTo (ordS b d) (fun i => !(xs.contains (i : Int))) xs (j + 1) by rw [HN.out, HO.out, List.append_assoc])
          have HLX := Lib.hid (show (xs ++ [(j : Int)]).length = xs.length + 1 by simp)
          have X5 := Lib.hid (And.intro q0 (And.intro q1 q2))
          obtain ⟨SS, hSS⟩ : ∃ SS : World → Prop, SS = (fun W => W.cell? ⟨w.heap.size, 0, none⟩ = some (.int .i64 hd.1) ∧ W.cell? ⟨w.heap.size, 1, none⟩ = some (.slice A1 hd.2.length c1) ∧ W.cell? ⟨w.heap.size, 2, none⟩ = some (.slice A2 b.length c2)) := ⟨_, rfl⟩
          have HB := Lib.hid (show ∀ W, SS W → (W.cell? ⟨w.heap.size, 0, none⟩ = some (.int .i64 hd.1) ∧ W.cell? ⟨w.heap.size, 1, none⟩ = some (.slice A1 hd.2.length c1) ∧ W.cell? ⟨w.heap.size, 2, none⟩ = some (.slice A2 b.length c2)) from by rw [hSS]; exact fun W hW => hW)
          have HS := Lib.hid (show ∀ W, Below wr.heap.size wr W → SS W from by
            rw [hSS]
            exact fun W hW => ⟨(hW.cell (p := ⟨w.heap.size, 0, none⟩) hgl).trans X5.out.1, (hW.cell (p := ⟨w.heap.size, 1, none⟩) hgl).trans X5.out.2.1, (hW.cell (p := ⟨w.heap.size, 2, none⟩) hgl).trans X5.out.2.2⟩)
          clear hSS
          go_upto_region 10 with (go_at_call 109; refine CH.out.mono ?_; rintro e w5 ⟨rfl, rfl⟩)
          clear q0 q1 q2
          refine wp_region_rel SS 8 10 (by kernel_rfl) rfl ?_
          obtain ⟨wy, hwy⟩ : ∃ wy, wy = wr.drew := ⟨_, rfl⟩
          have BY : Below wr.heap.size wr wy := by rw [hwy]; exact (Below.refl _ _).drew
          rw [← hwy]
          clear hwy
          have S0 := HS.out _ BY
          refine wpAnyR_pure (i := 0) (oi := _) ?va0 rfl rfl (by kernel_rfl) (by decide) (fun _ _ _ h => h) rfl ?hya0 (fun _ => S0) ?resta0
          case hya0 => (intro W; go_simp; (try with_reducible rfl))
          try simp only [List.setIfInBounds_toArray, List.set_cons_zero, List.set_cons_succ]
          refine wpAnyR_take (i := 1) (oi := _) ?va1 rfl rfl (by kernel_rfl) (fun _ _ _ h => h) rfl ?hya1 S0 ?resta1
          case hya1 => (intro W hW; obtain ⟨d0, d1, d2⟩ := HB.out W hW; go_simp; (try with_reducible rfl))
          try simp only [List.setIfInBounds_toArray, List.set_cons_zero, List.set_cons_succ]
          refine wpAnyR_pure (i := 2) (oi := _) ?va2 rfl rfl (by kernel_rfl) (by decide) (fun _ _ _ h => h) rfl ?hya2 (fun _ => S0) ?resta2
          case hya2 => (intro W; go_simp; (try with_reducible rfl))
          try simp only [List.setIfInBounds_toArray, List.set_cons_zero, List.set_cons_succ]
          refine wpAnyR_pure (i := 4) (oi := _) ?va4 rfl rfl (by kernel_rfl) (by decide) (fun _ _ _ h => h) rfl ?hya4 (fun _ => S0) ?resta4
          case hya4 => (intro W; go_simp; (try with_reducible rfl))
          try simp only [List.setIfInBounds_toArray, List.set_cons_zero, List.set_cons_succ]
          refine wpAnyR_pure (i := 7) (oi := _) ?va7 rfl rfl (by kernel_rfl) (by decide) (fun _ _ _ h => h) rfl ?hya7 (fun _ => S0) ?resta7
          case hya7 => (intro W; go_simp; (try with_reducible rfl))
          try simp only [List.setIfInBounds_toArray, List.set_cons_zero, List.set_cons_succ]
          refine wpAnyR_two (i := 3) (j := 5) (by kernel_rfl) rfl rfl (fun K hK => ?_) (fun K hK => ?_)
          · try rw [if_pos (show Region.wanted _ _ = true from rfl)]
            go_simp
            refine (l3Copy_any (.slice AX xs.length cX) xs wy ((HX5.out.below BY (Nat.le_refl _)).rd' BY.size) (by omega)).mono ?_
            rintro e w6 ⟨P, q, rfl, o6, b6⟩
            have B6 := bthen BY b6
            have S1 := HS.out _ B6
            refine hK.out _ _ (fun _ => S1) ?_
            clear hK K
            try simp only [List.setIfInBounds_toArray, List.set_cons_zero, List.set_cons_succ, Act.put]
            refine wpAnyR_one (i := 5) (by kernel_rfl) rfl (fun K hK => ?_)
            try rw [if_pos (show Region.wanted _ _ = true from rfl)]
            go_simp
            obtain ⟨wz, hwz⟩ : ∃ wz, wz = w6.alloc (Obj.cells #[Value.int IntKind.i64 (j : Int)] 3) := ⟨_, rfl⟩
            have BZ := Lib.hid (show Below wr.heap.size wr wz by rw [hwz]; exact bthen B6 (below1 _ _))
            have HNZ := Lib.hid (show ∀ i x, [Value.int IntKind.i64 (j : Int)][i]? = some x → wz.cell? ((⟨w6.heap.size, 0, none⟩ : Addr).add i) = some x by rw [hwz]; exact news1o w6 _ _)
            have HPB := Lib.hid (show ∀ k, (Value.slice P xs.length q).ownBlock = some k → wr.heap.size ≤ k from fun k hk => Nat.le_trans BY.size (o6.lt hk).1)
            have HPC := Lib.hid (show OwnInts wz lo wz.heap.size (.slice P xs.length q) xs by rw [hwz]; exact (o6.below (below1 _ _) (Nat.le_refl _)).mono (Nat.le_trans HLO.out BY.size) (below1 _ _).size)
            have S2 := HS.out _ BZ.out
            rw [← hwz]
            clear hwz o6 b6 B6 S1
            refine hK.out _ _ (fun _ => S2) ?_
            clear hK K
            try simp only [List.setIfInBounds_toArray, List.set_cons_zero, List.set_cons_succ, Act.put]
            refine wpAnyR_one (i := 6) (by kernel_rfl) rfl (fun K hK => ?_)
            refine step_append_begun rfl (.tmp 46) (.tmp 48) 23 rfl lo 3 i0 Try.underlying23 hi0 hz0 hz1 hz2 (.slice P xs.length q) xs.length (xs.map (Value.int .i64)) rfl HPC.out.1 (by omega) ⟨w6.heap.size, 0, none⟩ 1 (.int .i64 (j : Int)) rfl HNZ.out rfl (Nat.le_trans HLO.out BZ.out.size) ?d4
            case d4 =>
            intro g2 cap w5 hown hg _
            have hb5 : Below wr.heap.size wr w5 := BZ.out.grown hg BZ.out.size fun k hk => HPB.out k hk
            have S3 := HS.out _ hb5
            have HC6 := Lib.hid (HC5.out.on hb5)
            have HX6 := Lib.hid (show OwnInts w5 lo w5.heap.size (.slice (some ⟨g2, 0, none⟩) (xs.length + 1) cap) (xs ++ [(j : Int)]) from by
              refine ⟨?_, fun q hq => (hown.lt q hq).2⟩
              rw [HLX.out, List.map_append]
              exact hown)
            have HB5 := Lib.hid hb5
            clear hown hg hb5
            refine hK.out _ _ (fun _ => S3) ?_
            clear hK K
            try simp only [List.setIfInBounds_toArray, Act.put]
            refine wpAnyR_one (i := 8) (by kernel_rfl) rfl (fun K hK => ?_)
            try rw [if_pos (show Region.wanted _ _ = true from rfl)]
            go_simp
            have IHc := HIH.out (xs ++ [(j : Int)]) O A' c' av' (some ⟨g2, 0, none⟩) cap w5 (by rw [HLX.out]; have := HLEN.out; omega) HOL.out HC6.out (by rw [HLX.out]; exact HX6.out)
            rw [HLX.out] at IHc
            refine IHc.mono ?_
            rintro e w7 ⟨A7, c7, av7, rfl, hc7, hk7⟩
            have HK7 := Lib.hid ((HK5.out.on HB5.out).trans hk7 (.inl rfl))
            have HC7 := Lib.hid hc7
            clear hc7 hk7 IHc
            refine hK.out _ _ (fun hf => absurd hf (by decide)) ?_
            clear hK K
            refine wpAnyR_one (i := 9) (by kernel_rfl) rfl (fun K hK => ?_)
            go_simp
            refine hK.out _ _ (fun hf => absurd hf (by decide)) ?_
            clear hK K
            refine wpAnyR_done (by kernel_rfl) ?_
            go_wp2_with fail
            go_roundw
            case rel => exact ⟨j + 1, A7, c7, av7, by omega, by go_num, by rw [← HST.out, List.length_append], by rw [← HST.out]; exact HC7.out, by rw [← HST.out]; exact HK7.out⟩
            case measure => simp [intOf]; omega
          · try rw [if_pos (show Region.wanted _ _ = true from rfl)]
            go_simp
            obtain ⟨w6, hw6⟩ : ∃ w6, w6 = wy.alloc (Obj.cells #[Value.int IntKind.i64 (j : Int)] 3) := ⟨_, rfl⟩
            have b6 : Below wy.heap.size wy w6 := by rw [hw6]; exact below1 _ _
            have B6 := bthen BY b6
            have hn6 : w6.cell? ⟨wy.heap.size, 0, none⟩ = some (.int .i64 (j : Int)) := by rw [hw6]; exact news1o wy _ _ 0 _ rfl
            have s6 : wy.heap.size < w6.heap.size := by rw [hw6]; simp
            have S1 := HS.out _ B6
            rw [← hw6]
            clear hw6
            refine hK.out _ _ (fun _ => S1) ?_
            clear hK K
            try simp only [List.setIfInBounds_toArray, List.set_cons_zero, List.set_cons_succ, Act.put]
            refine wpAnyR_one (i := 3) (by kernel_rfl) rfl (fun K hK => ?_)
            try rw [if_pos (show Region.wanted _ _ = true from rfl)]
            go_simp
            refine (l3Copy_any (.slice AX xs.length cX) xs w6 (((HX5.out.below BY (Nat.le_refl _)).rd' BY.size).on b6) (by omega)).mono ?_
            rintro e wz ⟨P, q, rfl, o6, b7⟩
            have BZ := Lib.hid (bthen B6 b7)
            have HNZ := Lib.hid (show ∀ i x, [Value.int IntKind.i64 (j : Int)][i]? = some x → wz.cell? ((⟨wy.heap.size, 0, none⟩ : Addr).add i) = some x from fun i x h => by
              cases i with
              | zero =>
                obtain rfl : Value.int .i64 (j : Int) = x := by simpa using h
                exact (b7.cell (p := ⟨wy.heap.size, 0, none⟩) s6).trans hn6
              | succ i => simp at h)
            have HPB := Lib.hid (show ∀ k, (Value.slice P xs.length q).ownBlock = some k → wr.heap.size ≤ k from fun k hk => Nat.le_trans B6.size (o6.lt hk).1)
            have HPC := Lib.hid (show OwnInts wz lo wz.heap.size (.slice P xs.length q) xs from o6.mono (Nat.le_trans HLO.out B6.size) (Nat.le_refl _))
            have S2 := HS.out _ BZ.out
            clear o6 b6 b7 B6 S1 s6 hn6
            refine hK.out _ _ (fun _ => S2) ?_
            clear hK K
            try simp only [List.setIfInBounds_toArray, List.set_cons_zero, List.set_cons_succ, Act.put]
            refine wpAnyR_one (i := 6) (by kernel_rfl) rfl (fun K hK => ?_)
            refine step_append_begun rfl (.tmp 46) (.tmp 48) 23 rfl lo 3 i0 Try.underlying23 hi0 hz0 hz1 hz2 (.slice P xs.length q) xs.length (xs.map (Value.int .i64)) rfl HPC.out.1 (by omega) ⟨wy.heap.size, 0, none⟩ 1 (.int .i64 (j : Int)) rfl HNZ.out rfl (Nat.le_trans HLO.out BZ.out.size) ?d4
            case d4 =>
            intro g2 cap w5 hown hg _
            have hb5 : Below wr.heap.size wr w5 := BZ.out.grown hg BZ.out.size fun k hk => HPB.out k hk
            have S3 := HS.out _ hb5
            have HC6 := Lib.hid (HC5.out.on hb5)
            have HX6 := Lib.hid (show OwnInts w5 lo w5.heap.size (.slice (some ⟨g2, 0, none⟩) (xs.length + 1) cap) (xs ++ [(j : Int)]) from by
              refine ⟨?_, fun q hq => (hown.lt q hq).2⟩
              rw [HLX.out, List.map_append]
              exact hown)
            have HB5 := Lib.hid hb5
            clear hown hg hb5
            refine hK.out _ _ (fun _ => S3) ?_
            clear hK K
            try simp only [List.setIfInBounds_toArray, Act.put]
            refine wpAnyR_one (i := 8) (by kernel_rfl) rfl (fun K hK => ?_)
            try rw [if_pos (show Region.wanted _ _ = true from rfl)]
            go_simp
            have IHc := HIH.out (xs ++ [(j : Int)]) O A' c' av' (some ⟨g2, 0, none⟩) cap w5 (by rw [HLX.out]; have := HLEN.out; omega) HOL.out HC6.out (by rw [HLX.out]; exact HX6.out)
            rw [HLX.out] at IHc
            refine IHc.mono ?_
            rintro e w7 ⟨A7, c7, av7, rfl, hc7, hk7⟩
            have HK7 := Lib.hid ((HK5.out.on HB5.out).trans hk7 (.inl rfl))
            have HC7 := Lib.hid hc7
            clear hc7 hk7 IHc
            refine hK.out _ _ (fun hf => absurd hf (by decide)) ?_
            clear hK K
            refine wpAnyR_one (i := 9) (by kernel_rfl) rfl (fun K hK => ?_)
            go_simp
            refine hK.out _ _ (fun hf => absurd hf (by decide)) ?_
            clear hK K
            refine wpAnyR_done (by kernel_rfl) ?_
            go_wp2_with fail
            go_roundw
            case rel => exact ⟨j + 1, A7, c7, av7, by omega, by go_num, by rw [← HST.out, List.length_append], by rw [← HST.out]; exact HC7.out, by rw [← HST.out]; exact HK7.out⟩
            case measure => simp [intOf]; omega
        · have HN := Lib.hid (ordTo_no (f := ordS b d) (q := fun i => !(xs.contains (i : Int))) (xs := xs) (j := j) HCC.out)
          go_wp2_with (go_at_call 109; refine CH.out.mono ?_; rintro e w5 ⟨rfl, rfl⟩)
          go_roundw
          case rel => exact ⟨j + 1, A', c', av', by omega, by go_num, by rw [HN.out, ← HO.out], by rw [HN.out, ← HO.out]; exact HC5.out, by rw [HN.out, ← HO.out]; exact HK5.out⟩
          case measure => simp [intOf]; omega
      · obtain rfl : j = b.length := by omega
        have HE := Lib.hid (show out ++ ordS b (d + 1) xs = O from HO.out.symm)
        go_wp2_with fail
        go_ret
        rw [HE.out]
        refine ⟨A', c', av', rfl, HC5.out, Nat.le_trans HB1.out.size HK5.out.size, fun q h1 h2 h3 => (HK5.out.block q (Nat.lt_of_lt_of_le h1 HB1.out.size) h2 h3).trans (HB1.out.block q h1), ?_⟩
        rcases HK5.out.own with h | h
        · exact .inl h
        · exact .inr fun g hg => Nat.le_trans HB1.out.size (h g hg)

end Go.Proofs.Ytocpfmbieedpgaa
/-
  The walk of PlanOrders of the specification.
-/
namespace Go.Proofs.Ytocpfmbieedpgaa
open Go.RowKit

set_option maxHeartbeats 4000000 in
set_option maxRecDepth 100000 in
theorem specPlanOrders_any (v v2 : Value) (ar : List Int) (r : LRule) (w : World) (h : RdInts w w.heap.size v ar) (h2 : RdRule w w.heap.size v2 r) (hr : ar.length ≤ 1048576) (hs : szR r ≤ 1048576) :
    Calls Try.prog 35 #[v, v2] w fun e w' => ∃ A' c', e = .returned (.slice A' (planOrdL ar r).length c') ∧ OwnRows w' w.heap.size w'.heap.size (.slice A' (planOrdL ar r).length c') (planOrdL ar r) ∧ Below w.heap.size w w' := by
  have H := Lib.hid h
  have H2 := Lib.hid h2
  obtain ⟨hd, b⟩ := r
  have hss := hs
  unfold szR at hss
  simp only at hss
  obtain ⟨A, c, rfl, hc, _⟩ := h
  obtain ⟨a1, a2, rfl, h2a, h2b⟩ := h2
  obtain ⟨A1, c1, rfl, hc1, _⟩ := h2a
  obtain ⟨A2, c2, rfl, hc2, _⟩ := h2b
  simp only at hc1 hc2
  obtain ⟨w1, hw1⟩ : ∃ w1, w1 = w.alloc (Obj.cells #[Value.int IntKind.i64 hd.1, Value.slice A1 hd.2.length c1, Value.slice A2 b.length c2] 28) := ⟨_, rfl⟩
  have HB1 := Lib.hid (show Below w.heap.size w w1 by rw [hw1]; exact below1 _ _)
  have X1 := Lib.hid (show Blk w1 w.heap.size 28 #[.int .i64 hd.1, .slice A1 hd.2.length c1, .slice A2 b.length c2] by rw [hw1]; exact Blk.new _ _ _)
  have q0 : w1.cell? ⟨w.heap.size, 0, none⟩ = some (.int .i64 hd.1) := X1.out.cell 0
  have q1 : w1.cell? ⟨w.heap.size, 1, none⟩ = some (.slice A1 hd.2.length c1) := X1.out.cell 1
  have q2 : w1.cell? ⟨w.heap.size, 2, none⟩ = some (.slice A2 b.length c2) := X1.out.cell 2
  have CR := Lib.hid (specRuleOk_any (.slice A ar.length c) (.agg #[.int .i64 hd.1, .slice A1 hd.2.length c1, .slice A2 b.length c2]) ar (hd, b) w1 (H.out.on HB1.out) (H2.out.on HB1.out) hr hs)
  obtain ⟨ro, hro⟩ : ∃ ro, ro = ruleOk ar (hd, b) := ⟨_, rfl⟩
  rw [← hro] at CR
  have HRO := Lib.hid hro
  clear hro
  cases ro
  · have HL := Lib.hid (show planOrdL ar (hd, b) = [] by unfold planOrdL; rw [← HRO.out]; rfl)
    go_enter Try.func35, Try.ntmps35
    go_upto_region 1 with fail
    rw [← hw1]
    clear hw1
    go_wp2_with (go_at_call 15; refine CR.out.mono ?_; rintro e w2 ⟨rfl, b2⟩)
    go_ret
    have hb := bthen HB1.out b2
    refine ⟨none, 0, by rw [HL.out]; rfl, ?_, hb⟩
    rw [HL.out]
    exact (ColO.nil hb (Nat.le_refl _) hb.size).rows
  · have HL := Lib.hid (show planOrdL ar (hd, b) = ordS b b.length [] by unfold planOrdL; rw [← HRO.out, planOrd_spec]; rfl)
    have hsafe := ruleOk_safe HRO.out.symm
    have HSF := Lib.hid hsafe
    clear hsafe
    go_enter Try.func35, Try.ntmps35
    go_upto_region 1 with fail
    rw [← hw1]
    clear hw1
    go_upto_region 3 with (go_at_call 15; refine CR.out.mono ?_; rintro e w2 ⟨rfl, b2⟩)
    have x2 := X1.out.below b2 X1.out.lt
    have B2 := Lib.hid (bthen HB1.out b2)
    have q20 : w2.cell? ⟨w.heap.size, 0, none⟩ = some (.int .i64 hd.1) := x2.cell 0
    have q21 : w2.cell? ⟨w.heap.size, 1, none⟩ = some (.slice A1 hd.2.length c1) := x2.cell 1
    have q22 : w2.cell? ⟨w.heap.size, 2, none⟩ = some (.slice A2 b.length c2) := x2.cell 2
    obtain ⟨w3, hw3⟩ : ∃ w3, w3 = w2.alloc (.cells #[] 3) := ⟨_, rfl⟩
    obtain ⟨w4, hw4⟩ : ∃ w4, w4 = w3.alloc (.cells #[] 23) := ⟨_, rfl⟩
    have s3 : w3.heap.size = w2.heap.size + 1 := by rw [hw3]; simp
    have s4 : w4.heap.size = w2.heap.size + 1 + 1 := by rw [hw4]; simp [s3]
    have b3 : Below w2.heap.size w2 w3 := by rw [hw3]; exact below1 _ _
    have hcol : ColO w2.heap.size w2 w4 [] (some ⟨w3.heap.size, 0, none⟩) 0 [] := by rw [hw4]; exact ColO.empty b3 (Nat.le_refl _) b3.size
    have hbeg : OwnInts w4 w2.heap.size w4.heap.size (.slice (some ⟨w2.heap.size, 0, none⟩) 0 0) [] := by
      refine ⟨?_, fun g hg => (by simp [Value.ownBlock] at hg; omega)⟩
      rw [hw4, hw3]
      exact (World.ownsRow_made w2 #[] 0 (Nat.le_refl _) (by decide) rfl).alloc _
    have CO := Lib.hid (l10Orders_any (.slice A ar.length c) (.agg #[.int .i64 hd.1, .slice A1 hd.2.length c1, .slice A2 b.length c2]) ar (hd, b) w2 w2.heap.size (H.out.on B2.out) (H2.out.on B2.out) HRO.out.symm hr hs b.length [] [] (some ⟨w3.heap.size, 0, none⟩) 0 [] (some ⟨w2.heap.size, 0, none⟩) 0 w4 (by simp) (by have := HSF.out.2; have h9 : 4 ^ b.length ≤ 4 ^ 4 := Nat.pow_le_pow_right (by decide) this; simp; omega) hcol hbeg)
    rw [s3] at CO
    clear q0 q1 q2 x2 b2 b3 hcol hbeg s3 s4
    go_wp2_with (go_at_call 79; rw [← hw3, ← hw4]; refine CO.out.mono ?_; rintro e w5 ⟨A3, c3, avn, rfl, o3, _⟩)
    go_ret
    have hb := bthen B2.out o3.below
    refine ⟨A3, c3, by rw [HL.out]; rfl, ?_, hb⟩
    rw [HL.out]
    obtain ⟨av, r1, r2, r3⟩ := o3.rows
    exact ⟨av, r1.mono B2.out.size (Nat.le_refl _), ownsRow_mono r2 B2.out.size, r3⟩

end Go.Proofs.Ytocpfmbieedpgaa
/-
  The walk of PlanOrders of the program.
-/
namespace Go.Proofs.Ytocpfmbieedpgaa
open Go.RowKit

set_option maxHeartbeats 4000000 in
set_option maxRecDepth 100000 in
theorem implPlanOrders_any (v v2 : Value) (ar : List Int) (r : LRule) (w : World) (h : RdInts w w.heap.size v ar) (h2 : RdRule w w.heap.size v2 r) (hr : ar.length ≤ 1048576) (hs : szR r ≤ 1048576) :
    Calls Try.prog 16 #[v, v2] w fun e w' => ∃ A' c', e = .returned (.slice A' (planOrdL ar r).length c') ∧ OwnRows w' w.heap.size w'.heap.size (.slice A' (planOrdL ar r).length c') (planOrdL ar r) ∧ Below w.heap.size w w' := by
  have H := Lib.hid h
  have H2 := Lib.hid h2
  obtain ⟨hd, b⟩ := r
  have hss := hs
  unfold szR at hss
  simp only at hss
  obtain ⟨A, c, rfl, hc, _⟩ := h
  obtain ⟨a1, a2, rfl, h2a, h2b⟩ := h2
  have H2B := Lib.hid h2b
  obtain ⟨A1, c1, rfl, hc1, _⟩ := h2a
  obtain ⟨A2, c2, rfl, hc2, _⟩ := h2b
  simp only at hc1 hc2
  obtain ⟨w1, hw1⟩ : ∃ w1, w1 = w.alloc (Obj.cells #[Value.int IntKind.i64 hd.1, Value.slice A1 hd.2.length c1, Value.slice A2 b.length c2] 28) := ⟨_, rfl⟩
  have HB1 := Lib.hid (show Below w.heap.size w w1 by rw [hw1]; exact below1 _ _)
  have X1 := Lib.hid (show Blk w1 w.heap.size 28 #[.int .i64 hd.1, .slice A1 hd.2.length c1, .slice A2 b.length c2] by rw [hw1]; exact Blk.new _ _ _)
  have q0 : w1.cell? ⟨w.heap.size, 0, none⟩ = some (.int .i64 hd.1) := X1.out.cell 0
  have q1 : w1.cell? ⟨w.heap.size, 1, none⟩ = some (.slice A1 hd.2.length c1) := X1.out.cell 1
  have q2 : w1.cell? ⟨w.heap.size, 2, none⟩ = some (.slice A2 b.length c2) := X1.out.cell 2
  have CR := Lib.hid (implRuleOk_any (.slice A ar.length c) (.agg #[.int .i64 hd.1, .slice A1 hd.2.length c1, .slice A2 b.length c2]) ar (hd, b) w1 (H.out.on HB1.out) (H2.out.on HB1.out) hr hs)
  obtain ⟨ro, hro⟩ : ∃ ro, ro = ruleOk ar (hd, b) := ⟨_, rfl⟩
  rw [← hro] at CR
  have HRO := Lib.hid hro
  clear hro
  cases ro
  · have HL := Lib.hid (show planOrdL ar (hd, b) = [] by unfold planOrdL; rw [← HRO.out]; rfl)
    go_enter Try.func16, Try.ntmps16
    go_upto_region 1 with fail
    rw [← hw1]
    clear hw1
    go_wp2_with (go_at_call 14; refine CR.out.mono ?_; rintro e w2 ⟨rfl, b2⟩)
    go_ret
    have hb := bthen HB1.out b2
    refine ⟨none, 0, by rw [HL.out]; rfl, ?_, hb⟩
    rw [HL.out]
    exact (ColO.nil hb (Nat.le_refl _) hb.size).rows
  · have HL := Lib.hid (show planOrdL ar (hd, b) = ordF b b.length [] by unfold planOrdL; rw [← HRO.out]; rfl)
    have hsafe := ruleOk_safe HRO.out.symm
    have HSF := Lib.hid hsafe
    clear hsafe
    go_enter Try.func16, Try.ntmps16
    go_upto_region 1 with fail
    rw [← hw1]
    clear hw1
    go_upto_region 3 with (go_at_call 14; refine CR.out.mono ?_; rintro e w2 ⟨rfl, b2⟩)
    have x2 := X1.out.below b2 X1.out.lt
    have B2 := Lib.hid (bthen HB1.out b2)
    have q20 : w2.cell? ⟨w.heap.size, 0, none⟩ = some (.int .i64 hd.1) := x2.cell 0
    have q21 : w2.cell? ⟨w.heap.size, 1, none⟩ = some (.slice A1 hd.2.length c1) := x2.cell 1
    have q22 : w2.cell? ⟨w.heap.size, 2, none⟩ = some (.slice A2 b.length c2) := x2.cell 2
    have CO := Lib.hid (ordersFrom_any b w2.heap.size w2 A2 c2 (H2B.out.on B2.out) HSF.out.2 (by omega) b.length [] [] none 0 [] none 0 w2 (by simp) (by have := HSF.out.2; have h9 : 4 ^ b.length ≤ 4 ^ 4 := Nat.pow_le_pow_right (by decide) this; simp; omega) (ColO.nil (Below.refl _ _) (Nat.le_refl _) (Nat.le_refl _)) ⟨World.ownsRow_nil _ _ _ _, fun g hg => by cases hg⟩ (by simp))
    clear q0 q1 q2 x2 b2
    go_wp2_with (go_at_call 54; refine CO.out.mono ?_; rintro e w3 ⟨A3, c3, avn, rfl, o3, _, _, _⟩)
    go_ret
    have hb := bthen B2.out o3.below
    refine ⟨A3, c3, by rw [HL.out]; rfl, ?_, hb⟩
    rw [HL.out]
    obtain ⟨av, r1, r2, r3⟩ := o3.rows
    exact ⟨av, r1.mono B2.out.size (Nat.le_refl _), ownsRow_mono r2 B2.out.size, r3⟩

end Go.Proofs.Ytocpfmbieedpgaa
/-
  Rows of slices of integers as results of laws: compared, marked, held.
-/
namespace Go.Proofs.Ytocpfmbieedpgaa
open Go.RowKit

def totSS (xss : List (List Int)) : Nat := (xss.map List.length).sum
def szRows (xss : List (List Int)) : Nat := xss.length + totSS xss
theorem totSS_at : ∀ (xss : List (List Int)) (k : Nat) (h : k < xss.length), xss[k].length ≤ totSS xss
  | x :: xss, 0, _ => by simp [totSS]
  | x :: xss, k + 1, h => by
    have := totSS_at xss k (by simpa using h)
    simp only [totSS, List.map_cons, List.sum_cons, List.getElem_cons_succ] at this ⊢
    omega
theorem totSS_take (xss : List (List Int)) (k : Nat) (h : k < xss.length) : totSS (xss.take (k + 1)) = totSS (xss.take k) + xss[k].length := by
  unfold totSS
  rw [take_snoc xss k h, List.map_append, List.sum_append]
  simp
theorem totSS_take_le : ∀ (xss : List (List Int)) (k : Nat), totSS (xss.take k) ≤ totSS xss
  | [], k => by simp
  | x :: xss, 0 => by simp [totSS]
  | x :: xss, k + 1 => by
    have := totSS_take_le xss k
    simp only [totSS, List.take_succ_cons, List.map_cons, List.sum_cons] at this ⊢
    omega
theorem totSS_few {xss : List (List Int)} {n m : Nat} (hn : xss.length ≤ n) (hm : ∀ x ∈ xss, x.length ≤ m) : totSS xss ≤ n * m := by
  have key : ∀ (l : List (List Int)), (∀ x ∈ l, x.length ≤ m) → totSS l ≤ l.length * m := by
    intro l
    induction l with
    | nil => intro _; simp [totSS]
    | cons x l ih =>
      intro h
      have h1 := h x List.mem_cons_self
      have h2 := ih fun y hy => h y (List.mem_cons_of_mem _ hy)
      simp only [totSS, List.map_cons, List.sum_cons, List.length_cons, Nat.add_mul] at h2 ⊢
      omega
  exact Nat.le_trans (key xss hm) (Nat.mul_le_mul_right m hn)

set_option maxHeartbeats 1000000 in
set_option maxRecDepth 100000 in
theorem eqIntSS_any (va vb : Value) (xs ys : List (List Int)) (w : World) (ha : RdRows w w.heap.size va xs) (hb : RdRows w w.heap.size vb ys) (hxy : xs = ys) (h1 : szRows xs ≤ 1048576) :
    Calls Try.prog 36 #[va, vb] w fun e w' => e = .returned (.bool (decide (xs = ys))) ∧ Below w.heap.size w w' := by
  subst hxy
  rw [decide_eq_true (rfl : xs = xs)]
  unfold szRows at h1
  have HA := Lib.hid ha
  have HB := Lib.hid hb
  obtain ⟨A, c, rfl, hc, _⟩ := ha
  obtain ⟨A2, c2, rfl, hc2, _⟩ := hb
  have hl1 : ((xs.length : Int) != (xs.length : Int)) = false := by simp
  go_enter Try.func36, Try.ntmps36
  go_wp2_with fail
  go_loopw [5] (fun i wr => ∃ k : Nat, k ≤ xs.length ∧ i = .int .i64 k ∧ Below w.heap.size w wr) (fun i _ => xs.length - (intOf i).toNat)
  case atStart => exact ⟨0, Nat.zero_le _, rfl, Below.refl _ _⟩
  case round =>
    obtain ⟨k, hk, rfl, hbe⟩ := hrel
    by_cases hlt : k < xs.length
    · obtain ⟨b, o, A3, c3, rfl, hbB, k0, r0⟩ := (HA.out.on hbe).get hlt
      obtain ⟨b2, o2, A4, c4, rfl, hbB2, k2, r2⟩ := (HB.out.on hbe).get hlt
      have hln := totSS_at xs k hlt
      have M0 := later_cell k0
      have M1 := later_cell k2
      have CE := Lib.hid (fun q : Later wr => (eqIntS_any (.slice A3 xs[k].length c3) (.slice A4 xs[k].length c4) xs[k] xs[k] q.val (r0.on q.2) (r2.on q.2) (by omega) (by omega)))
      simp only [decide_true] at CE
      clear k0 k2 r0 r2
      go_wp2_with fail
      refine wp_region_later (by kernel_rfl) (by kernel_rfl) ?_
      repeat (go_big_quiet_step ((go_at_call 26; exact later_of (CE.out _))))
      refine wpQuiet_nil ?_
      rintro _ ⟨xq, rfl⟩
      go_wp2_with fail
      go_roundw
      case rel => exact ⟨k + 1, by omega, by go_num, bthen hbe xq.2⟩
      case measure => simp [intOf]; omega
    · go_wp2_with fail
      go_ret
      exact ⟨rfl, hbe⟩

/-- The rows that marks from k on leave. -/
def markR : Int → List (List Int) → List (List Int)
  | _, [] => []
  | k, x :: xs => seqI k x.length :: markR (k + (x.length : Int)) xs
theorem markR_length : ∀ (k : Int) (xs : List (List Int)), (markR k xs).length = xs.length
  | _, [] => rfl
  | k, x :: xs => by simp [markR, markR_length _ xs]
theorem markR_snoc : ∀ (k : Int) (xs : List (List Int)) (x : List Int), markR k (xs ++ [x]) = markR k xs ++ [seqI (k + (totSS xs : Int)) x.length]
  | k, [], x => by simp [markR, totSS]
  | k, y :: xs, x => by
    have h := markR_snoc (k + (y.length : Int)) xs x
    have e : k + (y.length : Int) + (totSS xs : Int) = k + (totSS (y :: xs) : Int) := by simp [totSS]; omega
    rw [e] at h
    simp [markR, h]
theorem markR_at {xss : List (List Int)} {k : Int} {j : Nat} (h : j < xss.length) (h' : j < (markR k xss).length) : (markR k xss)[j] = seqI (k + (totSS (xss.take j) : Int)) xss[j].length := by
  have hp : ∀ (xs ys : List (List Int)) (k : Int), ∃ zs, markR k (xs ++ ys) = markR k xs ++ zs := by
    intro xs
    induction xs with
    | nil => intro ys k; exact ⟨_, rfl⟩
    | cons x xs ih =>
      intro ys k
      obtain ⟨zs, hz⟩ := ih ys (k + (x.length : Int))
      exact ⟨zs, by simp [markR, hz]⟩
  have e : xss = xss.take (j + 1) ++ xss.drop (j + 1) := (List.take_append_drop _ _).symm
  have hl : (markR k (xss.take j)).length = j := by rw [markR_length]; simp; omega
  obtain ⟨zs, hz⟩ := hp (xss.take (j + 1)) (xss.drop (j + 1)) k
  rw [← e, take_snoc xss j h, markR_snoc] at hz
  have : (markR k xss)[j]? = some (seqI (k + (totSS (xss.take j) : Int)) xss[j].length) := by
    rw [hz, List.append_assoc, List.getElem?_append_right (by omega), hl]
    simp
  rw [List.getElem?_eq_getElem h'] at this
  exact Option.some.inj this
/-- The first j are marked. -/
def markedR (xss : List (List Int)) (k : Int) (j : Nat) : List (List Int) := markR k (xss.take j) ++ xss.drop j
theorem markedR_step {xss : List (List Int)} {k : Int} {j : Nat} (h : j < xss.length) : (markedR xss k j).set j (seqI (k + (totSS (xss.take j) : Int)) xss[j].length) = markedR xss k (j + 1) := by
  have hl : (markR k (xss.take j)).length = j := by rw [markR_length]; simp; omega
  unfold markedR
  rw [List.drop_eq_getElem_cons h, List.set_append_right _ _ (by omega), hl, Nat.sub_self, List.set_cons_zero, take_snoc xss j h, markR_snoc]
  simp
theorem markedR_at {xss : List (List Int)} {k : Int} {j : Nat} (h : j < xss.length) (h' : j < (markedR xss k j).length) : (markedR xss k j)[j] = xss[j] := by
  have hl : (markR k (xss.take j)).length = j := by rw [markR_length]; simp; omega
  have e : (markedR xss k j)[j]? = some xss[j] := by
    unfold markedR
    rw [List.getElem?_append_right (by omega), hl]
    simp [h]
  rw [List.getElem?_eq_getElem h'] at e
  exact Option.some.inj e
theorem markedR_length {xss : List (List Int)} {k : Int} {j : Nat} (h : j ≤ xss.length) : (markedR xss k j).length = xss.length := by simp [markedR, markR_length]; omega

/-- A row of slices of the call's own, the slices named. -/
structure OwnRA (w : World) (lo hi : Nat) (v : Value) (xss : List (List Int)) (av : List Value) : Prop where
  args : OwnArgs w lo hi av xss
  row : w.ownsRow lo 23 1 v xss.length av
  lt : ∀ g, v.ownBlock = some g → g < hi
theorem OwnRA.step {w w3 : World} {lo hi j : Nat} {v : Value} {xss : List (List Int)} {av : List Value} {ys : List Int} (h : OwnRA w lo hi v xss av) (hj : j < xss.length) (hja : j < av.length)
    (hI : OwnInts w3 lo hi av[j] ys) (hg : w.grownBy w3 av[j].ownBlock) : OwnRA w3 lo hi v (xss.set j ys) av := by
  obtain ⟨ha, hr, hlt⟩ := h
  have hlen := ha.len
  have hapart : ∀ i i' (hi' : i < av.length) (hi'' : i' < av.length), i ≠ i' → ∀ b, av[i].ownBlock = some b → av[i'].ownBlock ≠ some b := by
    intro i i' h1 h2 hne b hb hb'
    have hp := List.pairwise_iff_getElem.1 ha.apart
    rcases Nat.lt_or_gt_of_ne hne with hl | hl
    · exact hp i i' h1 h2 hl b hb hb'
    · exact hp i' i h2 h1 hl b hb' hb
  refine ⟨⟨by simp [hlen], fun i h1 h2 => ?_, ha.apart⟩, ?_, hlt⟩
  · by_cases e : i = j
    · subst e
      simpa using hI
    · have h0 := ha.own i (by simpa using h1) h2
      rw [List.getElem_set_ne (Ne.symm e)]
      exact h0.kept fun b hb => hg.block b (h0.lt hb).2.2 fun e2 => hapart i j h2 hja e b hb e2.symm
  · rw [List.length_set]
    exact ownsRow_only hr fun b hb => hg.block b (hr.lt b hb).2 fun e2 => rowsI_ne hr hb (ha.own j hj hja) e2.symm

/-- The marks from k on stand in a row of slices, and end at z. -/
def HdRows (w : World) (lo hi : Nat) (v : Value) (xss : List (List Int)) (k z : Int) : Prop := OwnRows w lo hi v (markR k xss) ∧ z = k + (totSS xss : Int) ∧ 0 ≤ k ∧ k ≤ 4294967296 ∧ szRows xss ≤ 1073741824
theorem HdRows.below {w w' : World} {lo hi B : Nat} {v : Value} {xss : List (List Int)} {k z : Int} (h : HdRows w lo hi v xss k z) (hb : Below B w w') (hB : hi ≤ B) : HdRows w' lo hi v xss k z := ⟨h.1.below hb hB, h.2⟩
theorem HdRows.only {w w' : World} {lo hi lo' hi' : Nat} {v : Value} {xss : List (List Int)} {k z : Int} (h : HdRows w lo hi v xss k z) (ho : Only lo' hi' w w') (hd : hi ≤ lo' ∨ hi' ≤ lo) : HdRows w' lo hi v xss k z := ⟨h.1.only ho hd, h.2⟩

set_option maxHeartbeats 1000000 in
set_option maxRecDepth 100000 in
theorem um_rows {v : Value} {xss : List (List Int)} {lo hi : Nat} {w : World} (k : Int) (h : OwnRows w lo hi v xss) (hk0 : 0 ≤ k) (hk : k ≤ 4294967296) (hs : szRows xss ≤ 1073741824) :
    Calls Try.prog 37 #[v, .int .i64 k] w fun e w' => ∃ z, e = .returned (.int .i64 z) ∧ k ≤ z ∧ z ≤ k + szRows xss ∧ HdRows w' lo hi v xss k z ∧ Only lo hi w w' := by
  have HS := Lib.hid hs
  unfold szRows at hs
  obtain ⟨A, c, rfl⟩ := h.form
  obtain ⟨av, h1, h2, h3⟩ := h
  have H := Lib.hid (show OwnRA w lo hi (.slice A xss.length c) xss av from ⟨h1, h2, h3⟩)
  have hal := h1.len
  have HAL := Lib.hid hal
  clear h1 h2 h3 hal
  go_enter Try.func37, Try.ntmps37
  go_wp2_with fail
  go_loopw [1, 5] (fun m i wr => ∃ (j : Nat) (z : Int), j ≤ xss.length ∧ i = .int .i64 j ∧ m = .int .i64 z ∧ z = k + (totSS (xss.take j) : Int) ∧ OwnRA wr lo hi (.slice A xss.length c) (markedR xss k j) av ∧ Only lo hi w wr) (fun _ i _ => xss.length - (intOf i).toNat)
  case atStart =>
    have e : markedR xss k 0 = xss := by simp [markedR, markR]
    exact ⟨0, k, Nat.zero_le _, rfl, rfl, by simp [totSS], by rw [e]; exact H.out, Only.refl _ _ _⟩
  case round =>
    obtain ⟨j, z, hj, rfl, rfl, hz, ho, hon⟩ := hrel
    by_cases hlt : j < xss.length
    · have hml := markedR_length (k := k) (Nat.le_of_lt hlt)
      have hja : j < av.length := by rw [HAL.out]; exact hlt
      have hoj := ho.args.own j (by omega) hja
      rw [markedR_at hlt (by omega)] at hoj
      obtain ⟨A2, c2, hav⟩ := hoj.form
      have hcell : ∃ g, A = some ⟨g, 0, none⟩ ∧ wr.cell? ⟨g, j, none⟩ = some (.slice A2 xss[j].length c2) := by
        have hcells := @World.ownsRow.cells wr lo 23 1 _ _ av ho.row
        rcases ho.row.2 with ⟨e, e0⟩ | ⟨g, cap, cur, e, _⟩
        · omega
        · injection e with e1 _ _
          refine ⟨g, e1, ?_⟩
          have := hcells (g := g) (by rw [e1]; rfl) j (av[j]'hja) (by simp [hja])
          rw [Go.WideShapes.add_plain, Nat.zero_add, hav] at this
          exact this
      obtain ⟨g, rfl, hck⟩ := hcell
      have hln := totSS_at xss j hlt
      have hlt2 := totSS_take_le xss j
      have hst := totSS_take xss j hlt
      have HO := Lib.hid ho
      have HN := Lib.hid hon
      have CM := Lib.hid (markIntS_any (.slice A2 xss[j].length c2) xss[j] z lo hi wr (hav ▸ hoj) (by omega) (by omega))
      have HZ := Lib.hid hz
      have HAV := Lib.hid hav
      have HJ := Lib.hid hoj
      have HST := Lib.hid hst
      clear ho hon hoj hz hav hml hst
      go_wp2_with (go_at_call 31; refine CM.out.mono ?_; rintro e w2 ⟨rfl, o2, g2⟩; have H2 := Lib.hid (And.intro o2 g2); clear o2 g2)
      have HF := Lib.hid (show OwnRA w2 lo hi (.slice (some ⟨g, 0, none⟩) xss.length c) (markedR xss k (j + 1)) av ∧ Only lo hi w w2 from by
        obtain ⟨o2, g2⟩ := H2.out
        have hml := markedR_length (k := k) (Nat.le_of_lt hlt)
        have hs2 := HO.out.step (by omega) hja (by rw [HAV.out]; exact o2) (by rw [HAV.out]; exact g2)
        rw [HZ.out, markedR_step hlt] at hs2
        exact ⟨hs2, HN.out.trans (Only.of_grown g2 fun b hb => by have := HJ.out.lt (g := b) (by rw [HAV.out]; exact hb); omega)⟩)
      go_roundw
      case rel => exact ⟨j + 1, _, by omega, by go_num, rfl, by rw [HST.out, HZ.out]; omega, HF.out.1, HF.out.2⟩
      case measure => simp [intOf]; omega
    · have hjn : j = xss.length := by omega
      have HF := Lib.hid (show HdRows wr lo hi (.slice A xss.length c) xss k z ∧ Only lo hi w wr ∧ k ≤ z ∧ z ≤ k + szRows xss from by
        rw [hjn, List.take_length] at hz
        rw [hjn] at ho
        have e : markedR xss k xss.length = markR k xss := by simp [markedR]
        rw [e] at ho
        exact ⟨⟨⟨av, ho.args, ho.row, ho.lt⟩, hz, hk0, hk, HS.out⟩, hon, by omega, by unfold szRows; omega⟩)
      clear hjn hz ho hon
      go_wp2_with fail
      go_ret
      exact ⟨z, rfl, HF.out.2.2.1, HF.out.2.2.2, HF.out.1, HF.out.2.1⟩

set_option maxHeartbeats 1000000 in
set_option maxRecDepth 100000 in
theorem uh_rows {v : Value} {xss : List (List Int)} {lo hi : Nat} {w : World} {k z : Int} (h : HdRows w lo hi v xss k z) (hh : hi ≤ w.heap.size) :
    Calls Try.prog 38 #[v, .int .i64 k] w fun e w' => e = .returned (.int .i64 z) ∧ Below w.heap.size w w' := by
  obtain ⟨ho, hz, hk0, hk, hs⟩ := h
  unfold szRows at hs
  have hml := markR_length k xss
  have H := Lib.hid (ho.rd.more hh)
  obtain ⟨A, c, rfl⟩ := ho.form
  have HML := Lib.hid hml
  have HZ := Lib.hid hz
  rw [hml] at H ⊢
  clear ho hml hz
  go_enter Try.func38, Try.ntmps38
  go_wp2_with fail
  go_loopw [1, 5] (fun m i wr => ∃ (j : Nat) (y : Int), j ≤ xss.length ∧ i = .int .i64 j ∧ m = .int .i64 y ∧ y = k + (totSS (xss.take j) : Int) ∧ wr = w) (fun _ i _ => xss.length - (intOf i).toNat)
  case atStart => exact ⟨0, k, by simp [totSS]⟩
  case round =>
    obtain ⟨j, y, hj, rfl, rfl, hy, rfl⟩ := hrel
    by_cases hlt : j < xss.length
    · have hlt' : j < (markR k xss).length := by rw [HML.out]; exact hlt
      have hat := H.out
      rw [← HML.out] at hat
      obtain ⟨b, o, A2, c2, rfl, hbB, k0, r0⟩ := hat.get hlt'
      rw [markR_at hlt hlt', seqI_length] at k0
      rw [markR_at hlt hlt', ← hy, seqI_length] at r0
      have hln := totSS_at xss j hlt
      have hlt2 := totSS_take_le xss j
      have CM := Lib.hid (heldIntS_any (.slice A2 xss[j].length c2) xss[j].length y wr r0 (by omega) (by omega))
      have HST := Lib.hid (totSS_take xss j hlt)
      have HY := Lib.hid hy
      have hneg : decide (y + (xss[j].length : Int) < 0) = false := decide_eq_false (by omega)
      clear r0 hat hy
      go_wp2_with (go_at_call 78; refine CM.out.mono ?_; rintro e w2 ⟨rfl, rfl⟩)
      go_roundw
      case rel => exact ⟨j + 1, _, by omega, by go_num, rfl, by rw [HST.out, HY.out]; omega, by first | trivial | rfl⟩
      case measure => simp [intOf]; omega
    · have HF := Lib.hid (show y = z by rw [HZ.out, hy, show j = xss.length by omega, List.take_length])
      clear hy
      go_wp2_with fail
      go_ret
      exact ⟨ret_int HF.out, Below.refl _ _⟩

end Go.Proofs.Ytocpfmbieedpgaa
/-
  The size of all orders.
-/
namespace Go.Proofs.Ytocpfmbieedpgaa
open Go.RowKit

theorem planOrd_sz (ar : List Int) (r : LRule) : szRows (planOrdL ar r) ≤ 1048576 := by
  obtain ⟨h1, h2⟩ := planOrd_few ar r
  have h3 := rows_sz _ 4 h2
  unfold szRows totSS
  omega

end Go.Proofs.Ytocpfmbieedpgaa
