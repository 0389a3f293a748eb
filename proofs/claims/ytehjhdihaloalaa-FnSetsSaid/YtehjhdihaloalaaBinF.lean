/-
  slices.BinarySearchFunc at facts by FactOrder, setHas: found just if a member of the list that ascends.
-/
import Derived.Test.YtehjhdihaloalaaFactSet
import Derived.Laws.BitsAllLaws
namespace Go.Proofs.Ytehjhdihaloalaa
open Go.RowKit Go.Sort

/-- All ahead of i stand ahead of f. -/
def LessTo (fs : List LFact) (f : LFact) (i : Nat) : Prop := ∀ k (h : k < fs.length), k < i → factOrder fs[k] f < 0
def MoreFrom (fs : List LFact) (f : LFact) (j : Nat) : Prop := ∀ k (h : k < fs.length), j ≤ k → ¬ factOrder fs[k] f < 0

theorem asc_lt {fs : List LFact} (h : Asc fs) {i j : Nat} (hi : i < fs.length) (hj : j < fs.length) (hij : i < j) : factOrder fs[i] fs[j] < 0 := List.pairwise_iff_getElem.1 h i j hi hj hij
theorem lessTo_mid {fs : List LFact} {f : LFact} (h : Asc fs) {m : Nat} (hm : m < fs.length) (e : factOrder fs[m] f < 0) : LessTo fs f (m + 1) := fun k hk hlt => by
  by_cases e2 : k = m
  · subst e2
    exact e
  · exact order_less (asc_lt h hk hm (by omega)) e
theorem moreFrom_mid {fs : List LFact} {f : LFact} (h : Asc fs) {m : Nat} (hm : m < fs.length) (e : ¬ factOrder fs[m] f < 0) : MoreFrom fs f m := fun k hk hle he => by
  by_cases e2 : m = k
  · subst e2
    exact e he
  · exact e (order_less (asc_lt h hm hk (by omega)) he)
/-- At the end: a member just if it stands at the place. -/
theorem has_at {fs : List LFact} {f : LFact} {i : Nat} (h1 : LessTo fs f i) (h2 : MoreFrom fs f i) (hi : i < fs.length) (h : Asc fs) : decide (f ∈ fs) = (factOrder fs[i] f == 0) := by
  by_cases e : factOrder fs[i] f = 0
  · have := order_eq e
    rw [e]
    simp [← this]
  · have hne : ¬ f ∈ fs := fun hm => by
      obtain ⟨k, hk, rfl⟩ := List.getElem_of_mem hm
      rcases Nat.lt_trichotomy k i with hlt | rfl | hgt
      · have := h1 k hk hlt
        rw [order_refl] at this
        omega
      · exact e (order_refl _)
      · have h3 := asc_lt h hi hk hgt
        exact h2 i hi (Nat.le_refl _) h3
    rw [decide_eq_false hne]
    simpa using e
theorem has_none {fs : List LFact} {f : LFact} {i : Nat} (h1 : LessTo fs f i) (hi : ¬ i < fs.length) : decide (f ∈ fs) = false := by
  refine decide_eq_false fun hm => ?_
  obtain ⟨k, hk, rfl⟩ := List.getElem_of_mem hm
  have := h1 k hk (by omega)
  rw [order_refl] at this
  omega

/-- What a call of FactOrder asks, in any later world. -/
theorem order_in {w0 : World} {v v2 : Value} {f g : LFact} (h : RdFact w0 w0.heap.size v f) (h2 : RdFact w0 w0.heap.size v2 g) (hn : f.2.length ≤ 1048576) (hn2 : g.2.length ≤ 1048576) (x : Later w0) :
    Calls Try.prog 67 #[v, v2] x.val fun e w' => e = .returned (.int .i64 (factOrder f g)) ∧ Below x.val.heap.size x.val w' :=
  (implFactOrder_grow v v2 f g x.val (h.on x.2) (h2.on x.2) hn hn2).mono fun _ _ ⟨he, hG⟩ => ⟨he, hG.below⟩

set_option maxHeartbeats 2000000 in
set_option maxRecDepth 100000 in
theorem binF_any (v v2 : Value) (fs : List LFact) (f : LFact) (w : World) (h : RdFacts w w.heap.size v fs) (h2 : RdFact w w.heap.size v2 f) (ha : Asc fs) (hn : fs.length ≤ 2097152) (hl : tot fs ≤ 1048576) (hf : f.2.length ≤ 1048576) :
    Calls Try.prog 119 #[v, v2, .func (.func 67) #[] #[]] w fun e w' =>
      (∃ i : Int, e = .returned (.tuple #[.int .i64 i, .bool (decide (f ∈ fs))])) ∧ Below w.heap.size w w' := by
  have H := Lib.hid h
  have H2 := Lib.hid h2
  have HA := Lib.hid ha
  obtain ⟨A, c, rfl, hc, _⟩ := h
  obtain ⟨u, rfl, A2, c2, rfl, hc2, _⟩ := h2
  obtain ⟨R, hR⟩ : ∃ R, R = decide (f ∈ fs) := ⟨_, rfl⟩
  rw [← hR]
  have HR := Lib.hid hR
  clear hR ha
  go_enter Try.func119, Try.ntmps119
  go_wp2_with (fail)
  obtain ⟨w1, hw1⟩ : ∃ w1, w1 = w.alloc (Obj.cells #[Value.int IntKind.i64 f.1, Value.slice A2 f.2.length c2] 28) := ⟨_, rfl⟩
  have B1 : Below w.heap.size w w1 := by rw [hw1]; exact below1 _ _
  have x1 : Blk w1 w.heap.size 28 #[.int .i64 f.1, .slice A2 f.2.length c2] := by rw [hw1]; exact Blk.new _ _ _
  rw [← hw1]
  clear hw1
  have HX := Lib.hid (And.intro B1 x1)
  clear B1 x1
  go_loopw [9, 10, 11] (fun i j _ wr => ∃ (p q : Nat), p ≤ q ∧ q ≤ fs.length ∧ i = .int .i64 (p : Nat) ∧ j = .int .i64 (q : Nat) ∧ LessTo fs f p ∧ MoreFrom fs f q ∧ Below w1.heap.size w1 wr) (fun i j _ _ => (intOf j).toNat - (intOf i).toNat)
  case atStart => exact ⟨0, fs.length, Nat.zero_le _, Nat.le_refl _, rfl, rfl, fun k _ hk => absurd hk (by omega), fun k hk hle => absurd hk (by omega), Below.refl _ _⟩
  case round =>
    obtain ⟨p, q, hpq, hq, rfl, rfl, hlo, hhi, hbe⟩ := hrel
    have BW := bthen HX.out.1 hbe
    have xr := HX.out.2.below hbe HX.out.2.lt
    have L0 := later_cell (xr.cell 0 : wr.cell? ⟨w.heap.size, 0, none⟩ = some (.int .i64 f.1))
    have L1 := later_cell (xr.cell 1 : wr.cell? ⟨w.heap.size, 1, none⟩ = some (.slice A2 f.2.length c2))
    clear xr
    by_cases hlt : p < q
    · obtain ⟨m, hm⟩ : ∃ m, m = (p + q) / 2 := ⟨_, rfl⟩
      have hm1 : p ≤ m := by omega
      have hm2 : m < q := by omega
      have hml : m < fs.length := by omega
      have HM := Lib.hid (show ((p : Int) + (q : Int)) / 2 = (m : Int) by omega)
      obtain ⟨b, o, A3, c3, rfl, hbB, k1, k2, k3⟩ := (H.out.on BW).get hml
      have hln := len_le_tot fs m hml
      have M0 := later_cell k1
      have M1 := later_cell k2
      have CO := Lib.hid (order_in (w0 := wr) (f := fs[m]) (g := f) ⟨_, rfl, k3⟩ (H2.out.on BW) (by omega) hf)
      have HLO := Lib.hid (And.intro hlo hhi)
      clear k1 k2 k3 hlo hhi hm
      by_cases ho : factOrder fs[m] f < 0
      · have hd : decide (factOrder fs[m] f < 0) = true := decide_eq_true ho
        have HN := Lib.hid (lessTo_mid HA.out hml ho)
        go_wp2_with (fail)
        rw [HM.out]
        refine wp_region_later (by kernel_rfl) (by kernel_rfl) ?_
        repeat (go_big_quiet_step ((go_at_call 67; exact later_of (CO.out _))))
        refine wpQuiet_nil ?_
        rintro _ ⟨xq, rfl⟩
        go_wp2_with (fail)
        go_roundw
        case rel => exact ⟨m + 1, q, by omega, hq, by go_num, rfl, HN.out, HLO.out.2, bthen hbe xq.2⟩
        case measure => simp [intOf]; omega
      · have hd : decide (factOrder fs[m] f < 0) = false := decide_eq_false ho
        have HN := Lib.hid (moreFrom_mid HA.out hml ho)
        go_wp2_with (fail)
        rw [HM.out]
        refine wp_region_later (by kernel_rfl) (by kernel_rfl) ?_
        repeat (go_big_quiet_step ((go_at_call 67; exact later_of (CO.out _))))
        refine wpQuiet_nil ?_
        rintro _ ⟨xq, rfl⟩
        go_wp2_with (fail)
        go_roundw
        case rel => exact ⟨p, m, hm1, by omega, rfl, rfl, HLO.out.1, HN.out, bthen hbe xq.2⟩
        case measure => simp [intOf]; omega
    · obtain rfl : p = q := by omega
      by_cases hpl : p < fs.length
      · have HE := Lib.hid (show R = (factOrder fs[p] f == 0) by rw [HR.out, has_at hlo hhi hpl HA.out])
        obtain ⟨b, o, A3, c3, rfl, hbB, k1, k2, k3⟩ := (H.out.on BW).get hpl
        have hln := len_le_tot fs p hpl
        have M0 := later_cell k1
        have M1 := later_cell k2
        have CO := Lib.hid (order_in (w0 := wr) (f := fs[p]) (g := f) ⟨_, rfl, k3⟩ (H2.out.on BW) (by omega) hf)
        clear k1 k2 k3 hlo hhi
        by_cases hz : factOrder fs[p] f = 0
        · have HT := Lib.hid (show R = true by rw [HE.out, hz]; rfl)
          rw [hz] at CO
          clear hz
          go_wp2_with (fail)
          refine wp_region_later (by kernel_rfl) (by kernel_rfl) ?_
          repeat (go_big_quiet_step ((go_at_call 67; exact later_of (CO.out _))))
          refine wpQuiet_nil ?_
          rintro _ ⟨xq, rfl⟩
          go_wp2_with (fail)
          go_ret2
          rw [HT.out]
          exact ⟨⟨_, rfl⟩, bthen BW xq.2⟩
        · have hz2 : (factOrder fs[p] f == 0) = false := by simpa using hz
          have HT := Lib.hid (show R = false by rw [HE.out, hz2])
          clear hz
          go_wp2_with (fail)
          refine wp_region_later (by kernel_rfl) (by kernel_rfl) ?_
          repeat (go_big_quiet_step ((go_at_call 67; exact later_of (CO.out _))))
          refine wpQuiet_nil ?_
          rintro _ ⟨xq, rfl⟩
          go_wp2_with (fail)
          go_ret2
          rw [HT.out]
          exact ⟨⟨_, rfl⟩, bthen BW xq.2⟩
      · have HT := Lib.hid (show R = false by rw [HR.out, has_none hlo hpl])
        clear hlo hhi
        go_wp2_with (fail)
        refine wp_region_later (by kernel_rfl) (by kernel_rfl) ?_
        repeat (go_big_quiet_step (fail))
        refine wpQuiet_nil ?_
        rintro _ ⟨xq, rfl⟩
        go_wp2_with (fail)
        go_ret2
        rw [HT.out]
        exact ⟨⟨_, rfl⟩, bthen BW xq.2⟩

set_option maxHeartbeats 400000 in
set_option maxRecDepth 100000 in
theorem setHas_any (v v2 : Value) (fs : List LFact) (f : LFact) (w : World) (h : RdFacts w w.heap.size v fs) (h2 : RdFact w w.heap.size v2 f) (ha : Asc fs) (hn : fs.length ≤ 2097152) (hl : tot fs ≤ 1048576) (hf : f.2.length ≤ 1048576) :
    Calls Try.prog 103 #[v, v2] w fun e w' => e = .returned (.bool (decide (f ∈ fs))) ∧ Below w.heap.size w w' := by
  have H := Lib.hid h
  have H2 := Lib.hid h2
  obtain ⟨A, c, rfl, hc, _⟩ := h
  obtain ⟨u, rfl, A2, c2, rfl, hc2, _⟩ := h2
  have HB := Lib.hid (fun W (hW : Below w.heap.size w W) => binF_any (.slice A fs.length c) (.agg #[.int .i64 f.1, .slice A2 f.2.length c2]) fs f W (H.out.on hW) (H2.out.on hW) ha hn hl hf)
  generalize decide (f ∈ fs) = R at HB ⊢
  go_enter Try.func103, Try.ntmps103
  go_wp2_with (fail)
  refine (HB.out _ (below1 _ _)).mono ?_
  rintro e w2 ⟨⟨i, rfl⟩, hb2⟩
  have B2 := bthen (below1 _ _) hb2
  clear hb2
  go_wp2_with (fail)
  go_ret
  exact ⟨rfl, B2⟩

end Go.Proofs.Ytehjhdihaloalaa
