/-
  The walks of FactsOk: the program's and the specification's.
-/
import Derived.Test.YtehjhdihaloalaaHas
import Derived.Test.YtehjhdihaloalaaSpecFactOk
import Derived.Test.YtehjhdihaloalaaLater
namespace Go.Proofs.Ytehjhdihaloalaa
open Go.RowKit

def roundOk (ar : List Int) (fs : List LFact) (k : Nat) : Bool := factFits ar (fs.getD k (0, [])) && (decide (k = 0) || decide (factOrder (fs.getD (k - 1) (0, [])) (fs.getD k (0, [])) < 0))
def factsOk (ar : List Int) (fs : List LFact) : Bool := arityOk ar && (List.range fs.length).all (roundOk ar fs)
def OkTo (ar : List Int) (fs : List LFact) (k : Nat) : Prop := (List.range k).all (roundOk ar fs) = true
theorem OkTo.step {ar : List Int} {fs : List LFact} {k : Nat} (h : OkTo ar fs k) (e : roundOk ar fs k = true) : OkTo ar fs (k + 1) := by
  unfold OkTo at h ⊢
  rw [List.range_succ, List.all_append, h]
  simp [e]
theorem round_not {ar : List Int} {fs : List LFact} {k : Nat} (hk : k < fs.length) (e : roundOk ar fs k = false) : factsOk ar fs = false := by
  unfold factsOk
  have : (List.range fs.length).all (roundOk ar fs) = false := by
    rw [List.all_eq_false]
    exact ⟨k, List.mem_range.2 hk, by simp [e]⟩
  rw [this, Bool.and_false]
theorem getD_at {α : Type} {l : List α} {k : Nat} (h : k < l.length) {d : α} : l.getD k d = l[k] := by simp [h]
theorem round_first {ar : List Int} {fs : List LFact} {k : Nat} (hk : k < fs.length) (h : factFits ar fs[k] = true) (h0 : k = 0) : roundOk ar fs k = true := by
  unfold roundOk
  rw [getD_at hk, h]
  simp [h0]
theorem round_next {ar : List Int} {fs : List LFact} {j : Nat} (hk : j + 1 < fs.length) (hj : j < fs.length) (h : factFits ar fs[j + 1] = true) : roundOk ar fs (j + 1) = decide (factOrder fs[j] fs[j + 1] < 0) := by
  unfold roundOk
  rw [getD_at hk, h, Nat.add_sub_cancel, getD_at hj]
  simp
theorem round_unfit {ar : List Int} {fs : List LFact} {k : Nat} (hk : k < fs.length) (h : factFits ar fs[k] = false) : roundOk ar fs k = false := by
  unfold roundOk
  rw [getD_at hk, h]
  simp
theorem later_fact {w0 : World} {v : Value} {f : LFact} (h : RdFact w0 w0.heap.size v f) (x : Later w0) : RdFact x.val x.val.heap.size v f := h.on x.2
theorem later_ints {w0 : World} {v : Value} {f : List Int} (h : RdInts w0 w0.heap.size v f) (x : Later w0) : RdInts x.val x.val.heap.size v f := h.on x.2

set_option maxHeartbeats 1000000 in
set_option maxRecDepth 100000 in
theorem specFactsOk_any (v v2 : Value) (ar : List Int) (fs : List LFact) (w : World) (h : RdInts w w.heap.size v ar) (h2 : RdFacts w w.heap.size v2 fs) (hr : ar.length ≤ 1048576) (hn : fs.length ≤ 1048576) (ht : tot fs ≤ 1048576) :
    Calls Try.prog 22 #[v, v2] w fun e w' => e = .returned (.bool (factsOk ar fs)) ∧ Below w.heap.size w w' := by
  have H := Lib.hid h
  have H2 := Lib.hid h2
  obtain ⟨A, c, rfl, hc, _⟩ := h
  obtain ⟨A2, c2, rfl, hc2, _⟩ := h2
  go_enter Try.func22, Try.ntmps22
  go_wp2_with (fail)
  go_loopw [5] (fun i wr => ∃ k : Nat, k ≤ fs.length ∧ i = .int .i64 k ∧ OkTo ar fs k ∧ Below w.heap.size w wr) (fun i _ => fs.length - (intOf i).toNat)
  case atStart => exact ⟨0, Nat.zero_le _, rfl, by simp [OkTo], Below.refl _ _⟩
  case round =>
    obtain ⟨k, hk, rfl, hs, hbe⟩ := hrel
    by_cases hlt : k < fs.length
    · obtain ⟨b, o, A3, c3, rfl, hbB, k1, k2, k3⟩ := (H2.out.on hbe).get hlt
      have K3 := Lib.hid (show RdFact wr wr.heap.size (.agg #[.int .i64 fs[k].1, .slice A3 fs[k].2.length c3]) fs[k] from ⟨_, rfl, k3⟩)
      have hln := len_le_tot fs k hlt
      have L1 := later_cell k1
      have L2 := later_cell k2
      clear k1 k2 k3
      by_cases hfo : factOk ar fs[k] = true
      · have CF := Lib.hid (fun x : Later wr => (specFactOk_any _ _ ar fs[k] x.val ((H.out.on hbe).on x.2) (K3.out.on x.2) hr (by omega)).mono fun e w' (hh : e = .returned (.bool (factOk ar fs[k])) ∧ Below x.val.heap.size x.val w') => (⟨by rw [hh.1, hfo], hh.2⟩ : e = .returned (.bool true) ∧ Below x.val.heap.size x.val w'))
        have hff : factFits ar fs[k] = true := by
          unfold factOk at hfo
          exact (Bool.and_eq_true _ _ ▸ hfo).2
        have HA := Lib.hid (show arityOk ar = true by
          unfold factOk at hfo
          exact (Bool.and_eq_true _ _ ▸ hfo).1)
        clear hfo
        rcases Nat.eq_zero_or_pos k with hk0 | hk0
        · have hd : decide (0 < k) = false := by simp [hk0]
          have HS := Lib.hid (hs.step (round_first hlt hff hk0) : OkTo ar fs (k + 1))
          clear hs hk0 hff
          go_wp2_with (fail)
          refine wp_region_later (by kernel_rfl) (by kernel_rfl) ?_
          repeat (go_big_quiet_step ((go_at_call 15; exact later_of (CF.out _))))
          refine wpQuiet_nil ?_
          rintro _ ⟨xq, rfl⟩
          go_wp2_with (fail)
          go_roundw
          case rel => exact ⟨k + 1, by omega, by go_num, HS.out, bthen hbe xq.2⟩
          case measure => simp [intOf]; omega
        · obtain ⟨j, rfl⟩ : ∃ j, k = j + 1 := ⟨k - 1, by omega⟩
          have hltj : j < fs.length := by omega
          obtain ⟨b', o', A4, c4, e4, hbB', m1, m2, m3⟩ := (H2.out.on hbe).get hltj
          simp only [Option.some.injEq, Addr.mk.injEq, and_true] at e4
          obtain ⟨rfl, rfl⟩ := e4
          have K4 := Lib.hid (show RdFact wr wr.heap.size (.agg #[.int .i64 fs[j].1, .slice A4 fs[j].2.length c4]) fs[j] from ⟨_, rfl, m3⟩)
          have hlnj := len_le_tot fs j hltj
          have M1 := later_cell m1
          have M2 := later_cell m2
          have CO := Lib.hid (fun x : Later wr => specFactOrder_any _ _ fs[j] fs[j + 1] x.val (K4.out.on x.2) (K3.out.on x.2) (by omega) (by omega))
          clear m1 m2 m3
          by_cases hlo : factOrder fs[j] fs[j + 1] < 0
          · have hd : decide (0 ≤ factOrder fs[j] fs[j + 1]) = false := by simp; omega
            have HS := Lib.hid (hs.step (by rw [round_next hlt hltj hff]; simp [hlo]) : OkTo ar fs (j + 1 + 1))
            clear hs hff
            go_wp2_with (fail)
            refine wp_region_later (by kernel_rfl) (by kernel_rfl) ?_
            repeat (go_big_quiet_step (first | (go_at_call 15; exact later_of (CF.out _)) | (go_at_call 66; exact later_of (CO.out _))))
            refine wpQuiet_nil ?_
            rintro _ ⟨xq, rfl⟩
            go_wp2_with (fail)
            go_roundw
            case rel => exact ⟨j + 1 + 1, by omega, by go_num, HS.out, bthen hbe xq.2⟩
            case measure => simp [intOf]; omega
          · have hd : decide (0 ≤ factOrder fs[j] fs[j + 1]) = true := by simp; omega
            have HE := Lib.hid (show factsOk ar fs = false from round_not hlt (by rw [round_next hlt hltj hff]; simp [hlo]))
            clear hs hff
            go_wp2_with (fail)
            refine wp_region_later (by kernel_rfl) (by kernel_rfl) ?_
            repeat (go_big_quiet_step (first | (go_at_call 15; exact later_of (CF.out _)) | (go_at_call 66; exact later_of (CO.out _))))
            refine wpQuiet_nil ?_
            rintro _ ⟨xq, rfl⟩
            go_wp2_with (fail)
            go_ret
            exact ⟨ret_bool HE.out.symm, bthen hbe xq.2⟩
      · have CF := Lib.hid (fun x : Later wr => (specFactOk_any _ _ ar fs[k] x.val ((H.out.on hbe).on x.2) (K3.out.on x.2) hr (by omega)).mono fun e w' (hh : e = .returned (.bool (factOk ar fs[k])) ∧ Below x.val.heap.size x.val w') => (⟨by rw [hh.1, show factOk ar fs[k] = false by simpa using hfo], hh.2⟩ : e = .returned (.bool false) ∧ Below x.val.heap.size x.val w'))
        have HE := Lib.hid (show factsOk ar fs = false by
          by_cases ha : arityOk ar = true
          · exact round_not hlt (round_unfit hlt (by simpa [factOk, ha] using hfo))
          · simp [factsOk, ha])
        clear hs hfo
        go_wp2_with (fail)
        refine wp_region_later (by kernel_rfl) (by kernel_rfl) ?_
        repeat (go_big_quiet_step ((go_at_call 15; exact later_of (CF.out _))))
        refine wpQuiet_nil ?_
        rintro _ ⟨xq, rfl⟩
        go_wp2_with (fail)
        go_ret
        exact ⟨ret_bool HE.out.symm, bthen hbe xq.2⟩
    · have hkn : k = fs.length := by omega
      have HE := Lib.hid (show factsOk ar fs = arityOk ar by unfold factsOk; unfold OkTo at hs; rw [← hkn, hs, Bool.and_true])
      clear hkn hs
      go_wp2_with (fail)
      refine (specArityOk_any _ ar _ (H.out.on hbe) (by omega)).mono ?_
      rintro e w2 ⟨rfl, rfl⟩
      go_wp2_with (fail)
      go_ret
      exact ⟨ret_bool HE.out.symm, hbe⟩

end Go.Proofs.Ytehjhdihaloalaa
