/-
  Texts that the claim's last one imports, laid together: part 8 of 9. No condition of its own.
-/
import Derived.Deep.RegionHeld3
import Derived.Deep.RegionWith
import Derived.Deep.RegionLaw
import Derived.Laws.BitsAllLaws
import Derived.Deep.DeepCutAuto
import Derived.Laws.CopyOwn
import Derived.Deep.WholeRow
import Derived.Test.YtcceololijefiaaGreatMSu1
import Derived.Test.YtcceololijefiaaGreatMSu2
import Derived.Test.YtcceololijefiaaGreatMSu3
import Derived.Test.YtcceololijefiaaGreatMSu5
import Derived.Test.YtcceololijefiaaGreatMSu6
import Derived.Test.YtcceololijefiaaGreatMSu7
/-
  The walks of FactsOk: the program's and the specification's.
-/
namespace Go.Proofs.YtcceololijefiaaGreat
open Go.RowKit

def roundOk (ar : List Int) (fs : List LFact) (k : Nat) : Bool := factFits ar (fs.getD k (0, [])) && (decide (k = 0) || decide (factOrder (fs.getD (k - 1) (0, [])) (fs.getD k (0, [])) < 0))
def factsOk (ar : List Int) (fs : List LFact) : Bool := arityOk ar && (List.range fs.length).all (roundOk ar fs)
def OkTo (ar : List Int) (fs : List LFact) (k : Nat) : Prop := (List.range k).all (roundOk ar fs) = true
theorem OkTo.step {ar : List Int} {fs : List LFact} {k : Nat} (h : OkTo ar fs k) (e : roundOk ar fs k = true) : OkTo ar fs (k + 1) := by
  unfold OkTo at h ⊢
  rw [List.range_succ, List.all_append, h]
  simp [e]
theorem round_not {ar : List Int} {fs : List LFact} {k : Nat} (hk : k < fs.length) (e : roundOk ar fs k = false) : factsOk ar fs = false := by
  unfold factsOk
  have : (List.range fs.length).all (roundOk ar fs) = false := by
    rw [List.all_eq_false]
    exact ⟨k, List.mem_range.2 hk, by simp [e]⟩
  rw [this, Bool.and_false]
theorem getD_at {α : Type} {l : List α} {k : Nat} (h : k < l.length) {d : α} : l.getD k d = l[k] := by simp [h]
theorem round_first {ar : List Int} {fs : List LFact} {k : Nat} (hk : k < fs.length) (h : factFits ar fs[k] = true) (h0 : k = 0) : roundOk ar fs k = true := by
  unfold roundOk
  rw [getD_at hk, h]
  simp [h0]
theorem round_next {ar : List Int} {fs : List LFact} {j : Nat} (hk : j + 1 < fs.length) (hj : j < fs.length) (h : factFits ar fs[j + 1] = true) : roundOk ar fs (j + 1) = decide (factOrder fs[j] fs[j + 1] < 0) := by
  unfold roundOk
  rw [getD_at hk, h, Nat.add_sub_cancel, getD_at hj]
  simp
theorem round_unfit {ar : List Int} {fs : List LFact} {k : Nat} (hk : k < fs.length) (h : factFits ar fs[k] = false) : roundOk ar fs k = false := by
  unfold roundOk
  rw [getD_at hk, h]
  simp
theorem later_fact {w0 : World} {v : Value} {f : LFact} (h : RdFact w0 w0.heap.size v f) (x : Later w0) : RdFact x.val x.val.heap.size v f := h.on x.2
theorem later_ints {w0 : World} {v : Value} {f : List Int} (h : RdInts w0 w0.heap.size v f) (x : Later w0) : RdInts x.val x.val.heap.size v f := h.on x.2

set_option maxHeartbeats 1000000 in
set_option maxRecDepth 100000 in
theorem specFactsOk_any (v v2 : Value) (ar : List Int) (fs : List LFact) (w : World) (h : RdInts w w.heap.size v ar) (h2 : RdFacts w w.heap.size v2 fs) (hr : ar.length ≤ 1048576) (hn : fs.length ≤ 1048576) (ht : tot fs ≤ 1048576) :
    Calls Tryz.prog 19 #[v, v2] w fun e w' => e = .returned (.bool (factsOk ar fs)) ∧ Below w.heap.size w w' := by
  have H := Lib.hid h
  have H2 := Lib.hid h2
  obtain ⟨A, c, rfl, hc, _⟩ := h
  obtain ⟨A2, c2, rfl, hc2, _⟩ := h2
  go_enter Tryz.func19, Tryz.ntmps19
  go_wp2_with (fail)
  go_loopw [5] (fun i wr => ∃ k : Nat, k ≤ fs.length ∧ i = .int .i64 k ∧ OkTo ar fs k ∧ Below w.heap.size w wr) (fun i _ => fs.length - (intOf i).toNat)
  case atStart => exact ⟨0, Nat.zero_le _, rfl, by simp [OkTo], Below.refl _ _⟩
  case round =>
    obtain ⟨k, hk, rfl, hs, hbe⟩ := hrel
    by_cases hlt : k < fs.length
    · obtain ⟨b, o, A3, c3, rfl, hbB, k1, k2, k3⟩ := (H2.out.on hbe).get hlt
      have K3 := Lib.hid (show RdFact wr wr.heap.size (.agg #[.int .i64 fs[k].1, .slice A3 fs[k].2.length c3]) fs[k] from ⟨_, rfl, k3⟩)
      have hln := len_le_tot fs k hlt
      have L1 := later_cell k1
      have L2 := later_cell k2
      clear k1 k2 k3
      by_cases hfo : factOk ar fs[k] = true
      · have CF := Lib.hid (fun x : Later wr => (specFactOk_any _ _ ar fs[k] x.val ((H.out.on hbe).on x.2) (K3.out.on x.2) hr (by omega)).mono fun e w' (hh : e = .returned (.bool (factOk ar fs[k])) ∧ Below x.val.heap.size x.val w') => (⟨by rw [hh.1, hfo], hh.2⟩ : e = .returned (.bool true) ∧ Below x.val.heap.size x.val w'))
        have hff : factFits ar fs[k] = true := by
          unfold factOk at hfo
          exact (Bool.and_eq_true _ _ ▸ hfo).2
        have HA := Lib.hid (show arityOk ar = true by
          unfold factOk at hfo
          exact (Bool.and_eq_true _ _ ▸ hfo).1)
        clear hfo
        rcases Nat.eq_zero_or_pos k with hk0 | hk0
        · have hd : decide (0 < k) = false := by simp [hk0]
          have HS := Lib.hid (hs.step (round_first hlt hff hk0) : OkTo ar fs (k + 1))
          clear hs hk0 hff
          go_wp2_with (fail)
          refine wp_region_later (by kernel_rfl) (by kernel_rfl) ?_
          repeat (go_big_quiet_step ((go_at_call 37; exact later_of (CF.out _))))
          refine wpQuiet_nil ?_
          rintro _ ⟨xq, rfl⟩
          go_wp2_with (fail)
          go_roundw
          case rel => exact ⟨k + 1, by omega, by go_num, HS.out, bthen hbe xq.2⟩
          case measure => simp [intOf]; omega
        · obtain ⟨j, rfl⟩ : ∃ j, k = j + 1 := ⟨k - 1, by omega⟩
          have hltj : j < fs.length := by omega
          obtain ⟨b', o', A4, c4, e4, hbB', m1, m2, m3⟩ := (H2.out.on hbe).get hltj
          simp only [Option.some.injEq, Addr.mk.injEq, and_true] at e4
          obtain ⟨rfl, rfl⟩ := e4
          have K4 := Lib.hid (show RdFact wr wr.heap.size (.agg #[.int .i64 fs[j].1, .slice A4 fs[j].2.length c4]) fs[j] from ⟨_, rfl, m3⟩)
          have hlnj := len_le_tot fs j hltj
          have M1 := later_cell m1
          have M2 := later_cell m2
          have CO := Lib.hid (fun x : Later wr => specFactOrder_any _ _ fs[j] fs[j + 1] x.val (K4.out.on x.2) (K3.out.on x.2) (by omega) (by omega))
          clear m1 m2 m3
          by_cases hlo : factOrder fs[j] fs[j + 1] < 0
          · have hd : decide (0 ≤ factOrder fs[j] fs[j + 1]) = false := by simp; omega
            have HS := Lib.hid (hs.step (by rw [round_next hlt hltj hff]; simp [hlo]) : OkTo ar fs (j + 1 + 1))
            clear hs hff
            go_wp2_with (fail)
            refine wp_region_later (by kernel_rfl) (by kernel_rfl) ?_
            repeat (go_big_quiet_step (first | (go_at_call 37; exact later_of (CF.out _)) | (go_at_call 38; exact later_of (CO.out _))))
            refine wpQuiet_nil ?_
            rintro _ ⟨xq, rfl⟩
            go_wp2_with (fail)
            go_roundw
            case rel => exact ⟨j + 1 + 1, by omega, by go_num, HS.out, bthen hbe xq.2⟩
            case measure => simp [intOf]; omega
          · have hd : decide (0 ≤ factOrder fs[j] fs[j + 1]) = true := by simp; omega
            have HE := Lib.hid (show factsOk ar fs = false from round_not hlt (by rw [round_next hlt hltj hff]; simp [hlo]))
            clear hs hff
            go_wp2_with (fail)
            refine wp_region_later (by kernel_rfl) (by kernel_rfl) ?_
            repeat (go_big_quiet_step (first | (go_at_call 37; exact later_of (CF.out _)) | (go_at_call 38; exact later_of (CO.out _))))
            refine wpQuiet_nil ?_
            rintro _ ⟨xq, rfl⟩
            go_wp2_with (fail)
            go_ret
            exact ⟨ret_bool HE.out.symm, bthen hbe xq.2⟩
      · have CF := Lib.hid (fun x : Later wr => (specFactOk_any _ _ ar fs[k] x.val ((H.out.on hbe).on x.2) (K3.out.on x.2) hr (by omega)).mono fun e w' (hh : e = .returned (.bool (factOk ar fs[k])) ∧ Below x.val.heap.size x.val w') => (⟨by rw [hh.1, show factOk ar fs[k] = false by simpa using hfo], hh.2⟩ : e = .returned (.bool false) ∧ Below x.val.heap.size x.val w'))
        have HE := Lib.hid (show factsOk ar fs = false by
          by_cases ha : arityOk ar = true
          · exact round_not hlt (round_unfit hlt (by simpa [factOk, ha] using hfo))
          · simp [factsOk, ha])
        clear hs hfo
        go_wp2_with (fail)
        refine wp_region_later (by kernel_rfl) (by kernel_rfl) ?_
        repeat (go_big_quiet_step ((go_at_call 37; exact later_of (CF.out _))))
        refine wpQuiet_nil ?_
        rintro _ ⟨xq, rfl⟩
        go_wp2_with (fail)
        go_ret
        exact ⟨ret_bool HE.out.symm, bthen hbe xq.2⟩
    · have hkn : k = fs.length := by omega
      have HE := Lib.hid (show factsOk ar fs = arityOk ar by unfold factsOk; unfold OkTo at hs; rw [← hkn, hs, Bool.and_true])
      clear hkn hs
      go_wp2_with (fail)
      refine (specArityOk_any _ ar _ (H.out.on hbe) (by omega)).mono ?_
      rintro e w2 ⟨rfl, rfl⟩
      go_wp2_with (fail)
      go_ret
      exact ⟨ret_bool HE.out.symm, hbe⟩

end Go.Proofs.YtcceololijefiaaGreat
/-
  The specification's l1Pick, FactsBoth and FactsLess.
-/
namespace Go.Proofs.YtcceololijefiaaGreat
open Go.RowKit

theorem filter_tot_le (p : LFact → Bool) : ∀ l : List LFact, tot (l.filter p) ≤ tot l
  | [] => by simp [tot]
  | f :: l => by
    have := filter_tot_le p l
    by_cases h : p f = true <;> simp [h, tot_cons] <;> omega

/-- The facts of a list that another has, or has not. -/
def pickL (xs ys : List LFact) (b : Bool) : List LFact := setOf (xs.filter fun f => factsHas ys f == b)
theorem pickL_bound (xs ys : List LFact) (b : Bool) : (pickL xs ys b).length ≤ xs.length ∧ tot (pickL xs ys b) ≤ tot xs := by
  have h := setOf_bound (xs.filter fun f => factsHas ys f == b)
  have h1 := List.length_filter_le (fun f => factsHas ys f == b) xs
  have h2 := filter_tot_le (fun f => factsHas ys f == b) xs
  unfold pickL
  omega
theorem pickL_yes {xs ys : List LFact} {b : Bool} {k : Nat} (h : k < xs.length) (e : factsHas ys xs[k] = b) : pickL (xs.take (k + 1)) ys b = factsWith (pickL (xs.take k) ys b) xs[k] := by
  unfold pickL
  rw [take_snoc xs k h, List.filter_append, ← setOf_snoc]
  simp [e]
theorem pickL_no {xs ys : List LFact} {b : Bool} {k : Nat} (h : k < xs.length) (e : factsHas ys xs[k] ≠ b) : pickL (xs.take (k + 1)) ys b = pickL (xs.take k) ys b := by
  unfold pickL
  rw [take_snoc xs k h, List.filter_append]
  simp [e]

set_option maxHeartbeats 1000000 in
set_option maxRecDepth 100000 in
theorem l1Pick_any (v v2 : Value) (xs ys : List LFact) (inb : Bool) (w : World) (h : RdFacts w w.heap.size v xs) (h2 : RdFacts w w.heap.size v2 ys) (hn : xs.length + ys.length ≤ 1048576) (ht : tot xs + tot ys ≤ 1048576) :
    Calls Tryz.prog 39 #[v, v2, .bool inb] w fun e w' => ∃ A' c', e = .returned (.slice A' (pickL xs ys inb).length c') ∧ OwnFacts w' w.heap.size w'.heap.size (.slice A' (pickL xs ys inb).length c') (pickL xs ys inb) ∧ Below w.heap.size w w' := by
  have H := Lib.hid h
  have H2 := Lib.hid h2
  obtain ⟨A, c, rfl, hc, _⟩ := h
  obtain ⟨A2, c2, rfl, hc2, _⟩ := h2
  go_enter Tryz.func39, Tryz.ntmps39
  go_wp2_with (fail)
  go_loopw [7, 8] (fun o i wr => ∃ (k : Nat) (gs : List LFact) (A' : Option Addr) (c' : Nat), k ≤ xs.length ∧ i = .int .i64 k ∧ gs = pickL (xs.take k) ys inb ∧ o = .slice A' gs.length c' ∧ OwnFacts wr w.heap.size wr.heap.size (.slice A' gs.length c') gs ∧ Below w.heap.size w wr) (fun _ i _ => xs.length - (intOf i).toNat)
  case atStart => exact ⟨0, [], _, 0, Nat.zero_le _, rfl, rfl, rfl, (ColRel.empty w).own.own.mono (Nat.le_refl _) (Nat.le_refl _), below1 _ _⟩
  case round =>
    obtain ⟨k, gs, A', c', hk, rfl, hgs, rfl, ho, hbe⟩ := hrel
    have hbd := pickL_bound (xs.take k) ys inb
    rw [← hgs, List.length_take] at hbd
    have htk := tot_take_le xs k
    have HO := Lib.hid ho
    have HG := Lib.hid hgs
    clear ho hgs
    by_cases hlt : k < xs.length
    · obtain ⟨b, o, A3, c3, rfl, hbB, k1, k2, k3⟩ := (H.out.on hbe).get hlt
      have hln := len_le_tot xs k hlt
      have K3 := Lib.hid (show RdFact wr wr.heap.size (.agg #[.int .i64 xs[k].1, .slice A3 xs[k].2.length c3]) xs[k] from ⟨_, rfl, k3⟩)
      clear k3
      go_wp2_with (fail)
      refine (specFactsHas_any _ _ ys xs[k] _ (H2.out.on hbe) K3.out (by omega) (by omega) (by omega)).mono ?_
      rintro e w1 ⟨rfl, hb1⟩
      have k11 : w1.cell? ⟨b, o + k * 2, none⟩ = some (.int .i64 xs[k].1) := (hb1.cell hbB).trans k1
      have k12 : w1.cell? ⟨b, o + k * 2 + 1, none⟩ = some (.slice A3 xs[k].2.length c3) := (hb1.cell hbB).trans k2
      have O1 := HO.out.below hb1 (Nat.le_refl _)
      have B1 := bthen hbe hb1
      have K31 := Lib.hid (K3.out.on hb1)
      have hz1 := hb1.size
      clear k1 k2 K3 HO
      by_cases he : factsHas ys xs[k] = inb
      · have HE := Lib.hid (show factsWith gs xs[k] = pickL (xs.take (k + 1)) ys inb by rw [pickL_yes hlt he, ← HG.out])
        have hq : (factsHas ys xs[k] == inb) = true := by simp [he]
        have HO1 := Lib.hid O1
        rw [he]
        clear he O1 hq
        go_wp2_with (fail)
        refine (specFactsWith_any _ _ gs xs[k] _ (HO1.out.rd.more hz1) K31.out (by omega) (by omega) (by omega)).mono ?_
        rintro e w2 ⟨A4, c4, rfl, ho4, hb4⟩
        have HR := Lib.hid (show OwnFacts w2 w.heap.size w2.heap.size _ _ from ho4.mono B1.size (Nat.le_refl _))
        have HB := Lib.hid (bthen B1 hb4)
        clear ho4 hb4
        go_wp2_with (fail)
        go_roundw
        case rel => exact ⟨k + 1, factsWith gs xs[k], _, _, by omega, by go_num, HE.out, rfl, HR.out, HB.out⟩
        case measure => simp [intOf]; omega
      · have HE := Lib.hid (show gs = pickL (xs.take (k + 1)) ys inb by rw [pickL_no hlt he, ← HG.out])
        have hq : (factsHas ys xs[k] == inb) = false := by simp [he]
        have HO1 := Lib.hid (O1.mono (Nat.le_refl _) hz1)
        clear he O1
        go_wp2_with (fail)
        go_roundw
        case rel => exact ⟨k + 1, gs, _, _, by omega, by go_num, HE.out, rfl, HO1.out, B1⟩
        case measure => simp [intOf]; omega
    · have hkn : k = xs.length := by omega
      subst hkn
      have HY := Lib.hid (show gs = pickL xs ys inb by rw [HG.out, List.take_length])
      have HB := Lib.hid hbe
      clear HG
      go_wp2_with (fail)
      go_ret
      rw [← HY.out]
      exact ⟨A', c', rfl, HO.out, HB.out⟩

theorem specFactsLess_any (v v2 : Value) (xs ys : List LFact) (w : World) (h : RdFacts w w.heap.size v xs) (h2 : RdFacts w w.heap.size v2 ys) (hn : xs.length + ys.length ≤ 1048576) (ht : tot xs + tot ys ≤ 1048576) :
    Calls Tryz.prog 20 #[v, v2] w fun e w' => ∃ A' c', e = .returned (.slice A' (pickL xs ys false).length c') ∧ OwnFacts w' w.heap.size w'.heap.size (.slice A' (pickL xs ys false).length c') (pickL xs ys false) ∧ Below w.heap.size w w' := by
  have H := Lib.hid h
  have H2 := Lib.hid h2
  obtain ⟨A, c, rfl, hc, _⟩ := h
  obtain ⟨A2, c2, rfl, hc2, _⟩ := h2
  go_enter Tryz.func20, Tryz.ntmps20
  go_wp2_with (fail)
  refine (l1Pick_any _ _ xs ys false _ H.out H2.out hn ht).mono ?_
  rintro e w1 ⟨A', c', rfl, ho, hb⟩
  have HO := Lib.hid (And.intro ho hb)
  clear ho hb
  go_wp2_with (fail)
  go_ret
  exact ⟨A', c', rfl, HO.out.1, HO.out.2⟩

end Go.Proofs.YtcceololijefiaaGreat
/-
  The specification's Consequences and Closed.
-/
namespace Go.Proofs.YtcceololijefiaaGreat
open Go.RowKit

/-- The heads that follow. -/
def consL (p : LProg) (fs : List LFact) : List LFact := if progOk p && factsOk p.1 fs then headsAll p.2 fs else []
def closedL (p : LProg) (fs : List LFact) : Bool := progOk p && (factsOk p.1 fs && decide ((pickL (headsAll p.2 fs) fs false).length = 0))

theorem factsOk_parts {ar : List Int} {fs : List LFact} (h : factsOk ar fs = true) : arityOk ar = true ∧ (∀ f ∈ fs, factFits ar f = true) ∧ Asc fs := by
  simp only [factsOk, Bool.and_eq_true, List.all_eq_true, List.mem_range] at h
  obtain ⟨h1, h2⟩ := h
  refine ⟨h1, fun f hf => ?_, ?_⟩
  · obtain ⟨k, hk, rfl⟩ := List.getElem_of_mem hf
    have := h2 k hk
    unfold roundOk at this
    rw [getD_at hk, Bool.and_eq_true] at this
    exact this.1
  · have hs : ∀ k (h0 : k + 1 < fs.length), factOrder (fs[k]'(by omega)) fs[k + 1] < 0 := fun k h0 => by
      have := h2 (k + 1) h0
      unfold roundOk at this
      rw [getD_at h0, Nat.add_sub_cancel, getD_at (show k < fs.length by omega), Bool.and_eq_true] at this
      simpa using this.2
    have hd : ∀ d k (h0 : k + d + 1 < fs.length), factOrder (fs[k]'(by omega)) fs[k + d + 1] < 0 := fun d => by
      induction d with
      | zero => intro k h0; exact hs k h0
      | succ d ih =>
        intro k h0
        exact order_less (ih k (by omega)) (hs (k + d + 1) h0)
    unfold Asc
    rw [List.pairwise_iff_getElem]
    intro i j hi hj hij
    obtain ⟨d, rfl⟩ : ∃ d, j = i + d + 1 := ⟨j - i - 1, by omega⟩
    exact hd d i hj
theorem prog_parts {p : LProg} (h : progOk p = true) : arityOk p.1 = true ∧ p.2.length ≤ 60 ∧ ∀ r ∈ p.2, ruleFits p.1 r = true := by
  simp only [progOk, Bool.and_eq_true, decide_eq_true_eq, List.all_eq_true] at h
  exact ⟨h.1, h.2.1, h.2.2⟩

set_option maxHeartbeats 4000000 in
set_option maxRecDepth 100000 in
theorem specClosed_any (v v2 : Value) (p : LProg) (fs : List LFact) (w : World) (h : RdProg w w.heap.size v p) (h2 : RdFacts w w.heap.size v2 fs) (hs : szP p ≤ 1048576) (hn : fs.length ≤ 1048576) (ht : tot fs ≤ 1048576) :
    Calls Tryz.prog 7 #[v, v2] w fun e w' => e = .returned (.bool (closedL p fs)) ∧ Below w.heap.size w w' := by
  have HP := Lib.hid h
  have H2 := Lib.hid h2
  have hs' := hs
  unfold szP at hs'
  obtain ⟨a, b, rfl, hA, hR⟩ := h
  have HA := Lib.hid hA
  have HR := Lib.hid hR
  obtain ⟨A, c, rfl, hcA, _⟩ := hA
  obtain ⟨A2, c2, rfl, hcR, _⟩ := hR
  obtain ⟨A3, c3, rfl, hcF, _⟩ := h2
  obtain ⟨po, hpo⟩ : ∃ po, po = progOk p := ⟨_, rfl⟩
  obtain ⟨fo, hfo⟩ : ∃ fo, fo = factsOk p.1 fs := ⟨_, rfl⟩
  obtain ⟨R, hRR⟩ : ∃ R, R = closedL p fs := ⟨_, rfl⟩
  have HRR := Lib.hid (show R = (po && (fo && decide ((pickL (headsAll p.2 fs) fs false).length = 0))) by rw [hRR, hpo, hfo]; rfl)
  rw [← hRR]
  clear hRR
  go_enter Tryz.func7, Tryz.ntmps7
  go_upto_region 1 with fail
  obtain ⟨w1, hw1⟩ : ∃ w1, w1 = w.alloc (Obj.cells #[Value.slice A p.1.length c, Value.slice A2 p.2.length c2] 32) := ⟨_, rfl⟩
  have X1 : Blk w1 w.heap.size 32 #[.slice A p.1.length c, .slice A2 p.2.length c2] := by rw [hw1]; exact Blk.new _ _ _
  have B1 : Below w.heap.size w w1 := by rw [hw1]; exact below1 _ _
  rw [← hw1]
  clear hw1
  have x0 : w1.cell? ⟨w.heap.size, 0, none⟩ = some (.slice A p.1.length c) := X1.cell 0
  have x1 : w1.cell? ⟨w.heap.size, 1, none⟩ = some (.slice A2 p.2.length c2) := X1.cell 1
  have CP := Lib.hid ((specProgramOk_any _ p w1 (HP.out.on B1) hs).mono fun e w' (hh : e = .returned (.bool (progOk p)) ∧ Below w1.heap.size w1 w') => (⟨by rw [hh.1, hpo], hh.2⟩ : e = .returned (.bool po) ∧ Below w1.heap.size w1 w'))
  have CF := Lib.hid (fun W (hW : Below w.heap.size w W) => (specFactsOk_any _ _ p.1 fs W (HA.out.on hW) (H2.out.on hW) (by omega) (by omega) (by omega)).mono fun e w' (hh : e = .returned (.bool (factsOk p.1 fs)) ∧ Below W.heap.size W w') => (⟨by rw [hh.1, hfo], hh.2⟩ : e = .returned (.bool fo) ∧ Below W.heap.size W w'))
  have HPO := Lib.hid hpo
  have HFO := Lib.hid hfo
  have HX1 := Lib.hid X1
  clear hpo hfo X1
  cases po
  · go_wp2_with (go_at_call 18; refine CP.out.mono ?_; rintro e w2 ⟨rfl, b2⟩; have B2 := Lib.hid (bthen B1 b2); clear b2)
    go_ret
    exact ⟨ret_bool (by rw [HRR.out]; rfl), B2.out⟩
  · cases fo
    · go_wp2_with (first
        | (go_at_call 18; refine CP.out.mono ?_; rintro e w2 ⟨rfl, b2⟩; have B2 := Lib.hid (bthen B1 b2)
           have x20 : w2.cell? ⟨w.heap.size, 0, none⟩ = some (.slice A p.1.length c) := (HX1.out.below b2 HX1.out.lt).cell 0
           clear b2)
        | (go_at_call 19; refine (CF.out _ B2.out).mono ?_; rintro e w3 ⟨rfl, b3⟩; have B3 := Lib.hid (bthen B2.out b3); clear b3))
      go_ret
      exact ⟨ret_bool (by rw [HRR.out]; rfl), B3.out⟩
    · obtain ⟨har, hrl, hfit⟩ := prog_parts HPO.out.symm
      obtain ⟨_, hff, hasc⟩ := factsOk_parts HFO.out.symm
      have HFEW := Lib.hid (And.intro (headsAll_few fs har hfit) (facts_few har (asc_nodup hasc) hff))
      have CA := Lib.hid (fun W (hW : Below w.heap.size w W) => l4All_any (.slice A2 p.2.length c2) (.slice A3 fs.length c3) p.1 p.2 fs W (HR.out.on hW) (H2.out.on hW) har hfit (by omega) (by omega) (by omega) (by omega) (fun f hf => (fits_parts (hff f hf)).2) (asc_nodup hasc))
      have CL := Lib.hid (fun W v (hW : Below w.heap.size w W) (hv : RdFacts W W.heap.size v (headsAll p.2 fs)) => specFactsLess_any v (.slice A3 fs.length c3) (headsAll p.2 fs) fs W hv (H2.out.on hW) (by have := HFEW.out; omega) (by have := HFEW.out; omega))
      clear har hrl hfit hff hasc
      obtain ⟨L, hL⟩ : ∃ L, L = pickL (headsAll p.2 fs) fs false := ⟨_, rfl⟩
      rw [← hL] at CL HRR
      clear hL
      go_wp2_with (first
        | (go_at_call 18; refine CP.out.mono ?_; rintro e w2 ⟨rfl, b2⟩; have B2 := Lib.hid (bthen B1 b2)
           have HX2 := Lib.hid (HX1.out.below b2 HX1.out.lt)
           have x20 : w2.cell? ⟨w.heap.size, 0, none⟩ = some (.slice A p.1.length c) := HX2.out.cell 0
           clear b2)
        | (go_at_call 19; refine (CF.out _ B2.out).mono ?_; rintro e w3 ⟨rfl, b3⟩; have B3 := Lib.hid (bthen B2.out b3)
           have x31 : w3.cell? ⟨w.heap.size, 1, none⟩ = some (.slice A2 p.2.length c2) := (HX2.out.below b3 HX2.out.lt).cell 1
           clear b3)
        | (go_at_call 21; refine (CA.out _ B3.out).mono ?_; rintro e w4 ⟨A4, c4, rfl, o4, b4⟩; have B4 := Lib.hid (bthen B3.out b4)
           have HL4 := Lib.hid (CL.out _ _ B4.out o4.rd)
           clear o4 b4)
        | (go_at_call 20; refine HL4.out.mono ?_; rintro e w5 ⟨A5, c5, rfl, o5, b5⟩; have B5 := Lib.hid (bthen B4.out b5); clear o5 b5))
      go_ret
      exact ⟨ret_bool (by rw [HRR.out, Bool.true_and, Bool.true_and, Bool.eq_iff_iff, beq_iff_eq, decide_eq_true_eq]; omega), B5.out⟩

end Go.Proofs.YtcceololijefiaaGreat
/-
  The heads of a rule by its solutions: plain mathematics.
-/
namespace Go.Proofs.YtcceololijefiaaGreat
open Go.RowKit

theorem safeTo_or {a b y : Nat} (h : safeTo (a ||| b) y 4 = true) : safeTo b y 4 = true := by
  rw [safeTo_iff] at h ⊢
  intro v hv hb
  exact h v hv (by rw [Nat.testBit_or, hb, Bool.or_true])
/-- A rule that fits has a body that can be asked. -/
theorem fits_body {ar : List Int} {r : LRule} (h : ruleFits ar r = true) : bodySafe r.2 = true := by
  simp only [ruleFits, Bool.and_eq_true, decide_eq_true_eq] at h
  obtain ⟨_, h4, hl, hs⟩ := h
  unfold bodySafe
  rw [Bool.and_eq_true, Bool.and_eq_true, decide_eq_true_eq, List.all_eq_true]
  refine ⟨⟨fun l hm => ?_, h4⟩, ?_⟩
  · have hf := List.all_eq_true.1 hl l hm
    refine litFine_yes ?_ (lit_terms hf)
    unfold litFits at hf
    split at hf
    · omega
    · split at hf
      · omega
      · cases hf
  · rw [ruleSafe_eq] at hs ⊢
    rw [ruleMask_body]
    exact safeTo_or hs
/-- The variables of the head stand in an atom that is to hold. -/
theorem fits_head {ar : List Int} {r : LRule} (h : ruleFits ar r = true) : ∀ v, v < 4 → (maskOf r.1.2).testBit v = true → ∃ l ∈ r.2, l.1 = 0 ∧ (maskOf l.2.2).testBit v = true := by
  simp only [ruleFits, Bool.and_eq_true, decide_eq_true_eq] at h
  obtain ⟨_, _, _, hs⟩ := h
  rw [ruleSafe_eq, safeTo_iff] at hs
  intro v hv hm
  have := hs v hv (by unfold ruleMask; rw [Nat.testBit_or, hm, Bool.true_or])
  unfold yesMask at this
  rw [yesMask_bit] at this
  simpa using this
/-- A solution makes a head. -/
theorem sols_head {ar : List Int} {r : LRule} {fs : List LFact} {S : List (List Int)} (h : ruleFits ar r = true) (hS : IsSols (questL fs r.2) S) : ∀ b ∈ S, headOk r.1 b = true := by
  intro b hb
  obtain ⟨h1, h2, _⟩ := (hS.2 b).1 hb
  have hf := h
  simp only [ruleFits, atomFits, Bool.and_eq_true, decide_eq_true_eq] at hf
  refine headOk_yes h1 hf.1.2 (List.all_eq_true.2 fun x hx => ?_)
  obtain ⟨t, ht, rfl⟩ := List.mem_map.1 hx
  have htk : termOk t = true := List.all_eq_true.1 hf.1.2 t ht
  have hbd := termVal_bounds h1 htk
  rcases term_cases htk with h' | ⟨v, hv, rfl⟩
  · rw [termVal_const h'.1]
    simp [constOk]
    exact h'
  · have hm : (maskOf r.1.2).testBit v = true := by unfold maskOf; rw [maskFrom_bit hv]; exact .inr ht
    obtain ⟨l, hl, _, hlm⟩ := fits_head h v hv hm
    have hne := (h2 v hv).2 ⟨(l, fs), List.mem_map.2 ⟨l, hl, rfl⟩, hlm⟩
    rw [termVal_v] at hbd ⊢
    unfold constOk
    exact decide_eq_true (by omega)
theorem headsTo_mem (a : LFact) (S : List (List Int)) (f : LFact) : ∀ k, k ≤ S.length → (f ∈ headsTo a S k ↔ ∃ b ∈ S.take k, headOk a b = true ∧ f = headOf a b)
  | 0, _ => by simp [headsTo]
  | k + 1, hk => by
    have ih := headsTo_mem a S f k (by omega)
    have hlt : k < S.length := by omega
    rw [take_snoc S k hlt]
    cases e : headOk a S[k]
    · rw [headsTo_no hlt e, ih]
      constructor
      · rintro ⟨b, hb, h⟩; exact ⟨b, List.mem_append_left _ hb, h⟩
      · rintro ⟨b, hb, h⟩
        rcases List.mem_append.1 hb with hb | hb
        · exact ⟨b, hb, h⟩
        · obtain rfl : b = S[k] := by simpa using hb
          rw [e] at h; cases h.1
    · rw [headsTo_yes hlt e, factsWith_mem, ih]
      constructor
      · rintro (⟨b, hb, h⟩ | rfl)
        · exact ⟨b, List.mem_append_left _ hb, h⟩
        · exact ⟨S[k], List.mem_append_right _ (List.mem_singleton_self _), e, rfl⟩
      · rintro ⟨b, hb, h⟩
        rcases List.mem_append.1 hb with hb | hb
        · exact .inl ⟨b, hb, h⟩
        · obtain rfl : b = S[k] := by simpa using hb
          exact .inr h.2
/-- The heads, by whatever list of the solutions. -/
theorem headsL_mem {ar : List Int} {r : LRule} {fs : List LFact} {S : List (List Int)} (h : ruleFits ar r = true) (hS : IsSols (questL fs r.2) S) (hc : ∀ f ∈ fs, f.2.all constOk = true) (hn : fs.Nodup) (f : LFact) :
    f ∈ headsL r fs ↔ ∃ b ∈ S, f = (r.1.1, r.1.2.map (termVal b)) := by
  obtain ⟨_, h2⟩ := solsOf_is (fs := fs) (gs := fs) (SafeB.of (fits_body h)) hc hn (fun _ => Iff.rfl)
  unfold headsL
  rw [headsTo_mem _ _ _ _ (Nat.le_refl _), List.take_length]
  constructor
  · rintro ⟨b, hb, e, rfl⟩
    exact ⟨b, (hS.2 b).2 ((h2.2 b).1 hb), headOf_yes e⟩
  · rintro ⟨b, hb, rfl⟩
    have e := sols_head h hS b hb
    exact ⟨b, (h2.2 b).2 ((hS.2 b).1 hb), e, (headOf_yes e).symm⟩

end Go.Proofs.YtcceololijefiaaGreat
/-
  Tables of facts: a word for each predicate.
-/
namespace Go.Proofs.YtcceololijefiaaGreat
open Go.RowKit

/-- The words of a table, with one fact more. -/
def setBit (T : List Nat) (p n : Nat) : List Nat := T.set p (T.getD p 0 ||| 2 ^ n)
def tabCells (T : List Nat) : Array Value := (T.map fun x => Value.int .u64 ((x : Nat) : Int)).toArray
/-- A table stands in block g. -/
def TabAt (w : World) (g : Nat) (T : List Nat) : Prop := Blk w g 56 (tabCells T) ∧ T.length = 24 ∧ ∀ x ∈ T, x < 18446744073709551616
theorem TabAt.cell {w : World} {g p : Nat} {T : List Nat} (h : TabAt w g T) (hp : p < 24) : w.cell? ⟨g, p, none⟩ = some (.int .u64 ((T.getD p 0 : Nat) : Int)) := by
  rw [h.1.cell p]
  have : p < T.length := by rw [h.2.1]; exact hp
  simp [tabCells, this]
theorem TabAt.lt {w : World} {g p : Nat} {T : List Nat} (h : TabAt w g T) : T.getD p 0 < 18446744073709551616 := by
  by_cases hp : p < T.length
  · have : T.getD p 0 = T[p] := by simp [hp]
    rw [this]
    exact h.2.2 _ (List.getElem_mem hp)
  · simp [List.getD_eq_getElem?_getD, List.getElem?_eq_none (by omega : T.length ≤ p)]
theorem TabAt.set {w : World} {g p n : Nat} {T : List Nat} (h : TabAt w g T) (hn : n < 64) : TabAt (w.setCell ⟨g, p, none⟩ (.int .u64 ((T.getD p 0 ||| 2 ^ n : Nat) : Int))) g (setBit T p n) := by
  have hlt := h.lt (p := p)
  obtain ⟨h1, h2, h3⟩ := h
  refine ⟨?_, by simp [setBit, h2], fun x hx => ?_⟩
  · have := h1.set_ p (.int .u64 ((T.getD p 0 ||| 2 ^ n : Nat) : Int))
    have e : tabCells (setBit T p n) = (tabCells T).setIfInBounds p (.int .u64 ((T.getD p 0 ||| 2 ^ n : Nat) : Int)) := by
      unfold tabCells setBit
      rw [List.map_set]
      simp
    rw [e]
    exact this
  · rcases List.mem_or_eq_of_mem_set hx with h4 | rfl
    · exact h3 x h4
    · exact Nat.or_lt_two_pow (n := 64) hlt (Nat.pow_lt_pow_right (by decide) hn)

set_option maxHeartbeats 1000000 in
set_option maxRecDepth 100000 in
theorem add_any (g p n : Nat) (T : List Nat) (w : World) (h : TabAt w g T) (hp : p < 24) (hn : n < 64) :
    Calls Tryz.prog 48 #[.pointer (some ⟨g, 0, none⟩), .int .i64 p, .int .i64 n] w fun e w' =>
      e = .returned (.bool (!(T.getD p 0).testBit n)) ∧ TabAt w' g (setBit T p n) ∧ Only g (g + 1) w w' := by
  have hc := h.cell hp
  have hf := h.1.frozen p
  have HS := Lib.hid (show ∀ W, W.heap[g]? = w.heap[g]? → TabAt W g T from fun W hW => ⟨hW.trans h.1, h.2⟩)
  have hlt := h.lt (p := p)
  have HL := Lib.hid h.1.lt
  clear h
  obtain ⟨x, hx⟩ : ∃ x, x = T.getD p 0 := ⟨_, rfl⟩
  obtain ⟨m, hm⟩ : ∃ m, m = 2 ^ n := ⟨_, rfl⟩
  have hml : m < 18446744073709551616 := by rw [hm]; exact Nat.pow_lt_pow_right (by decide) hn
  have hwr : IntKind.u64.wrap (2 ^ n) = (m : Int) := by
    have e : ((2 : Int) ^ n) = ((m : Nat) : Int) := by rw [hm]; simp
    rw [e]
    unfold IntKind.wrap
    simp [IntKind.bits, IntKind.signed] <;> omega
  rw [← hx] at hc hlt ⊢
  have hand : (bits .and .u64 (x : Int) (m : Int) == 0) = !(x.testBit n) := by
    rw [u64_and_nat x m hlt hml, hm]
    cases ht : x.testBit n
    · have : x &&& 2 ^ n = 0 := by
        apply Nat.eq_of_testBit_eq
        intro i
        rw [Nat.testBit_and, Nat.testBit_two_pow, Nat.zero_testBit]
        by_cases e : n = i
        · subst e; rw [ht]; rfl
        · simp [e]
      rw [this]
      rfl
    · have : x &&& 2 ^ n ≠ 0 := fun e => by
        have := congrArg (fun y => y.testBit n) e
        simp [Nat.testBit_and, ht] at this
      have h2 : ((x &&& 2 ^ n : Nat) : Int) ≠ 0 := by omega
      simpa using h2
  have hor : bits .or .u64 (x : Int) (m : Int) = ((x ||| m : Nat) : Int) := u64_or_nat x m hlt hml
  have HM := Lib.hid (And.intro hx hm)
  clear hx hm hml hlt
  go_enter Tryz.func48, Tryz.ntmps48
  go_upto_region 3 with fail
  have hc2 : w.drew.cell? ⟨g, p, none⟩ = some (.int .u64 ((x : Nat) : Int)) := hc
  have hpi : (p : Int) < 24 := by omega
  have hf2 : w.drew.frozen? ⟨g, p, none⟩ = false := hf
  go_region_law (fail)
  go_wp2_with fail
  go_ret
  obtain ⟨rfl, rfl⟩ := HM.out
  have hset := (HS.out w rfl).set (p := p) hn
  have ho : Only g (g + 1) w (w.setCell ⟨g, p, none⟩ (.int .u64 ((T.getD p 0 ||| 2 ^ n : Nat) : Int))) := (Only.refl g (g + 1) w).setCell ⟨Nat.le_refl g, Nat.lt_succ_self g⟩ _
  exact ⟨rfl, hset, ho.trans (Only.of_below (bdrewN (Below.refl _ _) 1))⟩

end Go.Proofs.YtcceololijefiaaGreat
/-
  A table of facts is filled: constantsNumber, addAll.
-/
namespace Go.Proofs.YtcceololijefiaaGreat
open Go.RowKit

/-- The number of which constants are the digits. -/
def numF (xs : List Int) : Nat := xs.foldl (fun n c => n * 6 + c.toNat) 0
theorem numF_take {xs : List Int} {k : Nat} (h : k < xs.length) : numF (xs.take (k + 1)) = numF (xs.take k) * 6 + xs[k].toNat := by
  unfold numF
  rw [take_snoc xs k h, List.foldl_append]
  rfl
theorem numF_lt {xs : List Int} (hc : xs.all constOk = true) : ∀ k, k ≤ xs.length → numF (xs.take k) < 6 ^ k
  | 0, _ => by simp [numF]
  | k + 1, hk => by
    have ih := numF_lt hc k (by omega)
    rw [numF_take (by omega), Nat.pow_succ]
    have : 0 ≤ xs[k] ∧ xs[k] ≤ 5 := by simpa [constOk] using List.all_eq_true.1 hc _ (List.getElem_mem (show k < xs.length by omega))
    omega

set_option maxHeartbeats 1000000 in
set_option maxRecDepth 100000 in
theorem constantsNumber_any (v : Value) (xs : List Int) (B : Nat) (w : World) (h : RdInts w B v xs) (hc : xs.all constOk = true) (hl : xs.length ≤ 2) :
    Calls Tryz.prog 50 #[v] w fun e w' => e = .returned (.int .i64 (numF xs : Nat)) ∧ w = w' := by
  obtain ⟨A, c, rfl, hcc, ha⟩ := h
  have HC := Lib.hid hc
  clear hc
  go_enter Tryz.func50, Tryz.ntmps50
  go_wp2_with fail
  go_loopw [3, 8] (fun m i wr => ∃ (k n : Nat), k ≤ xs.length ∧ i = .int .i64 k ∧ m = .int .i64 n ∧ n = numF (xs.take k) ∧ wr = w) (fun _ i _ => xs.length - (intOf i).toNat)
  case atStart => exact ⟨0, 0, by simp [numF]⟩
  case round =>
    obtain ⟨k, n, hk, rfl, rfl, hn, rfl⟩ := hrel
    by_cases hlt : k < xs.length
    · obtain ⟨b, o, rfl, hbB, hx⟩ := ha (by omega)
      have hck : wr.cell? ⟨b, o + k, none⟩ = some (.int .i64 xs[k]) := hx k hlt
      have hb : 0 ≤ xs[k] ∧ xs[k] ≤ 5 := by simpa [constOk] using List.all_eq_true.1 HC.out _ (List.getElem_mem hlt)
      have hn6 : n < 36 := by
        have := numF_lt HC.out k hk
        have h2 : (6 : Nat) ^ k ≤ 6 ^ 2 := Nat.pow_le_pow_right (by decide) (by omega)
        rw [hn]
        omega
      obtain ⟨x, hx2⟩ : ∃ x : Nat, xs[k] = (x : Int) := ⟨xs[k].toNat, by omega⟩
      have HN := Lib.hid (show numF (xs.take (k + 1)) = n * 6 + x by rw [numF_take hlt, hn, hx2]; rfl)
      have hxl : x ≤ 5 := by omega
      rw [hx2] at hck
      clear hx hx2 hb hn
      go_wp2_with fail
      go_roundw
      case rel => exact ⟨k + 1, n * 6 + x, by omega, by go_num, by go_num, HN.out.symm, by first | trivial | rfl⟩
      case measure => simp [intOf]; omega
    · have HE := Lib.hid (show n = numF xs by rw [hn, show k = xs.length by omega, List.take_length])
      clear hn ha
      go_wp2_with fail
      go_ret
      exact ⟨ret_int (by rw [HE.out]), rfl⟩

set_option maxHeartbeats 1000000 in
set_option maxRecDepth 100000 in
theorem number_any (v : Value) (bs xs : List Int) (hb : bindOk bs = true) (ht : xs.all termOk = true) (B : Nat) (w : World) (h : RdInts w B v xs) (hc : (xs.map (termVal bs)).all constOk = true) (hl : xs.length ≤ 2) :
    Calls Tryz.prog 49 #[.int .u32 (encB bs : Nat), v] w fun e w' => e = .returned (.int .i64 (numF (xs.map (termVal bs)) : Nat)) ∧ w = w' := by
  obtain ⟨A, c, rfl, hcc, ha⟩ := h
  obtain ⟨ys, hys⟩ : ∃ ys, ys = xs.map (termVal bs) := ⟨_, rfl⟩
  rw [← hys] at hc ⊢
  have hyl : ys.length = xs.length := by rw [hys]; simp
  have HYL := Lib.hid hyl
  have HC := Lib.hid hc
  have HY := Lib.hid hys
  have HT := Lib.hid ht
  have HV := Lib.hid (fun t ht => value_any bs hb t ht)
  generalize encB bs = m at HV
  clear hc hys ht hyl
  go_enter Tryz.func49, Tryz.ntmps49
  go_wp2_with fail
  go_loopw [5, 10] (fun m i wr => ∃ (k n : Nat), k ≤ xs.length ∧ i = .int .i64 k ∧ m = .int .i64 n ∧ n = numF (ys.take k) ∧ wr = w) (fun _ i _ => xs.length - (intOf i).toNat)
  case atStart => exact ⟨0, 0, by simp [numF]⟩
  case round =>
    obtain ⟨k, n, hk, rfl, rfl, hn, rfl⟩ := hrel
    by_cases hlt : k < xs.length
    · obtain ⟨b, o, rfl, hbB, hx⟩ := ha (by omega)
      have hck : wr.cell? ⟨b, o + k, none⟩ = some (.int .i64 xs[k]) := hx k hlt
      have hlt2 : k < ys.length := by rw [HYL.out]; exact hlt
      have hb2 : 0 ≤ ys[k] ∧ ys[k] ≤ 5 := by simpa [constOk] using List.all_eq_true.1 HC.out _ (List.getElem_mem hlt2)
      have hn6 : n < 36 := by
        have := numF_lt HC.out k (by omega)
        have h2 : (6 : Nat) ^ k ≤ 6 ^ 2 := Nat.pow_le_pow_right (by decide) (by omega)
        rw [hn]
        omega
      obtain ⟨x, hx2⟩ : ∃ x : Nat, ys[k] = (x : Int) := ⟨ys[k].toNat, by omega⟩
      have HN := Lib.hid (show numF (ys.take (k + 1)) = n * 6 + x by rw [numF_take hlt2, hn, hx2]; rfl)
      have hxl : x ≤ 5 := by omega
      have HV2 := Lib.hid (HV.out xs[k] (List.all_eq_true.1 HT.out _ (List.getElem_mem hlt)))
      have hvx : termVal bs xs[k] = (x : Int) := by rw [← hx2]; simp only [HY.out, List.getElem_map]
      rw [hvx] at HV2
      clear hx hx2 hb2 hn hvx
      go_wp2_with (go_at_call 73; refine (HV2.out _).mono ?_; rintro e w' ⟨rfl, rfl⟩)
      go_roundw
      case rel => exact ⟨k + 1, n * 6 + x, by omega, by go_num, by go_num, HN.out.symm, by first | trivial | rfl⟩
      case measure => simp [intOf]; omega
    · have HE := Lib.hid (show n = numF ys by rw [hn, show k = ys.length by have := HYL.out; omega, List.take_length])
      clear hn ha
      go_wp2_with fail
      go_ret
      exact ⟨ret_int (by rw [HE.out]), rfl⟩

/-- The facts of a table's predicates. -/
def TabFact (f : LFact) : Prop := 0 ≤ f.1 ∧ f.1 < 24 ∧ f.2.all constOk = true ∧ f.2.length ≤ 2
def tabWith (T : List Nat) (fs : List LFact) : List Nat := fs.foldl (fun T f => setBit T f.1.toNat (numF f.2)) T
theorem tabWith_take {T : List Nat} {fs : List LFact} {k : Nat} (h : k < fs.length) : tabWith T (fs.take (k + 1)) = setBit (tabWith T (fs.take k)) fs[k].1.toNat (numF fs[k].2) := by
  unfold tabWith
  rw [take_snoc fs k h, List.foldl_append]
  rfl
theorem TabAt.below {w w' : World} {g B : Nat} {T : List Nat} (h : TabAt w g T) (hb : Below B w w') (hg : g < B) : TabAt w' g T := ⟨h.1.below hb hg, h.2⟩
theorem TabAt.only {w w' : World} {g lo hi : Nat} {T : List Nat} (h : TabAt w g T) (ho : Only lo hi w w') (hg : g < lo ∨ hi ≤ g) : TabAt w' g T := ⟨h.1.only ho hg, h.2⟩
theorem numF_64 {xs : List Int} (hc : xs.all constOk = true) (hl : xs.length ≤ 2) : numF xs < 64 := by
  have := numF_lt hc xs.length (Nat.le_refl _)
  rw [List.take_length] at this
  have h2 : (6 : Nat) ^ xs.length ≤ 6 ^ 2 := Nat.pow_le_pow_right (by decide) hl
  omega

set_option maxHeartbeats 4000000 in
set_option maxRecDepth 100000 in
theorem addAll_any (g B : Nat) (T0 : List Nat) (v : Value) (fs : List LFact) (w : World) (h : TabAt w g T0) (hr : RdFacts w B v fs) (hB : B ≤ g) (hf : ∀ f ∈ fs, TabFact f) (hn : fs.length ≤ 1048576) :
    Calls Tryz.prog 28 #[.pointer (some ⟨g, 0, none⟩), v] w fun e w' =>
      e = .returned (.tuple #[]) ∧ TabAt w' g (tabWith T0 fs) ∧ Only g (g + 1) w w' := by
  have H := Lib.hid hr
  have HT := Lib.hid h
  have HF := Lib.hid hf
  have hgw := h.1.lt
  obtain ⟨A, c, rfl, hc, _⟩ := hr
  clear h hf
  go_enter Tryz.func28, Tryz.ntmps28
  go_wp2_with fail
  go_loopw [8] (fun i wr => ∃ k : Nat, k ≤ fs.length ∧ i = .int .i64 k ∧ TabAt wr g (tabWith T0 (fs.take k)) ∧ Only g (g + 1) w wr) (fun i _ => fs.length - (intOf i).toNat)
  case atStart => exact ⟨0, Nat.zero_le _, rfl, by simpa [tabWith] using HT.out, Only.refl _ _ _⟩
  case round =>
    obtain ⟨k, hk, rfl, hat, hon⟩ := hrel
    by_cases hlt : k < fs.length
    · have hsz := hon.size
      have hbe : Below B w wr := hon.below hB (by omega)
      obtain ⟨b, o, A3, c3, rfl, hbB, k1, k2, k3⟩ := (H.out.below hbe (Nat.le_refl _)).get hlt
      have HCF := Lib.hid (HF.out _ (List.getElem_mem hlt))
      have HTK := Lib.hid (tabWith_take (T := T0) hlt)
      obtain ⟨f, hfe⟩ : ∃ f, f = fs[k] := ⟨_, rfl⟩
      rw [← hfe] at HCF k1 k2 k3 HTK
      obtain ⟨T, hTe⟩ : ∃ T, T = tabWith T0 (fs.take k) := ⟨_, rfl⟩
      rw [← hTe] at hat HTK
      obtain ⟨p, hpe⟩ : ∃ p : Nat, f.1 = (p : Int) := ⟨f.1.toNat, by have := HCF.out.1; omega⟩
      have hp24 : p < 24 := by have := HCF.out.2.1; omega
      obtain ⟨n, hne⟩ : ∃ n, n = numF f.2 := ⟨_, rfl⟩
      have hn64 : n < 64 := by rw [hne]; exact numF_64 HCF.out.2.2.1 HCF.out.2.2.2
      have HTK2 := Lib.hid (show tabWith T0 (fs.take (k + 1)) = setBit T p n by rw [HTK.out, hpe, hne]; rfl)
      have HNE := Lib.hid hne
      rw [hpe] at k1
      clear hfe hTe hpe hne HTK
      go_upto_region 3 with fail
      obtain ⟨wv, hwv⟩ : ∃ wv, wv = wr.alloc (Obj.cells #[Value.int IntKind.i64 (p : Int), Value.slice A3 f.2.length c3] 52) := ⟨_, rfl⟩
      have bv : Below wr.heap.size wr wv := by rw [hwv]; exact below1 _ _
      have z7 : Blk wv wr.heap.size 52 #[.int .i64 p, .slice A3 f.2.length c3] := by rw [hwv]; exact Blk.new _ _ _
      have hvl : wr.heap.size < wv.heap.size := by rw [hwv]; simp
      rw [← hwv]
      clear hwv k1 k2
      have RF := Lib.hid (show RdInts wv wr.heap.size (.slice A3 f.2.length c3) f.2 from (k3.below bv (by omega)).more (by omega))
      have htv : TabAt wv g T := hat.below bv hat.1.lt
      have HTV := Lib.hid (show TabAt wv.drew g T from htv)
      have q0 : wv.cell? ⟨wr.heap.size, 0, none⟩ = some (.int .i64 p) := z7.cell 0
      have q1 : wv.cell? ⟨wr.heap.size, 1, none⟩ = some (.slice A3 f.2.length c3) := z7.cell 1
      have HON := Lib.hid (show Only g (g + 1) w wv.drew from (hon.trans (Only.of_below bv)).trans (Only.of_below (bdrewN (Below.refl _ _) 1)))
      clear hat hon k3 z7 htv
      obtain ⟨SS, hSS⟩ : ∃ SS : World → Prop, SS = (fun W => Below wv.heap.size wv W ∧ W.cell? ⟨wr.heap.size, 0, none⟩ = some (.int .i64 p) ∧ W.cell? ⟨wr.heap.size, 1, none⟩ = some (.slice A3 f.2.length c3)) := ⟨_, rfl⟩
      have HB := Lib.hid (show ∀ W, SS W → (Below wv.heap.size wv W ∧ W.cell? ⟨wr.heap.size, 0, none⟩ = some (.int .i64 p) ∧ W.cell? ⟨wr.heap.size, 1, none⟩ = some (.slice A3 f.2.length c3)) from by rw [hSS]; exact fun W hW => hW)
      have HS := Lib.hid (show ∀ W, Below wv.heap.size wv W → SS W from by
        rw [hSS]
        exact fun W hW => ⟨hW, (hW.cell (World.block_lt_of_cell? _ _ q0)).trans q0, (hW.cell (World.block_lt_of_cell? _ _ q1)).trans q1⟩)
      clear hSS
      have BB : Below wv.heap.size wv wv.drew := (Below.refl _ _).drew
      have SB := HS.out _ BB
      refine wp_region_rel SS 6 7 (by kernel_rfl) rfl ?_
      refine wpAnyR_pure (i := 0) (oi := _) ?v0 rfl rfl (by kernel_rfl) (by decide) (fun _ _ _ h => h) rfl ?hy0 (fun _ => SB) ?rest0
      case hy0 => (intro W; go_simp; (try with_reducible rfl))
      try simp only [List.setIfInBounds_toArray, List.set_cons_zero, List.set_cons_succ]
      refine wpAnyR_pure (i := 1) (oi := _) ?v1 rfl rfl (by kernel_rfl) (by decide) (fun _ _ _ h => h) rfl ?hy1 (fun _ => SB) ?rest1
      case hy1 => (intro W; go_simp; (try with_reducible rfl))
      try simp only [List.setIfInBounds_toArray, List.set_cons_zero, List.set_cons_succ]
      refine wpAnyR_take (i := 2) (oi := _) ?v2 rfl rfl (by kernel_rfl) (fun _ _ _ h => h) rfl ?hy2 SB ?rest2
      case hy2 => (intro W hW; obtain ⟨_, e0, e1⟩ := HB.out W hW; go_simp; (try with_reducible rfl))
      try simp only [List.setIfInBounds_toArray, List.set_cons_zero, List.set_cons_succ]
      refine wpAnyR_pure (i := 3) (oi := _) ?v3 rfl rfl (by kernel_rfl) (by decide) (fun _ _ _ h => h) rfl ?hy3 (fun _ => SB) ?rest3
      case hy3 => (intro W; go_simp; (try with_reducible rfl))
      try simp only [List.setIfInBounds_toArray, List.set_cons_zero, List.set_cons_succ]
      refine wpAnyR_take (i := 4) (oi := _) ?v4 rfl rfl (by kernel_rfl) (fun _ _ _ h => h) rfl ?hy4 SB ?rest4
      case hy4 => (intro W hW; obtain ⟨_, e0, e1⟩ := HB.out W hW; go_simp; (try with_reducible rfl))
      try simp only [List.setIfInBounds_toArray, List.set_cons_zero, List.set_cons_succ]
      refine wpAnyR_one (i := 5) (by kernel_rfl) rfl (fun K hK => ?_)
      try rw [if_pos (show Region.wanted _ _ = true from rfl)]
      go_simp
      refine (constantsNumber_any (.slice A3 f.2.length c3) f.2 wr.heap.size _ (RF.out.below BB (Nat.le_of_lt hvl)) HCF.out.2.2.1 HCF.out.2.2.2).mono ?_
      rw [← HNE.out]
      rintro e W5 ⟨rfl, rfl⟩
      refine hK.out _ _ (fun _ => SB) ?_
      clear hK K
      try simp only [List.setIfInBounds_toArray, List.set_cons_zero, List.set_cons_succ, Act.put]
      refine wpAnyR_one (i := 6) (by kernel_rfl) rfl (fun K hK => ?_)
      try rw [if_pos (show Region.wanted _ _ = true from rfl)]
      go_simp
      refine (add_any g p n T _ HTV.out hp24 hn64).mono ?_
      rintro e W6 ⟨rfl, ht6, ho6⟩
      have H6 := Lib.hid (And.intro ht6 ho6)
      clear ht6 ho6
      refine hK.out _ _ (fun hf => absurd hf (by decide)) ?_
      clear hK K
      try simp only [List.setIfInBounds_toArray, List.set_cons_zero, List.set_cons_succ, Act.put]
      refine wpAnyR_done (by kernel_rfl) ?_
      have HFIN := Lib.hid (show TabAt W6 g (tabWith T0 (fs.take (k + 1))) ∧ Only g (g + 1) w W6 from by
        rw [HTK2.out]
        exact ⟨H6.out.1, HON.out.trans H6.out.2⟩)
      clear SB HB HS BB
      go_wp2_with fail
      go_roundw
      case rel => exact ⟨k + 1, by omega, by go_num, HFIN.out.1, HFIN.out.2⟩
      case measure => simp [intOf]; omega
    · have HFIN := Lib.hid (show TabAt wr g (tabWith T0 fs) ∧ Only g (g + 1) w wr from by
        rw [show k = fs.length by omega, List.take_length] at hat
        exact ⟨hat, hon⟩)
      clear hat hon
      go_wp2_with fail
      go_end0
      exact ⟨rfl, HFIN.out.1, HFIN.out.2⟩

end Go.Proofs.YtcceololijefiaaGreat
/-
  The walk of Solutions.
-/
namespace Go.Proofs.YtcceololijefiaaGreat
open Go.RowKit

/-- A row of slices that make laid and a loop fills: k of them stand. -/
structure FillS (g n : Nat) (wr : World) (xss : List (List Int)) (av : List Value) : Prop where
  args : OwnArgs wr (g + 1) wr.heap.size av xss
  row : ∃ cur, wr.heap[g]? = some (.cells cur 22 (0, 0)) ∧ cur.size = n ∧ cur.toList.take xss.length = av
theorem FillS.start (w : World) (cs : Array Value) (n : Nat) (h : cs.size = n) : FillS w.heap.size n (w.alloc (.cells cs 22)) [] [] :=
  ⟨OwnArgs.nil, cs, heap_alloc_new w _, h, by simp⟩
theorem FillS.lt {g n : Nat} {wr : World} {xss : List (List Int)} {av : List Value} (h : FillS g n wr xss av) : g < wr.heap.size := by
  obtain ⟨_, cur, hg, _⟩ := h
  exact Blk.lt hg
theorem FillS.on {g n : Nat} {wr w4 : World} {xss : List (List Int)} {av : List Value} (h : FillS g n wr xss av) (hb : Below wr.heap.size wr w4) : FillS g n w4 xss av := by
  have hlt := h.lt
  obtain ⟨ha, cur, hg, h1, h2⟩ := h
  exact ⟨(ha.below hb (Nat.le_refl _)).mono (Nat.le_refl _) hb.size, cur, (hb.block g hlt).trans hg, h1, h2⟩
theorem FillS.free {g n : Nat} {wr : World} {xss : List (List Int)} {av : List Value} (h : FillS g n wr xss av) {k : Nat} (hk : k < n) : (∃ x, wr.cell? ⟨g, k, none⟩ = some x) ∧ wr.frozen? ⟨g, k, none⟩ = false := by
  obtain ⟨_, cur, hg, h1, _⟩ := h
  exact ⟨⟨cur[k]'(by omega), by rw [Blk.cell hg, Array.getElem?_eq_getElem]⟩, Blk.frozen hg k⟩
theorem FillS.step {g n k : Nat} {wr w4 : World} {xss : List (List Int)} {xs : List Int} {av : List Value} {u : Value} (h : FillS g n wr xss av) (hk : xss.length = k) (hkn : k < n) (hb : Below wr.heap.size wr w4) (hu : OwnInts w4 wr.heap.size w4.heap.size u xs) :
    FillS g n (w4.setCell ⟨g, k, none⟩ u) (xss ++ [xs]) (av ++ [u]) := by
  have hlt := h.lt
  have hl := h.args.len
  have h4 := (h.args.below hb (Nat.le_refl _)).snoc hu (by omega) hb.size
  obtain ⟨_, cur, hg, h1, h2⟩ := h
  have hg4 : Blk w4 g 22 cur := (hb.block g hlt).trans hg
  refine ⟨by simpa using h4.set (p := ⟨g, k, none⟩) (.inl (Nat.lt_succ_self g)) u, _, hg4.set_ k u, by simpa using h1, ?_⟩
  have hlen : (xss ++ [xs]).length = k + 1 := by simp [hk]
  rw [hlen, Array.toList_setIfInBounds]
  rw [hk] at h2
  apply List.ext_getElem?
  intro j
  by_cases hj : j < k
  · rw [List.getElem?_take_of_lt (by omega), List.getElem?_set_ne (by omega), List.getElem?_append_left (by omega), ← h2, List.getElem?_take_of_lt hj]
  · by_cases hj2 : j = k
    · subst hj2
      rw [List.getElem?_take_of_lt (by omega), List.getElem?_set_self (by simp; omega), List.getElem?_append_right (by omega)]
      simp [hl, hk]
    · rw [List.getElem?_eq_none (by simp; omega), List.getElem?_eq_none (by simp; omega)]
theorem FillS.done {g n : Nat} {wr : World} {xss : List (List Int)} {av : List Value} (h : FillS g n wr xss av) (hn : xss.length = n) (hm : n ≤ maxLen) : OwnRows wr g wr.heap.size (.slice (some ⟨g, 0, none⟩) xss.length n) xss := by
  have hlt := h.lt
  have hl := h.args.len
  obtain ⟨ha, cur, hg, h1, h2⟩ := h
  exact ⟨av, ha.mono (by omega) (Nat.le_refl _), ⟨by omega, .inr ⟨g, n, cur, rfl, Nat.le_refl _, hg, by omega, hm, by omega, by rw [Nat.mul_one]; exact h2⟩⟩, fun g' hg' => by simp [Value.ownBlock] at hg'; omega⟩

theorem OwnRows.nil (w : World) (lo hi : Nat) : OwnRows w lo hi (.slice none 0 0) [] := ⟨[], OwnArgs.nil, World.ownsRow_nil _ _ _ _, fun g hg => by cases hg⟩

end Go.Proofs.YtcceololijefiaaGreat
/-
  The walk of headsIn.
-/
namespace Go.Proofs.YtcceololijefiaaGreat
open Go.RowKit

def zeroT : List Nat := List.replicate 24 0
def hdOf (r : LRule) (b : List Int) : LFact := (r.1.1, r.1.2.map (termVal b))
theorem tabWith_snoc (T : List Nat) (fs : List LFact) (f : LFact) : tabWith T (fs ++ [f]) = setBit (tabWith T fs) f.1.toNat (numF f.2) := by
  unfold tabWith
  rw [List.foldl_append]
  rfl
theorem TabAt.zero (w : World) : TabAt (w.alloc (Obj.cells (tabCells zeroT) 56)) w.heap.size zeroT :=
  ⟨Blk.new _ _ _, by simp [zeroT], fun x hx => by
    obtain ⟨_, rfl⟩ := List.mem_replicate.1 hx
    decide⟩

set_option maxHeartbeats 8000000 in
set_option maxRecDepth 100000 in
theorem headsIn_any (v v2 : Value) (ar : List Int) (rs : List LRule) (fs : List LFact) (w : World) (h : RdRules w w.heap.size v rs) (h2 : RdFacts w w.heap.size v2 fs) (har : arityOk ar = true) (hfit : ∀ r ∈ rs, ruleFits ar r = true) (hsz : totR rs ≤ 1048576) (hrl : rs.length ≤ 1048576)
    (hn : fs.length ≤ 1048576) (ht : tot fs ≤ 1048576) (hc : ∀ f ∈ fs, f.2.all constOk = true) (hnd : fs.Nodup) :
    Calls Tryz.prog 27 #[v, v2] w fun e w' => ∃ F, e = .returned (.agg (tabCells (tabWith zeroT F))) ∧ (∀ f, f ∈ F ↔ f ∈ headsAll rs fs) ∧ Below w.heap.size w w' := by
  have H := Lib.hid h
  have H2 := Lib.hid h2
  obtain ⟨A, c, rfl, hcA, _⟩ := h
  obtain ⟨A2, c2, rfl, hc2, _⟩ := h2
  have HFIT := Lib.hid hfit
  clear hfit
  go_enter Tryz.func27, Tryz.ntmps27
  go_upto_region 2 with fail
  obtain ⟨w0, hw0⟩ : ∃ w0, w0 = (w.alloc (Obj.cells (tabCells zeroT) 56)).alloc (Obj.cells (tabCells zeroT) 56) := ⟨_, rfl⟩
  obtain ⟨g, hg⟩ : ∃ g, g = w.heap.size + 1 := ⟨_, rfl⟩
  have T0 : TabAt w0 g zeroT := by rw [hw0, hg]; have := TabAt.zero (w.alloc (Obj.cells (tabCells zeroT) 56)); simpa using this
  have R0 : TabAt w0 w.heap.size zeroT := by rw [hw0]; exact (TabAt.zero w).below (below1 _ _) (by simp)
  have B0 : Below w.heap.size w w0 := by rw [hw0]; exact bthen (below1 _ _) (below1 _ _)
  rw [show ((w.alloc (Obj.cells #[Value.int IntKind.u64 0, Value.int IntKind.u64 0, Value.int IntKind.u64 0, Value.int IntKind.u64 0, Value.int IntKind.u64 0, Value.int IntKind.u64 0, Value.int IntKind.u64 0, Value.int IntKind.u64 0, Value.int IntKind.u64 0, Value.int IntKind.u64 0, Value.int IntKind.u64 0, Value.int IntKind.u64 0, Value.int IntKind.u64 0, Value.int IntKind.u64 0, Value.int IntKind.u64 0, Value.int IntKind.u64 0, Value.int IntKind.u64 0, Value.int IntKind.u64 0, Value.int IntKind.u64 0, Value.int IntKind.u64 0, Value.int IntKind.u64 0, Value.int IntKind.u64 0, Value.int IntKind.u64 0, Value.int IntKind.u64 0] 56)).alloc (Obj.cells #[Value.int IntKind.u64 0, Value.int IntKind.u64 0, Value.int IntKind.u64 0, Value.int IntKind.u64 0, Value.int IntKind.u64 0, Value.int IntKind.u64 0, Value.int IntKind.u64 0, Value.int IntKind.u64 0, Value.int IntKind.u64 0, Value.int IntKind.u64 0, Value.int IntKind.u64 0, Value.int IntKind.u64 0, Value.int IntKind.u64 0, Value.int IntKind.u64 0, Value.int IntKind.u64 0, Value.int IntKind.u64 0, Value.int IntKind.u64 0, Value.int IntKind.u64 0, Value.int IntKind.u64 0, Value.int IntKind.u64 0, Value.int IntKind.u64 0, Value.int IntKind.u64 0, Value.int IntKind.u64 0, Value.int IntKind.u64 0] 56)) = w0 from by rw [hw0]; rfl, show w.heap.size + 1 = g from hg.symm]
  have hgs : g < w0.heap.size := T0.1.lt
  have hgw : w.heap.size ≤ g := by omega
  have HT0 := Lib.hid T0
  have HR0 := Lib.hid R0
  have HGE := Lib.hid hg
  clear hw0 T0 R0 hg
  go_wp2_with fail
  go_loopw [12] (fun i wr => ∃ (k : Nat) (F : List LFact), k ≤ rs.length ∧ i = .int .i64 k ∧ TabAt wr g (tabWith zeroT F) ∧ (∀ f, f ∈ F ↔ f ∈ headsAll (rs.take k) fs) ∧ Only g (g + 1) w0 wr) (fun i _ => rs.length - (intOf i).toNat)
  case atStart => exact ⟨0, [], Nat.zero_le _, rfl, HT0.out, fun f => by simp [headsAll, setOf], Only.refl _ _ _⟩
  case round =>
    obtain ⟨k, F, hk, rfl, hat, hmem, hon⟩ := hrel
    have BW : Below w.heap.size w wr := Only.then_ B0 hon hgw
    have HON := Lib.hid hon
    have HMEM := Lib.hid hmem
    have hsz0 := hon.size
    by_cases hlt : k < rs.length
    · obtain ⟨b, o, u0, u1, u2, rfl, hbB, k0, k1, k2, rfl, q1, q2⟩ := (H.out.below BW (Nat.le_refl _)).get hlt
      have hwr : w.heap.size ≤ wr.heap.size := BW.size
      have Q1 := Lib.hid q1
      have Q2 := Lib.hid q2
      obtain ⟨A3, c3, rfl, _⟩ := q1
      obtain ⟨A4, c4, rfl, _⟩ := q2
      have hfk := HFIT.out _ (List.getElem_mem hlt)
      have HW := Lib.hid hfk
      have hparts := hfk
      simp only [ruleFits, atomFits, Bool.and_eq_true, decide_eq_true_eq] at hparts
      have HLE := Lib.hid (place_short har hparts.1.1)
      have HTM := Lib.hid hparts.1.2
      have HPR := Lib.hid (show 0 ≤ rs[k].1.1 ∧ rs[k].1.1 < 24 from by
        have : ar.length ≤ 24 := by simp only [arityOk, Bool.and_eq_true, decide_eq_true_eq] at har; exact har.1
        omega)
      have hsk := sz_le_totR rs k hlt
      unfold szR at hsk
      have HSF := Lib.hid (SafeB.of (fits_body hfk))
      have HQL := Lib.hid (show (questL fs rs[k].2).length = rs[k].2.length by simp [questL])
      have CQ := Lib.hid (fun W (hW : Below wr.heap.size wr W) => questionsOf_any (.slice A2 fs.length c2) (.slice A4 rs[k].2.length c4) fs rs[k].2 W (H2.out.on (bthen BW hW)) ((Q2.out.more hwr).on hW) (by omega))
      clear hparts hfk hon hmem
      go_upto_region 5 with fail
      obtain ⟨wv, hwv⟩ : ∃ wv, wv = wr.alloc (Obj.cells #[Value.int .i64 rs[k].1.1, Value.slice A3 rs[k].1.2.length c3, Value.slice A4 rs[k].2.length c4] 72) := ⟨_, rfl⟩
      have bv : Below wr.heap.size wr wv := by rw [hwv]; exact below1 _ _
      have X : Blk wv wr.heap.size 72 #[.int .i64 rs[k].1.1, .slice A3 rs[k].1.2.length c3, .slice A4 rs[k].2.length c4] := by rw [hwv]; exact Blk.new _ _ _
      rw [← hwv]
      have hvl := X.lt
      clear hwv k0 k1 k2
      have x2 : wv.cell? ⟨wr.heap.size, 2, none⟩ = some (.slice A4 rs[k].2.length c4) := X.cell 2
      have HQK := Lib.hid (HSF.out.qok hc hn ht (by omega))
      go_wp2_with (first
        | (go_at_call 47; refine (CQ.out _ bv).mono ?_; rintro e w3 ⟨g3, us, rfl, hg3, at3, rd3, hb3⟩
           have CS := solve_any g3 rs[k].2.length wv.heap.size us (questL fs rs[k].2) w3 at3 rd3 hg3 (by rw [HQL.out]; omega) HQK.out (HSF.out.quests fs)
           rw [HQL.out] at CS
           have HCS := Lib.hid CS
           have H3 := Lib.hid (And.intro hg3 hb3)
           clear CS hg3 at3 rd3 hb3)
        | (go_at_call 46; refine HCS.out.mono ?_; rintro e w4 ⟨A5, c5, S, rfl, own4, on4, is4⟩
           have H4 := Lib.hid (And.intro own4 (And.intro on4 is4))
           clear own4 on4 is4))
      obtain ⟨hg3, hb3⟩ := H3.out
      obtain ⟨own4, on4, is4⟩ := H4.out
      have hs3 := hb3.size
      have b34 : Below wv.heap.size wv w4 := Only.then_ hb3 on4 hg3
      have hl4 : S.length ≤ 65536 := binds_len is4.1 is4.ok
      have X4 := Lib.hid (X.below b34 hvl)
      have hgr : g + 1 ≤ wr.heap.size := hat.1.lt
      have T4 := Lib.hid (hat.below (bthen bv b34) hat.1.lt)
      have ON4 := Lib.hid (HON.out.trans (Only.of_below (bthen bv b34)))
      have OW4 := Lib.hid own4
      have IS4 := Lib.hid is4
      have B4 := Lib.hid (bthen bv b34)
      have hs4 := b34.size
      clear hg3 hb3 own4 on4 is4 H3 H4 HCS CQ x2 X b34 hat HQK
      obtain ⟨wo, rfl⟩ : ∃ wo, wo = wr := ⟨_, rfl⟩
      go_loopw [22] (fun i wr => ∃ q : Nat, q ≤ S.length ∧ i = .int .i64 q ∧ TabAt wr g (tabWith zeroT (F ++ (S.take q).map (hdOf rs[k]))) ∧ Only g (g + 1) w4 wr) (fun i _ => S.length - (intOf i).toNat)
      case atStart => exact ⟨0, Nat.zero_le _, rfl, by simpa using T4.out, Only.refl _ _ _⟩
      case round =>
        obtain ⟨q, hq, rfl, htx, honx⟩ := hrel
        have hsx := honx.size
        have hwx : w.heap.size ≤ wr.heap.size := by omega
        by_cases hltq : q < S.length
        · have hrd := (OW4.out.only honx (.inr (by omega))).rd
          obtain ⟨A7, c7, e7, _, hx⟩ := hrd
          injection e7 with e7 _ e8
          subst e7 e8
          obtain ⟨b7, o7, rfl, _, hx⟩ := hx (by omega)
          have hck : wr.cell? ⟨b7, o7 + q, none⟩ = some (.int .u32 ((encB S[q] : Nat) : Int)) := hx q hltq
          have HBK := Lib.hid (IS4.out.ok _ (List.getElem_mem hltq))
          have HCO := Lib.hid (show (rs[k].1.2.map (termVal S[q])).all constOk = true from by
            have := sols_head HW.out IS4.out _ (List.getElem_mem hltq)
            simp only [headOk, Bool.and_eq_true] at this
            exact this.2)
          have Xx := X4.out.only honx (.inr hgr)
          obtain ⟨p, hpe⟩ : ∃ p : Nat, rs[k].1.1 = (p : Int) := ⟨rs[k].1.1.toNat, by have := HPR.out; omega⟩
          have hp24 : p < 24 := by have := HPR.out; omega
          obtain ⟨n, hne⟩ : ∃ n, n = numF (rs[k].1.2.map (termVal S[q])) := ⟨_, rfl⟩
          have HNE := Lib.hid hne
          have hn64 : n < 64 := by rw [hne]; exact numF_64 HCO.out (by rw [List.length_map]; exact HLE.out)
          obtain ⟨T, hTe⟩ : ∃ T, T = tabWith zeroT (F ++ (S.take q).map (hdOf rs[k])) := ⟨_, rfl⟩
          have HTK := Lib.hid (show tabWith zeroT (F ++ (S.take (q + 1)).map (hdOf rs[k])) = setBit T p n from by
            rw [take_snoc S q hltq, List.map_append, ← List.append_assoc, List.map_singleton, tabWith_snoc, hTe, hne]
            show setBit _ rs[k].1.1.toNat _ = _
            rw [hpe]
            rfl)
          rw [← hTe] at htx
          have HTV := Lib.hid (show TabAt wr.drew g T from htx)
          have q0 : wr.cell? ⟨wo.heap.size, 0, none⟩ = some (.int .i64 p) := by rw [← hpe]; exact Xx.cell 0
          have q1 : wr.cell? ⟨wo.heap.size, 1, none⟩ = some (.slice A3 rs[k].1.2.length c3) := Xx.cell 1
          have RX := Lib.hid (show RdInts wr w.heap.size (.slice A3 rs[k].1.2.length c3) rs[k].1.2 from (Q1.out.below B4.out hwr).below (honx.below hgw (by omega)) (Nat.le_refl _))
          have HONX := Lib.hid (show Only g (g + 1) w4 wr.drew from honx.drew')
          clear hx htx honx hpe hne hTe Xx
          go_upto_region 8 with fail
          obtain ⟨SS, hSS⟩ : ∃ SS : World → Prop, SS = (fun W => Below wr.heap.size wr W ∧ W.cell? ⟨wo.heap.size, 0, none⟩ = some (.int .i64 p) ∧ W.cell? ⟨wo.heap.size, 1, none⟩ = some (.slice A3 rs[k].1.2.length c3)) := ⟨_, rfl⟩
          have HB := Lib.hid (show ∀ W, SS W → (Below wr.heap.size wr W ∧ W.cell? ⟨wo.heap.size, 0, none⟩ = some (.int .i64 p) ∧ W.cell? ⟨wo.heap.size, 1, none⟩ = some (.slice A3 rs[k].1.2.length c3)) from by rw [hSS]; exact fun W hW => hW)
          have HS := Lib.hid (show ∀ W, Below wr.heap.size wr W → SS W from by
            rw [hSS]
            exact fun W hW => ⟨hW, (hW.cell (World.block_lt_of_cell? _ _ q0)).trans q0, (hW.cell (World.block_lt_of_cell? _ _ q1)).trans q1⟩)
          clear hSS
          have BB : Below wr.heap.size wr wr.drew := (Below.refl _ _).drew
          have SB := HS.out _ BB
          refine wp_region_rel SS 8 9 (by kernel_rfl) rfl ?_
          refine wpAnyR_pure (i := 0) (oi := _) ?v0 rfl rfl (by kernel_rfl) (by decide) (fun _ _ _ h => h) rfl ?hy0 (fun _ => SB) ?rest0
          case hy0 => (intro W; go_simp; (try with_reducible rfl))
          try simp only [List.setIfInBounds_toArray, List.set_cons_zero, List.set_cons_succ]
          refine wpAnyR_pure (i := 1) (oi := _) ?v1 rfl rfl (by kernel_rfl) (by decide) (fun _ _ _ h => h) rfl ?hy1 (fun _ => SB) ?rest1
          case hy1 => (intro W; go_simp; (try with_reducible rfl))
          try simp only [List.setIfInBounds_toArray, List.set_cons_zero, List.set_cons_succ]
          refine wpAnyR_take (i := 2) (oi := _) ?v2 rfl rfl (by kernel_rfl) (fun _ _ _ h => h) rfl ?hy2 SB ?rest2
          case hy2 => (intro W hW; obtain ⟨_, e0, e1⟩ := HB.out W hW; go_simp; (try with_reducible rfl))
          try simp only [List.setIfInBounds_toArray, List.set_cons_zero, List.set_cons_succ]
          refine wpAnyR_pure (i := 3) (oi := _) ?v3 rfl rfl (by kernel_rfl) (by decide) (fun _ _ _ h => h) rfl ?hy3 (fun _ => SB) ?rest3
          case hy3 => (intro W; go_simp; (try with_reducible rfl))
          try simp only [List.setIfInBounds_toArray, List.set_cons_zero, List.set_cons_succ]
          refine wpAnyR_pure (i := 4) (oi := _) ?v4 rfl rfl (by kernel_rfl) (by decide) (fun _ _ _ h => h) rfl ?hy4 (fun _ => SB) ?rest4
          case hy4 => (intro W; go_simp; (try with_reducible rfl))
          try simp only [List.setIfInBounds_toArray, List.set_cons_zero, List.set_cons_succ]
          refine wpAnyR_pure (i := 5) (oi := _) ?v5 rfl rfl (by kernel_rfl) (by decide) (fun _ _ _ h => h) rfl ?hy5 (fun _ => SB) ?rest5
          case hy5 => (intro W; go_simp; (try with_reducible rfl))
          try simp only [List.setIfInBounds_toArray, List.set_cons_zero, List.set_cons_succ]
          refine wpAnyR_take (i := 6) (oi := _) ?v6 rfl rfl (by kernel_rfl) (fun _ _ _ h => h) rfl ?hy6 SB ?rest6
          case hy6 => (intro W hW; obtain ⟨_, e0, e1⟩ := HB.out W hW; go_simp; (try with_reducible rfl))
          try simp only [List.setIfInBounds_toArray, List.set_cons_zero, List.set_cons_succ]
          refine wpAnyR_one (i := 7) (by kernel_rfl) rfl (fun K hK => ?_)
          try rw [if_pos (show Region.wanted _ _ = true from rfl)]
          go_simp
          refine (number_any (.slice A3 rs[k].1.2.length c3) S[q] rs[k].1.2 HBK.out HTM.out w.heap.size _ (RX.out.below BB hwx) HCO.out HLE.out).mono ?_
          rw [← HNE.out]
          rintro e W7 ⟨rfl, rfl⟩
          refine hK.out _ _ (fun _ => SB) ?_
          clear hK K
          try simp only [List.setIfInBounds_toArray, List.set_cons_zero, List.set_cons_succ, Act.put]
          refine wpAnyR_one (i := 8) (by kernel_rfl) rfl (fun K hK => ?_)
          try rw [if_pos (show Region.wanted _ _ = true from rfl)]
          go_simp
          refine (add_any g p n T _ HTV.out hp24 hn64).mono ?_
          rintro e W8 ⟨rfl, ht8, ho8⟩
          have H8 := Lib.hid (And.intro ht8 ho8)
          clear ht8 ho8
          refine hK.out _ _ (fun hf => absurd hf (by decide)) ?_
          clear hK K
          try simp only [List.setIfInBounds_toArray, List.set_cons_zero, List.set_cons_succ, Act.put]
          refine wpAnyR_done (by kernel_rfl) ?_
          go_wp2_with fail
          go_roundw
          case rel => exact ⟨q + 1, by omega, by go_num, by rw [HTK.out]; exact H8.out.1, HONX.out.trans H8.out.2⟩
          case measure => simp [intOf]; omega
        · have HQ := Lib.hid (show S.take q = S by rw [show q = S.length by omega, List.take_length])
          have HTX := Lib.hid htx
          have HOX := Lib.hid (ON4.out.trans honx)
          clear htx honx
          go_wp2_with fail
          go_roundw
          case rel =>
            refine ⟨k + 1, F ++ S.map (hdOf rs[k]), by omega, by go_num, by have := HTX.out; rw [HQ.out] at this; exact this, fun f => ?_, HOX.out⟩
            rw [headsAll_snoc rs fs k hlt, setOf_mem, List.mem_append, List.mem_append, HMEM.out f, headsL_mem HW.out IS4.out hc hnd, List.mem_map]
            constructor
            · rintro (h | ⟨b, hb, e⟩)
              · exact .inl h
              · exact .inr ⟨b, hb, e.symm⟩
            · rintro (h | ⟨b, hb, e⟩)
              · exact .inl h
              · exact .inr ⟨b, hb, e.symm⟩
          case measure => simp [intOf]; omega
    · obtain rfl : k = rs.length := by omega
      have HMF := Lib.hid (show ∀ f, f ∈ F ↔ f ∈ headsAll rs fs from by have := HMEM.out; rw [List.take_length] at this; exact this)
      have RR := HR0.out.only hon (.inl (by have := HGE.out; omega))
      obtain ⟨hbk, hln, _⟩ := hat
      obtain ⟨cs, hcs⟩ : ∃ cs, cs = tabCells (tabWith zeroT F) := ⟨_, rfl⟩
      have hcz : cs.size = 24 := by rw [hcs]; simp [tabCells, hln]
      have HONE := Lib.hid (show cs.all (·.oneCell') = true from by
        rw [hcs]
        unfold tabCells
        rw [List.all_toArray, List.all_map, List.all_eq_true]
        intro x _
        rfl)
      rw [← hcs] at hbk
      have hsi : (Tryz.prog.info? 56).map (·.size) = some cs.size := by rw [hcz]; kernel_rfl
      have hold : (tabCells zeroT).size = cs.size := by rw [hcz]; rfl
      have HOLD := Lib.hid hold
      have HCS := Lib.hid hcs
      have HBE := Lib.hid BW
      have HSI := Lib.hid hsi
      have HBK := Lib.hid hbk
      have HRR := Lib.hid RR.1
      clear hcs hcz hon hmem hln hold hsi hbk RR
      go_wp2_with (first
        | (refine wpList_load_row rfl 56 _ rfl g rfl 56 cs (0, 0) _ HBK.out Tryz.underlying56 rfl HSI.out ?_)
        | (refine wpList_store_row rfl 56 _ _ rfl w.heap.size cs rfl rfl 56 (tabCells zeroT) HRR.out HSI.out HOLD.out HONE.out ?_))
      refine bodyPost_ret_by (v := .agg cs) (results_cell_row Tryz.results27 _ _ w.heap.size _ cs (0, 0) _ rfl (setRow_heap _ _ _ cs _ _ HRR.out) Tryz.underlying56 rfl HSI.out) rfl ?_
      exact ⟨F, by rw [HCS.out], HMF.out, below_setRow HBE.out (Nat.le_refl _) _⟩

end Go.Proofs.YtcceololijefiaaGreat
/-
  hasAll: a table has all of another one.
-/
namespace Go.Proofs.YtcceololijefiaaGreat
open Go.RowKit

def wordIn (T2 T : List Nat) (p : Nat) : Bool := bits .andNot .u64 ((T2.getD p 0 : Nat) : Int) ((T.getD p 0 : Nat) : Int) == 0
def tabIn (T2 T : List Nat) : Bool := (List.range 24).all (wordIn T2 T)

theorem run_index_tab {cs : Array Value} {k : Nat} {v : Value} (hk : k < 24) (hc : cs[k]? = some v) (W : World) :
    (Instr.index 56 (.agg cs) (.int .i64 (k : Int))).run Tryz.prog W = .ok v W := by
  have hks : k < cs.size := by
    rcases Nat.lt_or_ge k cs.size with h | h
    · exact h
    · rw [Array.getElem?_eq_none h] at hc; cases hc
  simp [Instr.index, run_underlying Tryz.underlying56, asIntOf, hc, go_sem]
  intro h
  omega

set_option maxHeartbeats 2000000 in
set_option maxRecDepth 100000 in
theorem hasAll_any (g : Nat) (T T2 : List Nat) (w : World) (h : TabAt w g T) (h2 : T2.length = 24) (R : Bool) (hR : R = tabIn T2 T) :
    Calls Tryz.prog 29 #[.pointer (some ⟨g, 0, none⟩), .agg (tabCells T2)] w fun e w' => e = .returned (.bool R) ∧ Below w.heap.size w w' := by
  have H := Lib.hid h
  have HR := Lib.hid hR
  have hcs : (tabCells T2).size = 24 := by simp [tabCells, h2]
  have HC := Lib.hid (fun p (hp : p < 24) => (show (tabCells T2)[p]? = some (.int .u64 ((T2.getD p 0 : Nat) : Int)) from by
    have : p < T2.length := by rw [h2]; exact hp
    simp [tabCells, this]))
  have hgl := h.1.lt
  clear h hR
  obtain ⟨cs, hcse⟩ : ∃ cs, cs = tabCells T2 := ⟨_, rfl⟩
  rw [← hcse] at hcs HC ⊢
  clear hcse
  have hsz : (Tryz.prog.info? 56).map (·.size) = some cs.size := by rw [hcs]; kernel_rfl
  go_enter Tryz.func29, Tryz.ntmps29
  go_upto_region 1 with fail
  obtain ⟨w1, hw1⟩ : ∃ w1, w1 = w.alloc (Obj.cells cs 56) := ⟨_, rfl⟩
  have X1 : Blk w1 w.heap.size 56 cs := by rw [hw1]; exact Blk.new _ _ _
  have HB1 := Lib.hid (show Below w.heap.size w w1 by rw [hw1]; exact below1 _ _)
  rw [← hw1]
  clear hw1
  go_wp2_with (refine wpList_load_row rfl 56 _ rfl w.heap.size rfl 56 cs (0, 0) _ X1 Tryz.underlying56 rfl hsz ?_)
  clear X1 hsz
  go_loopw [8] (fun i wr => ∃ k : Nat, k ≤ 24 ∧ i = .int .i64 k ∧ (∀ p, p < k → wordIn T2 T p = true) ∧ wr = w1) (fun i _ => 24 - (intOf i).toNat)
  case atStart => exact ⟨0, by omega, rfl, fun p h => absurd h (by omega), by first | rfl | trivial⟩
  case round =>
    obtain ⟨k, hk, rfl, hs, rfl⟩ := hrel
    by_cases hlt : k < 24
    · have hck := HC.out k hlt
      have hTk := (H.out.below HB1.out hgl).cell hlt
      have hki : (k : Int) < 24 := by omega
      obtain ⟨z, hz⟩ : ∃ z, z = bits .andNot .u64 ((T2.getD k 0 : Nat) : Int) ((T.getD k 0 : Nat) : Int) := ⟨_, rfl⟩
      obtain ⟨a, hae⟩ : ∃ a, a = T2.getD k 0 := ⟨_, rfl⟩
      obtain ⟨b, hbe⟩ : ∃ b, b = T.getD k 0 := ⟨_, rfl⟩
      rw [← hae] at hck hz
      rw [← hbe] at hTk hz
      have hix := fun W => run_index_tab hlt hck W
      have HZ := Lib.hid (show wordIn T2 T k = (z == 0) by unfold wordIn; rw [← hae, ← hbe, ← hz])
      have hz' : bits .andNot .u64 ((a : Nat) : Int) ((b : Nat) : Int) = z := hz.symm
      clear hz hae hbe
      have HS := Lib.hid hs
      clear hs
      by_cases h0 : z = 0
      · subst h0
        go_wp2_with fail
        go_roundw
        case rel => exact ⟨k + 1, by omega, by go_num, fun p hp => by
          by_cases e : p = k
          · subst e; rw [HZ.out]; rfl
          · exact HS.out p (by omega), by first | rfl | trivial⟩
        case measure => simp [intOf]; omega
      · have hne : (z != 0) = true := by simpa using h0
        have HE := Lib.hid (show R = false by
          rw [HR.out]
          unfold tabIn
          rw [List.all_eq_false]
          exact ⟨k, List.mem_range.2 hlt, by rw [HZ.out]; simpa using h0⟩)
        go_wp2_with fail
        go_ret
        exact ⟨ret_bool HE.out.symm, HB1.out⟩
    · have HE := Lib.hid (show R = true by
        rw [HR.out]
        unfold tabIn
        rw [List.all_eq_true]
        intro p hp
        exact hs p (by have := List.mem_range.1 hp; omega))
      clear hs
      go_wp2_with fail
      go_ret
      exact ⟨ret_bool HE.out.symm, HB1.out⟩

end Go.Proofs.YtcceololijefiaaGreat
/-
  The walk of the program's FactsOk.
-/
namespace Go.Proofs.YtcceololijefiaaGreat
open Go.RowKit

set_option maxHeartbeats 1000000 in
set_option maxRecDepth 100000 in
theorem implFactsOk_any (v v2 : Value) (ar : List Int) (fs : List LFact) (w : World) (h : RdInts w w.heap.size v ar) (h2 : RdFacts w w.heap.size v2 fs) (hr : ar.length ≤ 1048576) (hn : fs.length ≤ 1048576) (ht : tot fs ≤ 1048576) :
    Calls Tryz.prog 26 #[v, v2] w fun e w' => e = .returned (.bool (factsOk ar fs)) ∧ Below w.heap.size w w' := by
  have H := Lib.hid h
  have H2 := Lib.hid h2
  obtain ⟨A, c, rfl, hc, _⟩ := h
  obtain ⟨A2, c2, rfl, hc2, _⟩ := h2
  go_enter Tryz.func26, Tryz.ntmps26
  go_wp2_with (fail)
  refine (arityOk_any _ ar _ H.out (by omega)).mono ?_
  rintro e w1 ⟨rfl, hb1⟩
  by_cases ha : arityOk ar = true
  · rw [ha]
    have HA := Lib.hid ha
    clear ha
    go_wp2_with (fail)
    go_loopw [5, 6, 12] (fun _ _ i wr => ∃ k : Nat, k ≤ fs.length ∧ i = .int .i64 k ∧ OkTo ar fs k ∧ Below w.heap.size w wr) (fun _ _ i _ => fs.length - (intOf i).toNat)
    case atStart => exact ⟨0, Nat.zero_le _, rfl, by simp [OkTo], hb1⟩
    case round =>
      obtain ⟨k, hk, rfl, hs, hbe⟩ := hrel
      by_cases hlt : k < fs.length
      · obtain ⟨b, o, A3, c3, rfl, hbB, k1, k2, k3⟩ := (H2.out.on hbe).get hlt
        have K3 := Lib.hid (show RdFact wr wr.heap.size (.agg #[.int .i64 fs[k].1, .slice A3 fs[k].2.length c3]) fs[k] from ⟨_, rfl, k3⟩)
        have hln := len_le_tot fs k hlt
        clear k3
        go_wp2_with (fail)
        obtain ⟨w2, hw2⟩ : ∃ w2, w2 = wr.alloc (Obj.cells #[Value.int IntKind.i64 fs[k].1, Value.slice A3 fs[k].2.length c3] 52) := ⟨_, rfl⟩
        have B2 : Below wr.heap.size wr w2 := by rw [hw2]; exact below1 _ _
        have x2 : Blk w2 wr.heap.size 52 #[.int .i64 fs[k].1, .slice A3 fs[k].2.length c3] := by rw [hw2]; exact Blk.new _ _ _
        rw [← hw2]
        clear hw2
        refine (factFits_any _ _ ar fs[k] _ ((H.out.on hbe).on B2) (K3.out.on B2) (by omega)).mono ?_
        rintro e w3 ⟨rfl, hb3⟩
        have B3 := bthen B2 hb3
        have BW3 := bthen hbe B3
        have x3 := x2.below hb3 x2.lt
        by_cases hff : factFits ar fs[k] = true
        · rw [hff]
          rcases Nat.eq_zero_or_pos k with hk0 | hk0
          · have hd : decide (0 < k) = false := by simp [hk0]
            have HS := Lib.hid (hs.step (round_first hlt hff hk0) : OkTo ar fs (k + 1))
            clear hs hk0 hff
            go_wp2_with (fail)
            refine wp_region_later (by kernel_rfl) (by kernel_rfl) ?_
            repeat (go_big_quiet_step (fail))
            refine wpQuiet_nil ?_
            rintro _ ⟨xq, rfl⟩
            go_wp2_with (fail)
            go_roundw
            case rel => exact ⟨k + 1, by omega, by go_num, HS.out, bthen BW3 xq.2⟩
            case measure => simp [intOf]; omega
          · obtain ⟨j, rfl⟩ : ∃ j, k = j + 1 := ⟨k - 1, by omega⟩
            have hltj : j < fs.length := by omega
            obtain ⟨b', o', A4, c4, e4, hbB', m1, m2, m3⟩ := (H2.out.on BW3).get hltj
            simp only [Option.some.injEq, Addr.mk.injEq, and_true] at e4
            obtain ⟨rfl, rfl⟩ := e4
            have K4 := Lib.hid (show RdFact w3 w3.heap.size (.agg #[.int .i64 fs[j].1, .slice A4 fs[j].2.length c4]) fs[j] from ⟨_, rfl, m3⟩)
            have hlnj := len_le_tot fs j hltj
            have M1 := later_cell m1
            have M2 := later_cell m2
            have X0 := later_cell (x3.cell 0 : w3.cell? ⟨wr.heap.size, 0, none⟩ = some (.int .i64 fs[j + 1].1))
            have X1 := later_cell (x3.cell 1 : w3.cell? ⟨wr.heap.size, 1, none⟩ = some (.slice A3 fs[j + 1].2.length c3))
            have CO := Lib.hid (fun x : Later w3 => implFactOrder_any _ _ fs[j] fs[j + 1] x.val (K4.out.on x.2) ((K3.out.on B3).on x.2) (by omega) (by omega))
            clear m1 m2 m3 k1 k2
            by_cases hlo : factOrder fs[j] fs[j + 1] < 0
            · have hd : decide (0 ≤ factOrder fs[j] fs[j + 1]) = false := by simp; omega
              have HS := Lib.hid (hs.step (by rw [round_next hlt hltj hff]; simp [hlo]) : OkTo ar fs (j + 1 + 1))
              clear hs hff
              go_wp2_with (fail)
              refine wp_region_later (by kernel_rfl) (by kernel_rfl) ?_
              repeat (go_big_quiet_step ((go_at_call 45; exact later_of (CO.out _))))
              refine wpQuiet_nil ?_
              rintro _ ⟨xq, rfl⟩
              go_wp2_with (fail)
              go_roundw
              case rel => exact ⟨j + 1 + 1, by omega, by go_num, HS.out, bthen BW3 xq.2⟩
              case measure => simp [intOf]; omega
            · have hd : decide (0 ≤ factOrder fs[j] fs[j + 1]) = true := by simp; omega
              have HE := Lib.hid (show factsOk ar fs = false from round_not hlt (by rw [round_next hlt hltj hff]; simp [hlo]))
              clear hs hff
              go_wp2_with (fail)
              refine wp_region_later (by kernel_rfl) (by kernel_rfl) ?_
              repeat (go_big_quiet_step ((go_at_call 45; exact later_of (CO.out _))))
              refine wpQuiet_nil ?_
              rintro _ ⟨xq, rfl⟩
              go_wp2_with (fail)
              go_ret
              exact ⟨ret_bool HE.out.symm, bthen BW3 xq.2⟩
        · have HE := Lib.hid (show factsOk ar fs = false from round_not hlt (round_unfit hlt (by simpa using hff)))
          rw [show factFits ar fs[k] = false by simpa using hff]
          clear hs hff
          go_wp2_with (fail)
          go_ret
          exact ⟨ret_bool HE.out.symm, BW3⟩
      · have hkn : k = fs.length := by omega
        have HE := Lib.hid (show factsOk ar fs = true by unfold factsOk; unfold OkTo at hs; rw [← hkn, hs, HA.out]; rfl)
        clear hkn hs
        go_wp2_with (fail)
        go_ret
        exact ⟨ret_bool HE.out.symm, hbe⟩
  · have HE := Lib.hid (show factsOk ar fs = false by simp [factsOk, ha])
    rw [show arityOk ar = false by simpa using ha]
    clear ha
    go_wp2_with (fail)
    go_ret
    exact ⟨ret_bool HE.out.symm, hb1⟩

end Go.Proofs.YtcceololijefiaaGreat
/-
  The program's Closed, by its tables.
-/
namespace Go.Proofs.YtcceololijefiaaGreat
open Go.RowKit

/-- What the program's Closed answers. -/
def ClosedT (p : LProg) (fs : List LFact) (R : Bool) : Prop := ((progOk p && factsOk p.1 fs) = false ∧ R = false) ∨ ((progOk p && factsOk p.1 fs) = true ∧ ∃ F, (∀ f, f ∈ F ↔ f ∈ headsAll p.2 fs) ∧ R = tabIn (tabWith zeroT F) (tabWith zeroT fs))

theorem tabWith_len (T : List Nat) (fs : List LFact) : (tabWith T fs).length = T.length := by
  induction fs generalizing T with
  | nil => rfl
  | cons f fs ih =>
    show (tabWith (setBit T f.1.toNat (numF f.2)) fs).length = _
    rw [ih]
    simp [setBit]
theorem tabCells_one (T : List Nat) : (tabCells T).all (·.oneCell') = true := by
  unfold tabCells
  rw [List.all_toArray, List.all_map, List.all_eq_true]
  intro x _
  rfl

set_option maxHeartbeats 4000000 in
set_option maxRecDepth 100000 in
theorem implClosedT_any (v v2 : Value) (p : LProg) (fs : List LFact) (w : World) (h : RdProg w w.heap.size v p) (h2 : RdFacts w w.heap.size v2 fs) (hs : szP p ≤ 1048576) (hn : fs.length ≤ 1048576) (ht : tot fs ≤ 1048576) :
    Calls Tryz.prog 10 #[v, v2] w fun e w' => ∃ R, e = .returned (.bool R) ∧ ClosedT p fs R ∧ Below w.heap.size w w' := by
  have HP := Lib.hid h
  have H2 := Lib.hid h2
  have hs' := hs
  unfold szP at hs'
  obtain ⟨a, b, rfl, hA, hR⟩ := h
  have HA := Lib.hid hA
  have HR := Lib.hid hR
  obtain ⟨A, c, rfl, hcA, _⟩ := hA
  obtain ⟨A2, c2, rfl, hcR, _⟩ := hR
  obtain ⟨A3, c3, rfl, hcF, _⟩ := h2
  obtain ⟨po, hpo⟩ : ∃ po, po = progOk p := ⟨_, rfl⟩
  obtain ⟨fo, hfo⟩ : ∃ fo, fo = factsOk p.1 fs := ⟨_, rfl⟩
  go_enter Tryz.func10, Tryz.ntmps10
  go_upto_region 1 with fail
  obtain ⟨w1, hw1⟩ : ∃ w1, w1 = w.alloc (Obj.cells #[Value.slice A p.1.length c, Value.slice A2 p.2.length c2] 32) := ⟨_, rfl⟩
  have X1 : Blk w1 w.heap.size 32 #[.slice A p.1.length c, .slice A2 p.2.length c2] := by rw [hw1]; exact Blk.new _ _ _
  have B1 : Below w.heap.size w w1 := by rw [hw1]; exact below1 _ _
  rw [← hw1]
  clear hw1
  have x0 : w1.cell? ⟨w.heap.size, 0, none⟩ = some (.slice A p.1.length c) := X1.cell 0
  have x1 : w1.cell? ⟨w.heap.size, 1, none⟩ = some (.slice A2 p.2.length c2) := X1.cell 1
  have CP := Lib.hid ((implProgramOk_any _ p w1 (HP.out.on B1) hs).mono fun e w' (hh : e = .returned (.bool (progOk p)) ∧ Below w1.heap.size w1 w') => (⟨by rw [hh.1, hpo], hh.2⟩ : e = .returned (.bool po) ∧ Below w1.heap.size w1 w'))
  have CF := Lib.hid (fun W (hW : Below w.heap.size w W) => (implFactsOk_any _ _ p.1 fs W (HA.out.on hW) (H2.out.on hW) (by omega) (by omega) (by omega)).mono fun e w' (hh : e = .returned (.bool (factsOk p.1 fs)) ∧ Below W.heap.size W w') => (⟨by rw [hh.1, hfo], hh.2⟩ : e = .returned (.bool fo) ∧ Below W.heap.size W w'))
  have HPO := Lib.hid hpo
  have HFO := Lib.hid hfo
  have HX1 := Lib.hid X1
  clear hpo hfo X1
  cases po
  · go_wp2_with (go_at_call 25; refine CP.out.mono ?_; rintro e w2 ⟨rfl, b2⟩; have B2 := Lib.hid (bthen B1 b2); clear b2)
    go_ret
    exact ⟨false, rfl, .inl ⟨by rw [← HPO.out]; rfl, rfl⟩, B2.out⟩
  · cases fo
    · go_wp2_with (first
        | (go_at_call 25; refine CP.out.mono ?_; rintro e w2 ⟨rfl, b2⟩; have B2 := Lib.hid (bthen B1 b2)
           have x20 : w2.cell? ⟨w.heap.size, 0, none⟩ = some (.slice A p.1.length c) := (HX1.out.below b2 HX1.out.lt).cell 0
           clear b2)
        | (go_at_call 26; refine (CF.out _ B2.out).mono ?_; rintro e w3 ⟨rfl, b3⟩; have B3 := Lib.hid (bthen B2.out b3); clear b3))
      go_ret
      exact ⟨false, rfl, .inl ⟨by rw [← HFO.out, Bool.and_false], rfl⟩, B3.out⟩
    · obtain ⟨har, hrl, hfit⟩ := prog_parts HPO.out.symm
      obtain ⟨_, hff, hasc⟩ := factsOk_parts HFO.out.symm
      have CA := Lib.hid (fun W (hW : Below w.heap.size w W) => headsIn_any (.slice A2 p.2.length c2) (.slice A3 fs.length c3) p.1 p.2 fs W (HR.out.on hW) (H2.out.on hW) har hfit (by omega) (by omega) (by omega) (by omega) (fun f hf => (fits_parts (hff f hf)).2) (asc_nodup hasc))
      have HTF := Lib.hid (show ∀ f ∈ fs, TabFact f from fun f hf => by
        have h1 := fits_parts (hff f hf)
        have h2 : p.1.length ≤ 24 := by simp only [arityOk, Bool.and_eq_true, decide_eq_true_eq] at har; exact har.1
        exact ⟨h1.1.1, by omega, h1.2, fits_short har (hff f hf)⟩)
      clear har hrl hfit hff hasc
      go_upto_region 4 with (first
        | (go_at_call 25; refine CP.out.mono ?_; rintro e w2 ⟨rfl, b2⟩; have B2 := Lib.hid (bthen B1 b2)
           have HX2 := Lib.hid (HX1.out.below b2 HX1.out.lt)
           have x20 : w2.cell? ⟨w.heap.size, 0, none⟩ = some (.slice A p.1.length c) := HX2.out.cell 0
           clear b2)
        | (go_at_call 26; refine (CF.out _ B2.out).mono ?_; rintro e w3 ⟨rfl, b3⟩; have B3 := Lib.hid (bthen B2.out b3)
           have x31 : w3.cell? ⟨w.heap.size, 1, none⟩ = some (.slice A2 p.2.length c2) := (HX2.out.below b3 HX2.out.lt).cell 1
           clear b3)
        | (go_at_call 27; refine (CA.out _ B3.out).mono ?_; rintro e w4 ⟨F, rfl, hF, b4⟩; have B4 := Lib.hid (bthen B3.out b4)
           have HF := Lib.hid hF
           obtain ⟨cs, hcs⟩ : ∃ cs, cs = tabCells (tabWith zeroT F) := ⟨_, rfl⟩
           rw [← hcs]
           have HCZ := Lib.hid (show cs.size = 24 by rw [hcs]; simp [tabCells, tabWith_len, zeroT])
           have HONE := Lib.hid (show cs.all (·.oneCell') = true by rw [hcs]; exact tabCells_one _)
           have HSI := Lib.hid (show (Tryz.prog.info? 56).map (·.size) = some cs.size by rw [HCZ.out]; kernel_rfl)
           have HCS := Lib.hid hcs
           clear hF b4 hcs)
        | (refine wpList_store_row rfl 56 _ _ rfl w4.heap.size cs rfl rfl 56 _ (heap_alloc_new w4 _) HSI.out (by rw [HCZ.out]; rfl) HONE.out ?_))
      go_upto_region 5 with fail
      obtain ⟨zs, hzs⟩ : ∃ zs, zs = (#[Value.int IntKind.u64 0, Value.int IntKind.u64 0, Value.int IntKind.u64 0, Value.int IntKind.u64 0, Value.int IntKind.u64 0, Value.int IntKind.u64 0, Value.int IntKind.u64 0, Value.int IntKind.u64 0, Value.int IntKind.u64 0, Value.int IntKind.u64 0, Value.int IntKind.u64 0, Value.int IntKind.u64 0, Value.int IntKind.u64 0, Value.int IntKind.u64 0, Value.int IntKind.u64 0, Value.int IntKind.u64 0, Value.int IntKind.u64 0, Value.int IntKind.u64 0, Value.int IntKind.u64 0, Value.int IntKind.u64 0, Value.int IntKind.u64 0, Value.int IntKind.u64 0, Value.int IntKind.u64 0, Value.int IntKind.u64 0] : Array Value) := ⟨_, rfl⟩
      have hzt : zs = tabCells zeroT := by rw [hzs]; rfl
      rw [← hzs]
      clear hzs
      obtain ⟨w5, hw5⟩ : ∃ w5, w5 = (w4.alloc (Obj.cells zs 56)).setRow w4.heap.size cs := ⟨_, rfl⟩
      have X5 : Blk w5 w4.heap.size 56 cs := by rw [hw5]; exact setRow_heap _ _ _ cs _ _ (heap_alloc_new w4 _)
      have b5 : Below w4.heap.size w4 w5 := by rw [hw5]; exact below_setRow (below1 _ _) (Nat.le_refl _) _
      have hs5 : w5.heap.size = w4.heap.size + 1 := by rw [hw5]; simp
      rw [← hw5]
      clear hw5
      obtain ⟨w6, hw6⟩ : ∃ w6, w6 = w5.alloc (Obj.cells zs 56) := ⟨_, rfl⟩
      have T6 : TabAt w6 (w4.heap.size + 1) zeroT := by rw [hw6, hzt, ← hs5]; exact TabAt.zero _
      have b6 : Below w5.heap.size w5 w6 := by rw [hw6]; exact below1 _ _
      rw [← hw6]
      clear hw6 hzt
      have X6 := Lib.hid (X5.below b6 X5.lt)
      have B6 := Lib.hid (bthen B4.out (bthen b5 b6))
      have hw4 := B4.out.size
      have HRF := Lib.hid (show RdFacts w6 w.heap.size (.slice A3 fs.length c3) fs from H2.out.below B6.out (Nat.le_refl _))
      have HADD := Lib.hid (addAll_any (w4.heap.size + 1) w.heap.size zeroT (.slice A3 fs.length c3) fs w6 T6 HRF.out (by omega) HTF.out hn)
      clear X5 b5 b6 hs5 T6
      go_wp2_with (first
        | (go_at_call 28; refine HADD.out.mono ?_; rintro e w7 ⟨rfl, t7, o7⟩
           have X7 := Lib.hid (X6.out.only o7 (.inl (Nat.lt_succ_self _)))
           have HHA := Lib.hid (show Calls Tryz.prog 29 #[.pointer (some ⟨w4.heap.size + 1, 0, none⟩), .agg cs] w7 fun e w' => e = .returned (.bool (tabIn (tabWith zeroT F) (tabWith zeroT fs))) ∧ Below w7.heap.size w7 w' from by rw [HCS.out]; exact hasAll_any _ _ _ w7 t7 (by simp [tabWith_len, zeroT]) _ rfl)
           have B7 := Lib.hid (Only.then_ B6.out o7 (by omega))
           clear t7 o7)
        | (refine wpList_load_row rfl 56 _ rfl w4.heap.size rfl 56 cs (0, 0) _ X7.out Tryz.underlying56 rfl HSI.out ?_)
        | (go_at_call 29; refine HHA.out.mono ?_; rintro e w8 ⟨rfl, b8⟩; have B8 := Lib.hid (bthen B7.out b8); clear b8))
      go_ret
      exact ⟨_, rfl, .inr ⟨by rw [← HPO.out, ← HFO.out]; rfl, F, HF.out, rfl⟩, B8.out⟩

end Go.Proofs.YtcceololijefiaaGreat
/-
  Tables by their bits: one table stands in another as its facts do.
-/
namespace Go.Proofs.YtcceololijefiaaGreat
open Go.RowKit

theorem setBit_bit {T : List Nat} {p q m n : Nat} (hp : p < T.length) : ((setBit T q m).getD p 0).testBit n = true ↔ (T.getD p 0).testBit n = true ∨ (q = p ∧ m = n) := by
  unfold setBit
  by_cases e : q = p
  · subst e
    have h1 : (T.set q (T.getD q 0 ||| 2 ^ m)).getD q 0 = T.getD q 0 ||| 2 ^ m := by simp [List.getD_eq_getElem?_getD, hp]
    rw [h1, Nat.testBit_or, Bool.or_eq_true, Nat.testBit_two_pow, decide_eq_true_eq]
    simp
  · have h1 : (T.set q (T.getD q 0 ||| 2 ^ m)).getD p 0 = T.getD p 0 := by simp [List.getD_eq_getElem?_getD, List.getElem?_set_ne e]
    rw [h1]
    simp [e]
theorem tabWith_bit {p n : Nat} : ∀ (fs : List LFact) (T : List Nat), p < T.length → (((tabWith T fs).getD p 0).testBit n = true ↔ (T.getD p 0).testBit n = true ∨ ∃ f ∈ fs, f.1.toNat = p ∧ numF f.2 = n)
  | [], T, _ => by simp [tabWith]
  | f :: fs, T, hp => by
    have e : tabWith T (f :: fs) = tabWith (setBit T f.1.toNat (numF f.2)) fs := rfl
    rw [e, tabWith_bit fs _ (by simpa [setBit] using hp), setBit_bit hp]
    constructor
    · rintro ((h | h) | ⟨g, hg, h⟩)
      · exact .inl h
      · exact .inr ⟨f, List.mem_cons_self .., h⟩
      · exact .inr ⟨g, List.mem_cons_of_mem _ hg, h⟩
    · rintro (h | ⟨g, hg, h⟩)
      · exact .inl (.inl h)
      · rcases List.mem_cons.1 hg with rfl | hg
        · exact .inl (.inr h)
        · exact .inr ⟨g, hg, h⟩
theorem zero_bit {p n : Nat} : (zeroT.getD p 0).testBit n = false := by
  have : zeroT.getD p 0 = 0 := by
    by_cases hp : p < zeroT.length
    · rw [getD_at hp]
      exact (List.mem_replicate.1 (List.getElem_mem hp)).2
    · simp [List.getD_eq_getElem?_getD, List.getElem?_eq_none (by omega : zeroT.length ≤ p)]
  rw [this, Nat.zero_testBit]
theorem numF_inj {xs ys : List Int} (hx : xs.all constOk = true) (hy : ys.all constOk = true) (hl : xs.length = ys.length) (h2 : xs.length ≤ 2) (e : numF xs = numF ys) : xs = ys := by
  rcases xs with _ | ⟨x, _ | ⟨y, _ | ⟨z, xs⟩⟩⟩ <;> rcases ys with _ | ⟨x', _ | ⟨y', _ | ⟨z', ys⟩⟩⟩ <;> (try (simp at hl; done)) <;> (try (simp at h2; done))
  · rfl
  · simp only [List.all_cons, List.all_nil, Bool.and_true] at hx hy
    have := const_range hx
    have := const_range hy
    simp [numF] at e
    simp; omega
  · simp only [List.all_cons, List.all_nil, Bool.and_true, Bool.and_eq_true] at hx hy
    have := const_range hx.1
    have := const_range hx.2
    have := const_range hy.1
    have := const_range hy.2
    simp [numF] at e
    simp; omega
/-- A fact's bit tells the fact. -/
theorem fact_of_bit {ar : List Int} {f g : LFact} (ha : arityOk ar = true) (hf : factFits ar f = true) (hg : factFits ar g = true) (e1 : f.1.toNat = g.1.toNat) (e2 : numF f.2 = numF g.2) : f = g := by
  obtain ⟨⟨h0, _, hl⟩, hc⟩ := fits_parts hf
  obtain ⟨⟨h0', _, hl'⟩, hc'⟩ := fits_parts hg
  have e : f.1 = g.1 := by omega
  rw [← e] at hl'
  exact Prod.ext e (numF_inj hc hc' (by omega) (fits_short ha hf) e2)

end Go.Proofs.YtcceololijefiaaGreat
/-
  What the program's Closed answers by its tables is what the specification's answers.
-/
namespace Go.Proofs.YtcceololijefiaaGreat
open Go.RowKit

theorem word_in {a b : Nat} (ha : a < 18446744073709551616) (hb : b < 18446744073709551616) : (bits .andNot .u64 (a : Int) (b : Int) == 0) = true ↔ ∀ n, a.testBit n = true → b.testBit n = true := by
  have e : (18446744073709551615 - b : Nat) = 2 ^ 64 - (b + 1) := by omega
  have hb' : b < 2 ^ 64 := hb
  rw [u64_andNot_nat a b ha hb, beq_iff_eq, e]
  constructor
  · intro h n hn
    have h0 : a &&& (2 ^ 64 - (b + 1)) = 0 := by exact_mod_cast h
    have h1 := congrArg (fun y => y.testBit n) h0
    simp only [Nat.testBit_and, Nat.zero_testBit, hn, Bool.true_and, Nat.testBit_two_pow_sub_succ hb'] at h1
    have hlt : n < 64 := by
      apply Classical.byContradiction
      intro h64
      have h2 := Nat.ge_two_pow_of_testBit hn
      have h3 : (2 : Nat) ^ 64 ≤ 2 ^ n := Nat.pow_le_pow_right (by decide) (by omega)
      omega
    simpa [hlt] using h1
  · intro h
    have h0 : a &&& (2 ^ 64 - (b + 1)) = 0 := by
      apply Nat.eq_of_testBit_eq
      intro n
      rw [Nat.testBit_and, Nat.zero_testBit, Nat.testBit_two_pow_sub_succ hb']
      cases hn : a.testBit n
      · rfl
      · rw [h n hn]
        simp
    rw [h0]
    rfl
theorem setBit_lt {T : List Nat} {p n : Nat} (h : ∀ x ∈ T, x < 18446744073709551616) (hn : n < 64) : ∀ x ∈ setBit T p n, x < 18446744073709551616 := by
  intro x hx
  rcases List.mem_or_eq_of_mem_set hx with h4 | rfl
  · exact h x h4
  · refine Nat.or_lt_two_pow (n := 64) ?_ (Nat.pow_lt_pow_right (by decide) hn)
    by_cases hp : p < T.length
    · rw [getD_at hp]
      exact h _ (List.getElem_mem hp)
    · simp [List.getD_eq_getElem?_getD, List.getElem?_eq_none (by omega : T.length ≤ p)]
theorem tabWith_lt : ∀ (fs : List LFact) (T : List Nat), (∀ x ∈ T, x < 18446744073709551616) → (∀ f ∈ fs, numF f.2 < 64) → ∀ x ∈ tabWith T fs, x < 18446744073709551616
  | [], _, h, _ => h
  | f :: fs, T, h, hf => tabWith_lt fs (setBit T f.1.toNat (numF f.2)) (setBit_lt h (hf f (List.mem_cons_self ..))) (fun g hg => hf g (List.mem_cons_of_mem _ hg))
theorem word_lt {T : List Nat} {p : Nat} (h : ∀ x ∈ T, x < 18446744073709551616) : T.getD p 0 < 18446744073709551616 := by
  by_cases hp : p < T.length
  · rw [getD_at hp]
    exact h _ (List.getElem_mem hp)
  · simp [List.getD_eq_getElem?_getD, List.getElem?_eq_none (by omega : T.length ≤ p)]
theorem zeroT_lt : ∀ x ∈ zeroT, x < 18446744073709551616 := fun x hx => by
  obtain ⟨_, rfl⟩ := List.mem_replicate.1 hx
  decide

theorem pickL_in (a b : List LFact) (t : Bool) (f : LFact) : f ∈ pickL a b t ↔ f ∈ a ∧ decide (f ∈ b) = t := by
  unfold pickL
  rw [setOf_mem, List.mem_filter, factsHas_in]
  simp

/-- One table of facts stands in another as its facts do. -/
theorem tabIn_facts {ar : List Int} (ha : arityOk ar = true) {F fs : List LFact} (hF : ∀ f ∈ F, factFits ar f = true) (hf : ∀ f ∈ fs, factFits ar f = true) : tabIn (tabWith zeroT F) (tabWith zeroT fs) = true ↔ ∀ f ∈ F, f ∈ fs := by
  have hl : ar.length ≤ 24 := by simp only [arityOk, Bool.and_eq_true, decide_eq_true_eq] at ha; exact ha.1
  have h64 : ∀ f, factFits ar f = true → numF f.2 < 64 := fun f h => numF_64 (fits_parts h).2 (fits_short ha h)
  have hz : ∀ p : Nat, p < 24 → p < zeroT.length := fun p hp => by simpa [zeroT] using hp
  unfold tabIn
  rw [List.all_eq_true]
  have hw : ∀ p, p < 24 → (wordIn (tabWith zeroT F) (tabWith zeroT fs) p = true ↔ ∀ n, (∃ f ∈ F, f.1.toNat = p ∧ numF f.2 = n) → ∃ f ∈ fs, f.1.toNat = p ∧ numF f.2 = n) := fun p hp => by
    unfold wordIn
    rw [word_in (word_lt (tabWith_lt F _ zeroT_lt fun f h => h64 f (hF f h))) (word_lt (tabWith_lt fs _ zeroT_lt fun f h => h64 f (hf f h)))]
    simp only [tabWith_bit _ _ (hz p hp), zero_bit, Bool.false_eq_true, false_or]
  constructor
  · intro h f hm
    have hp := (fits_parts (hF f hm)).1
    have h1 := (hw f.1.toNat (by omega)).1 (h _ (List.mem_range.2 (by omega))) (numF f.2) ⟨f, hm, rfl, rfl⟩
    obtain ⟨g, hg, e1, e2⟩ := h1
    rw [fact_of_bit ha (hF f hm) (hf g hg) e1.symm e2.symm]
    exact hg
  · intro h p hp
    rw [hw p (List.mem_range.1 hp)]
    rintro n ⟨f, hm, e⟩
    exact ⟨f, h f hm, e⟩

theorem closedT_eq {p : LProg} {fs : List LFact} {R : Bool} (h : ClosedT p fs R) : R = closedL p fs := by
  rcases h with ⟨h1, rfl⟩ | ⟨h1, F, hF, rfl⟩
  · unfold closedL
    rw [← Bool.and_assoc, h1, Bool.false_and]
  · rw [Bool.and_eq_true] at h1
    obtain ⟨har, _, hfit⟩ := prog_parts h1.1
    obtain ⟨_, hff, _⟩ := factsOk_parts h1.2
    unfold closedL
    rw [h1.1, h1.2, Bool.true_and, Bool.true_and, Bool.eq_iff_iff, tabIn_facts har (fun f h => headsAll_fits fs hfit f ((hF f).1 h)) hff, decide_eq_true_eq, List.length_eq_zero_iff, List.eq_nil_iff_forall_not_mem]
    constructor
    · intro h f hm
      rw [pickL_in] at hm
      have := h f ((hF f).2 hm.1)
      simp [this] at hm
    · intro h f hm
      apply Classical.byContradiction
      intro hn
      exact h f ((pickL_in _ _ _ _).2 ⟨(hF f).1 hm, by simpa using hn⟩)

theorem implClosed_any (v v2 : Value) (p : LProg) (fs : List LFact) (w : World) (h : RdProg w w.heap.size v p) (h2 : RdFacts w w.heap.size v2 fs) (hs : szP p ≤ 1048576) (hn : fs.length ≤ 1048576) (ht : tot fs ≤ 1048576) :
    Calls Tryz.prog 10 #[v, v2] w fun e w' => e = .returned (.bool (closedL p fs)) ∧ Below w.heap.size w w' :=
  (implClosedT_any v v2 p fs w h h2 hs hn ht).mono fun _ _ ⟨_, he, hR, hb⟩ => ⟨by rw [he, closedT_eq hR], hb⟩

end Go.Proofs.YtcceololijefiaaGreat
/-
  The program's Supported, by its tables.
-/
namespace Go.Proofs.YtcceololijefiaaGreat
open Go.RowKit

/-- What the program's Supported answers. -/
def SupT (p : LProg) (db fs : List LFact) (R : Bool) : Prop := ((progOk p && (factsOk p.1 db && factsOk p.1 fs)) = false ∧ R = false) ∨ ((progOk p && (factsOk p.1 db && factsOk p.1 fs)) = true ∧ ∃ F, (∀ f, f ∈ F ↔ f ∈ headsAll p.2 fs) ∧ R = tabIn (tabWith zeroT fs) (tabWith (tabWith zeroT F) db))

theorem tabWith_lt64 : ∀ (fs : List LFact) (T : List Nat), (∀ x ∈ T, x < 18446744073709551616) → (∀ f ∈ fs, numF f.2 < 64) → ∀ x ∈ tabWith T fs, x < 18446744073709551616
  | [], _, h, _ => h
  | f :: fs, T, h, hf => by
    refine tabWith_lt64 fs (setBit T f.1.toNat (numF f.2)) ?_ (fun g hg => hf g (List.mem_cons_of_mem _ hg))
    intro x hx
    rcases List.mem_or_eq_of_mem_set hx with h4 | rfl
    · exact h x h4
    · refine Nat.or_lt_two_pow (n := 64) ?_ (Nat.pow_lt_pow_right (by decide) (hf f (List.mem_cons_self ..)))
      by_cases hp : f.1.toNat < T.length
      · rw [getD_at hp]
        exact h _ (List.getElem_mem hp)
      · simp [List.getD_eq_getElem?_getD, List.getElem?_eq_none (by omega : T.length ≤ f.1.toNat)]

theorem zeroT_lt' : ∀ x ∈ zeroT, x < 18446744073709551616 := fun x hx => by
  obtain ⟨_, rfl⟩ := List.mem_replicate.1 hx
  decide

set_option maxHeartbeats 4000000 in
set_option maxRecDepth 100000 in
theorem implSupT_any (v v2 v3 : Value) (p : LProg) (db fs : List LFact) (w : World) (h : RdProg w w.heap.size v p) (h2 : RdFacts w w.heap.size v2 db) (h3 : RdFacts w w.heap.size v3 fs) (hs : szP p ≤ 1048576) (hn : fs.length ≤ 1048576) (ht : tot fs ≤ 1048576) (hnd : db.length ≤ 1048576) (htd : tot db ≤ 1048576) :
    Calls Tryz.prog 14 #[v, v2, v3] w fun e w' => ∃ R, e = .returned (.bool R) ∧ SupT p db fs R ∧ Below w.heap.size w w' := by
  have HP := Lib.hid h
  have H2 := Lib.hid h2
  have H3 := Lib.hid h3
  have hs' := hs
  unfold szP at hs'
  obtain ⟨a, b, rfl, hA, hR⟩ := h
  have HA := Lib.hid hA
  have HR := Lib.hid hR
  obtain ⟨A, c, rfl, hcA, _⟩ := hA
  obtain ⟨A2, c2, rfl, hcR, _⟩ := hR
  obtain ⟨Ad, cd, rfl, hcD, _⟩ := h2
  obtain ⟨A3, c3, rfl, hcF, _⟩ := h3
  obtain ⟨po, hpo⟩ : ∃ po, po = progOk p := ⟨_, rfl⟩
  obtain ⟨dO, hdo⟩ : ∃ dO, dO = factsOk p.1 db := ⟨_, rfl⟩
  obtain ⟨fo, hfo⟩ : ∃ fo, fo = factsOk p.1 fs := ⟨_, rfl⟩
  go_enter Tryz.func14, Tryz.ntmps14
  go_upto_region 1 with fail
  obtain ⟨w1, hw1⟩ : ∃ w1, w1 = w.alloc (Obj.cells #[Value.slice A p.1.length c, Value.slice A2 p.2.length c2] 32) := ⟨_, rfl⟩
  have X1 : Blk w1 w.heap.size 32 #[.slice A p.1.length c, .slice A2 p.2.length c2] := by rw [hw1]; exact Blk.new _ _ _
  have B1 : Below w.heap.size w w1 := by rw [hw1]; exact below1 _ _
  rw [← hw1]
  clear hw1
  have x0 : w1.cell? ⟨w.heap.size, 0, none⟩ = some (.slice A p.1.length c) := X1.cell 0
  have x1 : w1.cell? ⟨w.heap.size, 1, none⟩ = some (.slice A2 p.2.length c2) := X1.cell 1
  have CP := Lib.hid ((implProgramOk_any _ p w1 (HP.out.on B1) hs).mono fun e w' (hh : e = .returned (.bool (progOk p)) ∧ Below w1.heap.size w1 w') => (⟨by rw [hh.1, hpo], hh.2⟩ : e = .returned (.bool po) ∧ Below w1.heap.size w1 w'))
  have CD := Lib.hid (fun W (hW : Below w.heap.size w W) => (implFactsOk_any _ _ p.1 db W (HA.out.on hW) (H2.out.on hW) (by omega) (by omega) (by omega)).mono fun e w' (hh : e = .returned (.bool (factsOk p.1 db)) ∧ Below W.heap.size W w') => (⟨by rw [hh.1, hdo], hh.2⟩ : e = .returned (.bool dO) ∧ Below W.heap.size W w'))
  have CF := Lib.hid (fun W (hW : Below w.heap.size w W) => (implFactsOk_any _ _ p.1 fs W (HA.out.on hW) (H3.out.on hW) (by omega) (by omega) (by omega)).mono fun e w' (hh : e = .returned (.bool (factsOk p.1 fs)) ∧ Below W.heap.size W w') => (⟨by rw [hh.1, hfo], hh.2⟩ : e = .returned (.bool fo) ∧ Below W.heap.size W w'))
  have HPO := Lib.hid hpo
  have HDO := Lib.hid hdo
  have HFO := Lib.hid hfo
  have HX1 := Lib.hid X1
  clear hpo hfo hdo X1
  cases po
  · go_wp2_with (go_at_call 25; refine CP.out.mono ?_; rintro e w2 ⟨rfl, b2⟩; have B2 := Lib.hid (bthen B1 b2); clear b2)
    go_ret
    exact ⟨false, rfl, .inl ⟨by rw [← HPO.out]; rfl, rfl⟩, B2.out⟩
  · cases dO
    · go_wp2_with (first
        | (go_at_call 25; refine CP.out.mono ?_; rintro e w2 ⟨rfl, b2⟩; have B2 := Lib.hid (bthen B1 b2)
           have x20 : w2.cell? ⟨w.heap.size, 0, none⟩ = some (.slice A p.1.length c) := (HX1.out.below b2 HX1.out.lt).cell 0
           clear b2)
        | (go_at_call 26; with_reducible refine (CD.out _ B2.out).mono ?_; rintro e w3 ⟨rfl, b3⟩; have B3 := Lib.hid (bthen B2.out b3); clear b3))
      go_ret
      exact ⟨false, rfl, .inl ⟨by rw [← HDO.out, Bool.false_and, Bool.and_false], rfl⟩, B3.out⟩
    · cases fo
      · go_wp2_with (first
          | (go_at_call 25; refine CP.out.mono ?_; rintro e w2 ⟨rfl, b2⟩; have B2 := Lib.hid (bthen B1 b2)
             have HX2 := Lib.hid (HX1.out.below b2 HX1.out.lt)
             have x20 : w2.cell? ⟨w.heap.size, 0, none⟩ = some (.slice A p.1.length c) := HX2.out.cell 0
             clear b2)
          | (go_at_call 26; with_reducible refine (CD.out _ B2.out).mono ?_; rintro e w3 ⟨rfl, b3⟩; have B3 := Lib.hid (bthen B2.out b3)
             have x30 : w3.cell? ⟨w.heap.size, 0, none⟩ = some (.slice A p.1.length c) := (HX2.out.below b3 HX2.out.lt).cell 0
             clear b3)
          | (go_at_call 26; with_reducible refine (CF.out _ B3.out).mono ?_; rintro e w4 ⟨rfl, b4⟩; have B4 := Lib.hid (bthen B3.out b4); clear b4))
        go_ret
        exact ⟨false, rfl, .inl ⟨by rw [← HFO.out, Bool.and_false, Bool.and_false], rfl⟩, B4.out⟩
      · obtain ⟨har, hrl, hfit⟩ := prog_parts HPO.out.symm
        obtain ⟨_, hff, hasc⟩ := factsOk_parts HFO.out.symm
        obtain ⟨_, hfd, _⟩ := factsOk_parts HDO.out.symm
        have CA := Lib.hid (fun W (hW : Below w.heap.size w W) => headsIn_any (.slice A2 p.2.length c2) (.slice A3 fs.length c3) p.1 p.2 fs W (HR.out.on hW) (H3.out.on hW) har hfit (by omega) (by omega) (by omega) (by omega) (fun f hf => (fits_parts (hff f hf)).2) (asc_nodup hasc))
        have hTab : ∀ f, factFits p.1 f = true → TabFact f := fun f hf => by
          have h1 := fits_parts hf
          have h2 : p.1.length ≤ 24 := by simp only [arityOk, Bool.and_eq_true, decide_eq_true_eq] at har; exact har.1
          exact ⟨h1.1.1, by omega, h1.2, fits_short har hf⟩
        have HTF := Lib.hid (show ∀ f ∈ fs, TabFact f from fun f hf => hTab f (hff f hf))
        have HTD := Lib.hid (show ∀ f ∈ db, TabFact f from fun f hf => hTab f (hfd f hf))
        have HHF := Lib.hid (show ∀ f ∈ headsAll p.2 fs, numF f.2 < 64 from fun f hf => by
          have := headsAll_fits fs hfit f hf
          exact numF_64 (fits_parts this).2 (fits_short har this))
        clear har hrl hfit hff hasc hfd hTab
        go_upto_region 7 with (first
          | (go_at_call 25; refine CP.out.mono ?_; rintro e w2 ⟨rfl, b2⟩; have B2 := Lib.hid (bthen B1 b2)
             have HX2 := Lib.hid (HX1.out.below b2 HX1.out.lt)
             have x20 : w2.cell? ⟨w.heap.size, 0, none⟩ = some (.slice A p.1.length c) := HX2.out.cell 0
             clear b2)
          | (go_at_call 26; with_reducible refine (CD.out _ B2.out).mono ?_; rintro e w3 ⟨rfl, b3⟩; have B3 := Lib.hid (bthen B2.out b3)
             have HX3 := Lib.hid (HX2.out.below b3 HX2.out.lt)
             have x30 : w3.cell? ⟨w.heap.size, 0, none⟩ = some (.slice A p.1.length c) := HX3.out.cell 0
             clear b3)
          | (go_at_call 26; with_reducible refine (CF.out _ B3.out).mono ?_; rintro e w4 ⟨rfl, b4⟩; have B4 := Lib.hid (bthen B3.out b4)
             have x41 : w4.cell? ⟨w.heap.size, 1, none⟩ = some (.slice A2 p.2.length c2) := (HX3.out.below b4 HX3.out.lt).cell 1
             clear b4)
          | (go_at_call 27; refine (CA.out _ B4.out).mono ?_; rintro e w5 ⟨F, rfl, hF, b5⟩; have B5 := Lib.hid (bthen B4.out b5)
             have HF := Lib.hid hF
             obtain ⟨cs, hcs⟩ : ∃ cs, cs = tabCells (tabWith zeroT F) := ⟨_, rfl⟩
             rw [← hcs]
             have HCZ := Lib.hid (show cs.size = 24 by rw [hcs]; simp [tabCells, tabWith_len, zeroT])
             have HONE := Lib.hid (show cs.all (·.oneCell') = true by rw [hcs]; exact tabCells_one _)
             have HSI := Lib.hid (show (Tryz.prog.info? 56).map (·.size) = some cs.size by rw [HCZ.out]; kernel_rfl)
             have HCS := Lib.hid hcs
             clear hF b5 hcs)
          | (refine wpList_store_row rfl 56 _ _ rfl w5.heap.size cs rfl rfl 56 _ (heap_alloc_new w5 _) HSI.out (by rw [HCZ.out]; rfl) HONE.out ?_))
        obtain ⟨zs, hzs⟩ : ∃ zs, zs = (#[Value.int IntKind.u64 0, Value.int IntKind.u64 0, Value.int IntKind.u64 0, Value.int IntKind.u64 0, Value.int IntKind.u64 0, Value.int IntKind.u64 0, Value.int IntKind.u64 0, Value.int IntKind.u64 0, Value.int IntKind.u64 0, Value.int IntKind.u64 0, Value.int IntKind.u64 0, Value.int IntKind.u64 0, Value.int IntKind.u64 0, Value.int IntKind.u64 0, Value.int IntKind.u64 0, Value.int IntKind.u64 0, Value.int IntKind.u64 0, Value.int IntKind.u64 0, Value.int IntKind.u64 0, Value.int IntKind.u64 0, Value.int IntKind.u64 0, Value.int IntKind.u64 0, Value.int IntKind.u64 0, Value.int IntKind.u64 0] : Array Value) := ⟨_, rfl⟩
        have hzt : zs = tabCells zeroT := by rw [hzs]; rfl
        rw [← hzs]
        have HZS := Lib.hid hzs
        clear hzs
        obtain ⟨w6, hw6⟩ : ∃ w6, w6 = (w5.alloc (Obj.cells zs 56)).setRow w5.heap.size cs := ⟨_, rfl⟩
        have X6 : Blk w6 w5.heap.size 56 cs := by rw [hw6]; exact setRow_heap _ _ _ cs _ _ (heap_alloc_new w5 _)
        have b6 : Below w5.heap.size w5 w6 := by rw [hw6]; exact below_setRow (below1 _ _) (Nat.le_refl _) _
        have hs6 : w6.heap.size = w5.heap.size + 1 := by rw [hw6]; simp
        rw [← hw6]
        clear hw6
        have hw5 := B5.out.size
        obtain ⟨gs, hgs⟩ : ∃ gs, gs = w5.heap.size := ⟨_, rfl⟩
        rw [← hgs] at X6 hs6 hw5 ⊢
        have B6 := Lib.hid (bthen B5.out b6)
        have HF64 := Lib.hid (tabWith_lt64 F zeroT zeroT_lt' fun f hf => HHF.out f ((HF.out f).1 hf))
        have T6 : TabAt w6 gs (tabWith zeroT F) := ⟨by rw [← HCS.out]; exact X6, by simp [tabWith_len, zeroT], HF64.out⟩
        have HADD := Lib.hid (addAll_any gs w.heap.size (tabWith zeroT F) (.slice Ad db.length cd) db w6 T6 ((H2.out.below B6.out (Nat.le_refl _))) (by omega) HTD.out hnd)
        clear X6 b6 T6 hgs
        refine HADD.out.mono ?_
        rintro e w7 ⟨rfl, t7, o7⟩
        have HT7 := Lib.hid t7
        have hs7 : w6.heap.size ≤ w7.heap.size := o7.size
        have B7 := Lib.hid (Only.then_ B6.out o7 (by omega))
        clear t7 o7 HADD
        go_wp2_with fail
        rw [← HZS.out]
        obtain ⟨w8, hw8⟩ : ∃ w8, w8 = w7.alloc (Obj.cells zs 56) := ⟨_, rfl⟩
        have T8 : TabAt w8 w7.heap.size zeroT := by rw [hw8, hzt]; exact TabAt.zero _
        have b8 : Below w7.heap.size w7 w8 := by rw [hw8]; exact below1 _ _
        have hs8 : w8.heap.size = w7.heap.size + 1 := by rw [hw8]; simp
        rw [← hw8]
        clear hw8 hzt
        obtain ⟨gt, hgt⟩ : ∃ gt, gt = w7.heap.size := ⟨_, rfl⟩
        rw [← hgt] at T8 hs8 ⊢
        have hgg : gs < gt := by omega
        have B8 := Lib.hid (bthen B7.out b8)
        have HT8 := Lib.hid (show TabAt w8 gs (tabWith (tabWith zeroT F) db) from ⟨HT7.out.1.below b8 (by omega), HT7.out.2⟩)
        have HADD := Lib.hid (addAll_any gt w.heap.size zeroT (.slice A3 fs.length c3) fs w8 T8 ((H3.out.below B8.out (Nat.le_refl _))) (by omega) HTF.out hn)
        clear b8 T8 hgt
        refine HADD.out.mono ?_
        rintro e w9 ⟨rfl, t9, o9⟩
        have hs9 : w8.heap.size ≤ w9.heap.size := o9.size
        have B9 := Lib.hid (Only.then_ B8.out o9 (by omega))
        have HT9 := Lib.hid (show TabAt w9 gs (tabWith (tabWith zeroT F) db) from ⟨HT8.out.1.only o9 (.inl hgg), HT8.out.2⟩)
        obtain ⟨ds, hds⟩ : ∃ ds, ds = tabCells (tabWith zeroT fs) := ⟨_, rfl⟩
        have X9 : Blk w9 gt 56 ds := by rw [hds]; exact t9.1
        have HDZ := Lib.hid (show ds.size = 24 by rw [hds]; simp [tabCells, tabWith_len, zeroT])
        have HSD := Lib.hid (show (Tryz.prog.info? 56).map (·.size) = some ds.size by rw [HDZ.out]; kernel_rfl)
        have HHA := Lib.hid (show Calls Tryz.prog 29 #[.pointer (some ⟨gs, 0, none⟩), .agg ds] w9 fun e w' => e = .returned (.bool (tabIn (tabWith zeroT fs) (tabWith (tabWith zeroT F) db))) ∧ Below w9.heap.size w9 w' from by rw [hds]; exact hasAll_any _ _ _ w9 HT9.out (by simp [tabWith_len, zeroT]) _ rfl)
        have X9 := Lib.hid X9
        clear t9 o9 hds
        go_wp2_with (first
          | (refine wpList_load_row rfl 56 _ rfl gt rfl 56 ds (0, 0) _ X9.out Tryz.underlying56 rfl HSD.out ?_)
          | (go_at_call 29; refine HHA.out.mono ?_; rintro e w10 ⟨rfl, b10⟩; have B10 := Lib.hid (bthen B9.out b10); clear b10))
        go_ret
        exact ⟨_, rfl, .inr ⟨by rw [← HPO.out, ← HFO.out, ← HDO.out]; rfl, F, HF.out, rfl⟩, B10.out⟩

end Go.Proofs.YtcceololijefiaaGreat
/-
  The specification's Supported.
-/
namespace Go.Proofs.YtcceololijefiaaGreat
open Go.RowKit

/-- What Supported answers. -/
def supL (p : LProg) (db fs : List LFact) : Bool := progOk p && (factsOk p.1 db && (factsOk p.1 fs && decide ((pickL fs (setOf (db ++ headsAll p.2 fs)) false).length = 0)))

set_option maxHeartbeats 4000000 in
set_option maxRecDepth 100000 in
theorem specSupported_any (v v2 v3 : Value) (p : LProg) (db fs : List LFact) (w : World) (h : RdProg w w.heap.size v p) (h2 : RdFacts w w.heap.size v2 db) (h3 : RdFacts w w.heap.size v3 fs) (hs : szP p ≤ 1048576) (hn : fs.length ≤ 1048576) (ht : tot fs ≤ 1048576) (hnd : db.length ≤ 1048576) (htd : tot db ≤ 1048576) :
    Calls Tryz.prog 13 #[v, v2, v3] w fun e w' => e = .returned (.bool (supL p db fs)) ∧ Below w.heap.size w w' := by
  have HP := Lib.hid h
  have H2 := Lib.hid h2
  have H3 := Lib.hid h3
  have hs' := hs
  unfold szP at hs'
  obtain ⟨a, b, rfl, hA, hR⟩ := h
  have HA := Lib.hid hA
  have HR := Lib.hid hR
  obtain ⟨A, c, rfl, hcA, _⟩ := hA
  obtain ⟨A2, c2, rfl, hcR, _⟩ := hR
  obtain ⟨Ad, cd, rfl, hcD, _⟩ := h2
  obtain ⟨A3, c3, rfl, hcF, _⟩ := h3
  obtain ⟨po, hpo⟩ : ∃ po, po = progOk p := ⟨_, rfl⟩
  obtain ⟨dO, hdo⟩ : ∃ dO, dO = factsOk p.1 db := ⟨_, rfl⟩
  obtain ⟨fo, hfo⟩ : ∃ fo, fo = factsOk p.1 fs := ⟨_, rfl⟩
  obtain ⟨R, hRR⟩ : ∃ R, R = supL p db fs := ⟨_, rfl⟩
  have HRR := Lib.hid (show R = (po && (dO && (fo && decide ((pickL fs (setOf (db ++ headsAll p.2 fs)) false).length = 0)))) by rw [hRR, hpo, hfo, hdo]; rfl)
  rw [← hRR]
  clear hRR
  go_enter Tryz.func13, Tryz.ntmps13
  go_upto_region 1 with fail
  obtain ⟨w1, hw1⟩ : ∃ w1, w1 = w.alloc (Obj.cells #[Value.slice A p.1.length c, Value.slice A2 p.2.length c2] 32) := ⟨_, rfl⟩
  have X1 : Blk w1 w.heap.size 32 #[.slice A p.1.length c, .slice A2 p.2.length c2] := by rw [hw1]; exact Blk.new _ _ _
  have B1 : Below w.heap.size w w1 := by rw [hw1]; exact below1 _ _
  rw [← hw1]
  clear hw1
  have x0 : w1.cell? ⟨w.heap.size, 0, none⟩ = some (.slice A p.1.length c) := X1.cell 0
  have x1 : w1.cell? ⟨w.heap.size, 1, none⟩ = some (.slice A2 p.2.length c2) := X1.cell 1
  have CP := Lib.hid ((specProgramOk_any _ p w1 (HP.out.on B1) hs).mono fun e w' (hh : e = .returned (.bool (progOk p)) ∧ Below w1.heap.size w1 w') => (⟨by rw [hh.1, hpo], hh.2⟩ : e = .returned (.bool po) ∧ Below w1.heap.size w1 w'))
  have CD := Lib.hid (fun W (hW : Below w.heap.size w W) => (specFactsOk_any _ _ p.1 db W (HA.out.on hW) (H2.out.on hW) (by omega) (by omega) (by omega)).mono fun e w' (hh : e = .returned (.bool (factsOk p.1 db)) ∧ Below W.heap.size W w') => (⟨by rw [hh.1, hdo], hh.2⟩ : e = .returned (.bool dO) ∧ Below W.heap.size W w'))
  have CF := Lib.hid (fun W (hW : Below w.heap.size w W) => (specFactsOk_any _ _ p.1 fs W (HA.out.on hW) (H3.out.on hW) (by omega) (by omega) (by omega)).mono fun e w' (hh : e = .returned (.bool (factsOk p.1 fs)) ∧ Below W.heap.size W w') => (⟨by rw [hh.1, hfo], hh.2⟩ : e = .returned (.bool fo) ∧ Below W.heap.size W w'))
  have HPO := Lib.hid hpo
  have HDO := Lib.hid hdo
  have HFO := Lib.hid hfo
  have HX1 := Lib.hid X1
  clear hpo hfo hdo X1
  cases po
  · go_wp2_with (go_at_call 18; refine CP.out.mono ?_; rintro e w2 ⟨rfl, b2⟩; have B2 := Lib.hid (bthen B1 b2); clear b2)
    go_ret
    exact ⟨ret_bool (by rw [HRR.out]; rfl), B2.out⟩
  · cases dO
    · go_wp2_with (first
        | (go_at_call 18; refine CP.out.mono ?_; rintro e w2 ⟨rfl, b2⟩; have B2 := Lib.hid (bthen B1 b2)
           have x20 : w2.cell? ⟨w.heap.size, 0, none⟩ = some (.slice A p.1.length c) := (HX1.out.below b2 HX1.out.lt).cell 0
           clear b2)
        | (go_at_call 19; refine (CD.out _ B2.out).mono ?_; rintro e w3 ⟨rfl, b3⟩; have B3 := Lib.hid (bthen B2.out b3); clear b3))
      go_ret
      exact ⟨ret_bool (by rw [HRR.out]; rfl), B3.out⟩
    · cases fo
      · go_wp2_with (first
          | (go_at_call 18; refine CP.out.mono ?_; rintro e w2 ⟨rfl, b2⟩; have B2 := Lib.hid (bthen B1 b2)
             have HX2 := Lib.hid (HX1.out.below b2 HX1.out.lt)
             have x20 : w2.cell? ⟨w.heap.size, 0, none⟩ = some (.slice A p.1.length c) := HX2.out.cell 0
             clear b2)
          | (go_at_call 19; with_reducible refine (CD.out _ B2.out).mono ?_; rintro e w3 ⟨rfl, b3⟩; have B3 := Lib.hid (bthen B2.out b3)
             have x30 : w3.cell? ⟨w.heap.size, 0, none⟩ = some (.slice A p.1.length c) := (HX2.out.below b3 HX2.out.lt).cell 0
             clear b3)
          | (go_at_call 19; with_reducible refine (CF.out _ B3.out).mono ?_; rintro e w4 ⟨rfl, b4⟩; have B4 := Lib.hid (bthen B3.out b4); clear b4))
        go_ret
        exact ⟨ret_bool (by rw [HRR.out]; rfl), B4.out⟩
      · obtain ⟨har, hrl, hfit⟩ := prog_parts HPO.out.symm
        obtain ⟨_, hff, hasc⟩ := factsOk_parts HFO.out.symm
        obtain ⟨_, hfd, had⟩ := factsOk_parts HDO.out.symm
        have HFEW := Lib.hid (And.intro (headsAll_few fs har hfit) (And.intro (facts_few har (asc_nodup hasc) hff) (And.intro (facts_few har (asc_nodup had) hfd) (setOf_bound (db ++ headsAll p.2 fs)))))
        have HTO := Lib.hid (show tot (db ++ headsAll p.2 fs) = tot db + tot (headsAll p.2 fs) by simp [tot])
        have CA := Lib.hid (fun W (hW : Below w.heap.size w W) => l4All_any (.slice A2 p.2.length c2) (.slice A3 fs.length c3) p.1 p.2 fs W (HR.out.on hW) (H3.out.on hW) har hfit (by omega) (by omega) (by omega) (by omega) (fun f hf => (fits_parts (hff f hf)).2) (asc_nodup hasc))
        have CE := Lib.hid (fun W v (hW : Below w.heap.size w W) (hv : RdFacts W W.heap.size v (headsAll p.2 fs)) => specFactsEither_any (.slice Ad db.length cd) v db (headsAll p.2 fs) W (H2.out.on hW) hv (by have := HFEW.out; omega) (by have := HFEW.out; omega))
        have CL := Lib.hid (fun W v (hW : Below w.heap.size w W) (hv : RdFacts W W.heap.size v (setOf (db ++ headsAll p.2 fs))) => specFactsLess_any (.slice A3 fs.length c3) v fs (setOf (db ++ headsAll p.2 fs)) W (H3.out.on hW) hv (by have := HFEW.out; simp only [List.length_append] at this; omega) (by have := HFEW.out; have := HTO.out; omega))
        clear har hrl hfit hff hasc hfd had
        obtain ⟨L, hL⟩ : ∃ L, L = pickL fs (setOf (db ++ headsAll p.2 fs)) false := ⟨_, rfl⟩
        rw [← hL] at CL HRR
        clear hL
        obtain ⟨E, hE⟩ : ∃ E, E = setOf (db ++ headsAll p.2 fs) := ⟨_, rfl⟩
        rw [← hE] at CL CE
        clear hE HFEW
        go_wp2_with (first
          | (go_at_call 18; refine CP.out.mono ?_; rintro e w2 ⟨rfl, b2⟩; have B2 := Lib.hid (bthen B1 b2)
             have HX2 := Lib.hid (HX1.out.below b2 HX1.out.lt)
             have x20 : w2.cell? ⟨w.heap.size, 0, none⟩ = some (.slice A p.1.length c) := HX2.out.cell 0
             clear b2)
          | (go_at_call 19; with_reducible refine (CD.out _ B2.out).mono ?_; rintro e w3 ⟨rfl, b3⟩; have B3 := Lib.hid (bthen B2.out b3)
             have HX3 := Lib.hid (HX2.out.below b3 HX2.out.lt)
             have x30 : w3.cell? ⟨w.heap.size, 0, none⟩ = some (.slice A p.1.length c) := HX3.out.cell 0
             clear b3)
          | (go_at_call 19; with_reducible refine (CF.out _ B3.out).mono ?_; rintro e w4 ⟨rfl, b4⟩; have B4 := Lib.hid (bthen B3.out b4)
             have x41 : w4.cell? ⟨w.heap.size, 1, none⟩ = some (.slice A2 p.2.length c2) := (HX3.out.below b4 HX3.out.lt).cell 1
             clear b4)
          | (go_at_call 21; refine (CA.out _ B4.out).mono ?_; rintro e w5 ⟨A4, c4, rfl, o5, b5⟩; have B5 := Lib.hid (bthen B4.out b5)
             have HE5 := Lib.hid (CE.out _ _ B5.out o5.rd)
             clear o5 b5)
          | (go_at_call 33; refine HE5.out.mono ?_; rintro e w6 ⟨A5, c5, rfl, o6, b6⟩; have B6 := Lib.hid (bthen B5.out b6)
             have HL6 := Lib.hid (CL.out _ _ B6.out o6.rd)
             clear o6 b6)
          | (go_at_call 20; refine HL6.out.mono ?_; rintro e w7 ⟨A6, c6, rfl, o7, b7⟩; have B7 := Lib.hid (bthen B6.out b7); clear o7 b7))
        go_ret
        exact ⟨ret_bool (by rw [HRR.out, Bool.true_and, Bool.true_and, Bool.true_and, Bool.eq_iff_iff, beq_iff_eq, decide_eq_true_eq]; omega), B7.out⟩

end Go.Proofs.YtcceololijefiaaGreat
/-
  What the program's Supported answers by its tables is what the specification's answers.
-/
namespace Go.Proofs.YtcceololijefiaaGreat
open Go.RowKit

theorem tabWith_more (T : List Nat) (a b : List LFact) : tabWith (tabWith T a) b = tabWith T (a ++ b) := by
  unfold tabWith
  rw [List.foldl_append]
theorem supT_eq {p : LProg} {db fs : List LFact} {R : Bool} (h : SupT p db fs R) : R = supL p db fs := by
  rcases h with ⟨h1, rfl⟩ | ⟨h1, F, hF, rfl⟩
  · unfold supL
    rw [← Bool.and_assoc (factsOk p.1 db), ← Bool.and_assoc, h1, Bool.false_and]
  · rw [Bool.and_eq_true, Bool.and_eq_true] at h1
    obtain ⟨har, _, hfit⟩ := prog_parts h1.1
    obtain ⟨_, hfd, _⟩ := factsOk_parts h1.2.1
    obtain ⟨_, hff, _⟩ := factsOk_parts h1.2.2
    unfold supL
    rw [h1.1, h1.2.1, h1.2.2, Bool.true_and, Bool.true_and, Bool.true_and, tabWith_more, Bool.eq_iff_iff, tabIn_facts har hff (fun f h => by
      rcases List.mem_append.1 h with h | h
      · exact headsAll_fits fs hfit f ((hF f).1 h)
      · exact hfd f h), decide_eq_true_eq, List.length_eq_zero_iff, List.eq_nil_iff_forall_not_mem]
    constructor
    · intro h f hm
      rw [pickL_in, decide_eq_false_iff_not] at hm
      have hm2 := hm.2
      rw [setOf_mem] at hm2
      have h2 := h f hm.1
      rw [List.mem_append] at h2
      have h3 : f ∈ db ++ headsAll p.2 fs := by
        rw [List.mem_append]
        rcases h2 with h2 | h2
        · exact .inr ((hF f).1 h2)
        · exact .inl h2
      exact hm2 h3
    · intro h f hm
      apply Classical.byContradiction
      intro hn
      refine h f ((pickL_in _ _ _ _).2 ⟨hm, ?_⟩)
      rw [decide_eq_false_iff_not, setOf_mem]
      intro h3
      apply hn
      rw [List.mem_append] at h3 ⊢
      rcases h3 with h3 | h3
      · exact .inr h3
      · exact .inl ((hF f).2 h3)

theorem implSupported_any (v v2 v3 : Value) (p : LProg) (db fs : List LFact) (w : World) (h : RdProg w w.heap.size v p) (h2 : RdFacts w w.heap.size v2 db) (h3 : RdFacts w w.heap.size v3 fs) (hs : szP p ≤ 1048576) (hn : fs.length ≤ 1048576) (ht : tot fs ≤ 1048576) (hnd : db.length ≤ 1048576) (htd : tot db ≤ 1048576) :
    Calls Tryz.prog 14 #[v, v2, v3] w fun e w' => e = .returned (.bool (supL p db fs)) ∧ Below w.heap.size w w' :=
  (implSupT_any v v2 v3 p db fs w h h2 h3 hs hn ht hnd htd).mono fun _ _ ⟨_, he, hR, hb⟩ => ⟨by rw [he, supT_eq hR], hb⟩

end Go.Proofs.YtcceololijefiaaGreat
/-
  Marks on integers (the words and the walks lie in MarkInts).
-/
namespace Go.Proofs.YtcceololijefiaaGreat
open Go.RowKit

end Go.Proofs.YtcceololijefiaaGreat
