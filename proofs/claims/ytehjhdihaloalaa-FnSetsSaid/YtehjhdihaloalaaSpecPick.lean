/-
  The specification's l1Pick, FactsBoth and FactsLess.
-/
import Derived.Test.YtehjhdihaloalaaSpecEither
namespace Go.Proofs.Ytehjhdihaloalaa
open Go.RowKit

theorem filter_tot_le (p : LFact → Bool) : ∀ l : List LFact, tot (l.filter p) ≤ tot l
  | [] => by simp [tot]
  | f :: l => by
    have := filter_tot_le p l
    by_cases h : p f = true <;> simp [h, tot_cons] <;> omega

/-- The facts of a list that another has, or has not. -/
def pickL (xs ys : List LFact) (b : Bool) : List LFact := setOf (xs.filter fun f => factsHas ys f == b)
theorem pickL_bound (xs ys : List LFact) (b : Bool) : (pickL xs ys b).length ≤ xs.length ∧ tot (pickL xs ys b) ≤ tot xs := by
  have h := setOf_bound (xs.filter fun f => factsHas ys f == b)
  have h1 := List.length_filter_le (fun f => factsHas ys f == b) xs
  have h2 := filter_tot_le (fun f => factsHas ys f == b) xs
  unfold pickL
  omega
theorem pickL_yes {xs ys : List LFact} {b : Bool} {k : Nat} (h : k < xs.length) (e : factsHas ys xs[k] = b) : pickL (xs.take (k + 1)) ys b = factsWith (pickL (xs.take k) ys b) xs[k] := by
  unfold pickL
  rw [take_snoc xs k h, List.filter_append, ← setOf_snoc]
  simp [e]
theorem pickL_no {xs ys : List LFact} {b : Bool} {k : Nat} (h : k < xs.length) (e : factsHas ys xs[k] ≠ b) : pickL (xs.take (k + 1)) ys b = pickL (xs.take k) ys b := by
  unfold pickL
  rw [take_snoc xs k h, List.filter_append]
  simp [e]

set_option maxHeartbeats 1000000 in
set_option maxRecDepth 100000 in
theorem l1Pick_any (v v2 : Value) (xs ys : List LFact) (inb : Bool) (w : World) (h : RdFacts w w.heap.size v xs) (h2 : RdFacts w w.heap.size v2 ys) (hn : xs.length + ys.length ≤ 1048576) (ht : tot xs + tot ys ≤ 1048576) :
    Calls Try.prog 72 #[v, v2, .bool inb] w fun e w' => ∃ A' c', e = .returned (.slice A' (pickL xs ys inb).length c') ∧ OwnFacts w' w.heap.size w'.heap.size (.slice A' (pickL xs ys inb).length c') (pickL xs ys inb) ∧ Below w.heap.size w w' := by
  have H := Lib.hid h
  have H2 := Lib.hid h2
  obtain ⟨A, c, rfl, hc, _⟩ := h
  obtain ⟨A2, c2, rfl, hc2, _⟩ := h2
  go_enter Try.func72, Try.ntmps72
  go_wp2_with (fail)
  go_loopw [7, 8] (fun o i wr => ∃ (k : Nat) (gs : List LFact) (A' : Option Addr) (c' : Nat), k ≤ xs.length ∧ i = .int .i64 k ∧ gs = pickL (xs.take k) ys inb ∧ o = .slice A' gs.length c' ∧ OwnFacts wr w.heap.size wr.heap.size (.slice A' gs.length c') gs ∧ Below w.heap.size w wr) (fun _ i _ => xs.length - (intOf i).toNat)
  case atStart => exact ⟨0, [], _, 0, Nat.zero_le _, rfl, rfl, rfl, (ColRel.empty w).own.own.mono (Nat.le_refl _) (Nat.le_refl _), below1 _ _⟩
  case round =>
    obtain ⟨k, gs, A', c', hk, rfl, hgs, rfl, ho, hbe⟩ := hrel
    have hbd := pickL_bound (xs.take k) ys inb
    rw [← hgs, List.length_take] at hbd
    have htk := tot_take_le xs k
    have HO := Lib.hid ho
    have HG := Lib.hid hgs
    clear ho hgs
    by_cases hlt : k < xs.length
    · obtain ⟨b, o, A3, c3, rfl, hbB, k1, k2, k3⟩ := (H.out.on hbe).get hlt
      have hln := len_le_tot xs k hlt
      have K3 := Lib.hid (show RdFact wr wr.heap.size (.agg #[.int .i64 xs[k].1, .slice A3 xs[k].2.length c3]) xs[k] from ⟨_, rfl, k3⟩)
      clear k3
      go_wp2_with (fail)
      refine (specFactsHas_any _ _ ys xs[k] _ (H2.out.on hbe) K3.out (by omega) (by omega) (by omega)).mono ?_
      rintro e w1 ⟨rfl, hb1⟩
      have k11 : w1.cell? ⟨b, o + k * 2, none⟩ = some (.int .i64 xs[k].1) := (hb1.cell hbB).trans k1
      have k12 : w1.cell? ⟨b, o + k * 2 + 1, none⟩ = some (.slice A3 xs[k].2.length c3) := (hb1.cell hbB).trans k2
      have O1 := HO.out.below hb1 (Nat.le_refl _)
      have B1 := bthen hbe hb1
      have K31 := Lib.hid (K3.out.on hb1)
      have hz1 := hb1.size
      clear k1 k2 K3 HO
      by_cases he : factsHas ys xs[k] = inb
      · have HE := Lib.hid (show factsWith gs xs[k] = pickL (xs.take (k + 1)) ys inb by rw [pickL_yes hlt he, ← HG.out])
        have hq : (factsHas ys xs[k] == inb) = true := by simp [he]
        have HO1 := Lib.hid O1
        rw [he]
        clear he O1 hq
        go_wp2_with (fail)
        refine (specFactsWith_any _ _ gs xs[k] _ (HO1.out.rd.more hz1) K31.out (by omega) (by omega) (by omega)).mono ?_
        rintro e w2 ⟨A4, c4, rfl, ho4, hb4⟩
        have HR := Lib.hid (show OwnFacts w2 w.heap.size w2.heap.size _ _ from ho4.mono B1.size (Nat.le_refl _))
        have HB := Lib.hid (bthen B1 hb4)
        clear ho4 hb4
        go_wp2_with (fail)
        go_roundw
        case rel => exact ⟨k + 1, factsWith gs xs[k], _, _, by omega, by go_num, HE.out, rfl, HR.out, HB.out⟩
        case measure => simp [intOf]; omega
      · have HE := Lib.hid (show gs = pickL (xs.take (k + 1)) ys inb by rw [pickL_no hlt he, ← HG.out])
        have hq : (factsHas ys xs[k] == inb) = false := by simp [he]
        have HO1 := Lib.hid (O1.mono (Nat.le_refl _) hz1)
        clear he O1
        go_wp2_with (fail)
        go_roundw
        case rel => exact ⟨k + 1, gs, _, _, by omega, by go_num, HE.out, rfl, HO1.out, B1⟩
        case measure => simp [intOf]; omega
    · have hkn : k = xs.length := by omega
      subst hkn
      have HY := Lib.hid (show gs = pickL xs ys inb by rw [HG.out, List.take_length])
      have HB := Lib.hid hbe
      clear HG
      go_wp2_with (fail)
      go_ret
      rw [← HY.out]
      exact ⟨A', c', rfl, HO.out, HB.out⟩

theorem specFactsBoth_any (v v2 : Value) (xs ys : List LFact) (w : World) (h : RdFacts w w.heap.size v xs) (h2 : RdFacts w w.heap.size v2 ys) (hn : xs.length + ys.length ≤ 1048576) (ht : tot xs + tot ys ≤ 1048576) :
    Calls Try.prog 30 #[v, v2] w fun e w' => ∃ A' c', e = .returned (.slice A' (pickL xs ys true).length c') ∧ OwnFacts w' w.heap.size w'.heap.size (.slice A' (pickL xs ys true).length c') (pickL xs ys true) ∧ Below w.heap.size w w' := by
  have H := Lib.hid h
  have H2 := Lib.hid h2
  obtain ⟨A, c, rfl, hc, _⟩ := h
  obtain ⟨A2, c2, rfl, hc2, _⟩ := h2
  go_enter Try.func30, Try.ntmps30
  go_wp2_with (fail)
  refine (l1Pick_any _ _ xs ys true _ H.out H2.out hn ht).mono ?_
  rintro e w1 ⟨A', c', rfl, ho, hb⟩
  have HO := Lib.hid (And.intro ho hb)
  clear ho hb
  go_wp2_with (fail)
  go_ret
  exact ⟨A', c', rfl, HO.out.1, HO.out.2⟩

theorem specFactsLess_any (v v2 : Value) (xs ys : List LFact) (w : World) (h : RdFacts w w.heap.size v xs) (h2 : RdFacts w w.heap.size v2 ys) (hn : xs.length + ys.length ≤ 1048576) (ht : tot xs + tot ys ≤ 1048576) :
    Calls Try.prog 32 #[v, v2] w fun e w' => ∃ A' c', e = .returned (.slice A' (pickL xs ys false).length c') ∧ OwnFacts w' w.heap.size w'.heap.size (.slice A' (pickL xs ys false).length c') (pickL xs ys false) ∧ Below w.heap.size w w' := by
  have H := Lib.hid h
  have H2 := Lib.hid h2
  obtain ⟨A, c, rfl, hc, _⟩ := h
  obtain ⟨A2, c2, rfl, hc2, _⟩ := h2
  go_enter Try.func32, Try.ntmps32
  go_wp2_with (fail)
  refine (l1Pick_any _ _ xs ys false _ H.out H2.out hn ht).mono ?_
  rintro e w1 ⟨A', c', rfl, ho, hb⟩
  have HO := Lib.hid (And.intro ho hb)
  clear ho hb
  go_wp2_with (fail)
  go_ret
  exact ⟨A', c', rfl, HO.out.1, HO.out.2⟩

end Go.Proofs.Ytehjhdihaloalaa
