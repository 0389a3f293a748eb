/-
  The specification's FactsEither and l1Pick: facts laid into a list one after another.
-/
import Derived.Test.YtehjhdihaloalaaSpecWith
import Derived.Test.YtehjhdihaloalaaSets
import Derived.Test.YtehjhdihaloalaaHas
namespace Go.Proofs.Ytehjhdihaloalaa
open Go.RowKit

theorem foldWith_bound : ∀ (l out : List LFact), (l.foldl factsWith out).length ≤ out.length + l.length ∧ tot (l.foldl factsWith out) ≤ tot out + tot l
  | [], out => by simp [tot]
  | f :: l, out => by
    have h1 := factsWith_bound out f
    have h2 := foldWith_bound l (factsWith out f)
    rw [tot_cons]
    simp only [List.foldl_cons, List.length_cons]
    omega
theorem setOf_bound (l : List LFact) : (setOf l).length ≤ l.length ∧ tot (setOf l) ≤ tot l := by
  have := foldWith_bound l []
  unfold setOf
  simpa [tot] using this
theorem setOf_snoc (l : List LFact) (f : LFact) : setOf (l ++ [f]) = factsWith (setOf l) f := by simp [setOf, List.foldl_append]

set_option maxHeartbeats 1000000 in
set_option maxRecDepth 100000 in
theorem specFactsEither_any (v v2 : Value) (xs ys : List LFact) (w : World) (h : RdFacts w w.heap.size v xs) (h2 : RdFacts w w.heap.size v2 ys) (hn : xs.length + ys.length ≤ 1048576) (ht : tot xs + tot ys ≤ 1048576) :
    Calls Try.prog 26 #[v, v2] w fun e w' => ∃ A' c', e = .returned (.slice A' (setOf (xs ++ ys)).length c') ∧ OwnFacts w' w.heap.size w'.heap.size (.slice A' (setOf (xs ++ ys)).length c') (setOf (xs ++ ys)) ∧ Below w.heap.size w w' := by
  have H := Lib.hid h
  have H2 := Lib.hid h2
  obtain ⟨A, c, rfl, hc, _⟩ := h
  obtain ⟨A2, c2, rfl, hc2, _⟩ := h2
  go_enter Try.func26, Try.ntmps26
  go_wp2_with (fail)
  go_loopw [5, 6] (fun o i wr => ∃ (k : Nat) (gs : List LFact) (A' : Option Addr) (c' : Nat), k ≤ xs.length ∧ i = .int .i64 k ∧ gs = setOf (xs.take k) ∧ o = .slice A' gs.length c' ∧ OwnFacts wr w.heap.size wr.heap.size (.slice A' gs.length c') gs ∧ Below w.heap.size w wr) (fun _ i _ => xs.length - (intOf i).toNat)
  case atStart => exact ⟨0, [], _, 0, Nat.zero_le _, rfl, rfl, rfl, (ColRel.empty w).own.own.mono (Nat.le_refl _) (Nat.le_refl _), below1 _ _⟩
  case round =>
    obtain ⟨k, gs, A', c', hk, rfl, hgs, rfl, ho, hbe⟩ := hrel
    have hbd := setOf_bound (xs.take k)
    rw [← hgs, List.length_take] at hbd
    have htk := tot_take_le xs k
    have HO := Lib.hid ho
    have HG := Lib.hid hgs
    clear ho hgs
    by_cases hlt : k < xs.length
    · obtain ⟨b, o, A3, c3, rfl, hbB, k1, k2, k3⟩ := (H.out.on hbe).get hlt
      have hln := len_le_tot xs k hlt
      have K3 := Lib.hid (show RdFact wr wr.heap.size (.agg #[.int .i64 xs[k].1, .slice A3 xs[k].2.length c3]) xs[k] from ⟨_, rfl, k3⟩)
      clear k3
      go_wp2_with (fail)
      refine (specFactsWith_any _ _ gs xs[k] _ HO.out.rd K3.out (by omega) (by omega) (by omega)).mono ?_
      rintro e w2 ⟨A4, c4, rfl, ho4, hb4⟩
      have HR := Lib.hid (show OwnFacts w2 w.heap.size w2.heap.size _ _ from ho4.mono hbe.size (Nat.le_refl _))
      have HB := Lib.hid (bthen hbe hb4)
      have HE := Lib.hid (show factsWith gs xs[k] = setOf (xs.take (k + 1)) by rw [take_snoc xs k hlt, setOf_snoc, ← HG.out])
      clear ho4 hb4
      go_wp2_with (fail)
      go_roundw
      case rel => exact ⟨k + 1, factsWith gs xs[k], _, _, by omega, by go_num, HE.out, rfl, HR.out, HB.out⟩
      case measure => simp [intOf]; omega
    · have hkn : k = xs.length := by omega
      subst hkn
      have HX := Lib.hid (show gs = setOf xs by rw [HG.out, List.take_length])
      clear HG
      go_wp2_with (fail)
      go_loopw [5, 7] (fun o i wq => ∃ (k : Nat) (gs : List LFact) (A' : Option Addr) (c' : Nat), k ≤ ys.length ∧ i = .int .i64 k ∧ gs = setOf (xs ++ ys.take k) ∧ o = .slice A' gs.length c' ∧ OwnFacts wq w.heap.size wq.heap.size (.slice A' gs.length c') gs ∧ Below w.heap.size w wq) (fun _ i _ => ys.length - (intOf i).toNat)
      case atStart => exact ⟨0, gs, _, _, Nat.zero_le _, rfl, by simpa using HX.out, rfl, HO.out, hbe⟩
      case round =>
        obtain ⟨k, gs, A', c', hk, rfl, hgs, rfl, ho, hbe⟩ := hrel
        have hbd := setOf_bound (xs ++ ys.take k)
        rw [← hgs, tot_append, List.length_append, List.length_take] at hbd
        have htk := tot_take_le ys k
        have HO := Lib.hid ho
        have HG := Lib.hid hgs
        clear ho hgs
        by_cases hlt : k < ys.length
        · obtain ⟨b, o, A3, c3, rfl, hbB, k1, k2, k3⟩ := (H2.out.on hbe).get hlt
          have hln := len_le_tot ys k hlt
          have K3 := Lib.hid (show RdFact _ _ (.agg #[.int .i64 ys[k].1, .slice A3 ys[k].2.length c3]) ys[k] from ⟨_, rfl, k3⟩)
          clear k3
          go_wp2_with (fail)
          refine (specFactsWith_any _ _ gs ys[k] _ HO.out.rd K3.out (by omega) (by omega) (by omega)).mono ?_
          rintro e w2 ⟨A4, c4, rfl, ho4, hb4⟩
          have HR := Lib.hid (show OwnFacts w2 w.heap.size w2.heap.size _ _ from ho4.mono hbe.size (Nat.le_refl _))
          have HB := Lib.hid (bthen hbe hb4)
          have HE := Lib.hid (show factsWith gs ys[k] = setOf (xs ++ ys.take (k + 1)) by rw [take_snoc ys k hlt, ← List.append_assoc, setOf_snoc, ← HG.out])
          clear ho4 hb4
          go_wp2_with (fail)
          go_roundw
          case rel => exact ⟨k + 1, factsWith gs ys[k], _, _, by omega, by go_num, HE.out, rfl, HR.out, HB.out⟩
          case measure => simp [intOf]; omega
        · have hkn : k = ys.length := by omega
          subst hkn
          have HY := Lib.hid (show gs = setOf (xs ++ ys) by rw [HG.out, List.take_length])
          have HB := Lib.hid hbe
          clear HG
          go_wp2_with (fail)
          go_ret
          rw [← HY.out]
          exact ⟨A', c', rfl, HO.out, HB.out⟩

end Go.Proofs.Ytehjhdihaloalaa
