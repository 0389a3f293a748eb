/-
  Marks on integers: markIntS, heldIntS.
-/
import Derived.Test.YtcoelmhlkfignaaWords
import Derived.Test.YtcoelmhlkfignaaInts
namespace Go.Proofs.Ytcoelmhlkfignaa
open Go.RowKit

section
variable {lo hi lo' hi' : Nat} {w w1 w' : World}
/-- k, k + 1, .. : n of them. -/
def seqI (k : Int) (n : Nat) : List Int := (List.range n).map fun i : Nat => k + (i : Int)

theorem seqI_length (k : Int) (n : Nat) : (seqI k n).length = n := by simp [seqI]

theorem seqI_at {k : Int} {n j : Nat} (h : j < (seqI k n).length) : (seqI k n)[j] = k + (j : Int) := by simp [seqI]

/-- The first j are marked. -/
def markedTo (xs : List Int) (k : Int) (j : Nat) : List Int := seqI k j ++ xs.drop j

theorem markedTo_length {xs : List Int} {k : Int} {j : Nat} (h : j ≤ xs.length) : (markedTo xs k j).length = xs.length := by simp [markedTo, seqI_length]; omega

theorem markedTo_step {xs : List Int} {k : Int} {j : Nat} (h : j < xs.length) : (markedTo xs k j).set j (k + (j : Int)) = markedTo xs k (j + 1) := by
  unfold markedTo
  rw [List.drop_eq_getElem_cons h, List.set_append_right _ _ (by rw [seqI_length]; omega), seqI_length, Nat.sub_self, List.set_cons_zero]
  simp [seqI, List.range_succ]

theorem markedTo_zero (xs : List Int) (k : Int) : markedTo xs k 0 = xs := by simp [markedTo, seqI]

theorem markedTo_all (xs : List Int) (k : Int) : markedTo xs k xs.length = seqI k xs.length := by simp [markedTo]

set_option maxHeartbeats 400000 in
theorem markIntS_any (v : Value) (xs : List Int) (k : Int) (lo hi : Nat) (w : World) (h : OwnInts w lo hi v xs) (hk0 : 0 ≤ k) (hk : k + xs.length ≤ 4611686018427387904) :
    Calls Try.prog 29 #[v, .int .i64 k] w fun e w' => e = .returned (.int .i64 (k + xs.length)) ∧ OwnInts w' lo hi v (seqI k xs.length) ∧ w.grownBy w' v.ownBlock := by
  obtain ⟨A, c, hv⟩ := h.form
  subst hv
  have hform : 0 < xs.length → ∃ g, A = some ⟨g, 0, none⟩ := fun hn => by
    obtain ⟨g, cap, e, _, _⟩ := h.1.form hn
    injection e with e1 _ _
    exact ⟨g, e1⟩
  have H := Lib.hid h
  clear h
  go_enter Try.func29, Try.ntmps29
  go_wp2_with (fail)
  go_loopw [1, 5] (fun m i wr => ∃ j : Nat, j ≤ xs.length ∧ i = .int .i64 j ∧ m = .int .i64 (k + j) ∧ OwnInts wr lo hi (.slice A xs.length c) (markedTo xs k j) ∧ w.grownBy wr (Value.slice A xs.length c).ownBlock) (fun _ i _ => xs.length - (intOf i).toNat)
  case atStart => exact ⟨0, Nat.zero_le _, rfl, by simp, by rw [markedTo_zero]; exact H.out, World.grownBy.refl w _⟩
  case round =>
    obtain ⟨j, hj, rfl, rfl, ho, hg⟩ := hrel
    by_cases hlt : j < xs.length
    · obtain ⟨g, rfl⟩ := hform (by omega)
      have hml := markedTo_length (k := k) (Nat.le_of_lt hlt)
      have ho' : OwnInts wr lo hi (.slice (some ⟨g, 0, none⟩) (markedTo xs k j).length c) (markedTo xs k j) := by rw [hml]; exact ho
      have hst := ho'.store rfl (j := j) (by omega) (k + j)
      rw [hml, markedTo_step hlt] at hst
      have HS := Lib.hid hst
      have hc1 : ∃ u, wr.cell? ⟨g, j, none⟩ = some (.int .i64 u) := by
        obtain ⟨A', c', e, _, hx⟩ := ho'.rd
        injection e with e1 _ _
        obtain ⟨b, o, e2, _, hx⟩ := hx (by omega)
        rw [← e1] at e2
        injection e2 with e2
        injection e2 with e2 e3 _
        subst e2
        subst e3
        exact ⟨_, by simpa using hx j (by omega)⟩
      obtain ⟨u, hc1⟩ := hc1
      have hf1 : wr.frozen? ⟨g, j, none⟩ = false := by
        rcases ho.1.2 with ⟨e, _⟩ | ⟨g', cap, cur, e, _, hgg, _⟩
        · cases e
        · injection e with e1 _ _
          injection e1 with e1
          injection e1 with e1 _ _
          subst e1
          simp [World.frozen?, hgg]
      have hgs : w.grownBy (wr.setCell ⟨g, j, none⟩ (.int .i64 (k + j))) (Value.slice (some ⟨g, 0, none⟩) xs.length c).ownBlock :=
        ⟨hg.os, hg.tape, hg.output, by simpa using hg.size, fun i hi' hne => (Below.heap_setCell _ _ _ _ (fun e => hne (by rw [e]; rfl))).trans (hg.block i hi' hne)⟩
      clear hst ho ho' hml
      go_wp2_with (fail)
      go_roundw
      case rel => exact ⟨j + 1, by omega, by go_num, by go_num, HS.out, hgs⟩
      case measure => simp [intOf]; omega
    · have hkn : j = xs.length := by omega
      have HO := Lib.hid (show OwnInts wr lo hi (.slice A xs.length c) (seqI k xs.length) by rw [← markedTo_all, ← hkn]; rw [← hkn] at ho; exact ho)
      have HK := Lib.hid (show k + (j : Int) = k + xs.length by rw [hkn])
      clear hkn ho
      go_wp2_with (fail)
      go_ret
      exact ⟨ret_int HK.out, HO.out, hg⟩

set_option maxHeartbeats 400000 in
theorem heldIntS_any (v : Value) (n : Nat) (k : Int) (w : World) (h : RdInts w w.heap.size v (seqI k n)) (hk0 : 0 ≤ k) (hk : k + n ≤ 4611686018427387904) :
    Calls Try.prog 30 #[v, .int .i64 k] w fun e w' => e = .returned (.int .i64 (k + n)) ∧ w = w' := by
  obtain ⟨A, c, rfl, hc, ha⟩ := h
  rw [seqI_length] at hc ⊢
  go_enter Try.func30, Try.ntmps30
  go_wp2_with (fail)
  go_loop [1, 5] (fun m i => ∃ j : Nat, j ≤ n ∧ i = .int .i64 j ∧ m = .int .i64 (k + j)) (fun _ i => n - (intOf i).toNat)
  case atStart => exact ⟨0, Nat.zero_le _, rfl, by simp⟩
  case round =>
    obtain ⟨j, hj, rfl, rfl⟩ := hrel
    by_cases hlt : j < n
    · obtain ⟨b, o, rfl, hbB, hx⟩ := ha (by rw [seqI_length]; omega)
      have hck : w.cell? ⟨b, o + j, none⟩ = some (.int .i64 (k + j)) := by rw [hx j (by rw [seqI_length]; exact hlt), seqI_at]
      have hne : (k + (j : Int) != k + (j : Int)) = false := by simp
      clear hx ha
      go_wp2_with (fail)
      go_round
      case rel => exact ⟨j + 1, by omega, by go_num, by go_num⟩
      case measure => simp [intOf]; omega
    · have hkn : j = n := by omega
      have HK := Lib.hid (show k + (j : Int) = k + n by rw [hkn])
      clear hkn ha
      go_wp2_with (fail)
      go_ret
      exact ⟨ret_int HK.out, rfl⟩
end

end Go.Proofs.Ytcoelmhlkfignaa
