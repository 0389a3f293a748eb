/-
  The walks of ArityOk: the program's and the specification's.
-/
import Derived.Test.YtdclfcjbadgmfaaL1In
namespace Go.Proofs.Ytdclfcjbadgmfaa
open Go.RowKit

def placeOk (x : Int) : Bool := decide (0 ≤ x ∧ x ≤ 2)
def arityOk (xs : List Int) : Bool := decide (xs.length ≤ 24) && xs.all placeOk
/-- 'the first k are places', kept from the walk. -/
def PlacesTo (xs : List Int) (k : Nat) : Prop := ∀ j, j < k → placeOk (xs.getD j 0) = true
theorem PlacesTo.step {xs : List Int} {k : Nat} (h : PlacesTo xs k) (e : placeOk (xs.getD k 0) = true) : PlacesTo xs (k + 1) := fun j hj => by
  by_cases h2 : j = k
  · subst h2; exact e
  · exact h j (by omega)
theorem PlacesTo.all {xs : List Int} (h : PlacesTo xs xs.length) : xs.all placeOk = true := by
  rw [List.all_eq_true]
  intro x hx
  obtain ⟨j, hj, rfl⟩ := List.getElem_of_mem hx
  have := h j hj
  simpa [hj] using this
theorem places_not {xs : List Int} {k : Nat} (hk : k < xs.length) (e : placeOk xs[k] = false) : xs.all placeOk = false := by
  rw [List.all_eq_false]
  exact ⟨xs[k], List.getElem_mem hk, by simp [e]⟩

set_option maxHeartbeats 400000 in
theorem specArityOk_any (v : Value) (xs : List Int) (w : World) (h : RdInts w w.heap.size v xs) (hr : xs.length * 8 ≤ 140737488351232) :
    Calls Try.prog 54 #[v] w fun e w' => e = .returned (.bool (arityOk xs)) ∧ w = w' := by
  obtain ⟨A, c, rfl, hc, ha⟩ := h
  go_enter Try.func54, Try.ntmps54
  go_wp2_with (fail)
  go_loop [3] (fun i => ∃ k : Nat, k ≤ xs.length ∧ i = .int .i64 k ∧ PlacesTo xs k) (fun i => xs.length - (intOf i).toNat)
  case atStart => exact ⟨0, Nat.zero_le _, rfl, fun j hj => absurd hj (by omega)⟩
  case round =>
    obtain ⟨k, hk, rfl, hs⟩ := hrel
    by_cases hlt : k < xs.length
    · obtain ⟨b, o, rfl, hbB, hx⟩ := ha (by omega)
      have hck : w.cell? ⟨b, o + k, none⟩ = some (.int .i64 xs[k]) := hx k hlt
      clear hx ha
      by_cases he : 0 ≤ xs[k] ∧ xs[k] ≤ 2
      · have HS := Lib.hid (hs.step (by simpa [hlt, placeOk] using he))
        clear hs
        go_wp2_with (go_at_call 51; refine (l1In_any _ _ _ _).mono ?_; rintro e w' ⟨rfl, rfl⟩)
        go_round
        case rel => exact ⟨k + 1, by omega, by go_num, HS.out⟩
        case measure => simp [intOf]; omega
      · have hd : decide (0 ≤ xs[k] ∧ xs[k] ≤ 2) = false := by simpa using he
        have HE := Lib.hid (places_not hlt (by simpa [placeOk] using he))
        clear hs he
        go_wp2_with (go_at_call 51; refine (l1In_any _ _ _ _).mono ?_; rintro e w' ⟨rfl, rfl⟩)
        go_ret
        exact ⟨ret_bool (by simp [arityOk, HE.out]), rfl⟩
    · have hkn : k = xs.length := by omega
      have HE := Lib.hid (show xs.all placeOk = true from PlacesTo.all (by rw [← hkn]; exact hs))
      clear hkn hs ha
      go_wp2_with (fail)
      go_ret
      exact ⟨ret_bool (by unfold arityOk; rw [HE.out]; simp; try omega), rfl⟩

set_option maxHeartbeats 400000 in
theorem arityOk_any (v : Value) (xs : List Int) (w : World) (h : RdInts w w.heap.size v xs) (hr : xs.length * 8 ≤ 140737488351232) :
    Calls Try.prog 52 #[v] w fun e w' => e = .returned (.bool (arityOk xs)) ∧ Below w.heap.size w w' := by
  obtain ⟨A, c, rfl, hc, ha⟩ := h
  by_cases hl : xs.length ≤ 24
  · go_enter Try.func52, Try.ntmps52
    go_wp2
    go_loopw [4, 10] (fun _ i wr => ∃ k : Nat, k ≤ xs.length ∧ i = .int .i64 k ∧ PlacesTo xs k ∧ Below w.heap.size w wr) (fun _ i _ => xs.length - (intOf i).toNat)
    case atStart => exact ⟨0, Nat.zero_le _, rfl, fun j hj => absurd hj (by omega), Below.refl _ _⟩
    case round =>
      obtain ⟨k, hk, rfl, hs, hbe⟩ := hrel
      by_cases hlt : k < xs.length
      · obtain ⟨b, o, rfl, hbB, hx⟩ := ha (by omega)
        have hck : wr.cell? ⟨b, o + k, none⟩ = some (.int .i64 xs[k]) := (hbe.cell (p := ⟨b, o + k, none⟩) hbB).trans (hx k hlt)
        clear hx ha
        by_cases h0 : xs[k] < 0
        · have HE := Lib.hid (places_not hlt (by simp [placeOk]; omega))
          clear hs
          go_wp2
          go_ret
          exact ⟨ret_bool (by simp [arityOk, HE.out]), hbe⟩
        · have hd : decide (xs[k] < 0) = false := by simpa using h0
          by_cases h2 : 2 < xs[k]
          · have HE := Lib.hid (places_not hlt (by simp [placeOk]; omega))
            clear hs
            go_wp2
            go_ret
            exact ⟨ret_bool (by simp [arityOk, HE.out]), hbe⟩
          · have HS := Lib.hid (hs.step (by simp [hlt, placeOk]; omega))
            clear hs
            go_wp2
            go_roundw
            case rel => exact ⟨k + 1, by omega, by go_num, HS.out, hbe⟩
            case measure => simp [intOf]; omega
      · have hkn : k = xs.length := by omega
        have HE := Lib.hid (show xs.all placeOk = true from PlacesTo.all (by rw [← hkn]; exact hs))
        have HL := Lib.hid hl
        clear hkn hs ha
        go_wp2
        go_ret
        exact ⟨ret_bool (by unfold arityOk; rw [HE.out]; simp [HL.out]), hbe⟩
  · have HL := Lib.hid hl
    have hg : (24 : Int) < xs.length := by omega
    clear ha
    go_enter Try.func52, Try.ntmps52
    go_wp2
    go_ret
    exact ⟨ret_bool (by simp [arityOk, HL.out]), Below.refl _ _⟩

end Go.Proofs.Ytdclfcjbadgmfaa
