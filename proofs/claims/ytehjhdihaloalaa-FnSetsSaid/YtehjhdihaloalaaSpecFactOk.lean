/-
  The walk of the specification's FactOk.
-/
import Derived.Test.YtehjhdihaloalaaFactOk
namespace Go.Proofs.Ytehjhdihaloalaa
open Go.RowKit

set_option maxHeartbeats 400000 in
set_option maxRecDepth 100000 in
theorem specFactOk_any (v v2 : Value) (ar : List Int) (f : LFact) (w : World) (h : RdInts w w.heap.size v ar) (h2 : RdFact w w.heap.size v2 f) (hr : ar.length ≤ 1048576) (hn : f.2.length ≤ 1048576) :
    Calls Try.prog 15 #[v, v2] w fun e w' => e = .returned (.bool (factOk ar f)) ∧ Below w.heap.size w w' := by
  have H := Lib.hid h
  have H2 := Lib.hid h2
  obtain ⟨pp, xs⟩ := f
  obtain ⟨A, c, rfl, hc, h⟩ := h
  obtain ⟨a, rfl, A2, c2, rfl, hc2, h2⟩ := h2
  by_cases ha : arityOk ar = true
  · have CA : ∀ W, Below w.heap.size w W → Calls Try.prog 62 #[.slice A ar.length c] W fun e w' => e = .returned (.bool true) ∧ w' = W := fun W hW =>
      (specArityOk_any _ ar W (H.out.on hW) (by omega)).mono fun e w' ⟨he, hw⟩ => ⟨by rw [he, ha], hw.symm⟩
    have HCA := Lib.hid CA
    have HA := Lib.hid ha
    clear CA ha
    by_cases hp : 0 ≤ pp ∧ pp ≤ (ar.length : Int) - 1
    · have HCL := Lib.hid (l1In_yes hp)
      obtain ⟨p, rfl⟩ := Int.eq_ofNat_of_zero_le hp.1
      have hlt : p < ar.length := by omega
      have hltI : (p : Int) < (ar.length : Int) := by omega
      obtain ⟨b, o, rfl, hbB, hx⟩ := h (by omega)
      have hck : ∀ O, (w.alloc O).cell? ⟨b, o + p, none⟩ = some (.int .i64 ar[p]) := fun O => (World.cell?_alloc_lt w O ⟨b, o + p, none⟩ hbB).trans (hx p hlt)
      clear hp
      by_cases h3 : (xs.length : Int) = ar[p]
      · have hd3 : ((xs.length : Int) != ar[p]) = false := by simp [h3]
        have H3 := Lib.hid (show factOk ar ((p : Int), xs) = xs.all constOk by simp [factOk, HA.out, factFits, hlt, h3])
        clear h3 hx h
        go_enter Try.func15, Try.ntmps15
        go_wp2_with (fail)
        go_quiet (first | (go_at_call 62; exact Calls.quiet_of_same (HCA.out _ (bdrewN (below1 _ _) _))) | (go_at_call 63; exact quiet_left (HCL.out _)))
        go_wp2_with (fail)
        obtain ⟨w1, hw1⟩ : ∃ w1, w1 = (w.alloc (Obj.cells #[Value.int IntKind.i64 ↑p, Value.slice A2 xs.length c2] 28)).drewN nq := ⟨_, rfl⟩
        rw [← hw1]
        have hbe : Below w.heap.size w w1 := by rw [hw1]; exact bdrewN (below1 _ _) _
        have hblk : Blk w1 w.heap.size 28 #[.int .i64 p, .slice A2 xs.length c2] := by rw [hw1]; exact (Blk.new w _ _).drewN _
        have hc1 : w1.cell? ⟨w.heap.size, 1, none⟩ = some (.slice A2 xs.length c2) := hblk.cell 1
        clear hw1 hck
        go_loop [5] (fun i => ∃ k : Nat, k ≤ xs.length ∧ i = .int .i64 k ∧ ConstsTo xs k) (fun i => xs.length - (intOf i).toNat)
        case atStart => exact ⟨0, Nat.zero_le _, rfl, fun j hj => absurd hj (by omega)⟩
        case round =>
          obtain ⟨k, hk, rfl, hs⟩ := hrel
          by_cases hlk : k < xs.length
          · obtain ⟨b2, o2, rfl, hbB2, hx2⟩ := h2 (by show 0 < xs.length; omega)
            have hck2 : w1.cell? ⟨b2, o2 + k, none⟩ = some (.int .i64 xs[k]) := (hbe.cell (p := ⟨b2, o2 + k, none⟩) hbB2).trans (hx2 k hlk)
            clear hx2 h2
            by_cases he : 0 ≤ xs[k] ∧ xs[k] ≤ 5
            · have HS := Lib.hid (hs.step (by simpa [hlk, constOk] using he))
              have HK := Lib.hid (l1In_yes he)
              clear hs he
              go_wp2_with (go_at_call 63; refine (HK.out _).mono ?_; rintro e w' ⟨rfl, rfl⟩)
              go_round
              case rel => exact ⟨k + 1, by omega, by go_num, HS.out⟩
              case measure => simp [intOf]; omega
            · have HE := Lib.hid (consts_not hlk (by simpa [constOk] using he))
              have HK := Lib.hid (l1In_no he)
              clear hs he
              go_wp2_with (go_at_call 63; refine (HK.out _).mono ?_; rintro e w' ⟨rfl, rfl⟩)
              go_ret
              exact ⟨ret_bool (by rw [H3.out, HE.out]), hbe⟩
          · have hkn : k = xs.length := by omega
            have HE := Lib.hid (show xs.all constOk = true from ConstsTo.all (by rw [← hkn]; exact hs))
            clear hkn hs h2
            go_wp2_with (fail)
            go_ret
            exact ⟨ret_bool (by rw [H3.out, HE.out]), hbe⟩
      · have hd3 : ((xs.length : Int) != ar[p]) = true := by simp [h3]
        have HE := Lib.hid (show factOk ar ((p : Int), xs) = false by simp [factOk, factFits, hlt, h3])
        clear h3 hx h
        go_enter Try.func15, Try.ntmps15
        go_wp2_with (fail)
        go_quiet (first | (go_at_call 62; exact Calls.quiet_of_same (HCA.out _ (bdrewN (below1 _ _) _))) | (go_at_call 63; exact quiet_left (HCL.out _)))
        go_wp2_with (fail)
        go_ret
        exact ⟨ret_bool HE.out.symm, bdrewN (below1 _ _) _⟩
    · have HCL := Lib.hid (l1In_no hp)
      have HE := Lib.hid (show factOk ar (pp, xs) = false by simp [factOk, factFits]; omega)
      clear hp
      go_enter Try.func15, Try.ntmps15
      go_wp2_with (fail)
      go_quiet (first | (go_at_call 62; exact Calls.quiet_of_same (HCA.out _ (bdrewN (below1 _ _) _))) | (go_at_call 63; exact quiet_left (HCL.out _)))
      go_wp2_with (fail)
      go_ret
      exact ⟨ret_bool HE.out.symm, bdrewN (below1 _ _) _⟩
  · have CA : ∀ W, Below w.heap.size w W → Calls Try.prog 62 #[.slice A ar.length c] W fun e w' => e = .returned (.bool false) ∧ w' = W := fun W hW =>
      (specArityOk_any _ ar W (H.out.on hW) (by omega)).mono fun e w' ⟨he, hw⟩ => ⟨by rw [he, show arityOk ar = false by simpa using ha], hw.symm⟩
    have HCA := Lib.hid CA
    have HE := Lib.hid (show factOk ar (pp, xs) = false by simp [factOk, ha])
    clear CA ha
    go_enter Try.func15, Try.ntmps15
    go_wp2_with (fail)
    go_quiet (first | (go_at_call 62; exact Calls.quiet_of_same (HCA.out _ (bdrewN (below1 _ _) _))))
    go_wp2_with (fail)
    go_ret
    exact ⟨ret_bool HE.out.symm, bdrewN (below1 _ _) _⟩

end Go.Proofs.Ytehjhdihaloalaa
