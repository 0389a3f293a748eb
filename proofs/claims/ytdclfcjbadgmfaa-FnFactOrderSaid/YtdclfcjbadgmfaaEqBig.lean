/-
  The walk of eqFactS once more, for longer lists.
-/
import Derived.Test.YtdclfcjbadgmfaaToFacts
namespace Go.Proofs.Ytdclfcjbadgmfaa
open Go.RowKit

set_option maxHeartbeats 400000 in
set_option maxRecDepth 100000 in
theorem eqFactS_big (va vb : Value) (xs ys : List LFact) (w : World) (ha : RdFacts w w.heap.size va xs) (hb : RdFacts w w.heap.size vb ys) (hx : xs.length ≤ 1073741824) (hy : ys.length ≤ 1073741824) (htx : tot xs ≤ 1073741824) (hty : tot ys ≤ 1073741824) :
    Calls Try.prog 30 #[va, vb] w fun e w' => e = .returned (.bool (decide (xs = ys))) ∧ Below w.heap.size w w' := by
  obtain ⟨A, c, rfl, hc, ha⟩ := ha
  obtain ⟨A2, c2, rfl, hc2, hb⟩ := hb
  by_cases hl : xs.length = ys.length
  · have hl1 : ((xs.length : Int) != (ys.length : Int)) = false := by simp [hl]
    have HL := Lib.hid hl
    clear hl
    go_enter Try.func30, Try.ntmps30
    go_wp2_with (fail)
    go_loopw [5] (fun i wr => ∃ k : Nat, k ≤ xs.length ∧ i = .int .i64 k ∧ FSameTo xs ys k ∧ Below w.heap.size w wr) (fun i _ => xs.length - (intOf i).toNat)
    case atStart => exact ⟨0, Nat.zero_le _, rfl, rfl, Below.refl _ _⟩
    case round =>
      obtain ⟨k, hk, rfl, hs, hbe⟩ := hrel
      by_cases hlt : k < xs.length
      · have hlt2 : k < ys.length := by have := HL.out; omega
        obtain ⟨b, o, rfl, hbB, hxx⟩ := ha (by omega)
        obtain ⟨b2, o2, rfl, hbB2, hyy⟩ := hb (by omega)
        obtain ⟨a, p1, p2, p3⟩ := hxx k hlt
        obtain ⟨a', q1, q2, q3⟩ := hyy k hlt2
        have k1 : wr.cell? ⟨b, o + k * 2, none⟩ = some (.int .i64 xs[k].1) := (hbe.cell (p := ⟨b, o + k * 2, none⟩) hbB).trans p1
        have k2 : wr.cell? ⟨b, o + k * 2 + 1, none⟩ = some a := (hbe.cell (p := ⟨b, o + k * 2 + 1, none⟩) hbB).trans p2
        have k3 : wr.cell? ⟨b2, o2 + k * 2, none⟩ = some (.int .i64 ys[k].1) := (hbe.cell (p := ⟨b2, o2 + k * 2, none⟩) hbB2).trans q1
        have k4 : wr.cell? ⟨b2, o2 + k * 2 + 1, none⟩ = some a' := (hbe.cell (p := ⟨b2, o2 + k * 2 + 1, none⟩) hbB2).trans q2
        have hln := len_le_tot xs k hlt
        have hln2 := len_le_tot ys k hlt2
        have HA := Lib.hid p3
        have HA2 := Lib.hid q3
        obtain ⟨A3, c3, rfl, hc3, _⟩ := p3
        obtain ⟨A4, c4, rfl, hc4, _⟩ := q3
        clear hxx hyy ha hb p1 p2 q1 q2
        go_wp2_with (fail)
        go_still_tail 8, (by kernel_rfl)
        change wpList _ _ _ _ _ wr.drew
        obtain ⟨w2, hw2⟩ : ∃ w2, w2 = wr.drew := ⟨_, rfl⟩
        rw [← hw2]
        have hbe2 : Below w.heap.size w w2 := by rw [hw2]; exact hbe.drew
        clear hw2
        go_wp2_with (fail)
        refine (eqFact_any _ _ xs[k] ys[k] _ ⟨_, rfl, (HA.out.below hbe2 (Nat.le_refl _)).more hbe2.size⟩ ⟨_, rfl, (HA2.out.below hbe2 (Nat.le_refl _)).more hbe2.size⟩ (by omega) (by omega)).mono ?_
        rintro e w4 ⟨rfl, hb4⟩
        have hB4 := hbe2.trans (hb4.mono hbe2.size)
        by_cases he : xs[k] = ys[k]
        · have hdb : decide (xs[k] = ys[k]) = true := by simp [he]
          have HS := Lib.hid (hs.step hlt hlt2 he)
          clear he hs
          go_wp2_with (fail)
          go_roundw
          case rel => exact ⟨k + 1, by omega, by go_num, HS.out, hB4⟩
          case measure => simp [intOf]; omega
        · have hdb : decide (xs[k] = ys[k]) = false := by simp [he]
          have HE := Lib.hid (show xs ≠ ys from fun e => he (by subst e; rfl))
          clear he hs
          go_wp2_with (fail)
          go_ret
          exact ⟨ret_bool (by simp [HE.out]), hB4⟩
      · have hkn : k = xs.length := by omega
        have HE := Lib.hid (show xs = ys from FSameTo.eq (by rw [← hkn]; exact hs) HL.out)
        clear hkn hs ha hb
        go_wp2_with (fail)
        go_ret
        exact ⟨ret_bool (by simp [HE.out]), hbe⟩
  · have hl1 : ((xs.length : Int) != (ys.length : Int)) = true := by simp; omega
    have HE := Lib.hid (show xs ≠ ys from fun e => hl (by rw [e]))
    clear ha hb hl
    go_enter Try.func30, Try.ntmps30
    go_wp2_with (fail)
    go_ret
    exact ⟨ret_bool (by simp [HE.out]), Below.refl _ _⟩


end Go.Proofs.Ytdclfcjbadgmfaa
