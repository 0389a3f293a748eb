/-
  The walk of the specification's FactOrder.
-/
import Derived.Test.YtdclfcjbadgmfaaFactOrder
namespace Go.Proofs.Ytdclfcjbadgmfaa
open Go.RowKit

set_option maxHeartbeats 1000000 in
set_option maxRecDepth 100000 in
theorem specFactOrder_any (v v2 : Value) (f g : LFact) (w : World) (h : RdFact w w.heap.size v f) (h2 : RdFact w w.heap.size v2 g) (hn : f.2.length ≤ 1048576) (hn2 : g.2.length ≤ 1048576) :
    Calls Try.prog 16 #[v, v2] w fun e w' => e = .returned (.int .i64 (factOrder f g)) ∧ Below w.heap.size w w' := by
  obtain ⟨p, xs⟩ := f
  obtain ⟨q, ys⟩ := g
  obtain ⟨a, rfl, A, c, rfl, hc, ha⟩ := h
  obtain ⟨a, rfl, A2, c2, rfl, hc2, hb⟩ := h2
  simp only at ha hb hn hn2 hc hc2
  by_cases hp : p = q
  · subst hp
    have hpb : (p != p) = false := by simp
    have HE := Lib.hid (show factOrder (p, xs) (p, ys) = cmpL xs ys by simp [factOrder])
    go_enter Try.func16, Try.ntmps16
    go_wp2_with (fail)
    obtain ⟨w1, hw1⟩ : ∃ w1, w1 = ((w.alloc (Obj.cells #[Value.int IntKind.i64 p, Value.slice A xs.length c] 25)).alloc (Obj.cells #[Value.int IntKind.i64 p, Value.slice A2 ys.length c2] 25)) := ⟨_, rfl⟩
    have B1 : Below w.heap.size w w1 := by rw [hw1]; exact below2 _ _ _
    have k0 : Blk w1 w.heap.size 25 #[.int .i64 p, .slice A xs.length c] := by rw [hw1]; exact (Blk.new w _ _).alloc _
    have k1 : Blk w1 (w.heap.size + 1) 25 #[.int .i64 p, .slice A2 ys.length c2] := by rw [hw1]; simpa using Blk.new (w.alloc (Obj.cells #[Value.int IntKind.i64 p, Value.slice A xs.length c] 25)) 25 #[.int .i64 p, .slice A2 ys.length c2]
    rw [← hw1]
    clear hw1
    go_loopw [5] (fun i wr => ∃ k : Nat, k ≤ xs.length ∧ k ≤ ys.length ∧ i = .int .i64 k ∧ CmpTo xs ys k ∧ Below w1.heap.size w1 wr) (fun i _ => xs.length - (intOf i).toNat)
    case atStart => exact ⟨0, Nat.zero_le _, Nat.zero_le _, rfl, rfl, Below.refl _ _⟩
    case round =>
      obtain ⟨k, hk, hk2, rfl, hs, hbe⟩ := hrel
      have c0 : wr.cell? ⟨w.heap.size, 1, none⟩ = some (.slice A xs.length c) := (k0.below hbe k0.lt).cell 1
      have c1 : wr.cell? ⟨w.heap.size + 1, 1, none⟩ = some (.slice A2 ys.length c2) := (k1.below hbe k1.lt).cell 1
      by_cases hlt : k < xs.length
      · have hd : decide ((k : Int) < (xs.length : Int)) = true := by simp; omega
        by_cases hlt2 : k < ys.length
        · obtain ⟨b, o, rfl, hbB, hx⟩ := ha (by omega)
          obtain ⟨b2, o2, rfl, hbB2, hx2⟩ := hb (by omega)
          have hB := bthen B1 hbe
          have hck : wr.cell? ⟨b, o + k, none⟩ = some (.int .i64 xs[k]) := (hB.cell (p := ⟨b, o + k, none⟩) hbB).trans (hx k hlt)
          have hck2 : wr.cell? ⟨b2, o2 + k, none⟩ = some (.int .i64 ys[k]) := (hB.cell (p := ⟨b2, o2 + k, none⟩) hbB2).trans (hx2 k hlt2)
          clear hx hx2 ha hb hB
          by_cases he : xs[k] = ys[k]
          · have HS := Lib.hid (show CmpTo xs ys (k + 1) by unfold CmpTo at hs ⊢; rw [hs, cmpL_at hlt hlt2, if_pos he])
            have h0 : (xs[k] != ys[k]) = false := by simp [he]
            clear he hs
            go_wp2_with (fail)
            go_quiet (fail)
            go_wp2_with (fail)
            go_roundw
            case rel => exact ⟨k + 1, by omega, by omega, by go_num, HS.out, bdrewN hbe _⟩
            case measure => simp [intOf]; omega
          · have HS := Lib.hid (show cmpL xs ys = cmpI xs[k] ys[k] by unfold CmpTo at hs; rw [hs, cmpL_at hlt hlt2, if_neg he])
            have h0 : (xs[k] != ys[k]) = true := by simp [he]
            clear he hs
            go_wp2_with (fail)
            go_quiet (fail)
            go_wp2_with (fail)
            go_quiet ((go_at_call 50; exact quiet_add_left (l1Way_any _ _ _)))
            go_wp2_with (fail)
            go_ret
            exact ⟨ret_int (by rw [HE.out, HS.out]), bthen B1 (bdrewN (bdrewN hbe _) _)⟩
        · have HS := Lib.hid (show cmpL xs ys = cmpI xs.length ys.length by
            unfold CmpTo at hs
            rw [hs, cmpL_long hlt (by omega), cmpI, if_neg (by omega), if_pos (by omega)])
          clear hs ha hb
          go_wp2_with (go_at_call 50; refine (l1Way_any _ _ _).mono ?_; rintro e w' ⟨rfl, rfl⟩)
          go_ret
          exact ⟨ret_int (by rw [HE.out, HS.out]), bthen B1 hbe⟩
      · have hd : decide ((k : Int) < (xs.length : Int)) = false := by simp; omega
        have HS := Lib.hid (show cmpL xs ys = cmpI xs.length ys.length by
          unfold CmpTo at hs
          by_cases h3 : xs.length < ys.length
          · rw [hs, cmpL_short (by omega) (by omega), cmpI, if_pos (by omega)]
          · rw [hs, cmpL_end (by omega) (by omega), cmpI, if_neg (by omega), if_neg (by omega)])
        clear hs ha hb
        go_wp2_with (go_at_call 50; refine (l1Way_any _ _ _).mono ?_; rintro e w' ⟨rfl, rfl⟩)
        go_ret
        exact ⟨ret_int (by rw [HE.out, HS.out]), bthen B1 hbe⟩
  · have hpb : (p != q) = true := by simp [hp]
    have HE := Lib.hid (show factOrder (p, xs) (q, ys) = cmpI p q by simp [factOrder, hp])
    clear hp ha hb
    go_enter Try.func16, Try.ntmps16
    go_wp2_with (go_at_call 50; refine (l1Way_any _ _ _).mono ?_; rintro e w' ⟨rfl, rfl⟩)
    go_ret
    exact ⟨ret_int HE.out.symm, below2 _ _ _⟩

end Go.Proofs.Ytdclfcjbadgmfaa
