/-
  The arguments of AllFacts drawn; the order turned round.
-/
import Derived.Test.YtdclfcjbadgmfaaDrawInts
import Derived.Test.YtdclfcjbadgmfaaWrFacts
namespace Go.Proofs.Ytdclfcjbadgmfaa
open Go.RowKit

theorem cmpI_turn (a b : Int) : cmpI a b = -cmpI b a := by
  unfold cmpI
  split <;> split <;> (try split) <;> omega
theorem cmpL_turn : ∀ xs ys : List Int, cmpL xs ys = -cmpL ys xs
  | [], [] => rfl
  | [], _ :: _ => rfl
  | _ :: _, [] => rfl
  | x :: xs, y :: ys => by
    unfold cmpL
    by_cases h : x = y
    · subst h
      simpa using cmpL_turn xs ys
    · rw [if_neg h, if_neg (fun e => h e.symm)]
      exact cmpI_turn x y
theorem factOrder_turn (f g : LFact) : factOrder f g = -factOrder g f := by
  unfold factOrder
  by_cases h : f.1 = g.1
  · rw [if_pos h, if_pos h.symm]
    exact cmpL_turn _ _
  · rw [if_neg h, if_neg (fun e => h e.symm)]
    exact cmpI_turn _ _

set_option maxHeartbeats 1000000 in
set_option maxRecDepth 100000 in
theorem drawAllFacts_any (v : Value) (bs : List Nat) (w : World) (h : RdBytes w w.heap.size v bs) (hby : ∀ b ∈ bs, b < 256) (hn : bs.length ≤ 1073741824) :
    Calls Try.prog 13 #[v] w fun e w' => (∃ x y, e = .returned (.tuple #[.int .i64 x, .int .i64 y]) ∧ x ∈ [0, 3, 23, 24, -1] ∧ y ∈ [0, 1, 2, 3, -1, 2]) ∧ Below w.heap.size w w' := by
  go_enter Try.func13, Try.ntmps13
  go_wp2_with (fail)
  refine (l40Open_any v bs w h hby hn).mono ?_
  rintro e w1 ⟨rfl, hr1, hb1⟩
  have HR := Lib.hid hr1
  have hz1 := hr1.lt
  clear h hr1
  go_wp2_with (fail)
  refine (num_any w.heap.size (bs.take 2000) 0 _ _ [0, 3, 23, 24, -1] 5 _ (HR.out.below (below1 _ _) hz1) (by omega) (Blk.new _ _ _) rfl (by omega) rfl (by simp) (by simp)).mono ?_
  rintro e w2 ⟨⟨x, rfl, hx⟩, hp2⟩
  have HX := Lib.hid hx
  have HP2 := Lib.hid hp2
  have hz2 := hp2.1.lt
  clear hx hp2
  go_wp2_with (fail)
  refine (num_any w.heap.size (bs.take 2000) 1 _ _ [0, 1, 2, 3, -1, 2] 6 _ (HP2.out.1.below (below1 _ _) hz2) (by omega) (Blk.new _ _ _) rfl (by omega) rfl (by simp) (by simp)).mono ?_
  rintro e w3 ⟨⟨y, rfl, hy⟩, hp3⟩
  have HY := Lib.hid hy
  have HB := Lib.hid (show Below w.heap.size w w3 from
    ((((hb1.trans ((below1 w1 _).mono hb1.size)).trans (HP2.out.2.below (Nat.le_refl _) (by simp; omega))).trans ((below1 w2 _).mono (by omega))).trans (hp3.2.below (Nat.le_refl _) (by simp; omega))))
  clear hy hp3
  go_wp2_with (fail)
  refine bodyPost_ret (v := .tuple #[.int .i64 x, .int .i64 y]) (by simp [results, Try.results13, go_sem]) rfl ?_
  exact ⟨⟨x, y, rfl, HX.out, HY.out⟩, HB.out⟩

end Go.Proofs.Ytdclfcjbadgmfaa
