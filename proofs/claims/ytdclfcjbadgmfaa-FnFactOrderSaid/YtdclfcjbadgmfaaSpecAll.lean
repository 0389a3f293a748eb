/-
  The walk of the specification's AllFacts.
-/
import Derived.Test.YtdclfcjbadgmfaaDigits
import Derived.Test.YtdclfcjbadgmfaaWith
namespace Go.Proofs.Ytdclfcjbadgmfaa
open Go.RowKit

theorem digits_one {m : Nat} (h : m < 6) : digits m 1 = [(m : Int)] := by
  simp [digits, Nat.mod_eq_of_lt h]
theorem digits_two {m : Nat} (h : m < 36) : digits m 2 = [(m : Int) / 6, (m : Int) % 6] := by
  have h1 : m / 6 % 6 = m / 6 := Nat.mod_eq_of_lt (by omega)
  have h2 : digits m 2 = [((m / 6 % 6 : Nat) : Int), ((m % 6 : Nat) : Int)] := by
    unfold digits
    rw [List.range_succ, List.range_succ]
    simp
  rw [h2, h1]
  congr 1

/-- A row that the call lays, written out. -/
theorem ownInts_new (w : World) (xs : List Int) (cs : Array Value) (hcs : cs.toList = xs.map (Value.int .i64)) (hm : xs.length ≤ 4) {lo : Nat} (hlo : lo ≤ w.heap.size) :
    OwnInts (w.alloc (.cells cs 3)) lo (w.alloc (.cells cs 3)).heap.size (.slice (some ⟨w.heap.size, 0, none⟩) xs.length xs.length) xs := by
  have hsz : cs.size = xs.length := by rw [← Array.length_toList, hcs, List.length_map]
  refine ⟨⟨by simp, .inr ⟨w.heap.size, xs.length, cs, rfl, hlo, heap_alloc_new w _, Nat.le_refl _, by unfold maxLen; omega, by simpa using hsz, ?_⟩⟩, fun g hg => ?_⟩
  · rw [hcs]
    exact List.take_of_length_le (by simp)
  · simp [Value.ownBlock] at hg
    subst hg
    simp

/-- wpList_push, the new block's number as the walk spells it. -/
theorem wpList_push_at {ops : Array Oper} {rest : List Oper} {op : Oper} {a : Act} {Q : Exit → Act → World → Prop} (hgd : op.guard = none) (s x : Operand)
    (ho : op.op = .call { callee := .builtin .append, args := #[s, x], argTypes := #[31, 31] })
    {w wr w2 : World} {gs gs' : List LFact} {A A4 : Option Addr} {c c4 b l : Nat} {av : List Value} {f : LFact} (h : ColRel w wr gs A c av) (hb : Below wr.heap.size wr w2) (ha : OwnInts w2 wr.heap.size w2.heap.size (.slice A4 l c4) f.2) (hl : l = f.2.length)
    {n : Nat} (hnl : n = gs.length) (hs : a.eval s = .slice A n c) (hbe : b = w2.heap.size) (hx : a.eval x = .slice (some ⟨b, 0, none⟩) 1 1) (hn : gs.length ≤ 1073741824) (hgs : gs' = gs ++ [f])
    (K : ∀ g cap w4 av', ColRel w w4 gs' (some ⟨g, 0, none⟩) cap av' → wpList Try.prog ops Q rest (a.put op.dst (.slice (some ⟨g, 0, none⟩) (n + 1) cap)) w4) :
    wpList Try.prog ops Q (op :: rest) a (w2.alloc (.cells #[.int .i64 f.1, .slice A4 l c4] 25)) := by
  subst hl
  subst hbe
  subst hgs
  exact wpList_push hgd s x ho h hb ha hnl hs hx hn fun g cap w4 av' h1 _ => K g cap w4 av' h1

set_option maxHeartbeats 2000000 in
set_option maxRecDepth 100000 in
theorem specAllFacts_any (p q : Int) (w : World) :
    Calls Try.prog 18 #[.int .i64 p, .int .i64 q] w fun e w' => ∃ A' c', e = .returned (.slice A' (allFacts p q).length c') ∧ OwnFacts w' w.heap.size w'.heap.size (.slice A' (allFacts p q).length c') (allFacts p q) ∧ Below w.heap.size w w' := by
  by_cases hp : 0 ≤ p ∧ p ≤ 23
  · have CP := Lib.hid (l1In_yes hp)
    by_cases hq : 0 ≤ q ∧ q ≤ 2
    · have CQ := Lib.hid (l1In_yes hq)
      obtain ⟨n, rfl⟩ := Int.eq_ofNat_of_zero_le hq.1
      have hn2 : n ≤ 2 := by omega
      have HR := Lib.hid (show allFacts p (n : Int) = allTo p n (6 ^ n) by unfold allFacts allOk; rw [if_pos (by simp [hp]; omega)]; simp)
      clear hq
      go_enter Try.func18, Try.ntmps18
      go_wp2_with (fail)
      refine (CP.out _).mono ?_
      rintro e w' ⟨rfl, rfl⟩
      go_wp2_with (fail)
      refine (CQ.out _).mono ?_
      rintro e w' ⟨rfl, rfl⟩
      go_wp2_with (fail)
      obtain ⟨w1, hw1⟩ : ∃ w1, w1 = w.alloc (Obj.cells #[] 25) := ⟨_, rfl⟩
      have hc0 : ColRel w w1 [] (some ⟨w.heap.size, 0, none⟩) 0 [] := by rw [hw1]; exact ColRel.empty w
      rw [← hw1]
      clear hw1
      go_loop [6, 7] (fun m i => ∃ j : Nat, j ≤ n ∧ i = .int .i64 j ∧ m = .int .i64 ((6 ^ j : Nat) : Int)) (fun _ i => n - (intOf i).toNat)
      case atStart => exact ⟨0, Nat.zero_le _, rfl, rfl⟩
      case round =>
        obtain ⟨j, hj, rfl, rfl⟩ := hrel
        by_cases hlt : j < n
        · have h6 : (6 : Nat) ^ j ≤ 36 := Nat.pow_le_pow_right (by decide) (show j ≤ 2 by omega)
          obtain ⟨t, ht⟩ : ∃ t, t = 6 ^ j := ⟨_, rfl⟩
          have HT := Lib.hid (show t * 6 = 6 ^ (j + 1) by rw [ht, Nat.pow_succ])
          rw [← ht] at h6 ⊢
          clear ht
          go_wp2_with (fail)
          go_round
          case rel => exact ⟨j + 1, by omega, by go_num, by rw [← HT.out]; go_num⟩
          case measure => simp [intOf]; omega
        · have hjn : j = n := by omega
          subst hjn
          obtain ⟨t, ht⟩ : ∃ t, t = 6 ^ j := ⟨_, rfl⟩
          have h6 : t ≤ 36 := by rw [ht]; exact Nat.pow_le_pow_right (by decide) hn2
          rw [← ht] at HR ⊢
          have HT := Lib.hid ht
          clear ht
          go_wp2_with (fail)
          go_loopw [5, 8, 9] (fun o i _ wr => ∃ (m : Nat) (A' : Option Addr) (c' : Nat) (av : List Value), m ≤ t ∧ i = .int .i64 m ∧ o = .slice A' m c' ∧ ColRel w wr (allTo p j m) A' c' av) (fun _ i _ _ => t - (intOf i).toNat)
          case atStart => exact ⟨0, _, 0, [], Nat.zero_le _, rfl, rfl, by simpa [allTo] using hc0⟩
          case round =>
            obtain ⟨m, A', c', av, hm, rfl, rfl, hcol⟩ := hrel
            by_cases hlt : m < t
            · have HC := Lib.hid hcol
              clear hcol
              have hml := allTo_length p j m
              rcases (by omega : j = 0 ∨ j = 1 ∨ j = 2) with h0 | h0 | h0
              · have t1 : ((j : Int) == 1) = false := by simp [h0]
                have t2 : ((j : Int) == 2) = false := by simp [h0]
                have HD := Lib.hid (show allTo p j (m + 1) = allTo p j m ++ [(p, [])] by rw [allTo_snoc]; rw [show digits m j = [] by rw [h0]; rfl])
                clear h0
                go_wp2_with (at_builtin; refine wpList_push_at rfl (.tmp 47) (.tmp 49) rfl (f := (p, [])) HC.out (below1 _ _) ⟨World.ownsRow_nil _ _ _ _, fun g hg => by cases hg⟩ rfl hml.symm rfl (by simp) rfl (by rw [hml]; omega) HD.out ?_; intro g4 cap4 w4 av4 hcol4; have HC4 := Lib.hid hcol4; clear hcol4)
                go_roundw
                case rel => exact ⟨m + 1, _, _, _, by omega, by go_num, rfl, HC4.out⟩
                case measure => simp [intOf]; omega
              · have t1 : ((j : Int) == 1) = true := by simp [h0]
                have HD := Lib.hid (show allTo p j (m + 1) = allTo p j m ++ [(p, [(m : Int)])] by rw [allTo_snoc]; rw [h0, digits_one (by have := HT.out; rw [h0] at this; omega)])
                clear h0
                have HO := Lib.hid (show OwnInts ((wr.alloc (Obj.cells #[Value.int IntKind.i64 p, Value.slice (some ⟨wr.heap.size + 1, 0, none⟩) 1 1] 25)).alloc (Obj.cells #[.int .i64 m] 3)) wr.heap.size ((wr.alloc (Obj.cells #[Value.int IntKind.i64 p, Value.slice (some ⟨wr.heap.size + 1, 0, none⟩) 1 1] 25)).alloc (Obj.cells #[.int .i64 m] 3)).heap.size (.slice (some ⟨wr.heap.size + 1, 0, none⟩) 1 1) [(m : Int)] by
                  have := ownInts_new (wr.alloc (Obj.cells #[Value.int IntKind.i64 p, Value.slice (some ⟨wr.heap.size + 1, 0, none⟩) 1 1] 25)) [(m : Int)] #[.int .i64 m] rfl (by simp) (lo := wr.heap.size) (by simp)
                  simpa using this)
                go_wp2_with (at_builtin; refine wpList_push_at rfl (.tmp 47) (.tmp 49) rfl (f := (p, [(m : Int)])) HC.out (below2 _ _ _) HO.out rfl hml.symm rfl (by simp) rfl (by rw [hml]; omega) HD.out ?_; intro g4 cap4 w4 av4 hcol4; have HC4 := Lib.hid hcol4; clear hcol4)
                go_roundw
                case rel => exact ⟨m + 1, _, _, _, by omega, by go_num, rfl, HC4.out⟩
                case measure => simp [intOf]; omega
              · have t1 : ((j : Int) == 1) = false := by simp [h0]
                have t2 : ((j : Int) == 2) = true := by simp [h0]
                have HD := Lib.hid (show allTo p j (m + 1) = allTo p j m ++ [(p, [(m : Int) / 6, (m : Int) % 6])] by rw [allTo_snoc]; rw [h0, digits_two (by have := HT.out; rw [h0] at this; omega)])
                clear h0
                have HO := Lib.hid (show OwnInts ((wr.alloc (Obj.cells #[Value.int IntKind.i64 p, Value.slice (some ⟨wr.heap.size + 1, 0, none⟩) 2 2] 25)).alloc (Obj.cells #[.int .i64 ((m : Int) / 6), .int .i64 ((m : Int) % 6)] 3)) wr.heap.size ((wr.alloc (Obj.cells #[Value.int IntKind.i64 p, Value.slice (some ⟨wr.heap.size + 1, 0, none⟩) 2 2] 25)).alloc (Obj.cells #[.int .i64 ((m : Int) / 6), .int .i64 ((m : Int) % 6)] 3)).heap.size (.slice (some ⟨wr.heap.size + 1, 0, none⟩) 2 2) [(m : Int) / 6, (m : Int) % 6] by
                  have := ownInts_new (wr.alloc (Obj.cells #[Value.int IntKind.i64 p, Value.slice (some ⟨wr.heap.size + 1, 0, none⟩) 2 2] 25)) [(m : Int) / 6, (m : Int) % 6] #[.int .i64 ((m : Int) / 6), .int .i64 ((m : Int) % 6)] rfl (by simp) (lo := wr.heap.size) (by simp)
                  simpa using this)
                go_wp2_with (at_builtin; refine wpList_push_at rfl (.tmp 47) (.tmp 49) rfl (f := (p, [(m : Int) / 6, (m : Int) % 6])) HC.out (below2 _ _ _) HO.out rfl hml.symm rfl (by simp) rfl (by rw [hml]; omega) HD.out ?_; intro g4 cap4 w4 av4 hcol4; have HC4 := Lib.hid hcol4; clear hcol4)
                go_roundw
                case rel => exact ⟨m + 1, _, _, _, by omega, by go_num, rfl, HC4.out⟩
                case measure => simp [intOf]; omega
            · have hmt : m = t := by omega
              have HE := Lib.hid (show allFacts p (j : Int) = allTo p j m by rw [HR.out, hmt])
              have HL := Lib.hid (allTo_length p j m)
              have HO := Lib.hid hcol
              clear hmt hcol
              go_wp2_with (fail)
              go_ret
              rw [HE.out]
              exact ⟨A', c', congrArg (fun l => Ending.returned (.slice A' l c')) HL.out.symm, HO.out.own.own, HO.out.below⟩
    · have CQ := Lib.hid (l1In_no hq)
      have HE := Lib.hid (show allFacts p q = [] by unfold allFacts allOk; rw [if_neg (by simp [hp]; omega)])
      clear hq
      go_enter Try.func18, Try.ntmps18
      go_wp2_with (fail)
      refine (CP.out _).mono ?_
      rintro e w' ⟨rfl, rfl⟩
      go_wp2_with (fail)
      refine (CQ.out _).mono ?_
      rintro e w' ⟨rfl, rfl⟩
      go_wp2_with (fail)
      go_ret
      rw [HE.out]
      exact ⟨some ⟨w.heap.size, 0, none⟩, 0, rfl, (ColRel.empty w).own.own, below1 _ _⟩
  · have CP := Lib.hid (l1In_no hp)
    have HE := Lib.hid (show allFacts p q = [] by unfold allFacts allOk; rw [if_neg (by simp; omega)])
    clear hp
    go_enter Try.func18, Try.ntmps18
    go_wp2_with (fail)
    refine (CP.out _).mono ?_
    rintro e w' ⟨rfl, rfl⟩
    go_wp2_with (fail)
    go_ret
    rw [HE.out]
    exact ⟨some ⟨w.heap.size, 0, none⟩, 0, rfl, (ColRel.empty w).own.own, below1 _ _⟩

end Go.Proofs.Ytdclfcjbadgmfaa
