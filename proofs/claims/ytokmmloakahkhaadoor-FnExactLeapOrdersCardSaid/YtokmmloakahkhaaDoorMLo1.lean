/-
  Texts that the claim's last one imports, laid together: part 1 of 2. No condition of its own.
-/
import Derived.Test.YtokmmloakahkhaaDoorMLk1
import Derived.Test.YtokmmloakahkhaaDoorMLk3
import Derived.Test.YtokmmloakahkhaaDoorMLk5
import Derived.Test.YtokmmloakahkhaaDoorMLk2
import Derived.Deep.DeepAppendRoom
import Derived.Deep.AppendLies
import Derived.Maps.AppendAt
import Derived.Laws.Append
import Derived.Deep.DeepCutAuto
import Derived.Shelf.Slices.Clone
import Derived.Test.YtokmmloakahkhaaDoorChecked
import Derived.Deep.Slices
/-
  The walks of both VarsOf.
-/
namespace Go.Proofs.YtokmmloakahkhaaDoor
open Go.RowKit

def varsOf (r : LRule) : List Int := bitsOf (ruleMask r)
/-- The marks below k. -/
def marksTo (m k : Nat) : List Int := ((List.range k).filter fun j => m.testBit j).map fun j : Nat => (j : Int)
theorem marksTo_yes {m k : Nat} (h : m.testBit k = true) : marksTo m (k + 1) = marksTo m k ++ [(k : Int)] := by
  unfold marksTo
  rw [List.range_succ, List.filter_append, List.map_append]
  simp [h]
theorem marksTo_no {m k : Nat} (h : m.testBit k = false) : marksTo m (k + 1) = marksTo m k := by
  unfold marksTo
  rw [List.range_succ, List.filter_append, List.map_append]
  simp [h]
theorem marksTo_length (m k : Nat) : (marksTo m k).length ≤ k := by
  unfold marksTo
  rw [List.length_map]
  exact Nat.le_trans (List.length_filter_le _ _) (by simp)
theorem marks_bits (k : Nat) (hk : k ≤ 64) {m : Nat} (hm : m < 2 ^ k) : marksTo m k = bitsOf m := by
  unfold marksTo bitsOf
  obtain ⟨d, hd⟩ : ∃ d, 64 = k + d := ⟨64 - k, by omega⟩
  rw [hd, List.range_add, List.filter_append, List.map_append]
  have : ((List.range d).map (k + ·)).filter (fun j => m.testBit j) = [] := by
    rw [List.filter_eq_nil_iff]
    intro j hj
    simp only [List.mem_map, List.mem_range] at hj
    obtain ⟨a, ha, rfl⟩ := hj
    have : m.testBit (k + a) = false := Nat.testBit_lt_two_pow (Nat.lt_of_lt_of_le hm (Nat.pow_le_pow_right (by omega) (by omega)))
    simp [this]
  rw [this]
  simp

set_option maxHeartbeats 1000000 in
set_option maxRecDepth 100000 in
theorem specVarsOf_any (v : Value) (r : LRule) (w : World) (h : RdRule w w.heap.size v r) (hr : szR r ≤ 1048576) :
    Calls Tryd.prog 62 #[v] w fun e w' => ∃ A' c', e = .returned (.slice A' (varsOf r).length c') ∧ OwnInts w' w.heap.size w'.heap.size (.slice A' (varsOf r).length c') (varsOf r) ∧ Below w.heap.size w w' := by
  obtain ⟨i0, hi0, hz0, hz1, hz2⟩ := info_parts Tryd.infoInt
  have hm := ruleMask_lt r
  have HE := Lib.hid (marks_bits 4 (by omega) hm)
  have H := Lib.hid h
  obtain ⟨a, b, rfl, h, h2⟩ := h
  obtain ⟨A, c, rfl, hc, _⟩ := h
  obtain ⟨A2, c2, rfl, hcc, _⟩ := h2
  go_enter Tryd.func62, Tryd.ntmps62
  go_wp2_with (fail)
  refine (l2Marks_any _ r _ (H.out.on (below1 _ _)) hr).mono ?_
  rintro e w1 ⟨g, rfl, m1, hg, hb1⟩
  have B1 := bthen (below1 _ _) hb1
  clear hb1
  go_wp2_with (fail)
  have hgl := m1.lt
  go_loopw [4, 5] (fun o i wr => ∃ (k : Nat) (A' : Option Addr) (c' : Nat), k ≤ 4 ∧ i = .int .i64 k ∧ o = .slice A' (marksTo (ruleMask r) k).length c' ∧ ColI w1 wr (marksTo (ruleMask r) k) A' c') (fun _ i _ => 4 - (intOf i).toNat)
  case atStart => exact ⟨0, _, 0, Nat.zero_le _, rfl, rfl, ColI.empty (Below.refl _ _)⟩
  case round =>
    obtain ⟨k, A', c', hk, rfl, rfl, hr2⟩ := hrel
    have hln := marksTo_length (ruleMask r) k
    by_cases hlt : k < 4
    · have hck := (m1.below hr2.below hgl).cell hlt
      cases he : (ruleMask r).testBit k
      · rw [he] at hck
        have HS := Lib.hid (marksTo_no he)
        have HP := Lib.hid hr2
        clear he hr2
        go_wp2_with (fail)
        go_roundw
        case rel => exact ⟨k + 1, _, _, by omega, by go_num, by rw [HS.out], by rw [HS.out]; exact HP.out⟩
        case measure => simp [intOf]; omega
      · rw [he] at hck
        have HS := Lib.hid (marksTo_yes he)
        have HP := Lib.hid hr2
        clear he hr2
        go_wp2_with (at_builtin; refine wpList_append_lies _ rfl (.tmp 19) (.tmp 21) 23 rfl w1.heap.size 3 i0 (.int .i64 0) 1 8 Tryd.underlying23 hi0 hz0 hz1 hz2 rfl (by decide) (.slice A' (marksTo (ruleMask r) k).length c') (marksTo (ruleMask r) k).length ((marksTo (ruleMask r) k).map (Value.int .i64)) rfl ?c1 ⟨_, 0, none⟩ 1 1 [.int .i64 k] rfl rfl (news1s _ _ _ _ (by simp)) ?c2 (by omega) (by unfold maxLen; omega) (by omega) ?c3 _ rfl ?_)
        case c1 => exact HP.out.own.1.alloc _
        case c2 => intro u hu; simp at hu; subst hu; rfl
        case c3 => have := HP.out.below.size; simp; omega
        intro g2 cap w4 hown hg2 _ _
        have hcol := HP.out.push (Below.refl _ _) hg2 hown
        rw [← HS.out] at hcol
        have hlen : (marksTo (ruleMask r) k).length + 1 = (marksTo (ruleMask r) (k + 1)).length := by rw [HS.out]; simp
        rw [hlen]
        have HC := Lib.hid hcol
        clear hcol hlen hown hg2
        go_wp2_with (fail)
        go_roundw
        case rel => exact ⟨k + 1, _, _, by omega, by go_num, rfl, HC.out⟩
        case measure => simp [intOf]; omega
    · have HO := Lib.hid (show OwnInts wr w1.heap.size wr.heap.size (.slice A' (varsOf r).length c') (varsOf r) ∧ marksTo (ruleMask r) k = varsOf r by
        have := hr2.own
        rw [show k = 4 by omega, HE.out] at this ⊢
        exact ⟨this, rfl⟩)
      have hbe := bthen B1 hr2.below
      have hsz := B1.size
      rw [HO.out.2]
      clear hr2
      go_wp2_with (fail)
      go_ret
      exact ⟨_, _, rfl, HO.out.1.mono hsz (Nat.le_refl _), hbe⟩

end Go.Proofs.YtokmmloakahkhaaDoor
/-
  All orders of a body's variables. Plain mathematics.
-/
namespace Go.Proofs.YtokmmloakahkhaaDoor
open Go.RowKit

theorem bitsL_mem {x : Nat} {i : Int} : i ∈ bitsOf x ↔ ∃ j : Nat, j < 64 ∧ x.testBit j = true ∧ (j : Int) = i := by
  unfold bitsOf
  rw [List.mem_map]
  constructor
  · rintro ⟨j, hj, e⟩
    rw [List.mem_filter, List.mem_range] at hj
    exact ⟨j, hj.1, hj.2, e⟩
  · rintro ⟨j, h1, h2, e⟩
    exact ⟨j, List.mem_filter.2 ⟨List.mem_range.2 h1, h2⟩, e⟩
theorem bitsL_up (x : Nat) : (bitsOf x).Pairwise (· < ·) := by
  unfold bitsOf
  rw [List.pairwise_map]
  exact (List.pairwise_lt_range.filter _).imp fun h => by omega
/-- A word without the bit of a number. -/
def lessV (m : Nat) (v : Int) : Nat := m ^^^ (m &&& 2 ^ v.toNat)
theorem lessV_bit (m : Nat) (v : Int) (j : Nat) : (lessV m v).testBit j = (m.testBit j && !decide (j = v.toNat)) := by
  unfold lessV
  rw [Nat.testBit_xor, Nat.testBit_and, Nat.testBit_two_pow]
  by_cases e : v.toNat = j
  · subst e; simp
  · rw [decide_eq_false e, decide_eq_false (fun h => e h.symm)]; simp
theorem lessV_lt {m : Nat} (h : m < 16) (v : Int) : lessV m v < 16 := by
  have : lessV m v < 2 ^ 4 := Nat.lt_pow_two_of_testBit _ fun i hi => by
    rw [lessV_bit]
    have : m.testBit i = false := Nat.testBit_lt_two_pow (Nat.lt_of_lt_of_le h (Nat.pow_le_pow_right (n := 2) (i := 4) (by decide) hi))
    rw [this]; rfl
  exact this
theorem lessV_op : ∀ (m : Fin 16) (v : Fin 4), bits .andNot .u64 ((m.val : Nat) : Int) ((2 ^ v.val : Nat) : Int) = ((lessV m.val (v.val : Int) : Nat) : Int) := by decide +kernel
theorem bitsOf_less (m : Nat) (v : Int) (hv : 0 ≤ v) : bitsOf (lessV m v) = (bitsOf m).filter fun x => !decide (x = v) := by
  unfold bitsOf
  rw [List.filter_map, List.filter_filter]
  congr 1
  refine List.filter_congr fun j _ => ?_
  rw [lessV_bit]
  have : decide (j = v.toNat) = decide ((j : Int) = v) := decide_eq_decide.2 (by omega)
  simp only [Function.comp]
  rw [this, Bool.and_comm]
theorem bits_few4 : ∀ m : Fin 16, (bitsOf m.val).length ≤ 4 := by decide +kernel
theorem bitsOf_few {m : Nat} (h : m < 16) : (bitsOf m).length ≤ 4 ∧ ∀ v ∈ bitsOf m, 0 ≤ v ∧ v < 4 := by
  have hv : ∀ v ∈ bitsOf m, 0 ≤ v ∧ v < 4 := fun v hv => by
    obtain ⟨j, _, hb, rfl⟩ := bitsL_mem.1 hv
    have : j < 4 := by
      apply Classical.byContradiction
      intro hj
      have : m.testBit j = false := Nat.testBit_lt_two_pow (Nat.lt_of_lt_of_le h (Nat.pow_le_pow_right (n := 2) (i := 4) (by decide) (by omega)))
      rw [this] at hb; cases hb
    omega
  exact ⟨bits_few4 ⟨m, h⟩, hv⟩
theorem bitsOf_none {m : Nat} (h : m < 16) : (bitsOf m).length = 0 ↔ m = 0 := by
  constructor
  · intro e
    have e := List.eq_nil_of_length_eq_zero e
    refine Nat.eq_of_testBit_eq fun i => ?_
    rw [Nat.zero_testBit]
    cases hb : m.testBit i
    · rfl
    · have hi : i < 64 := by
        apply Classical.byContradiction
        intro hj
        have : m.testBit i = false := Nat.testBit_lt_two_pow (Nat.lt_of_lt_of_le h (Nat.pow_le_pow_right (n := 2) (i := 4) (by decide) (by omega)))
        rw [this] at hb; cases hb
      have : (i : Int) ∈ bitsOf m := bitsL_mem.2 ⟨i, hi, hb, rfl⟩
      rw [e] at this; cases this
  · rintro rfl; rw [bitsOf_zero]; rfl
theorem bitsOf_less_len {m : Nat} {v : Int} (h : v ∈ bitsOf m) : (bitsOf (lessV m v)).length + 1 = (bitsOf m).length := by
  obtain ⟨j, _, _, rfl⟩ := bitsL_mem.1 h
  rw [bitsOf_less m _ (Int.natCast_nonneg j)]
  have hn : (bitsOf m).Nodup := (bitsL_up m).imp fun h => by omega
  have e : ((bitsOf m).filter fun x => !decide (x = (j : Int))) = (bitsOf m).erase (j : Int) := by
    rw [hn.erase_eq_filter]
    refine List.filter_congr fun x _ => ?_
    by_cases e : x = (j : Int) <;> simp [e]
  rw [e, List.length_erase_of_mem h]
  have := List.length_pos_of_mem h
  omega

/-- All orders that go on from one: the program's way, by the word of what is left. -/
def lordM : Nat → Nat → List Int → List (List Int)
  | 0, _, xs => [xs]
  | d + 1, m, xs => (bitsOf m).flatMap fun v => lordM d (lessV m v) (xs ++ [v])
/-- What comes of the first j numbers that are left. -/
def lordMTo (d m : Nat) (xs : List Int) (j : Nat) : List (List Int) := ((bitsOf m).take j).flatMap fun v => lordM d (lessV m v) (xs ++ [v])
theorem lordMTo_zero (d m : Nat) (xs : List Int) : lordMTo d m xs 0 = [] := by simp [lordMTo]
theorem lordMTo_step {d m : Nat} {xs : List Int} {j : Nat} (h : j < (bitsOf m).length) : lordMTo d m xs (j + 1) = lordMTo d m xs j ++ lordM d (lessV m (bitsOf m)[j]) (xs ++ [(bitsOf m)[j]]) := by
  unfold lordMTo
  rw [take_snoc _ j h, List.flatMap_append]
  simp
theorem lordMTo_all (d m : Nat) (xs : List Int) : lordMTo d m xs (bitsOf m).length = lordM (d + 1) m xs := by
  unfold lordMTo
  rw [List.take_length]
  rfl
/-- .. the specification's way, by the variables. -/
def lordS (vs : List Int) : Nat → List Int → List (List Int)
  | 0, xs => [xs]
  | d + 1, xs => vs.flatMap fun v => if xs.contains v then [] else lordS vs d (xs ++ [v])
def lordSTo (vs : List Int) (d : Nat) (xs : List Int) (j : Nat) : List (List Int) := (vs.take j).flatMap fun v => if xs.contains v then [] else lordS vs d (xs ++ [v])
theorem lordSTo_zero (vs : List Int) (d : Nat) (xs : List Int) : lordSTo vs d xs 0 = [] := by simp [lordSTo]
theorem lordSTo_no {vs : List Int} {d : Nat} {xs : List Int} {j : Nat} (h : j < vs.length) (e : xs.contains vs[j] = true) : lordSTo vs d xs (j + 1) = lordSTo vs d xs j := by
  unfold lordSTo
  rw [take_snoc _ j h, List.flatMap_append]
  simp only [List.flatMap_cons, List.flatMap_nil, e, if_true, List.append_nil]
theorem lordSTo_yes {vs : List Int} {d : Nat} {xs : List Int} {j : Nat} (h : j < vs.length) (e : xs.contains vs[j] = false) : lordSTo vs d xs (j + 1) = lordSTo vs d xs j ++ lordS vs d (xs ++ [vs[j]]) := by
  unfold lordSTo
  rw [take_snoc _ j h, List.flatMap_append]
  simp only [List.flatMap_cons, List.flatMap_nil, e, if_false, List.append_nil, Bool.false_eq_true]
theorem lordSTo_all (vs : List Int) (d : Nat) (xs : List Int) : lordSTo vs d xs vs.length = lordS vs (d + 1) xs := by
  unfold lordSTo
  rw [List.take_length]
  rfl
theorem flatMap_if {α β : Type} {q : α → Bool} {f : α → List β} : ∀ l : List α, (l.flatMap fun v => if q v then [] else f v) = (l.filter fun v => !q v).flatMap f
  | [] => rfl
  | x :: l => by
    have ih := flatMap_if (q := q) (f := f) l
    cases e : q x
    · simp only [List.flatMap_cons, List.filter_cons, e, ih, Bool.false_eq_true, if_false, Bool.not_false, if_true]
    · simp only [List.flatMap_cons, List.filter_cons, e, ih, if_true, Bool.not_true, Bool.false_eq_true, if_false, List.nil_append]
theorem flatMap_same {α β : Type} {l : List α} {f g : α → List β} (h : ∀ x ∈ l, f x = g x) : l.flatMap f = l.flatMap g := by
  induction l with
  | nil => rfl
  | cons x l ih => rw [List.flatMap_cons, List.flatMap_cons, h x List.mem_cons_self, ih fun y hy => h y (List.mem_cons_of_mem _ hy)]
/-- Both ways are the same. -/
theorem lord_same {vs : List Int} (hv : ∀ v ∈ vs, 0 ≤ v) : ∀ (d m : Nat) (xs : List Int), bitsOf m = vs.filter (fun v => !xs.contains v) → lordS vs d xs = lordM d m xs
  | 0, _, _, _ => rfl
  | d + 1, m, xs, h => by
    show (vs.flatMap fun v => if xs.contains v then [] else lordS vs d (xs ++ [v])) = (bitsOf m).flatMap fun v => lordM d (lessV m v) (xs ++ [v])
    rw [flatMap_if, ← h]
    refine flatMap_same fun v hvm => ?_
    have hvv : v ∈ vs := by
      rw [h] at hvm
      exact (List.mem_filter.1 hvm).1
    refine lord_same hv d (lessV m v) (xs ++ [v]) ?_
    rw [bitsOf_less m v (hv v hvv), h, List.filter_filter]
    refine List.filter_congr fun x _ => ?_
    by_cases e : x = v
    · subst e; simp
    · simp [e]
theorem flatMap_few {α β : Type} {f : α → List β} {c : Nat} : ∀ l : List α, (∀ x ∈ l, (f x).length ≤ c) → (l.flatMap f).length ≤ l.length * c
  | [], _ => by simp
  | x :: l, h => by
    have := flatMap_few l fun y hy => h y (List.mem_cons_of_mem _ hy)
    have := h x List.mem_cons_self
    rw [List.flatMap_cons, List.length_append, List.length_cons, Nat.add_mul]
    omega
theorem lordM_few : ∀ (d m : Nat) (xs : List Int), m < 16 → (lordM d m xs).length ≤ 4 ^ d
  | 0, _, _, _ => by simp [lordM]
  | d + 1, m, xs, h => by
    have hl := (bitsOf_few h).1
    have h1 := flatMap_few (f := fun v => lordM d (lessV m v) (xs ++ [v])) (c := 4 ^ d) (bitsOf m) fun v _ => lordM_few d (lessV m v) _ (lessV_lt h v)
    show ((bitsOf m).flatMap fun v => lordM d (lessV m v) (xs ++ [v])).length ≤ _
    have h2 : (bitsOf m).length * 4 ^ d ≤ 4 * 4 ^ d := Nat.mul_le_mul_right _ hl
    rw [Nat.pow_succ]
    omega
theorem lordS_few {vs : List Int} (h : vs.length ≤ 4) : ∀ d xs, (lordS vs d xs).length ≤ 4 ^ d
  | 0, _ => by simp [lordS]
  | d + 1, xs => by
    have h1 := flatMap_few (f := fun v => if xs.contains v then [] else lordS vs d (xs ++ [v])) (c := 4 ^ d) vs fun v _ => by
      split
      · exact Nat.zero_le _
      · exact lordS_few h d _
    show (vs.flatMap fun v => if xs.contains v then [] else lordS vs d (xs ++ [v])).length ≤ _
    have h2 : vs.length * 4 ^ d ≤ 4 * 4 ^ d := Nat.mul_le_mul_right _ h
    rw [Nat.pow_succ]
    omega
theorem lordSTo_few {vs : List Int} (h : vs.length ≤ 4) (d : Nat) (xs : List Int) (j : Nat) : (lordSTo vs d xs j).length ≤ j * 4 ^ d := by
  have h1 := flatMap_few (f := fun v => if xs.contains v then [] else lordS vs d (xs ++ [v])) (c := 4 ^ d) (vs.take j) fun v _ => by
    split
    · exact Nat.zero_le _
    · exact lordS_few h d _
  have h2 : (vs.take j).length ≤ j := by simp; omega
  exact Nat.le_trans h1 (Nat.mul_le_mul_right _ h2)
theorem RdInts.noneL {w : World} {B : Nat} : RdInts w B (.slice none 0 0) [] := ⟨none, 0, rfl, Nat.le_refl _, fun h => absurd h (by simp)⟩
theorem lordMTo_few {d m : Nat} (xs : List Int) (h : m < 16) (j : Nat) : (lordMTo d m xs j).length ≤ j * 4 ^ d := by
  have h1 := flatMap_few (f := fun v => lordM d (lessV m v) (xs ++ [v])) (c := 4 ^ d) ((bitsOf m).take j) fun v _ => lordM_few d (lessV m v) _ (lessV_lt h v)
  have h2 : ((bitsOf m).take j).length ≤ j := by simp; omega
  exact Nat.le_trans h1 (Nat.mul_le_mul_right _ h2)
theorem lordM_lens : ∀ (d m : Nat) (xs : List Int), ∀ y ∈ lordM d m xs, y.length = xs.length + d
  | 0, _, xs, y, hy => by simp [lordM] at hy; simp [hy]
  | d + 1, m, xs, y, hy => by
    obtain ⟨v, _, hy⟩ := List.mem_flatMap.1 (show y ∈ (bitsOf m).flatMap fun v => lordM d (lessV m v) (xs ++ [v]) from hy)
    have := lordM_lens d _ _ y hy
    rw [this]
    simp
    omega
/-- What LeapOrders answers. -/
def leapOrdL (ls : List LLit) : List (List Int) := if bodySafe ls then lordM (bitsOf (bodyMask ls)).length (bodyMask ls) [] else []
theorem leapOrd_spec {ls : List LLit} (h : bodySafe ls = true) : leapOrdL ls = lordS (varsOf ((0, []), ls)) (varsOf ((0, []), ls)).length [] := by
  unfold leapOrdL varsOf
  rw [if_pos h, ruleMask_body]
  refine (lord_same (fun v hv => ?_) _ _ _ (List.filter_eq_self.2 fun _ _ => rfl).symm).symm
  obtain ⟨j, _, _, rfl⟩ := bitsL_mem.1 hv
  exact Int.natCast_nonneg j

end Go.Proofs.YtokmmloakahkhaaDoor
/-
  Plans: which variables are open, which operations are a plan, the plan of a rule by an order, the order in which what is asked comes soonest, all orders. Plain mathematics.
-/
namespace Go.Proofs.YtokmmloakahkhaaDoor
open Go.RowKit

theorem term_case5 {t : Int} (h : termOk t = true) : 0 ≤ t ∨ t = -1 ∨ t = -2 ∨ t = -3 ∨ t = -4 := by simp [termOk] at h; omega
/-- Some variable among terms is none of those known. -/
def openB (xs : List Int) (m : Nat) : Bool := xs.any fun t => isVarB t && !m.testBit (-1 - t).toNat
theorem orV_bit {m : Nat} {t : Int} {i : Nat} : (orV m t).testBit i = (m.testBit i || (isVarB t && decide ((-1 - t).toNat = i))) := by
  unfold orV
  by_cases h : isVarB t = true
  · rw [if_pos h, Nat.testBit_or, Nat.testBit_two_pow, h, Bool.true_and]
  · rw [if_neg h, show isVarB t = false by simpa using h]; simp
theorem maskFrom_bit : ∀ (xs : List Int) (m i : Nat), (maskFrom m xs).testBit i = (m.testBit i || xs.any fun t => isVarB t && decide ((-1 - t).toNat = i))
  | [], m, i => by simp [maskFrom]
  | t :: xs, m, i => by
    show (maskFrom (orV m t) xs).testBit i = _
    rw [maskFrom_bit xs, orV_bit, List.any_cons, Bool.or_assoc]
theorem maskOf_bit (xs : List Int) (i : Nat) : (maskOf xs).testBit i = xs.any fun t => isVarB t && decide ((-1 - t).toNat = i) := by
  unfold maskOf
  rw [maskFrom_bit, Nat.zero_testBit, Bool.false_or]
theorem openB_iff {xs : List Int} {m : Nat} : openB xs m = true ↔ ∃ t ∈ xs, isVarB t = true ∧ m.testBit (-1 - t).toNat = false := by
  simp [openB]
theorem openB_no {xs : List Int} {m : Nat} : openB xs m = false ↔ ∀ t ∈ xs, isVarB t = true → m.testBit (-1 - t).toNat = true := by
  simp [openB]
theorem var_lt4 {t : Int} (h : isVarB t = true) : (-1 - t).toNat < 4 := by simp [isVarB] at h; omega
/-- What the program asks by words. -/
theorem openB_word (xs : List Int) {m : Nat} (hm : m < 16) : (bits .andNot .u64 ((maskOf xs : Nat) : Int) (m : Int) == 0) = !(openB xs m) := by
  rw [safe_bits ⟨maskOf xs, maskOf_lt xs⟩ ⟨m, hm⟩]
  show safeTo (maskOf xs) m 4 = _
  cases ho : openB xs m
  · rw [openB_no] at ho
    show safeTo (maskOf xs) m 4 = true
    unfold safeTo
    rw [List.all_eq_true]
    intro i _
    cases hb : (maskOf xs).testBit i
    · rfl
    · rw [maskOf_bit, List.any_eq_true] at hb
      obtain ⟨t, ht, h2⟩ := hb
      simp only [Bool.and_eq_true, decide_eq_true_eq] at h2
      have := ho t ht h2.1
      rw [h2.2] at this
      simp [this]
  · rw [openB_iff] at ho
    obtain ⟨t, ht, h1, h2⟩ := ho
    refine safeTo_not (k := (-1 - t).toNat) (var_lt4 h1) ?_
    rw [h2, maskOf_bit]
    simp only [Bool.not_false, Bool.and_true, List.any_eq_true, Bool.and_eq_true, decide_eq_true_eq]
    exact ⟨t, ht, h1, rfl⟩
/-- What the specification's loop finds: the first open term. -/
theorem openB_at {xs : List Int} {m k : Nat} (hk : k < xs.length) (h1 : isVarB xs[k] = true) (h2 : m.testBit (-1 - xs[k]).toNat = false) : openB xs m = true :=
  openB_iff.2 ⟨_, List.getElem_mem hk, h1, h2⟩
theorem openB_take {xs : List Int} {m : Nat} : openB xs m = openB (xs.take xs.length) m := by rw [List.take_length]
theorem openB_step {xs : List Int} {m k : Nat} (hk : k < xs.length) : openB (xs.take (k + 1)) m = (openB (xs.take k) m || (isVarB xs[k] && !m.testBit (-1 - xs[k]).toNat)) := by
  unfold openB
  rw [take_snoc xs k hk, List.any_append]
  simp

/-- An operation has an atom, or terms, as its kind asks. -/
def opFits (ar : List Int) (o : LLit) : Bool :=
  if o.1 = 0 ∨ o.1 = 1 ∨ o.1 = 2 ∨ o.1 = 5 then atomFits ar o.2 else if o.1 = 3 ∨ o.1 = 4 then (decide (o.2.1 = 0) && decide (o.2.2.length = 2) && o.2.2.all termOk) else false
/-- An operation can stand where m is known. -/
def opOk (ar : List Int) (o : LLit) (m : Nat) (last : Bool) : Bool := (decide (o.1 = 5) == last) && opFits ar o && (decide (o.1 = 0) == openB o.2.2 m)
theorem opOk_beq (ar : List Int) (o : LLit) (m : Nat) (last : Bool) : opOk ar o m last = (((o.1 == 5) == last) && opFits ar o && ((o.1 == 0) == openB o.2.2 m)) := by
  unfold opOk
  have h : ∀ a b : Int, (a == b) = decide (a = b) := fun a b => by by_cases e : a = b <;> simp [e]
  rw [h, h]
/-- The first k operations can stand where they do. -/
def OpsOk (ar : List Int) (os : List LLit) (k : Nat) : Prop := ∀ j, j < k → ∀ h : j < os.length, opOk ar os[j] (bodyMask (os.take j)) (decide (j + 1 = os.length)) = true
instance (ar : List Int) (os : List LLit) (k : Nat) : Decidable (OpsOk ar os k) := by unfold OpsOk; infer_instance
def planOk (ar : List Int) (os : List LLit) : Bool := arityOk ar && decide (1 ≤ os.length ∧ os.length ≤ 5) && decide (OpsOk ar os os.length)
theorem OpsOk.start {ar : List Int} {os : List LLit} : OpsOk ar os 0 := fun j hj => absurd hj (by omega)
theorem OpsOk.step {ar : List Int} {os : List LLit} {k : Nat} (h : OpsOk ar os k) (hk : k < os.length) (e : opOk ar os[k] (bodyMask (os.take k)) (decide (k + 1 = os.length)) = true) : OpsOk ar os (k + 1) := fun j hj hl => by
  by_cases e2 : j = k
  · subst e2; exact e
  · exact h j (by omega) hl
theorem planOk_yes {ar : List Int} {os : List LLit} {k : Nat} (ha : arityOk ar = true) (h0 : 1 ≤ os.length) (h1 : os.length ≤ 5) (h : OpsOk ar os k) (hk : k = os.length) : planOk ar os = true := by
  subst hk
  simp only [planOk, ha, Bool.true_and, Bool.and_eq_true, decide_eq_true_eq]
  exact ⟨⟨h0, h1⟩, h⟩
theorem planOk_not {ar : List Int} {os : List LLit} {k : Nat} (hk : k < os.length) (e : opOk ar os[k] (bodyMask (os.take k)) (decide (k + 1 = os.length)) = false) : planOk ar os = false := by
  have : ¬ OpsOk ar os os.length := fun h => by have := h k hk hk; rw [e] at this; cases this
  simp [planOk, this]
theorem planOk_ar {ar : List Int} {os : List LLit} (h : arityOk ar = false) : planOk ar os = false := by simp [planOk, h]
theorem planOk_len {ar : List Int} {os : List LLit} (h : ¬ (1 ≤ os.length ∧ os.length ≤ 5)) : planOk ar os = false := by simp [planOk, h]
/-- .. as the specification asks it. -/
def opSaid (ar : List Int) (o : LLit) (m : Nat) (last : Bool) : Bool :=
  if last then decide (o.1 = 5) && (atomOk ar o.2 && !(openB o.2.2 m))
  else if o.1 = 0 ∨ o.1 = 1 ∨ o.1 = 2 then atomOk ar o.2 && (openB o.2.2 m == decide (o.1 = 0))
  else decide (o.1 = 3 ∨ o.1 = 4) && (litOk ar (o.1 - 1, o.2) && !(openB o.2.2 m))
theorem opSaid_is (ar : List Int) (o : LLit) (m : Nat) (last : Bool) (ha : arityOk ar = true) : opSaid ar o m last = opOk ar o m last := by
  obtain ⟨kd, a⟩ := o
  have e1 : atomOk ar a = atomFits ar a := by simp [atomOk, ha]
  have e2 : litOk ar (kd - 1, a) = litFits ar (kd - 1, a) := by simp [litOk, ha]
  unfold opSaid opOk opFits
  simp only [e1, e2]
  by_cases h5 : kd = 5
  · subst h5
    cases last <;> cases atomFits ar a <;> cases openB a.2 m <;> simp
  · cases last
    · by_cases h0 : kd = 0
      · subst h0
        cases atomFits ar a <;> cases openB a.2 m <;> simp
      · by_cases h1 : kd = 1 ∨ kd = 2
        · rcases h1 with rfl | rfl <;> cases atomFits ar a <;> cases openB a.2 m <;> simp
        · by_cases h3 : kd = 3 ∨ kd = 4
          · rcases h3 with rfl | rfl <;> cases openB a.2 m <;> simp [litFits]
          · have n1 : ¬ (kd = 0 ∨ kd = 1 ∨ kd = 2) := by omega
            have n2 : ¬ (kd = 0 ∨ kd = 1 ∨ kd = 2 ∨ kd = 5) := by omega
            simp [n1, n2, h3]
    · simp [h5]
theorem opOk_terms {ar : List Int} {o : LLit} {m : Nat} {last : Bool} (h : o.2.2.all termOk = false) : opOk ar o m last = false := by
  unfold opOk opFits
  have hx : ¬ (∀ x ∈ o.2.2, termOk x = true) := by
    intro hh
    rw [← List.all_eq_true] at hh
    rw [h] at hh
    cases hh
  by_cases h1 : o.1 = 0 ∨ o.1 = 1 ∨ o.1 = 2 ∨ o.1 = 5
  · rw [if_pos h1]
    have : atomFits ar o.2 = false := by
      unfold atomFits
      simp [h]
    simp [this]
  · rw [if_neg h1]
    split
    · simp [h]
    · simp

/-- One place of a plan, as the specification asks it. -/
def saidAt (ar : List Int) (o : LLit) (m : Nat) (last : Bool) : Bool := o.2.2.all termOk && opSaid ar o m last
theorem saidAt_is (ar : List Int) (o : LLit) (m : Nat) (last : Bool) : saidAt ar o m last = (arityOk ar && opOk ar o m last) := by
  unfold saidAt
  cases ha : arityOk ar
  · have : opSaid ar o m last = false := by
      unfold opSaid
      have e1 : atomOk ar o.2 = false := by simp [atomOk, ha]
      have e2 : litOk ar (o.1 - 1, o.2) = false := by simp [litOk, ha]
      rw [e1, e2]
      cases last <;> simp
    simp [this]
  · rw [opSaid_is ar o m last ha]
    cases ht : o.2.2.all termOk
    · simp [opOk_terms ht]
    · simp

end Go.Proofs.YtokmmloakahkhaaDoor
/-
  The plan of a rule by an order; the order in which what is asked comes soonest; all orders. Plain mathematics.
-/
namespace Go.Proofs.YtokmmloakahkhaaDoor
open Go.RowKit

/-- The literal at an index. -/
def litAt (b : List LLit) (i : Int) : LLit := b.getD i.toNat (0, 0, [])
theorem litAt_get {b : List LLit} {i : Int} {n : Nat} (h : i = (n : Int)) (hn : n < b.length) : litAt b i = b[n] := by
  subst h
  simp [litAt, hn]
/-- What is known behind an order. -/
def ordMask (b : List LLit) (os : List Int) : Nat := os.foldl (fun m i => m ||| maskOf (litAt b i).2.2) 0
theorem ordMask_snoc (b : List LLit) (os : List Int) (i : Int) : ordMask b (os ++ [i]) = ordMask b os ||| maskOf (litAt b i).2.2 := by
  simp [ordMask, List.foldl_append]
theorem ordMask_take {b : List LLit} {os : List Int} {k : Nat} (h : k < os.length) : ordMask b (os.take (k + 1)) = ordMask b (os.take k) ||| maskOf (litAt b os[k]).2.2 := by
  rw [take_snoc os k h, ordMask_snoc]
theorem ordMask_lt (b : List LLit) (os : List Int) : ordMask b os < 16 := by
  unfold ordMask
  suffices h : ∀ (os : List Int) (m : Nat), m < 16 → os.foldl (fun m i => m ||| maskOf (litAt b i).2.2) m < 16 from h os 0 (by omega)
  intro os
  induction os with
  | nil => intro m hm; exact hm
  | cons i os ih => intro m hm; exact ih _ (or_lt16 hm (maskOf_lt _))
/-- A literal can be done where m is known. -/
def canB (l : LLit) (m : Nat) : Bool := decide (l.1 = 0) || !openB l.2.2 m
/-- Place k of an order is an index that has not come yet, of a literal that can be done there. -/
def ordAt (b : List LLit) (os : List Int) (k : Nat) : Bool :=
  decide (0 ≤ os.getD k 0 ∧ os.getD k 0 < (b.length : Int)) && (!(os.take k).contains (os.getD k 0) && canB (litAt b (os.getD k 0)) (ordMask b (os.take k)))
def OrdTo (b : List LLit) (os : List Int) (k : Nat) : Prop := ∀ j, j < k → ordAt b os j = true
instance (b : List LLit) (os : List Int) (k : Nat) : Decidable (OrdTo b os k) := by unfold OrdTo; infer_instance
def orderOk (b : List LLit) (os : List Int) : Bool := decide (os.length = b.length) && decide (OrdTo b os os.length)
theorem OrdTo.start {b : List LLit} {os : List Int} : OrdTo b os 0 := fun j hj => absurd hj (by omega)
theorem OrdTo.step {b : List LLit} {os : List Int} {k : Nat} (h : OrdTo b os k) (e : ordAt b os k = true) : OrdTo b os (k + 1) := fun j hj => by
  by_cases e2 : j = k
  · subst e2; exact e
  · exact h j (by omega)
theorem orderOk_yes {b : List LLit} {os : List Int} {k : Nat} (hl : os.length = b.length) (h : OrdTo b os k) (hk : k = os.length) : orderOk b os = true := by
  subst hk
  simp only [orderOk, Bool.and_eq_true, decide_eq_true_eq]
  exact ⟨hl, h⟩
theorem orderOk_not {b : List LLit} {os : List Int} {k : Nat} (hk : k < os.length) (e : ordAt b os k = false) : orderOk b os = false := by
  have : ¬ OrdTo b os os.length := fun h => by have := h k hk; rw [e] at this; cases this
  simp [orderOk, this]
theorem orderOk_len {b : List LLit} {os : List Int} (h : os.length ≠ b.length) : orderOk b os = false := by simp [orderOk, h]
theorem ordAt_get {b : List LLit} {os : List Int} {k : Nat} (h : k < os.length) : ordAt b os k = (decide (0 ≤ os[k] ∧ os[k] < (b.length : Int)) && (!(os.take k).contains os[k] && canB (litAt b os[k]) (ordMask b (os.take k)))) := by
  unfold ordAt
  rw [show os.getD k 0 = os[k] by simp [h]]

/-- The operation of a literal. -/
def kindOf (l : LLit) (m : Nat) : Int := if l.1 = 0 then (if openB l.2.2 m then 0 else 1) else l.1 + 1
/-- The operations of the first k places of an order. -/
def opsTo (b : List LLit) (os : List Int) : Nat → List LLit
  | 0 => []
  | k + 1 => opsTo b os k ++ [(kindOf (litAt b (os.getD k 0)) (ordMask b (os.take k)), (litAt b (os.getD k 0)).2)]
theorem opsTo_len (b : List LLit) (os : List Int) : ∀ k, (opsTo b os k).length = k
  | 0 => rfl
  | k + 1 => by simp [opsTo, opsTo_len b os k]
theorem opsTo_step {b : List LLit} {os : List Int} {k : Nat} (h : k < os.length) : opsTo b os (k + 1) = opsTo b os k ++ [(kindOf (litAt b os[k]) (ordMask b (os.take k)), (litAt b os[k]).2)] := by
  show opsTo b os k ++ _ = _
  rw [show os.getD k 0 = os[k] by simp [h]]
def planFor (r : LRule) (os : List Int) : List LLit := opsTo r.2 os os.length ++ [(5, r.1)]
def planByK (ar : List Int) (r : LRule) (os : List Int) : Bool := ruleOk ar r && orderOk r.2 os
def planByL (ar : List Int) (r : LRule) (os : List Int) : List LLit := if planByK ar r os = true then planFor r os else []
theorem planBy_no {ar : List Int} {r : LRule} {os : List Int} (h : planByK ar r os = false) : planByL ar r os = [] := by simp [planByL, h]
theorem planBy_yes {ar : List Int} {r : LRule} {os : List Int} (h : planByK ar r os = true) : planByL ar r os = planFor r os := by simp [planByL, h]
theorem planFor_len (r : LRule) (os : List Int) : (planFor r os).length = os.length + 1 := by simp [planFor, opsTo_len]

/-- The first literal of those from k on that is not done and can be asked; else the first LitYes; else -1. -/
def soonFrom (b : List LLit) (done : List Int) (m : Nat) : Nat → Int → Int
  | k, at_ => if h : k < b.length then
      (if done.contains (k : Int) then soonFrom b done m (k + 1) at_
       else if openB b[k].2.2 m = false then (k : Int)
       else soonFrom b done m (k + 1) (if at_ < 0 ∧ b[k].1 = 0 then (k : Int) else at_))
    else at_
termination_by k => b.length - k
def soonL (b : List LLit) (done : List Int) (m : Nat) : Int := soonFrom b done m 0 (-1)
theorem soonFrom_end {b : List LLit} {done : List Int} {m k : Nat} {at_ : Int} (h : ¬ k < b.length) : soonFrom b done m k at_ = at_ := by
  rw [soonFrom, dif_neg h]
theorem soonFrom_done {b : List LLit} {done : List Int} {m k : Nat} {at_ : Int} (h : k < b.length) (hd : done.contains (k : Int) = true) : soonFrom b done m k at_ = soonFrom b done m (k + 1) at_ := by
  rw [soonFrom, dif_pos h, if_pos hd]
theorem soonFrom_here {b : List LLit} {done : List Int} {m k : Nat} {at_ : Int} (h : k < b.length) (hd : done.contains (k : Int) = false) (ho : openB b[k].2.2 m = false) : soonFrom b done m k at_ = (k : Int) := by
  rw [soonFrom, dif_pos h, if_neg (by rw [hd]; decide), if_pos ho]
theorem soonFrom_on {b : List LLit} {done : List Int} {m k : Nat} {at_ : Int} (h : k < b.length) (hd : done.contains (k : Int) = false) (ho : openB b[k].2.2 m = true) : soonFrom b done m k at_ = soonFrom b done m (k + 1) (if at_ < 0 ∧ b[k].1 = 0 then (k : Int) else at_) := by
  rw [soonFrom, dif_pos h, if_neg (by rw [hd]; decide), if_neg (by rw [ho]; decide)]
/-- The order, place by place. -/
def soonOrd (b : List LLit) : Nat → List Int
  | 0 => []
  | k + 1 => soonOrd b k ++ [soonL b (soonOrd b k) (ordMask b (soonOrd b k))]
theorem soonOrd_len (b : List LLit) : ∀ k, (soonOrd b k).length = k
  | 0 => rfl
  | k + 1 => by simp [soonOrd, soonOrd_len b k]
theorem soonOrd_take (b : List LLit) : ∀ {n k : Nat}, k ≤ n → (soonOrd b n).take k = soonOrd b k
  | 0, k, h => by simp [show k = 0 by omega, soonOrd]
  | n + 1, k, h => by
    by_cases e : k = n + 1
    · subst e
      rw [List.take_of_length_le (by rw [soonOrd_len]; exact Nat.le_refl _)]
    · rw [soonOrd, List.take_append_of_le_length (by rw [soonOrd_len]; omega)]
      exact soonOrd_take b (by omega)
/-- What soonFrom answers. -/
theorem soonFrom_is (b : List LLit) (done : List Int) (m : Nat) : ∀ (n k : Nat) (at_ : Int), b.length - k = n → (at_ < 0 ∨ ∃ j : Nat, at_ = (j : Int) ∧ ∃ h : j < b.length, done.contains (j : Int) = false ∧ b[j].1 = 0) →
    (soonFrom b done m k at_ < 0 ∧ at_ < 0 ∧ ∀ j, k ≤ j → ∀ h : j < b.length, done.contains (j : Int) = false → openB b[j].2.2 m = true ∧ b[j].1 ≠ 0) ∨
    ∃ j : Nat, soonFrom b done m k at_ = (j : Int) ∧ ∃ h : j < b.length, done.contains (j : Int) = false ∧ (openB b[j].2.2 m = false ∨ b[j].1 = 0)
  | 0, k, at_, hn, ha => by
    rw [soonFrom_end (by omega)]
    rcases ha with ha | ⟨j, h1, h2, h3, h4⟩
    · exact .inl ⟨ha, ha, fun j h1 h2 => absurd h2 (by omega)⟩
    · exact .inr ⟨j, h1, h2, h3, .inr h4⟩
  | n + 1, k, at_, hn, ha => by
    have hk : k < b.length := by clear ha; omega
    have hn1 : b.length - (k + 1) = n := by clear ha; omega
    cases hd : done.contains (k : Int)
    · cases ho : openB b[k].2.2 m
      · rw [soonFrom_here hk hd ho]
        exact .inr ⟨k, rfl, hk, hd, .inl ho⟩
      · rw [soonFrom_on hk hd ho]
        have ha2 : (if at_ < 0 ∧ b[k].1 = 0 then (k : Int) else at_) < 0 ∨ ∃ j : Nat, (if at_ < 0 ∧ b[k].1 = 0 then (k : Int) else at_) = (j : Int) ∧ ∃ h : j < b.length, done.contains (j : Int) = false ∧ b[j].1 = 0 := by
          by_cases hc : at_ < 0 ∧ b[k].1 = 0
          · rw [if_pos hc]; exact .inr ⟨k, rfl, hk, hd, hc.2⟩
          · rw [if_neg hc]; exact ha
        rcases soonFrom_is b done m n (k + 1) _ hn1 ha2 with ⟨h1, h2, h3⟩ | h
        · have hc : ¬ (at_ < 0 ∧ b[k].1 = 0) := fun hc => by rw [if_pos hc] at h2; omega
          rw [if_neg hc] at h1 h2 ⊢
          refine .inl ⟨h1, h2, fun j hj hl hdj => ?_⟩
          by_cases e : j = k
          · subst e; exact ⟨ho, fun e => hc ⟨h2, e⟩⟩
          · exact h3 j (by omega) hl hdj
        · exact .inr h
    · rw [soonFrom_done hk hd]
      rcases soonFrom_is b done m n (k + 1) at_ hn1 ha with ⟨h1, h2, h3⟩ | h
      · refine .inl ⟨h1, h2, fun j hj hl hdj => ?_⟩
        by_cases e : j = k
        · subst e; rw [hd] at hdj; cases hdj
        · exact h3 j (by omega) hl hdj
      · exact .inr h

theorem yesMask_bit : ∀ (b : List LLit) (i : Nat), (yesMask b).testBit i = b.any fun l => decide (l.1 = 0) && (maskOf l.2.2).testBit i := by
  have h : ∀ (b : List LLit) (m i : Nat), (b.foldl (fun m l => if l.1 = 0 then m ||| maskOf l.2.2 else m) m).testBit i = (m.testBit i || b.any fun l => decide (l.1 = 0) && (maskOf l.2.2).testBit i) := by
    intro b
    induction b with
    | nil => intro m i; simp
    | cons l b ih =>
      intro m i
      rw [List.foldl_cons, ih, List.any_cons]
      by_cases hl : l.1 = 0
      · simp [hl, Nat.testBit_or, Bool.or_assoc]
      · simp [hl]
  intro b i
  unfold yesMask
  rw [h]
  simp
theorem bodyMask_bit : ∀ (b : List LLit) (i : Nat), (bodyMask b).testBit i = b.any fun l => (maskOf l.2.2).testBit i := by
  have h : ∀ (b : List LLit) (m i : Nat), (b.foldl (fun m l => m ||| maskOf l.2.2) m).testBit i = (m.testBit i || b.any fun l => (maskOf l.2.2).testBit i) := by
    intro b
    induction b with
    | nil => intro m i; simp
    | cons l b ih =>
      intro m i
      rw [List.foldl_cons, ih, List.any_cons]
      simp [Nat.testBit_or, Bool.or_assoc]
  intro b i
  unfold bodyMask
  rw [h]
  simp
theorem ordMask_bit (b : List LLit) : ∀ (os : List Int) (i : Nat), (ordMask b os).testBit i = os.any fun o => (maskOf (litAt b o).2.2).testBit i := by
  have h : ∀ (os : List Int) (m i : Nat), (os.foldl (fun m o => m ||| maskOf (litAt b o).2.2) m).testBit i = (m.testBit i || os.any fun o => (maskOf (litAt b o).2.2).testBit i) := by
    intro os
    induction os with
    | nil => intro m i; simp
    | cons l os ih =>
      intro m i
      rw [List.foldl_cons, ih, List.any_cons]
      simp [Nat.testBit_or, Bool.or_assoc]
  intro os i
  unfold ordMask
  rw [h]
  simp
/-- In what is left of a safe body there is a literal that can be done. -/
theorem soonL_is {r : LRule} (hs : ruleSafe r = true) {done : List Int} {j0 : Nat} (hj0 : j0 < r.2.length) (hd0 : done.contains (j0 : Int) = false) :
    ∃ j : Nat, soonL r.2 done (ordMask r.2 done) = (j : Int) ∧ ∃ h : j < r.2.length, done.contains (j : Int) = false ∧ canB r.2[j] (ordMask r.2 done) = true := by
  rcases soonFrom_is r.2 done (ordMask r.2 done) r.2.length 0 (-1) (by omega) (.inl (by omega)) with ⟨_, _, h⟩ | ⟨j, h1, h2, h3, h4⟩
  · exfalso
    obtain ⟨ho, _⟩ := h j0 (Nat.zero_le _) hj0 hd0
    rw [openB_iff] at ho
    obtain ⟨t, ht, hv, hb⟩ := ho
    rw [ruleSafe_eq] at hs
    have hi := var_lt4 hv
    have h1 : (ruleMask r).testBit (-1 - t).toNat = true := by
      unfold ruleMask
      rw [Nat.testBit_or, bodyMask_bit]
      have : (r.2.any fun l => (maskOf l.2.2).testBit (-1 - t).toNat) = true := by
        rw [List.any_eq_true]
        refine ⟨_, List.getElem_mem hj0, ?_⟩
        rw [maskOf_bit, List.any_eq_true]
        exact ⟨t, ht, by simp [hv]⟩
      rw [this, Bool.or_true]
    have h2 : (yesMask r.2).testBit (-1 - t).toNat = true := by
      unfold safeTo at hs
      rw [List.all_eq_true] at hs
      have := hs (-1 - t).toNat (by simp; omega)
      rw [h1] at this
      simpa using this
    rw [yesMask_bit, List.any_eq_true] at h2
    obtain ⟨l, hl, h3⟩ := h2
    simp only [Bool.and_eq_true, decide_eq_true_eq] at h3
    obtain ⟨i, hil, rfl⟩ := List.getElem_of_mem hl
    cases hd : done.contains (i : Int)
    · exact (h i (Nat.zero_le _) hil hd).2 h3.1
    · have : (ordMask r.2 done).testBit (-1 - t).toNat = true := by
        rw [ordMask_bit, List.any_eq_true]
        refine ⟨(i : Int), by simpa using hd, ?_⟩
        rw [litAt_get rfl hil]
        exact h3.2
      rw [this] at hb
      cases hb
  · refine ⟨j, h1, h2, h3, ?_⟩
    unfold canB
    rcases h4 with h4 | h4 <;> simp [h4]
/-- A list of fewer numbers than there are leaves one out. -/
theorem all_in_len : ∀ (n : Nat) (os : List Int), (∀ j, j < n → ((j : Nat) : Int) ∈ os) → n ≤ os.length
  | 0, _, _ => Nat.zero_le _
  | n + 1, os, h => by
    have hm := h n (by omega)
    have := all_in_len n (os.erase (n : Int)) fun j hj => (List.mem_erase_of_ne (by omega)).2 (h j (by omega))
    rw [List.length_erase_of_mem hm] at this
    have := List.length_pos_of_mem hm
    omega
theorem left_over (n : Nat) (os : List Int) (h : os.length < n) : ∃ j : Nat, j < n ∧ os.contains (j : Int) = false := by
  apply Classical.byContradiction
  intro hc
  have := all_in_len n os fun j hj => by
    apply Classical.byContradiction
    intro hm
    exact hc ⟨j, hj, by simpa using hm⟩
  omega
theorem soonOrd_ok {r : LRule} (hs : ruleSafe r = true) : ∀ {n k : Nat}, n ≤ r.2.length → k < n → ordAt r.2 (soonOrd r.2 n) k = true := by
  intro n k hn hk
  have hkl : k < (soonOrd r.2 n).length := by rw [soonOrd_len]; exact hk
  rw [ordAt_get hkl]
  have e1 : (soonOrd r.2 n).take k = soonOrd r.2 k := soonOrd_take r.2 (by omega)
  have e2 : (soonOrd r.2 n)[k] = soonL r.2 (soonOrd r.2 k) (ordMask r.2 (soonOrd r.2 k)) := by
    have h := soonOrd_take r.2 (n := n) (k := k + 1) (by omega)
    rw [take_snoc _ k hkl, e1, soonOrd] at h
    have := List.append_cancel_left h
    simpa using this
  rw [e1, e2]
  obtain ⟨j0, hj0, hd0⟩ := left_over r.2.length (soonOrd r.2 k) (by rw [soonOrd_len]; omega)
  obtain ⟨j, h1, h2, h3, h4⟩ := soonL_is hs hj0 hd0
  rw [h1, h3, litAt_get rfl h2, h4]
  simp
  omega
theorem soonOrd_order {r : LRule} (hs : ruleSafe r = true) : orderOk r.2 (soonOrd r.2 r.2.length) = true :=
  orderOk_yes (soonOrd_len _ _) (fun _ hj => soonOrd_ok hs (Nat.le_refl _) hj) (soonOrd_len _ _).symm
theorem ruleOk_safe {ar : List Int} {r : LRule} (h : ruleOk ar r = true) : ruleSafe r = true ∧ r.2.length ≤ 4 := by
  unfold ruleOk ruleFits at h
  simp only [Bool.and_eq_true, decide_eq_true_eq] at h
  exact ⟨h.2.2.2.2, h.2.2.1⟩
def planOfL (ar : List Int) (r : LRule) : List LLit := if ruleOk ar r = true then planFor r (soonOrd r.2 r.2.length) else []
theorem planOf_by {ar : List Int} {r : LRule} (h : ruleOk ar r = true) : planByL ar r (soonOrd r.2 r.2.length) = planOfL ar r ∧ planByK ar r (soonOrd r.2 r.2.length) = true := by
  have hk : planByK ar r (soonOrd r.2 r.2.length) = true := by
    unfold planByK
    rw [h, soonOrd_order (ruleOk_safe h).1]
    rfl
  exact ⟨by rw [planBy_yes hk, planOfL, if_pos h], hk⟩

end Go.Proofs.YtokmmloakahkhaaDoor
/-
  Sizes of literals, in the one form that the laws' walks ask.
-/
namespace Go.Proofs.YtokmmloakahkhaaDoor
open Go.RowKit

def szL (ls : List LLit) : Nat := ls.length + totL ls
theorem us_lit {v : Value} {l : LLit} {left : Int} {w : World} (h : RdLit w w.heap.size v l) (h0 : 0 ≤ left) (hl : left ≤ 1048576) (hn : l.2.2.length ≤ maxLen) :
    Calls Tryd.prog 59 #[v, .int .i64 left] w fun e w' => ∃ z, e = .returned (.int .i64 z) ∧ (z = -1 ∨ (0 ≤ z ∧ z + l.2.2.length = left)) ∧ Below w.heap.size w w' :=
  (szLit_any v l left w h h0 hl (by unfold maxLen at hn; omega)).mono fun _ _ ⟨he, hb⟩ => ⟨_, he, (szV_cases left l.2.2.length).imp And.left id, hb⟩
theorem us_lits {v : Value} {ls : List LLit} {left : Int} {w : World} (h : RdLits w w.heap.size v ls) (h0 : 0 ≤ left) (hl : left ≤ 1048576) (hn : ls.length ≤ maxLen) (hm : ∀ k (h : k < ls.length), ls[k].2.2.length ≤ maxLen) :
    Calls Tryd.prog 29 #[v, .int .i64 left] w fun e w' => ∃ z, e = .returned (.int .i64 z) ∧ (z = -1 ∨ (0 ≤ z ∧ z + szL ls = left)) ∧ Below w.heap.size w w' :=
  (szLitS_any v ls left w h h0 hl (by unfold maxLen at hn; omega) (fun k hk => by have := hm k hk; unfold maxLen at this; omega)).mono fun _ _ ⟨r, he, hr, hb⟩ => ⟨r, he, hr.imp id fun ⟨a, b⟩ => ⟨a, by unfold szL; omega⟩, hb⟩

end Go.Proofs.YtokmmloakahkhaaDoor
/-
  Plain facts on fitting rules and their orders and plans.
-/
namespace Go.Proofs.YtokmmloakahkhaaDoor
open Go.RowKit

theorem litFits_kind {ar : List Int} {l : LLit} (h : litFits ar l = true) : l.1 = 0 ∨ l.1 = 1 ∨ l.1 = 2 ∨ l.1 = 3 := by
  unfold litFits at h
  by_cases h1 : l.1 = 0 ∨ l.1 = 1
  · omega
  · rw [if_neg h1] at h
    by_cases h2 : l.1 = 2 ∨ l.1 = 3
    · omega
    · rw [if_neg h2] at h
      cases h
theorem ruleOk_kinds {ar : List Int} {r : LRule} (h : ruleOk ar r = true) : ∀ l ∈ r.2, l.1 = 0 ∨ l.1 = 1 ∨ l.1 = 2 ∨ l.1 = 3 := fun l hl => by
  unfold ruleOk ruleFits at h
  simp only [Bool.and_eq_true] at h
  exact litFits_kind (List.all_eq_true.1 h.2.2.2.1 l hl)
theorem orderOk_range {b : List LLit} {os : List Int} (h : orderOk b os = true) : os.length = b.length ∧ ∀ i ∈ os, 0 ≤ i ∧ i < (b.length : Int) := by
  unfold orderOk at h
  simp only [Bool.and_eq_true, decide_eq_true_eq] at h
  refine ⟨h.1, fun i hi => ?_⟩
  obtain ⟨k, hk, rfl⟩ := List.getElem_of_mem hi
  have := h.2 k hk
  rw [ordAt_get hk] at this
  simp only [Bool.and_eq_true, decide_eq_true_eq] at this
  exact this.1

theorem soon_range {r : LRule} (hs : ruleSafe r = true) {k : Nat} (hk : k < r.2.length) : ∃ j : Nat, soonL r.2 (soonOrd r.2 k) (ordMask r.2 (soonOrd r.2 k)) = (j : Int) ∧ j < r.2.length := by
  obtain ⟨j0, hj0, hd0⟩ := left_over r.2.length (soonOrd r.2 k) (by rw [soonOrd_len]; omega)
  obtain ⟨j, h1, h2, _⟩ := soonL_is hs hj0 hd0
  exact ⟨j, h1, h2⟩

theorem atomFits_terms {ar : List Int} {f : LFact} (h : atomFits ar f = true) : f.2.all termOk = true := by
  unfold atomFits at h
  rw [Bool.and_eq_true] at h
  exact h.2
theorem litFits_terms {ar : List Int} {l : LLit} (h : litFits ar l = true) : l.2.2.all termOk = true := by
  unfold litFits at h
  by_cases h1 : l.1 = 0 ∨ l.1 = 1
  · rw [if_pos h1] at h
    exact atomFits_terms h
  · rw [if_neg h1] at h
    by_cases h2 : l.1 = 2 ∨ l.1 = 3
    · rw [if_pos h2] at h
      simp only [Bool.and_eq_true] at h
      exact h.2
    · rw [if_neg h2] at h
      cases h
theorem ruleOk_terms {ar : List Int} {r : LRule} (h : ruleOk ar r = true) : r.1.2.all termOk = true ∧ ∀ l ∈ r.2, l.2.2.all termOk = true := by
  unfold ruleOk ruleFits at h
  simp only [Bool.and_eq_true] at h
  exact ⟨atomFits_terms h.2.1, fun l hl => litFits_terms (List.all_eq_true.1 h.2.2.2.1 l hl)⟩
/-- Atoms of fitting predicates have two places at most. -/
theorem arityOk_two {ar : List Int} (h : arityOk ar = true) {i : Nat} : ar.getD i 0 ≤ 2 := by
  by_cases hi : i < ar.length
  · have : ar.getD i 0 = ar[i] := by simp [hi]
    rw [this]
    unfold arityOk at h
    simp only [Bool.and_eq_true, List.all_eq_true] at h
    have := h.2 _ (List.getElem_mem hi)
    simp [placeOk] at this
    omega
  · simp [List.getD_eq_getElem?_getD, List.getElem?_eq_none (by omega : ar.length ≤ i)]
theorem atomFits_two {ar : List Int} {f : LFact} (ha : arityOk ar = true) (h : atomFits ar f = true) : f.2.length ≤ 2 := by
  unfold atomFits at h
  simp only [Bool.and_eq_true, decide_eq_true_eq] at h
  have := arityOk_two ha (i := f.1.toNat)
  omega
theorem litFits_two {ar : List Int} {l : LLit} (ha : arityOk ar = true) (h : litFits ar l = true) : l.2.2.length ≤ 2 := by
  unfold litFits at h
  by_cases h1 : l.1 = 0 ∨ l.1 = 1
  · rw [if_pos h1] at h
    exact atomFits_two ha h
  · rw [if_neg h1] at h
    by_cases h2 : l.1 = 2 ∨ l.1 = 3
    · rw [if_pos h2] at h
      simp only [Bool.and_eq_true, decide_eq_true_eq] at h
      omega
    · rw [if_neg h2] at h
      cases h
theorem totL_append (xs ys : List LLit) : totL (xs ++ ys) = totL xs + totL ys := by simp [totL]
theorem opsTo_tot {b : List LLit} (h : ∀ l ∈ b, l.2.2.length ≤ 2) (os : List Int) : ∀ k, totL (opsTo b os k) ≤ 2 * k
  | 0 => by simp [opsTo, totL]
  | k + 1 => by
    have ih := opsTo_tot h os k
    have : (litAt b (os.getD k 0)).2.2.length ≤ 2 := by
      unfold litAt
      generalize (os.getD k 0).toNat = j
      by_cases hl : j < b.length
      · have e : b.getD j (0, 0, []) = b[j] := by simp [hl]
        rw [e]
        exact h _ (List.getElem_mem hl)
      · rw [List.getD_eq_getElem?_getD, List.getElem?_eq_none (by omega)]
        simp
    show totL (opsTo b os k ++ _) ≤ _
    rw [totL_append]
    simp only [totL, List.map_cons, List.map_nil, List.sum_cons, List.sum_nil] at this ⊢
    simp only [totL] at ih
    omega
theorem planFor_sz {ar : List Int} {r : LRule} {os : List Int} (h : ruleOk ar r = true) (hl : os.length = r.2.length) : szL (planFor r os) ≤ 64 := by
  have h4 := (ruleOk_safe h).2
  unfold ruleOk ruleFits at h
  simp only [Bool.and_eq_true] at h
  have h1 := opsTo_tot (fun l hl => litFits_two h.1 (List.all_eq_true.1 h.2.2.2.1 l hl)) os os.length
  have h2 := atomFits_two h.1 h.2.1
  unfold szL planFor
  rw [totL_append, List.length_append, opsTo_len]
  simp only [List.length_singleton, totL, List.map_cons, List.map_nil, List.sum_cons, List.sum_nil] at h1 ⊢
  omega
theorem planBy_sz (ar : List Int) (r : LRule) (os : List Int) : szL (planByL ar r os) ≤ 64 := by
  cases h : planByK ar r os
  · rw [planBy_no h]; simp [szL, totL]
  · rw [planBy_yes h]
    unfold planByK at h
    rw [Bool.and_eq_true] at h
    exact planFor_sz h.1 (orderOk_range h.2).1
theorem planOf_sz (ar : List Int) (r : LRule) : szL (planOfL ar r) ≤ 64 := by
  unfold planOfL
  by_cases h : ruleOk ar r = true
  · rw [if_pos h]; exact planFor_sz h (soonOrd_len _ _)
  · rw [if_neg h]; simp [szL, totL]

end Go.Proofs.YtokmmloakahkhaaDoor
/-
  All orders of a rule's literals that make plans. Plain mathematics.
-/
namespace Go.Proofs.YtokmmloakahkhaaDoor
open Go.RowKit

/-- Index i can come behind an order. -/
def canAt (b : List LLit) (xs : List Int) (i : Nat) : Bool := !(xs.contains (i : Int)) && canB (litAt b (i : Int)) (ordMask b xs)
/-- What comes of the first j indexes behind an order. -/
def ordTo (f : List Int → List (List Int)) (q : Nat → Bool) (xs : List Int) (j : Nat) : List (List Int) := (List.range j).flatMap fun i => if q i then f (xs ++ [(i : Int)]) else []
theorem ordTo_zero (f : List Int → List (List Int)) (q : Nat → Bool) (xs : List Int) : ordTo f q xs 0 = [] := rfl
theorem ordTo_yes {f : List Int → List (List Int)} {q : Nat → Bool} {xs : List Int} {j : Nat} (h : q j = true) : ordTo f q xs (j + 1) = ordTo f q xs j ++ f (xs ++ [(j : Int)]) := by
  unfold ordTo
  rw [List.range_succ, List.flatMap_append]
  simp [h]
theorem ordTo_no {f : List Int → List (List Int)} {q : Nat → Bool} {xs : List Int} {j : Nat} (h : q j = false) : ordTo f q xs (j + 1) = ordTo f q xs j := by
  unfold ordTo
  rw [List.range_succ, List.flatMap_append]
  simp [h]
theorem ordTo_few {f : List Int → List (List Int)} {q : Nat → Bool} {xs : List Int} {m : Nat} (h : ∀ ys, (f ys).length ≤ m) : ∀ j, (ordTo f q xs j).length ≤ j * m
  | 0 => by simp [ordTo_zero]
  | j + 1 => by
    have ih := ordTo_few (q := q) (xs := xs) h j
    cases hq : q j
    · rw [ordTo_no hq, Nat.add_mul]; omega
    · rw [ordTo_yes hq, List.length_append, Nat.add_mul]
      have := h (xs ++ [(j : Int)])
      omega
theorem ordTo_mem {f : List Int → List (List Int)} {q : Nat → Bool} {xs : List Int} {j : Nat} {y : List Int} : y ∈ ordTo f q xs j ↔ ∃ i, i < j ∧ q i = true ∧ y ∈ f (xs ++ [(i : Int)]) := by
  simp only [ordTo, List.mem_flatMap, List.mem_range]
  constructor
  · rintro ⟨i, hi, hy⟩
    cases hq : q i
    · rw [hq] at hy; cases hy
    · rw [hq] at hy; exact ⟨i, hi, hq, hy⟩
  · rintro ⟨i, hi, hq, hy⟩
    exact ⟨i, hi, by rw [hq]; exact hy⟩
theorem ordTo_congr {f g : List Int → List (List Int)} {p q : Nat → Bool} {xs : List Int} : ∀ j, (∀ i, i < j → (if p i then f (xs ++ [(i : Int)]) else []) = if q i then g (xs ++ [(i : Int)]) else []) → ordTo f p xs j = ordTo g q xs j
  | 0, _ => rfl
  | j + 1, h => by
    have ih := ordTo_congr j fun i hi => h i (by omega)
    have hj := h j (by omega)
    cases hp : p j <;> cases hq : q j <;> rw [hp, hq] at hj
    · rw [ordTo_no hp, ordTo_no hq, ih]
    · rw [ordTo_no hp, ordTo_yes hq, ih, ← show [] = g (xs ++ [(j : Int)]) by simpa using hj, List.append_nil]
    · rw [ordTo_yes hp, ordTo_no hq, ih, show f (xs ++ [(j : Int)]) = [] by simpa using hj, List.append_nil]
    · rw [ordTo_yes hp, ordTo_yes hq, ih, show f (xs ++ [(j : Int)]) = g (xs ++ [(j : Int)]) by simpa using hj]
/-- All orders that go on from one, the program's way: d places are left. -/
def ordF (b : List LLit) : Nat → List Int → List (List Int)
  | 0, xs => [xs]
  | d + 1, xs => ordTo (ordF b d) (canAt b xs) xs b.length
/-- .. the specification's way. -/
def ordS (b : List LLit) : Nat → List Int → List (List Int)
  | 0, xs => if orderOk b xs then [xs] else []
  | d + 1, xs => ordTo (ordS b d) (fun i => !(xs.contains (i : Int))) xs b.length
theorem ordF_few {b : List LLit} (hb : b.length ≤ 4) : ∀ d xs, (ordF b d xs).length ≤ 4 ^ d
  | 0, _ => by simp [ordF]
  | d + 1, xs => by
    have h1 := ordTo_few (q := canAt b xs) (xs := xs) (ordF_few hb d) b.length
    show (ordTo (ordF b d) (canAt b xs) xs b.length).length ≤ _
    have h2 : b.length * 4 ^ d ≤ 4 * 4 ^ d := Nat.mul_le_mul_right _ hb
    rw [Nat.pow_succ]
    omega
theorem ordS_few {b : List LLit} (hb : b.length ≤ 4) : ∀ d xs, (ordS b d xs).length ≤ 4 ^ d
  | 0, xs => by
    show (if orderOk b xs then [xs] else []).length ≤ _
    split <;> simp
  | d + 1, xs => by
    have h1 := ordTo_few (q := fun i => !(xs.contains (i : Int))) (xs := xs) (ordS_few hb d) b.length
    show (ordTo (ordS b d) (fun i => !(xs.contains (i : Int))) xs b.length).length ≤ _
    have h2 : b.length * 4 ^ d ≤ 4 * 4 ^ d := Nat.mul_le_mul_right _ hb
    rw [Nat.pow_succ]
    omega
theorem ordF_lens {b : List LLit} : ∀ d xs, ∀ y ∈ ordF b d xs, y.length = xs.length + d
  | 0, xs, y, hy => by simp [ordF] at hy; simp [hy]
  | d + 1, xs, y, hy => by
    obtain ⟨i, _, _, hy⟩ := ordTo_mem.1 hy
    have := ordF_lens d _ y hy
    rw [this]
    simp
    omega
theorem OrdTo_snoc {b : List LLit} {xs : List Int} {i : Nat} (hi : i < b.length) : OrdTo b (xs ++ [(i : Int)]) (xs.length + 1) ↔ OrdTo b xs xs.length ∧ canAt b xs i = true := by
  have hsame : ∀ j, j < xs.length → ordAt b (xs ++ [(i : Int)]) j = ordAt b xs j := fun j hj => by
    unfold ordAt
    rw [List.take_append_of_le_length (by omega)]
    have : (xs ++ [(i : Int)]).getD j 0 = xs.getD j 0 := by simp [List.getD_eq_getElem?_getD, List.getElem?_append_left hj]
    rw [this]
  have hlast : ordAt b (xs ++ [(i : Int)]) xs.length = canAt b xs i := by
    rw [ordAt_get (by simp)]
    have e1 : (xs ++ [(i : Int)])[xs.length]'(by simp) = (i : Int) := by simp
    have e2 : (xs ++ [(i : Int)]).take xs.length = xs := by simp
    rw [e1, e2]
    have : decide (0 ≤ (i : Int) ∧ (i : Int) < (b.length : Int)) = true := by simp; omega
    rw [this, Bool.true_and]
    rfl
  constructor
  · intro h
    exact ⟨fun j hj => by rw [← hsame j hj]; exact h j (by omega), by rw [← hlast]; exact h _ (by omega)⟩
  · rintro ⟨h1, h2⟩ j hj
    by_cases e : j = xs.length
    · subst e; rw [hlast]; exact h2
    · rw [hsame j (by omega)]; exact h1 j (by omega)
theorem ord_same {b : List LLit} : ∀ d xs, xs.length + d = b.length → (OrdTo b xs xs.length → ordS b d xs = ordF b d xs) ∧ (¬ OrdTo b xs xs.length → ordS b d xs = [])
  | 0, xs, hl => by
    show (_ → (if orderOk b xs then [xs] else []) = [xs]) ∧ (_ → (if orderOk b xs then [xs] else []) = [])
    constructor
    · intro h; rw [if_pos (orderOk_yes (by omega) h rfl)]
    · intro h
      rw [if_neg]
      intro hk
      unfold orderOk at hk
      simp only [Bool.and_eq_true, decide_eq_true_eq] at hk
      exact h hk.2
  | d + 1, xs, hl => by
    have ih : ∀ i, i < b.length → _ := fun i (hi : i < b.length) => ord_same (b := b) d (xs ++ [(i : Int)]) (by simp; omega)
    constructor
    · intro h
      refine ordTo_congr b.length fun i hi => ?_
      obtain ⟨h1, h2⟩ := ih i hi
      have hs : (xs ++ [(i : Int)]).length = xs.length + 1 := by simp
      rw [hs, OrdTo_snoc hi] at h1 h2
      cases hc : canAt b xs i
      · have h3 := h2 (fun hh => by rw [hc] at hh; cases hh.2)
        rw [h3]
        simp
      · have h3 := h1 ⟨h, hc⟩
        have : xs.contains (i : Int) = false := by
          unfold canAt at hc
          rw [Bool.and_eq_true] at hc
          simpa using hc.1
        rw [h3, this]
        simp
    · intro h
      have e : ordTo (ordS b d) (fun i => !(xs.contains (i : Int))) xs b.length = ordTo (ordS b d) (fun _ => false) xs b.length := ordTo_congr b.length fun i hi => by
        obtain ⟨h1, h2⟩ := ih i hi
        have hs : (xs ++ [(i : Int)]).length = xs.length + 1 := by simp
        rw [hs, OrdTo_snoc hi] at h2
        rw [h2 (fun hh => h hh.1)]
        simp
      show ordTo (ordS b d) (fun i => !(xs.contains (i : Int))) xs b.length = []
      rw [e]
      simp [ordTo]
def planOrdL (ar : List Int) (r : LRule) : List (List Int) := if ruleOk ar r = true then ordF r.2 r.2.length [] else []
theorem planOrd_spec {b : List LLit} : ordS b b.length [] = ordF b b.length [] := (ord_same b.length [] (by simp)).1 (fun j hj => absurd hj (by simp))
theorem rows_sz : ∀ (l : List (List Int)) (m : Nat), (∀ y ∈ l, y.length ≤ m) → (l.map List.length).sum ≤ l.length * m
  | [], _, _ => by simp
  | y :: l, m, h => by
    have h1 := h y List.mem_cons_self
    have h2 := rows_sz l m fun z hz => h z (List.mem_cons_of_mem _ hz)
    simp only [List.map_cons, List.sum_cons, List.length_cons, Nat.add_mul]
    omega
theorem planOrd_few (ar : List Int) (r : LRule) : (planOrdL ar r).length ≤ 256 ∧ ∀ y ∈ planOrdL ar r, y.length ≤ 4 := by
  unfold planOrdL
  by_cases h : ruleOk ar r = true
  · rw [if_pos h]
    have h4 := (ruleOk_safe h).2
    constructor
    · have := ordF_few h4 r.2.length []
      have h5 : 4 ^ r.2.length ≤ 4 ^ 4 := Nat.pow_le_pow_right (by decide) h4
      omega
    · intro y hy
      have := ordF_lens _ _ y hy
      simp at this
      omega
  · rw [if_neg h]
    exact ⟨by simp, fun y hy => by cases hy⟩

end Go.Proofs.YtokmmloakahkhaaDoor
/-
  slices.Index and slices.Contains at integers; a slice's first rows.
-/
namespace Go.Proofs.YtokmmloakahkhaaDoor
open Go.RowKit

theorem RdInts.takes {w : World} {B n c : Nat} {A : Option Addr} {xs : List Int} (h : RdInts w B (.slice A n c) xs) {k : Nat} (hk : k ≤ xs.length) : RdInts w B (.slice A k c) (xs.take k) := by
  obtain ⟨A', c', e, hc, h⟩ := h
  injection e with e1 e2 e3
  subst e1
  subst e3
  have hl : (xs.take k).length = k := by simp; omega
  refine ⟨A, c, by rw [hl], by omega, fun hn => ?_⟩
  rw [hl] at hn
  obtain ⟨b, o, rfl, hb, hx⟩ := h (by omega)
  refine ⟨b, o, rfl, hb, fun j hj => ?_⟩
  rw [List.getElem_take]
  exact hx j (by omega)

end Go.Proofs.YtokmmloakahkhaaDoor
/-
  Rows of integers, each in memory of its own, that are collected one by one; a row of integers that grows while its beginning stays another slice's. No walk but append's.
-/
namespace Go.Proofs.YtokmmloakahkhaaDoor
open Go.RowKit

/-- Rows are collected in blocks from lo on, each in a block of its own. -/
structure ColO (lo : Nat) (w wr : World) (xss : List (List Int)) (A : Option Addr) (c : Nat) (av : List Value) : Prop where
  below : Below w.heap.size w wr
  lo1 : w.heap.size ≤ lo
  lo2 : lo ≤ wr.heap.size
  args : OwnArgs wr lo wr.heap.size av xss
  row : wr.ownsRow lo 23 1 (.slice A xss.length c) xss.length av
section
variable {lo : Nat} {w wr w2 w4 : World} {xss xss' : List (List Int)} {A : Option Addr} {c g cap : Nat} {av : List Value} {xs : List Int} {a : Value} {o : Obj}
theorem ColO.nil (hb : Below w.heap.size w wr) (h1 : w.heap.size ≤ lo) (h2 : lo ≤ wr.heap.size) : ColO lo w wr [] none 0 [] := ⟨hb, h1, h2, .nil, World.ownsRow_nil _ _ _ _⟩
theorem ColO.empty (hb : Below w.heap.size w wr) (h1 : w.heap.size ≤ lo) (h2 : lo ≤ wr.heap.size) : ColO lo w (wr.alloc (.cells #[] 23)) [] (some ⟨wr.heap.size, 0, none⟩) 0 [] :=
  ⟨hb.alloc hb.size _, h1, by simp; omega, .nil, World.ownsRow_made wr #[] 0 h2 (by decide) rfl⟩
theorem ColO.len (h : ColO lo w wr xss A c av) : av.length = xss.length := h.args.len
/-- What touches neither the rows nor their row keeps it. -/
theorem ColO.kept (h : ColO lo w wr xss A c av) (hb : Below w.heap.size w w2) (hs : wr.heap.size ≤ w2.heap.size) (hk : ∀ q, q < wr.heap.size → (some q = (Value.slice A xss.length c).ownBlock ∨ ∃ a ∈ av, a.ownBlock = some q) → w2.heap[q]? = wr.heap[q]?) : ColO lo w w2 xss A c av := by
  refine ⟨hb, h.lo1, Nat.le_trans h.lo2 hs, ⟨h.args.len, fun i h1 h2 => ?_, h.args.apart⟩, ?_⟩
  · have h0 := h.args.own i h1 h2
    exact (h0.kept fun q hq => hk q (h0.lt hq).2.2 (.inr ⟨_, List.getElem_mem h2, hq⟩)).mono (Nat.le_refl _) hs
  · exact ownsRow_only h.row fun q hq => hk q (h.row.lt q hq).2 (.inl hq.symm)
theorem ColO.on (h : ColO lo w wr xss A c av) (hb : Below wr.heap.size wr w2) : ColO lo w w2 xss A c av := h.kept (bthen h.below hb) hb.size fun q hq _ => hb.block q hq
theorem ColO.rows (h : ColO lo w wr xss A c av) : OwnRows wr w.heap.size wr.heap.size (.slice A xss.length c) xss := ⟨av, h.args.mono h.lo1 (Nat.le_refl _), ownsRow_mono h.row h.lo1, fun g hg => (h.row.lt g hg).2⟩
theorem ColO.push (h : ColO lo w wr xss A c av) (e : xss' = xss ++ [xs]) (hb : Below wr.heap.size wr w2)
    (ha : OwnInts w2 wr.heap.size w2.heap.size a xs) (hg : (w2.alloc o).grownBy w4 (Value.slice A xss.length c).ownBlock)
    (hown : w4.ownsRow lo 23 1 (.slice (some ⟨g, 0, none⟩) (xss.length + 1) cap) (xss.length + 1) (av ++ [a])) :
    ColO lo w w4 xss' (some ⟨g, 0, none⟩) cap (av ++ [a]) ∧ xss.length + 1 = xss'.length := by
  subst e
  have hg' := grown_from_alloc hg
  have hl : xss.length + 1 = (xss ++ [xs]).length := by simp
  have hargs := (h.args.below hb (Nat.le_refl _)).snoc ha h.lo2 hb.size
  have hrow2 := ownsRow_below h.row (fun q hq => (h.row.lt q hq).2) hb (Nat.le_refl _)
  have h1 := h.lo1
  have h2 := h.lo2
  have hz := hb.size
  refine ⟨⟨((bthen h.below hb).alloc (bthen h.below hb).size _).grown hg (by have := (bthen h.below hb).size; simp; omega) (fun k hk => Nat.le_trans h1 (h.row.lt k hk).1), h1, by have := hg'.size; omega, ?_, ?_⟩, hl⟩
  · exact ⟨hargs.len, fun i h1 h3 => ((hargs.own i h1 h3).kept fun q hq => hg'.block q ((hargs.own i h1 h3).lt hq).2.2 (fun e => rowsI_ne hrow2 e.symm (hargs.own i h1 h3) hq)).mono (Nat.le_refl _) hg'.size, hargs.apart⟩
  · rw [← hl]
    exact hown
end

/-- A slice of the beginning of an own row owns it too. -/
theorem OwnInts.less {w : World} {lo hi n c : Nat} {A : Option Addr} {xs : List Int} {x : Int} (h : OwnInts w lo hi (.slice A (n + 1) c) (xs ++ [x])) (hn : xs.length = n) : OwnInts w lo hi (.slice A n c) xs := by
  obtain ⟨⟨hlen, h⟩, hlt⟩ := h
  refine ⟨⟨by simp, ?_⟩, fun g hg => hlt g (by cases A <;> first | (simp [Value.ownBlock] at hg; done) | simpa [Value.ownBlock] using hg)⟩
  rcases h with ⟨e, _⟩ | ⟨g, cap, cur, e, hb, hg, hnc, hm, hs, ht⟩
  · cases e
  · injection e with e1 e2 e3
    subst e1
    subst e3
    refine .inr ⟨g, c, cur, by rw [hn], hb, hg, by simp at hnc; omega, hm, hs, ?_⟩
    have h2 := congrArg (List.take xs.length) ht
    rw [List.take_take] at h2
    simp only [List.length_append, List.length_singleton, Nat.mul_one, List.map_append] at h2 ⊢
    rw [Nat.min_eq_left (by omega)] at h2
    rw [h2, List.take_append_of_le_length (by simp), List.take_of_length_le (by simp)]

/-- append of one integer to a row of four at most: in place, or in a block of its own that leaves all others alone. -/
theorem run_append_begun {P : Program} (w : World) (base : Nat) (t ty e : TypeId) (i : TypeInfo) (ht : P.underlying t = some (.slice e)) (hi : P.info? e = some i) (hz : i.zero = some (.int .i64 0)) (hsize : i.size = 1) (hby : i.bytes = 8)
    (v : Value) (n : Nat) (xs : List Value) (hown : w.ownsRow base e 1 v n xs) (hn : n ≤ 4)
    (ad : Addr) (c : Nat) (u : Value) (hnews : ∀ j x, [u][j]? = some x → w.cell? (ad.add j) = some x) (h1 : u.oneCell' = true) (hbase : base ≤ w.heap.size) :
    ∃ g cap w', (Builtin.append_ #[t, t] ty #[v, .slice (some ad) 1 c]).run P w = .ok (.slice (some ⟨g, 0, none⟩) (n + 1) cap) w' ∧ w'.ownsRow base e 1 (.slice (some ⟨g, 0, none⟩) (n + 1) cap) (n + 1) (xs ++ [u]) ∧ w.grownBy w' v.ownBlock ∧
      ((g = w.heap.size ∧ w.grownBy w' none) ∨ v = .slice (some ⟨g, 0, none⟩) n cap) := by
  obtain ⟨v', w', hr, h2, h3, _, h5⟩ := run_append_own_at (P := P) w base t ty e i (.int .i64 0) 1 8 ht hi hz hsize hby rfl (by decide) v n xs hown ad 1 c [u] rfl hnews (by simpa using h1) (by unfold maxLen; omega) (by omega) hbase
  obtain ⟨g, cap, rfl, _, hlt⟩ := h2.form (by omega)
  rcases hown.2 with ⟨rfl, h0⟩ | ⟨g0, c0, cur, rfl, hb0, hg0, hnc, hcm, hcs, htk⟩
  · refine ⟨g, cap, w', hr, h2, h3, .inl ⟨?_, h3⟩⟩
    rcases h5 with h5 | h5
    · cases h5
    · simpa [Value.ownBlock] using h5
  · by_cases hroom : n + 1 ≤ c0
    · obtain ⟨w2, hr2, h22, h23⟩ := run_append_own_spare (P := P) w base t ty e i 1 ht hi hsize g0 n c0 xs hown ad 1 c [u] rfl hnews (by simpa using h1) hroom
      exact ⟨g0, c0, w2, hr2, h22, h23, .inr rfl⟩
    · have hcells := @World.ownsRow.cells w base e 1 _ n xs hown g0 rfl
      have hc0 : c0 = n := by omega
      have hr2 := run_append_grow (P := P) (w := w) t ty e i (.int .i64 0) ht hi hz ⟨g0, 0, none⟩ n c0 xs (by rw [hsize]; exact hown.1) (fun j x hx => hcells j x hx) ad 1 c [u] (by rw [hsize]; rfl) hnews (by omega) (by omega) (by
        subst hc0
        rw [hby]
        have h9 : c0 = 0 ∨ c0 = 1 ∨ c0 = 2 ∨ c0 = 3 ∨ c0 = 4 := by omega
        rcases h9 with rfl | rfl | rfl | rfl | rfl <;> decide)
      rw [hr] at hr2
      injection hr2 with e1 e2
      injection e1 with e1 _ e3
      injection e1 with e1
      injection e1 with e1 _ _
      subst e1
      refine ⟨_, cap, w', hr, h2, h3, .inl ⟨rfl, ?_⟩⟩
      rw [e2]
      exact ⟨rfl, rfl, rfl, by simp [World.alloc], fun k hk _ => Below.heap_alloc w.drew _ k hk⟩

/-- For a step of a region that draws its order. -/
theorem step_append_begun {P : Program} {w : World} {ops : Array Oper} {o : Oper} {a : Act} {K : Act → World → Prop} {Q : Exit → Act → World → Prop} {E : Prop} (hgd : o.guard = none) (s x : Operand) (t : TypeId)
    (ho : o.op = .call { callee := .builtin .append, args := #[s, x], argTypes := #[t, t] })
    (base : Nat) (e : TypeId) (i : TypeInfo) (ht : P.underlying t = some (.slice e)) (hi : P.info? e = some i) (hz : i.zero = some (.int .i64 0)) (hsize : i.size = 1) (hby : i.bytes = 8)
    (v : Value) (n : Nat) (xs : List Value) (hs : a.eval s = v) (hown : w.ownsRow base e 1 v n xs) (hn : n ≤ 4)
    (ad : Addr) (c : Nat) (u : Value) (hx : a.eval x = .slice (some ad) 1 c) (hnews : ∀ j x, [u][j]? = some x → w.cell? (ad.add j) = some x) (h1 : u.oneCell' = true) (hbase : base ≤ w.heap.size)
    (h : ∀ g cap w', w'.ownsRow base e 1 (.slice (some ⟨g, 0, none⟩) (n + 1) cap) (n + 1) (xs ++ [u]) → w.grownBy w' v.ownBlock → ((g = w.heap.size ∧ w.grownBy w' none) ∨ v = .slice (some ⟨g, 0, none⟩) n cap) → K (a.put o.dst (.slice (some ⟨g, 0, none⟩) (n + 1) cap)) w') :
    if Region.wanted o (yielded ops a.tmps) = true then Oper.wp P o a w K Q else E := by
  have hw : Region.wanted o (yielded ops a.tmps) = true := by simp [Region.wanted, hgd]
  rw [if_pos hw]
  obtain ⟨g, cap, w', hr, h2, h3, h4⟩ := run_append_begun (P := P) w base t o.type e i ht hi hz hsize hby v n xs hown hn ad c u hnews h1 hbase
  unfold Oper.wp execOp
  simp only [ho, resolve, invoke, builtin, Sem.run_bind, Sem.run_pure, Result.andThen_ok, List.map_toArray, List.map_cons, List.map_nil, hs, hx, hr]
  exact h g cap w' h2 h3 h4

end Go.Proofs.YtokmmloakahkhaaDoor
/-
  The walks of areKnown, opFits, PlanOk of the program.
-/
namespace Go.Proofs.YtokmmloakahkhaaDoor
open Go.RowKit

end Go.Proofs.YtokmmloakahkhaaDoor
/-
  The walks of canCome, orderFits, opKind of the program.
-/
namespace Go.Proofs.YtokmmloakahkhaaDoor
open Go.RowKit

end Go.Proofs.YtokmmloakahkhaaDoor
/-
  DERIVED: THE SHELF's CONTRACTS AT THIS DUMP, IN PLAIN WORDS (tools/lay-plain.mjs out of 'YtokmmloakahkhaaDoorCloneLay.lean', which tools/lay-shelf.mjs wrote): THE SAME DECLARATIONS UNDER THE SAME NAMES: 'import', 'namespace', 'open', 'def', 'theorem' AND NOTHING ELSE: no command of the shelf's: FOR A HAND-IN. Each laying: the table of numbers ('.._ren') and one theorem, a field a fact of the dump's own or the kernel's comparison; each contract: ONE APPLICATION.
-/
namespace Go.Proofs
open Go.Shelf
def Tryd.cloneI_ren : Go.Shelf.Ren := ⟨fun | 15 => 89 | n => n, fun | 22 => 23 | 3 => 3 | 4 => 4 | n => n, fun | n => n⟩
theorem Tryd.cloneI : Go.Proofs.Lays2.n15 Tryd.prog Tryd.cloneI_ren := {
  mixed := by kernel_rfl
  f15 := Tryd.func89.trans (congrArg some (by kernel_rfl))
  t3 := Tryd.underlying3
  a3 := Tryd.isAgg3
  z3 := Tryd.sizeOf3
  v3 := Tryd.zeroValue3
  t4 := Tryd.underlying4
  a4 := Tryd.isAgg4
  z4 := Tryd.sizeOf4
  v4 := Tryd.zeroValue4
  t22 := Tryd.underlying23
  a22 := Tryd.isAgg23
  z22 := Tryd.sizeOf23
  v22 := Tryd.zeroValue23
  i3 := by kernel_rfl }
end Go.Proofs
/-
  slices.Clone at integers.
-/
namespace Go.Proofs.YtokmmloakahkhaaDoor
open Go.RowKit

set_option maxRecDepth 100000 in
theorem cloneI_any (v : Value) (xs : List Int) (w : World) (h : RdInts w w.heap.size v xs) (hn : xs.length ≤ 1048576) :
    Calls Tryd.prog 89 #[v] w fun e w' => ∃ A c, e = .returned (.slice A xs.length c) ∧ OwnInts w' w.heap.size w'.heap.size (.slice A xs.length c) xs ∧ Below w.heap.size w w' := by
  obtain ⟨A, c, rfl, hc, hx⟩ := h
  have fin : ∀ (v' : Value) (w' : World), w'.ownsRow w.heap.size 3 1 v' xs.length (xs.map (Value.int .i64)) → Below w.heap.size w w' → ∃ A c, Ending.returned v' = .returned (.slice A xs.length c) ∧ OwnInts w' w.heap.size w'.heap.size (.slice A xs.length c) xs ∧ Below w.heap.size w w' := fun v' w' ho hb => by
    have ho2 : OwnInts w' w.heap.size w'.heap.size v' xs := ⟨ho, fun g hg => (ho.lt g hg).2⟩
    obtain ⟨A', c', rfl⟩ := ho2.form
    exact ⟨A', c', rfl, ho2, hb⟩
  by_cases hp : 0 < xs.length
  · obtain ⟨b, o, rfl, hb, hk⟩ := hx hp
    have hcon := Any.slices_Clone_int Tryd.cloneI b o xs.length c xs w (Nat.le_refl _) (by omega) (fun j hj => by rw [hk j hj]; simp [hj])
    refine Calls.mono hcon ?_
    rintro e w' ⟨v', rfl, ho, _, hb'⟩
    exact fin v' w' (by rw [List.take_length] at ho; exact ho) hb'
  · have h0 : xs = [] := List.eq_nil_of_length_eq_zero (by omega)
    subst h0
    rcases A with _ | a
    · have hcon := Any.slices_Clone_int_nil Tryd.cloneI 0 c w
      refine Calls.mono hcon ?_
      rintro e w' ⟨rfl, rfl⟩
      exact ⟨none, 0, rfl, ⟨World.ownsRow_nil _ _ _ _, fun g hg => by cases hg⟩, Below.refl _ _⟩
    · have hcon := Any.slices_Clone_int_zero Tryd.cloneI a c w
      refine Calls.mono hcon ?_
      rintro e w' ⟨v', rfl, ho, _, hb'⟩
      exact fin v' w' ho hb'

end Go.Proofs.YtokmmloakahkhaaDoor
/-
  Words for rows of operations of the call's own: what a loop collects, what is read of it, its leaves. No walk.
-/
namespace Go.Proofs.YtokmmloakahkhaaDoor
open Go.RowKit

/-- The cells of operations, an operation's three behind each other. -/
def flat3 : List LLit → List Value → List Value
  | l :: ls, a :: av => .int .i64 l.1 :: .int .i64 l.2.1 :: a :: flat3 ls av
  | _, _ => []
theorem flat3_length : ∀ (ls : List LLit) (av : List Value), av.length = ls.length → (flat3 ls av).length = ls.length * 3
  | [], [], _ => rfl
  | [], _ :: _, h => by simp at h
  | _ :: _, [], h => by simp at h
  | l :: ls, a :: av, h => by
    have := flat3_length ls av (by simpa using h)
    simp only [flat3, List.length_cons, this]
    omega
theorem flat3_at : ∀ (ls : List LLit) (av : List Value) (_ : av.length = ls.length) (k : Nat) (hk : k < ls.length),
    (flat3 ls av)[k * 3]? = some (.int .i64 ls[k].1) ∧ (flat3 ls av)[k * 3 + 1]? = some (.int .i64 ls[k].2.1) ∧ (flat3 ls av)[k * 3 + 2]? = av[k]?
  | [], _, _, k, hk => absurd hk (by simp)
  | _ :: _, [], h, _, _ => by simp at h
  | l :: ls, a :: av, h, 0, _ => by simp [flat3]
  | l :: ls, a :: av, h, k + 1, hk => by
    have := flat3_at ls av (by simpa using h) k (by simpa using hk)
    simpa [flat3, Nat.add_mul] using this
theorem flat3_append : ∀ (ls : List LLit) (av : List Value) (_ : av.length = ls.length) (ms : List LLit) (bv : List Value), flat3 (ls ++ ms) (av ++ bv) = flat3 ls av ++ flat3 ms bv
  | [], [], _, _, _ => by simp [flat3]
  | [], _ :: _, h, _, _ => by simp at h
  | _ :: _, [], h, _, _ => by simp at h
  | l :: ls, a :: av, h, ms, bv => by
    have := flat3_append ls av (by simpa using h) ms bv
    simp [flat3, this]

section
variable {w w' : World} {lo hi lo' hi' B : Nat} {v : Value} {av : List Value} {os : List LLit}
end

section
variable {lo : Nat} {w wr w2 w4 : World} {os os' : List LLit} {A : Option Addr} {c g cap : Nat} {av : List Value} {s : LLit} {a : Value} {o : Obj}
end

theorem news1o (w : World) (u0 : Value) (t : TypeId) : ∀ j u, [u0][j]? = some u → (w.alloc (.cells #[u0] t)).cell? ((⟨w.heap.size, 0, none⟩ : Addr).add j) = some u := World.news_of_block (cs := #[u0]) (heap_alloc_new w _)
theorem news3o (w : World) (u0 u1 u2 : Value) (t : TypeId) : ∀ j u, [u0, u1, u2][j]? = some u → (w.alloc (.cells #[u0, u1, u2] t)).cell? ((⟨w.heap.size, 0, none⟩ : Addr).add j) = some u := World.news_of_block (cs := #[u0, u1, u2]) (heap_alloc_new w _)

end Go.Proofs.YtokmmloakahkhaaDoor
/-
  The walks of ordersFrom and PlanOrders of the program.
-/
namespace Go.Proofs.YtokmmloakahkhaaDoor
open Go.RowKit

theorem Tryd.infoIntSO : (Tryd.prog.info? 23).map (fun i => (i.zero, i.size, i.bytes)) = some (some (.slice none 0 0), 1, 24) := by kernel_rfl
/-- Blocks that stand keep what they hold, but for the orders' row and the begun order's. -/
structure OrdKept (w w' : World) (u x u' : Value) : Prop where
  size : w.heap.size ≤ w'.heap.size
  block : ∀ q, q < w.heap.size → some q ≠ u.ownBlock → some q ≠ x.ownBlock → w'.heap[q]? = w.heap[q]?
  own : u'.ownBlock = u.ownBlock ∨ ∀ g, u'.ownBlock = some g → w.heap.size ≤ g
section
variable {w w1 w' : World} {u x u' u2 x2 : Value}
theorem OrdKept.refl (w : World) (u x : Value) : OrdKept w w u x u := ⟨Nat.le_refl _, fun _ _ _ _ => rfl, .inl rfl⟩
theorem OrdKept.on (h : OrdKept w w1 u x u') (hb : Below w1.heap.size w1 w') : OrdKept w w' u x u' := ⟨Nat.le_trans h.size hb.size, fun q h1 h2 h3 => (hb.block q (Nat.lt_of_lt_of_le h1 h.size)).trans (h.block q h1 h2 h3), h.own⟩
theorem OrdKept.trans (h : OrdKept w w1 u x u') (k : OrdKept w1 w' u' x2 u2) (hx : x2.ownBlock = x.ownBlock ∨ ∀ g, x2.ownBlock = some g → w.heap.size ≤ g) : OrdKept w w' u x u2 := by
  refine ⟨Nat.le_trans h.size k.size, fun q h1 h2 h3 => ?_, ?_⟩
  · refine (k.block q (Nat.lt_of_lt_of_le h1 h.size) (fun e => ?_) (fun e => ?_)).trans (h.block q h1 h2 h3)
    · rcases h.own with h4 | h4
      · exact h2 (e.trans h4)
      · have := h4 q e.symm; omega
    · rcases hx with h4 | h4
      · exact h3 (e.trans h4)
      · have := h4 q e.symm; omega
  · rcases k.own with h4 | h4
    · rcases h.own with h5 | h5
      · exact .inl (h4.trans h5)
      · exact .inr fun g hg => h5 g (h4 ▸ hg)
    · exact .inr fun g hg => Nat.le_trans h.size (h4 g hg)
/-- The begun order has grown by one. -/
theorem OrdKept.begun (h : OrdKept w w1 u x u') (hg : w1.grownBy w' x.ownBlock) : OrdKept w w' u x u' :=
  ⟨Nat.le_trans h.size hg.size, fun q h1 h2 h3 => (hg.block q (Nat.lt_of_lt_of_le h1 h.size) h3).trans (h.block q h1 h2 h3), h.own⟩
end
theorem ColO.begun {lo : Nat} {w wr w2 : World} {xss : List (List Int)} {A AX : Option Addr} {c cX n hi : Nat} {av : List Value} {xs : List Int} (h : ColO lo w wr xss A c av) (hX : OwnInts wr lo hi (.slice AX n cX) xs)
    (hap : ∀ a ∈ av, ∀ g, a.ownBlock = some g → (Value.slice AX n cX).ownBlock ≠ some g) (hg : wr.grownBy w2 (Value.slice AX n cX).ownBlock) : ColO lo w w2 xss A c av := by
  refine h.kept (h.below.grown hg h.below.size fun k hk => Nat.le_trans h.lo1 (hX.lt hk).1) hg.size fun q hq hc => hg.block q hq fun e => ?_
  rcases hc with hc | ⟨a, ha, hc⟩
  · exact rowsI_ne h.row hc.symm hX e.symm
  · exact hap a ha q hc e.symm

end Go.Proofs.YtokmmloakahkhaaDoor
/-
  The specification's search of an integer in a row.
-/
namespace Go.Proofs.YtokmmloakahkhaaDoor
open Go.RowKit

theorem RdInts.getP {w : World} {B n c : Nat} {A : Option Addr} {xs : List Int} (h : RdInts w B (.slice A n c) xs) {k : Nat} (hk : k < xs.length) : ∃ b o, A = some ⟨b, o, none⟩ ∧ b < B ∧ w.cell? ⟨b, o + k, none⟩ = some (.int .i64 xs[k]) := by
  obtain ⟨A', c', e, hc, h⟩ := h
  injection e with e1 e2 e3
  subst e1
  obtain ⟨b, o, rfl, hb, hx⟩ := h (by omega)
  exact ⟨b, o, rfl, hb, hx k hk⟩
theorem memP_step {xs : List Int} {x : Int} {k : Nat} (hlt : k < xs.length) (h : x ∉ xs.take k) (hn : ¬ xs[k] = x) : x ∉ xs.take (k + 1) := by
  rw [List.take_succ_eq_append_getElem hlt, List.mem_append, List.mem_singleton]
  rintro (h1 | h1)
  · exact h h1
  · exact hn h1.symm
set_option maxRecDepth 100000 in
theorem l10Has_any (v : Value) (xs : List Int) (x : Int) (w : World) (h : RdInts w w.heap.size v xs) (hl : xs.length ≤ 1048576) :
    Calls Tryd.prog 84 #[v, .int .i64 x] w fun e w' => e = .returned (.bool (decide (x ∈ xs))) ∧ w = w' := by
  have H := Lib.hid h
  obtain ⟨A, c, rfl, hc, _⟩ := h
  obtain ⟨R, hR⟩ : ∃ R, R = decide (x ∈ xs) := ⟨_, rfl⟩
  have HR := Lib.hid hR
  rw [← hR]
  clear hR
  go_enter Tryd.func84, Tryd.ntmps84
  go_wp2_with (fail)
  go_loop [5] (fun i => ∃ k : Nat, k ≤ xs.length ∧ i = .int .i64 k ∧ x ∉ xs.take k) (fun i => xs.length - (intOf i).toNat)
  case atStart => exact ⟨0, Nat.zero_le _, rfl, by simp⟩
  case round =>
    obtain ⟨k, hk, rfl, hs⟩ := hrel
    have HS := Lib.hid hs
    clear hs
    by_cases hlt : k < xs.length
    · obtain ⟨b, o, rfl, hb, q0⟩ := RdInts.getP H.out hlt
      obtain ⟨y, hy⟩ : ∃ y, y = xs[k] := ⟨_, rfl⟩
      rw [← hy] at q0
      have HY := Lib.hid hy
      clear hy hb
      by_cases he : y = x
      · have he0 : (y == x) = true := by simp [he]
        have HE := Lib.hid (show true = R by rw [HR.out]; symm; simp; rw [← he, HY.out]; exact List.getElem_mem hlt)
        clear he
        go_wp2_with (fail)
        go_ret
        exact ⟨ret_bool HE.out, rfl⟩
      · have he0 : (y == x) = false := by simp [he]
        have HN := Lib.hid (memP_step hlt HS.out (by rw [← HY.out]; exact he))
        clear he
        go_wp2_with (fail)
        go_round
        case rel => exact ⟨k + 1, by omega, by go_num, HN.out⟩
        case measure => simp [intOf]; omega
    · have HE := Lib.hid (show false = R by rw [HR.out]; have := HS.out; rw [show k = xs.length by omega, List.take_length] at this; simp [this])
      go_wp2_with (fail)
      go_ret
      exact ⟨ret_bool HE.out, rfl⟩

end Go.Proofs.YtokmmloakahkhaaDoor
/-
  The walks of l11Orders and LeapOrders of the specification.
-/
namespace Go.Proofs.YtokmmloakahkhaaDoor
open Go.RowKit

theorem OwnInts.rdL {w : World} {lo : Nat} {v : Value} {xs : List Int} {hi : Nat} (h : OwnInts w lo hi v xs) (hh : hi ≤ w.heap.size := by omega) : RdInts w w.heap.size v xs := (h.mono (Nat.le_refl _) hh).rd

set_option maxHeartbeats 8000000 in
set_option maxRecDepth 100000 in
theorem l11Orders_any (v : Value) (V : List Int) (w0 : World) (lo : Nat) (h : RdInts w0 w0.heap.size v V) (hV4 : V.length ≤ 4) :
    ∀ (d : Nat) (xs : List Int) (out : List (List Int)) (A : Option Addr) (c : Nat) (av : List Value) (AX : Option Addr) (cX : Nat) (w : World),
      xs.length + d = V.length → out.length + 4 ^ d ≤ 4096 → ColO lo w0 w out A c av → OwnInts w lo w.heap.size (.slice AX xs.length cX) xs →
      Calls Tryd.prog 61 #[v, .slice AX xs.length cX, .slice A out.length c] w fun e w' =>
        ∃ A' c' av', e = .returned (.slice A' (out ++ lordS V d xs).length c') ∧ ColO lo w0 w' (out ++ lordS V d xs) A' c' av' ∧ OrdKept w w' (.slice A out.length c) (.slice none 0 0) (.slice A' (out ++ lordS V d xs).length c') := by
  obtain ⟨i0, hi0, hz0, hz1, hz2⟩ := info_parts Tryd.infoInt
  obtain ⟨i1, hi1, hy0, hy1, hy2⟩ := info_parts Tryd.infoIntSO
  have H := Lib.hid h
  obtain ⟨AV, cV, rfl, hcV, _⟩ := h
  intro d
  induction d with
  | zero =>
    intro xs out A c av AX cX w hlen hout hcol hbeg
    have HCOL := Lib.hid hcol
    have HBEG := Lib.hid hbeg
    have hxl : xs.length ≤ 4 := by omega
    have l0 : ((xs.length : Int) == (V.length : Int)) = true := by rw [beq_iff_eq]; omega
    have hol : out.length ≤ 4096 := by omega
    have CC := Lib.hid (l3Copy_any (.slice AX xs.length cX) xs w hbeg.rd (by omega))
    clear hcol hbeg hlen
    go_enter Tryd.func61, Tryd.ntmps61
    go_wp2_with (first | (go_at_call 51; refine CC.out.mono ?_; rintro e w3 ⟨P, q, rfl, o1, g1⟩) | (at_builtin; refine wpList_append_lies _ rfl (.tmp 13) (.tmp 16) 43 rfl lo 23 i1 (.slice none 0 0) 1 24 Tryd.underlying43 hi1 hy0 hy1 hy2 rfl (by decide) (.slice A out.length c) out.length av rfl ?c1 ⟨w3.heap.size, 0, none⟩ 1 1 [.slice P xs.length q] rfl rfl (news1o w3 _ _) ?c2 (by omega) (by unfold maxLen; omega) (by omega) ?c3 _ rfl ?_))
    case c1 => exact ((HCOL.out.on g1).row).alloc _
    case c2 => first | (intro u hu; simp at hu; subst hu; rfl) | rfl
    case c3 => have := HCOL.out.lo2; have := g1.size; simp; omega
    intro g2 cap w4 hown hg hat _
    have hpush := HCOL.out.push (xs := xs) (xss' := out ++ lordS V 0 xs) rfl g1 (o1.mono (Nat.le_refl _) (Nat.le_refl _)) hg hown
    have HPU := Lib.hid hpush
    have hgf := grown_from_alloc hg
    have s1 := g1.size
    have HK := Lib.hid (show OrdKept w w4 (.slice A out.length c) (.slice none 0 0) (.slice (some ⟨g2, 0, none⟩) (out.length + 1) cap) from
      ⟨Nat.le_trans s1 hgf.size, fun q h1 h2 _ => (hgf.block q (by omega) h2).trans (g1.block q h1), by
        rcases hat with h | h
        · exact .inl h.symm
        · refine .inr fun g hg => ?_
          have : g2 = g := by simpa [Value.ownBlock] using hg
          omega⟩)
    clear hpush hown hg hat hgf
    go_wp2_with fail
    go_ret
    refine ⟨some ⟨g2, 0, none⟩, cap, av ++ [.slice P xs.length q], by rw [← HPU.out.2]; rfl, HPU.out.1, ?_⟩
    rw [← HPU.out.2]
    exact HK.out
  | succ d ih =>
    intro xs out A c av AX cX w hlen hout hcol hbeg
    have HIH := Lib.hid ih
    clear ih
    have HCOL0 := Lib.hid hcol
    have HBEG0 := Lib.hid hbeg
    have HLEN := Lib.hid hlen
    have hxl : xs.length < V.length := by omega
    have hd3 : d ≤ 3 := by omega
    have HP := Lib.hid (show out.length + 4 * 4 ^ d ≤ 4096 by rw [Nat.pow_succ] at hout; omega)
    have HF := Lib.hid (lordS_few hV4 d)
    have l0 : ((xs.length : Int) == (V.length : Int)) = false := by rw [beq_eq_false_iff_ne]; omega
    have HQ := Lib.hid (show ∀ x : Int, (decide (x ∈ xs)) = xs.contains x from fun i => by rw [List.contains_eq_mem])
    clear hcol hbeg hlen hout
    go_enter Tryd.func61, Tryd.ntmps61
    go_wp2_with fail
    go_loopw [2, 7] (fun p i wr => ∃ (j : Nat) (A' : Option Addr) (c' : Nat) (av' : List Value), j ≤ V.length ∧ i = .int .i64 j ∧ p = .slice A' (out ++ lordSTo V d xs j).length c' ∧ ColO lo w0 wr (out ++ lordSTo V d xs j) A' c' av' ∧ OrdKept w wr (.slice A out.length c) (.slice none 0 0) (.slice A' (out ++ lordSTo V d xs j).length c')) (fun _ i _ => V.length - (intOf i).toNat)
    case atStart => exact ⟨0, A, c, av, Nat.zero_le _, rfl, by rw [lordSTo_zero, List.append_nil], by rw [lordSTo_zero, List.append_nil]; exact HCOL0.out, by rw [lordSTo_zero, List.append_nil]; exact OrdKept.refl _ _ _⟩
    case round =>
      obtain ⟨j, A', c', av', hj, rfl, rfl, hcol, hkp⟩ := hrel
      obtain ⟨O, hO⟩ : ∃ O, O = out ++ lordSTo V d xs j := ⟨_, rfl⟩
      rw [← hO] at hcol hkp ⊢
      have HO := Lib.hid hO
      clear hO
      have HC5 := Lib.hid hcol
      have HK5 := Lib.hid hkp
      have HLO := Lib.hid hcol.lo2
      have HX5 := Lib.hid (show OwnInts wr lo wr.heap.size (.slice AX xs.length cX) xs from by
        refine (HBEG0.out.kept fun q hq => hkp.block q (HBEG0.out.lt hq).2.2 (fun e => ?_) (by simp [Value.ownBlock])).mono (Nat.le_refl _) hkp.size
        exact rowsI_ne HCOL0.out.row e.symm HBEG0.out hq)
      have HRN := Lib.hid (lordSTo_few hV4 d xs j)
      have BW := Lib.hid hcol.below
      clear hcol hkp
      by_cases hlt : j < V.length
      · obtain ⟨bb, oo, hAV, hbb, k0⟩ := (H.out.on BW.out).getP hlt
        subst hAV
        obtain ⟨vj, hvj⟩ : ∃ vj, vj = V[j] := ⟨_, rfl⟩
        rw [← hvj] at k0
        have CH := Lib.hid (l10Has_any (.slice AX xs.length cX) xs vj wr HX5.out.rd (by omega))
        rw [HQ.out vj] at CH
        obtain ⟨cc, hcc⟩ : ∃ cc, cc = xs.contains vj := ⟨_, rfl⟩
        rw [← hcc] at CH
        have HCC := Lib.hid (show xs.contains V[j] = cc by rw [hcc, hvj])
        have HVJ := Lib.hid hvj
        clear hcc hvj
        cases cc
        · have HN := Lib.hid (lordSTo_yes (d := d) hlt HCC.out)
          rw [← HVJ.out] at HN
          have HOL := Lib.hid (show O.length + 4 ^ d ≤ 4096 by
            rw [HO.out, List.length_append]
            have h1 := HRN.out
            have h2 := HP.out
            have h3 : j * 4 ^ d ≤ 3 * 4 ^ d := Nat.mul_le_mul_right _ (by omega)
            omega)
          have HST := Lib.hid (show O ++ lordS V d (xs ++ [vj]) = out ++ lordSTo V d xs (j + 1) by rw [HN.out, HO.out, List.append_assoc])
          have HLX := Lib.hid (show (xs ++ [vj]).length = xs.length + 1 by simp)
          obtain ⟨SS, hSS⟩ : ∃ SS : World → Prop, SS = (fun W => W.cell? ⟨bb, oo + j, none⟩ = some (.int .i64 vj) ∧ True) := ⟨_, rfl⟩
          have HB := Lib.hid (show ∀ W, SS W → (W.cell? ⟨bb, oo + j, none⟩ = some (.int .i64 vj) ∧ True) from by rw [hSS]; exact fun W hW => hW)
          have K0 := Lib.hid k0
          have HS := Lib.hid (show ∀ W, Below wr.heap.size wr W → SS W from by
            rw [hSS]
            exact fun W hW => ⟨(hW.cell (p := ⟨bb, oo + j, none⟩) hbb).trans K0.out, trivial⟩)
          clear hSS
          go_upto_region 7 with (go_at_call 84; refine CH.out.mono ?_; rintro e w5 ⟨rfl, rfl⟩)
          clear k0
          refine wp_region_rel SS 10 12 (by kernel_rfl) rfl ?_
          obtain ⟨wy, hwy⟩ : ∃ wy, wy = wr.drew := ⟨_, rfl⟩
          have BY : Below wr.heap.size wr wy := by rw [hwy]; exact (Below.refl _ _).drew
          rw [← hwy]
          clear hwy
          have S0 := HS.out _ BY
          refine wpAnyR_pure (i := 0) (oi := _) ?va0 rfl rfl (by kernel_rfl) (by decide) (fun _ _ _ h => h) rfl ?hya0 (fun _ => S0) ?resta0
          case hya0 => (intro W; go_simp; (try with_reducible rfl))
          try simp only [List.setIfInBounds_toArray, List.set_cons_zero, List.set_cons_succ]
          refine wpAnyR_pure (i := 1) (oi := _) ?va1 rfl rfl (by kernel_rfl) (by decide) (fun _ _ _ h => h) rfl ?hya1 (fun _ => S0) ?resta1
          case hya1 => (intro W; go_simp; (try with_reducible rfl))
          try simp only [List.setIfInBounds_toArray, List.set_cons_zero, List.set_cons_succ]
          refine wpAnyR_pure (i := 3) (oi := _) ?va3 rfl rfl (by kernel_rfl) (by decide) (fun _ _ _ h => h) rfl ?hya3 (fun _ => S0) ?resta3
          case hya3 => (intro W; go_simp; (try with_reducible rfl))
          try simp only [List.setIfInBounds_toArray, List.set_cons_zero, List.set_cons_succ]
          refine wpAnyR_pure (i := 4) (oi := _) ?va4 rfl rfl (by kernel_rfl) (by decide) (fun _ _ _ h => h) rfl ?hya4 (fun _ => S0) ?resta4
          case hya4 => (intro W; go_simp; (try with_reducible rfl))
          try simp only [List.setIfInBounds_toArray, List.set_cons_zero, List.set_cons_succ]
          refine wpAnyR_pure (i := 5) (oi := _) ?va5 rfl rfl (by kernel_rfl) (by decide) (fun _ _ _ h => h) rfl ?hya5 (fun _ => S0) ?resta5
          case hya5 => (intro W; go_simp; (try with_reducible rfl))
          try simp only [List.setIfInBounds_toArray, List.set_cons_zero, List.set_cons_succ]
          refine wpAnyR_pure (i := 9) (oi := _) ?va9 rfl rfl (by kernel_rfl) (by decide) (fun _ _ _ h => h) rfl ?hya9 (fun _ => S0) ?resta9
          case hya9 => (intro W; go_simp; (try with_reducible rfl))
          try simp only [List.setIfInBounds_toArray, List.set_cons_zero, List.set_cons_succ]
          refine wpAnyR_take (i := 6) (oi := _) ?va6 rfl rfl (by kernel_rfl) (fun _ _ _ h => h) rfl ?hya6 S0 ?resta6
          case hya6 => (intro W hW; obtain ⟨d0, _⟩ := HB.out W hW; go_simp; (try with_reducible rfl))
          try simp only [List.setIfInBounds_toArray, List.set_cons_zero, List.set_cons_succ]
          refine wpAnyR_two (i := 2) (j := 7) (by kernel_rfl) rfl rfl (fun K hK => ?_) (fun K hK => ?_)
          · try rw [if_pos (show Region.wanted _ _ = true from rfl)]
            go_simp
            refine (l3Copy_any (.slice AX xs.length cX) xs wy ((HX5.out.below BY (Nat.le_refl _)).rdL BY.size) (by omega)).mono ?_
            rintro e w6 ⟨P, q, rfl, o6, b6⟩
            have B6 := bthen BY b6
            have S1 := HS.out _ B6
            refine hK.out _ _ (fun _ => S1) ?_
            clear hK K
            try simp only [List.setIfInBounds_toArray, List.set_cons_zero, List.set_cons_succ, Act.put]
            refine wpAnyR_one (i := 7) (by kernel_rfl) rfl (fun K hK => ?_)
            try rw [if_pos (show Region.wanted _ _ = true from rfl)]
            go_simp
            obtain ⟨wz, hwz⟩ : ∃ wz, wz = w6.alloc (Obj.cells #[Value.int IntKind.i64 vj] 3) := ⟨_, rfl⟩
            have BZ := Lib.hid (show Below wr.heap.size wr wz by rw [hwz]; exact bthen B6 (below1 _ _))
            have HNZ := Lib.hid (show ∀ i x, [Value.int IntKind.i64 vj][i]? = some x → wz.cell? ((⟨w6.heap.size, 0, none⟩ : Addr).add i) = some x by rw [hwz]; exact news1o w6 _ _)
            have HPB := Lib.hid (show ∀ k, (Value.slice P xs.length q).ownBlock = some k → wr.heap.size ≤ k from fun k hk => Nat.le_trans BY.size (o6.lt hk).1)
            have HPC := Lib.hid (show OwnInts wz lo wz.heap.size (.slice P xs.length q) xs by rw [hwz]; exact (o6.below (below1 _ _) (Nat.le_refl _)).mono (Nat.le_trans HLO.out BY.size) (below1 _ _).size)
            have S2 := HS.out _ BZ.out
            rw [← hwz]
            clear hwz o6 b6 B6 S1
            refine hK.out _ _ (fun _ => S2) ?_
            clear hK K
            try simp only [List.setIfInBounds_toArray, List.set_cons_zero, List.set_cons_succ, Act.put]
            refine wpAnyR_one (i := 8) (by kernel_rfl) rfl (fun K hK => ?_)
            refine step_append_begun rfl (.tmp 33) (.tmp 38) 23 rfl lo 3 i0 Tryd.underlying23 hi0 hz0 hz1 hz2 (.slice P xs.length q) xs.length (xs.map (Value.int .i64)) rfl HPC.out.1 (by omega) ⟨w6.heap.size, 0, none⟩ 1 (.int .i64 vj) rfl HNZ.out rfl (Nat.le_trans HLO.out BZ.out.size) ?d4
            case d4 =>
            intro g2 cap w5 hown hg _
            have hb5 : Below wr.heap.size wr w5 := BZ.out.grown hg BZ.out.size fun k hk => HPB.out k hk
            have S3 := HS.out _ hb5
            have HC6 := Lib.hid (HC5.out.on hb5)
            have HX6 := Lib.hid (show OwnInts w5 lo w5.heap.size (.slice (some ⟨g2, 0, none⟩) (xs.length + 1) cap) (xs ++ [vj]) from by
              refine ⟨?_, fun q hq => (hown.lt q hq).2⟩
              rw [HLX.out, List.map_append]
              exact hown)
            have HB5 := Lib.hid hb5
            clear hown hg hb5
            refine hK.out _ _ (fun _ => S3) ?_
            clear hK K
            try simp only [List.setIfInBounds_toArray, Act.put]
            refine wpAnyR_one (i := 10) (by kernel_rfl) rfl (fun K hK => ?_)
            try rw [if_pos (show Region.wanted _ _ = true from rfl)]
            go_simp
            have IHc := HIH.out (xs ++ [vj]) O A' c' av' (some ⟨g2, 0, none⟩) cap w5 (by rw [HLX.out]; have := HLEN.out; omega) HOL.out HC6.out (by rw [HLX.out]; exact HX6.out)
            rw [HLX.out] at IHc
            refine IHc.mono ?_
            rintro e w7 ⟨A7, c7, av7, rfl, hc7, hk7⟩
            have HK7 := Lib.hid ((HK5.out.on HB5.out).trans hk7 (.inl rfl))
            have HC7 := Lib.hid hc7
            clear hc7 hk7 IHc
            refine hK.out _ _ (fun hf => absurd hf (by decide)) ?_
            clear hK K
            refine wpAnyR_one (i := 11) (by kernel_rfl) rfl (fun K hK => ?_)
            go_simp
            refine hK.out _ _ (fun hf => absurd hf (by decide)) ?_
            clear hK K
            refine wpAnyR_done (by kernel_rfl) ?_
            go_wp2_with fail
            go_roundw
            case rel => exact ⟨j + 1, A7, c7, av7, by omega, by go_num, by rw [← HST.out, List.length_append], by rw [← HST.out]; exact HC7.out, by rw [← HST.out]; exact HK7.out⟩
            case measure => simp [intOf]; omega
          · try rw [if_pos (show Region.wanted _ _ = true from rfl)]
            go_simp
            obtain ⟨w6, hw6⟩ : ∃ w6, w6 = wy.alloc (Obj.cells #[Value.int IntKind.i64 vj] 3) := ⟨_, rfl⟩
            have b6 : Below wy.heap.size wy w6 := by rw [hw6]; exact below1 _ _
            have B6 := bthen BY b6
            have hn6 : w6.cell? ⟨wy.heap.size, 0, none⟩ = some (.int .i64 vj) := by rw [hw6]; exact news1o wy _ _ 0 _ rfl
            have s6 : wy.heap.size < w6.heap.size := by rw [hw6]; simp
            have S1 := HS.out _ B6
            rw [← hw6]
            clear hw6
            refine hK.out _ _ (fun _ => S1) ?_
            clear hK K
            try simp only [List.setIfInBounds_toArray, List.set_cons_zero, List.set_cons_succ, Act.put]
            refine wpAnyR_one (i := 2) (by kernel_rfl) rfl (fun K hK => ?_)
            try rw [if_pos (show Region.wanted _ _ = true from rfl)]
            go_simp
            refine (l3Copy_any (.slice AX xs.length cX) xs w6 (((HX5.out.below BY (Nat.le_refl _)).rdL BY.size).on b6) (by omega)).mono ?_
            rintro e wz ⟨P, q, rfl, o6, b7⟩
            have BZ := Lib.hid (bthen B6 b7)
            have HNZ := Lib.hid (show ∀ i x, [Value.int IntKind.i64 vj][i]? = some x → wz.cell? ((⟨wy.heap.size, 0, none⟩ : Addr).add i) = some x from fun i x h => by
              cases i with
              | zero =>
                obtain rfl : Value.int .i64 vj = x := by simpa using h
                exact (b7.cell (p := ⟨wy.heap.size, 0, none⟩) s6).trans hn6
              | succ i => simp at h)
            have HPB := Lib.hid (show ∀ k, (Value.slice P xs.length q).ownBlock = some k → wr.heap.size ≤ k from fun k hk => Nat.le_trans B6.size (o6.lt hk).1)
            have HPC := Lib.hid (show OwnInts wz lo wz.heap.size (.slice P xs.length q) xs from o6.mono (Nat.le_trans HLO.out B6.size) (Nat.le_refl _))
            have S2 := HS.out _ BZ.out
            clear o6 b6 b7 B6 S1 s6 hn6
            refine hK.out _ _ (fun _ => S2) ?_
            clear hK K
            try simp only [List.setIfInBounds_toArray, List.set_cons_zero, List.set_cons_succ, Act.put]
            refine wpAnyR_one (i := 8) (by kernel_rfl) rfl (fun K hK => ?_)
            refine step_append_begun rfl (.tmp 33) (.tmp 38) 23 rfl lo 3 i0 Tryd.underlying23 hi0 hz0 hz1 hz2 (.slice P xs.length q) xs.length (xs.map (Value.int .i64)) rfl HPC.out.1 (by omega) ⟨wy.heap.size, 0, none⟩ 1 (.int .i64 vj) rfl HNZ.out rfl (Nat.le_trans HLO.out BZ.out.size) ?d4
            case d4 =>
            intro g2 cap w5 hown hg _
            have hb5 : Below wr.heap.size wr w5 := BZ.out.grown hg BZ.out.size fun k hk => HPB.out k hk
            have S3 := HS.out _ hb5
            have HC6 := Lib.hid (HC5.out.on hb5)
            have HX6 := Lib.hid (show OwnInts w5 lo w5.heap.size (.slice (some ⟨g2, 0, none⟩) (xs.length + 1) cap) (xs ++ [vj]) from by
              refine ⟨?_, fun q hq => (hown.lt q hq).2⟩
              rw [HLX.out, List.map_append]
              exact hown)
            have HB5 := Lib.hid hb5
            clear hown hg hb5
            refine hK.out _ _ (fun _ => S3) ?_
            clear hK K
            try simp only [List.setIfInBounds_toArray, Act.put]
            refine wpAnyR_one (i := 10) (by kernel_rfl) rfl (fun K hK => ?_)
            try rw [if_pos (show Region.wanted _ _ = true from rfl)]
            go_simp
            have IHc := HIH.out (xs ++ [vj]) O A' c' av' (some ⟨g2, 0, none⟩) cap w5 (by rw [HLX.out]; have := HLEN.out; omega) HOL.out HC6.out (by rw [HLX.out]; exact HX6.out)
            rw [HLX.out] at IHc
            refine IHc.mono ?_
            rintro e w7 ⟨A7, c7, av7, rfl, hc7, hk7⟩
            have HK7 := Lib.hid ((HK5.out.on HB5.out).trans hk7 (.inl rfl))
            have HC7 := Lib.hid hc7
            clear hc7 hk7 IHc
            refine hK.out _ _ (fun hf => absurd hf (by decide)) ?_
            clear hK K
            refine wpAnyR_one (i := 11) (by kernel_rfl) rfl (fun K hK => ?_)
            go_simp
            refine hK.out _ _ (fun hf => absurd hf (by decide)) ?_
            clear hK K
            refine wpAnyR_done (by kernel_rfl) ?_
            go_wp2_with fail
            go_roundw
            case rel => exact ⟨j + 1, A7, c7, av7, by omega, by go_num, by rw [← HST.out, List.length_append], by rw [← HST.out]; exact HC7.out, by rw [← HST.out]; exact HK7.out⟩
            case measure => simp [intOf]; omega
        · have HN := Lib.hid (lordSTo_no (d := d) hlt HCC.out)
          go_wp2_with (go_at_call 84; refine CH.out.mono ?_; rintro e w5 ⟨rfl, rfl⟩)
          go_roundw
          case rel => exact ⟨j + 1, A', c', av', by omega, by go_num, by rw [HN.out, ← HO.out], by rw [HN.out, ← HO.out]; exact HC5.out, by rw [HN.out, ← HO.out]; exact HK5.out⟩
          case measure => simp [intOf]; omega
      · obtain rfl : j = V.length := by omega
        have HE := Lib.hid (show out ++ lordS V (d + 1) xs = O from by rw [HO.out, lordSTo_all])
        go_wp2_with fail
        go_ret
        rw [HE.out]
        exact ⟨A', c', av', rfl, HC5.out, HK5.out⟩

set_option maxHeartbeats 4000000 in
set_option maxRecDepth 100000 in
theorem specLeapOrders_any (v : Value) (ls : List LLit) (w : World) (h : RdLits w w.heap.size v ls) (hs : ls.length + totL ls ≤ 1048576) :
    Calls Tryd.prog 30 #[v] w fun e w' => ∃ A' c', e = .returned (.slice A' (leapOrdL ls).length c') ∧ OwnRows w' w.heap.size w'.heap.size (.slice A' (leapOrdL ls).length c') (leapOrdL ls) ∧ Below w.heap.size w w' := by
  have H := Lib.hid h
  obtain ⟨A, c, rfl, hc, _⟩ := h
  have CB := Lib.hid (specBodySafe_any (.slice A ls.length c) ls w H.out hs)
  obtain ⟨bo, hbo⟩ : ∃ bo, bo = bodySafe ls := ⟨_, rfl⟩
  rw [← hbo] at CB
  have HBO := Lib.hid hbo
  clear hbo
  cases bo
  · have HL := Lib.hid (show leapOrdL ls = [] by unfold leapOrdL; rw [← HBO.out]; rfl)
    go_enter Tryd.func30, Tryd.ntmps30
    go_wp2_with (go_at_call 60; refine CB.out.mono ?_; rintro e w2 ⟨rfl, b2⟩)
    go_ret
    refine ⟨none, 0, by rw [HL.out]; rfl, ?_, b2⟩
    rw [HL.out]
    exact (ColO.nil b2 (Nat.le_refl _) b2.size).rows
  · obtain ⟨V, hV⟩ : ∃ V, V = varsOf ((0, []), ls) := ⟨_, rfl⟩
    have hV4 : V.length ≤ 4 := by
      rw [hV]
      unfold varsOf
      exact (bitsOf_few (ruleMask_lt _)).1
    have HL := Lib.hid (show leapOrdL ls = [] ++ lordS V V.length [] by rw [leapOrd_spec HBO.out.symm, hV]; rfl)
    have CV := Lib.hid (fun (W : World) (hW : Below w.heap.size w W) => specVarsOf_any (.agg #[.int .i64 0, .slice none 0 0, .slice A ls.length c]) ((0, []), ls) W ⟨_, _, rfl, RdInts.noneL, H.out.on hW⟩ (by unfold szR; simp; omega))
    rw [← hV] at CV
    clear hV
    go_enter Tryd.func30, Tryd.ntmps30
    go_upto_region 3 with (go_at_call 60; refine CB.out.mono ?_; rintro e w2 ⟨rfl, b2⟩; have B2 := Lib.hid b2; clear b2)
    go_wp2_with (go_at_call 62; refine (CV.out _ B2.out).mono ?_; rintro e w3 ⟨A3, c3, rfl, o3, b3⟩
                 have B3 := Lib.hid (bthen B2.out b3)
                 have HV3 := Lib.hid o3.rd
                 clear b3 o3)
    obtain ⟨wa, hwa⟩ : ∃ wa, wa = w3.alloc (.cells #[] 3) := ⟨_, rfl⟩
    obtain ⟨wb, hwb⟩ : ∃ wb, wb = wa.alloc (.cells #[] 23) := ⟨_, rfl⟩
    have sa : wa.heap.size = w3.heap.size + 1 := by rw [hwa]; simp
    have sb : wb.heap.size = w3.heap.size + 1 + 1 := by rw [hwb]; simp [sa]
    have ba : Below w3.heap.size w3 wa := by rw [hwa]; exact below1 _ _
    have hcol : ColO w3.heap.size w3 wb [] (some ⟨wa.heap.size, 0, none⟩) 0 [] := by rw [hwb]; exact ColO.empty ba (Nat.le_refl _) ba.size
    have hbeg : OwnInts wb w3.heap.size wb.heap.size (.slice (some ⟨w3.heap.size, 0, none⟩) 0 0) [] := by
      refine ⟨?_, fun g hg => (by simp [Value.ownBlock] at hg; omega)⟩
      rw [hwb, hwa]
      exact (World.ownsRow_made w3 #[] 0 (Nat.le_refl _) (by decide) rfl).alloc _
    have CO := Lib.hid (l11Orders_any (.slice A3 V.length c3) V w3 w3.heap.size HV3.out hV4 V.length [] [] (some ⟨wa.heap.size, 0, none⟩) 0 [] (some ⟨w3.heap.size, 0, none⟩) 0 wb (by simp) (by have h9 : 4 ^ V.length ≤ 4 ^ 4 := Nat.pow_le_pow_right (by decide) hV4; simp; omega) hcol hbeg)
    rw [sa] at CO
    clear ba hcol hbeg sa sb
    rw [← hwa, ← hwb]
    refine CO.out.mono ?_
    rintro e w5 ⟨A5, c5, av5, rfl, o5, _⟩
    have hb := bthen B3.out o5.below
    have HO5 := Lib.hid o5
    clear o5
    go_wp2_with fail
    go_ret
    refine ⟨A5, c5, by rw [HL.out]; rfl, ?_, hb⟩
    rw [HL.out]
    obtain ⟨av, r1, r2, r3⟩ := HO5.out.rows
    exact ⟨av, r1.mono B3.out.size (Nat.le_refl _), ownsRow_mono r2 B3.out.size, r3⟩

end Go.Proofs.YtokmmloakahkhaaDoor
/-
  The walks of variableOrders and LeapOrders of the program.
-/
namespace Go.Proofs.YtokmmloakahkhaaDoor
open Go.RowKit

theorem lessV_word {m : Nat} (h : m < 16) {v : Nat} (hv : v < 4) {mm : Nat} (hm : mm = 2 ^ v) : bits .andNot .u64 ((m : Nat) : Int) ((mm : Nat) : Int) = ((lessV m (v : Int) : Nat) : Int) := by
  subst hm
  exact lessV_op ⟨m, h⟩ ⟨v, hv⟩

set_option maxHeartbeats 8000000 in
set_option maxRecDepth 100000 in
theorem variableOrders_any (lo : Nat) (w0 : World) (hT0 : Tab w0) :
    ∀ (d m : Nat) (xs : List Int) (out : List (List Int)) (A : Option Addr) (c : Nat) (av : List Value) (AX : Option Addr) (cX : Nat) (w : World),
      m < 16 → (bitsOf m).length = d → xs.length + d ≤ 4 → out.length + 4 ^ d ≤ 4096 → ColO lo w0 w out A c av → OwnInts w lo w.heap.size (.slice AX xs.length cX) xs → (∀ a ∈ av, ∀ g, a.ownBlock = some g → (Value.slice AX xs.length cX).ownBlock ≠ some g) →
      Calls Tryd.prog 65 #[.slice A out.length c, .slice AX xs.length cX, .int .u64 ((m : Nat) : Int)] w fun e w' =>
        ∃ A' c' avn, e = .returned (.slice A' (out ++ lordM d m xs).length c') ∧ ColO lo w0 w' (out ++ lordM d m xs) A' c' (av ++ avn) ∧ (∀ a ∈ avn, ∀ g, a.ownBlock = some g → w.heap.size ≤ g) ∧
          OwnInts w' lo w'.heap.size (.slice AX xs.length cX) xs ∧ OrdKept w w' (.slice A out.length c) (.slice AX xs.length cX) (.slice A' (out ++ lordM d m xs).length c') := by
  obtain ⟨i0, hi0, hz0, hz1, hz2⟩ := info_parts Tryd.infoInt
  obtain ⟨i1, hi1, hy0, hy1, hy2⟩ := info_parts Tryd.infoIntSO
  have HT0 := Lib.hid hT0
  clear hT0
  intro d
  induction d with
  | zero =>
    intro m xs out A c av AX cX w hm hd hlen hout hcol hbeg hap
    have hm0 : m = 0 := (bitsOf_none hm).1 hd
    subst hm0
    have HCOL := Lib.hid hcol
    have HBEG := Lib.hid hbeg
    have CC := Lib.hid (cloneI_any (.slice AX xs.length cX) xs w hbeg.rd (by omega))
    have hol : out.length ≤ 4096 := by omega
    clear hcol hbeg hap hlen hd
    go_enter Tryd.func65, Tryd.ntmps65
    go_wp2_with (first | (go_at_call 89; refine CC.out.mono ?_; rintro e w1 ⟨P, q, rfl, o1, g1⟩) | (at_builtin; refine wpList_append_lies _ rfl (.tmp 11) (.tmp 14) 43 rfl lo 23 i1 (.slice none 0 0) 1 24 Tryd.underlying43 hi1 hy0 hy1 hy2 rfl (by decide) (.slice A out.length c) out.length av rfl ?c1 ⟨w1.heap.size, 0, none⟩ 1 1 [.slice P xs.length q] rfl rfl (news1o w1 _ _) ?c2 (by omega) (by unfold maxLen; omega) (by omega) ?c3 _ rfl ?_))
    case c1 => exact ((HCOL.out.on g1).row).alloc _
    case c2 => first | (intro u hu; simp at hu; subst hu; rfl) | rfl
    case c3 => have := HCOL.out.lo2; have := g1.size; simp; omega
    intro g2 cap w4 hown hg hat _
    have hpush := HCOL.out.push (xs := xs) (xss' := out ++ lordM 0 0 xs) rfl g1 o1 hg hown
    have HPU := Lib.hid hpush
    have hgf := grown_from_alloc hg
    have s1 := g1.size
    have HK := Lib.hid (show OrdKept w w4 (.slice A out.length c) (.slice AX xs.length cX) (.slice (some ⟨g2, 0, none⟩) (out.length + 1) cap) from
      ⟨Nat.le_trans s1 hgf.size, fun q h1 h2 _ => (hgf.block q (by omega) h2).trans (g1.block q h1), by
        rcases hat with h | h
        · exact .inl h.symm
        · refine .inr fun g hg => ?_
          have : g2 = g := by simpa [Value.ownBlock] using hg
          omega⟩)
    have HX := Lib.hid (show OwnInts w4 lo w4.heap.size (.slice AX xs.length cX) xs from by
      refine ((HBEG.out.below g1 (Nat.le_refl _)).kept fun q hq => hgf.block q ?_ fun e => ?_).mono (Nat.le_refl _) (by have := hgf.size; omega)
      · have := HBEG.out.lt hq; omega
      · exact rowsI_ne HCOL.out.row e.symm HBEG.out hq)
    have HN := Lib.hid (show ∀ a ∈ [Value.slice P xs.length q], ∀ g, a.ownBlock = some g → w.heap.size ≤ g from fun a ha g hg => by
      obtain rfl := List.mem_singleton.1 ha
      exact (o1.lt hg).1)
    clear hpush hown hg hat hgf
    go_wp2_with fail
    go_ret
    refine ⟨some ⟨g2, 0, none⟩, cap, [.slice P xs.length q], by rw [← HPU.out.2]; rfl, HPU.out.1, HN.out, HX.out, ?_⟩
    rw [← HPU.out.2]
    exact HK.out
  | succ d ih =>
    intro m xs out A c av AX cX w hm hd hlen hout hcol hbeg hap
    have HIH := Lib.hid ih
    clear ih
    have HCOL0 := Lib.hid hcol
    have HBEG0 := Lib.hid hbeg
    have HAP0 := Lib.hid hap
    have HLEN := Lib.hid hlen
    have HMM := Lib.hid hm
    have HBD := Lib.hid hd
    have hxl : xs.length < 4 := by omega
    have hd3 : d ≤ 3 := by omega
    have HP := Lib.hid (show out.length + 4 * 4 ^ d ≤ 4096 by rw [Nat.pow_succ] at hout; omega)
    have hm0 : m ≠ 0 := fun e => by rw [(bitsOf_none hm).2 e] at hd; omega
    have l0 : (((m : Nat) : Int) == 0) = false := by rw [beq_eq_false_iff_ne]; omega
    have CB := Lib.hid (bitNumbers_any m (by omega) w (HT0.out.below hcol.below))
    obtain ⟨V, hV⟩ : ∃ V, V = bitsOf m := ⟨_, rfl⟩
    have HVV := Lib.hid hV
    rw [← hV] at CB
    have HVR := Lib.hid (show V.length ≤ 4 ∧ ∀ v ∈ V, 0 ≤ v ∧ v < 4 by rw [hV]; exact bitsOf_few hm)
    have hvl := HVR.out.1
    clear hcol hbeg hap hlen hout hm hd hm0 hV
    go_enter Tryd.func65, Tryd.ntmps65
    go_wp2_with (go_at_call 39; refine CB.out.mono ?_; rintro e w1 ⟨AV, cV, rfl, oV, g1⟩
                 have HOV := Lib.hid oV
                 have HG1 := Lib.hid g1
                 clear oV g1)
    go_loopw [0, 8, 19] (fun p _ i wr => ∃ (j : Nat) (A' : Option Addr) (c' : Nat) (avn : List Value), j ≤ V.length ∧ i = .int .i64 j ∧ p = .slice A' (out ++ lordMTo d m xs j).length c' ∧ ColO lo w0 wr (out ++ lordMTo d m xs j) A' c' (av ++ avn) ∧ (∀ a ∈ avn, ∀ g, a.ownBlock = some g → w.heap.size ≤ g) ∧ OwnInts wr lo wr.heap.size (.slice AX xs.length cX) xs ∧ OwnInts wr w.heap.size w1.heap.size (.slice AV V.length cV) V ∧ OrdKept w wr (.slice A out.length c) (.slice AX xs.length cX) (.slice A' (out ++ lordMTo d m xs j).length c')) (fun _ _ i _ => V.length - (intOf i).toNat)
    case atStart => exact ⟨0, A, c, [], Nat.zero_le _, rfl, by rw [lordMTo_zero, List.append_nil], by rw [lordMTo_zero, List.append_nil, List.append_nil]; exact HCOL0.out.on HG1.out, (fun a ha => by cases ha), (HBEG0.out.below HG1.out (Nat.le_refl _)).mono (Nat.le_refl _) HG1.out.size, HOV.out, by rw [lordMTo_zero, List.append_nil]; exact (OrdKept.refl _ _ _).on HG1.out⟩
    case round =>
      obtain ⟨j, A', c', avn, hj, rfl, rfl, hcol, havn, hbeg, hov, hkp⟩ := hrel
      obtain ⟨O, hO⟩ : ∃ O, O = out ++ lordMTo d m xs j := ⟨_, rfl⟩
      rw [← hO] at hcol hkp ⊢
      have HO := Lib.hid hO
      clear hO
      have HC5 := Lib.hid hcol
      have HAVN := Lib.hid havn
      have HB5 := Lib.hid hbeg
      have HOV5 := Lib.hid hov
      have HK5 := Lib.hid hkp
      have HRN := Lib.hid (lordMTo_few (d := d) xs HMM.out j)
      clear hcol havn hbeg hov hkp
      by_cases hlt : j < V.length
      · obtain ⟨gv, rfl, gv1, gv2, gv3, hvc, _⟩ := HOV5.out.at_ (show 0 < V.length by omega)
        have k0 := hvc j hlt
        obtain ⟨vn, hvn⟩ : ∃ vn : Nat, V[j] = (vn : Int) := ⟨V[j].toNat, by have := HVR.out.2 _ (List.getElem_mem hlt); omega⟩
        have hvn4 : vn < 4 := by have := HVR.out.2 _ (List.getElem_mem hlt); omega
        rw [hvn] at k0
        have hjb : j < (bitsOf m).length := by rw [← HVV.out]; exact hlt
        have hbj : (bitsOf m)[j] = (vn : Int) := by
          rw [← hvn]
          congr 1
          exact HVV.out.symm
        have HN := Lib.hid (lordMTo_step (d := d) (xs := xs) hjb)
        rw [hbj] at HN
        have HLB := Lib.hid (show lessV m (vn : Int) < 16 ∧ (bitsOf (lessV m (vn : Int))).length = d from ⟨lessV_lt HMM.out _, by
          have := bitsOf_less_len (m := m) (v := (vn : Int)) (by rw [← hbj]; exact List.getElem_mem hjb)
          rw [HBD.out] at this
          omega⟩)
        have HOL := Lib.hid (show O.length + 4 ^ d ≤ 4096 by
          rw [HO.out, List.length_append]
          have h1 := HRN.out
          have h2 := HP.out
          have h3 : j * 4 ^ d ≤ 3 * 4 ^ d := Nat.mul_le_mul_right _ (by omega)
          omega)
        have HST := Lib.hid (show O ++ lordM d (lessV m (vn : Int)) (xs ++ [(vn : Int)]) = out ++ lordMTo d m xs (j + 1) by rw [HN.out, HO.out, List.append_assoc])
        have HLX := Lib.hid (show (xs ++ [(vn : Int)]).length = xs.length + 1 by simp)
        have HAP5 := Lib.hid (show ∀ a ∈ av ++ avn, ∀ g, a.ownBlock = some g → (Value.slice AX xs.length cX).ownBlock ≠ some g from fun a ha g hg e => by
          rcases List.mem_append.1 ha with h | h
          · exact HAP0.out a h g hg e
          · have := HAVN.out a h g hg
            have := HBEG0.out.lt e
            omega)
        obtain ⟨mm, hmm⟩ : ∃ mm, mm = 2 ^ vn := ⟨_, rfl⟩
        have hml : mm < 18446744073709551616 := by rw [hmm]; exact Nat.lt_of_lt_of_le (Nat.pow_lt_pow_right (by decide) hvn4) (by decide)
        have hwr2 : IntKind.u64.wrap (2 ^ vn) = (mm : Int) := by
          have e : ((2 : Int) ^ vn) = ((mm : Nat) : Int) := by rw [hmm]; simp
          rw [e]
          unfold IntKind.wrap
          simp [IntKind.bits, IntKind.signed] <;> omega
        have hor : bits .andNot .u64 ((m : Nat) : Int) ((mm : Nat) : Int) = ((lessV m (vn : Int) : Nat) : Int) := lessV_word HMM.out hvn4 hmm
        have HMW := Lib.hid (And.intro hmm (And.intro hml (And.intro hwr2 hor)))
        clear hvc hvn hjb hbj hmm hml hwr2 hor
        obtain ⟨SS, hSS⟩ : ∃ SS : World → Prop, SS = (fun _ => True) := ⟨_, rfl⟩
        have HS := Lib.hid (show ∀ W, SS W from by rw [hSS]; exact fun _ => trivial)
        clear hSS
        go_upto_region 6 with fail
        refine wp_region_rel SS 9 11 (by kernel_rfl) rfl ?_
        obtain ⟨wy, hwy⟩ : ∃ wy, wy = wr.drew := ⟨_, rfl⟩
        have BY : Below wr.heap.size wr wy := by rw [hwy]; exact (Below.refl _ _).drew
        have HSY := Lib.hid (show wy.heap.size = wr.heap.size by rw [hwy]; rfl)
        rw [← hwy]
        clear hwy k0
        have S0 := HS.out wy
        refine wpAnyR_pure (i := 0) (oi := _) ?va0 rfl rfl (by kernel_rfl) (by decide) (fun _ _ _ h => h) rfl ?hya0 (fun _ => S0) ?resta0
        case hya0 => (intro W; go_simp; (try with_reducible rfl))
        try simp only [List.setIfInBounds_toArray, List.set_cons_zero, List.set_cons_succ]
        refine wpAnyR_pure (i := 1) (oi := _) ?va1 rfl rfl (by kernel_rfl) (by decide) (fun _ _ _ h => h) rfl ?hya1 (fun _ => S0) ?resta1
        case hya1 => (intro W; go_simp; (try with_reducible rfl))
        try simp only [List.setIfInBounds_toArray, List.set_cons_zero, List.set_cons_succ]
        refine wpAnyR_pure (i := 2) (oi := _) ?va2 rfl rfl (by kernel_rfl) (by decide) (fun _ _ _ h => h) rfl ?hya2 (fun _ => S0) ?resta2
        case hya2 => (intro W; go_simp; (try with_reducible rfl))
        try simp only [List.setIfInBounds_toArray, List.set_cons_zero, List.set_cons_succ]
        refine wpAnyR_pure (i := 5) (oi := _) ?va5 rfl rfl (by kernel_rfl) (by decide) (fun _ _ _ h => h) rfl ?hya5 (fun _ => S0) ?resta5
        case hya5 => (intro W; go_simp; (try with_reducible rfl))
        try simp only [List.setIfInBounds_toArray, List.set_cons_zero, List.set_cons_succ]
        refine wpAnyR_pure (i := 6) (oi := _) ?va6 rfl rfl (by kernel_rfl) (by decide) (fun _ _ _ h => h) rfl ?hya6 (fun _ => S0) ?resta6
        case hya6 => (intro W; go_simp; (try with_reducible rfl))
        try simp only [List.setIfInBounds_toArray, List.set_cons_zero, List.set_cons_succ]
        refine wpAnyR_pure (i := 7) (oi := _) (.int .u64 (mm : Int)) rfl rfl (by kernel_rfl) (by decide) (fun _ _ _ h => h) rfl ?hya7 (fun _ => (HS.out _)) ?resta7
        case hya7 => (intro W; have hwr2 := HMW.out.2.2.1; go_simp; (try simp))
        try simp only [List.setIfInBounds_toArray, List.set_cons_zero, List.set_cons_succ]
        refine wpAnyR_pure (i := 8) (oi := _) (.int .u64 ((lessV m (vn : Int) : Nat) : Int)) rfl rfl (by kernel_rfl) (by decide) (fun _ _ _ h => h) rfl ?hya8 (fun _ => (HS.out _)) ?resta8
        case hya8 => (intro W; have hor := HMW.out.2.2.2; go_simp; (try simp))
        try simp only [List.setIfInBounds_toArray, List.set_cons_zero, List.set_cons_succ]
        refine wpAnyR_one (i := 3) (by kernel_rfl) rfl (fun K hK => ?_)
        try rw [if_pos (show Region.wanted _ _ = true from rfl)]
        go_simp
        obtain ⟨wz, hwz⟩ : ∃ wz, wz = wy.alloc (Obj.cells #[Value.int IntKind.i64 (vn : Int)] 3) := ⟨_, rfl⟩
        have BZ : Below wr.heap.size wr wz := by rw [hwz]; exact bthen BY (below1 _ _)
        have hnz : ∀ i x, [Value.int IntKind.i64 (vn : Int)][i]? = some x → wz.cell? ((⟨wy.heap.size, 0, none⟩ : Addr).add i) = some x := by rw [hwz]; exact news1o wy _ _
        rw [← hwz]
        clear hwz
        have HCZ := Lib.hid (HC5.out.on BZ)
        have HBZ := Lib.hid ((HB5.out.below BZ (Nat.le_refl _)).mono (Nat.le_refl _) BZ.size)
        have HKZ := Lib.hid (HK5.out.on BZ)
        have HOVZ := Lib.hid (HOV5.out.kept fun q hq => BZ.block q (HOV5.out.lt hq).2.2)
        have HZS := Lib.hid BZ.size
        refine hK.out _ _ (fun _ => (HS.out _)) ?_
        clear hK K
        try simp only [List.setIfInBounds_toArray, List.set_cons_zero, List.set_cons_succ, Act.put]
        refine wpAnyR_one (i := 4) (by kernel_rfl) rfl (fun K hK => ?_)
        refine step_append_begun rfl (.tmp 24) (.tmp 26) 23 rfl lo 3 i0 Tryd.underlying23 hi0 hz0 hz1 hz2 (.slice AX xs.length cX) xs.length (xs.map (Value.int .i64)) rfl HBZ.out.1 (by omega) ⟨wy.heap.size, 0, none⟩ 1 (.int .i64 (vn : Int)) rfl hnz rfl HCZ.out.lo2 ?d4
        case d4 =>
        intro g2 cap w5 hown hg hcase
        have HC6 := Lib.hid (HCZ.out.begun HBZ.out HAP5.out hg)
        have HX6 := Lib.hid (show OwnInts w5 lo w5.heap.size (.slice (some ⟨g2, 0, none⟩) (xs.length + 1) cap) (xs ++ [(vn : Int)]) from by
          refine ⟨?_, fun q hq => (hown.lt q hq).2⟩
          rw [HLX.out, List.map_append]
          exact hown)
        have HAP6 := Lib.hid (show ∀ a ∈ av ++ avn, ∀ g, a.ownBlock = some g → (Value.slice (some ⟨g2, 0, none⟩) (xs.length + 1) cap).ownBlock ≠ some g from fun a ha g hga e => by
          have e2 : g2 = g := by simpa [Value.ownBlock] using e
          rcases hcase with ⟨h1, _⟩ | h1
          · obtain ⟨i, hi, rfl⟩ := List.getElem_of_mem ha
            have := (HCZ.out.args.own i (by rw [← HCZ.out.args.len]; exact hi) hi).lt hga
            omega
          · refine HAP5.out a ha g hga ?_
            rw [h1]
            exact e)
        have HK6 := Lib.hid (HKZ.out.begun hg)
        have HCS := Lib.hid (And.intro hcase hg)
        clear hown hg hcase
        refine hK.out _ _ (fun _ => (HS.out _)) ?_
        clear hK K
        try simp only [List.setIfInBounds_toArray, Act.put]
        refine wpAnyR_one (i := 9) (by kernel_rfl) rfl (fun K hK => ?_)
        try rw [if_pos (show Region.wanted _ _ = true from rfl)]
        go_simp
        have IHc := HIH.out (lessV m (vn : Int)) (xs ++ [(vn : Int)]) O A' c' (av ++ avn) (some ⟨g2, 0, none⟩) cap w5 HLB.out.1 HLB.out.2 (by rw [HLX.out]; have := HLEN.out; omega) HOL.out HC6.out (by rw [HLX.out]; exact HX6.out) (by rw [HLX.out]; exact HAP6.out)
        rw [HLX.out] at IHc
        refine IHc.mono ?_
        rintro e w7 ⟨A7, c7, av7, rfl, hc7, ha7, hx7, hk7⟩
        have HX7 := Lib.hid (show OwnInts w7 lo w7.heap.size (.slice AX xs.length cX) xs from by
          rcases HCS.out.1 with ⟨hg2, hgn⟩ | hv
          · refine (HBZ.out.kept fun q hq => ?_).mono (Nat.le_refl _) (Nat.le_trans HCS.out.2.size hk7.size)
            have hql := (HBZ.out.lt hq).2.2
            refine (hk7.block q (Nat.lt_of_lt_of_le hql hgn.size) (fun e => ?_) (fun e => ?_)).trans (hgn.block q hql (by simp))
            · exact rowsI_ne HCZ.out.row e.symm HBZ.out hq
            · have : q = g2 := by simpa [Value.ownBlock] using e
              omega
          · injection hv with e1 _ e3
            subst e1
            subst e3
            exact hx7.less rfl)
        have HOV7 := Lib.hid (show OwnInts w7 w.heap.size w1.heap.size (.slice (some ⟨gv, 0, none⟩) V.length cV) V from by
          have hnx : ∀ q, (Value.slice (some ⟨gv, 0, none⟩) V.length cV).ownBlock = some q → (Value.slice AX xs.length cX).ownBlock ≠ some q := fun q hq e => by
            have := HBEG0.out.lt e
            have := (HOVZ.out.lt hq).1
            omega
          have h6 : OwnInts w5 w.heap.size w1.heap.size (.slice (some ⟨gv, 0, none⟩) V.length cV) V := HOVZ.out.kept fun q hq => HCS.out.2.block q (HOVZ.out.lt hq).2.2 fun e => hnx q hq e.symm
          refine h6.kept fun q hq => hk7.block q (h6.lt hq).2.2 (fun e => ?_) (fun e => ?_)
          · exact rowsI_ne HC6.out.row e.symm h6 hq
          · rcases HCS.out.1 with ⟨hg2, _⟩ | hv
            · have h7 : q = g2 := by simpa [Value.ownBlock] using e
              have := (HOVZ.out.lt hq).2.2
              omega
            · have h7 := hnx q hq
              rw [hv] at h7
              exact h7 e.symm)
        have HAV7 := Lib.hid (show ∀ a ∈ avn ++ av7, ∀ g, a.ownBlock = some g → w.heap.size ≤ g from fun a ha g hga => by
          rcases List.mem_append.1 ha with h | h
          · exact HAVN.out a h g hga
          · exact Nat.le_trans HK6.out.size (ha7 a h g hga))
        have HK7 := Lib.hid (HK6.out.trans hk7 (by
          rcases HCS.out.1 with ⟨hg2, _⟩ | hv
          · refine .inr fun g hg => ?_
            have : g2 = g := by simpa [Value.ownBlock] using hg
            have := HKZ.out.size
            omega
          · rw [hv]
            exact .inl rfl))
        have HC7 := Lib.hid hc7
        clear hc7 ha7 hx7 hk7 IHc
        refine hK.out _ _ (fun hf => absurd hf (by decide)) ?_
        clear hK K
        refine wpAnyR_one (i := 10) (by kernel_rfl) rfl (fun K hK => ?_)
        go_simp
        refine hK.out _ _ (fun hf => absurd hf (by decide)) ?_
        clear hK K
        refine wpAnyR_done (by kernel_rfl) ?_
        go_wp2_with fail
        go_roundw
        case rel => exact ⟨j + 1, A7, c7, avn ++ av7, by omega, by go_num, by rw [← HST.out, List.length_append], by rw [← HST.out, ← List.append_assoc]; exact HC7.out, HAV7.out, HX7.out, HOV7.out, by rw [← HST.out]; exact HK7.out⟩
        case measure => simp [intOf]; omega
      · obtain rfl : j = V.length := by omega
        have HE := Lib.hid (show out ++ lordM (d + 1) m xs = O from by rw [HO.out, HVV.out, lordMTo_all])
        go_wp2_with fail
        go_ret
        rw [HE.out]
        exact ⟨A', c', avn, rfl, HC5.out, HAVN.out, HB5.out, HK5.out⟩

set_option maxHeartbeats 4000000 in
set_option maxRecDepth 100000 in
theorem implLeapOrders_any (v : Value) (ls : List LLit) (w : World) (h : RdLits w w.heap.size v ls) (hs : ls.length + totL ls ≤ 1048576) (hT : Tab w) :
    Calls Tryd.prog 32 #[v] w fun e w' => ∃ A' c', e = .returned (.slice A' (leapOrdL ls).length c') ∧ OwnRows w' w.heap.size w'.heap.size (.slice A' (leapOrdL ls).length c') (leapOrdL ls) ∧ Below w.heap.size w w' := by
  have H := Lib.hid h
  have HT := Lib.hid hT
  obtain ⟨A, c, rfl, hc, _⟩ := h
  have CB := Lib.hid (implBodySafe_any (.slice A ls.length c) ls w H.out hs)
  obtain ⟨bo, hbo⟩ : ∃ bo, bo = bodySafe ls := ⟨_, rfl⟩
  rw [← hbo] at CB
  have HBO := Lib.hid hbo
  clear hbo hT
  cases bo
  · have HL := Lib.hid (show leapOrdL ls = [] by unfold leapOrdL; rw [← HBO.out]; rfl)
    go_enter Tryd.func32, Tryd.ntmps32
    go_wp2_with (go_at_call 64; refine CB.out.mono ?_; rintro e w2 ⟨rfl, b2⟩)
    go_ret
    refine ⟨none, 0, by rw [HL.out]; rfl, ?_, b2⟩
    rw [HL.out]
    exact (ColO.nil b2 (Nat.le_refl _) b2.size).rows
  · obtain ⟨m, hm⟩ : ∃ m, m = bodyMask ls := ⟨_, rfl⟩
    have hm16 : m < 16 := by
      have := ruleMask_lt ((0, []), ls)
      rw [ruleMask_body] at this
      rw [hm]; exact this
    have HL := Lib.hid (show leapOrdL ls = [] ++ lordM (bitsOf m).length m [] by unfold leapOrdL; rw [← HBO.out, hm]; rfl)
    have CV := Lib.hid (fun (W : World) (hW : Below w.heap.size w W) => bodyVars_any (.slice A ls.length c) ls W (H.out.on hW) (by omega) (by omega))
    rw [← hm] at CV
    have HM := Lib.hid (And.intro hm16 (bitsOf_few hm16).1)
    clear hm
    go_enter Tryd.func32, Tryd.ntmps32
    go_wp2_with (first
      | (go_at_call 64; refine CB.out.mono ?_; rintro e w2 ⟨rfl, b2⟩; have B2 := Lib.hid b2; clear b2)
      | (go_at_call 66; refine (CV.out _ B2.out).mono ?_; rintro e w3 ⟨rfl, b3⟩; have B3 := Lib.hid (bthen B2.out b3); clear b3)
      | (go_at_call 65
         refine (variableOrders_any w3.heap.size w3 (HT.out.below B3.out) (bitsOf m).length m [] [] none 0 [] none 0 w3 HM.out.1 rfl (by have := HM.out.2; simp; omega) (by have := HM.out.2; have h9 : 4 ^ (bitsOf m).length ≤ 4 ^ 4 := Nat.pow_le_pow_right (by decide) this; simp; omega) (ColO.nil (Below.refl _ _) (Nat.le_refl _) (Nat.le_refl _)) ⟨World.ownsRow_nil _ _ _ _, fun g hg => by cases hg⟩ (by simp)).mono ?_
         rintro e w4 ⟨A4, c4, avn, rfl, o4, _, _, _⟩))
    go_ret
    have hb := bthen B3.out o4.below
    refine ⟨A4, c4, by rw [HL.out]; rfl, ?_, hb⟩
    rw [HL.out]
    obtain ⟨av, r1, r2, r3⟩ := o4.rows
    exact ⟨av, r1.mono B3.out.size (Nat.le_refl _), ownsRow_mono r2 B3.out.size, r3⟩

end Go.Proofs.YtokmmloakahkhaaDoor
