/-
  Rows of steps that are filled, marked, grown: the words. No walk.
-/
import Derived.Test.YtcoelmhlkfignaaSteps
import Derived.Test.YtcoelmhlkfignaaMarkInts
namespace Go.Proofs.Ytcoelmhlkfignaa
open Go.RowKit

/-- What holds at toStepS's loop: k steps are copied. -/
structure To5 (w wr : World) (ss : List LStep) (k : Nat) (av : List Value) : Prop where
  own : OwnArgs wr (w.heap.size + 1) wr.heap.size av (leaves (ss.take k))
  row : ∃ cur : Array Value, Blk wr w.heap.size 46 cur ∧ cur.toList = flat5 (heads (ss.take k)) av ++ zero5 (ss.length - k)
  below : Below w.heap.size w wr
  size : w.heap.size + 1 ≤ wr.heap.size

theorem To5.start (w : World) (ss : List LStep) : To5 w (w.alloc (.cells (madeCells #[.int .i64 0, .slice none 0 0, .int .i64 0, .slice none 0 0, .slice none 0 0] (ss.length * 5)) 46)) ss 0 [] :=
  ⟨by simpa [leaves] using OwnArgs.nil, ⟨_, Blk.new _ _ _, by simp [madeCells_steps, flat5, heads]⟩, below1 _ _, by simp⟩

theorem To5.hl {w wr : World} {ss : List LStep} {k : Nat} {av : List Value} (hr : To5 w wr ss k av) (hlt : k ≤ ss.length) : av.length = (heads (ss.take k)).length * 3 ∧ (flat5 (heads (ss.take k)) av).length = k * 5 := by
  have h1 : av.length = (heads (ss.take k)).length * 3 := by rw [hr.own.len, leaves_length, heads_length]
  refine ⟨h1, ?_⟩
  rw [flat5_length _ _ h1, heads_length]
  simp
  omega
/-- The cells that the next step will take. -/
theorem To5.room {w wr : World} {ss : List LStep} {k : Nat} {av : List Value} (hr : To5 w wr ss k av) (hlt : k < ss.length) {w4 : World} (hb : Below wr.heap.size wr w4) :
    (w4.cell? ⟨w.heap.size, k * 5, none⟩ = some (.int .i64 0) ∧ w4.cell? ⟨w.heap.size, k * 5 + 1, none⟩ = some (.slice none 0 0) ∧ w4.cell? ⟨w.heap.size, k * 5 + 2, none⟩ = some (.int .i64 0) ∧ w4.cell? ⟨w.heap.size, k * 5 + 3, none⟩ = some (.slice none 0 0) ∧ w4.cell? ⟨w.heap.size, k * 5 + 4, none⟩ = some (.slice none 0 0)) ∧
    w4.frozen? ⟨w.heap.size, k * 5, none⟩ = false ∧ w4.frozen? ⟨w.heap.size, k * 5 + 1, none⟩ = false ∧ w4.frozen? ⟨w.heap.size, k * 5 + 2, none⟩ = false ∧ w4.frozen? ⟨w.heap.size, k * 5 + 3, none⟩ = false ∧ w4.frozen? ⟨w.heap.size, k * 5 + 4, none⟩ = false := by
  obtain ⟨_, hl⟩ := hr.hl (Nat.le_of_lt hlt)
  obtain ⟨ho, ⟨cur, hB, hcur⟩, hbe, hsz⟩ := hr
  have hB4 := hB.below hb (by omega)
  have hz : ∀ j, j < 5 → cur[k * 5 + j]? = some (if j % 5 = 0 ∨ j % 5 = 2 then .int .i64 0 else .slice none 0 0) := fun j hj => by
    rw [← Array.getElem?_toList, hcur, List.getElem?_append_right (by omega), hl, show k * 5 + j - k * 5 = j by omega]
    exact zero5_at _ _ (by omega)
  exact ⟨⟨(hB4.cell _).trans (hz 0 (by omega)), (hB4.cell _).trans (hz 1 (by omega)), (hB4.cell _).trans (hz 2 (by omega)), (hB4.cell _).trans (hz 3 (by omega)), (hB4.cell _).trans (hz 4 (by omega))⟩, hB4.frozen _, hB4.frozen _, hB4.frozen _, hB4.frozen _, hB4.frozen _⟩

/-- Five stores into the row. -/
def set5 (w : World) (g i : Nat) (p q : Int) (a b c : Value) : World :=
  ((((w.setCell ⟨g, i, none⟩ (.int .i64 p)).setCell ⟨g, i + 1, none⟩ a).setCell ⟨g, i + 2, none⟩ (.int .i64 q)).setCell ⟨g, i + 3, none⟩ b).setCell ⟨g, i + 4, none⟩ c
theorem set5_size (w : World) (g i : Nat) (p q : Int) (a b c : Value) : (set5 w g i p q a b c).heap.size = w.heap.size := by simp [set5]
theorem set5_block (w : World) (g i : Nat) (p q : Int) (a b c : Value) {b' : Nat} (h : b' ≠ g) : (set5 w g i p q a b c).heap[b']? = w.heap[b']? := by
  unfold set5
  rw [Below.heap_setCell _ _ _ _ h, Below.heap_setCell _ _ _ _ h, Below.heap_setCell _ _ _ _ h, Below.heap_setCell _ _ _ _ h, Below.heap_setCell _ _ _ _ h]

theorem To5.step {w wr : World} {ss : List LStep} {k : Nat} {av : List Value} (hr : To5 w wr ss k av) (hlt : k < ss.length) {w4 : World} (hb : Below wr.heap.size wr w4) {a b c : Value} {m n : Nat} (hm : wr.heap.size ≤ m ∧ m ≤ n ∧ n ≤ w4.heap.size)
    (ha : OwnInts w4 wr.heap.size m a ss[k].1.2) (hbb : OwnInts w4 m n b ss[k].2.2.1) (hcc : OwnInts w4 n w4.heap.size c ss[k].2.2.2) : To5 w (set5 w4 w.heap.size (k * 5) ss[k].1.1 ss[k].2.1 a b c) ss (k + 1) (av ++ [a, b, c]) := by
  obtain ⟨hav, hl⟩ := hr.hl (Nat.le_of_lt hlt)
  obtain ⟨ho, ⟨cur, hB, hcur⟩, hbe, hsz⟩ := hr
  have hB4 := hB.below hb (by omega)
  have hs4 := hb.size
  obtain ⟨m1, m2, m3⟩ := hm
  refine ⟨?_, ⟨_, by unfold set5; exact ((((hB4.set_ _ _).set_ _ _).set_ _ _).set_ _ _).set_ _ _, ?_⟩, ?_, by rw [set5_size]; omega⟩
  · have h1 := (ho.below hb (Nat.le_refl _)).snoc3 (hi' := w4.heap.size) (ha.mono (Nat.le_refl _) (by omega)) (hbb.mono (by omega) (by omega)) (hcc.mono (by omega) (Nat.le_refl _))
      (fun g hg hg' => by have := ha.block hg; have := hbb.block hg'; omega) (fun g hg hg' => by have := ha.block hg; have := hcc.block hg'; omega) (fun g hg hg' => by have := hbb.block hg; have := hcc.block hg'; omega) (by omega) (by omega)
    rw [take_snoc ss k hlt, leaves_append, set5_size]
    exact ⟨h1.len, fun i g1 g2 => (h1.own i g1 g2).kept fun q hq => set5_block _ _ _ _ _ _ _ _ (by have := (h1.own i g1 g2).block hq; omega), h1.apart⟩
  · rw [take_snoc ss k hlt, heads_append, flat5_append _ _ hav]
    obtain ⟨m, hm⟩ : ∃ m, ss.length - k = m + 1 := ⟨ss.length - k - 1, by omega⟩
    rw [show ss.length - (k + 1) = m by omega]
    clear hav
    generalize flat5 (heads (ss.take k)) av = F at *
    simp [Array.toList_setIfInBounds, hcur, hm, zero5, List.set_append_right, hl, heads, flat5]
  · unfold set5
    exact (((((hbe.trans (hb.mono hbe.size)).setCell (Nat.le_refl _) _).setCell (Nat.le_refl _) _).setCell (Nat.le_refl _) _).setCell (Nat.le_refl _) _).setCell (Nat.le_refl _) _

theorem To5.done {w wr : World} {ss : List LStep} {av : List Value} (hr : To5 w wr ss ss.length av) (hm : ss.length ≤ maxLen) : OwnSteps wr w.heap.size wr.heap.size (.slice (some ⟨w.heap.size, 0, none⟩) ss.length ss.length) ss := by
  obtain ⟨hav, hl⟩ := hr.hl (Nat.le_refl _)
  obtain ⟨ho, ⟨cur, hB, hcur⟩, hbe, hsz⟩ := hr
  simp only [List.take_length, Nat.sub_self, zero5, List.append_nil] at ho hcur hav hl
  have hcl : cur.size = ss.length * 5 := by rw [← Array.length_toList, hcur, hl]
  refine ⟨av, ho.mono (by omega) (Nat.le_refl _), ?_, fun g hg => ?_, by rw [leaves_length, heads_length]⟩
  · rw [heads_length]
    refine ⟨hl, .inr ⟨w.heap.size, ss.length, cur, rfl, Nat.le_refl _, hB, Nat.le_refl _, hm, hcl, ?_⟩⟩
    rw [hcur, ← hl, List.take_length]
  · simp [Value.ownBlock] at hg
    omega

-- marks
/-- The steps that marks from k on leave. -/
def markSt (k : Int) (s : LStep) : LStep :=
  ((k, seqI (k + 1) s.1.2.length), k + 1 + (s.1.2.length : Int), seqI (k + 2 + (s.1.2.length : Int)) s.2.2.1.length, seqI (k + 2 + (s.1.2.length : Int) + (s.2.2.1.length : Int)) s.2.2.2.length)
def markS : Int → List LStep → List LStep
  | _, [] => []
  | k, s :: ss => markSt k s :: markS (k + 2 + (szSt s : Int)) ss
/-- The mark behind the last one. -/
def endS (k : Int) (ss : List LStep) : Int := k + 2 * (ss.length : Int) + (totS ss : Int)
theorem markS_length : ∀ (k : Int) (ss : List LStep), (markS k ss).length = ss.length
  | _, [] => rfl
  | k, s :: ss => by simp [markS, markS_length _ ss]
theorem endS_cons (k : Int) (s : LStep) (ss : List LStep) : endS (k + 2 + (szSt s : Int)) ss = endS k (s :: ss) := by simp [endS, totS_cons]; omega
theorem markS_snoc : ∀ (k : Int) (ss : List LStep) (s : LStep), markS k (ss ++ [s]) = markS k ss ++ [markSt (endS k ss) s]
  | k, [], s => by simp [markS, endS, totS]
  | k, t :: ss, s => by
    have h := markS_snoc (k + 2 + (szSt t : Int)) ss s
    rw [endS_cons] at h
    simp [markS, h]
def markedS (ss : List LStep) (k : Int) (j : Nat) : List LStep := markS k (ss.take j) ++ ss.drop j
theorem markedS_length {ss : List LStep} {k : Int} {j : Nat} (h : j ≤ ss.length) : (markedS ss k j).length = ss.length := by simp [markedS, markS_length]; omega
theorem markedS_at {ss : List LStep} {k : Int} {j : Nat} (h : j < ss.length) : (markedS ss k j)[j]? = some ss[j] := by
  have hl : (markS k (ss.take j)).length = j := by rw [markS_length]; simp; omega
  unfold markedS
  rw [List.getElem?_append_right (by omega), hl]
  simp [h]
theorem markedS_step {ss : List LStep} {k : Int} {j : Nat} (h : j < ss.length) : (markedS ss k j).set j (markSt (endS k (ss.take j)) ss[j]) = markedS ss k (j + 1) := by
  have hl : (markS k (ss.take j)).length = j := by rw [markS_length]; simp; omega
  unfold markedS
  rw [List.drop_eq_getElem_cons h, List.set_append_right _ _ (by omega), hl, Nat.sub_self, List.set_cons_zero, take_snoc ss j h, markS_snoc]
  simp
theorem markedS_zero (ss : List LStep) (k : Int) : markedS ss k 0 = ss := by simp [markedS, markS]
theorem markedS_all (ss : List LStep) (k : Int) : markedS ss k ss.length = markS k ss := by simp [markedS]
theorem markS_at {ss : List LStep} {k : Int} {j : Nat} (h : j < ss.length) (h' : j < (markS k ss).length) : (markS k ss)[j] = markSt (endS k (ss.take j)) ss[j] := by
  have e : ss = ss.take (j + 1) ++ ss.drop (j + 1) := (List.take_append_drop _ _).symm
  have hl : (markS k (ss.take j)).length = j := by rw [markS_length]; simp; omega
  have hp : ∀ (xs ys : List LStep) (k : Int), ∃ zs, markS k (xs ++ ys) = markS k xs ++ zs := by
    intro xs
    induction xs with
    | nil => intro ys k; exact ⟨_, rfl⟩
    | cons x xs ih =>
      intro ys k
      obtain ⟨zs, hz⟩ := ih ys (k + 2 + (szSt x : Int))
      exact ⟨zs, by simp [markS, hz]⟩
  obtain ⟨zs, hz⟩ := hp (ss.take (j + 1)) (ss.drop (j + 1)) k
  rw [← e, take_snoc ss j h, markS_snoc] at hz
  have : (markS k ss)[j]? = some (markSt (endS k (ss.take j)) ss[j]) := by
    rw [hz, List.append_assoc, List.getElem?_append_right (by omega), hl]
    simp
  rw [List.getElem?_eq_getElem h'] at this
  exact Option.some.inj this
theorem endS_zero (k : Int) (ss : List LStep) : endS k (ss.take 0) = k := by simp [endS, totS]
theorem endS_step {ss : List LStep} {k : Int} {j : Nat} (h : j < ss.length) : endS k (ss.take (j + 1)) = endS k (ss.take j) + 2 + (szSt ss[j] : Int) := by
  have := totS_take ss j h
  simp only [endS, List.length_take, this]
  omega
theorem totS_take_le (ss : List LStep) (j : Nat) : totS (ss.take j) ≤ totS ss := by
  have := totS_append (ss.take j) (ss.drop j)
  rw [List.take_append_drop] at this
  omega
theorem endS_bound {ss : List LStep} {k : Int} (j : Nat) (hk0 : 0 ≤ k) (hk : k ≤ 4294967296) (hn : ss.length ≤ 1073741824) (ht : totS ss ≤ 1073741824) : 0 ≤ endS k (ss.take j) ∧ endS k (ss.take j) ≤ 8589934592 := by
  have h1 := totS_take_le ss j
  have h2 : (ss.take j).length ≤ ss.length := by rw [List.length_take]; omega
  simp only [endS]
  omega

theorem flat5_set1 : ∀ (ps : List (Int × Int)) (av : List Value) (_ : av.length = ps.length * 3) (j : Nat) (hj : j < ps.length) (p : Int), flat5 (ps.set j (p, ps[j].2)) av = (flat5 ps av).set (j * 5) (.int .i64 p)
  | [], _, _, _, hj, _ => absurd hj (by simp)
  | q :: ps, [], h, _, _, _ => by simp at h
  | q :: ps, [_], h, _, _, _ => by simp at h; omega
  | q :: ps, [_, _], h, _, _, _ => by simp at h; omega
  | q :: ps, a :: b :: c :: av, h, 0, _, p => by simp [flat5]
  | q :: ps, a :: b :: c :: av, h, j + 1, hj, p => by
    have := flat5_set1 ps av (by simp at h; omega) j (by simpa using hj) p
    simp [flat5, Nat.add_mul, this]
theorem flat5_set2 : ∀ (ps : List (Int × Int)) (av : List Value) (_ : av.length = ps.length * 3) (j : Nat) (hj : j < ps.length) (p : Int), flat5 (ps.set j (ps[j].1, p)) av = (flat5 ps av).set (j * 5 + 2) (.int .i64 p)
  | [], _, _, _, hj, _ => absurd hj (by simp)
  | q :: ps, [], h, _, _, _ => by simp at h
  | q :: ps, [_], h, _, _, _ => by simp at h; omega
  | q :: ps, [_, _], h, _, _, _ => by simp at h; omega
  | q :: ps, a :: b :: c :: av, h, 0, _, p => by simp [flat5]
  | q :: ps, a :: b :: c :: av, h, j + 1, hj, p => by
    have := flat5_set2 ps av (by simp at h; omega) j (by simpa using hj) p
    simp [flat5, Nat.add_mul, this]

section
variable {w w3 : World} {lo hi g c : Nat} {v : Value} {ps ps' : List (Int × Int)} {xss : List (List Int)} {av : List Value}
/-- A store of a plain cell into the row. -/
theorem OwnSX.cellSet (h : OwnSX w lo hi (.slice (some ⟨g, 0, none⟩) ps.length c) ps xss av) {i : Nat} {u : Value} (hp : ps'.length = ps.length) (e : flat5 ps' av = (flat5 ps av).set i u) : OwnSX (w.setCell ⟨g, i, none⟩ u) lo hi (.slice (some ⟨g, 0, none⟩) ps.length c) ps' xss av := by
  obtain ⟨ha, hr, hlt, hn⟩ := h
  refine ⟨⟨ha.len, fun l h1 h2 => (ha.own l h1 h2).kept fun b hb => Below.heap_setCell _ _ _ _ (fun e2 => stepsT_ne hr rfl (ha.own l h1 h2) (by rw [hb, e2])), ha.apart⟩, ?_, hlt, by rw [hp]; exact hn⟩
  obtain ⟨hfl, hr2⟩ := hr
  rcases hr2 with ⟨e2, _⟩ | ⟨g', cap, cur, e2, hbg, hgg, hn2, hm, hs, ht⟩
  · cases e2
  · injection e2 with e3 _ e4
    injection e3 with e3
    injection e3 with e3 _ _
    subst e3
    subst e4
    refine ⟨by rw [e, List.length_set, hp]; exact hfl, .inr ⟨g, c, cur.setIfInBounds i u, by rw [hp], hbg, ?_, by rw [hp]; exact hn2, hm, by simpa using hs, ?_⟩⟩
    · simp [World.setCell, Array.getElem?_modify, hgg]
    · rw [e, hp, Array.toList_setIfInBounds, List.take_set, ht]
/-- A row of integers is written. -/
theorem OwnSX.leaf (h : OwnSX w lo hi v ps xss av) {l : Nat} (hl : l < xss.length) (hl' : l < av.length) {ys : List Int} (hI : OwnInts w3 lo hi av[l] ys) (hg : w.grownBy w3 av[l].ownBlock) : OwnSX w3 lo hi v ps (xss.set l ys) av := by
  obtain ⟨ha, hr, hlt, hn⟩ := h
  have hapart : ∀ i i' (hi' : i < av.length) (hi'' : i' < av.length), i ≠ i' → ∀ b, av[i].ownBlock = some b → av[i'].ownBlock ≠ some b := by
    intro i i' h1 h2 hne b hb hb'
    have hp := List.pairwise_iff_getElem.1 ha.apart
    rcases Nat.lt_or_gt_of_ne hne with hl | hl
    · exact hp i i' h1 h2 hl b hb hb'
    · exact hp i' i h2 h1 hl b hb' hb
  refine ⟨⟨by simp [ha.len], fun i h1 h2 => ?_, ha.apart⟩, ownsRow_only hr fun b hb => hg.block b (hr.lt b hb).2 (fun e => stepsT_ne hr hb (ha.own l hl hl') e.symm), hlt, by rw [List.length_set]; exact hn⟩
  by_cases e : i = l
  · subst e
    simpa using hI
  · rw [List.getElem_set_ne (Ne.symm e)]
    have h0 := ha.own i (by simpa using h1) h2
    exact h0.kept fun b hb => hg.block b (h0.lt hb).2.2 (fun e2 => hapart i l h2 hl' e b hb e2.symm)
/-- What the walk reads of step j. -/
theorem OwnSX.get (h : OwnSX w lo hi (.slice (some ⟨g, 0, none⟩) ps.length c) ps xss av) {j : Nat} (hj : j < ps.length) :
    (w.cell? ⟨g, j * 5, none⟩ = some (.int .i64 ps[j].1) ∧ w.cell? ⟨g, j * 5 + 1, none⟩ = av[j * 3]? ∧ w.cell? ⟨g, j * 5 + 2, none⟩ = some (.int .i64 ps[j].2) ∧ w.cell? ⟨g, j * 5 + 3, none⟩ = av[j * 3 + 1]? ∧ w.cell? ⟨g, j * 5 + 4, none⟩ = av[j * 3 + 2]?) ∧
    ∀ i, w.frozen? ⟨g, i, none⟩ = false := by
  have hl := h.len
  have hcells := @World.ownsRow.cells w lo 46 5 _ ps.length (flat5 ps av) h.row g rfl
  have hcell : ∀ i u, (flat5 ps av)[i]? = some u → w.cell? ⟨g, i, none⟩ = some u := fun i u hu => by
    have := hcells i u hu
    rwa [Go.WideShapes.add_plain, Nat.zero_add] at this
  obtain ⟨e0, e1, e2, e3, e4⟩ := flat5_at ps av hl j hj
  have i1 : j * 3 < av.length := by omega
  have i2 : j * 3 + 1 < av.length := by omega
  have i3 : j * 3 + 2 < av.length := by omega
  rw [List.getElem?_eq_getElem i1] at e1 ⊢
  rw [List.getElem?_eq_getElem i2] at e3 ⊢
  rw [List.getElem?_eq_getElem i3] at e4 ⊢
  refine ⟨⟨hcell _ _ e0, hcell _ _ e1, hcell _ _ e2, hcell _ _ e3, hcell _ _ e4⟩, fun i => ?_⟩
  rcases h.row.2 with ⟨e, _⟩ | ⟨g', cap, cur, e, _, hgg, _⟩
  · cases e
  · injection e with e1 _ _
    injection e1 with e1
    injection e1 with e1 _ _
    subst e1
    simp [World.frozen?, hgg]
end

end Go.Proofs.Ytcoelmhlkfignaa
