/-
  Words for steps of proofs: what a slice of steps reads as, and a row of steps of the call's own. No walk.
-/
import Derived.Test.YtcoelmhlkfignaaSpecCopy
namespace Go.Proofs.Ytcoelmhlkfignaa
open Go.RowKit

/-- A step: its fact, its rule, what variables have, which steps ahead it names. -/
abbrev LStep := LFact × Int × List Int × List Int

/-- The struct value v reads as the step s, in blocks below B. -/
def RdStep (w : World) (B : Nat) (v : Value) (s : LStep) : Prop :=
  ∃ a b c, v = .agg #[.int .i64 s.1.1, a, .int .i64 s.2.1, b, c] ∧ RdInts w B a s.1.2 ∧ RdInts w B b s.2.2.1 ∧ RdInts w B c s.2.2.2
/-- The slice value v reads as the steps ss, in blocks below B. -/
def RdSteps (w : World) (B : Nat) (v : Value) (ss : List LStep) : Prop :=
  ∃ A c, v = .slice A ss.length c ∧ ss.length ≤ c ∧ (0 < ss.length → ∃ b o, A = some ⟨b, o, none⟩ ∧ b < B ∧ ∀ k (h : k < ss.length), ∃ x y z,
    w.cell? ⟨b, o + k * 5, none⟩ = some (.int .i64 ss[k].1.1) ∧ w.cell? ⟨b, o + k * 5 + 1, none⟩ = some x ∧ w.cell? ⟨b, o + k * 5 + 2, none⟩ = some (.int .i64 ss[k].2.1) ∧
    w.cell? ⟨b, o + k * 5 + 3, none⟩ = some y ∧ w.cell? ⟨b, o + k * 5 + 4, none⟩ = some z ∧ RdInts w B x ss[k].1.2 ∧ RdInts w B y ss[k].2.2.1 ∧ RdInts w B z ss[k].2.2.2)

section
variable {w w' : World} {B B' : Nat} {v : Value} {ss : List LStep} {s : LStep}
theorem RdStep.below (h : RdStep w B v s) (hb : Below B' w w') (hB : B ≤ B') : RdStep w' B v s := by
  obtain ⟨a, b, c, rfl, h1, h2, h3⟩ := h
  exact ⟨a, b, c, rfl, h1.below hb hB, h2.below hb hB, h3.below hb hB⟩
theorem RdStep.more (h : RdStep w B v s) (hB : B ≤ B') : RdStep w B' v s := by
  obtain ⟨a, b, c, rfl, h1, h2, h3⟩ := h
  exact ⟨a, b, c, rfl, h1.more hB, h2.more hB, h3.more hB⟩
theorem RdSteps.below (h : RdSteps w B v ss) (hb : Below B' w w') (hB : B ≤ B') : RdSteps w' B v ss := by
  obtain ⟨A, c, rfl, hc, h⟩ := h
  refine ⟨A, c, rfl, hc, fun hn => ?_⟩
  obtain ⟨b, o, rfl, hlt, hk⟩ := h hn
  refine ⟨b, o, rfl, hlt, fun k hkl => ?_⟩
  obtain ⟨x, y, z, h0, h1, h2, h3, h4, k1, k2, k3⟩ := hk k hkl
  have hc : ∀ i u, w.cell? ⟨b, i, none⟩ = some u → w'.cell? ⟨b, i, none⟩ = some u := fun i u hu => (hb.cell (p := ⟨b, i, none⟩) (by show b < B'; omega)).trans hu
  exact ⟨x, y, z, hc _ _ h0, hc _ _ h1, hc _ _ h2, hc _ _ h3, hc _ _ h4, k1.below hb hB, k2.below hb hB, k3.below hb hB⟩
theorem RdSteps.more (h : RdSteps w B v ss) (hB : B ≤ B') : RdSteps w B' v ss := by
  obtain ⟨A, c, rfl, hc, h⟩ := h
  refine ⟨A, c, rfl, hc, fun hn => ?_⟩
  obtain ⟨b, o, rfl, hlt, hk⟩ := h hn
  refine ⟨b, o, rfl, by omega, fun k hkl => ?_⟩
  obtain ⟨x, y, z, h0, h1, h2, h3, h4, k1, k2, k3⟩ := hk k hkl
  exact ⟨x, y, z, h0, h1, h2, h3, h4, k1.more hB, k2.more hB, k3.more hB⟩
theorem RdStep.on (h : RdStep w w.heap.size v s) (hb : Below w.heap.size w w') : RdStep w' w'.heap.size v s := (h.below hb (Nat.le_refl _)).more hb.size
theorem RdSteps.on (h : RdSteps w w.heap.size v ss) (hb : Below w.heap.size w w') : RdSteps w' w'.heap.size v ss := (h.below hb (Nat.le_refl _)).more hb.size
/-- One step, as a walk reads it. -/
theorem RdSteps.get {A : Option Addr} {c : Nat} (h : RdSteps w B (.slice A ss.length c) ss) {k : Nat} (hk : k < ss.length) : ∃ b o A1 c1 A2 c2 A3 c3, A = some ⟨b, o, none⟩ ∧ b < B ∧
    (w.cell? ⟨b, o + k * 5, none⟩ = some (.int .i64 ss[k].1.1) ∧ w.cell? ⟨b, o + k * 5 + 1, none⟩ = some (.slice A1 ss[k].1.2.length c1) ∧ w.cell? ⟨b, o + k * 5 + 2, none⟩ = some (.int .i64 ss[k].2.1) ∧
    w.cell? ⟨b, o + k * 5 + 3, none⟩ = some (.slice A2 ss[k].2.2.1.length c2) ∧ w.cell? ⟨b, o + k * 5 + 4, none⟩ = some (.slice A3 ss[k].2.2.2.length c3)) ∧
    RdInts w B (.slice A1 ss[k].1.2.length c1) ss[k].1.2 ∧ RdInts w B (.slice A2 ss[k].2.2.1.length c2) ss[k].2.2.1 ∧ RdInts w B (.slice A3 ss[k].2.2.2.length c3) ss[k].2.2.2 := by
  obtain ⟨A', c', e, hc, h⟩ := h
  injection e with e1 e2 e3
  subst e1
  obtain ⟨b, o, rfl, hb, hx⟩ := h (by omega)
  obtain ⟨x, y, z, h0, h1, h2, h3, h4, k1, k2, k3⟩ := hx k hk
  have l1 := k1
  have l2 := k2
  have l3 := k3
  obtain ⟨A1, c1, rfl, _⟩ := k1
  obtain ⟨A2, c2, rfl, _⟩ := k2
  obtain ⟨A3, c3, rfl, _⟩ := k3
  exact ⟨b, o, A1, c1, A2, c2, A3, c3, rfl, hb, ⟨h0, h1, h2, h3, h4⟩, l1, l2, l3⟩
end

/-- The plain cells of steps, and their rows of integers. -/
def heads (ss : List LStep) : List (Int × Int) := ss.map fun s => (s.1.1, s.2.1)
def leaves : List LStep → List (List Int)
  | [] => []
  | s :: ss => s.1.2 :: s.2.2.1 :: s.2.2.2 :: leaves ss
theorem heads_length (ss : List LStep) : (heads ss).length = ss.length := by simp [heads]
theorem heads_append (xs ys : List LStep) : heads (xs ++ ys) = heads xs ++ heads ys := by simp [heads]
theorem leaves_length : ∀ ss, (leaves ss).length = ss.length * 3
  | [] => rfl
  | s :: ss => by simp [leaves, leaves_length ss]; omega
theorem leaves_at : ∀ (ss : List LStep) (k : Nat) (h : k < ss.length), (leaves ss)[k * 3]? = some ss[k].1.2 ∧ (leaves ss)[k * 3 + 1]? = some ss[k].2.2.1 ∧ (leaves ss)[k * 3 + 2]? = some ss[k].2.2.2
  | [], k, h => absurd h (by simp)
  | s :: ss, 0, _ => by simp [leaves]
  | s :: ss, k + 1, h => by
    have := leaves_at ss k (by simpa using h)
    simpa [leaves, Nat.add_mul] using this
theorem leaves_append : ∀ (xs ys : List LStep), leaves (xs ++ ys) = leaves xs ++ leaves ys
  | [], _ => rfl
  | s :: xs, ys => by simp [leaves, leaves_append xs ys]
theorem leaves_set : ∀ (ss : List LStep) (j : Nat) (s : LStep), leaves (ss.set j s) = (((leaves ss).set (j * 3) s.1.2).set (j * 3 + 1) s.2.2.1).set (j * 3 + 2) s.2.2.2
  | [], _, _ => by simp [leaves]
  | t :: ss, 0, s => by simp [leaves]
  | t :: ss, j + 1, s => by
    have := leaves_set ss j s
    simp [leaves, Nat.add_mul, this]
theorem heads_set (ss : List LStep) (j : Nat) (s : LStep) : heads (ss.set j s) = (heads ss).set j (s.1.1, s.2.1) := by simp [heads, List.map_set]

/-- The cells of steps, a step's five behind each other. -/
def flat5 : List (Int × Int) → List Value → List Value
  | p :: ps, a :: b :: c :: av => .int .i64 p.1 :: a :: .int .i64 p.2 :: b :: c :: flat5 ps av
  | _, _ => []
theorem flat5_length : ∀ (ps : List (Int × Int)) (av : List Value), av.length = ps.length * 3 → (flat5 ps av).length = ps.length * 5
  | [], _, _ => by simp [flat5]
  | p :: ps, [], h => by simp at h
  | p :: ps, [_], h => by simp at h; omega
  | p :: ps, [_, _], h => by simp at h; omega
  | p :: ps, a :: b :: c :: av, h => by
    have := flat5_length ps av (by simp at h; omega)
    simp only [flat5, List.length_cons, this]
    omega
theorem flat5_at : ∀ (ps : List (Int × Int)) (av : List Value) (_ : av.length = ps.length * 3) (k : Nat) (hk : k < ps.length),
    (flat5 ps av)[k * 5]? = some (.int .i64 ps[k].1) ∧ (flat5 ps av)[k * 5 + 1]? = av[k * 3]? ∧ (flat5 ps av)[k * 5 + 2]? = some (.int .i64 ps[k].2) ∧ (flat5 ps av)[k * 5 + 3]? = av[k * 3 + 1]? ∧ (flat5 ps av)[k * 5 + 4]? = av[k * 3 + 2]?
  | [], _, _, k, hk => absurd hk (by simp)
  | p :: ps, [], h, _, _ => by simp at h
  | p :: ps, [_], h, _, _ => by simp at h; omega
  | p :: ps, [_, _], h, _, _ => by simp at h; omega
  | p :: ps, a :: b :: c :: av, h, 0, _ => by simp [flat5]
  | p :: ps, a :: b :: c :: av, h, k + 1, hk => by
    have := flat5_at ps av (by simp at h; omega) k (by simpa using hk)
    simpa [flat5, Nat.add_mul] using this
theorem flat5_append : ∀ (ps : List (Int × Int)) (av : List Value) (_ : av.length = ps.length * 3) (qs : List (Int × Int)) (bv : List Value), flat5 (ps ++ qs) (av ++ bv) = flat5 ps av ++ flat5 qs bv
  | [], [], _, _, _ => by simp [flat5]
  | [], _ :: _, h, _, _ => by simp at h
  | p :: ps, [], h, _, _ => by simp at h
  | p :: ps, [_], h, _, _ => by simp at h; omega
  | p :: ps, [_, _], h, _, _ => by simp at h; omega
  | p :: ps, a :: b :: c :: av, h, qs, bv => by
    have := flat5_append ps av (by simp at h; omega) qs bv
    simp [flat5, this]
theorem flat5_set : ∀ (ps : List (Int × Int)) (av : List Value) (_ : av.length = ps.length * 3) (j : Nat) (p : Int × Int), flat5 (ps.set j p) av = ((flat5 ps av).set (j * 5) (.int .i64 p.1)).set (j * 5 + 2) (.int .i64 p.2)
  | [], av, _, _, _ => by simp [flat5]
  | q :: ps, [], h, _, _ => by simp at h
  | q :: ps, [_], h, _, _ => by simp at h; omega
  | q :: ps, [_, _], h, _, _ => by simp at h; omega
  | q :: ps, a :: b :: c :: av, h, 0, p => by simp [flat5]
  | q :: ps, a :: b :: c :: av, h, j + 1, p => by
    have := flat5_set ps av (by simp at h; omega) j p
    simp [flat5, Nat.add_mul, this]

/-- A row of steps of the call's own: its plain cells ps, its rows of integers xss with the headers av, no two of these in one block. -/
structure OwnSX (w : World) (lo hi : Nat) (v : Value) (ps : List (Int × Int)) (xss : List (List Int)) (av : List Value) : Prop where
  args : OwnArgs w lo hi av xss
  row : w.ownsRow lo 46 5 v ps.length (flat5 ps av)
  lt : ∀ g, v.ownBlock = some g → g < hi
  n : xss.length = ps.length * 3
def OwnSteps (w : World) (lo hi : Nat) (v : Value) (ss : List LStep) : Prop := ∃ av, OwnSX w lo hi v (heads ss) (leaves ss) av

section
variable {w w' : World} {lo hi lo' hi' B : Nat} {v : Value} {ps : List (Int × Int)} {xss : List (List Int)} {av : List Value} {ss : List LStep}
theorem OwnSX.len (h : OwnSX w lo hi v ps xss av) : av.length = ps.length * 3 := h.args.len.trans h.n
theorem OwnSX.below (h : OwnSX w lo hi v ps xss av) (hb : Below B w w') (hB : hi ≤ B) : OwnSX w' lo hi v ps xss av := ⟨h.args.below hb hB, ownsRow_below h.row h.lt hb hB, h.lt, h.n⟩
theorem OwnSX.mono (h : OwnSX w lo hi v ps xss av) (h1 : lo' ≤ lo) (h2 : hi ≤ hi') : OwnSX w lo' hi' v ps xss av := ⟨h.args.mono h1 h2, ownsRow_mono h.row h1, fun g hg => by have := h.lt g hg; omega, h.n⟩
theorem OwnSX.only (h : OwnSX w lo hi v ps xss av) (ho : Only lo' hi' w w') (hd : hi ≤ lo' ∨ hi' ≤ lo) : OwnSX w' lo hi v ps xss av :=
  ⟨⟨h.args.len, fun i a b => (h.args.own i a b).only ho hd, h.args.apart⟩, ownsRow_only h.row fun g hg => ho.block g (h.row.lt g hg).2 (by have := h.row.lt g hg; have := h.lt g hg; omega), h.lt, h.n⟩
theorem OwnSX.form (h : OwnSX w lo hi v ps xss av) : ∃ A c, v = .slice A ps.length c ∧ (0 < ps.length → ∃ g, A = some ⟨g, 0, none⟩ ∧ lo ≤ g ∧ g < hi) := by
  rcases h.row.2 with ⟨rfl, h0⟩ | ⟨g, cap, _, rfl, hb, _⟩
  · exact ⟨none, 0, by rw [h0], fun hn => by omega⟩
  · exact ⟨_, _, rfl, fun _ => ⟨g, rfl, hb, h.lt g rfl⟩⟩
theorem OwnSteps.below (h : OwnSteps w lo hi v ss) (hb : Below B w w') (hB : hi ≤ B) : OwnSteps w' lo hi v ss := by
  obtain ⟨av, h⟩ := h
  exact ⟨av, h.below hb hB⟩
theorem OwnSteps.mono (h : OwnSteps w lo hi v ss) (h1 : lo' ≤ lo) (h2 : hi ≤ hi') : OwnSteps w lo' hi' v ss := by
  obtain ⟨av, h⟩ := h
  exact ⟨av, h.mono h1 h2⟩
theorem OwnSteps.only (h : OwnSteps w lo hi v ss) (ho : Only lo' hi' w w') (hd : hi ≤ lo' ∨ hi' ≤ lo) : OwnSteps w' lo hi v ss := by
  obtain ⟨av, h⟩ := h
  exact ⟨av, h.only ho hd⟩
theorem OwnSteps.form (h : OwnSteps w lo hi v ss) : ∃ A c, v = .slice A ss.length c := by
  obtain ⟨av, h⟩ := h
  obtain ⟨A, c, e, _⟩ := h.form
  rw [heads_length] at e
  exact ⟨A, c, e⟩
theorem OwnSteps.rd (h : OwnSteps w lo hi v ss) : RdSteps w hi v ss := by
  obtain ⟨av, h⟩ := h
  have hl := h.len
  have hr := h.row
  have hcells := @World.ownsRow.cells w lo 46 5 v (heads ss).length (flat5 (heads ss) av) hr
  have hown := h.args.own
  have hlt := h.lt
  rw [heads_length] at hl hr
  obtain ⟨hlen, hr⟩ := hr
  rcases hr with ⟨rfl, h0⟩ | ⟨g, cap, cur, rfl, hb, hg, hn, hm, hs, ht⟩
  · have : ss = [] := List.eq_nil_of_length_eq_zero h0
    subst this
    exact ⟨none, 0, rfl, by simp, fun h => absurd h (by simp)⟩
  · refine ⟨_, cap, rfl, hn, fun _ => ⟨g, 0, rfl, hlt g rfl, fun k hk => ?_⟩⟩
    have hkh : k < (heads ss).length := by rw [heads_length]; exact hk
    obtain ⟨e0, e1, e2, e3, e4⟩ := flat5_at (heads ss) av (by rw [heads_length]; exact hl) k hkh
    obtain ⟨l1, l2, l3⟩ := leaves_at ss k hk
    have hll := leaves_length ss
    have i1 : k * 3 < av.length := by omega
    have i2 : k * 3 + 1 < av.length := by omega
    have i3 : k * 3 + 2 < av.length := by omega
    have hcell : ∀ i u, (flat5 (heads ss) av)[i]? = some u → w.cell? ⟨g, 0 + i, none⟩ = some u := fun i u hu => by
      have := hcells (g := g) rfl i u hu
      rwa [Go.WideShapes.add_plain] at this
    have own1 : OwnInts w lo hi av[k * 3] ss[k].1.2 := by
      have h1 := hown (k * 3) (by omega) i1
      rw [List.getElem?_eq_getElem (by omega)] at l1
      rwa [Option.some.inj l1] at h1
    have own2 : OwnInts w lo hi av[k * 3 + 1] ss[k].2.2.1 := by
      have h1 := hown (k * 3 + 1) (by omega) i2
      rw [List.getElem?_eq_getElem (by omega)] at l2
      rwa [Option.some.inj l2] at h1
    have own3 : OwnInts w lo hi av[k * 3 + 2] ss[k].2.2.2 := by
      have h1 := hown (k * 3 + 2) (by omega) i3
      rw [List.getElem?_eq_getElem (by omega)] at l3
      rwa [Option.some.inj l3] at h1
    refine ⟨av[k * 3], av[k * 3 + 1], av[k * 3 + 2], ?_, ?_, ?_, ?_, ?_, own1.rd, own2.rd, own3.rd⟩
    · simpa [heads] using hcell _ _ e0
    · exact hcell _ _ (e1.trans (List.getElem?_eq_getElem i1))
    · simpa [heads] using hcell _ _ e2
    · exact hcell _ _ (e3.trans (List.getElem?_eq_getElem i2))
    · exact hcell _ _ (e4.trans (List.getElem?_eq_getElem i3))

/-- Three more rows, in later blocks, no two in one. -/
theorem OwnArgs.snoc3 (h : OwnArgs w lo hi av xss) {a b c : Value} {xs ys zs : List Int} (ha : OwnInts w hi hi' a xs) (hb : OwnInts w hi hi' b ys) (hc : OwnInts w hi hi' c zs)
    (hab : ∀ g, a.ownBlock = some g → b.ownBlock ≠ some g) (hac : ∀ g, a.ownBlock = some g → c.ownBlock ≠ some g) (hbc : ∀ g, b.ownBlock = some g → c.ownBlock ≠ some g) (hl : lo ≤ hi) (hh : hi ≤ hi') :
    OwnArgs w lo hi' (av ++ [a, b, c]) (xss ++ [xs, ys, zs]) := by
  have hlen := h.len
  refine ⟨by simp [hlen], fun i h1 h2 => ?_, ?_⟩
  · by_cases e : i < xss.length
    · rw [List.getElem_append_left (by omega), List.getElem_append_left e]
      exact (h.own i e (by omega)).mono (Nat.le_refl _) hh
    · rw [List.getElem_append_right (by omega), List.getElem_append_right (by omega)]
      simp only [List.length_append, List.length_cons, List.length_nil] at h1 h2
      have e2 : i - av.length = i - xss.length := by omega
      have e3 : i - xss.length = 0 ∨ i - xss.length = 1 ∨ i - xss.length = 2 := by omega
      rcases e3 with e3 | e3 | e3
      · simp only [e2, e3]; exact ha.mono hl (Nat.le_refl _)
      · simp only [e2, e3]; exact hb.mono hl (Nat.le_refl _)
      · simp only [e2, e3]; exact hc.mono hl (Nat.le_refl _)
  · rw [List.pairwise_append]
    refine ⟨h.apart, by simp; exact ⟨⟨hab, hac⟩, hbc⟩, fun x hx y hy g hg hg' => ?_⟩
    obtain ⟨i, hi2, rfl⟩ := List.getElem_of_mem hx
    have h1 := (h.own i (by omega) hi2).block hg
    simp at hy
    rcases hy with rfl | rfl | rfl
    · have h2 := ha.block hg'; omega
    · have h2 := hb.block hg'; omega
    · have h2 := hc.block hg'; omega

/-- The block of a row of integers is no block of a row of steps. -/
theorem stepsT_ne {n : Nat} {a : Value} {zs : List Value} {xs : List Int} {g : Nat} (hr : w.ownsRow lo' 46 5 v n zs) (hv : v.ownBlock = some g) (ha : OwnInts w lo hi a xs) : a.ownBlock ≠ some g := by
  rcases hr.2 with ⟨rfl, _⟩ | ⟨g1, c1, cur1, rfl, _, h1, _⟩
  · cases hv
  · have e : g1 = g := by simpa [Value.ownBlock] using hv
    subst e
    exact blk_ne_row ha.1 (show Blk w g1 46 cur1 from h1) (by decide)
end

/-- How many integers steps have together. -/
def szSt (s : LStep) : Nat := s.1.2.length + s.2.2.1.length + s.2.2.2.length
def totS (ss : List LStep) : Nat := (ss.map szSt).sum
theorem szSt_le_totS : ∀ (ss : List LStep) (k : Nat) (h : k < ss.length), szSt ss[k] ≤ totS ss
  | [], _, h => absurd h (by simp)
  | s :: ss, 0, _ => by simp [totS]
  | s :: ss, k + 1, h => by
    have := szSt_le_totS ss k (by simpa using h)
    simp only [totS, List.map_cons, List.sum_cons, List.getElem_cons_succ] at this ⊢
    omega
theorem totS_take : ∀ (ss : List LStep) (k : Nat) (h : k < ss.length), totS (ss.take (k + 1)) = totS (ss.take k) + szSt ss[k]
  | [], _, h => absurd h (by simp)
  | s :: ss, 0, _ => by simp [totS]
  | s :: ss, k + 1, h => by
    have := totS_take ss k (by simpa using h)
    simp only [totS, List.take_succ_cons, List.map_cons, List.sum_cons, List.getElem_cons_succ] at this ⊢
    omega
theorem totS_append (xs ys : List LStep) : totS (xs ++ ys) = totS xs + totS ys := by simp [totS]
theorem totS_cons (s : LStep) (ss : List LStep) : totS (s :: ss) = szSt s + totS ss := by simp [totS]

/-- n steps' cells as make lays them. -/
def zero5 : Nat → List Value
  | 0 => []
  | n + 1 => .int .i64 0 :: .slice none 0 0 :: .int .i64 0 :: .slice none 0 0 :: .slice none 0 0 :: zero5 n
theorem zero5_length : ∀ n, (zero5 n).length = n * 5
  | 0 => rfl
  | n + 1 => by simp [zero5, zero5_length n]; omega
theorem zero5_at : ∀ (n j : Nat), j < n * 5 → (zero5 n)[j]? = some (if j % 5 = 0 ∨ j % 5 = 2 then .int .i64 0 else .slice none 0 0)
  | 0, j, h => by omega
  | n + 1, 0, _ => by simp [zero5]
  | n + 1, 1, _ => by simp [zero5]
  | n + 1, 2, _ => by simp [zero5]
  | n + 1, 3, _ => by simp [zero5]
  | n + 1, 4, _ => by simp [zero5]
  | n + 1, j + 5, h => by
    have := zero5_at n j (by omega)
    simp only [zero5, List.getElem?_cons_succ, this]
    congr 2
    simp
theorem madeCells_steps (n : Nat) : (madeCells #[.int .i64 0, .slice none 0 0, .int .i64 0, .slice none 0 0, .slice none 0 0] (n * 5)).toList = zero5 n := by
  apply List.ext_getElem?
  intro j
  by_cases h : j < n * 5
  · rw [zero5_at n j h]
    have h2 : j % 5 = 0 ∨ j % 5 = 1 ∨ j % 5 = 2 ∨ j % 5 = 3 ∨ j % 5 = 4 := by omega
    rcases h2 with h2 | h2 | h2 | h2 | h2 <;> simp [madeCells, h, h2]
  · rw [List.getElem?_eq_none (by simp [madeCells]; omega), List.getElem?_eq_none (by rw [zero5_length]; omega)]

end Go.Proofs.Ytcoelmhlkfignaa
