/-
  Words for lists of facts: what a slice of facts reads as, and a row of facts of the call's own. No walk.
-/
import Derived.Test.YtcoelmhlkfignaaFacts
namespace Go.Proofs.Ytcoelmhlkfignaa
open Go.RowKit

/-- The slice value v reads as the facts fs, in blocks below B. -/
def RdFacts (w : World) (B : Nat) (v : Value) (fs : List LFact) : Prop :=
  ∃ A c, v = .slice A fs.length c ∧ fs.length ≤ c ∧ (0 < fs.length → ∃ b o, A = some ⟨b, o, none⟩ ∧ b < B ∧ ∀ k (h : k < fs.length), ∃ a,
    w.cell? ⟨b, o + k * 2, none⟩ = some (.int .i64 fs[k].1) ∧ w.cell? ⟨b, o + k * 2 + 1, none⟩ = some a ∧ RdInts w B a fs[k].2)

theorem RdFacts.below {w w' : World} {B B' : Nat} {v : Value} {fs : List LFact} (h : RdFacts w B v fs) (hb : Below B' w w') (hB : B ≤ B') : RdFacts w' B v fs := by
  obtain ⟨A, c, rfl, hc, h⟩ := h
  refine ⟨A, c, rfl, hc, fun hn => ?_⟩
  obtain ⟨b, o, rfl, hlt, hk⟩ := h hn
  refine ⟨b, o, rfl, hlt, fun k hkl => ?_⟩
  obtain ⟨a, h1, h2, h3⟩ := hk k hkl
  exact ⟨a, (hb.cell (p := ⟨b, o + k * 2, none⟩) (by show b < B'; omega)).trans h1, (hb.cell (p := ⟨b, o + k * 2 + 1, none⟩) (by show b < B'; omega)).trans h2, h3.below hb hB⟩
theorem RdFacts.more {w : World} {B B' : Nat} {v : Value} {fs : List LFact} (h : RdFacts w B v fs) (hB : B ≤ B') : RdFacts w B' v fs := by
  obtain ⟨A, c, rfl, hc, h⟩ := h
  refine ⟨A, c, rfl, hc, fun hn => ?_⟩
  obtain ⟨b, o, rfl, hlt, hk⟩ := h hn
  refine ⟨b, o, rfl, by omega, fun k hkl => ?_⟩
  obtain ⟨a, h1, h2, h3⟩ := hk k hkl
  exact ⟨a, h1, h2, h3.more hB⟩
theorem RdFacts.on {w w' : World} {v : Value} {fs : List LFact} (h : RdFacts w w.heap.size v fs) (hb : Below w.heap.size w w') : RdFacts w' w'.heap.size v fs := (h.below hb (Nat.le_refl _)).more hb.size

/-- The cells of facts, a fact's two behind each other. -/
def flat : List LFact → List Value → List Value
  | f :: fs, a :: av => .int .i64 f.1 :: a :: flat fs av
  | _, _ => []

theorem flat_length : ∀ (fs : List LFact) (av : List Value), av.length = fs.length → (flat fs av).length = fs.length * 2
  | [], _, _ => by simp [flat]
  | f :: fs, [], h => by simp at h
  | f :: fs, a :: av, h => by
    have := flat_length fs av (by simpa using h)
    simp only [flat, List.length_cons, this]
    omega
theorem flat_at : ∀ (fs : List LFact) (av : List Value) (_ : av.length = fs.length) (k : Nat) (hk : k < fs.length) (hk' : k < av.length),
    (flat fs av)[k * 2]? = some (.int .i64 fs[k].1) ∧ (flat fs av)[k * 2 + 1]? = some av[k]
  | [], _, _, k, hk, _ => absurd hk (by simp)
  | f :: fs, [], h, _, _, _ => by simp at h
  | f :: fs, a :: av, h, 0, _, _ => by simp [flat]
  | f :: fs, a :: av, h, k + 1, hk, hk' => by
    have := flat_at fs av (by simpa using h) k (by simpa using hk) (by simpa using hk')
    simpa [flat, Nat.add_mul] using this
theorem flat_snoc : ∀ (fs : List LFact) (av : List Value) (_ : av.length = fs.length) (f : LFact) (a : Value), flat (fs ++ [f]) (av ++ [a]) = flat fs av ++ [.int .i64 f.1, a]
  | [], [], _, f, a => by simp [flat]
  | [], a' :: av, h, _, _ => by simp at h
  | f :: fs, [], h, _, _ => by simp at h
  | f :: fs, a :: av, h, g, b => by simp [flat, flat_snoc fs av (by simpa using h) g b]

/-- Rows of integers of the call's own, no two in one block. -/
structure OwnArgs (w : World) (lo hi : Nat) (av : List Value) (xss : List (List Int)) : Prop where
  len : av.length = xss.length
  own : ∀ i (h : i < xss.length) (h' : i < av.length), OwnInts w lo hi av[i] xss[i]
  apart : av.Pairwise fun a b => ∀ g, a.ownBlock = some g → b.ownBlock ≠ some g

section
variable {w w' : World} {lo hi lo' hi' B : Nat} {av : List Value} {xss : List (List Int)}
theorem OwnArgs.nil : OwnArgs w lo hi [] [] := ⟨rfl, fun i h => absurd h (by simp), .nil⟩
theorem OwnArgs.below (h : OwnArgs w lo hi av xss) (hb : Below B w w') (hB : hi ≤ B) : OwnArgs w' lo hi av xss := ⟨h.len, fun i h1 h2 => (h.own i h1 h2).below hb hB, h.apart⟩
theorem OwnArgs.mono (h : OwnArgs w lo hi av xss) (h1 : lo' ≤ lo) (h2 : hi ≤ hi') : OwnArgs w lo' hi' av xss := ⟨h.len, fun i h3 h4 => (h.own i h3 h4).mono h1 h2, h.apart⟩
theorem OwnArgs.set (h : OwnArgs w lo hi av xss) {p : Addr} (hp : p.block < lo ∨ hi ≤ p.block) (u : Value) : OwnArgs (w.setCell p u) lo hi av xss := ⟨h.len, fun i h3 h4 => (h.own i h3 h4).set hp u, h.apart⟩
theorem OwnInts.block {v : Value} {xs : List Int} (h : OwnInts w lo hi v xs) {g : Nat} (hg : v.ownBlock = some g) : lo ≤ g ∧ g < hi := ⟨(h.1.lt g hg).1, h.2 g hg⟩
/-- One more, in later blocks. -/
theorem OwnArgs.snoc (h : OwnArgs w lo hi av xss) {v : Value} {xs : List Int} (hv : OwnInts w hi hi' v xs) (hl : lo ≤ hi) (hh : hi ≤ hi') : OwnArgs w lo hi' (av ++ [v]) (xss ++ [xs]) := by
  have hlen := h.len
  refine ⟨by simp [hlen], fun i h1 h2 => ?_, ?_⟩
  · by_cases e : i < xss.length
    · rw [List.getElem_append_left (by omega), List.getElem_append_left e]
      exact (h.own i e (by omega)).mono (Nat.le_refl _) hh
    · have e2 : i = xss.length := by simp at h1; omega
      subst e2
      simp [← hlen]
      exact hv.mono hl (Nat.le_refl _)
  · rw [List.pairwise_append]
    refine ⟨h.apart, by simp, fun a ha b hb g hg hg' => ?_⟩
    simp at hb
    subst hb
    obtain ⟨i, hi', rfl⟩ := List.getElem_of_mem ha
    have h1 := (h.own i (by omega) hi').block hg
    have h2 := hv.block hg'
    omega
end

/-- A row of facts of the call's own, with its rows of integers, in blocks from lo on and below hi. -/
def OwnFacts (w : World) (lo hi : Nat) (v : Value) (fs : List LFact) : Prop :=
  ∃ av, OwnArgs w lo hi av (fs.map (·.2)) ∧ w.ownsRow lo 44 2 v fs.length (flat fs av) ∧ ∀ g, v.ownBlock = some g → g < hi

section
variable {w w' : World} {lo hi lo' hi' B : Nat} {v : Value} {fs : List LFact}
theorem ownsRow_below {e : TypeId} {size n : Nat} {xs : List Value} (h : w.ownsRow lo e size v n xs) (hlt : ∀ g, v.ownBlock = some g → g < hi) (hb : Below B w w') (hB : hi ≤ B) : w'.ownsRow lo e size v n xs := by
  obtain ⟨hlen, h⟩ := h
  refine ⟨hlen, ?_⟩
  rcases h with h | ⟨g, cap, cur, rfl, hbg, hg, r⟩
  · exact .inl h
  · exact .inr ⟨g, cap, cur, rfl, hbg, by rw [hb.block g (by have := hlt g rfl; omega)]; exact hg, r⟩
theorem ownsRow_mono {e : TypeId} {size n : Nat} {xs : List Value} (h : w.ownsRow lo e size v n xs) (h1 : lo' ≤ lo) : w.ownsRow lo' e size v n xs := by
  obtain ⟨hlen, h⟩ := h
  refine ⟨hlen, ?_⟩
  rcases h with h | ⟨g, cap, cur, rfl, hbg, r⟩
  · exact .inl h
  · exact .inr ⟨g, cap, cur, rfl, by omega, r⟩
theorem OwnFacts.below (h : OwnFacts w lo hi v fs) (hb : Below B w w') (hB : hi ≤ B) : OwnFacts w' lo hi v fs := by
  obtain ⟨av, h1, h2, h3⟩ := h
  exact ⟨av, h1.below hb hB, ownsRow_below h2 h3 hb hB, h3⟩
theorem OwnFacts.mono (h : OwnFacts w lo hi v fs) (h1 : lo' ≤ lo) (h2 : hi ≤ hi') : OwnFacts w lo' hi' v fs := by
  obtain ⟨av, ha, hr, hlt⟩ := h
  exact ⟨av, ha.mono h1 h2, ownsRow_mono hr h1, fun g hg => by have := hlt g hg; omega⟩

theorem OwnFacts.rd (h : OwnFacts w lo hi v fs) : RdFacts w hi v fs := by
  obtain ⟨av, ha, hr, hlt⟩ := h
  have hcells := @World.ownsRow.cells w lo 44 2 v fs.length (flat fs av) hr
  obtain ⟨hlen, hr⟩ := hr
  have hl : av.length = fs.length := by simpa using ha.len
  rcases hr with ⟨rfl, h0⟩ | ⟨g, cap, cur, rfl, hb, hg, hn, hm, hs, ht⟩
  · have : fs = [] := List.eq_nil_of_length_eq_zero h0
    subst this
    exact ⟨none, 0, rfl, by simp, fun h => absurd h (by simp)⟩
  · refine ⟨_, cap, rfl, hn, fun _ => ⟨g, 0, rfl, hlt g rfl, fun k hk => ⟨av[k]'(by omega), ?_, ?_, ?_⟩⟩⟩
    · have := hcells (g := g) rfl _ _ (flat_at fs av hl k hk (by omega)).1
      rwa [Go.WideShapes.add_plain] at this
    · have := hcells (g := g) rfl _ _ (flat_at fs av hl k hk (by omega)).2
      rwa [Go.WideShapes.add_plain, ← Nat.add_assoc] at this
    · have := ha.own k (by simpa using hk) (by omega)
      simpa using this.rd
end

/-- n facts' cells as make lays them. -/
def zeroCells : Nat → List Value
  | 0 => []
  | n + 1 => .int .i64 0 :: .slice none 0 0 :: zeroCells n
theorem zeroCells_length : ∀ n, (zeroCells n).length = n * 2
  | 0 => rfl
  | n + 1 => by simp [zeroCells, zeroCells_length n]; omega
theorem zeroCells_at : ∀ (n j : Nat), j < n * 2 → (zeroCells n)[j]? = some (if j % 2 = 0 then .int .i64 0 else .slice none 0 0)
  | 0, j, h => by omega
  | n + 1, 0, _ => by simp [zeroCells]
  | n + 1, 1, _ => by simp [zeroCells]
  | n + 1, j + 2, h => by
    have := zeroCells_at n j (by omega)
    simp only [zeroCells, List.getElem?_cons_succ, this]
    congr 2
    simp
theorem madeCells_facts (n : Nat) : (madeCells #[.int .i64 0, .slice none 0 0] (n * 2)).toList = zeroCells n := by
  apply List.ext_getElem?
  intro j
  by_cases h : j < n * 2
  · rw [zeroCells_at n j h]
    have h2 : j % 2 = 0 ∨ j % 2 = 1 := by omega
    rcases h2 with h2 | h2 <;> simp [madeCells, h, h2]
  · rw [List.getElem?_eq_none (by simp [madeCells]; omega), List.getElem?_eq_none (by rw [zeroCells_length]; omega)]

/-- How many integers facts have together. -/
def tot (fs : List LFact) : Nat := (fs.map fun f => f.2.length).sum

theorem len_le_tot : ∀ (fs : List LFact) (k : Nat) (h : k < fs.length), fs[k].2.length ≤ tot fs
  | [], _, h => absurd h (by simp)
  | f :: fs, 0, _ => by simp [tot]
  | f :: fs, k + 1, h => by
    have := len_le_tot fs k (by simpa using h)
    simp only [tot, List.map_cons, List.sum_cons, List.getElem_cons_succ] at this ⊢
    omega
theorem tot_take : ∀ (fs : List LFact) (k : Nat) (h : k < fs.length), tot (fs.take (k + 1)) = tot (fs.take k) + fs[k].2.length
  | [], _, h => absurd h (by simp)
  | f :: fs, 0, _ => by simp [tot]
  | f :: fs, k + 1, h => by
    have := tot_take fs k (by simpa using h)
    simp only [tot, List.take_succ_cons, List.map_cons, List.sum_cons, List.getElem_cons_succ] at this ⊢
    omega
end Go.Proofs.Ytcoelmhlkfignaa
