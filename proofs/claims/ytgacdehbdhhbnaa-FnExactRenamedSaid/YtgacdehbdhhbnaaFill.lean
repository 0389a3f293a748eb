/-
  A row that make laid and a loop fills, element by element, each element's own memory behind the one's ahead of it: so no two share a cell. The words; no walk.
-/
import Derived.Test.YtgacdehbdhhbnaaLeafLits
namespace Go.Proofs.Ytgacdehbdhhbnaa
open Go.RowKit

section
variable {α : Type}
/-- What holds at the loop that fills block g with xs: k elements are there; element j's own memory lies in blocks from f j on and below f (j + 1). -/
structure Fill (t : TypeId) (z0 z1 z2 : Value) (O : World → Nat → Nat → Value → Value → Value → α → Prop) (g : Nat) (wr : World) (xs : List α) (k : Nat) (f : Nat → Nat) : Prop where
  row : ∃ cur : Array Value, Blk wr g t cur ∧ (∀ j, j < k → ∀ hx : j < xs.length, ∃ u0 u1 u2, cur[j * 3]? = some u0 ∧ cur[j * 3 + 1]? = some u1 ∧ cur[j * 3 + 2]? = some u2 ∧ O wr (f j) (f (j + 1)) u0 u1 u2 xs[j]) ∧
    (∀ j, k ≤ j → j < xs.length → cur[j * 3]? = some z0 ∧ cur[j * 3 + 1]? = some z1 ∧ cur[j * 3 + 2]? = some z2)
  mono : ∀ j, j < k → f j ≤ f (j + 1)
  lo : g < f 0
  hi : f k ≤ wr.heap.size

variable {t : TypeId} {z0 z1 z2 : Value} {O : World → Nat → Nat → Value → Value → Value → α → Prop} {g : Nat} {w wr w4 : World} {xs : List α} {k : Nat} {f : Nat → Nat}
theorem Fill.start (h : Blk w g t (madeCells #[z0, z1, z2] (xs.length * 3))) (m : Nat) (hm : g < m) (hw : m ≤ w.heap.size) : Fill t z0 z1 z2 O g w xs 0 (fun _ => m) :=
  ⟨⟨_, h, fun j hj => absurd hj (by omega), fun j _ hj => by
    have e0 : j * 3 % 3 = 0 := by omega
    have e1 : (j * 3 + 1) % 3 = 1 := by omega
    have e2 : (j * 3 + 2) % 3 = 2 := by omega
    have l0 : j * 3 < xs.length * 3 := by omega
    have l1 : j * 3 + 1 < xs.length * 3 := by omega
    have l2 : j * 3 + 2 < xs.length * 3 := by omega
    refine ⟨?_, ?_, ?_⟩ <;> simp [madeCells, *]⟩, fun j hj => absurd hj (by omega), hm, hw⟩
theorem Fill.le (h : Fill t z0 z1 z2 O g wr xs k f) : ∀ {i j : Nat}, i ≤ j → j ≤ k → f i ≤ f j := by
  intro i j hij
  induction j with
  | zero => intro _; rw [show i = 0 by omega]; exact Nat.le_refl _
  | succ j ih =>
    intro hj
    by_cases e : i = j + 1
    · rw [e]; exact Nat.le_refl _
    · exact Nat.le_trans (ih (by omega) (by omega)) (h.mono j (by omega))
theorem Fill.room (h : Fill t z0 z1 z2 O g wr xs k f) (hlt : k < xs.length) (hb : w4.heap[g]? = wr.heap[g]?) :
    w4.cell? ⟨g, k * 3, none⟩ = some z0 ∧ w4.cell? ⟨g, k * 3 + 1, none⟩ = some z1 ∧ w4.cell? ⟨g, k * 3 + 2, none⟩ = some z2 ∧
    w4.frozen? ⟨g, k * 3, none⟩ = false ∧ w4.frozen? ⟨g, k * 3 + 1, none⟩ = false ∧ w4.frozen? ⟨g, k * 3 + 2, none⟩ = false := by
  obtain ⟨cur, hcur, _, hz⟩ := h.row
  have h4 : Blk w4 g t cur := hb.trans hcur
  obtain ⟨c0, c1, c2⟩ := hz k (Nat.le_refl _) hlt
  exact ⟨(h4.cell _).trans c0, (h4.cell _).trans c1, (h4.cell _).trans c2, h4.frozen _, h4.frozen _, h4.frozen _⟩
theorem Fill.kept (keep : ∀ {w w' : World} {lo hi : Nat} {u0 u1 u2 : Value} {x : α}, O w lo hi u0 u1 u2 x → (∀ g, lo ≤ g → g < hi → w'.heap[g]? = w.heap[g]?) → O w' lo hi u0 u1 u2 x)
    (h : Fill t z0 z1 z2 O g wr xs k f) (hb : w4.heap[g]? = wr.heap[g]?) (hk : ∀ b, f 0 ≤ b → b < f k → w4.heap[b]? = wr.heap[b]?) (hsz : wr.heap.size ≤ w4.heap.size) : Fill t z0 z1 z2 O g w4 xs k f := by
  obtain ⟨cur, hcur, hdone, hz⟩ := h.row
  refine ⟨⟨cur, hb.trans hcur, fun j hj hx => ?_, hz⟩, h.mono, h.lo, Nat.le_trans h.hi hsz⟩
  obtain ⟨v0, v1, v2, c0, c1, c2, hO⟩ := hdone j hj hx
  have g1 := h.le (Nat.zero_le j) (by omega)
  have g2 := h.le (show j + 1 ≤ k by omega) (Nat.le_refl _)
  exact ⟨v0, v1, v2, c0, c1, c2, keep hO fun b h1 h2 => hk b (by omega) (by omega)⟩
/-- One more element. -/
theorem Fill.step (keep : ∀ {w w' : World} {lo hi : Nat} {u0 u1 u2 : Value} {x : α}, O w lo hi u0 u1 u2 x → (∀ g, lo ≤ g → g < hi → w'.heap[g]? = w.heap[g]?) → O w' lo hi u0 u1 u2 x)
    (omono : ∀ {w : World} {lo hi lo' hi' : Nat} {u0 u1 u2 : Value} {x : α}, O w lo hi u0 u1 u2 x → lo' ≤ lo → hi ≤ hi' → O w lo' hi' u0 u1 u2 x)
    (h : Fill t z0 z1 z2 O g wr xs k f) (hlt : k < xs.length) (hb : w4.heap[g]? = wr.heap[g]?) (hk : ∀ b, f 0 ≤ b → b < f k → w4.heap[b]? = wr.heap[b]?) (hsz : wr.heap.size ≤ w4.heap.size)
    {u0 u1 u2 : Value} (ha : O w4 wr.heap.size w4.heap.size u0 u1 u2 xs[k]) :
    Fill t z0 z1 z2 O g (((w4.setCell ⟨g, k * 3, none⟩ u0).setCell ⟨g, k * 3 + 1, none⟩ u1).setCell ⟨g, k * 3 + 2, none⟩ u2) xs (k + 1) (fun j => if j ≤ k then f j else w4.heap.size) := by
  have hh := h.hi
  have hlo := h.lo
  have hf : ∀ b, b ≠ g → (((w4.setCell ⟨g, k * 3, none⟩ u0).setCell ⟨g, k * 3 + 1, none⟩ u1).setCell ⟨g, k * 3 + 2, none⟩ u2).heap[b]? = w4.heap[b]? := fun b hne => by
    rw [Below.heap_setCell _ _ _ _ hne, Below.heap_setCell _ _ _ _ hne, Below.heap_setCell _ _ _ _ hne]
  obtain ⟨cur, hcur, hdone, hz⟩ := h.row
  have h4 : Blk w4 g t cur := hb.trans hcur
  have hlast : cur.size > k * 3 + 2 := by
    have := (hz k (Nat.le_refl _) hlt).2.2
    exact (Array.getElem?_eq_some_iff.1 this).1
  refine ⟨⟨_, ((h4.set_ (k * 3) u0).set_ (k * 3 + 1) u1).set_ (k * 3 + 2) u2, fun j hj hx => ?_, fun j hj hx => ?_⟩, fun j hj => ?_, by simp; omega, by rw [if_neg (by omega)]; simp⟩
  · by_cases e : j = k
    · subst e
      refine ⟨u0, u1, u2, ?_, ?_, ?_, ?_⟩
      · simp [Array.getElem?_setIfInBounds]; omega
      · simp [Array.getElem?_setIfInBounds]; omega
      · simp [Array.getElem?_setIfInBounds]; omega
      · rw [if_pos (Nat.le_refl _), if_neg (by omega)]
        exact omono (keep ha fun b h1 _ => hf b (by have := h.le (Nat.zero_le j) (Nat.le_refl _); omega)) hh (Nat.le_refl _)
    · obtain ⟨v0, v1, v2, c0, c1, c2, hO⟩ := hdone j (by omega) hx
      refine ⟨v0, v1, v2, ?_, ?_, ?_, ?_⟩
      · rw [← c0]; simp only [Array.getElem?_setIfInBounds, Array.size_setIfInBounds]; rw [if_neg (by omega), if_neg (by omega), if_neg (by omega)]
      · rw [← c1]; simp only [Array.getElem?_setIfInBounds, Array.size_setIfInBounds]; rw [if_neg (by omega), if_neg (by omega), if_neg (by omega)]
      · rw [← c2]; simp only [Array.getElem?_setIfInBounds, Array.size_setIfInBounds]; rw [if_neg (by omega), if_neg (by omega), if_neg (by omega)]
      · rw [if_pos (by omega), if_pos (by omega)]
        refine keep hO fun b h1 h2 => ?_
        have g1 := h.le (Nat.zero_le j) (by omega)
        have g2 := h.le (show j + 1 ≤ k by omega) (Nat.le_refl _)
        rw [hf b (by omega)]
        exact hk b (by omega) (by omega)
  · obtain ⟨c0, c1, c2⟩ := hz j (by omega) hx
    refine ⟨?_, ?_, ?_⟩
    · rw [← c0]; simp only [Array.getElem?_setIfInBounds, Array.size_setIfInBounds]; rw [if_neg (by omega), if_neg (by omega), if_neg (by omega)]
    · rw [← c1]; simp only [Array.getElem?_setIfInBounds, Array.size_setIfInBounds]; rw [if_neg (by omega), if_neg (by omega), if_neg (by omega)]
    · rw [← c2]; simp only [Array.getElem?_setIfInBounds, Array.size_setIfInBounds]; rw [if_neg (by omega), if_neg (by omega), if_neg (by omega)]
  · by_cases e : j = k
    · subst e
      rw [if_pos (Nat.le_refl _), if_neg (by omega)]
      omega
    · rw [if_pos (by omega), if_pos (by omega)]
      exact h.mono j (by omega)
end

/-- A filled row of literals reads so, and its leaves are once each. -/
theorem Fill.lits {z0 z1 z2 : Value} {g : Nat} {wr : World} {ls : List LLit} {f : Nat → Nat} {c lo hi : Nat} (h : Fill 52 z0 z1 z2 OLit g wr ls ls.length f) (hc : ls.length ≤ c) (hlo : lo ≤ g) (hhi : wr.heap.size ≤ hi) :
    OwnLits wr lo hi (.slice (some ⟨g, 0, none⟩) ls.length c) ls ∧ ∃ ps, LvLits wr lo hi (.slice (some ⟨g, 0, none⟩) ls.length c) ls ps ∧ ps.Nodup ∧ ∀ p ∈ ps, p.block = g ∨ (f 0 ≤ p.block ∧ p.block < wr.heap.size) := by
  obtain ⟨cur, hcur, hdone, _⟩ := h.row
  have hgl := hcur.lt
  have hfl : ∀ j, j < ls.length → f 0 ≤ f j ∧ f (j + 1) ≤ wr.heap.size := fun j hj => ⟨h.le (Nat.zero_le j) (by omega), Nat.le_trans (h.le (show j + 1 ≤ ls.length by omega) (Nat.le_refl _)) h.hi⟩
  have hlo0 := h.lo
  refine ⟨⟨_, c, rfl, hc, fun _ => ⟨g, 0, rfl, hlo, by omega, fun j hj => ?_⟩⟩, ?_⟩
  · obtain ⟨u0, u1, u2, c0, c1, c2, e0, e1, hI⟩ := hdone j hj hj
    have := hfl j hj
    exact ⟨⟨hcur.frozen _, hcur.frozen _⟩, u0, u1, u2, by simpa using (hcur.cell (j * 3)).trans c0, by simpa using (hcur.cell (j * 3 + 1)).trans c1, by simpa using (hcur.cell (j * 3 + 2)).trans c2, e0, e1, hI.mono (by omega) (by omega)⟩
  · rcases Nat.eq_zero_or_pos ls.length with hz | hp
    · refine ⟨[], ⟨_, c, rfl, hc, fun _ => rfl, fun hn => absurd hn (by omega)⟩, List.nodup_nil, fun p hp => by simp at hp⟩
    · have hex : ∀ j, ∃ q : List Addr, ∀ (hj : j < ls.length), ∃ u2, cur[j * 3 + 2]? = some u2 ∧ LvInts wr (f j) (f (j + 1)) u2 ls[j].2.2.length q := fun j => by
        by_cases hj : j < ls.length
        · obtain ⟨u0, u1, u2, c0, c1, c2, e0, e1, hI⟩ := hdone j hj hj
          obtain ⟨q, hq⟩ := hI.leaves
          exact ⟨q, fun _ => ⟨u2, c2, hq⟩⟩
        · exact ⟨[], fun hj' => absurd hj' hj⟩
      obtain ⟨qs, hqs⟩ := Classical.axiomOfChoice hex
      have hblk : ∀ j, j < ls.length → ∀ p ∈ qs j, f j ≤ p.block ∧ p.block < f (j + 1) := fun j hj p hp => by
        obtain ⟨u2, _, hL⟩ := hqs j hj
        exact hL.block hp
      refine ⟨preL (litEl g 0 qs) ls.length, ⟨_, c, rfl, hc, fun hz => absurd hp (by omega), fun _ => ⟨g, 0, qs, rfl, hlo, by omega, rfl, fun j hj => ?_⟩⟩, ?_, fun p hp => ?_⟩
      · obtain ⟨u0, u1, u2, c0, c1, c2, rfl, rfl, hI⟩ := hdone j hj hj
        obtain ⟨u2', c2', hL⟩ := hqs j hj
        have hu : u2 = u2' := Option.some.inj (c2.symm.trans c2')
        subst hu
        have := hfl j hj
        refine ⟨⟨hcur.frozen _, hcur.frozen _⟩, _, _, u2, by simpa using (hcur.cell (j * 3)).trans c0, by simpa using (hcur.cell (j * 3 + 1)).trans c1, by simpa using (hcur.cell (j * 3 + 2)).trans c2, hL.mono (by omega) (by omega)⟩
      · refine preL_nodup_of (fun j hj => ?_) (fun i j hij hj p hpi hpj => ?_)
        · obtain ⟨u2, _, hL⟩ := hqs j hj
          have hb := hblk j hj
          have := hfl j hj
          refine List.nodup_cons.2 ⟨fun hm => ?_, List.nodup_cons.2 ⟨fun hm => ?_, hL.nodup⟩⟩
          · rcases List.mem_cons.1 hm with e | hm
            · injection e with _ e _
              omega
            · have := hb _ hm
              simp at this
              omega
          · have := hb _ hm
            simp at this
            omega
        · have hi := hblk i (by omega)
          have hj' := hblk j hj
          have h1 := hfl i (by omega)
          have h2 := hfl j hj
          have h3 := h.le (show i + 1 ≤ j by omega) (by omega)
          have hcase : ∀ k, ∀ q ∈ litEl g 0 qs k, q = ⟨g, 0 + k * 3, none⟩ ∨ q = ⟨g, 0 + k * 3 + 1, none⟩ ∨ q ∈ qs k := fun k q hq => by
            simpa [litEl] using hq
          rcases hcase i p hpi with rfl | rfl | hpi <;> rcases hcase j _ hpj with e | e | hpj
          · injection e with _ e _; omega
          · injection e with _ e _; omega
          · have := hj' _ hpj; simp at this; omega
          · injection e with _ e _; omega
          · injection e with _ e _; omega
          · have := hj' _ hpj; simp at this; omega
          · have := hi _ hpi; rw [e] at this; simp at this; omega
          · have := hi _ hpi; rw [e] at this; simp at this; omega
          · have := hi _ hpi; have := hj' _ hpj; omega
      · obtain ⟨j, hj, hpj⟩ := mem_preL.1 hp
        have hb := hblk j hj
        have := hfl j hj
        simp only [litEl, List.mem_cons] at hpj
        rcases hpj with rfl | rfl | hpj
        · exact .inl rfl
        · exact .inl rfl
        · have := hb _ hpj
          exact .inr (by omega)

end Go.Proofs.Ytgacdehbdhhbnaa
