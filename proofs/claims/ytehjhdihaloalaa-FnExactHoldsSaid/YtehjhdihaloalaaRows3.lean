/-
  Rows of elements of three cells (literals, rules): what a slice of them reads as, rows of the call's own, and the loop that makes and fills one. No walk.
-/
import Derived.Test.YtehjhdihaloalaaAtoms
namespace Go.Proofs.Ytehjhdihaloalaa
open Go.RowKit

/-- A literal: its kind, its atom. -/
abbrev LLit := Int × LFact
/-- A rule: its head, its body. -/
abbrev LRule := LFact × List LLit

section
variable {α : Type}

/-- The slice value v reads as the elements xs, each of three cells that read as Q says, in blocks below B. -/
def RdRow (Q : World → Nat → Value → Value → Value → α → Prop) (w : World) (B : Nat) (v : Value) (xs : List α) : Prop :=
  ∃ A c, v = .slice A xs.length c ∧ xs.length ≤ c ∧ (0 < xs.length → ∃ b o, A = some ⟨b, o, none⟩ ∧ b < B ∧ ∀ k (h : k < xs.length), ∃ u0 u1 u2,
    w.cell? ⟨b, o + k * 3, none⟩ = some u0 ∧ w.cell? ⟨b, o + k * 3 + 1, none⟩ = some u1 ∧ w.cell? ⟨b, o + k * 3 + 2, none⟩ = some u2 ∧ Q w B u0 u1 u2 xs[k])

variable {Q : World → Nat → Value → Value → Value → α → Prop}
theorem RdRow.below {w w' : World} {B B' : Nat} {v : Value} {xs : List α} (hQ : ∀ u0 u1 u2 x, Q w B u0 u1 u2 x → Q w' B u0 u1 u2 x) (h : RdRow Q w B v xs) (hb : Below B' w w') (hB : B ≤ B') : RdRow Q w' B v xs := by
  obtain ⟨A, c, rfl, hc, h⟩ := h
  refine ⟨A, c, rfl, hc, fun hn => ?_⟩
  obtain ⟨b, o, rfl, hlt, hk⟩ := h hn
  refine ⟨b, o, rfl, hlt, fun k hkl => ?_⟩
  obtain ⟨u0, u1, u2, h0, h1, h2, h3⟩ := hk k hkl
  exact ⟨u0, u1, u2, (hb.cell (p := ⟨b, o + k * 3, none⟩) (by show b < B'; omega)).trans h0, (hb.cell (p := ⟨b, o + k * 3 + 1, none⟩) (by show b < B'; omega)).trans h1,
    (hb.cell (p := ⟨b, o + k * 3 + 2, none⟩) (by show b < B'; omega)).trans h2, hQ _ _ _ _ h3⟩
theorem RdRow.more {w : World} {B B' : Nat} {v : Value} {xs : List α} (hQ : ∀ u0 u1 u2 x, Q w B u0 u1 u2 x → Q w B' u0 u1 u2 x) (h : RdRow Q w B v xs) (hB : B ≤ B') : RdRow Q w B' v xs := by
  obtain ⟨A, c, rfl, hc, h⟩ := h
  refine ⟨A, c, rfl, hc, fun hn => ?_⟩
  obtain ⟨b, o, rfl, hlt, hk⟩ := h hn
  refine ⟨b, o, rfl, by omega, fun k hkl => ?_⟩
  obtain ⟨u0, u1, u2, h0, h1, h2, h3⟩ := hk k hkl
  exact ⟨u0, u1, u2, h0, h1, h2, hQ _ _ _ _ h3⟩
/-- One element, as a walk reads it. -/
theorem RdRow.get {w : World} {B c : Nat} {A : Option Addr} {xs : List α} (h : RdRow Q w B (.slice A xs.length c) xs) {k : Nat} (hk : k < xs.length) : ∃ b o u0 u1 u2, A = some ⟨b, o, none⟩ ∧ b < B ∧
    w.cell? ⟨b, o + k * 3, none⟩ = some u0 ∧ w.cell? ⟨b, o + k * 3 + 1, none⟩ = some u1 ∧ w.cell? ⟨b, o + k * 3 + 2, none⟩ = some u2 ∧ Q w B u0 u1 u2 xs[k] := by
  obtain ⟨A', c', e, hc, h⟩ := h
  injection e with e1 e2 e3
  subst e1
  obtain ⟨b, o, rfl, hb, hx⟩ := h (by omega)
  obtain ⟨u0, u1, u2, h0, h1, h2, h3⟩ := hx k hk
  exact ⟨b, o, u0, u1, u2, rfl, hb, h0, h1, h2, h3⟩

/-- A row of the call's own, of blocks from lo on and below hi, that may be written. -/
def OwnRow (Q : World → Nat → Nat → Value → Value → Value → α → Prop) (w : World) (lo hi : Nat) (v : Value) (xs : List α) : Prop :=
  ∃ A c, v = .slice A xs.length c ∧ xs.length ≤ c ∧ (0 < xs.length → ∃ b o, A = some ⟨b, o, none⟩ ∧ lo ≤ b ∧ b < hi ∧ ∀ k (h : k < xs.length),
    (w.frozen? ⟨b, o + k * 3, none⟩ = false ∧ w.frozen? ⟨b, o + k * 3 + 1, none⟩ = false) ∧ ∃ u0 u1 u2,
    w.cell? ⟨b, o + k * 3, none⟩ = some u0 ∧ w.cell? ⟨b, o + k * 3 + 1, none⟩ = some u1 ∧ w.cell? ⟨b, o + k * 3 + 2, none⟩ = some u2 ∧ Q w lo hi u0 u1 u2 xs[k])

variable {O : World → Nat → Nat → Value → Value → Value → α → Prop}
theorem OwnRow.keep {w w' : World} {lo hi : Nat} {v : Value} {xs : List α} (hQ : ∀ u0 u1 u2 x, O w lo hi u0 u1 u2 x → O w' lo hi u0 u1 u2 x) (h : OwnRow O w lo hi v xs) (hk : ∀ g, lo ≤ g → g < hi → w'.heap[g]? = w.heap[g]?) : OwnRow O w' lo hi v xs := by
  obtain ⟨A, c, rfl, hc, h⟩ := h
  refine ⟨A, c, rfl, hc, fun hn => ?_⟩
  obtain ⟨b, o, rfl, h1, h2, hx⟩ := h hn
  refine ⟨b, o, rfl, h1, h2, fun k hkl => ?_⟩
  obtain ⟨⟨f0, f1⟩, u0, u1, u2, c0, c1, c2, hq⟩ := hx k hkl
  have hb := hk b h1 h2
  exact ⟨⟨(World.frozen?_of_block (w := w) hb).trans f0, (World.frozen?_of_block (w := w) hb).trans f1⟩, u0, u1, u2, (World.cell?_of_block (w := w) hb).trans c0, (World.cell?_of_block (w := w) hb).trans c1, (World.cell?_of_block (w := w) hb).trans c2, hQ _ _ _ _ hq⟩
theorem OwnRow.mono {w : World} {lo hi lo' hi' : Nat} {v : Value} {xs : List α} (hQ : ∀ u0 u1 u2 x, O w lo hi u0 u1 u2 x → O w lo' hi' u0 u1 u2 x) (h : OwnRow O w lo hi v xs) (h1 : lo' ≤ lo) (h2 : hi ≤ hi') : OwnRow O w lo' hi' v xs := by
  obtain ⟨A, c, rfl, hc, h⟩ := h
  refine ⟨A, c, rfl, hc, fun hn => ?_⟩
  obtain ⟨b, o, rfl, h3, h4, hx⟩ := h hn
  refine ⟨b, o, rfl, by omega, by omega, fun k hkl => ?_⟩
  obtain ⟨f, u0, u1, u2, c0, c1, c2, hq⟩ := hx k hkl
  exact ⟨f, u0, u1, u2, c0, c1, c2, hQ _ _ _ _ hq⟩
theorem OwnRow.rd {w : World} {lo hi : Nat} {v : Value} {xs : List α} (hQ : ∀ u0 u1 u2 x, O w lo hi u0 u1 u2 x → Q w hi u0 u1 u2 x) (h : OwnRow O w lo hi v xs) : RdRow Q w hi v xs := by
  obtain ⟨A, c, rfl, hc, h⟩ := h
  refine ⟨A, c, rfl, hc, fun hn => ?_⟩
  obtain ⟨b, o, rfl, h3, h4, hx⟩ := h hn
  refine ⟨b, o, rfl, h4, fun k hkl => ?_⟩
  obtain ⟨f, u0, u1, u2, c0, c1, c2, hq⟩ := hx k hkl
  exact ⟨u0, u1, u2, c0, c1, c2, hQ _ _ _ _ hq⟩
theorem OwnRow.form {w : World} {lo hi : Nat} {v : Value} {xs : List α} (h : OwnRow O w lo hi v xs) : ∃ A c, v = .slice A xs.length c := by
  obtain ⟨A, c, rfl, _⟩ := h
  exact ⟨A, c, rfl⟩

/-- What holds at the loop that fills a row that make laid: k elements are there. -/
structure ToRow (t : TypeId) (z0 z1 z2 : Value) (O : World → Nat → Nat → Value → Value → Value → α → Prop) (w wr : World) (xs : List α) (k : Nat) : Prop where
  row : ∃ cur : Array Value, Blk wr w.heap.size t cur ∧ (∀ j, j < k → ∀ hx : j < xs.length, ∃ u0 u1 u2, cur[j * 3]? = some u0 ∧ cur[j * 3 + 1]? = some u1 ∧ cur[j * 3 + 2]? = some u2 ∧ O wr (w.heap.size + 1) wr.heap.size u0 u1 u2 xs[j]) ∧
    (∀ j, k ≤ j → j < xs.length → cur[j * 3]? = some z0 ∧ cur[j * 3 + 1]? = some z1 ∧ cur[j * 3 + 2]? = some z2)
  below : Below w.heap.size w wr
  size : w.heap.size + 1 ≤ wr.heap.size

variable {t : TypeId} {z0 z1 z2 : Value}
theorem ToRow.start (w : World) (xs : List α) : ToRow t z0 z1 z2 O w (w.alloc (.cells (madeCells #[z0, z1, z2] (xs.length * 3)) t)) xs 0 :=
  ⟨⟨_, Blk.new _ _ _, fun j hj => absurd hj (by omega), fun j _ hj => by
    have e0 : j * 3 % 3 = 0 := by omega
    have e1 : (j * 3 + 1) % 3 = 1 := by omega
    have e2 : (j * 3 + 2) % 3 = 2 := by omega
    have l0 : j * 3 < xs.length * 3 := by omega
    have l1 : j * 3 + 1 < xs.length * 3 := by omega
    have l2 : j * 3 + 2 < xs.length * 3 := by omega
    simp [madeCells, e0, e1, e2, l0, l1, l2]⟩, below1 _ _, by simp⟩

/-- The cells that the next element will take. -/
theorem ToRow.room {w wr : World} {xs : List α} {k : Nat} (hr : ToRow t z0 z1 z2 O w wr xs k) (hlt : k < xs.length) {w4 : World} (hb : Below wr.heap.size wr w4) :
    w4.cell? ⟨w.heap.size, k * 3, none⟩ = some z0 ∧ w4.cell? ⟨w.heap.size, k * 3 + 1, none⟩ = some z1 ∧ w4.cell? ⟨w.heap.size, k * 3 + 2, none⟩ = some z2 ∧
    w4.frozen? ⟨w.heap.size, k * 3, none⟩ = false ∧ w4.frozen? ⟨w.heap.size, k * 3 + 1, none⟩ = false ∧ w4.frozen? ⟨w.heap.size, k * 3 + 2, none⟩ = false := by
  obtain ⟨⟨cur, hB, _, hz⟩, hbe, hsz⟩ := hr
  have hB4 := hB.below hb (by omega)
  obtain ⟨c0, c1, c2⟩ := hz k (Nat.le_refl _) hlt
  exact ⟨(hB4.cell _).trans c0, (hB4.cell _).trans c1, (hB4.cell _).trans c2, hB4.frozen _, hB4.frozen _, hB4.frozen _⟩

theorem ToRow.step (keep : ∀ {w w' : World} {lo hi : Nat} {u0 u1 u2 : Value} {x : α}, O w lo hi u0 u1 u2 x → (∀ g, lo ≤ g → g < hi → w'.heap[g]? = w.heap[g]?) → O w' lo hi u0 u1 u2 x)
    (mono : ∀ {w : World} {lo hi lo' hi' : Nat} {u0 u1 u2 : Value} {x : α}, O w lo hi u0 u1 u2 x → lo' ≤ lo → hi ≤ hi' → O w lo' hi' u0 u1 u2 x)
    {w wr : World} {xs : List α} {k : Nat} (hr : ToRow t z0 z1 z2 O w wr xs k) (hlt : k < xs.length) {w4 : World} (hb : Below wr.heap.size wr w4) {u0 u1 u2 : Value}
    (ha : O w4 wr.heap.size w4.heap.size u0 u1 u2 xs[k]) : ToRow t z0 z1 z2 O w (((w4.setCell ⟨w.heap.size, k * 3, none⟩ u0).setCell ⟨w.heap.size, k * 3 + 1, none⟩ u1).setCell ⟨w.heap.size, k * 3 + 2, none⟩ u2) xs (k + 1) := by
  obtain ⟨⟨cur, hB, hd, hz⟩, hbe, hsz⟩ := hr
  have hB4 := hB.below hb (by omega)
  have hs4 := hb.size
  have hsame : ∀ g, w.heap.size + 1 ≤ g → (((w4.setCell ⟨w.heap.size, k * 3, none⟩ u0).setCell ⟨w.heap.size, k * 3 + 1, none⟩ u1).setCell ⟨w.heap.size, k * 3 + 2, none⟩ u2).heap[g]? = w4.heap[g]? := fun g hg => by
    rw [Below.heap_setCell _ _ _ _ (by show g ≠ w.heap.size; omega), Below.heap_setCell _ _ _ _ (by show g ≠ w.heap.size; omega), Below.heap_setCell _ _ _ _ (by show g ≠ w.heap.size; omega)]
  have hsz5 : (((w4.setCell ⟨w.heap.size, k * 3, none⟩ u0).setCell ⟨w.heap.size, k * 3 + 1, none⟩ u1).setCell ⟨w.heap.size, k * 3 + 2, none⟩ u2).heap.size = w4.heap.size := by simp
  refine ⟨⟨_, ((hB4.set_ _ _).set_ _ _).set_ _ _, fun j hj hx => ?_, fun j hj hx => ?_⟩, (((hbe.trans (hb.mono hbe.size)).setCell (Nat.le_refl _) _).setCell (Nat.le_refl _) _).setCell (Nat.le_refl _) _, by rw [hsz5]; omega⟩
  · rw [hsz5]
    by_cases e : j = k
    · subst e
      obtain ⟨c0, c1, c2⟩ := hz j (Nat.le_refl _) hx
      have g0 := (Array.getElem?_eq_some_iff.1 c0).1
      have g1 := (Array.getElem?_eq_some_iff.1 c1).1
      have g2 := (Array.getElem?_eq_some_iff.1 c2).1
      refine ⟨u0, u1, u2, ?_, ?_, ?_, keep (mono ha (by omega) (Nat.le_refl _)) fun g h1 _ => hsame g h1⟩
      · simp [g0]
      · simp [g1]
      · simp [g2]
    · obtain ⟨v0, v1, v2, c0, c1, c2, hq⟩ := hd j (by omega) hx
      refine ⟨v0, v1, v2, ?_, ?_, ?_, keep (mono (keep hq fun g _ h2 => hb.block g h2) (Nat.le_refl _) hs4) fun g h1 _ => hsame g h1⟩
      · rw [Array.getElem?_setIfInBounds_ne (by omega), Array.getElem?_setIfInBounds_ne (by omega), Array.getElem?_setIfInBounds_ne (by omega)]; exact c0
      · rw [Array.getElem?_setIfInBounds_ne (by omega), Array.getElem?_setIfInBounds_ne (by omega), Array.getElem?_setIfInBounds_ne (by omega)]; exact c1
      · rw [Array.getElem?_setIfInBounds_ne (by omega), Array.getElem?_setIfInBounds_ne (by omega), Array.getElem?_setIfInBounds_ne (by omega)]; exact c2
  · obtain ⟨c0, c1, c2⟩ := hz j (by omega) hx
    refine ⟨?_, ?_, ?_⟩
    · rw [Array.getElem?_setIfInBounds_ne (by omega), Array.getElem?_setIfInBounds_ne (by omega), Array.getElem?_setIfInBounds_ne (by omega)]; exact c0
    · rw [Array.getElem?_setIfInBounds_ne (by omega), Array.getElem?_setIfInBounds_ne (by omega), Array.getElem?_setIfInBounds_ne (by omega)]; exact c1
    · rw [Array.getElem?_setIfInBounds_ne (by omega), Array.getElem?_setIfInBounds_ne (by omega), Array.getElem?_setIfInBounds_ne (by omega)]; exact c2

theorem ToRow.done (mono : ∀ {w : World} {lo hi lo' hi' : Nat} {u0 u1 u2 : Value} {x : α}, O w lo hi u0 u1 u2 x → lo' ≤ lo → hi ≤ hi' → O w lo' hi' u0 u1 u2 x)
    {w wr : World} {xs : List α} (hr : ToRow t z0 z1 z2 O w wr xs xs.length) : OwnRow O wr w.heap.size wr.heap.size (.slice (some ⟨w.heap.size, 0, none⟩) xs.length xs.length) xs := by
  obtain ⟨⟨cur, hB, hd, _⟩, hbe, hsz⟩ := hr
  refine ⟨_, _, rfl, Nat.le_refl _, fun _ => ⟨_, _, rfl, Nat.le_refl _, by omega, fun k hk => ⟨⟨hB.frozen _, hB.frozen _⟩, ?_⟩⟩⟩
  obtain ⟨u0, u1, u2, c0, c1, c2, hq⟩ := hd k hk hk
  simp only [Nat.zero_add]
  exact ⟨u0, u1, u2, (hB.cell _).trans c0, (hB.cell _).trans c1, (hB.cell _).trans c2, mono hq (by omega) (Nat.le_refl _)⟩
end

theorem OwnInts.keep {w w' : World} {lo hi : Nat} {v : Value} {xs : List Int} (h : OwnInts w lo hi v xs) (hk : ∀ g, lo ≤ g → g < hi → w'.heap[g]? = w.heap[g]?) : OwnInts w' lo hi v xs := by
  have hlo := fun g hg => (h.1.lt g hg).1
  obtain ⟨⟨hlen, h⟩, hlt⟩ := h
  refine ⟨⟨hlen, ?_⟩, hlt⟩
  rcases h with h | ⟨g, cap, cur, rfl, hbg, hg, r⟩
  · exact .inl h
  · exact .inr ⟨g, cap, cur, rfl, hbg, by rw [hk g hbg (hlt g rfl)]; exact hg, r⟩

/-! ### Literals -/
def QLit (w : World) (B : Nat) (u0 u1 u2 : Value) (l : LLit) : Prop := u0 = .int .i64 l.1 ∧ u1 = .int .i64 l.2.1 ∧ RdInts w B u2 l.2.2
def RdLits (w : World) (B : Nat) (v : Value) (ls : List LLit) : Prop := RdRow QLit w B v ls
def RdLit (w : World) (B : Nat) (v : Value) (l : LLit) : Prop := ∃ a, v = .agg #[.int .i64 l.1, .int .i64 l.2.1, a] ∧ RdInts w B a l.2.2
def OLit (w : World) (lo hi : Nat) (u0 u1 u2 : Value) (l : LLit) : Prop := u0 = .int .i64 l.1 ∧ u1 = .int .i64 l.2.1 ∧ OwnInts w lo hi u2 l.2.2
def OwnLits (w : World) (lo hi : Nat) (v : Value) (ls : List LLit) : Prop := OwnRow OLit w lo hi v ls

theorem QLit.below {w w' : World} {B B' : Nat} {u0 u1 u2 : Value} {l : LLit} (h : QLit w B u0 u1 u2 l) (hb : Below B' w w') (hB : B ≤ B') : QLit w' B u0 u1 u2 l := ⟨h.1, h.2.1, h.2.2.below hb hB⟩
theorem QLit.more {w : World} {B B' : Nat} {u0 u1 u2 : Value} {l : LLit} (h : QLit w B u0 u1 u2 l) (hB : B ≤ B') : QLit w B' u0 u1 u2 l := ⟨h.1, h.2.1, h.2.2.more hB⟩
theorem RdLits.below {w w' : World} {B B' : Nat} {v : Value} {ls : List LLit} (h : RdLits w B v ls) (hb : Below B' w w') (hB : B ≤ B') : RdLits w' B v ls := RdRow.below (fun _ _ _ _ q => q.below hb hB) h hb hB
theorem RdLits.more {w : World} {B B' : Nat} {v : Value} {ls : List LLit} (h : RdLits w B v ls) (hB : B ≤ B') : RdLits w B' v ls := RdRow.more (fun _ _ _ _ q => q.more hB) h hB
theorem RdLits.on {w w' : World} {v : Value} {ls : List LLit} (h : RdLits w w.heap.size v ls) (hb : Below w.heap.size w w') : RdLits w' w'.heap.size v ls := (h.below hb (Nat.le_refl _)).more hb.size
theorem RdLit.on {w w' : World} {v : Value} {l : LLit} (h : RdLit w w.heap.size v l) (hb : Below w.heap.size w w') : RdLit w' w'.heap.size v l := by
  obtain ⟨a, rfl, h⟩ := h
  exact ⟨a, rfl, h.on hb⟩
theorem OLit.keep {w w' : World} {lo hi : Nat} {u0 u1 u2 : Value} {l : LLit} (h : OLit w lo hi u0 u1 u2 l) (hk : ∀ g, lo ≤ g → g < hi → w'.heap[g]? = w.heap[g]?) : OLit w' lo hi u0 u1 u2 l := ⟨h.1, h.2.1, h.2.2.keep hk⟩
theorem OLit.mono {w : World} {lo hi lo' hi' : Nat} {u0 u1 u2 : Value} {l : LLit} (h : OLit w lo hi u0 u1 u2 l) (h1 : lo' ≤ lo) (h2 : hi ≤ hi') : OLit w lo' hi' u0 u1 u2 l := ⟨h.1, h.2.1, h.2.2.mono h1 h2⟩
theorem OwnLits.keep {w w' : World} {lo hi : Nat} {v : Value} {ls : List LLit} (h : OwnLits w lo hi v ls) (hk : ∀ g, lo ≤ g → g < hi → w'.heap[g]? = w.heap[g]?) : OwnLits w' lo hi v ls := OwnRow.keep (fun _ _ _ _ q => q.keep hk) h hk
theorem OwnLits.mono {w : World} {lo hi lo' hi' : Nat} {v : Value} {ls : List LLit} (h : OwnLits w lo hi v ls) (h1 : lo' ≤ lo) (h2 : hi ≤ hi') : OwnLits w lo' hi' v ls := OwnRow.mono (fun _ _ _ _ q => q.mono h1 h2) h h1 h2
theorem OwnLits.rd {w : World} {lo hi : Nat} {v : Value} {ls : List LLit} (h : OwnLits w lo hi v ls) : RdLits w hi v ls := OwnRow.rd (fun _ _ _ _ q => ⟨q.1, q.2.1, q.2.2.rd⟩) h
theorem OwnLits.below {w w' : World} {lo hi B : Nat} {v : Value} {ls : List LLit} (h : OwnLits w lo hi v ls) (hb : Below B w w') (hB : hi ≤ B) : OwnLits w' lo hi v ls := h.keep fun g _ h2 => hb.block g (by omega)
theorem OwnLits.only {w w' : World} {lo hi lo' hi' : Nat} {v : Value} {ls : List LLit} (h : OwnLits w lo hi v ls) (ho : Only lo' hi' w w') (hd : hi ≤ lo' ∨ hi' ≤ lo) (hh : hi ≤ w.heap.size) : OwnLits w' lo hi v ls :=
  h.keep fun g h1 h2 => ho.block g (by omega) (by omega)

/-! ### Rules -/
def QRule (w : World) (B : Nat) (u0 u1 u2 : Value) (r : LRule) : Prop := u0 = .int .i64 r.1.1 ∧ RdInts w B u1 r.1.2 ∧ RdLits w B u2 r.2
def RdRules (w : World) (B : Nat) (v : Value) (rs : List LRule) : Prop := RdRow QRule w B v rs
def RdRule (w : World) (B : Nat) (v : Value) (r : LRule) : Prop := ∃ a b, v = .agg #[.int .i64 r.1.1, a, b] ∧ RdInts w B a r.1.2 ∧ RdLits w B b r.2
def ORule (w : World) (lo hi : Nat) (u0 u1 u2 : Value) (r : LRule) : Prop := u0 = .int .i64 r.1.1 ∧ OwnInts w lo hi u1 r.1.2 ∧ OwnLits w lo hi u2 r.2
def OwnRules (w : World) (lo hi : Nat) (v : Value) (rs : List LRule) : Prop := OwnRow ORule w lo hi v rs

theorem QRule.below {w w' : World} {B B' : Nat} {u0 u1 u2 : Value} {r : LRule} (h : QRule w B u0 u1 u2 r) (hb : Below B' w w') (hB : B ≤ B') : QRule w' B u0 u1 u2 r := ⟨h.1, h.2.1.below hb hB, h.2.2.below hb hB⟩
theorem QRule.more {w : World} {B B' : Nat} {u0 u1 u2 : Value} {r : LRule} (h : QRule w B u0 u1 u2 r) (hB : B ≤ B') : QRule w B' u0 u1 u2 r := ⟨h.1, h.2.1.more hB, h.2.2.more hB⟩
theorem RdRules.below {w w' : World} {B B' : Nat} {v : Value} {rs : List LRule} (h : RdRules w B v rs) (hb : Below B' w w') (hB : B ≤ B') : RdRules w' B v rs := RdRow.below (fun _ _ _ _ q => q.below hb hB) h hb hB
theorem RdRules.more {w : World} {B B' : Nat} {v : Value} {rs : List LRule} (h : RdRules w B v rs) (hB : B ≤ B') : RdRules w B' v rs := RdRow.more (fun _ _ _ _ q => q.more hB) h hB
theorem RdRules.on {w w' : World} {v : Value} {rs : List LRule} (h : RdRules w w.heap.size v rs) (hb : Below w.heap.size w w') : RdRules w' w'.heap.size v rs := (h.below hb (Nat.le_refl _)).more hb.size
theorem RdRule.on {w w' : World} {v : Value} {r : LRule} (h : RdRule w w.heap.size v r) (hb : Below w.heap.size w w') : RdRule w' w'.heap.size v r := by
  obtain ⟨a, b, rfl, h1, h2⟩ := h
  exact ⟨a, b, rfl, h1.on hb, h2.on hb⟩
theorem ORule.keep {w w' : World} {lo hi : Nat} {u0 u1 u2 : Value} {r : LRule} (h : ORule w lo hi u0 u1 u2 r) (hk : ∀ g, lo ≤ g → g < hi → w'.heap[g]? = w.heap[g]?) : ORule w' lo hi u0 u1 u2 r := ⟨h.1, h.2.1.keep hk, h.2.2.keep hk⟩
theorem ORule.mono {w : World} {lo hi lo' hi' : Nat} {u0 u1 u2 : Value} {r : LRule} (h : ORule w lo hi u0 u1 u2 r) (h1 : lo' ≤ lo) (h2 : hi ≤ hi') : ORule w lo' hi' u0 u1 u2 r := ⟨h.1, h.2.1.mono h1 h2, h.2.2.mono h1 h2⟩
theorem OwnRules.keep {w w' : World} {lo hi : Nat} {v : Value} {rs : List LRule} (h : OwnRules w lo hi v rs) (hk : ∀ g, lo ≤ g → g < hi → w'.heap[g]? = w.heap[g]?) : OwnRules w' lo hi v rs := OwnRow.keep (fun _ _ _ _ q => q.keep hk) h hk
theorem OwnRules.mono {w : World} {lo hi lo' hi' : Nat} {v : Value} {rs : List LRule} (h : OwnRules w lo hi v rs) (h1 : lo' ≤ lo) (h2 : hi ≤ hi') : OwnRules w lo' hi' v rs := OwnRow.mono (fun _ _ _ _ q => q.mono h1 h2) h h1 h2
theorem OwnRules.rd {w : World} {lo hi : Nat} {v : Value} {rs : List LRule} (h : OwnRules w lo hi v rs) : RdRules w hi v rs := OwnRow.rd (fun _ _ _ _ q => ⟨q.1, q.2.1.rd, q.2.2.rd⟩) h

/-! ### How much there is -/
/-- How many integers literals have together. -/
def totL (ls : List LLit) : Nat := (ls.map fun l => l.2.2.length).sum
/-- What szRule counts of a rule. -/
def szR (r : LRule) : Nat := r.1.2.length + (r.2.length + totL r.2)
def totR (rs : List LRule) : Nat := (rs.map szR).sum
theorem sum_at {α : Type} (f : α → Nat) : ∀ (l : List α) (k : Nat) (h : k < l.length), f l[k] ≤ (l.map f).sum
  | [], _, h => absurd h (by simp)
  | x :: l, 0, _ => by simp
  | x :: l, k + 1, h => by
    have := sum_at f l k (by simpa using h)
    simp only [List.map_cons, List.sum_cons, List.getElem_cons_succ] at this ⊢
    omega
theorem sum_take {α : Type} (f : α → Nat) (l : List α) (k : Nat) (h : k < l.length) : ((l.take (k + 1)).map f).sum = ((l.take k).map f).sum + f l[k] := by
  rw [take_snoc l k h, List.map_append, List.sum_append]
  simp
theorem len_le_totL (ls : List LLit) (k : Nat) (h : k < ls.length) : ls[k].2.2.length ≤ totL ls := sum_at (fun l : LLit => l.2.2.length) ls k h
theorem totL_take (ls : List LLit) (k : Nat) (h : k < ls.length) : totL (ls.take (k + 1)) = totL (ls.take k) + ls[k].2.2.length := sum_take _ ls k h
theorem sz_le_totR (rs : List LRule) (k : Nat) (h : k < rs.length) : szR rs[k] ≤ totR rs := sum_at szR rs k h
theorem totR_take (rs : List LRule) (k : Nat) (h : k < rs.length) : totR (rs.take (k + 1)) = totR (rs.take k) + szR rs[k] := sum_take _ rs k h

end Go.Proofs.Ytehjhdihaloalaa
