/-
  Texts that the claim's last one imports, laid together: part 3 of 12. No condition of its own.
-/
import Derived.StillTailTactics
import Derived.Deep.QuietTactic
import Derived.BigQuiet
import Derived.Test.YtokmmloakahkhaaGreatChecked
import Derived.ProofKit
import Derived.OpenShut
import Derived.ChangeOld
import Derived.WalkKit
import Derived.Deep.Slices
import Derived.Deep.Fields
import Derived.ChangeSame
import Derived.Lib.SmallJoins
import Derived.KernelRfl
import Derived.Deep.Quiet
import Derived.Laws.BitsAllLaws
import Derived.Maps.AppendAt
import Derived.Deep.AppendLies
import Derived.Deep.DeepCutAuto
import Derived.Test.YtokmmloakahkhaaGreatMSs1
import Derived.Test.YtokmmloakahkhaaGreatMSs2
/-
  Rows of elements of three cells (literals, rules): what a slice of them reads as, rows of the call's own, and the loop that makes and fills one. No walk.
-/
namespace Go.Proofs.YtokmmloakahkhaaGreat
open Go.RowKit

/-- A literal: its kind, its atom. -/
abbrev LLit := Int × LFact
/-- A rule: its head, its body. -/
abbrev LRule := LFact × List LLit

section
variable {α : Type}

/-- The slice value v reads as the elements xs, each of three cells that read as Q says, in blocks below B. -/
def RdRow (Q : World → Nat → Value → Value → Value → α → Prop) (w : World) (B : Nat) (v : Value) (xs : List α) : Prop :=
  ∃ A c, v = .slice A xs.length c ∧ xs.length ≤ c ∧ (0 < xs.length → ∃ b o, A = some ⟨b, o, none⟩ ∧ b < B ∧ ∀ k (h : k < xs.length), ∃ u0 u1 u2,
    w.cell? ⟨b, o + k * 3, none⟩ = some u0 ∧ w.cell? ⟨b, o + k * 3 + 1, none⟩ = some u1 ∧ w.cell? ⟨b, o + k * 3 + 2, none⟩ = some u2 ∧ Q w B u0 u1 u2 xs[k])

variable {Q : World → Nat → Value → Value → Value → α → Prop}
theorem RdRow.below {w w' : World} {B B' : Nat} {v : Value} {xs : List α} (hQ : ∀ u0 u1 u2 x, Q w B u0 u1 u2 x → Q w' B u0 u1 u2 x) (h : RdRow Q w B v xs) (hb : Below B' w w') (hB : B ≤ B') : RdRow Q w' B v xs := by
  obtain ⟨A, c, rfl, hc, h⟩ := h
  refine ⟨A, c, rfl, hc, fun hn => ?_⟩
  obtain ⟨b, o, rfl, hlt, hk⟩ := h hn
  refine ⟨b, o, rfl, hlt, fun k hkl => ?_⟩
  obtain ⟨u0, u1, u2, h0, h1, h2, h3⟩ := hk k hkl
  exact ⟨u0, u1, u2, (hb.cell (p := ⟨b, o + k * 3, none⟩) (by show b < B'; omega)).trans h0, (hb.cell (p := ⟨b, o + k * 3 + 1, none⟩) (by show b < B'; omega)).trans h1,
    (hb.cell (p := ⟨b, o + k * 3 + 2, none⟩) (by show b < B'; omega)).trans h2, hQ _ _ _ _ h3⟩
theorem RdRow.more {w : World} {B B' : Nat} {v : Value} {xs : List α} (hQ : ∀ u0 u1 u2 x, Q w B u0 u1 u2 x → Q w B' u0 u1 u2 x) (h : RdRow Q w B v xs) (hB : B ≤ B') : RdRow Q w B' v xs := by
  obtain ⟨A, c, rfl, hc, h⟩ := h
  refine ⟨A, c, rfl, hc, fun hn => ?_⟩
  obtain ⟨b, o, rfl, hlt, hk⟩ := h hn
  refine ⟨b, o, rfl, by omega, fun k hkl => ?_⟩
  obtain ⟨u0, u1, u2, h0, h1, h2, h3⟩ := hk k hkl
  exact ⟨u0, u1, u2, h0, h1, h2, hQ _ _ _ _ h3⟩
/-- One element, as a walk reads it. -/
theorem RdRow.get {w : World} {B c : Nat} {A : Option Addr} {xs : List α} (h : RdRow Q w B (.slice A xs.length c) xs) {k : Nat} (hk : k < xs.length) : ∃ b o u0 u1 u2, A = some ⟨b, o, none⟩ ∧ b < B ∧
    w.cell? ⟨b, o + k * 3, none⟩ = some u0 ∧ w.cell? ⟨b, o + k * 3 + 1, none⟩ = some u1 ∧ w.cell? ⟨b, o + k * 3 + 2, none⟩ = some u2 ∧ Q w B u0 u1 u2 xs[k] := by
  obtain ⟨A', c', e, hc, h⟩ := h
  injection e with e1 e2 e3
  subst e1
  obtain ⟨b, o, rfl, hb, hx⟩ := h (by omega)
  obtain ⟨u0, u1, u2, h0, h1, h2, h3⟩ := hx k hk
  exact ⟨b, o, u0, u1, u2, rfl, hb, h0, h1, h2, h3⟩

/-- A row of the call's own, of blocks from lo on and below hi, that may be written. -/
def OwnRow (Q : World → Nat → Nat → Value → Value → Value → α → Prop) (w : World) (lo hi : Nat) (v : Value) (xs : List α) : Prop :=
  ∃ A c, v = .slice A xs.length c ∧ xs.length ≤ c ∧ (0 < xs.length → ∃ b o, A = some ⟨b, o, none⟩ ∧ lo ≤ b ∧ b < hi ∧ ∀ k (h : k < xs.length),
    (w.frozen? ⟨b, o + k * 3, none⟩ = false ∧ w.frozen? ⟨b, o + k * 3 + 1, none⟩ = false) ∧ ∃ u0 u1 u2,
    w.cell? ⟨b, o + k * 3, none⟩ = some u0 ∧ w.cell? ⟨b, o + k * 3 + 1, none⟩ = some u1 ∧ w.cell? ⟨b, o + k * 3 + 2, none⟩ = some u2 ∧ Q w lo hi u0 u1 u2 xs[k])

variable {O : World → Nat → Nat → Value → Value → Value → α → Prop}
theorem OwnRow.keep {w w' : World} {lo hi : Nat} {v : Value} {xs : List α} (hQ : ∀ u0 u1 u2 x, O w lo hi u0 u1 u2 x → O w' lo hi u0 u1 u2 x) (h : OwnRow O w lo hi v xs) (hk : ∀ g, lo ≤ g → g < hi → w'.heap[g]? = w.heap[g]?) : OwnRow O w' lo hi v xs := by
  obtain ⟨A, c, rfl, hc, h⟩ := h
  refine ⟨A, c, rfl, hc, fun hn => ?_⟩
  obtain ⟨b, o, rfl, h1, h2, hx⟩ := h hn
  refine ⟨b, o, rfl, h1, h2, fun k hkl => ?_⟩
  obtain ⟨⟨f0, f1⟩, u0, u1, u2, c0, c1, c2, hq⟩ := hx k hkl
  have hb := hk b h1 h2
  exact ⟨⟨(World.frozen?_of_block (w := w) hb).trans f0, (World.frozen?_of_block (w := w) hb).trans f1⟩, u0, u1, u2, (World.cell?_of_block (w := w) hb).trans c0, (World.cell?_of_block (w := w) hb).trans c1, (World.cell?_of_block (w := w) hb).trans c2, hQ _ _ _ _ hq⟩
theorem OwnRow.mono {w : World} {lo hi lo' hi' : Nat} {v : Value} {xs : List α} (hQ : ∀ u0 u1 u2 x, O w lo hi u0 u1 u2 x → O w lo' hi' u0 u1 u2 x) (h : OwnRow O w lo hi v xs) (h1 : lo' ≤ lo) (h2 : hi ≤ hi') : OwnRow O w lo' hi' v xs := by
  obtain ⟨A, c, rfl, hc, h⟩ := h
  refine ⟨A, c, rfl, hc, fun hn => ?_⟩
  obtain ⟨b, o, rfl, h3, h4, hx⟩ := h hn
  refine ⟨b, o, rfl, by omega, by omega, fun k hkl => ?_⟩
  obtain ⟨f, u0, u1, u2, c0, c1, c2, hq⟩ := hx k hkl
  exact ⟨f, u0, u1, u2, c0, c1, c2, hQ _ _ _ _ hq⟩
theorem OwnRow.rd {w : World} {lo hi : Nat} {v : Value} {xs : List α} (hQ : ∀ u0 u1 u2 x, O w lo hi u0 u1 u2 x → Q w hi u0 u1 u2 x) (h : OwnRow O w lo hi v xs) : RdRow Q w hi v xs := by
  obtain ⟨A, c, rfl, hc, h⟩ := h
  refine ⟨A, c, rfl, hc, fun hn => ?_⟩
  obtain ⟨b, o, rfl, h3, h4, hx⟩ := h hn
  refine ⟨b, o, rfl, h4, fun k hkl => ?_⟩
  obtain ⟨f, u0, u1, u2, c0, c1, c2, hq⟩ := hx k hkl
  exact ⟨u0, u1, u2, c0, c1, c2, hQ _ _ _ _ hq⟩
theorem OwnRow.form {w : World} {lo hi : Nat} {v : Value} {xs : List α} (h : OwnRow O w lo hi v xs) : ∃ A c, v = .slice A xs.length c := by
  obtain ⟨A, c, rfl, _⟩ := h
  exact ⟨A, c, rfl⟩

/-- What holds at the loop that fills a row that make laid: k elements are there. -/
structure ToRow (t : TypeId) (z0 z1 z2 : Value) (O : World → Nat → Nat → Value → Value → Value → α → Prop) (w wr : World) (xs : List α) (k : Nat) : Prop where
  row : ∃ cur : Array Value, Blk wr w.heap.size t cur ∧ (∀ j, j < k → ∀ hx : j < xs.length, ∃ u0 u1 u2, cur[j * 3]? = some u0 ∧ cur[j * 3 + 1]? = some u1 ∧ cur[j * 3 + 2]? = some u2 ∧ O wr (w.heap.size + 1) wr.heap.size u0 u1 u2 xs[j]) ∧
    (∀ j, k ≤ j → j < xs.length → cur[j * 3]? = some z0 ∧ cur[j * 3 + 1]? = some z1 ∧ cur[j * 3 + 2]? = some z2)
  below : Below w.heap.size w wr
  size : w.heap.size + 1 ≤ wr.heap.size

variable {t : TypeId} {z0 z1 z2 : Value}
theorem ToRow.start (w : World) (xs : List α) : ToRow t z0 z1 z2 O w (w.alloc (.cells (madeCells #[z0, z1, z2] (xs.length * 3)) t)) xs 0 :=
  ⟨⟨_, Blk.new _ _ _, fun j hj => absurd hj (by omega), fun j _ hj => by
    have e0 : j * 3 % 3 = 0 := by omega
    have e1 : (j * 3 + 1) % 3 = 1 := by omega
    have e2 : (j * 3 + 2) % 3 = 2 := by omega
    have l0 : j * 3 < xs.length * 3 := by omega
    have l1 : j * 3 + 1 < xs.length * 3 := by omega
    have l2 : j * 3 + 2 < xs.length * 3 := by omega
    simp [madeCells, e0, e1, e2, l0, l1, l2]⟩, below1 _ _, by simp⟩

/-- The cells that the next element will take. -/
theorem ToRow.room {w wr : World} {xs : List α} {k : Nat} (hr : ToRow t z0 z1 z2 O w wr xs k) (hlt : k < xs.length) {w4 : World} (hb : Below wr.heap.size wr w4) :
    w4.cell? ⟨w.heap.size, k * 3, none⟩ = some z0 ∧ w4.cell? ⟨w.heap.size, k * 3 + 1, none⟩ = some z1 ∧ w4.cell? ⟨w.heap.size, k * 3 + 2, none⟩ = some z2 ∧
    w4.frozen? ⟨w.heap.size, k * 3, none⟩ = false ∧ w4.frozen? ⟨w.heap.size, k * 3 + 1, none⟩ = false ∧ w4.frozen? ⟨w.heap.size, k * 3 + 2, none⟩ = false := by
  obtain ⟨⟨cur, hB, _, hz⟩, hbe, hsz⟩ := hr
  have hB4 := hB.below hb (by omega)
  obtain ⟨c0, c1, c2⟩ := hz k (Nat.le_refl _) hlt
  exact ⟨(hB4.cell _).trans c0, (hB4.cell _).trans c1, (hB4.cell _).trans c2, hB4.frozen _, hB4.frozen _, hB4.frozen _⟩

theorem ToRow.step (keep : ∀ {w w' : World} {lo hi : Nat} {u0 u1 u2 : Value} {x : α}, O w lo hi u0 u1 u2 x → (∀ g, lo ≤ g → g < hi → w'.heap[g]? = w.heap[g]?) → O w' lo hi u0 u1 u2 x)
    (mono : ∀ {w : World} {lo hi lo' hi' : Nat} {u0 u1 u2 : Value} {x : α}, O w lo hi u0 u1 u2 x → lo' ≤ lo → hi ≤ hi' → O w lo' hi' u0 u1 u2 x)
    {w wr : World} {xs : List α} {k : Nat} (hr : ToRow t z0 z1 z2 O w wr xs k) (hlt : k < xs.length) {w4 : World} (hb : Below wr.heap.size wr w4) {u0 u1 u2 : Value}
    (ha : O w4 wr.heap.size w4.heap.size u0 u1 u2 xs[k]) : ToRow t z0 z1 z2 O w (((w4.setCell ⟨w.heap.size, k * 3, none⟩ u0).setCell ⟨w.heap.size, k * 3 + 1, none⟩ u1).setCell ⟨w.heap.size, k * 3 + 2, none⟩ u2) xs (k + 1) := by
  obtain ⟨⟨cur, hB, hd, hz⟩, hbe, hsz⟩ := hr
  have hB4 := hB.below hb (by omega)
  have hs4 := hb.size
  have hsame : ∀ g, w.heap.size + 1 ≤ g → (((w4.setCell ⟨w.heap.size, k * 3, none⟩ u0).setCell ⟨w.heap.size, k * 3 + 1, none⟩ u1).setCell ⟨w.heap.size, k * 3 + 2, none⟩ u2).heap[g]? = w4.heap[g]? := fun g hg => by
    rw [Below.heap_setCell _ _ _ _ (by show g ≠ w.heap.size; omega), Below.heap_setCell _ _ _ _ (by show g ≠ w.heap.size; omega), Below.heap_setCell _ _ _ _ (by show g ≠ w.heap.size; omega)]
  have hsz5 : (((w4.setCell ⟨w.heap.size, k * 3, none⟩ u0).setCell ⟨w.heap.size, k * 3 + 1, none⟩ u1).setCell ⟨w.heap.size, k * 3 + 2, none⟩ u2).heap.size = w4.heap.size := by simp
  refine ⟨⟨_, ((hB4.set_ _ _).set_ _ _).set_ _ _, fun j hj hx => ?_, fun j hj hx => ?_⟩, (((hbe.trans (hb.mono hbe.size)).setCell (Nat.le_refl _) _).setCell (Nat.le_refl _) _).setCell (Nat.le_refl _) _, by rw [hsz5]; omega⟩
  · rw [hsz5]
    by_cases e : j = k
    · subst e
      obtain ⟨c0, c1, c2⟩ := hz j (Nat.le_refl _) hx
      have g0 := (Array.getElem?_eq_some_iff.1 c0).1
      have g1 := (Array.getElem?_eq_some_iff.1 c1).1
      have g2 := (Array.getElem?_eq_some_iff.1 c2).1
      refine ⟨u0, u1, u2, ?_, ?_, ?_, keep (mono ha (by omega) (Nat.le_refl _)) fun g h1 _ => hsame g h1⟩
      · simp [g0]
      · simp [g1]
      · simp [g2]
    · obtain ⟨v0, v1, v2, c0, c1, c2, hq⟩ := hd j (by omega) hx
      refine ⟨v0, v1, v2, ?_, ?_, ?_, keep (mono (keep hq fun g _ h2 => hb.block g h2) (Nat.le_refl _) hs4) fun g h1 _ => hsame g h1⟩
      · rw [Array.getElem?_setIfInBounds_ne (by omega), Array.getElem?_setIfInBounds_ne (by omega), Array.getElem?_setIfInBounds_ne (by omega)]; exact c0
      · rw [Array.getElem?_setIfInBounds_ne (by omega), Array.getElem?_setIfInBounds_ne (by omega), Array.getElem?_setIfInBounds_ne (by omega)]; exact c1
      · rw [Array.getElem?_setIfInBounds_ne (by omega), Array.getElem?_setIfInBounds_ne (by omega), Array.getElem?_setIfInBounds_ne (by omega)]; exact c2
  · obtain ⟨c0, c1, c2⟩ := hz j (by omega) hx
    refine ⟨?_, ?_, ?_⟩
    · rw [Array.getElem?_setIfInBounds_ne (by omega), Array.getElem?_setIfInBounds_ne (by omega), Array.getElem?_setIfInBounds_ne (by omega)]; exact c0
    · rw [Array.getElem?_setIfInBounds_ne (by omega), Array.getElem?_setIfInBounds_ne (by omega), Array.getElem?_setIfInBounds_ne (by omega)]; exact c1
    · rw [Array.getElem?_setIfInBounds_ne (by omega), Array.getElem?_setIfInBounds_ne (by omega), Array.getElem?_setIfInBounds_ne (by omega)]; exact c2

theorem ToRow.done (mono : ∀ {w : World} {lo hi lo' hi' : Nat} {u0 u1 u2 : Value} {x : α}, O w lo hi u0 u1 u2 x → lo' ≤ lo → hi ≤ hi' → O w lo' hi' u0 u1 u2 x)
    {w wr : World} {xs : List α} (hr : ToRow t z0 z1 z2 O w wr xs xs.length) : OwnRow O wr w.heap.size wr.heap.size (.slice (some ⟨w.heap.size, 0, none⟩) xs.length xs.length) xs := by
  obtain ⟨⟨cur, hB, hd, _⟩, hbe, hsz⟩ := hr
  refine ⟨_, _, rfl, Nat.le_refl _, fun _ => ⟨_, _, rfl, Nat.le_refl _, by omega, fun k hk => ⟨⟨hB.frozen _, hB.frozen _⟩, ?_⟩⟩⟩
  obtain ⟨u0, u1, u2, c0, c1, c2, hq⟩ := hd k hk hk
  simp only [Nat.zero_add]
  exact ⟨u0, u1, u2, (hB.cell _).trans c0, (hB.cell _).trans c1, (hB.cell _).trans c2, mono hq (by omega) (Nat.le_refl _)⟩
end

theorem OwnInts.keep {w w' : World} {lo hi : Nat} {v : Value} {xs : List Int} (h : OwnInts w lo hi v xs) (hk : ∀ g, lo ≤ g → g < hi → w'.heap[g]? = w.heap[g]?) : OwnInts w' lo hi v xs := by
  have hlo := fun g hg => (h.1.lt g hg).1
  obtain ⟨⟨hlen, h⟩, hlt⟩ := h
  refine ⟨⟨hlen, ?_⟩, hlt⟩
  rcases h with h | ⟨g, cap, cur, rfl, hbg, hg, r⟩
  · exact .inl h
  · exact .inr ⟨g, cap, cur, rfl, hbg, by rw [hk g hbg (hlt g rfl)]; exact hg, r⟩

/-! ### Literals -/
def QLit (w : World) (B : Nat) (u0 u1 u2 : Value) (l : LLit) : Prop := u0 = .int .i64 l.1 ∧ u1 = .int .i64 l.2.1 ∧ RdInts w B u2 l.2.2
def RdLits (w : World) (B : Nat) (v : Value) (ls : List LLit) : Prop := RdRow QLit w B v ls
def RdLit (w : World) (B : Nat) (v : Value) (l : LLit) : Prop := ∃ a, v = .agg #[.int .i64 l.1, .int .i64 l.2.1, a] ∧ RdInts w B a l.2.2
def OLit (w : World) (lo hi : Nat) (u0 u1 u2 : Value) (l : LLit) : Prop := u0 = .int .i64 l.1 ∧ u1 = .int .i64 l.2.1 ∧ OwnInts w lo hi u2 l.2.2
def OwnLits (w : World) (lo hi : Nat) (v : Value) (ls : List LLit) : Prop := OwnRow OLit w lo hi v ls

theorem QLit.below {w w' : World} {B B' : Nat} {u0 u1 u2 : Value} {l : LLit} (h : QLit w B u0 u1 u2 l) (hb : Below B' w w') (hB : B ≤ B') : QLit w' B u0 u1 u2 l := ⟨h.1, h.2.1, h.2.2.below hb hB⟩
theorem QLit.more {w : World} {B B' : Nat} {u0 u1 u2 : Value} {l : LLit} (h : QLit w B u0 u1 u2 l) (hB : B ≤ B') : QLit w B' u0 u1 u2 l := ⟨h.1, h.2.1, h.2.2.more hB⟩
theorem RdLits.below {w w' : World} {B B' : Nat} {v : Value} {ls : List LLit} (h : RdLits w B v ls) (hb : Below B' w w') (hB : B ≤ B') : RdLits w' B v ls := RdRow.below (fun _ _ _ _ q => q.below hb hB) h hb hB
theorem RdLits.more {w : World} {B B' : Nat} {v : Value} {ls : List LLit} (h : RdLits w B v ls) (hB : B ≤ B') : RdLits w B' v ls := RdRow.more (fun _ _ _ _ q => q.more hB) h hB
theorem RdLits.on {w w' : World} {v : Value} {ls : List LLit} (h : RdLits w w.heap.size v ls) (hb : Below w.heap.size w w') : RdLits w' w'.heap.size v ls := (h.below hb (Nat.le_refl _)).more hb.size
theorem RdLit.on {w w' : World} {v : Value} {l : LLit} (h : RdLit w w.heap.size v l) (hb : Below w.heap.size w w') : RdLit w' w'.heap.size v l := by
  obtain ⟨a, rfl, h⟩ := h
  exact ⟨a, rfl, h.on hb⟩
theorem OLit.keep {w w' : World} {lo hi : Nat} {u0 u1 u2 : Value} {l : LLit} (h : OLit w lo hi u0 u1 u2 l) (hk : ∀ g, lo ≤ g → g < hi → w'.heap[g]? = w.heap[g]?) : OLit w' lo hi u0 u1 u2 l := ⟨h.1, h.2.1, h.2.2.keep hk⟩
theorem OLit.mono {w : World} {lo hi lo' hi' : Nat} {u0 u1 u2 : Value} {l : LLit} (h : OLit w lo hi u0 u1 u2 l) (h1 : lo' ≤ lo) (h2 : hi ≤ hi') : OLit w lo' hi' u0 u1 u2 l := ⟨h.1, h.2.1, h.2.2.mono h1 h2⟩
theorem OwnLits.keep {w w' : World} {lo hi : Nat} {v : Value} {ls : List LLit} (h : OwnLits w lo hi v ls) (hk : ∀ g, lo ≤ g → g < hi → w'.heap[g]? = w.heap[g]?) : OwnLits w' lo hi v ls := OwnRow.keep (fun _ _ _ _ q => q.keep hk) h hk
theorem OwnLits.mono {w : World} {lo hi lo' hi' : Nat} {v : Value} {ls : List LLit} (h : OwnLits w lo hi v ls) (h1 : lo' ≤ lo) (h2 : hi ≤ hi') : OwnLits w lo' hi' v ls := OwnRow.mono (fun _ _ _ _ q => q.mono h1 h2) h h1 h2
theorem OwnLits.rd {w : World} {lo hi : Nat} {v : Value} {ls : List LLit} (h : OwnLits w lo hi v ls) : RdLits w hi v ls := OwnRow.rd (fun _ _ _ _ q => ⟨q.1, q.2.1, q.2.2.rd⟩) h
theorem OwnLits.below {w w' : World} {lo hi B : Nat} {v : Value} {ls : List LLit} (h : OwnLits w lo hi v ls) (hb : Below B w w') (hB : hi ≤ B) : OwnLits w' lo hi v ls := h.keep fun g _ h2 => hb.block g (by omega)
theorem OwnLits.only {w w' : World} {lo hi lo' hi' : Nat} {v : Value} {ls : List LLit} (h : OwnLits w lo hi v ls) (ho : Only lo' hi' w w') (hd : hi ≤ lo' ∨ hi' ≤ lo) (hh : hi ≤ w.heap.size) : OwnLits w' lo hi v ls :=
  h.keep fun g h1 h2 => ho.block g (by omega) (by omega)

/-! ### Rules -/
def QRule (w : World) (B : Nat) (u0 u1 u2 : Value) (r : LRule) : Prop := u0 = .int .i64 r.1.1 ∧ RdInts w B u1 r.1.2 ∧ RdLits w B u2 r.2
def RdRules (w : World) (B : Nat) (v : Value) (rs : List LRule) : Prop := RdRow QRule w B v rs
def RdRule (w : World) (B : Nat) (v : Value) (r : LRule) : Prop := ∃ a b, v = .agg #[.int .i64 r.1.1, a, b] ∧ RdInts w B a r.1.2 ∧ RdLits w B b r.2
def ORule (w : World) (lo hi : Nat) (u0 u1 u2 : Value) (r : LRule) : Prop := u0 = .int .i64 r.1.1 ∧ OwnInts w lo hi u1 r.1.2 ∧ OwnLits w lo hi u2 r.2
def OwnRules (w : World) (lo hi : Nat) (v : Value) (rs : List LRule) : Prop := OwnRow ORule w lo hi v rs

theorem QRule.below {w w' : World} {B B' : Nat} {u0 u1 u2 : Value} {r : LRule} (h : QRule w B u0 u1 u2 r) (hb : Below B' w w') (hB : B ≤ B') : QRule w' B u0 u1 u2 r := ⟨h.1, h.2.1.below hb hB, h.2.2.below hb hB⟩
theorem QRule.more {w : World} {B B' : Nat} {u0 u1 u2 : Value} {r : LRule} (h : QRule w B u0 u1 u2 r) (hB : B ≤ B') : QRule w B' u0 u1 u2 r := ⟨h.1, h.2.1.more hB, h.2.2.more hB⟩
theorem RdRules.below {w w' : World} {B B' : Nat} {v : Value} {rs : List LRule} (h : RdRules w B v rs) (hb : Below B' w w') (hB : B ≤ B') : RdRules w' B v rs := RdRow.below (fun _ _ _ _ q => q.below hb hB) h hb hB
theorem RdRules.more {w : World} {B B' : Nat} {v : Value} {rs : List LRule} (h : RdRules w B v rs) (hB : B ≤ B') : RdRules w B' v rs := RdRow.more (fun _ _ _ _ q => q.more hB) h hB
theorem RdRules.on {w w' : World} {v : Value} {rs : List LRule} (h : RdRules w w.heap.size v rs) (hb : Below w.heap.size w w') : RdRules w' w'.heap.size v rs := (h.below hb (Nat.le_refl _)).more hb.size
theorem RdRule.on {w w' : World} {v : Value} {r : LRule} (h : RdRule w w.heap.size v r) (hb : Below w.heap.size w w') : RdRule w' w'.heap.size v r := by
  obtain ⟨a, b, rfl, h1, h2⟩ := h
  exact ⟨a, b, rfl, h1.on hb, h2.on hb⟩
theorem ORule.keep {w w' : World} {lo hi : Nat} {u0 u1 u2 : Value} {r : LRule} (h : ORule w lo hi u0 u1 u2 r) (hk : ∀ g, lo ≤ g → g < hi → w'.heap[g]? = w.heap[g]?) : ORule w' lo hi u0 u1 u2 r := ⟨h.1, h.2.1.keep hk, h.2.2.keep hk⟩
theorem ORule.mono {w : World} {lo hi lo' hi' : Nat} {u0 u1 u2 : Value} {r : LRule} (h : ORule w lo hi u0 u1 u2 r) (h1 : lo' ≤ lo) (h2 : hi ≤ hi') : ORule w lo' hi' u0 u1 u2 r := ⟨h.1, h.2.1.mono h1 h2, h.2.2.mono h1 h2⟩
theorem OwnRules.keep {w w' : World} {lo hi : Nat} {v : Value} {rs : List LRule} (h : OwnRules w lo hi v rs) (hk : ∀ g, lo ≤ g → g < hi → w'.heap[g]? = w.heap[g]?) : OwnRules w' lo hi v rs := OwnRow.keep (fun _ _ _ _ q => q.keep hk) h hk
theorem OwnRules.mono {w : World} {lo hi lo' hi' : Nat} {v : Value} {rs : List LRule} (h : OwnRules w lo hi v rs) (h1 : lo' ≤ lo) (h2 : hi ≤ hi') : OwnRules w lo' hi' v rs := OwnRow.mono (fun _ _ _ _ q => q.mono h1 h2) h h1 h2
theorem OwnRules.rd {w : World} {lo hi : Nat} {v : Value} {rs : List LRule} (h : OwnRules w lo hi v rs) : RdRules w hi v rs := OwnRow.rd (fun _ _ _ _ q => ⟨q.1, q.2.1.rd, q.2.2.rd⟩) h

/-! ### How much there is -/
/-- How many integers literals have together. -/
def totL (ls : List LLit) : Nat := (ls.map fun l => l.2.2.length).sum
/-- What szRule counts of a rule. -/
def szR (r : LRule) : Nat := r.1.2.length + (r.2.length + totL r.2)
def totR (rs : List LRule) : Nat := (rs.map szR).sum
theorem sum_at {α : Type} (f : α → Nat) : ∀ (l : List α) (k : Nat) (h : k < l.length), f l[k] ≤ (l.map f).sum
  | [], _, h => absurd h (by simp)
  | x :: l, 0, _ => by simp
  | x :: l, k + 1, h => by
    have := sum_at f l k (by simpa using h)
    simp only [List.map_cons, List.sum_cons, List.getElem_cons_succ] at this ⊢
    omega
theorem sum_take {α : Type} (f : α → Nat) (l : List α) (k : Nat) (h : k < l.length) : ((l.take (k + 1)).map f).sum = ((l.take k).map f).sum + f l[k] := by
  rw [take_snoc l k h, List.map_append, List.sum_append]
  simp
theorem len_le_totL (ls : List LLit) (k : Nat) (h : k < ls.length) : ls[k].2.2.length ≤ totL ls := sum_at (fun l : LLit => l.2.2.length) ls k h
theorem totL_take (ls : List LLit) (k : Nat) (h : k < ls.length) : totL (ls.take (k + 1)) = totL (ls.take k) + ls[k].2.2.length := sum_take _ ls k h
theorem sz_le_totR (rs : List LRule) (k : Nat) (h : k < rs.length) : szR rs[k] ≤ totR rs := sum_at szR rs k h
theorem totR_take (rs : List LRule) (k : Nat) (h : k < rs.length) : totR (rs.take (k + 1)) = totR (rs.take k) + szR rs[k] := sum_take _ rs k h

end Go.Proofs.YtokmmloakahkhaaGreat
/-
  The walks of szLit, toLit, eqLit, szLitS, toLitS, eqLitS.
-/
namespace Go.Proofs.YtokmmloakahkhaaGreat
open Go.RowKit

set_option maxHeartbeats 400000 in
theorem szLit_any (v : Value) (l : LLit) (left : Int) (w : World) (h : RdLit w w.heap.size v l) (h0 : 0 ≤ left) (hl : left ≤ 1048576) (hn : l.2.2.length ≤ 9223372036854775807) :
    Calls Tryz.prog 68 #[v, .int .i64 left] w fun e w' => e = .returned (.int .i64 (szV left l.2.2.length)) ∧ Below w.heap.size w w' := by
  obtain ⟨a, rfl, h⟩ := h
  have H := Lib.hid h
  obtain ⟨A, c, rfl, hc, _⟩ := h
  have hcs := szV_cases left l.2.2.length
  go_enter Tryz.func68, Tryz.ntmps68
  go_wp2_with (fail)
  refine (szAtom_any _ l.2 _ _ ⟨_, rfl, H.out.on (below1 _ _)⟩ h0 hl hn).mono ?_
  rintro e w1 ⟨rfl, hb⟩
  have hB := bthen (below1 _ _) hb
  rcases hcs with ⟨e1, _⟩ | ⟨e1, _⟩
  · rw [e1]
    have HV := Lib.hid e1
    clear e1
    go_wp2_with (fail)
    go_ret
    exact ⟨ret_int HV.out.symm, hB⟩
  · have h1 : ¬ szV left l.2.2.length < 0 := by omega
    go_wp2_with (fail)
    go_ret
    exact ⟨rfl, hB⟩

set_option maxHeartbeats 400000 in
theorem toLit_any (v : Value) (l : LLit) (w : World) (h : RdLit w w.heap.size v l) (hn : l.2.2.length * 8 ≤ 140737488351232) :
    Calls Tryz.prog 71 #[v] w fun e w' => ∃ A' c', e = .returned (.agg #[.int .i64 l.1, .int .i64 l.2.1, .slice A' l.2.2.length c']) ∧ OwnInts w' w.heap.size w'.heap.size (.slice A' l.2.2.length c') l.2.2 ∧ Below w.heap.size w w' := by
  obtain ⟨a, rfl, h⟩ := h
  have H := Lib.hid h
  obtain ⟨A, c, rfl, hc, _⟩ := h
  go_enter Tryz.func71, Tryz.ntmps71
  go_wp2_with (fail)
  refine (toAtom_any _ l.2 _ ⟨_, rfl, H.out.on (below3 _ _ _ _)⟩ hn).mono ?_
  rintro e w4 ⟨A4, c4, rfl, ho, hb⟩
  have hB := bthen (below3 _ _ _ _) hb
  have b1 : Blk w4 (w.heap.size + 1) 35 #[.int .i64 0, .int .i64 0, .slice none 0 0] := ((by simpa using (Blk.new (w.alloc (Obj.cells #[Value.int IntKind.i64 l.1, Value.int IntKind.i64 l.2.1, Value.slice A l.2.2.length c] 101)) _ _).alloc _ : Blk _ _ _ _)).below hb (by simp)
  have b2 : Blk w4 (w.heap.size + 2) 35 #[.int .i64 l.1, .int .i64 0, .slice none 0 0] := ((by simpa using Blk.new ((w.alloc (Obj.cells #[Value.int IntKind.i64 l.1, Value.int IntKind.i64 l.2.1, Value.slice A l.2.2.length c] 101)).alloc (Obj.cells #[.int .i64 0, .int .i64 0, .slice none 0 0] 35)) _ _ : Blk _ _ _ _)).below hb (by simp)
  have b1c0 : w4.cell? ⟨w.heap.size + 1, 0, none⟩ = some (.int .i64 0) := b1.cell 0
  have b1c1 : w4.cell? ⟨w.heap.size + 1, 1, none⟩ = some (.int .i64 0) := b1.cell 1
  have b1c2 : w4.cell? ⟨w.heap.size + 1, 2, none⟩ = some (.slice none 0 0) := b1.cell 2
  have b2c0 : w4.cell? ⟨w.heap.size + 2, 0, none⟩ = some (.int .i64 l.1) := b2.cell 0
  have b2c1 : w4.cell? ⟨w.heap.size + 2, 1, none⟩ = some (.int .i64 0) := b2.cell 1
  have b2c2 : w4.cell? ⟨w.heap.size + 2, 2, none⟩ = some (.slice none 0 0) := b2.cell 2
  have b1f0 := b1.frozen 0
  have b1f1 := b1.frozen 1
  have b1f2 := b1.frozen 2
  have b2f0 := b2.frozen 0
  have b2f1 := b2.frozen 1
  have b2f2 := b2.frozen 2
  go_wp2_with (fail)
  refine bodyPost_ret (v := .agg #[.int .i64 l.1, .int .i64 l.2.1, .slice A4 l.2.2.length c4]) (by simp [results, Tryz.results71, go_sem, b1c0, b1c1, b1c2]) rfl ⟨_, _, rfl, ?_, ?_⟩
  · refine OwnInts.mono (OwnInts.keep (lo := (((w.alloc (Obj.cells #[Value.int IntKind.i64 l.1, Value.int IntKind.i64 l.2.1, Value.slice A l.2.2.length c] 101)).alloc (Obj.cells #[.int .i64 0, .int .i64 0, .slice none 0 0] 35)).alloc (Obj.cells #[.int .i64 l.1, .int .i64 0, .slice none 0 0] 35)).heap.size) (hi := w4.heap.size) ho ?_) (by simp; omega) (by simp)
    intro g h1 h2
    simp at h1
    repeat (rw [Below.heap_setCell _ _ _ _ (by show g ≠ _; simp only []; omega)])
  · repeat (first | exact hB | refine Below.setCell ?_ (by simp <;> omega) _)

set_option maxHeartbeats 400000 in
theorem eqLit_any (v v2 : Value) (f g : LLit) (w : World) (h : RdLit w w.heap.size v f) (h2 : RdLit w w.heap.size v2 g) (hn : f.2.2.length * 8 ≤ 140737488351232) (hn2 : g.2.2.length * 8 ≤ 140737488351232) :
    Calls Tryz.prog 76 #[v, v2] w fun e w' => e = .returned (.bool (decide (f = g))) ∧ Below w.heap.size w w' := by
  obtain ⟨a, rfl, h⟩ := h
  have H := Lib.hid h
  obtain ⟨A, c, rfl, hc, _⟩ := h
  obtain ⟨a, rfl, h2⟩ := h2
  have H2 := Lib.hid h2
  obtain ⟨A2, c2, rfl, hc2, _⟩ := h2
  by_cases hp : f.1 = g.1
  · have hpb : (f.1 != g.1) = false := by simp [hp]
    have HE := Lib.hid (show decide (f = g) = decide (f.2 = g.2) by simp [Prod.ext_iff, hp])
    clear hp
    go_enter Tryz.func76, Tryz.ntmps76
    go_wp2_with (fail)
    refine (eqAtom_any _ _ f.2 g.2 _ ⟨_, rfl, H.out.on (below2 _ _ _)⟩ ⟨_, rfl, H2.out.on (below2 _ _ _)⟩ hn hn2).mono ?_
    rintro e w4 ⟨rfl, hb⟩
    have hB := bthen (below2 _ _ _) hb
    by_cases hd : f.2 = g.2
    · have hdb : decide (f.2 = g.2) = true := by simp [hd]
      have HD := Lib.hid hdb
      clear hd
      go_wp2_with (fail)
      go_ret
      exact ⟨ret_bool (by rw [HE.out, HD.out]), hB⟩
    · have hdb : decide (f.2 = g.2) = false := by simp [hd]
      have HD := Lib.hid hdb
      clear hd
      go_wp2_with (fail)
      go_ret
      exact ⟨ret_bool (by rw [HE.out, HD.out]), hB⟩
  · have hpb : (f.1 != g.1) = true := by simp [hp]
    have HE := Lib.hid (show decide (f = g) = false by simp [Prod.ext_iff, hp])
    clear hp
    go_enter Tryz.func76, Tryz.ntmps76
    go_wp2_with (fail)
    go_ret
    exact ⟨ret_bool HE.out.symm, below2 _ _ _⟩

theorem Tryz.infoLit : (Tryz.prog.info? 35).map (fun i => (i.zero, i.size, i.bytes)) = some (some (.agg #[.int .i64 0, .int .i64 0, .slice none 0 0]), 3, 40) := by kernel_rfl

set_option maxHeartbeats 400000 in
theorem toLitS_any (v : Value) (ls : List LLit) (w : World) (h : RdLits w w.heap.size v ls) (hl : ls.length ≤ 1048576) (hn : totL ls ≤ 1048576) :
    Calls Tryz.prog 24 #[v] w fun e w' => ∃ A' c', e = .returned (.slice A' ls.length c') ∧ OwnLits w' w.heap.size w'.heap.size (.slice A' ls.length c') ls ∧ Below w.heap.size w w' := by
  obtain ⟨i0, hi0, hz0, hz1, hz2⟩ := info_parts Tryz.infoLit
  have hmk := fun W => run_make_rowN (P := Tryz.prog) 24 35 i0 (.agg #[.int .i64 0, .int .i64 0, .slice none 0 0]) Tryz.underlying24 hi0 hz0 .i64 .i64 ls.length ls.length (Nat.le_refl _) (by rw [hz2]; omega) (by omega) W
  rw [hz1] at hmk
  simp only [Value.cells] at hmk
  have H := Lib.hid h
  obtain ⟨A, c, rfl, hc, _⟩ := h
  go_enter Tryz.func24, Tryz.ntmps24
  go_wp2_with (fail)
  go_loopw [4] (fun i wr => ∃ (k : Nat), k ≤ ls.length ∧ i = .int .i64 k ∧ ToRow 35 (.int .i64 0) (.int .i64 0) (.slice none 0 0) OLit w wr ls k) (fun i _ => ls.length - (intOf i).toNat)
  case atStart => exact ⟨0, Nat.zero_le _, rfl, ToRow.start w ls⟩
  case round =>
    obtain ⟨k, hk, rfl, hr⟩ := hrel
    by_cases hlt : k < ls.length
    · obtain ⟨b, o, u0, u1, u2, rfl, hbB, k0, k1, k2, rfl, rfl, k3⟩ := (H.out.on hr.below).get hlt
      have HA := Lib.hid k3
      obtain ⟨A3, c3, rfl, hc4, _⟩ := k3
      have hln := len_le_totL ls k hlt
      go_wp2_with (fail)
      refine (toLit_any _ ls[k] _ ⟨_, rfl, HA.out⟩ (by omega)).mono ?_
      rintro e w4 ⟨A4, c4, rfl, ho4, hb4⟩
      obtain ⟨r1, r2, r3, r4, r5, r6⟩ := hr.room hlt hb4
      have hstep := hr.step (O := OLit) OLit.keep OLit.mono hlt hb4 (u0 := .int .i64 ls[k].1) (u1 := .int .i64 ls[k].2.1) ⟨rfl, rfl, ho4⟩
      go_wp2_with (fail)
      go_roundw
      case rel => exact ⟨k + 1, by omega, by go_num, hstep⟩
      case measure => simp [intOf]; omega
    · have hkn : k = ls.length := by omega
      have HO := Lib.hid (show OwnLits wr w.heap.size wr.heap.size (.slice (some ⟨w.heap.size, 0, none⟩) ls.length ls.length) ls from ToRow.done (O := OLit) OLit.mono (by have h' := hr; rw [hkn] at h'; exact h'))
      have hbe := hr.below
      clear hkn hr
      go_wp2_with (fail)
      go_ret
      exact ⟨_, _, rfl, HO.out, hbe⟩

/-- 'the first k of both are the same', kept from the walk. -/
def TSame {α : Type} (xs ys : List α) (k : Nat) : Prop := xs.take k = ys.take k
theorem TSame.step {α : Type} {xs ys : List α} {k : Nat} (h : TSame xs ys k) (h1 : k < xs.length) (h2 : k < ys.length) (e : xs[k] = ys[k]) : TSame xs ys (k + 1) := by
  unfold TSame at h ⊢
  rw [take_snoc xs k h1, take_snoc ys k h2, h, e]
theorem TSame.eq {α : Type} {xs ys : List α} (h : TSame xs ys xs.length) (hl : xs.length = ys.length) : xs = ys := by
  unfold TSame at h
  rwa [List.take_length, hl, List.take_length] at h

set_option maxHeartbeats 400000 in
set_option maxRecDepth 100000 in
theorem eqLitS_any (va vb : Value) (xs ys : List LLit) (w : World) (ha : RdLits w w.heap.size va xs) (hb : RdLits w w.heap.size vb ys) (hx : xs.length ≤ 1048576) (hy : ys.length ≤ 1048576) (htx : totL xs ≤ 1048576) (hty : totL ys ≤ 1048576) :
    Calls Tryz.prog 29 #[va, vb] w fun e w' => e = .returned (.bool (decide (xs = ys))) ∧ Below w.heap.size w w' := by
  have HX := Lib.hid ha
  have HY := Lib.hid hb
  obtain ⟨A, c, rfl, hc, _⟩ := ha
  obtain ⟨A2, c2, rfl, hc2, _⟩ := hb
  by_cases hl : xs.length = ys.length
  · have hl1 : ((xs.length : Int) != (ys.length : Int)) = false := by simp [hl]
    have HL := Lib.hid hl
    clear hl
    go_enter Tryz.func29, Tryz.ntmps29
    go_wp2_with (fail)
    go_loopw [5] (fun i wr => ∃ k : Nat, k ≤ xs.length ∧ i = .int .i64 k ∧ TSame xs ys k ∧ Below w.heap.size w wr) (fun i _ => xs.length - (intOf i).toNat)
    case atStart => exact ⟨0, Nat.zero_le _, rfl, rfl, Below.refl _ _⟩
    case round =>
      obtain ⟨k, hk, rfl, hs, hbe⟩ := hrel
      by_cases hlt : k < xs.length
      · have hlt2 : k < ys.length := by have := HL.out; omega
        obtain ⟨b, o, u0, u1, u2, rfl, hbB, k0, k1, k2, rfl, rfl, p3⟩ := (HX.out.on hbe).get hlt
        obtain ⟨b2, o2, v0, v1, v2, rfl, hbB2, m0, m1, m2, rfl, rfl, q3⟩ := (HY.out.on hbe).get hlt2
        have hln := len_le_totL xs k hlt
        have hln2 := len_le_totL ys k hlt2
        have HA := Lib.hid p3
        have HA2 := Lib.hid q3
        obtain ⟨A3, c3, rfl, hc3, _⟩ := p3
        obtain ⟨A4, c4, rfl, hc4, _⟩ := q3
        go_wp2_with (fail)
        go_still_tail 8, (by kernel_rfl)
        change wpList _ _ _ _ _ wr.drew
        obtain ⟨w2, hw2⟩ : ∃ w2, w2 = wr.drew := ⟨_, rfl⟩
        rw [← hw2]
        have hbe2 : Below wr.heap.size wr w2 := by rw [hw2]; exact (Below.refl _ _).drew
        clear hw2
        go_wp2_with (fail)
        refine (eqLit_any _ _ xs[k] ys[k] _ ⟨_, rfl, HA.out.on hbe2⟩ ⟨_, rfl, HA2.out.on hbe2⟩ (by omega) (by omega)).mono ?_
        rintro e w4 ⟨rfl, hb4⟩
        have hB4 := bthen hbe (bthen hbe2 hb4)
        by_cases he : xs[k] = ys[k]
        · have hdb : decide (xs[k] = ys[k]) = true := by simp [he]
          have HS := Lib.hid (hs.step hlt hlt2 he)
          clear he hs
          go_wp2_with (fail)
          go_roundw
          case rel => exact ⟨k + 1, by omega, by go_num, HS.out, hB4⟩
          case measure => simp [intOf]; omega
        · have hdb : decide (xs[k] = ys[k]) = false := by simp [he]
          have HE := Lib.hid (show xs ≠ ys from fun e => he (by subst e; rfl))
          clear he hs
          go_wp2_with (fail)
          go_ret
          exact ⟨ret_bool (by simp [HE.out]), hB4⟩
      · have hkn : k = xs.length := by omega
        have HE := Lib.hid (show xs = ys from TSame.eq (by rw [← hkn]; exact hs) HL.out)
        clear hkn hs
        go_wp2_with (fail)
        go_ret
        exact ⟨ret_bool (by simp [HE.out]), hbe⟩
  · have hl1 : ((xs.length : Int) != (ys.length : Int)) = true := by simp; omega
    have HE := Lib.hid (show xs ≠ ys from fun e => hl (by rw [e]))
    clear hl
    go_enter Tryz.func29, Tryz.ntmps29
    go_wp2_with (fail)
    go_ret
    exact ⟨ret_bool (by simp [HE.out]), Below.refl _ _⟩

/-- What szLitS answers: -1, or what is left when the literals and all their integers are taken. -/
def SzRes (r left : Int) (n : Nat) : Prop := r = -1 ∨ (0 ≤ r ∧ r + n = left)
def SzTo (r left : Int) (n m : Nat) : Prop := 0 ≤ r ∧ r + n + m = left

set_option maxHeartbeats 400000 in
theorem szLitS_any (v : Value) (ls : List LLit) (left : Int) (w : World) (h : RdLits w w.heap.size v ls) (h0 : 0 ≤ left) (hl : left ≤ 1048576) (hn : ls.length ≤ 9223372036854775807) (hm : ∀ k (h : k < ls.length), ls[k].2.2.length ≤ 9223372036854775807) :
    Calls Tryz.prog 21 #[v, .int .i64 left] w fun e w' => ∃ r, e = .returned (.int .i64 r) ∧ SzRes r left (ls.length + totL ls) ∧ Below w.heap.size w w' := by
  have H := Lib.hid h
  obtain ⟨A, c, rfl, hc, _⟩ := h
  by_cases hneg : left - (ls.length : Int) < 0
  · go_enter Tryz.func21, Tryz.ntmps21
    go_wp2_with (fail)
    go_ret
    exact ⟨_, rfl, .inl rfl, Below.refl _ _⟩
  · go_enter Tryz.func21, Tryz.ntmps21
    go_wp2_with (fail)
    go_loopw [1, 5] (fun l i wr => ∃ (k : Nat) (r : Int), k ≤ ls.length ∧ i = .int .i64 k ∧ l = .int .i64 r ∧ SzTo r left ls.length (totL (ls.take k)) ∧ Below w.heap.size w wr) (fun _ i _ => ls.length - (intOf i).toNat)
    case atStart => exact ⟨0, _, Nat.zero_le _, rfl, rfl, ⟨by omega, by simp [totL]⟩, Below.refl _ _⟩
    case round =>
      obtain ⟨k, r, hk, rfl, rfl, hs, hbe⟩ := hrel
      by_cases hlt : k < ls.length
      · obtain ⟨b, o, u0, u1, u2, rfl, hbB, k0, k1, k2, rfl, rfl, p3⟩ := (H.out.on hbe).get hlt
        have HA := Lib.hid p3
        obtain ⟨A3, c3, rfl, hc3, _⟩ := p3
        have hmk := hm k hlt
        have htk := totL_take ls k hlt
        have hcs := szV_cases r ls[k].2.2.length
        have hr0 := hs.1
        have hr1 := hs.2
        have HT := Lib.hid (And.intro htk hr1)
        clear htk hr1
        go_wp2_with (fail)
        refine (szLit_any _ ls[k] r _ ⟨_, rfl, HA.out⟩ hr0 (by have := HT.out; omega) hmk).mono ?_
        rintro e w4 ⟨rfl, hb4⟩
        have hB4 := bthen hbe hb4
        rcases hcs with ⟨e1, _⟩ | ⟨e1, e2⟩
        · rw [e1]
          clear e1
          go_wp2_with (fail)
          go_ret
          exact ⟨_, rfl, .inl rfl, hB4⟩
        · have h1 : ¬ szV r ls[k].2.2.length < 0 := by omega
          have HS := Lib.hid (show SzTo (szV r ls[k].2.2.length) left ls.length (totL (ls.take (k + 1))) from ⟨e1, by have := HT.out; omega⟩)
          clear e2
          go_wp2_with (fail)
          go_roundw
          case rel => exact ⟨k + 1, _, by omega, by go_num, rfl, HS.out, hB4⟩
          case measure => simp [intOf]; omega
      · have hkn : k = ls.length := by omega
        have HE := Lib.hid (show SzRes r left (ls.length + totL ls) from .inr ⟨hs.1, by have := hs.2; rw [hkn, List.take_length] at this; omega⟩)
        clear hkn hs
        go_wp2_with (fail)
        go_ret
        exact ⟨_, rfl, HE.out, hbe⟩

end Go.Proofs.YtokmmloakahkhaaGreat
/-
  The walks of szRule, toRule, eqRule.
-/
namespace Go.Proofs.YtokmmloakahkhaaGreat
open Go.RowKit

/-- What is asked of a rule that came in. -/
def ruleLens (r : LRule) : Prop := r.1.2.length ≤ 9223372036854775807 ∧ r.2.length ≤ 9223372036854775807 ∧ ∀ k (h : k < r.2.length), r.2[k].2.2.length ≤ 9223372036854775807

theorem OwnInts.far {w : World} {lo hi : Nat} {v : Value} {xs : List Int} (h : OwnInts w lo hi v xs) {p : Addr} (hp : p.block < lo) (u : Value) : OwnInts (w.setCell p u) lo hi v xs := h.set (.inl hp) u
theorem OwnLits.far {w : World} {lo hi : Nat} {v : Value} {ls : List LLit} (h : OwnLits w lo hi v ls) {p : Addr} (hp : p.block < lo) (u : Value) : OwnLits (w.setCell p u) lo hi v ls :=
  h.keep fun g h1 _ => Below.heap_setCell _ _ _ _ (by omega)

end Go.Proofs.YtokmmloakahkhaaGreat
/-
  Terms and variables: the words, and the walks of varTerm, varNumber, isVar.
-/
namespace Go.Proofs.YtokmmloakahkhaaGreat
open Go.RowKit

def termOk (x : Int) : Bool := decide (-4 ≤ x ∧ x ≤ 5)
def isVarB (x : Int) : Bool := decide (-4 ≤ x ∧ x ≤ -1)

/-- 'the first k are so', kept from the walk. -/
def AllTo {α : Type} (p : α → Bool) (xs : List α) (k : Nat) : Prop := (xs.take k).all p = true
theorem AllTo.start {α : Type} {p : α → Bool} {xs : List α} : AllTo p xs 0 := by simp [AllTo]
theorem AllTo.step {α : Type} {p : α → Bool} {xs : List α} {k : Nat} (h : AllTo p xs k) (hk : k < xs.length) (e : p xs[k] = true) : AllTo p xs (k + 1) := by
  unfold AllTo at h ⊢
  rw [take_snoc xs k hk, List.all_append, h]
  simp [e]
theorem AllTo.done {α : Type} {p : α → Bool} {xs : List α} {k : Nat} (h : AllTo p xs k) (hk : k = xs.length) : xs.all p = true := by
  unfold AllTo at h
  rwa [hk, List.take_length] at h
theorem all_not {α : Type} {p : α → Bool} {xs : List α} {k : Nat} (hk : k < xs.length) (e : p xs[k] = false) : xs.all p = false := by
  rw [List.all_eq_false]
  exact ⟨xs[k], List.getElem_mem hk, by simp [e]⟩

theorem varTerm_any (n : Int) (h0 : 0 ≤ n) (h1 : n ≤ 1000) (w : World) : Calls Tryz.prog 174 #[.int .i64 n] w fun e w' => e = .returned (.int .i64 (-1 - n)) ∧ w = w' := by
  go_enter Tryz.func174, Tryz.ntmps174
  go_wp2
  go_ret
  exact ⟨rfl, rfl⟩
theorem varNumber_any (n : Int) (h0 : -4 ≤ n) (h1 : n ≤ -1) (w : World) : Calls Tryz.prog 134 #[.int .i64 n] w fun e w' => e = .returned (.int .i64 (-1 - n)) ∧ w = w' := by
  go_enter Tryz.func134, Tryz.ntmps134
  go_wp2
  go_ret
  exact ⟨rfl, rfl⟩

theorem isVar_any (n : Int) (w : World) : Calls Tryz.prog 133 #[.int .i64 n] w fun e w' => e = .returned (.bool (isVarB n)) ∧ w = w' := by
  by_cases h1 : n < 0
  · have hd : decide (n < 0) = true := by simpa using h1
    by_cases h2 : -4 ≤ n
    · have HE := Lib.hid (show isVarB n = true by simp [isVarB]; omega)
      go_enter Tryz.func133, Tryz.ntmps133
      go_wp2_with (go_at_call 174; refine (varTerm_any 3 (by omega) (by omega) _).mono ?_; rintro e w' ⟨rfl, rfl⟩)
      go_ret
      exact ⟨ret_bool HE.out.symm, rfl⟩
    · have HE := Lib.hid (show isVarB n = false by simp [isVarB]; omega)
      go_enter Tryz.func133, Tryz.ntmps133
      go_wp2_with (go_at_call 174; refine (varTerm_any 3 (by omega) (by omega) _).mono ?_; rintro e w' ⟨rfl, rfl⟩)
      go_ret
      exact ⟨ret_bool (by rw [HE.out]; simp; omega), rfl⟩
  · have hd : decide (n < 0) = false := by simpa using h1
    have HE := Lib.hid (show isVarB n = false by simp [isVarB]; omega)
    go_enter Tryz.func133, Tryz.ntmps133
    go_wp2_with (fail)
    go_ret
    exact ⟨ret_bool HE.out.symm, rfl⟩

theorem isVar_is {n : Int} {b : Bool} (h : isVarB n = b) (w : World) : Calls Tryz.prog 133 #[.int .i64 n] w fun e w' => e = .returned (.bool b) ∧ w = w' := h ▸ isVar_any n w

end Go.Proofs.YtokmmloakahkhaaGreat
/-
  The walks of isTerm, areTerms, l2Terms.
-/
namespace Go.Proofs.YtokmmloakahkhaaGreat
open Go.RowKit

theorem isTerm_any (n : Int) (w : World) : Calls Tryz.prog 90 #[.int .i64 n] w fun e w' => e = .returned (.bool (termOk n)) ∧ w = w' := by
  by_cases h1 : isVarB n = true
  · have HE := Lib.hid (show termOk n = true by simp [isVarB] at h1; simp [termOk]; omega)
    go_enter Tryz.func90, Tryz.ntmps90
    go_wp2_with (go_at_call 133; refine (isVar_is h1 _).mono ?_; rintro e w' ⟨rfl, rfl⟩)
    go_ret
    exact ⟨ret_bool HE.out.symm, rfl⟩
  · have h2 : isVarB n = false := by simpa using h1
    by_cases h3 : 0 ≤ n
    · have hd : decide (0 ≤ n) = true := by simpa using h3
      by_cases h4 : n ≤ 5
      · have HE := Lib.hid (show termOk n = true by simp [termOk]; omega)
        go_enter Tryz.func90, Tryz.ntmps90
        go_wp2_with (go_at_call 133; refine (isVar_is h2 _).mono ?_; rintro e w' ⟨rfl, rfl⟩)
        go_ret
        exact ⟨ret_bool HE.out.symm, rfl⟩
      · have HE := Lib.hid (show termOk n = false by simp [termOk]; omega)
        go_enter Tryz.func90, Tryz.ntmps90
        go_wp2_with (go_at_call 133; refine (isVar_is h2 _).mono ?_; rintro e w' ⟨rfl, rfl⟩)
        go_ret
        exact ⟨ret_bool (by rw [HE.out]; simp; omega), rfl⟩
    · have hd : decide (0 ≤ n) = false := by simpa using h3
      have HE := Lib.hid (show termOk n = false by simp [isVarB] at h2; simp [termOk]; omega)
      go_enter Tryz.func90, Tryz.ntmps90
      go_wp2_with (go_at_call 133; refine (isVar_is h2 _).mono ?_; rintro e w' ⟨rfl, rfl⟩)
      go_ret
      exact ⟨ret_bool HE.out.symm, rfl⟩

theorem isTerm_is {n : Int} {b : Bool} (h : termOk n = b) (w : World) : Calls Tryz.prog 90 #[.int .i64 n] w fun e w' => e = .returned (.bool b) ∧ w = w' := h ▸ isTerm_any n w

set_option maxHeartbeats 400000 in
theorem areTerms_any (v : Value) (xs : List Int) (B : Nat) (w : World) (h : RdInts w B v xs) (hr : xs.length ≤ 1048576) :
    Calls Tryz.prog 47 #[v] w fun e w' => e = .returned (.bool (xs.all termOk)) ∧ w = w' := by
  obtain ⟨A, c, rfl, hc, ha⟩ := h
  go_enter Tryz.func47, Tryz.ntmps47
  go_wp2_with (fail)
  go_loop [4, 7] (fun _ i => ∃ k : Nat, k ≤ xs.length ∧ i = .int .i64 k ∧ AllTo termOk xs k) (fun _ i => xs.length - (intOf i).toNat)
  case atStart => exact ⟨0, Nat.zero_le _, rfl, AllTo.start⟩
  case round =>
    obtain ⟨k, hk, rfl, hs⟩ := hrel
    by_cases hlt : k < xs.length
    · obtain ⟨b, o, rfl, hbB, hx⟩ := ha (by omega)
      have hck : w.cell? ⟨b, o + k, none⟩ = some (.int .i64 xs[k]) := hx k hlt
      clear hx ha
      by_cases he : termOk xs[k] = true
      · have HS := Lib.hid (hs.step hlt he)
        clear hs
        go_wp2_with (go_at_call 90; refine (isTerm_is he _).mono ?_; rintro e w' ⟨rfl, rfl⟩)
        go_round
        case rel => exact ⟨k + 1, by omega, by go_num, HS.out⟩
        case measure => simp [intOf]; omega
      · have he' : termOk xs[k] = false := by simpa using he
        have HE := Lib.hid (all_not hlt he')
        clear hs he
        go_wp2_with (go_at_call 90; refine (isTerm_is he' _).mono ?_; rintro e w' ⟨rfl, rfl⟩)
        go_ret
        exact ⟨ret_bool HE.out.symm, rfl⟩
    · have HE := Lib.hid (hs.done (by omega))
      clear hs ha
      go_wp2_with (fail)
      go_ret
      exact ⟨ret_bool HE.out.symm, rfl⟩

set_option maxHeartbeats 400000 in
theorem l2Terms_any (v : Value) (xs : List Int) (B : Nat) (w : World) (h : RdInts w B v xs) (hr : xs.length ≤ 1048576) :
    Calls Tryz.prog 51 #[v] w fun e w' => e = .returned (.bool (xs.all termOk)) ∧ w = w' := by
  obtain ⟨A, c, rfl, hc, ha⟩ := h
  go_enter Tryz.func51, Tryz.ntmps51
  go_wp2_with (fail)
  go_loop [3] (fun i => ∃ k : Nat, k ≤ xs.length ∧ i = .int .i64 k ∧ AllTo termOk xs k) (fun i => xs.length - (intOf i).toNat)
  case atStart => exact ⟨0, Nat.zero_le _, rfl, AllTo.start⟩
  case round =>
    obtain ⟨k, hk, rfl, hs⟩ := hrel
    by_cases hlt : k < xs.length
    · obtain ⟨b, o, rfl, hbB, hx⟩ := ha (by omega)
      have hck : w.cell? ⟨b, o + k, none⟩ = some (.int .i64 xs[k]) := hx k hlt
      clear hx ha
      by_cases he : -4 ≤ xs[k] ∧ xs[k] ≤ 5
      · have HS := Lib.hid (hs.step hlt (by simpa [termOk] using he))
        have HK := Lib.hid (l1In_yes he)
        clear hs he
        go_wp2_with (go_at_call 50; refine (HK.out _).mono ?_; rintro e w' ⟨rfl, rfl⟩)
        go_round
        case rel => exact ⟨k + 1, by omega, by go_num, HS.out⟩
        case measure => simp [intOf]; omega
      · have HE := Lib.hid (all_not hlt (show termOk xs[k] = false by simpa [termOk] using he))
        have HK := Lib.hid (l1In_no he)
        clear hs he
        go_wp2_with (go_at_call 50; refine (HK.out _).mono ?_; rintro e w' ⟨rfl, rfl⟩)
        go_ret
        exact ⟨ret_bool HE.out.symm, rfl⟩
    · have HE := Lib.hid (hs.done (by omega))
      clear hs ha
      go_wp2_with (fail)
      go_ret
      exact ⟨ret_bool HE.out.symm, rfl⟩

end Go.Proofs.YtokmmloakahkhaaGreat
/-
  The walks of isTerm, areTerms, l2Terms, atomFits, and of both AtomOk.
-/
namespace Go.Proofs.YtokmmloakahkhaaGreat
open Go.RowKit

def atomFits (ar : List Int) (f : LFact) : Bool := decide (0 ≤ f.1 ∧ f.1 < ar.length ∧ (f.2.length : Int) = ar.getD f.1.toNat 0) && f.2.all termOk
def atomOk (ar : List Int) (f : LFact) : Bool := arityOk ar && atomFits ar f

end Go.Proofs.YtokmmloakahkhaaGreat
/-
  Renaming, in plain words: what each variable becomes, in the order in which they come.
-/
namespace Go.Proofs.YtokmmloakahkhaaGreat
open Go.RowKit

/-- What the four variables have become (0: nothing yet), and how many have come. -/
abbrev Ren := List Int × Nat
def renStep (s : Ren) (t : Int) : Ren := if isVarB t && s.1.getD (-1 - t).toNat 0 == 0 then (s.1.set (-1 - t).toNat (-1 - (s.2 : Int)), s.2 + 1) else s
def renList (s : Ren) (xs : List Int) : Ren := xs.foldl renStep s
def look (s : Ren) (t : Int) : Int := if isVarB t then s.1.getD (-1 - t).toNat 0 else t
/-- What comes out while the variables come. -/
def renOut (s : Ren) (xs : List Int) : List Int := (List.range xs.length).map fun j => look (renList s (xs.take (j + 1))) (xs.getD j 0)
def renBody (s : Ren) (ls : List LLit) : Ren := ls.foldl (fun s l => renList s l.2.2) s
def ren0 : Ren := ([0, 0, 0, 0], 0)
def renRule (r : LRule) : Ren := renBody (renList ren0 r.1.2) r.2
def lookLit (s : Ren) (l : LLit) : LLit := (l.1, (l.2.1, l.2.2.map (look s)))
def termsOk (r : LRule) : Bool := (r.2.all fun l => l.2.2.all termOk) && r.1.2.all termOk
def renamed (r : LRule) : LRule := if termsOk r then ((r.1.1, r.1.2.map (look (renRule r))), r.2.map (lookLit (renRule r))) else ((0, []), [])

theorem var_lt {t : Int} (h : isVarB t = true) : (-1 - t).toNat < 4 := by simp [isVarB] at h; omega
theorem renStep_len {s : Ren} {t : Int} (h : s.1.length = 4) : (renStep s t).1.length = 4 := by
  unfold renStep
  split <;> simp [h]
theorem renList_len : ∀ (xs : List Int) {s : Ren}, s.1.length = 4 → (renList s xs).1.length = 4
  | [], _, h => h
  | _ :: xs, _, h => renList_len xs (renStep_len h)
theorem renList_take {xs : List Int} {k : Nat} (s : Ren) (h : k < xs.length) : renList s (xs.take (k + 1)) = renStep (renList s (xs.take k)) xs[k] := by
  unfold renList
  rw [take_snoc xs k h, List.foldl_append]
  rfl
theorem renBody_take {ls : List LLit} {k : Nat} (s : Ren) (h : k < ls.length) : renBody s (ls.take (k + 1)) = renList (renBody s (ls.take k)) ls[k].2.2 := by
  unfold renBody
  rw [take_snoc ls k h, List.foldl_append]
  rfl
theorem renBody_len : ∀ (ls : List LLit) {s : Ren}, s.1.length = 4 → (renBody s ls).1.length = 4
  | [], _, h => h
  | l :: ls, _, h => renBody_len ls (renList_len l.2.2 h)

/-- What has come stays as it is. -/
def Ext (s s' : Ren) : Prop := ∀ i, s.1.getD i 0 ≠ 0 → s'.1.getD i 0 = s.1.getD i 0
theorem Ext.refl (s : Ren) : Ext s s := fun _ _ => rfl
theorem Ext.trans {s s1 s2 : Ren} (h : Ext s s1) (k : Ext s1 s2) : Ext s s2 := fun i hi => by
  have := h i hi
  rw [k i (by rw [this]; exact hi), this]
theorem Ext.step (s : Ren) (t : Int) : Ext s (renStep s t) := fun i hi => by
  unfold renStep
  split
  · rename_i h
    simp only [Bool.and_eq_true, beq_iff_eq] at h
    have hne : (-1 - t).toNat ≠ i := fun e => hi (e ▸ h.2)
    simp only [List.getD_eq_getElem?_getD, List.getElem?_set_ne hne]
  · rfl
theorem Ext.list : ∀ (xs : List Int) (s : Ren), Ext s (renList s xs)
  | [], s => Ext.refl s
  | t :: xs, s => (Ext.step s t).trans (Ext.list xs _)
theorem Ext.body : ∀ (ls : List LLit) (s : Ren), Ext s (renBody s ls)
  | [], s => Ext.refl s
  | l :: ls, s => (Ext.list l.2.2 s).trans (Ext.body ls _)
theorem renList_append (s : Ren) (xs ys : List Int) : renList s (xs ++ ys) = renList (renList s xs) ys := by simp [renList, List.foldl_append]
theorem renBody_append (s : Ren) (xs ys : List LLit) : renBody s (xs ++ ys) = renBody (renBody s xs) ys := by simp [renBody, List.foldl_append]
/-- A variable that has come has become something. -/
theorem renStep_ne {s : Ren} {t : Int} (h : s.1.length = 4) (hv : isVarB t = true) : (renStep s t).1.getD (-1 - t).toNat 0 ≠ 0 := by
  have h4 := var_lt hv
  unfold renStep
  split
  · rw [List.getD_eq_getElem?_getD, List.getElem?_set_self (by omega)]
    simp
    omega
  · rename_i hn
    intro e
    exact hn (by rw [hv, e]; rfl)
theorem look_ext {s S : Ren} {t : Int} (h : s.1.length = 4) (he : Ext (renStep s t) S) : look (renStep s t) t = look S t := by
  unfold look
  split
  · rename_i hv
    exact (he _ (renStep_ne h hv)).symm
  · rfl
theorem renOut_eq {s S : Ren} {xs : List Int} (h : s.1.length = 4) (he : Ext (renList s xs) S) : renOut s xs = xs.map (look S) := by
  apply List.ext_getElem (by simp [renOut])
  intro j h1 h2
  have hj : j < xs.length := by simpa using h2
  simp only [renOut, List.getElem_map, List.getElem_range]
  rw [renList_take s hj]
  have e1 : xs.getD j 0 = xs[j] := by simp [hj]
  rw [e1]
  refine look_ext (renList_len _ h) (Ext.trans ?_ he)
  rw [← renList_take s hj]
  have := renList_append s (xs.take (j + 1)) (xs.drop (j + 1))
  rw [List.take_append_drop] at this
  rw [this]
  exact Ext.list _ _
theorem renOut_length (s : Ren) (xs : List Int) : (renOut s xs).length = xs.length := by simp [renOut]

/-- The program's way: while they come. -/
def renLits (s : Ren) (ls : List LLit) : List LLit := (List.range ls.length).map fun j => ((ls.getD j (0, (0, []))).1, ((ls.getD j (0, (0, []))).2.1, renOut (renBody s (ls.take j)) (ls.getD j (0, (0, []))).2.2))
theorem renLits_eq {s S : Ren} {ls : List LLit} (h : s.1.length = 4) (he : Ext (renBody s ls) S) : renLits s ls = ls.map (lookLit S) := by
  apply List.ext_getElem (by simp [renLits])
  intro j h1 h2
  have hj : j < ls.length := by simpa using h2
  have e1 : ls.getD j (0, (0, [])) = ls[j] := by simp [hj]
  simp only [renLits, List.getElem_map, List.getElem_range, e1, lookLit]
  congr 2
  refine renOut_eq (renBody_len _ h) (Ext.trans ?_ he)
  rw [← renBody_take s hj]
  have := renBody_append s (ls.take (j + 1)) (ls.drop (j + 1))
  rw [List.take_append_drop] at this
  rw [this]
  exact Ext.body _ _
theorem renamed_yes {r : LRule} (h : termsOk r = true) : renamed r = ((r.1.1, renOut ren0 r.1.2), renLits (renList ren0 r.1.2) r.2) := by
  unfold renamed
  rw [if_pos h]
  have h0 : ren0.1.length = 4 := rfl
  rw [renOut_eq (S := renRule r) h0 (Ext.body _ _), renLits_eq (S := renRule r) (renList_len _ h0) (Ext.refl _)]
theorem renamed_no {r : LRule} (h : termsOk r = false) : renamed r = ((0, []), []) := by
  unfold renamed
  rw [h]
  rfl
theorem renamed_head (r : LRule) : (renamed r).1.2.length ≤ r.1.2.length := by
  unfold renamed
  split <;> simp
theorem renamed_szR (r : LRule) : szR (renamed r) ≤ szR r := by
  unfold renamed
  split
  · unfold szR totL
    simp only [List.length_map, List.map_map]
    have : ((fun l : LLit => l.2.2.length) ∘ lookLit (renRule r)) = fun l : LLit => l.2.2.length := by
      funext l
      simp [lookLit]
    rw [this]
    omega
  · simp [szR, totL]

end Go.Proofs.YtokmmloakahkhaaGreat
/-
  What comes in, opened: atoms.
-/
namespace Go.Proofs.YtokmmloakahkhaaGreat
open Go.ChangeShapes Go.WideShapes Go.ChangeAt Go.RowKit Go.Joins Go.Deep

theorem Tryz.cells99 : Tryz.prog.cellsOf 99 = 2 := by kernel_rfl

section
variable {H : Type} {enc : TypeId × Value → H} {W : World}

def InAtom (W : World) (v : Value) (f : LFact) : Prop := RdFact W W.heap.size v f ∧ f.2.length ≤ maxLen

set_option maxRecDepth 100000 in
theorem open_atom_cells {fuel : Nat} {v0 v1 : Value} {x : DataW H × List MemPlace} (h : DataW.trod enc Tryz.prog W 0 (fun _ => true) true fuel 99 [v0, v1] = some x) : ∃ f : LFact, v0 = .int .i64 f.1 ∧ InInts W v1 f.2 := by
  obtain ⟨y0, y1, n, _, _, h0, h1⟩ := trod_struct2 Tryz.underlying99 h
  rw [Tryz.cells3] at h0
  rw [Tryz.cells31] at h1
  obtain ⟨m, e0, _, _⟩ := DataW.trod_int Tryz.underlying3 h0
  obtain ⟨xs, hx⟩ := open_inInts_cells h1
  simp at e0
  exact ⟨(m, xs), e0, hx⟩

set_option maxRecDepth 100000 in
theorem open_inAtom {v : Value} {d : DataW H} {p : List MemPlace} {b0 : Nat} (hv : Value.okWide Tryz.prog W .any b0 99 v) (h : DataW.Trod enc Tryz.prog W 0 (fun _ => true) true 99 v d p) : ∃ f, InAtom W v f := by
  obtain ⟨cs, rfl, hsz⟩ := okWide_struct Tryz.underlying99 hv
  obtain ⟨c0, c1, rfl⟩ := array2 (hsz.trans Tryz.cells99)
  obtain ⟨fuel, hf⟩ := h
  obtain ⟨f, rfl, h1, h2⟩ := open_atom_cells (v0 := c0) (v1 := c1) (by simpa [Value.cells] using hf)
  exact ⟨f, ⟨c1, rfl, h1⟩, h2⟩
end

end Go.Proofs.YtokmmloakahkhaaGreat
/-
  What comes in, opened: literals.
-/
namespace Go.Proofs.YtokmmloakahkhaaGreat
open Go.ChangeShapes Go.WideShapes Go.ChangeAt Go.RowKit Go.Joins Go.Deep

theorem Tryz.cells101 : Tryz.prog.cellsOf 101 = 3 := by kernel_rfl
theorem Tryz.cells45 : Tryz.prog.cellsOf 45 = 1 := by kernel_rfl

section
variable {H : Type} {enc : TypeId × Value → H} {W : World}

def InLit (W : World) (v : Value) (l : LLit) : Prop := RdLit W W.heap.size v l ∧ l.2.2.length ≤ maxLen

def bodyFits (ls : List LLit) : Prop := ls.length ≤ maxLen ∧ ∀ k (h : k < ls.length), ls[k].2.2.length ≤ maxLen

set_option maxRecDepth 100000 in
theorem open_lit_cells {fuel : Nat} {v0 v1 v2 : Value} {x : DataW H × List MemPlace} (h : DataW.trod enc Tryz.prog W 0 (fun _ => true) true fuel 101 [v0, v1, v2] = some x) :
    ∃ l : LLit, QLit W W.heap.size v0 v1 v2 l ∧ l.2.2.length ≤ maxLen := by
  obtain ⟨y0, y1, n, _, _, h0, h1⟩ := trod_struct2 Tryz.underlying101 h
  rw [Tryz.cells3] at h0
  rw [Tryz.cells99] at h1
  obtain ⟨m, e0, _, _⟩ := DataW.trod_int Tryz.underlying3 h0
  obtain ⟨f, e1, hx⟩ := open_atom_cells (v0 := v1) (v1 := v2) h1
  simp at e0
  exact ⟨(m, f), ⟨e0, e1, hx.1⟩, hx.2⟩

/-- A slice of elements of three cells. -/
theorem open_row_cells {α : Type} [Inhabited α] {t e : TypeId} {Q : World → Nat → Value → Value → Value → α → Prop} {N : α → Prop} (ht : Tryz.prog.underlying t = some (.slice e)) (hc : Tryz.prog.cellsOf e = 3)
    (hQ : ∀ {fuel : Nat} {v0 v1 v2 : Value} {x : DataW H × List MemPlace}, DataW.trod enc Tryz.prog W 0 (fun _ => true) true fuel e [v0, v1, v2] = some x → ∃ y : α, Q W W.heap.size v0 v1 v2 y ∧ N y)
    {fuel : Nat} {v : Value} {x : DataW H × List MemPlace} (h : DataW.trod enc Tryz.prog W 0 (fun _ => true) true fuel t [v] = some x) :
    ∃ xs : List α, RdRow Q W W.heap.size v xs ∧ xs.length ≤ maxLen ∧ ∀ k (h : k < xs.length), N xs[k] := by
  rcases open_slice ht h with ⟨hcs, _⟩ | ⟨a, len, cap, m, n, D, Pl, hcs, _, hl, hm, hmm, _, hx⟩
  · simp at hcs
    subst hcs
    exact ⟨[], ⟨none, 0, rfl, by simp, fun h => absurd h (by simp)⟩, by simp, fun k h => absurd h (by simp)⟩
  · simp at hcs
    subst hcs
    simp at hmm
    subst hmm
    rw [hc] at hx
    obtain ⟨F, hF⟩ := choose_lt (α := Value × Value × Value × α) (n := m) (p := fun i q => W.cell? (a.add (i * 3)) = some q.1 ∧ W.cell? (a.add (i * 3 + 1)) = some q.2.1 ∧ W.cell? (a.add (i * 3 + 2)) = some q.2.2.1 ∧ Q W W.heap.size q.1 q.2.1 q.2.2.1 q.2.2.2 ∧ N q.2.2.2) (fun i hi => by
      obtain ⟨cs', h1, h2⟩ := hx i hi
      obtain ⟨_, hlen, hcell⟩ := World.cells?_some h1
      match cs', hlen with
      | [v0, v1, v2], _ =>
        have e0 := hcell 0 (by omega)
        have e1 := hcell 1 (by omega)
        have e2 := hcell 2 (by omega)
        rw [add_add] at e0 e1 e2
        obtain ⟨y, hy, hn⟩ := hQ h2
        exact ⟨(v0, v1, v2, y), by simpa using e0, by simpa using e1, by simpa using e2, hy, hn⟩)
    refine ⟨(List.range len).map fun i => (F i).2.2.2, ⟨some a, m, by simp, by simpa using hl, fun hn => ?_⟩, by simp; omega, fun k hk => ?_⟩
    · simp at hn
      obtain ⟨b, off, spot⟩ := a
      have hspot : spot = none := by simpa [Addr.add] using World.cell?_spot (hF 0 (by omega)).1
      subst hspot
      have hb : b < W.heap.size := by simpa [Addr.add] using World.block_lt_of_cell? _ _ (hF 0 (by omega)).1
      refine ⟨b, off, rfl, hb, fun k hk => ?_⟩
      simp at hk
      obtain ⟨c0, c1, c2, hq, _⟩ := hF k (by omega)
      rw [Go.WideShapes.add_plain] at c0 c1 c2
      exact ⟨_, _, _, by simpa using c0, by simpa [Nat.add_assoc] using c1, by simpa [Nat.add_assoc] using c2, by simpa using hq⟩
    · simp at hk ⊢
      exact (hF k (by omega)).2.2.2.2

set_option maxRecDepth 100000 in
theorem open_lits_cells {fuel : Nat} {v : Value} {x : DataW H × List MemPlace} (h : DataW.trod enc Tryz.prog W 0 (fun _ => true) true fuel 45 [v] = some x) : ∃ ls : List LLit, RdLits W W.heap.size v ls ∧ bodyFits ls :=
  open_row_cells (N := fun l : LLit => l.2.2.length ≤ maxLen) Tryz.underlying45 Tryz.cells101 (fun h => open_lit_cells h) h

def InLits (W : World) (v : Value) (ls : List LLit) : Prop := RdLits W W.heap.size v ls ∧ bodyFits ls
set_option maxRecDepth 100000 in
theorem open_inLits {v : Value} {d : DataW H} {p : List MemPlace} {b0 : Nat} (hv : Value.okWide Tryz.prog W .any b0 45 v) (h : DataW.Trod enc Tryz.prog W 0 (fun _ => true) true 45 v d p) :
    ∃ ls, InLits W v ls := by
  obtain ⟨a, len, cap, rfl⟩ := okWide_slice Tryz.underlying45 hv
  obtain ⟨fuel, hf⟩ := h
  exact open_lits_cells (by simpa [Value.cells] using hf)

set_option maxRecDepth 100000 in
theorem open_inLit {v : Value} {d : DataW H} {p : List MemPlace} {b0 : Nat} (hv : Value.okWide Tryz.prog W .any b0 101 v) (h : DataW.Trod enc Tryz.prog W 0 (fun _ => true) true 101 v d p) : ∃ l, InLit W v l := by
  obtain ⟨cs, rfl, hsz⟩ := okWide_struct Tryz.underlying101 hv
  obtain ⟨c0, c1, c2, rfl⟩ := array3 (hsz.trans Tryz.cells101)
  obtain ⟨fuel, hf⟩ := h
  obtain ⟨l, ⟨rfl, rfl, h1⟩, h2⟩ := open_lit_cells (v0 := c0) (v1 := c1) (v2 := c2) (by simpa [Value.cells] using hf)
  exact ⟨l, ⟨c2, rfl, h1⟩, h2⟩
end

end Go.Proofs.YtokmmloakahkhaaGreat
/-
  What comes in, opened: rules.
-/
namespace Go.Proofs.YtokmmloakahkhaaGreat
open Go.ChangeShapes Go.WideShapes Go.ChangeAt Go.RowKit Go.Joins Go.Deep

section
variable {H : Type} {enc : TypeId × Value → H} {W : World}

def ruleFitsIn (r : LRule) : Prop := r.1.2.length ≤ maxLen ∧ bodyFits r.2

def InRule (W : World) (v : Value) (r : LRule) : Prop := RdRule W W.heap.size v r ∧ ruleFitsIn r

end

end Go.Proofs.YtokmmloakahkhaaGreat
/-
  What comes in, opened: integers, atoms, literals, rules, programs.
-/
namespace Go.Proofs.YtokmmloakahkhaaGreat
open Go.ChangeShapes Go.WideShapes Go.ChangeAt Go.RowKit Go.Joins Go.Deep

/-- A program: its predicates' places, its rules. -/
abbrev LProg := List Int × List LRule
def RdProg (w : World) (B : Nat) (v : Value) (p : LProg) : Prop := ∃ a b, v = .agg #[a, b] ∧ RdInts w B a p.1 ∧ RdRules w B b p.2
theorem RdProg.on {w w' : World} {v : Value} {p : LProg} (h : RdProg w w.heap.size v p) (hb : Below w.heap.size w w') : RdProg w' w'.heap.size v p := by
  obtain ⟨a, b, rfl, h1, h2⟩ := h
  exact ⟨a, b, rfl, h1.on hb, h2.on hb⟩

section
variable {H : Type} {enc : TypeId × Value → H} {W : World}

def InProg (W : World) (v : Value) (p : LProg) : Prop := RdProg W W.heap.size v p ∧ p.1.length ≤ maxLen ∧ p.2.length ≤ maxLen ∧ ∀ k (h : k < p.2.length), ruleFitsIn p.2[k]

end

end Go.Proofs.YtokmmloakahkhaaGreat
/-
  The walks over lists of rules and programs: szRuleS, toRuleS, eqRuleS, szProgram, toProgram, eqProgram.
-/
namespace Go.Proofs.YtokmmloakahkhaaGreat
open Go.RowKit

theorem Tryz.infoRule : (Tryz.prog.info? 69).map (fun i => (i.zero, i.size, i.bytes)) = some (some (.agg #[.int .i64 0, .slice none 0 0, .slice none 0 0]), 3, 56) := by kernel_rfl

/-- What szProgram counts. -/
def szP (p : LProg) : Nat := p.1.length + (p.2.length + totR p.2)
def progLens (p : LProg) : Prop := p.1.length ≤ 9223372036854775807 ∧ p.2.length ≤ 9223372036854775807 ∧ ∀ k (h : k < p.2.length), ruleLens p.2[k]

theorem OwnRules.below {w w' : World} {lo hi B : Nat} {v : Value} {rs : List LRule} (h : OwnRules w lo hi v rs) (hb : Below B w w') (hB : hi ≤ B) : OwnRules w' lo hi v rs := h.keep fun g _ h2 => hb.block g (by omega)
theorem OwnRules.far {w : World} {lo hi : Nat} {v : Value} {rs : List LRule} (h : OwnRules w lo hi v rs) {p : Addr} (hp : p.block < lo) (u : Value) : OwnRules (w.setCell p u) lo hi v rs :=
  h.keep fun g h1 _ => Below.heap_setCell _ _ _ _ (by omega)

end Go.Proofs.YtokmmloakahkhaaGreat
/-
  The walks of litFits and of both LitOk.
-/
namespace Go.Proofs.YtokmmloakahkhaaGreat
open Go.RowKit

def litFits (ar : List Int) (l : LLit) : Bool :=
  if l.1 = 0 ∨ l.1 = 1 then atomFits ar l.2 else if l.1 = 2 ∨ l.1 = 3 then (decide (l.2.1 = 0) && decide (l.2.2.length = 2) && l.2.2.all termOk) else false
def litOk (ar : List Int) (l : LLit) : Bool := arityOk ar && litFits ar l

/-- An atom that compares two terms. -/
def comparesB (f : LFact) : Bool := decide (f.1 = 0) && decide (f.2.length = 2) && f.2.all termOk

end Go.Proofs.YtokmmloakahkhaaGreat
/-
  Regions that draw their order and whose callees return plain values and keep all that was there: one walk of the text's order serves every order. The class of worlds: those that keep what was there.
-/
namespace Go.Proofs.YtokmmloakahkhaaGreat
open Go.RowKit

/-- A world that keeps all that was there in w0. -/
def Later (w0 : World) : Type := { W : World // Below w0.heap.size w0 W }

instance (w0 : World) : Nonempty (Later w0) := ⟨⟨w0, Below.refl _ _⟩⟩

theorem wp_region_later {P : Program} {id : Nat} {Q : Exit → Act → World → Prop} {a : Act} {w0 : World} {l : List Oper} (hm : P.follows .mixedOrders = true) (hB : Region.lexB .any l.toArray = true)
    (h : wpQuiet P l.toArray (fun w' => ∃ x : Later w0, w' = x.val) (fun a' => ∀ w', (∃ x : Later w0, w' = x.val) → Q .normal a' w') l a) : (Code.region id l.toArray true).wp P Q a w0 :=
  wp_region_quiet (C := fun w' => ∃ x : Later w0, w' = x.val) hm hB ⟨⟨_, (Below.refl _ _).drew⟩, rfl⟩ (by simpa using h)

theorem later_cell {w0 : World} {a : Addr} {v : Value} (h : w0.cell? a = some v) (x : Later w0) : x.val.cell? a = some v := (x.2.cell (World.block_lt_of_cell? _ _ h)).trans h
/-- A callee's contract, met in a later world. -/
theorem later_of {P : Program} {f : FuncId} {args : Array Value} {w0 : World} {x : Later w0} {v : Value} (h : Calls P f args x.val fun e w' => e = .returned v ∧ Below x.val.heap.size x.val w') :
    Calls P f args x.val fun e w'' => e = .returned v ∧ ∃ y : Later w0, w'' = y.val :=
  h.mono fun _ w' ⟨he, hb⟩ => ⟨he, ⟨w', bthen x.2 hb⟩, rfl⟩
theorem later_same {P : Program} {f : FuncId} {args : Array Value} {w0 : World} {x : Later w0} {v : Value} (h : Calls P f args x.val fun e w' => e = .returned v ∧ x.val = w') :
    Calls P f args x.val fun e w'' => e = .returned v ∧ ∃ y : Later w0, w'' = y.val :=
  h.mono fun _ _ ⟨he, hb⟩ => ⟨he, x, hb.symm⟩

end Go.Proofs.YtokmmloakahkhaaGreat
/-
  Sets of variables: as words of four bits (the program's), as rows of four bools (the specification's). The words, and the walks of argVars, bodyVars, ruleVars.
-/
namespace Go.Proofs.YtokmmloakahkhaaGreat
open Go.RowKit

/-- One more term's variable. -/
def orV (m : Nat) (t : Int) : Nat := if isVarB t then m ||| 2 ^ (-1 - t).toNat else m
def maskFrom (m : Nat) (xs : List Int) : Nat := xs.foldl orV m
def maskOf (xs : List Int) : Nat := maskFrom 0 xs
def bodyMask (ls : List LLit) : Nat := ls.foldl (fun m l => m ||| maskOf l.2.2) 0
def yesMask (ls : List LLit) : Nat := ls.foldl (fun m l => if l.1 = 0 then m ||| maskOf l.2.2 else m) 0
def ruleMask (r : LRule) : Nat := maskOf r.1.2 ||| bodyMask r.2

theorem orV_or (a b : Nat) (t : Int) : orV (a ||| b) t = a ||| orV b t := by
  unfold orV
  split
  · rw [Nat.or_assoc]
  · rfl
theorem maskFrom_or (a b : Nat) : ∀ xs : List Int, maskFrom (a ||| b) xs = a ||| maskFrom b xs
  | [] => rfl
  | t :: xs => by
    show maskFrom (orV (a ||| b) t) xs = a ||| maskFrom (orV b t) xs
    rw [orV_or, maskFrom_or a (orV b t) xs]
theorem maskFrom_eq (a : Nat) (xs : List Int) : maskFrom a xs = a ||| maskOf xs := by
  have := maskFrom_or a 0 xs
  rwa [Nat.or_zero] at this
theorem or_lt16 {a b : Nat} (ha : a < 16) (hb : b < 16) : a ||| b < 16 := Nat.or_lt_two_pow (n := 4) ha hb
theorem pow_var_lt {t : Int} (h : isVarB t = true) : 2 ^ (-1 - t).toNat < 16 := by
  have h4 : (-1 - t).toNat < 4 := by simp [isVarB] at h; omega
  exact Nat.pow_lt_pow_right (by omega) h4
theorem orV_lt {m : Nat} {t : Int} (hm : m < 16) : orV m t < 16 := by
  unfold orV
  split
  · rename_i h
    exact or_lt16 hm (pow_var_lt h)
  · exact hm
theorem maskFrom_lt : ∀ (xs : List Int) {m : Nat}, m < 16 → maskFrom m xs < 16
  | [], _, h => h
  | _ :: xs, _, h => maskFrom_lt xs (orV_lt h)
theorem maskOf_lt (xs : List Int) : maskOf xs < 16 := maskFrom_lt xs (by omega)
theorem maskOf_take {xs : List Int} {k : Nat} (h : k < xs.length) : maskOf (xs.take (k + 1)) = orV (maskOf (xs.take k)) xs[k] := by
  unfold maskOf maskFrom
  rw [take_snoc xs k h, List.foldl_append]
  rfl
theorem bodyMask_take {ls : List LLit} {k : Nat} (h : k < ls.length) : bodyMask (ls.take (k + 1)) = bodyMask (ls.take k) ||| maskOf ls[k].2.2 := by
  unfold bodyMask
  rw [take_snoc ls k h, List.foldl_append]
  rfl
theorem yesMask_take {ls : List LLit} {k : Nat} (h : k < ls.length) : yesMask (ls.take (k + 1)) = if ls[k].1 = 0 then yesMask (ls.take k) ||| maskOf ls[k].2.2 else yesMask (ls.take k) := by
  unfold yesMask
  rw [take_snoc ls k h, List.foldl_append]
  rfl
theorem bodyMask_lt : ∀ (n : Nat) (ls : List LLit), n ≤ ls.length → bodyMask (ls.take n) < 16
  | 0, _, _ => by simp [bodyMask]
  | n + 1, ls, h => by
    rw [bodyMask_take (by omega)]
    exact or_lt16 (bodyMask_lt n ls (by omega)) (maskOf_lt _)
theorem yesMask_lt : ∀ (n : Nat) (ls : List LLit), n ≤ ls.length → yesMask (ls.take n) < 16
  | 0, _, _ => by simp [yesMask]
  | n + 1, ls, h => by
    rw [yesMask_take (by omega)]
    split
    · exact or_lt16 (yesMask_lt n ls (by omega)) (maskOf_lt _)
    · exact yesMask_lt n ls (by omega)
theorem bodyMask_lt' (ls : List LLit) : bodyMask ls < 16 := by
  have := bodyMask_lt ls.length ls (Nat.le_refl _)
  rwa [List.take_length] at this
theorem yesMask_lt' (ls : List LLit) : yesMask ls < 16 := by
  have := yesMask_lt ls.length ls (Nat.le_refl _)
  rwa [List.take_length] at this
theorem ruleMask_lt (r : LRule) : ruleMask r < 16 := or_lt16 (maskOf_lt _) (bodyMask_lt' _)

theorem or_word {a b : Nat} (ha : a < 16) (hb : b < 16) : bits .or .u64 (a : Int) (b : Int) = ((a ||| b : Nat) : Int) := u64_or_nat a b (by omega) (by omega)
/-- The walk's word for one more variable. -/
theorem orV_word {m : Nat} {t : Int} (hm : m < 16) (h : isVarB t = true) : bits .or .u64 (m : Int) (IntKind.u64.wrap (1 * 2 ^ (-1 - t).toNat)) = ((orV m t : Nat) : Int) := by
  have h4 : (-1 - t).toNat < 4 := by simp [isVarB] at h; omega
  have hw : IntKind.u64.wrap (1 * 2 ^ (-1 - t).toNat) = ((2 ^ (-1 - t).toNat : Nat) : Int) := by
    generalize (-1 - t).toNat = n at h4
    match n, h4 with
    | 0, _ => rfl
    | 1, _ => rfl
    | 2, _ => rfl
    | 3, _ => rfl
  rw [hw, or_word hm (pow_var_lt h)]
  simp [orV, h]

set_option maxHeartbeats 400000 in
theorem argVars_any (v : Value) (xs : List Int) (B : Nat) (w : World) (h : RdInts w B v xs) (hr : xs.length ≤ 1048576) :
    Calls Tryz.prog 91 #[v] w fun e w' => e = .returned (.int .u64 (maskOf xs : Nat)) ∧ w = w' := by
  obtain ⟨A, c, rfl, hc, ha⟩ := h
  go_enter Tryz.func91, Tryz.ntmps91
  go_wp2_with (fail)
  go_loop [3, 5, 8] (fun m _ i => ∃ (k : Nat) (z : Int), k ≤ xs.length ∧ i = .int .i64 k ∧ m = .int .u64 z ∧ z = (maskOf (xs.take k) : Nat)) (fun _ _ i => xs.length - (intOf i).toNat)
  case atStart => exact ⟨0, 0, Nat.zero_le _, rfl, rfl, rfl⟩
  case round =>
    obtain ⟨k, z, hk, rfl, rfl, hz⟩ := hrel
    by_cases hlt : k < xs.length
    · obtain ⟨b, o, rfl, hbB, hx⟩ := ha (by omega)
      have hck : w.cell? ⟨b, o + k, none⟩ = some (.int .i64 xs[k]) := hx k hlt
      have hml := maskOf_lt (xs.take k)
      clear hx ha
      by_cases he : isVarB xs[k] = true
      · have HK := Lib.hid (isVar_is he)
        have HV := Lib.hid (show -4 ≤ xs[k] ∧ xs[k] ≤ -1 by simpa [isVarB] using he)
        have h0 : 0 ≤ -1 - xs[k] := by have := HV.out; omega
        have h64 : -1 - xs[k] ≤ 64 := by have := HV.out; omega
        have HZ := Lib.hid (show bits .or .u64 z (IntKind.u64.wrap (2 ^ (-1 - xs[k]).toNat)) = (maskOf (xs.take (k + 1)) : Nat) by have hw := orV_word hml he; rw [Int.one_mul] at hw; rw [hz, hw, maskOf_take hlt])
        clear hz he hml
        go_wp2_with (first | (go_at_call 133; refine (HK.out _).mono ?_; rintro e w' ⟨rfl, rfl⟩) | (go_at_call 134; refine (varNumber_any _ HV.out.1 HV.out.2 _).mono ?_; rintro e w' ⟨rfl, rfl⟩))
        go_round
        case rel => exact ⟨k + 1, _, by omega, by go_num, rfl, HZ.out⟩
        case measure => simp [intOf]; omega
      · have he' : isVarB xs[k] = false := by simpa using he
        have HK := Lib.hid (isVar_is he')
        have HZ := Lib.hid (show z = (maskOf (xs.take (k + 1)) : Nat) by rw [hz, maskOf_take hlt]; simp [orV, he'])
        clear hz he
        go_wp2_with (go_at_call 133; refine (HK.out _).mono ?_; rintro e w' ⟨rfl, rfl⟩)
        go_round
        case rel => exact ⟨k + 1, _, by omega, by go_num, rfl, HZ.out⟩
        case measure => simp [intOf]; omega
    · have HE := Lib.hid (show z = (maskOf xs : Nat) by rw [hz, show k = xs.length by omega, List.take_length])
      clear hz ha
      go_wp2_with (fail)
      go_ret
      exact ⟨ret_int HE.out, rfl⟩

set_option maxHeartbeats 400000 in
theorem bodyVars_any (v : Value) (ls : List LLit) (w : World) (h : RdLits w w.heap.size v ls) (hr : ls.length ≤ 1048576) (ht : totL ls ≤ 1048576) :
    Calls Tryz.prog 48 #[v] w fun e w' => e = .returned (.int .u64 (bodyMask ls : Nat)) ∧ Below w.heap.size w w' := by
  have H := Lib.hid h
  obtain ⟨A, c, rfl, hc, _⟩ := h
  go_enter Tryz.func48, Tryz.ntmps48
  go_wp2_with (fail)
  go_loopw [3, 5, 8] (fun m _ i wr => ∃ (k : Nat) (z : Int), k ≤ ls.length ∧ i = .int .i64 k ∧ m = .int .u64 z ∧ z = (bodyMask (ls.take k) : Nat) ∧ Below w.heap.size w wr) (fun _ _ i _ => ls.length - (intOf i).toNat)
  case atStart => exact ⟨0, 0, Nat.zero_le _, rfl, rfl, rfl, Below.refl _ _⟩
  case round =>
    obtain ⟨k, z, hk, rfl, rfl, hz, hbe⟩ := hrel
    by_cases hlt : k < ls.length
    · obtain ⟨b, o, u0, u1, u2, rfl, hbB, k0, k1, k2, rfl, rfl, p3⟩ := (H.out.on hbe).get hlt
      have HA := Lib.hid p3
      obtain ⟨A3, c3, rfl, hc3, _⟩ := p3
      have hle := len_le_totL ls k hlt
      have hml := bodyMask_lt k ls hk
      have HZ := Lib.hid (show bits .or .u64 z ((maskOf ls[k].2.2 : Nat) : Int) = (bodyMask (ls.take (k + 1)) : Nat) by rw [hz, or_word hml (maskOf_lt _), bodyMask_take hlt])
      clear hz hml
      go_wp2_with (go_at_call 91; refine (argVars_any _ ls[k].2.2 _ _ (HA.out.on (below1 _ _)) (by omega)).mono ?_; rintro e w' ⟨rfl, rfl⟩)
      go_roundw
      case rel => exact ⟨k + 1, _, by omega, by go_num, rfl, HZ.out, bthen hbe (below1 _ _)⟩
      case measure => simp [intOf]; omega
    · have HE := Lib.hid (show z = (bodyMask ls : Nat) by rw [hz, show k = ls.length by omega, List.take_length])
      clear hz
      go_wp2_with (fail)
      go_ret
      exact ⟨ret_int HE.out, hbe⟩

theorem later_int {P : Program} {f : FuncId} {args : Array Value} {w0 : World} {x : Later w0} {u v : Value} (h : Calls P f args x.val fun e w' => e = .returned u ∧ Below x.val.heap.size x.val w') (e : u = v) :
    Calls P f args x.val fun e w'' => e = .returned v ∧ ∃ y : Later w0, w'' = y.val := later_of (e ▸ h)

end Go.Proofs.YtokmmloakahkhaaGreat
/-
  The walks of yesVars and of the program's RuleSafe.
-/
namespace Go.Proofs.YtokmmloakahkhaaGreat
open Go.RowKit

set_option maxHeartbeats 400000 in
theorem yesVars_any (v : Value) (ls : List LLit) (w : World) (h : RdLits w w.heap.size v ls) (hr : ls.length ≤ 1048576) (ht : totL ls ≤ 1048576) :
    Calls Tryz.prog 49 #[v] w fun e w' => e = .returned (.int .u64 (yesMask ls : Nat)) ∧ Below w.heap.size w w' := by
  have H := Lib.hid h
  obtain ⟨A, c, rfl, hc, _⟩ := h
  go_enter Tryz.func49, Tryz.ntmps49
  go_wp2_with (fail)
  go_loopw [3, 5, 8] (fun m _ i wr => ∃ (k : Nat) (z : Int), k ≤ ls.length ∧ i = .int .i64 k ∧ m = .int .u64 z ∧ z = (yesMask (ls.take k) : Nat) ∧ Below w.heap.size w wr) (fun _ _ i _ => ls.length - (intOf i).toNat)
  case atStart => exact ⟨0, 0, Nat.zero_le _, rfl, rfl, rfl, Below.refl _ _⟩
  case round =>
    obtain ⟨k, z, hk, rfl, rfl, hz, hbe⟩ := hrel
    by_cases hlt : k < ls.length
    · obtain ⟨b, o, u0, u1, u2, rfl, hbB, k0, k1, k2, rfl, rfl, p3⟩ := (H.out.on hbe).get hlt
      have HA := Lib.hid p3
      obtain ⟨A3, c3, rfl, hc3, _⟩ := p3
      have hle := len_le_totL ls k hlt
      have hml := yesMask_lt k ls hk
      by_cases h0 : ls[k].1 = 0
      · have hd : (ls[k].1 == 0) = true := by simpa using h0
        have HZ := Lib.hid (show bits .or .u64 z ((maskOf ls[k].2.2 : Nat) : Int) = (yesMask (ls.take (k + 1)) : Nat) by rw [hz, or_word hml (maskOf_lt _), yesMask_take hlt, if_pos h0])
        clear hz hml h0
        go_wp2_with (go_at_call 91; refine (argVars_any _ ls[k].2.2 _ _ (HA.out.on (below1 _ _)) (by omega)).mono ?_; rintro e w' ⟨rfl, rfl⟩)
        go_roundw
        case rel => exact ⟨k + 1, _, by omega, by go_num, rfl, HZ.out, bthen hbe (below1 _ _)⟩
        case measure => simp [intOf]; omega
      · have hd : (ls[k].1 == 0) = false := by simpa using h0
        have HZ := Lib.hid (show z = (yesMask (ls.take (k + 1)) : Nat) by rw [hz, yesMask_take hlt, if_neg h0])
        clear hz hml h0
        go_wp2_with (fail)
        go_roundw
        case rel => exact ⟨k + 1, _, by omega, by go_num, rfl, HZ.out, bthen hbe (below1 _ _)⟩
        case measure => simp [intOf]; omega
    · have HE := Lib.hid (show z = (yesMask ls : Nat) by rw [hz, show k = ls.length by omega, List.take_length])
      clear hz
      go_wp2_with (fail)
      go_ret
      exact ⟨ret_int HE.out, hbe⟩

/-- What RuleSafe answers. -/
def ruleSafe (r : LRule) : Bool := bits .andNot .u64 ((ruleMask r : Nat) : Int) ((yesMask r.2 : Nat) : Int) == 0

end Go.Proofs.YtokmmloakahkhaaGreat
/-
  The specification's sets of variables: rows of four bools. The walks of l2Mark, l2Marks.
-/
namespace Go.Proofs.YtokmmloakahkhaaGreat
open Go.RowKit

/-- Block g is the row of the bits of m. -/
def MkRow (w : World) (g m : Nat) : Prop := Blk w g 4 #[.bool (m.testBit 0), .bool (m.testBit 1), .bool (m.testBit 2), .bool (m.testBit 3)]
theorem MkRow.cell {w : World} {g m : Nat} (h : MkRow w g m) {i : Nat} (hi : i < 4) : w.cell? ⟨g, i, none⟩ = some (.bool (m.testBit i)) := by
  rw [Blk.cell h i]
  match i, hi with
  | 0, _ => rfl
  | 1, _ => rfl
  | 2, _ => rfl
  | 3, _ => rfl
theorem MkRow.frozen {w : World} {g m : Nat} (h : MkRow w g m) (i : Nat) : w.frozen? ⟨g, i, none⟩ = false := Blk.frozen h i
theorem MkRow.lt {w : World} {g m : Nat} (h : MkRow w g m) : g < w.heap.size := Blk.lt h
theorem MkRow.below {B : Nat} {w w' : World} {g m : Nat} (h : MkRow w g m) (hb : Below B w w') (hg : g < B) : MkRow w' g m := Blk.below h hb hg
theorem MkRow.set {w : World} {g m : Nat} (h : MkRow w g m) {j : Nat} (hj : j < 4) : MkRow (w.setCell ⟨g, j, none⟩ (.bool true)) g (m ||| 2 ^ j) := by
  have h2 := Blk.set_ h j (.bool true)
  unfold MkRow
  match j, hj with
  | 0, _ => simpa [Nat.testBit_or, show Nat.testBit 1 1 = false from rfl, show Nat.testBit 1 2 = false from rfl, show Nat.testBit 1 3 = false from rfl] using h2
  | 1, _ => simpa [Nat.testBit_or, show Nat.testBit 2 1 = true from rfl, show Nat.testBit 2 2 = false from rfl, show Nat.testBit 2 3 = false from rfl] using h2
  | 2, _ => simpa [Nat.testBit_or, show Nat.testBit 4 1 = false from rfl, show Nat.testBit 4 2 = true from rfl, show Nat.testBit 4 3 = false from rfl] using h2
  | 3, _ => simpa [Nat.testBit_or, show Nat.testBit 8 1 = false from rfl, show Nat.testBit 8 2 = false from rfl, show Nat.testBit 8 3 = true from rfl] using h2
theorem maskFrom_take {xs : List Int} {m k : Nat} (h : k < xs.length) : maskFrom m (xs.take (k + 1)) = orV (maskFrom m (xs.take k)) xs[k] := by
  unfold maskFrom
  rw [take_snoc xs k h, List.foldl_append]
  rfl
theorem MkRow.var {w : World} {g m : Nat} (h : MkRow w g m) {t : Int} {j : Nat} (hj : j < 4) (ht : t = -1 - (j : Int)) : MkRow (w.setCell ⟨g, j, none⟩ (.bool true)) g (orV m t) := by
  have hv : isVarB t = true := by simp [isVarB]; omega
  have hn : (-1 - t).toNat = j := by omega
  unfold orV
  rw [if_pos hv, hn]
  exact h.set hj

set_option maxHeartbeats 400000 in
theorem l2Mark_any (g m : Nat) (v : Value) (xs : List Int) (w : World) (hm : MkRow w g m) (h : RdInts w g v xs) (hr : xs.length ≤ 1048576) :
    Calls Tryz.prog 92 #[.slice (some ⟨g, 0, none⟩) 4 4, v] w fun e w' => e = .returned (.tuple #[]) ∧ MkRow w' g (maskFrom m xs) ∧ Only g (g + 1) w w' := by
  have H := Lib.hid h
  have HM := Lib.hid hm
  clear hm
  obtain ⟨A, c, rfl, hc, _⟩ := h
  go_enter Tryz.func92, Tryz.ntmps92
  go_wp2_with (fail)
  go_loopw [4] (fun i wr => ∃ k : Nat, k ≤ xs.length ∧ i = .int .i64 k ∧ MkRow wr g (maskFrom m (xs.take k)) ∧ Only g (g + 1) w wr) (fun i _ => xs.length - (intOf i).toNat)
  case atStart => exact ⟨0, Nat.zero_le _, rfl, HM.out, Only.refl _ _ _⟩
  case round =>
    obtain ⟨k, hk, rfl, hx, hon⟩ := hrel
    have hg := HM.out.lt
    by_cases hlt : k < xs.length
    · obtain ⟨A', c', e, _, hr2⟩ := H.out.below (hon.below (Nat.le_refl g) (by omega)) (Nat.le_refl g)
      injection e with e1 _ e3
      subst e1
      subst e3
      obtain ⟨b, o, rfl, hbB, hr2⟩ := hr2 (by omega)
      have hck : wr.cell? ⟨b, o + k, none⟩ = some (.int .i64 xs[k]) := hr2 k hlt
      have htk := maskFrom_take (m := m) hlt
      clear hr2
      by_cases he : -4 ≤ xs[k] ∧ xs[k] ≤ -1
      · have hv : xs[k] = -1 - ((0 : Nat) : Int) ∨ xs[k] = -1 - ((1 : Nat) : Int) ∨ xs[k] = -1 - ((2 : Nat) : Int) ∨ xs[k] = -1 - ((3 : Nat) : Int) := by omega
        have c0 := hx.cell (i := 0) (by omega)
        have c1 := hx.cell (i := 1) (by omega)
        have c2 := hx.cell (i := 2) (by omega)
        have c3 := hx.cell (i := 3) (by omega)
        have f0 := hx.frozen 0
        have f1 := hx.frozen 1
        have f2 := hx.frozen 2
        have f3 := hx.frozen 3
        have HK := Lib.hid (l1In_yes he)
        have HX := Lib.hid (And.intro hx (And.intro hon htk))
        clear he hx hon htk
        rcases hv with hv | hv | hv | hv
        all_goals
          have HV := Lib.hid hv
          rw [hv] at hck
          simp at hck
          clear hv
        · go_wp2_with (go_at_call 50; refine (l1In_yes (by omega) _).mono ?_; rintro e w' ⟨rfl, rfl⟩)
          go_roundw
          case rel => exact ⟨k + 1, by omega, by go_num, by rw [HX.out.2.2]; exact HX.out.1.var (by omega) HV.out, HX.out.2.1.setCell (by simp) _⟩
          case measure => simp [intOf]; omega
        · go_wp2_with (go_at_call 50; refine (l1In_yes (by omega) _).mono ?_; rintro e w' ⟨rfl, rfl⟩)
          go_roundw
          case rel => exact ⟨k + 1, by omega, by go_num, by rw [HX.out.2.2]; exact HX.out.1.var (by omega) HV.out, HX.out.2.1.setCell (by simp) _⟩
          case measure => simp [intOf]; omega
        · go_wp2_with (go_at_call 50; refine (l1In_yes (by omega) _).mono ?_; rintro e w' ⟨rfl, rfl⟩)
          go_roundw
          case rel => exact ⟨k + 1, by omega, by go_num, by rw [HX.out.2.2]; exact HX.out.1.var (by omega) HV.out, HX.out.2.1.setCell (by simp) _⟩
          case measure => simp [intOf]; omega
        · go_wp2_with (go_at_call 50; refine (l1In_yes (by omega) _).mono ?_; rintro e w' ⟨rfl, rfl⟩)
          go_roundw
          case rel => exact ⟨k + 1, by omega, by go_num, by rw [HX.out.2.2]; exact HX.out.1.var (by omega) HV.out, HX.out.2.1.setCell (by simp) _⟩
          case measure => simp [intOf]; omega
      · have HK := Lib.hid (l1In_no he)
        have HX := Lib.hid (show MkRow wr g (maskFrom m (xs.take (k + 1))) by rw [htk]; unfold orV; rw [if_neg (by simp [isVarB]; omega)]; exact hx)
        clear he hx htk
        go_wp2_with (go_at_call 50; refine (HK.out _).mono ?_; rintro e w' ⟨rfl, rfl⟩)
        go_roundw
        case rel => exact ⟨k + 1, by omega, by go_num, HX.out, hon⟩
        case measure => simp [intOf]; omega
    · have HX := Lib.hid (show MkRow wr g (maskFrom m xs) by rw [show k = xs.length by omega, List.take_length] at hx; exact hx)
      clear hx
      go_wp2_with (fail)
      go_end0
      exact ⟨rfl, HX.out, hon⟩

theorem MkRow.only {lo hi : Nat} {w w' : World} {g m : Nat} (h : MkRow w g m) (ho : Only lo hi w w') (hg : g < lo ∨ hi ≤ g) : MkRow w' g m := (ho.block g h.lt hg).trans h
theorem made4 : madeCells #[Value.bool false] 4 = #[.bool false, .bool false, .bool false, .bool false] := by
  apply Array.ext
  · simp [madeCells]
  · intro i h1 h2
    simp [madeCells]
    match i, h2 with
    | 0, _ => rfl
    | 1, _ => rfl
    | 2, _ => rfl
    | 3, _ => rfl
theorem MkRow.made (w : World) : MkRow (w.alloc (.cells (madeCells #[.bool false] 4) 4)) w.heap.size 0 := by
  rw [made4]
  exact Blk.new w _ _
theorem Tryz.infoBool : (Tryz.prog.info? 4).map (fun i => (i.zero, i.size, i.bytes)) = some (some (.bool false), 1, 1) := by kernel_rfl

theorem make4 (W : World) : (Instr.makeSlice 134 (.int .i64 4) (.int .i64 4)).run Tryz.prog W = .ok (.slice (some ⟨W.heap.size, 0, none⟩) 4 4) (W.alloc (.cells (madeCells #[.bool false] 4) 4)) := by
  obtain ⟨i0, hi0, hz0, hz1, hz2⟩ := info_parts Tryz.infoBool
  have hmk := run_make_rowN (P := Tryz.prog) 134 4 i0 (.bool false) Tryz.underlying134 hi0 hz0 .i64 .i64 4 4 (Nat.le_refl _) (by rw [hz2]; omega) (by omega) W
  rw [hz1] at hmk
  simp only [Value.cells, Nat.mul_one] at hmk
  exact hmk

set_option maxHeartbeats 1000000 in
set_option maxRecDepth 100000 in
theorem l2Marks_any (v : Value) (r : LRule) (w : World) (h : RdRule w w.heap.size v r) (hr : szR r ≤ 1048576) :
    Calls Tryz.prog 93 #[v] w fun e w' => ∃ g, e = .returned (.slice (some ⟨g, 0, none⟩) 4 4) ∧ MkRow w' g (ruleMask r) ∧ w.heap.size ≤ g ∧ Below w.heap.size w w' := by
  have hmk := make4
  obtain ⟨a, b, rfl, h, h2⟩ := h
  unfold szR at hr
  have H := Lib.hid h
  have H2 := Lib.hid h2
  obtain ⟨A, c, rfl, hc, _⟩ := h
  obtain ⟨A2, c2, rfl, hcc, _⟩ := h2
  go_enter Tryz.func93, Tryz.ntmps93
  go_wp2_with (fail)
  obtain ⟨w1, hw1⟩ : ∃ w1, w1 = w.alloc (Obj.cells #[Value.int IntKind.i64 r.1.1, Value.slice A r.1.2.length c, Value.slice A2 r.2.length c2] 69) := ⟨_, rfl⟩
  have B1 : Below w.heap.size w w1 := by rw [hw1]; exact below1 _ _
  have s1 : w1.heap.size = w.heap.size + 1 := by rw [hw1]; simp
  have x1 : Blk w1 w.heap.size 69 #[.int .i64 r.1.1, .slice A r.1.2.length c, .slice A2 r.2.length c2] := by rw [hw1]; exact Blk.new w _ _
  obtain ⟨w2, hw2⟩ : ∃ w2, w2 = w1.alloc (Obj.cells (madeCells #[Value.bool false] 4) 4) := ⟨_, rfl⟩
  have m2 : MkRow w2 (w.heap.size + 1) 0 := by rw [hw2, ← s1]; exact MkRow.made _
  have b2 : Below w1.heap.size w1 w2 := by rw [hw2]; exact below1 _ _
  have x2 := x1.below b2 x1.lt
  have B2 := bthen B1 b2
  rw [← hw1, ← hw2]
  clear hw1 hw2
  refine (l2Mark_any (w.heap.size + 1) 0 _ r.1.2 _ m2 ((H.out.below B2 (Nat.le_refl _)).more (by omega)) (by omega)).mono ?_
  rintro e w3 ⟨rfl, m3, on3⟩
  have x3 := x2.only on3 (.inl (by omega))
  have B3 : Below w.heap.size w w3 := Only.then_ B2 on3 (by omega)
  have q3 : w3.cell? ⟨w.heap.size, 2, none⟩ = some (.slice A2 r.2.length c2) := x3.cell 2
  rw [maskFrom_eq, Nat.zero_or] at m3
  clear x1 x2 m2
  go_wp2_with (fail)
  go_loopw [4] (fun i wr => ∃ k : Nat, k ≤ r.2.length ∧ i = .int .i64 k ∧ MkRow wr (w.heap.size + 1) (maskOf r.1.2 ||| bodyMask (r.2.take k)) ∧ Only (w.heap.size + 1) (w.heap.size + 2) w3 wr) (fun i _ => r.2.length - (intOf i).toNat)
  case atStart => exact ⟨0, Nat.zero_le _, rfl, by simpa [bodyMask] using m3, Only.refl _ _ _⟩
  case round =>
    obtain ⟨k, hk, rfl, hm, hon⟩ := hrel
    have BW : Below w.heap.size w wr := Only.then_ B3 hon (by omega)
    have xr := x3.only hon (.inl (by omega))
    have q2 : wr.cell? ⟨w.heap.size, 2, none⟩ = some (.slice A2 r.2.length c2) := xr.cell 2
    clear q3
    by_cases hlt : k < r.2.length
    · obtain ⟨b, o, u0, u1, u2, rfl, hbB, k0, k1, k2, rfl, rfl, p3⟩ := (H2.out.below BW (Nat.le_refl _)).get hlt
      have HA := Lib.hid p3
      obtain ⟨A3, c3, rfl, hc3, _⟩ := p3
      have hle := len_le_totL r.2 k hlt
      go_wp2_with (fail)
      refine (l2Mark_any (w.heap.size + 1) _ _ r.2[k].2.2 _ hm (HA.out.more (by omega)) (by omega)).mono ?_
      rintro e w4 ⟨rfl, m4, on4⟩
      rw [maskFrom_eq, Nat.or_assoc, ← bodyMask_take hlt] at m4
      go_wp2_with (fail)
      go_roundw
      case rel => exact ⟨k + 1, by omega, by go_num, m4, hon.trans on4⟩
      case measure => simp [intOf]; omega
    · have HX := Lib.hid (show MkRow wr (w.heap.size + 1) (ruleMask r) by rw [show k = r.2.length by omega, List.take_length] at hm; exact hm)
      clear hm
      go_wp2_with (fail)
      go_ret
      exact ⟨_, rfl, HX.out, by omega, BW⟩

end Go.Proofs.YtokmmloakahkhaaGreat
/-
  The walk of the specification's RuleSafe.
-/
namespace Go.Proofs.YtokmmloakahkhaaGreat
open Go.RowKit

def safeTo (a b k : Nat) : Bool := (List.range k).all fun i => !(a.testBit i && !b.testBit i)
theorem safe_bits : ∀ a b : Fin 16, (bits .andNot .u64 ((a.val : Nat) : Int) ((b.val : Nat) : Int) == 0) = safeTo a.val b.val 4 := by decide +kernel
theorem ruleSafe_eq (r : LRule) : ruleSafe r = safeTo (ruleMask r) (yesMask r.2) 4 := safe_bits ⟨ruleMask r, ruleMask_lt r⟩ ⟨yesMask r.2, yesMask_lt' r.2⟩
theorem safeTo_step {a b k : Nat} (h : safeTo a b k = true) (e : (a.testBit k && !b.testBit k) = false) : safeTo a b (k + 1) = true := by
  unfold safeTo at h ⊢
  rw [List.range_succ, List.all_append, h, Bool.true_and]
  simp only [List.all_cons, List.all_nil, e]
  rfl
theorem safeTo_not {a b k : Nat} (hk : k < 4) (e : (a.testBit k && !b.testBit k) = true) : safeTo a b 4 = false := by
  unfold safeTo
  rw [List.all_eq_false]
  exact ⟨k, List.mem_range.2 hk, by simp [e]⟩

set_option maxHeartbeats 1000000 in
set_option maxRecDepth 100000 in
theorem specRuleSafe_any (v : Value) (r : LRule) (w : World) (h : RdRule w w.heap.size v r) (hr : szR r ≤ 1048576) :
    Calls Tryz.prog 52 #[v] w fun e w' => e = .returned (.bool (ruleSafe r)) ∧ Below w.heap.size w w' := by
  have hmk := make4
  obtain ⟨a, b, rfl, h, h2⟩ := h
  have hsz := hr
  unfold szR at hr
  have H := Lib.hid h
  have H2 := Lib.hid h2
  obtain ⟨A, c, rfl, hc, _⟩ := h
  obtain ⟨A2, c2, rfl, hcc, _⟩ := h2
  go_enter Tryz.func52, Tryz.ntmps52
  go_wp2_with (fail)
  obtain ⟨w1, hw1⟩ : ∃ w1, w1 = w.alloc (Obj.cells #[Value.int IntKind.i64 r.1.1, Value.slice A r.1.2.length c, Value.slice A2 r.2.length c2] 69) := ⟨_, rfl⟩
  have B1 : Below w.heap.size w w1 := by rw [hw1]; exact below1 _ _
  have s1 : w1.heap.size = w.heap.size + 1 := by rw [hw1]; simp
  have x1 : Blk w1 w.heap.size 69 #[.int .i64 r.1.1, .slice A r.1.2.length c, .slice A2 r.2.length c2] := by rw [hw1]; exact Blk.new w _ _
  obtain ⟨w2, hw2⟩ : ∃ w2, w2 = w1.alloc (Obj.cells (madeCells #[Value.bool false] 4) 4) := ⟨_, rfl⟩
  have m2 : MkRow w2 (w.heap.size + 1) 0 := by rw [hw2, ← s1]; exact MkRow.made _
  have b2 : Below w1.heap.size w1 w2 := by rw [hw2]; exact below1 _ _
  have x2 := x1.below b2 x1.lt
  have B2 := bthen B1 b2
  have s2 : w2.heap.size = w.heap.size + 2 := by rw [hw2]; simp [s1]
  rw [← hw1, ← hw2]
  clear hw1 hw2
  go_loopw [4] (fun i wr => ∃ k : Nat, k ≤ r.2.length ∧ i = .int .i64 k ∧ MkRow wr (w.heap.size + 1) (yesMask (r.2.take k)) ∧ Only (w.heap.size + 1) (w.heap.size + 2) w2 wr) (fun i _ => r.2.length - (intOf i).toNat)
  case atStart => exact ⟨0, Nat.zero_le _, rfl, by simpa [yesMask] using m2, Only.refl _ _ _⟩
  case round =>
    obtain ⟨k, hk, rfl, hm, hon⟩ := hrel
    have BW : Below w.heap.size w wr := Only.then_ B2 hon (by omega)
    have xr := x2.only hon (.inl (by omega))
    have q0 : wr.cell? ⟨w.heap.size, 0, none⟩ = some (.int .i64 r.1.1) := xr.cell 0
    have q1 : wr.cell? ⟨w.heap.size, 1, none⟩ = some (.slice A r.1.2.length c) := xr.cell 1
    have q2 : wr.cell? ⟨w.heap.size, 2, none⟩ = some (.slice A2 r.2.length c2) := xr.cell 2
    by_cases hlt : k < r.2.length
    · obtain ⟨b, o, u0, u1, u2, rfl, hbB, k0, k1, k2, rfl, rfl, p3⟩ := (H2.out.below BW (Nat.le_refl _)).get hlt
      have HA := Lib.hid p3
      obtain ⟨A3, c3, rfl, hc3, _⟩ := p3
      have hle := len_le_totL r.2 k hlt
      have hty := yesMask_take hlt
      by_cases h0 : r.2[k].1 = 0
      · have hd : (r.2[k].1 == 0) = true := by simpa using h0
        rw [if_pos h0] at hty
        clear h0
        go_wp2_with (fail)
        refine (l2Mark_any (w.heap.size + 1) _ _ r.2[k].2.2 _ hm (HA.out.more (by omega)) (by omega)).mono ?_
        rintro e w4 ⟨rfl, m4, on4⟩
        rw [maskFrom_eq, ← hty] at m4
        clear hty
        go_wp2_with (fail)
        go_roundw
        case rel => exact ⟨k + 1, by omega, by go_num, m4, hon.trans on4⟩
        case measure => simp [intOf]; omega
      · have hd : (r.2[k].1 == 0) = false := by simpa using h0
        rw [if_neg h0] at hty
        rw [← hty] at hm
        have HM := Lib.hid hm
        clear hty hm h0
        go_wp2_with (fail)
        go_roundw
        case rel => exact ⟨k + 1, by omega, by go_num, HM.out, hon⟩
        case measure => simp [intOf]; omega
    · have HX := Lib.hid (show MkRow wr (w.heap.size + 1) (yesMask r.2) by rw [show k = r.2.length by omega, List.take_length] at hm; exact hm)
      have hgs := hm.lt
      clear hm
      go_wp2_with (fail)
      refine (l2Marks_any _ r _ ⟨_, _, rfl, H.out.on BW, H2.out.on BW⟩ hsz).mono ?_
      rintro e w5 ⟨g2, rfl, m5, hg2, hb5⟩
      have B5 := bthen BW hb5
      have y5 := HX.out.below hb5 hgs
      have HE := Lib.hid (ruleSafe_eq r)
      go_wp2_with (fail)
      go_loop [6] (fun i => ∃ k : Nat, k ≤ 4 ∧ i = .int .i64 k ∧ safeTo (ruleMask r) (yesMask r.2) k = true) (fun i => 4 - (intOf i).toNat)
      case atStart => exact ⟨0, Nat.zero_le _, rfl, by simp [safeTo]⟩
      case round =>
        obtain ⟨j, hj, rfl, hs⟩ := hrel
        by_cases hjl : j < 4
        · have c5 := m5.cell hjl
          have d5 := y5.cell hjl
          cases ha : (ruleMask r).testBit j
          · rw [ha] at c5
            have HS := Lib.hid (safeTo_step hs (by rw [ha]; rfl))
            clear hs ha
            go_wp2_with (fail)
            go_round
            case rel => exact ⟨j + 1, by omega, by go_num, HS.out⟩
            case measure => simp [intOf]; omega
          · rw [ha] at c5
            cases hb : (yesMask r.2).testBit j
            · rw [hb] at d5
              have HS := Lib.hid (safeTo_not hjl (show ((ruleMask r).testBit j && !(yesMask r.2).testBit j) = true by rw [ha, hb]; rfl))
              clear hs ha hb
              go_wp2_with (fail)
              go_ret
              exact ⟨ret_bool (by rw [HE.out, HS.out]), B5⟩
            · rw [hb] at d5
              have HS := Lib.hid (safeTo_step hs (by rw [ha, hb]; rfl))
              clear hs ha hb
              go_wp2_with (fail)
              go_round
              case rel => exact ⟨j + 1, by omega, by go_num, HS.out⟩
              case measure => simp [intOf]; omega
        · have HS := Lib.hid (show safeTo (ruleMask r) (yesMask r.2) 4 = true by rw [show j = 4 by omega] at hs; exact hs)
          clear hs
          go_wp2_with (fail)
          go_ret
          exact ⟨ret_bool (by rw [HE.out, HS.out]), B5⟩

end Go.Proofs.YtokmmloakahkhaaGreat
/-
  ruleVars.
-/
namespace Go.Proofs.YtokmmloakahkhaaGreat
open Go.RowKit

end Go.Proofs.YtokmmloakahkhaaGreat
/-
  The program's RuleSafe.
-/
namespace Go.Proofs.YtokmmloakahkhaaGreat
open Go.RowKit

end Go.Proofs.YtokmmloakahkhaaGreat
/-
  The walks of ruleFits and of both RuleOk.
-/
namespace Go.Proofs.YtokmmloakahkhaaGreat
open Go.RowKit

def ruleFits (ar : List Int) (r : LRule) : Bool := atomFits ar r.1 && (decide (r.2.length ≤ 4) && (r.2.all (litFits ar) && ruleSafe r))
def ruleOk (ar : List Int) (r : LRule) : Bool := arityOk ar && ruleFits ar r

theorem ruleOk_spec (ar : List Int) (r : LRule) : ruleOk ar r = (r.2.all (litOk ar) && (atomOk ar r.1 && (decide (r.2.length ≤ 4) && ruleSafe r))) := by
  unfold ruleOk ruleFits atomOk
  by_cases ha : arityOk ar = true
  · have : r.2.all (litOk ar) = r.2.all (litFits ar) := by
      congr 1
      funext l
      unfold litOk
      rw [ha, Bool.true_and]
    rw [this, ha]
    cases atomFits ar r.1 <;> cases r.2.all (litFits ar) <;> cases decide (r.2.length ≤ 4) <;> rfl
  · have ha' : arityOk ar = false := by simpa using ha
    rw [ha']
    simp

end Go.Proofs.YtokmmloakahkhaaGreat
/-
  The walks of both ProgramOk, of l2Has, and of both Positive.
-/
namespace Go.Proofs.YtokmmloakahkhaaGreat
open Go.RowKit

def progOk (p : LProg) : Bool := arityOk p.1 && (decide (p.2.length ≤ 60) && p.2.all (ruleFits p.1))
theorem progOk_spec (p : LProg) : progOk p = (p.2.all (ruleOk p.1) && (arityOk p.1 && decide (p.2.length ≤ 60))) := by
  unfold progOk
  by_cases ha : arityOk p.1 = true
  · have : p.2.all (ruleOk p.1) = p.2.all (ruleFits p.1) := by
      congr 1
      funext r
      unfold ruleOk
      rw [ha, Bool.true_and]
    rw [this, ha]
    cases p.2.all (ruleFits p.1) <;> cases decide (p.2.length ≤ 60) <;> rfl
  · have ha' : arityOk p.1 = false := by simpa using ha
    rw [ha']
    simp

end Go.Proofs.YtokmmloakahkhaaGreat
/-
  The relation of a loop that collects integers.
-/
namespace Go.Proofs.YtokmmloakahkhaaGreat
open Go.RowKit

/-- The relation of a loop that collects integers. -/
structure ColI (w wr : World) (xs : List Int) (A : Option Addr) (c : Nat) : Prop where
  below : Below w.heap.size w wr
  own : OwnInts wr w.heap.size wr.heap.size (.slice A xs.length c) xs
theorem ColI.nil {w wr : World} (hb : Below w.heap.size w wr) : ColI w wr [] none 0 := ⟨hb, World.ownsRow_nil _ _ _ _, fun g hg => by cases hg⟩
theorem ColI.empty {w wr : World} (hb : Below w.heap.size w wr) : ColI w (wr.alloc (.cells #[] 3)) [] (some ⟨wr.heap.size, 0, none⟩) 0 :=
  ⟨hb.alloc hb.size _, World.ownsRow_made wr #[] 0 hb.size (by decide) rfl, fun g hg => by simp [Value.ownBlock] at hg; subst hg; simp⟩
theorem ColI.push {w wr w2 w4 : World} {xs : List Int} {A : Option Addr} {c g cap : Nat} {x : Int} {o : Obj} (h : ColI w wr xs A c) (hb : Below wr.heap.size wr w2)
    (hg : (w2.alloc o).grownBy w4 (Value.slice A xs.length c).ownBlock) (hown : w4.ownsRow w.heap.size 3 1 (.slice (some ⟨g, 0, none⟩) (xs.length + 1) cap) (xs.length + 1) (xs.map (Value.int .i64) ++ [.int .i64 x])) :
    ColI w w4 (xs ++ [x]) (some ⟨g, 0, none⟩) cap := by
  have hl : (xs ++ [x]).length = xs.length + 1 := by simp
  refine ⟨((bthen h.below hb).alloc (bthen h.below hb).size _).grown hg (by have := (bthen h.below hb).size; simp; omega) (fun k hk => (h.own.1.lt k hk).1), ?_⟩
  rw [hl]
  exact ⟨by simpa using hown, fun b hb' => (hown.lt b hb').2⟩
theorem news1 (w : World) (x : Value) (t : TypeId) : ∀ j u, [x][j]? = some u → (w.alloc (.cells #[x] t)).cell? ((⟨w.heap.size, 0, none⟩ : Addr).add j) = some u := World.news_of_block (cs := #[x]) (heap_alloc_new w _)
theorem news1s (w : World) (x : Value) (t : TypeId) (n : Nat) (hn : w.heap.size = n) : ∀ j u, [x][j]? = some u → (w.alloc (.cells #[x] t)).cell? ((⟨n, 0, none⟩ : Addr).add j) = some u := hn ▸ news1 w x t

end Go.Proofs.YtokmmloakahkhaaGreat
/-
  Marks on integers (the words and the walks lie in MarkInts).
-/
namespace Go.Proofs.YtokmmloakahkhaaGreat
open Go.RowKit

end Go.Proofs.YtokmmloakahkhaaGreat
/-
  Marks on what is not read again: a store of a number over a number keeps the shape of all that lies there. The words, and the walks of markIntS, markAtom, markLitS, markRule, markRuleS, markProgram.
-/
namespace Go.Proofs.YtokmmloakahkhaaGreat
open Go.RowKit

/-- Blocks outside [lo, hi) are as they were; within, numbers may have become others. -/
structure Marked (lo hi : Nat) (w w' : World) : Prop where
  only : Only lo hi w w'
  cell : ∀ p : Addr, p.block < w.heap.size → w'.cell? p = w.cell? p ∨ ∃ x y, w.cell? p = some (.int .i64 x) ∧ w'.cell? p = some (.int .i64 y)
  frozen : ∀ p : Addr, p.block < w.heap.size → w'.frozen? p = w.frozen? p

section
variable {lo hi : Nat} {w w1 w' : World}
theorem Marked.refl (lo hi : Nat) (w : World) : Marked lo hi w w := ⟨Only.refl _ _ _, fun _ _ => .inl rfl, fun _ _ => rfl⟩
theorem Marked.trans (h : Marked lo hi w w1) (k : Marked lo hi w1 w') : Marked lo hi w w' := by
  refine ⟨h.only.trans k.only, fun p hp => ?_, fun p hp => (k.frozen p (Nat.lt_of_lt_of_le hp h.only.size)).trans (h.frozen p hp)⟩
  rcases h.cell p hp with e | ⟨x, y, e1, e2⟩
  · rcases k.cell p (Nat.lt_of_lt_of_le hp h.only.size) with e' | ⟨x', y', e1', e2'⟩
    · exact .inl (e'.trans e)
    · exact .inr ⟨x', y', e ▸ e1', e2'⟩
  · rcases k.cell p (Nat.lt_of_lt_of_le hp h.only.size) with e' | ⟨x', y', e1', e2'⟩
    · exact .inr ⟨x, y, e1, e'.trans e2⟩
    · exact .inr ⟨x, y', e1, e2'⟩
theorem Marked.of_below (h : Below w.heap.size w w') : Marked lo hi w w' := ⟨Only.of_below h, fun _ hp => .inl (h.cell hp), fun _ hp => h.frozen hp⟩
theorem Marked.store {p : Addr} {x : Int} (hp : lo ≤ p.block ∧ p.block < hi) (hc : w.cell? p = some (.int .i64 x)) (y : Int) : Marked lo hi w (w.setCell p (.int .i64 y)) := by
  refine ⟨(Only.refl _ _ _).setCell hp _, fun q _ => ?_, fun q _ => ?_⟩
  · by_cases e : q = p
    · subst e
      exact .inr ⟨x, y, hc, World.cell?_setCell_same _ _ _ hc⟩
    · exact .inl (World.cell?_setCell_other _ _ _ _ (fun e' => e e'.symm))
  · unfold World.frozen? World.setCell
    rw [Array.getElem?_modify]
    by_cases e : p.block = q.block
    · rw [if_pos e]
      cases hq : w.heap[q.block]? with
      | none => rfl
      | some o => cases o <;> rfl
    · rw [if_neg e]

/-- A slice of n numbers, of blocks from lo on and below hi, that may be written. -/
def WrInts (w : World) (lo hi : Nat) (v : Value) (n : Nat) : Prop :=
  ∃ A c, v = .slice A n c ∧ (0 < n → ∃ b o, A = some ⟨b, o, none⟩ ∧ lo ≤ b ∧ b < hi ∧ ∀ k, k < n → w.frozen? ⟨b, o + k, none⟩ = false ∧ ∃ x, w.cell? ⟨b, o + k, none⟩ = some (.int .i64 x))
theorem Marked.int (h : Marked lo hi w w') {p : Addr} {x : Int} (hc : w.cell? p = some (.int .i64 x)) : ∃ y, w'.cell? p = some (.int .i64 y) := by
  rcases h.cell p (World.block_lt_of_cell? _ _ hc) with e | ⟨_, y, _, e⟩
  · exact ⟨x, e.trans hc⟩
  · exact ⟨y, e⟩
theorem Marked.slice (h : Marked lo hi w w') {p : Addr} {A : Option Addr} {n c : Nat} (hc : w.cell? p = some (.slice A n c)) : w'.cell? p = some (.slice A n c) := by
  rcases h.cell p (World.block_lt_of_cell? _ _ hc) with e | ⟨x, y, e, _⟩
  · exact e.trans hc
  · rw [hc] at e
    cases e
theorem WrInts.marked {v : Value} {n : Nat} (h : WrInts w lo hi v n) (hm : Marked lo hi w w') : WrInts w' lo hi v n := by
  obtain ⟨A, c, rfl, h⟩ := h
  refine ⟨A, c, rfl, fun hn => ?_⟩
  obtain ⟨b, o, rfl, h1, h2, hx⟩ := h hn
  refine ⟨b, o, rfl, h1, h2, fun k hk => ?_⟩
  obtain ⟨hf, x, hc⟩ := hx k hk
  exact ⟨(hm.frozen _ (World.block_lt_of_cell? _ _ hc)).trans hf, hm.int hc⟩
theorem OwnInts.wr {v : Value} {xs : List Int} (h : OwnInts w lo hi v xs) : WrInts w lo hi v xs.length := by
  have hrd := h.rd
  obtain ⟨⟨hlen, h⟩, hlt⟩ := h
  rcases h with ⟨rfl, h0⟩ | ⟨g, cap, cur, rfl, hbg, hg, hn, hm, hs, ht⟩
  · exact ⟨none, 0, by rw [h0], fun hn => absurd hn (by omega)⟩
  · refine ⟨_, cap, rfl, fun hn0 => ⟨g, 0, rfl, hbg, hlt g rfl, fun k hk => ⟨by simp [World.frozen?, hg], ?_⟩⟩⟩
    obtain ⟨A', c', e, _, hx⟩ := hrd
    injection e with e1 _ _
    obtain ⟨b, o, e2, _, hx⟩ := hx hn0
    rw [← e1] at e2
    injection e2 with e2
    injection e2 with e2 e3 _
    subst e2
    subst e3
    exact ⟨_, hx k hk⟩

def WLit (w : World) (lo hi : Nat) (u0 u1 u2 : Value) (l : LLit) : Prop := (∃ x, u0 = .int .i64 x) ∧ (∃ y, u1 = .int .i64 y) ∧ WrInts w lo hi u2 l.2.2.length
def WrLits (w : World) (lo hi : Nat) (v : Value) (ls : List LLit) : Prop := OwnRow WLit w lo hi v ls
theorem OwnLits.wr {v : Value} {ls : List LLit} (h : OwnLits w lo hi v ls) : WrLits w lo hi v ls := by
  obtain ⟨A, c, rfl, hc, h⟩ := h
  refine ⟨A, c, rfl, hc, fun hn => ?_⟩
  obtain ⟨b, o, rfl, h1, h2, hx⟩ := h hn
  refine ⟨b, o, rfl, h1, h2, fun k hk => ?_⟩
  obtain ⟨hf, u0, u1, u2, c0, c1, c2, rfl, rfl, hI⟩ := hx k hk
  exact ⟨hf, _, _, _, c0, c1, c2, ⟨_, rfl⟩, ⟨_, rfl⟩, hI.wr⟩
theorem WrLits.marked {v : Value} {ls : List LLit} (h : WrLits w lo hi v ls) (hm : Marked lo hi w w') : WrLits w' lo hi v ls := by
  obtain ⟨A, c, rfl, hc, h⟩ := h
  refine ⟨A, c, rfl, hc, fun hn => ?_⟩
  obtain ⟨b, o, rfl, h1, h2, hx⟩ := h hn
  refine ⟨b, o, rfl, h1, h2, fun k hk => ?_⟩
  obtain ⟨⟨f0, f1⟩, u0, u1, u2, c0, c1, c2, ⟨x, rfl⟩, ⟨y, rfl⟩, hI⟩ := hx k hk
  obtain ⟨x', d0⟩ := hm.int c0
  obtain ⟨y', d1⟩ := hm.int c1
  obtain ⟨A2, c2', rfl, hi⟩ := hI
  exact ⟨⟨(hm.frozen _ (World.block_lt_of_cell? _ _ c0)).trans f0, (hm.frozen _ (World.block_lt_of_cell? _ _ c1)).trans f1⟩, _, _, _, d0, d1, hm.slice c2, ⟨_, rfl⟩, ⟨_, rfl⟩, WrInts.marked ⟨A2, c2', rfl, hi⟩ hm⟩

def WRule (w : World) (lo hi : Nat) (u0 u1 u2 : Value) (r : LRule) : Prop := (∃ x, u0 = .int .i64 x) ∧ WrInts w lo hi u1 r.1.2.length ∧ WrLits w lo hi u2 r.2
def WrRules (w : World) (lo hi : Nat) (v : Value) (rs : List LRule) : Prop := OwnRow WRule w lo hi v rs
theorem OwnRules.wr {v : Value} {rs : List LRule} (h : OwnRules w lo hi v rs) : WrRules w lo hi v rs := by
  obtain ⟨A, c, rfl, hc, h⟩ := h
  refine ⟨A, c, rfl, hc, fun hn => ?_⟩
  obtain ⟨b, o, rfl, h1, h2, hx⟩ := h hn
  refine ⟨b, o, rfl, h1, h2, fun k hk => ?_⟩
  obtain ⟨hf, u0, u1, u2, c0, c1, c2, rfl, hI, hL⟩ := hx k hk
  exact ⟨hf, _, _, _, c0, c1, c2, ⟨_, rfl⟩, hI.wr, hL.wr⟩
theorem WrRules.marked {v : Value} {rs : List LRule} (h : WrRules w lo hi v rs) (hm : Marked lo hi w w') : WrRules w' lo hi v rs := by
  obtain ⟨A, c, rfl, hc, h⟩ := h
  refine ⟨A, c, rfl, hc, fun hn => ?_⟩
  obtain ⟨b, o, rfl, h1, h2, hx⟩ := h hn
  refine ⟨b, o, rfl, h1, h2, fun k hk => ?_⟩
  obtain ⟨⟨f0, f1⟩, u0, u1, u2, c0, c1, c2, ⟨x, rfl⟩, hI, hL⟩ := hx k hk
  obtain ⟨x', d0⟩ := hm.int c0
  have f1' := (hm.frozen _ (World.block_lt_of_cell? _ _ c1)).trans f1
  obtain ⟨A1, n1, rfl, hi1⟩ := hI
  obtain ⟨A2, n2, rfl, hc2, hi2⟩ := hL
  exact ⟨⟨(hm.frozen _ (World.block_lt_of_cell? _ _ c0)).trans f0, f1'⟩, _, _, _, d0, hm.slice c1, hm.slice c2, ⟨_, rfl⟩, WrInts.marked ⟨A1, n1, rfl, hi1⟩ hm, WrLits.marked ⟨A2, n2, rfl, hc2, hi2⟩ hm⟩
end

set_option maxHeartbeats 400000 in
theorem wmarkIntS_any (v : Value) (n : Nat) (k : Int) (lo hi : Nat) (w : World) (h : WrInts w lo hi v n) (hk0 : 0 ≤ k) (hk : k + n ≤ 4611686018427387904) :
    Calls Tryz.prog 33 #[v, .int .i64 k] w fun e w' => e = .returned (.int .i64 (k + n)) ∧ Marked lo hi w w' := by
  have H := Lib.hid h
  obtain ⟨A, c, rfl, _⟩ := h
  go_enter Tryz.func33, Tryz.ntmps33
  go_wp2_with (fail)
  go_loopw [1, 5] (fun m i wr => ∃ j : Nat, j ≤ n ∧ i = .int .i64 j ∧ m = .int .i64 (k + j) ∧ Marked lo hi w wr) (fun _ i _ => n - (intOf i).toNat)
  case atStart => exact ⟨0, Nat.zero_le _, rfl, by simp, Marked.refl _ _ _⟩
  case round =>
    obtain ⟨j, hj, rfl, rfl, hm⟩ := hrel
    by_cases hlt : j < n
    · obtain ⟨A', c', e, hx⟩ := H.out.marked hm
      injection e with e1 _ _
      subst e1
      obtain ⟨b, o, rfl, h1, h2, hx⟩ := hx (by omega)
      obtain ⟨hf, x, hc⟩ := hx j hlt
      have HM := Lib.hid (hm.trans (Marked.store (p := ⟨b, o + j, none⟩) ⟨h1, h2⟩ hc (k + j)))
      clear hx
      go_wp2_with (fail)
      go_roundw
      case rel => exact ⟨j + 1, by omega, by go_num, by go_num, HM.out⟩
      case measure => simp [intOf]; omega
    · have hkn : j = n := by omega
      have HK := Lib.hid (show k + (j : Int) = k + n by rw [hkn])
      clear hkn
      go_wp2_with (fail)
      go_ret
      exact ⟨ret_int HK.out, hm⟩

/-- How far the marks of literals, of a rule, of rules go. -/
def endL (k : Int) (ls : List LLit) : Int := k + 2 * (ls.length : Int) + (totL ls : Int)

set_option maxHeartbeats 1000000 in
set_option maxRecDepth 100000 in
theorem wmarkLitS_any (v : Value) (ls : List LLit) (k : Int) (lo hi : Nat) (w : World) (h : WrLits w lo hi v ls) (hk0 : 0 ≤ k) (hk : k ≤ 4294967296) (hn : ls.length ≤ 1073741824) (ht : totL ls ≤ 1073741824) :
    Calls Tryz.prog 32 #[v, .int .i64 k] w fun e w' => e = .returned (.int .i64 (endL k ls)) ∧ Marked lo hi w w' := by
  have H := Lib.hid h
  obtain ⟨A, c, rfl, _⟩ := h
  go_enter Tryz.func32, Tryz.ntmps32
  go_wp2_with (fail)
  go_loopw [1, 5] (fun m i wr => ∃ (j : Nat) (q : Int), j ≤ ls.length ∧ i = .int .i64 j ∧ m = .int .i64 q ∧ q = k + 2 * (j : Int) + (totL (ls.take j) : Int) ∧ Marked lo hi w wr) (fun _ i _ => ls.length - (intOf i).toNat)
  case atStart => exact ⟨0, k, Nat.zero_le _, rfl, rfl, by simp [totL], Marked.refl _ _ _⟩
  case round =>
    obtain ⟨j, q, hj, rfl, rfl, hq, hm⟩ := hrel
    by_cases hlt : j < ls.length
    · obtain ⟨A', c', e, _, hx⟩ := H.out.marked hm
      injection e with e1 _ e3
      subst e1
      subst e3
      obtain ⟨b, o, rfl, h1, h2, hx⟩ := hx (by omega)
      obtain ⟨⟨f0, f1⟩, u0, u1, u2, c0, c1, c2, ⟨x, rfl⟩, ⟨y, rfl⟩, hI⟩ := hx j hlt
      have m0 := Marked.store (p := ⟨b, o + j * 3, none⟩) ⟨h1, h2⟩ c0 q
      obtain ⟨y', c1'⟩ := m0.int c1
      have f1' := (m0.frozen ⟨b, o + j * 3 + 1, none⟩ (World.block_lt_of_cell? _ _ c1)).trans f1
      have m1 := Marked.store (p := ⟨b, o + j * 3 + 1, none⟩) ⟨h1, h2⟩ c1' (q + 1)
      have hI2 := hI.marked (m0.trans m1)
      obtain ⟨A3, c3, rfl, _⟩ := hI
      have c2' := (m0.trans m1).slice c2
      have htk := totL_take ls j hlt
      have hle := sum_at (fun l : LLit => l.2.2.length) ls j hlt
      have htl : totL (ls.take j) ≤ totL ls := by
        have := congrArg (fun l => (l.map (fun l : LLit => l.2.2.length)).sum) (List.take_append_drop j ls)
        simp only [List.map_append, List.sum_append] at this
        unfold totL
        omega
      have hle2 : ls[j].2.2.length ≤ totL ls := hle
      clear hle
      have hq0 : 0 ≤ q := by omega
      have hq1 : q ≤ 8589934592 := by omega
      have HI := Lib.hid hI2
      have HM := Lib.hid (hm.trans (m0.trans m1))
      have HQ := Lib.hid (show q + 1 + 1 + (ls[j].2.2.length : Int) = k + 2 * ((j + 1 : Nat) : Int) + (totL (ls.take (j + 1)) : Int) by rw [htk]; omega)
      clear hx m0 m1 hI2 htk htl hq
      go_wp2_with (fail)
      refine (wmarkIntS_any _ _ (q + 1 + 1) lo hi _ HI.out (by omega) (by omega)).mono ?_
      rintro e w3 ⟨rfl, hm3⟩
      have HM3 := Lib.hid (HM.out.trans hm3)
      go_wp2_with (fail)
      go_roundw
      case rel => exact ⟨j + 1, _, by omega, by go_num, rfl, HQ.out, HM3.out⟩
      case measure => simp [intOf]; omega
    · have hkn : j = ls.length := by omega
      have HK := Lib.hid (show q = endL k ls by rw [hq, hkn, List.take_length]; rfl)
      clear hkn hq
      go_wp2_with (fail)
      go_ret
      exact ⟨ret_int HK.out, hm⟩

def endR (k : Int) (r : LRule) : Int := endL (k + (r.1.2.length : Int)) r.2

end Go.Proofs.YtokmmloakahkhaaGreat
/-
  The loop that collects integers; the walk of the specification's RulesOf.
-/
namespace Go.Proofs.YtokmmloakahkhaaGreat
open Go.RowKit

/-- The indexes of rules, of the first k, whose head has a predicate. -/
def rulesTo (rs : List LRule) (pred : Int) (k : Nat) : List Int := ((List.range k).filter fun i => (rs.getD i ((0, []), [])).1.1 == pred).map fun i : Nat => (i : Int)
def rulesOf (p : LProg) (pred : Int) : List Int := rulesTo p.2 pred p.2.length
theorem rulesTo_yes {rs : List LRule} {pred : Int} {k : Nat} (h : k < rs.length) (e : rs[k].1.1 = pred) : rulesTo rs pred (k + 1) = rulesTo rs pred k ++ [(k : Int)] := by
  unfold rulesTo
  rw [List.range_succ, List.filter_append, List.map_append]
  congr 1
  simp [h, e]
theorem rulesTo_no {rs : List LRule} {pred : Int} {k : Nat} (h : k < rs.length) (e : rs[k].1.1 ≠ pred) : rulesTo rs pred (k + 1) = rulesTo rs pred k := by
  unfold rulesTo
  rw [List.range_succ, List.filter_append, List.map_append]
  simp [h, e]
theorem rulesTo_length (rs : List LRule) (pred : Int) (k : Nat) : (rulesTo rs pred k).length ≤ k := by
  unfold rulesTo
  rw [List.length_map]
  exact Nat.le_trans (List.length_filter_le _ _) (by simp)

end Go.Proofs.YtokmmloakahkhaaGreat
/-
  The walk of the program's RulesOf.
-/
namespace Go.Proofs.YtokmmloakahkhaaGreat
open Go.RowKit

end Go.Proofs.YtokmmloakahkhaaGreat
/-
  The specification's renaming: the walks of l2Number and l2Atom.
-/
namespace Go.Proofs.YtokmmloakahkhaaGreat
open Go.RowKit

/-- Block g is a row that holds what the variables have become. -/
def ToAt (w : World) (g : Nat) (s : Ren) : Prop := ∃ a b c d : Int, s.1 = [a, b, c, d] ∧ Blk w g 3 #[.int .i64 a, .int .i64 b, .int .i64 c, .int .i64 d]
theorem ToAt.lt {w : World} {g : Nat} {s : Ren} (h : ToAt w g s) : g < w.heap.size := by
  obtain ⟨_, _, _, _, _, hx⟩ := h
  exact hx.lt
theorem ToAt.below {w w' : World} {g B : Nat} {s : Ren} (h : ToAt w g s) (hb : Below B w w') (hg : g < B) : ToAt w' g s := by
  obtain ⟨a, b, c, d, e, hx⟩ := h
  exact ⟨a, b, c, d, e, hx.below hb hg⟩
theorem ToAt.rd {w : World} {g : Nat} {s : Ren} (h : ToAt w g s) : RdInts w w.heap.size (.slice (some ⟨g, 0, none⟩) 4 4) s.1 := by
  obtain ⟨a, b, c, d, e, hx⟩ := h
  rw [e]
  refine ⟨_, 4, rfl, Nat.le_refl _, fun _ => ⟨g, 0, rfl, hx.lt, fun k hk => ?_⟩⟩
  simp at hk
  match k, hk with
  | 0, _ => exact hx.cell 0
  | 1, _ => exact hx.cell 1
  | 2, _ => exact hx.cell 2
  | 3, _ => exact hx.cell 3
/-- The cell of a variable. -/
theorem ToAt.cell {w : World} {g : Nat} {s : Ren} (h : ToAt w g s) {v : Nat} (hv : v < 4) : w.cell? ⟨g, v, none⟩ = some (.int .i64 (s.1.getD v 0)) ∧ w.frozen? ⟨g, v, none⟩ = false := by
  obtain ⟨a, b, c, d, e, hx⟩ := h
  rw [e]
  refine ⟨?_, hx.frozen v⟩
  match v, hv with
  | 0, _ => exact hx.cell 0
  | 1, _ => exact hx.cell 1
  | 2, _ => exact hx.cell 2
  | 3, _ => exact hx.cell 3
theorem ToAt.store {w : World} {g m m' : Nat} {ts : List Int} (h : ToAt w g (ts, m)) {v : Nat} (hv : v < 4) (y : Int) : ToAt (w.setCell ⟨g, v, none⟩ (.int .i64 y)) g (ts.set v y, m') := by
  obtain ⟨a, b, c, d, e, hx⟩ := h
  simp only at e
  subst e
  match v, hv with
  | 0, _ => exact ⟨y, b, c, d, rfl, by simpa using hx.set_ 0 (.int .i64 y)⟩
  | 1, _ => exact ⟨a, y, c, d, rfl, by simpa using hx.set_ 1 (.int .i64 y)⟩
  | 2, _ => exact ⟨a, b, y, d, rfl, by simpa using hx.set_ 2 (.int .i64 y)⟩
  | 3, _ => exact ⟨a, b, c, y, rfl, by simpa using hx.set_ 3 (.int .i64 y)⟩

theorem renList_big : ∀ (xs : List Int) (s : Ren), (renList s xs).2 ≤ s.2 + xs.length
  | [], s => by simp [renList]
  | t :: xs, s => by
    have h1 := renList_big xs (renStep s t)
    have h2 : (renStep s t).2 ≤ s.2 + 1 := by
      unfold renStep
      split <;> simp
    show (renList (renStep s t) xs).2 ≤ _
    simp only [List.length_cons]
    omega
theorem renStep_yes {ts : List Int} {m v : Nat} {t : Int} (hv : v < 4) (ht : t = -1 - (v : Int)) (h : ts.getD v 0 = 0) : renStep (ts, m) t = (ts.set v (-1 - (m : Int)), m + 1) := by
  have e : (-1 - t).toNat = v := by omega
  have hb : isVarB t = true := by simp [isVarB]; omega
  unfold renStep
  rw [hb, e]
  simp only [h]
  rfl
theorem renStep_skip {ts : List Int} {m v : Nat} {t : Int} (ht : t = -1 - (v : Int)) (h : ts.getD v 0 ≠ 0) : renStep (ts, m) t = (ts, m) := by
  have e : (-1 - t).toNat = v := by omega
  unfold renStep
  rw [e]
  split
  · rename_i hc
    simp only [Bool.and_eq_true, beq_iff_eq] at hc
    exact absurd hc.2 h
  · rfl
theorem term_casesN {t : Int} (h : termOk t = true) : 0 ≤ t ∨ t = -1 ∨ t = -2 ∨ t = -3 ∨ t = -4 := by simp [termOk] at h; omega

/-- What holds at l2Atom's loop: k terms are renamed. -/
structure AtRel (w wr : World) (p : Int) (A : Option Addr) (n c : Nat) (ys : List Int) (A' : Option Addr) (c' : Nat) : Prop where
  below : Below w.heap.size w wr
  src : Blk wr w.heap.size 33 #[.int .i64 p, .slice A n c]
  res : Blk wr (w.heap.size + 1) 33 #[.int .i64 0, .slice none 0 0]
  out : Blk wr (w.heap.size + 2) 33 #[.int .i64 p, .slice A' ys.length c']
  own : wr.ownsRow (w.heap.size + 3) 3 1 (.slice A' ys.length c') ys.length (ys.map (Value.int .i64))
theorem blk_ne_own {w : World} {base n size g : Nat} {e t : TypeId} {v : Value} {xs : List Value} {cs : Array Value} (h : w.ownsRow base e size v n xs) (hb : Blk w g t cs) (hne : e ≠ t) : v.ownBlock ≠ some g := by
  rcases h.2 with ⟨rfl, _⟩ | ⟨g', cap, cur, rfl, _, hh, _⟩
  · simp [Value.ownBlock]
  · intro he
    have : g' = g := by simpa [Value.ownBlock] using he
    subst this
    unfold Blk at hb
    rw [hh] at hb
    injection hb with hb
    injection hb with _ hb
    exact hne hb
theorem AtRel.start (w : World) (p : Int) (A : Option Addr) (n c : Nat) : AtRel w (((w.alloc (Obj.cells #[Value.int IntKind.i64 p, Value.slice A n c] 33)).alloc (Obj.cells #[Value.int IntKind.i64 0, Value.slice none 0 0] 33)).alloc (Obj.cells #[Value.int IntKind.i64 p, Value.slice none 0 0] 33)) p A n c [] none 0 :=
  ⟨below3 _ _ _ _, ((Blk.new w _ _).alloc _).alloc _, by simpa using (Blk.new (w.alloc (Obj.cells #[Value.int IntKind.i64 p, Value.slice A n c] 33)) 33 #[.int .i64 0, .slice none 0 0]).alloc (Obj.cells #[Value.int IntKind.i64 p, Value.slice none 0 0] 33),
    by simpa using Blk.new ((w.alloc (Obj.cells #[Value.int IntKind.i64 p, Value.slice A n c] 33)).alloc (Obj.cells #[Value.int IntKind.i64 0, Value.slice none 0 0] 33)) 33 #[.int .i64 p, .slice none 0 0],
    by simpa using World.ownsRow_nil _ _ _ _⟩
theorem AtRel.step {w wr w2 : World} {p : Int} {A A' : Option Addr} {n c c' g cap : Nat} {ys : List Int} {y : Int} {o : Obj} (hr : AtRel w wr p A n c ys A' c') (hg : (wr.alloc o).grownBy w2 (Value.slice A' ys.length c').ownBlock)
    (hown : w2.ownsRow (w.heap.size + 3) 3 1 (.slice (some ⟨g, 0, none⟩) (ys.length + 1) cap) (ys.length + 1) (ys.map (Value.int .i64) ++ [.int .i64 y])) :
    AtRel w (w2.setCell ⟨w.heap.size + 2, 1, none⟩ (.slice (some ⟨g, 0, none⟩) (ys.length + 1) cap)) p A n c (ys ++ [y]) (some ⟨g, 0, none⟩) cap := by
  obtain ⟨h1, h2, h3, h4, h5⟩ := hr
  have hg' := grown_from_alloc hg
  have keep : ∀ {b : Nat} {cs : Array Value}, Blk wr b 33 cs → Blk w2 b 33 cs := fun hb => (hg'.block _ hb.lt (fun e => blk_ne_own h5 hb (by decide) e.symm)).trans hb
  have hl : (ys ++ [y]).length = ys.length + 1 := by simp
  have hs := h4.lt
  refine ⟨(h1.grown hg' h1.size (fun b hb => by have := (h5.lt b hb).1; omega)).setCell (by show w.heap.size ≤ w.heap.size + 2; omega) _, (keep h2).far (by show w.heap.size ≠ w.heap.size + 2; omega) _, (keep h3).far (by show w.heap.size + 1 ≠ w.heap.size + 2; omega) _, ?_, ?_⟩
  · rw [hl]
    exact (keep h4).set_ 1 _
  · rw [hl, List.map_append]
    exact ownsRow_only hown (fun b hb => Below.heap_setCell _ _ _ _ (fun e => blk_ne_own hown (keep h4) (by decide) (by rw [hb, e])))

end Go.Proofs.YtokmmloakahkhaaGreat
