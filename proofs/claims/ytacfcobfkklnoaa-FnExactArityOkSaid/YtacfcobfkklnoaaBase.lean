/-
  Words for memory that this seat's proofs share: integers that a slice reads as; facts; rows of the call's own.
-/
import Derived.Below
import Derived.Laws.OwnMore
import Derived.Deep.AppendLies
import Derived.Deep.Draws
import Derived.Deep.OwnRows
import Derived.Lib.Hide
import Derived.OwnWalk
namespace Go.Proofs.Ytacfcobfkklnoaa
open Go.RowKit

theorem bdrewN {B : Nat} {a w : World} (h : Below B a w) (n : Nat) : Below B a (w.drewN n) := ⟨h.os, h.tape, h.output, h.size, h.block⟩

/-- What follows on a world that is below-kept, keeps. -/
theorem bthen {w w1 w2 : World} (h : Below w.heap.size w w1) (k : Below w1.heap.size w1 w2) : Below w.heap.size w w2 := h.trans (k.mono h.size)

theorem ret_bool {a b : Bool} (h : a = b) : Ending.returned (.bool a) = .returned (.bool b) := by rw [h]
theorem ret_int {k : IntKind} {a b : Int} (h : a = b) : Ending.returned (.int k a) = .returned (.int k b) := by rw [h]

/-- The slice value v reads as the integers xs, in blocks below B. -/
def RdInts (w : World) (B : Nat) (v : Value) (xs : List Int) : Prop :=
  ∃ A c, v = .slice A xs.length c ∧ xs.length ≤ c ∧ (0 < xs.length → ∃ b o, A = some ⟨b, o, none⟩ ∧ b < B ∧ ∀ k (h : k < xs.length), w.cell? ⟨b, o + k, none⟩ = some (.int .i64 xs[k]))

theorem RdInts.below {w w' : World} {B B' : Nat} {v : Value} {xs : List Int} (h : RdInts w B v xs) (hb : Below B' w w') (hB : B ≤ B') : RdInts w' B v xs := by
  obtain ⟨A, c, rfl, hc, h⟩ := h
  refine ⟨A, c, rfl, hc, fun hn => ?_⟩
  obtain ⟨b, o, rfl, hlt, hk⟩ := h hn
  exact ⟨b, o, rfl, hlt, fun k hkl => (hb.cell (p := ⟨b, o + k, none⟩) (by show b < B'; omega)).trans (hk k hkl)⟩

theorem RdInts.more {w : World} {B B' : Nat} {v : Value} {xs : List Int} (h : RdInts w B v xs) (hB : B ≤ B') : RdInts w B' v xs := by
  obtain ⟨A, c, rfl, hc, h⟩ := h
  refine ⟨A, c, rfl, hc, fun hn => ?_⟩
  obtain ⟨b, o, rfl, hlt, hk⟩ := h hn
  exact ⟨b, o, rfl, by omega, hk⟩

/-- A row of the call's own, of blocks from lo on and below hi, that holds the integers xs: nil, or the head of a block. -/
def OwnInts (w : World) (lo hi : Nat) (v : Value) (xs : List Int) : Prop :=
  w.ownsRow lo 3 1 v xs.length (xs.map (Value.int .i64)) ∧ ∀ g, v.ownBlock = some g → g < hi

theorem OwnInts.rd {w : World} {lo hi : Nat} {v : Value} {xs : List Int} (h : OwnInts w lo hi v xs) : RdInts w hi v xs := by
  obtain ⟨h, hlt⟩ := h
  have hcells := @World.ownsRow.cells w lo 3 1 v xs.length (xs.map (Value.int .i64)) h
  obtain ⟨hlen, h⟩ := h
  rcases h with ⟨rfl, h0⟩ | ⟨g, cap, cur, rfl, hb, hg, hn, hm, hs, ht⟩
  · have : xs = [] := List.eq_nil_of_length_eq_zero h0
    subst this
    exact ⟨none, 0, rfl, by simp, fun h => absurd h (by simp)⟩
  · refine ⟨_, cap, rfl, hn, fun _ => ⟨g, 0, rfl, hlt g rfl, fun k hk => ?_⟩⟩
    have := hcells (g := g) rfl k (.int .i64 xs[k]) (by simp [hk])
    have e : (⟨g, 0, none⟩ : Addr).add k = ⟨g, 0 + k, none⟩ := by unfold Addr.add; split <;> simp_all
    rw [← e]
    exact this

theorem OwnInts.below {w w' : World} {lo hi B : Nat} {v : Value} {xs : List Int} (h : OwnInts w lo hi v xs) (hb : Below B w w') (hB : hi ≤ B) : OwnInts w' lo hi v xs := by
  obtain ⟨⟨hlen, h⟩, hlt⟩ := h
  refine ⟨⟨hlen, ?_⟩, hlt⟩
  rcases h with h | ⟨g, cap, cur, rfl, hbg, hg, r⟩
  · exact .inl h
  · exact .inr ⟨g, cap, cur, rfl, hbg, by rw [hb.block g (by have := hlt g rfl; omega)]; exact hg, r⟩

/-- A row that make laid and a loop filled is a row of one's own. -/
theorem OwnInts.of_rowIs {w : World} {g lo hi : Nat} {xs : List Int} (h : w.rowIs g 3 xs.length (fun j => .int .i64 (xs.getD j 0))) (hlo : lo ≤ g) (hhi : g < hi) (hm : xs.length ≤ maxLen) :
    OwnInts w lo hi (.slice (some ⟨g, 0, none⟩) xs.length xs.length) xs := by
  obtain ⟨c, hb, hn, hc⟩ := h
  refine ⟨⟨by simp, .inr ⟨g, xs.length, c, rfl, hlo, hb, Nat.le_refl _, hm, by simp [hn], ?_⟩⟩, fun g' hg' => ?_⟩
  · apply List.ext_getElem?
    intro j
    by_cases hj : j < xs.length
    · rw [List.getElem?_take_of_lt (by omega), Array.getElem?_toList, hc j hj]
      simp [hj]
    · rw [List.getElem?_eq_none (by simp; omega), List.getElem?_eq_none (by simp; omega)]
  · simp [Value.ownBlock] at hg'
    omega

end Go.Proofs.Ytacfcobfkklnoaa
