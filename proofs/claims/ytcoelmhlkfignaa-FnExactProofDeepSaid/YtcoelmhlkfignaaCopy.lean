/-
  The walks that copy a fact: the program's copyFact, the specification's l1Copy.
-/
import Derived.Test.YtcoelmhlkfignaaAppend
import Derived.Test.YtcoelmhlkfignaaMark
import Derived.Deep.RegionHeld3
namespace Go.Proofs.Ytcoelmhlkfignaa
open Go.RowKit

theorem Only.keepsRd {lo hi : Nat} {w w' : World} (h : Only lo hi w w') {v : Value} {xs : List Int} {B : Nat} (hr : RdInts w B v xs) (hB : B ≤ lo) (hs : B ≤ w.heap.size) : RdInts w' w'.heap.size v xs :=
  (hr.below (h.below hB hs) (Nat.le_refl _)).more (Nat.le_trans hs h.size)
theorem Only.blk {lo hi : Nat} {w w' : World} (h : Only lo hi w w') {g : Nat} {t : TypeId} {cs : Array Value} (hb : Blk w g t cs) (hg : g < lo ∨ hi ≤ g) : Blk w' g t cs := (h.block g hb.lt hg).trans hb

set_option maxHeartbeats 1000000 in
set_option maxRecDepth 100000 in
theorem copyFact_any (v : Value) (f : LFact) (w : World) (h : RdFact w w.heap.size v f) (hn : f.2.length ≤ 1073741824) :
    Calls Try.prog 43 #[v] w fun e w' => ∃ A' c', e = .returned (.agg #[.int .i64 f.1, .slice A' f.2.length c']) ∧ OwnInts w' w.heap.size w'.heap.size (.slice A' f.2.length c') f.2 ∧ Below w.heap.size w w' := by
  obtain ⟨i0, hi0, hz0, hz1, hz2⟩ := info_parts Try.infoInt
  obtain ⟨a, rfl, h⟩ := h
  have H := Lib.hid h
  obtain ⟨A, c, rfl, hc, _⟩ := h
  go_enter Try.func43, Try.ntmps43
  go_wp2_with (fail)
  obtain ⟨w1, hw1⟩ : ∃ w1, w1 = ((w.alloc (Obj.cells #[Value.int IntKind.i64 f.1, Value.slice A f.2.length c] 44)).alloc (Obj.cells #[Value.int IntKind.i64 0, Value.slice none 0 0] 44)) := ⟨_, rfl⟩
  have B1 : Below w.heap.size w w1 := by rw [hw1]; exact below2 _ _ _
  have hsz1 : w1.heap.size = w.heap.size + 2 := by rw [hw1]; simp
  have HZ := Lib.hid hsz1
  have k0 : Blk w1 w.heap.size 44 #[.int .i64 f.1, .slice A f.2.length c] := by rw [hw1]; exact (Blk.new w _ _).alloc _
  have k1 : Blk w1 (w.heap.size + 1) 44 #[.int .i64 0, .slice none 0 0] := by rw [hw1]; simpa using Blk.new (w.alloc (Obj.cells #[Value.int IntKind.i64 f.1, Value.slice A f.2.length c] 44)) 44 #[.int .i64 0, .slice none 0 0]
  rw [← hw1]
  clear hw1 hsz1
  have HS0 := Lib.hid (show ∀ W, Below w1.heap.size w1 W → (Below w.heap.size w W ∧ W.cell? ⟨w.heap.size, 0, none⟩ = some (.int .i64 f.1) ∧ W.cell? ⟨w.heap.size, 1, none⟩ = some (.slice A f.2.length c) ∧ ∃ u0 u1, Blk W (w.heap.size + 1) 44 #[u0, u1]) from
    fun W hW => ⟨bthen B1 hW, (k0.below hW k0.lt).cell 0, (k0.below hW k0.lt).cell 1, _, _, k1.below hW k1.lt⟩)
  have HS1 := Lib.hid (show ∀ W W', (Below w.heap.size w W ∧ W.cell? ⟨w.heap.size, 0, none⟩ = some (.int .i64 f.1) ∧ W.cell? ⟨w.heap.size, 1, none⟩ = some (.slice A f.2.length c) ∧ ∃ u0 u1, Blk W (w.heap.size + 1) 44 #[u0, u1]) → W.grownBy W' none →
      (Below w.heap.size w W' ∧ W'.cell? ⟨w.heap.size, 0, none⟩ = some (.int .i64 f.1) ∧ W'.cell? ⟨w.heap.size, 1, none⟩ = some (.slice A f.2.length c) ∧ ∃ u0 u1, Blk W' (w.heap.size + 1) 44 #[u0, u1]) from
    fun W W' ⟨a1, a2, a3, u0, u1, a4⟩ hg => ⟨a1.trans (Below.grown (Below.refl _ _) hg a1.size (fun k hk => by cases hk)), hg.cell a2 (by simp), hg.cell a3 (by simp), u0, u1, (hg.block _ a4.lt (by simp)).trans a4⟩)
  have HS2 := Lib.hid (show ∀ W i v, (Below w.heap.size w W ∧ W.cell? ⟨w.heap.size, 0, none⟩ = some (.int .i64 f.1) ∧ W.cell? ⟨w.heap.size, 1, none⟩ = some (.slice A f.2.length c) ∧ ∃ u0 u1, Blk W (w.heap.size + 1) 44 #[u0, u1]) →
      (Below w.heap.size w (W.setCell ⟨w.heap.size + 1, i, none⟩ v) ∧ (W.setCell ⟨w.heap.size + 1, i, none⟩ v).cell? ⟨w.heap.size, 0, none⟩ = some (.int .i64 f.1) ∧ (W.setCell ⟨w.heap.size + 1, i, none⟩ v).cell? ⟨w.heap.size, 1, none⟩ = some (.slice A f.2.length c) ∧ ∃ u0 u1, Blk (W.setCell ⟨w.heap.size + 1, i, none⟩ v) (w.heap.size + 1) 44 #[u0, u1]) from
    fun W i v ⟨a1, a2, a3, u0, u1, a4⟩ => ⟨a1.setCell (by show w.heap.size ≤ w.heap.size + 1; omega) _, by rw [World.cell?_setCell_other _ _ _ _ (by simp)]; exact a2, by rw [World.cell?_setCell_other _ _ _ _ (by simp)]; exact a3, by
      have h := a4.set_ i v
      match i with
      | 0 => exact ⟨_, _, h⟩
      | 1 => exact ⟨_, _, h⟩
      | i + 2 => exact ⟨u0, u1, h⟩⟩)
  have HS3 := Lib.hid (show ∀ (W : World) (v' : Value), (Below w.heap.size w W ∧ W.cell? ⟨w.heap.size, 0, none⟩ = some (.int .i64 f.1) ∧ W.cell? ⟨w.heap.size, 1, none⟩ = some (.slice A f.2.length c) ∧ ∃ u0 u1, Blk W (w.heap.size + 1) 44 #[u0, u1]) →
      (v'.ownBlock = (Value.slice none 0 0).ownBlock ∨ v'.ownBlock = some W.heap.size) → ∀ g, v'.ownBlock = some g → g ≠ w.heap.size + 1 from
    fun W v' ⟨_, _, _, u0, u1, a4⟩ h g hg => by
      have := a4.lt
      rcases h with h | h
      · rw [h] at hg; cases hg
      · rw [h] at hg; injection hg; omega)
  go_region_held3 (fun W => Below w.heap.size w W ∧ W.cell? ⟨w.heap.size, 0, none⟩ = some (.int .i64 f.1) ∧ W.cell? ⟨w.heap.size, 1, none⟩ = some (.slice A f.2.length c) ∧ ∃ u0 u1, Blk W (w.heap.size + 1) 44 #[u0, u1])
    (first | assumption | exact HS0.out _ (Below.refl _ _) | exact HS0.out _ (Below.refl _ _).drew | exact HS1.out _ _ (by assumption) (by assumption) | exact HS2.out _ _ _ (HS2.out _ _ _ (by assumption)))
    (first
      | (refine step_append_rd _ rfl (.const (.slice none 0 0)) (.tmp 6) 38 rfl w.heap.size 3 i0 (.int .i64 0) 8 Try.underlying38 hi0 hz0 hz1 hz2 rfl (.slice none 0 0) 0 [] rfl (World.ownsRow_nil _ _ _ _) w.heap.size _ f.2 rfl ?_ (by unfold maxLen; omega) (by omega) ?_ ?_
         · exact H.out.below (And.left (by assumption)) (Nat.le_refl _)
         · exact Below.size (And.left (by assumption))
         intro A' c' w2 hown hg hat
         have hne := HS3.out _ _ (by assumption) hat
         obtain ⟨hbe, _, _, u0, u1, hblk⟩ := HS1.out _ _ (by assumption) hg
         have c0 : w2.cell? ⟨w.heap.size + 1, 0, none⟩ = some u0 := hblk.cell 0
         have c1 : w2.cell? ⟨w.heap.size + 1, 1, none⟩ = some u1 := hblk.cell 1
         have f0 := hblk.frozen 0
         have f1 := hblk.frozen 1
         have HO := Lib.hid (show OwnInts w2 w.heap.size w2.heap.size (.slice A' f.2.length c') f.2 from ⟨by simpa using hown, fun g hg' => (hown.lt g (by simpa using hg')).2⟩)
         clear hown hat))
  all_goals
    go_wp2_with (fail)
    refine bodyPost_ret (v := .agg #[.int .i64 f.1, .slice A' f.2.length c']) (by simp [results, Try.results43, go_sem, c0, c1]) rfl ⟨_, _, rfl, ?_, ?_⟩
    · exact (HO.out.kept (fun g hg' => (Below.heap_setCell _ _ _ _ (hne g (by simpa using hg'))).trans (Below.heap_setCell _ _ _ _ (hne g (by simpa using hg'))))).mono (Nat.le_refl _) (by simp)
    · exact (hbe.setCell (by show w.heap.size ≤ w.heap.size + 1; omega) _).setCell (by show w.heap.size ≤ w.heap.size + 1; omega) _

end Go.Proofs.Ytcoelmhlkfignaa
