/-
  FactOrder's contract with its worlds written out: draws on, and blocks behind.
-/
import Derived.Test.YtehjhdihaloalaaFactOrder
import Derived.Sort.Grow
namespace Go.Proofs.Ytehjhdihaloalaa
open Go.RowKit Go.Sort

/-- W is w some draws on, with blocks laid behind it. -/
def Gr (w W : World) : Prop := ∃ q os, W = grow (w.drewN q) os
theorem Gr.refl (w : World) : Gr w w := ⟨0, #[], by simp [grow, World.drewN]⟩
theorem Gr.alloc {w W : World} (h : Gr w W) (o : Obj) : Gr w (W.alloc o) := by
  obtain ⟨q, os, rfl⟩ := h
  exact ⟨q, os.push o, by simp [grow, World.alloc]⟩
theorem Gr.drew {w W : World} (h : Gr w W) : Gr w W.drew := by
  obtain ⟨q, os, rfl⟩ := h
  exact ⟨q + 1, os, rfl⟩
theorem Gr.drewN {w W : World} (h : Gr w W) (n : Nat) : Gr w (W.drewN n) := by
  obtain ⟨q, os, rfl⟩ := h
  exact ⟨q + n, os, by simp [grow, World.drewN, Nat.add_assoc]⟩
theorem Gr.trans {w w1 W : World} (h : Gr w w1) (k : Gr w1 W) : Gr w W := by
  obtain ⟨q, os, rfl⟩ := h
  obtain ⟨q', os', rfl⟩ := k
  exact ⟨q + q', os ++ os', by simp [grow, World.drewN, Nat.add_assoc, Array.append_assoc]⟩
theorem Gr.below {w W : World} (h : Gr w W) : Below w.heap.size w W := by
  obtain ⟨q, os, rfl⟩ := h
  exact ⟨rfl, rfl, rfl, by simp [grow, World.drewN], fun k hk => by simp [grow, World.drewN, Array.getElem?_append, hk]⟩

set_option maxHeartbeats 400000 in
set_option maxRecDepth 100000 in
theorem implFactOrder_grow (v v2 : Value) (f g : LFact) (w : World) (h : RdFact w w.heap.size v f) (h2 : RdFact w w.heap.size v2 g) (hn : f.2.length ≤ 1048576) (hn2 : g.2.length ≤ 1048576) :
    Calls Try.prog 67 #[v, v2] w fun e w' => e = .returned (.int .i64 (factOrder f g)) ∧ Gr w w' := by
  obtain ⟨a, rfl, h⟩ := h
  have H := Lib.hid h
  obtain ⟨A, c, rfl, hc, _⟩ := h
  obtain ⟨a, rfl, h2⟩ := h2
  have H2 := Lib.hid h2
  obtain ⟨A2, c2, rfl, hc2, _⟩ := h2
  have HF := Lib.hid (factOrder_or f g)
  go_enter Try.func67, Try.ntmps67
  go_wp2_with (fail)
  obtain ⟨w1, hw1⟩ : ∃ w1, w1 = ((w.alloc (Obj.cells #[Value.int IntKind.i64 f.1, Value.slice A f.2.length c] 28)).alloc (Obj.cells #[Value.int IntKind.i64 g.1, Value.slice A2 g.2.length c2] 28)) := ⟨_, rfl⟩
  have B1 : Gr w w1 := by rw [hw1]; exact ((Gr.refl _).alloc _).alloc _
  have k0 : Blk w1 w.heap.size 28 #[.int .i64 f.1, .slice A f.2.length c] := by rw [hw1]; exact (Blk.new w _ _).alloc _
  have k1 : Blk w1 (w.heap.size + 1) 28 #[.int .i64 g.1, .slice A2 g.2.length c2] := by rw [hw1]; simpa using Blk.new (w.alloc (Obj.cells #[Value.int IntKind.i64 f.1, Value.slice A f.2.length c] 28)) 28 #[.int .i64 g.1, .slice A2 g.2.length c2]
  rw [← hw1]
  clear hw1
  have HS0 := Lib.hid (show ∀ W, Gr w1 W → (Gr w1 W ∧ W.cell? ⟨w.heap.size, 0, none⟩ = some (.int .i64 f.1) ∧ W.cell? ⟨w.heap.size, 1, none⟩ = some (.slice A f.2.length c) ∧ W.cell? ⟨w.heap.size + 1, 0, none⟩ = some (.int .i64 g.1) ∧ W.cell? ⟨w.heap.size + 1, 1, none⟩ = some (.slice A2 g.2.length c2)) from
    fun W hW => ⟨hW, (k0.below hW.below k0.lt).cell 0, (k0.below hW.below k0.lt).cell 1, (k1.below hW.below k1.lt).cell 0, (k1.below hW.below k1.lt).cell 1⟩)
  go_region_held3 (fun W => Gr w1 W ∧ W.cell? ⟨w.heap.size, 0, none⟩ = some (.int .i64 f.1) ∧ W.cell? ⟨w.heap.size, 1, none⟩ = some (.slice A f.2.length c) ∧ W.cell? ⟨w.heap.size + 1, 0, none⟩ = some (.int .i64 g.1) ∧ W.cell? ⟨w.heap.size + 1, 1, none⟩ = some (.slice A2 g.2.length c2))
    (first | assumption | exact HS0.out _ (Gr.refl _) | exact HS0.out _ ((Gr.refl _).alloc _).drew | exact HS0.out _ (Gr.refl _).drew | exact HS0.out _ ((And.left (by assumption) : Gr w1 _).alloc _) | exact HS0.out _ (And.left (by assumption) : Gr w1 _).drew | (refine HS0.out _ ?_; go_goals; fail))
    (first
      | (go_at_call 93; refine (cmpCompare_any _ _ _).mono ?_; rintro e w' ⟨rfl, rfl⟩)
      | (go_at_call 94; refine (slicesCompare_any _ _ f.2 g.2 _ ?_ ?_ (by omega) (by omega)).mono ?_; exact H.out.on (bthen B1.below (And.left (by assumption) : Gr w1 _).below); exact H2.out.on (bthen B1.below (And.left (by assumption) : Gr w1 _).below); rintro e w' ⟨rfl, rfl⟩)
      | (go_at_call 92; refine (cmpOr_any _ (cmpI f.1 g.1) (cmpL f.2 g.2) _ ?_).mono ?_; exact rdInts_pair _ _ _; rintro e w' ⟨rfl, rfl⟩))
  all_goals
    go_wp2_with (fail)
    go_ret
    exact ⟨ret_int HF.out, B1.trans (And.left (by assumption))⟩

end Go.Proofs.Ytehjhdihaloalaa
