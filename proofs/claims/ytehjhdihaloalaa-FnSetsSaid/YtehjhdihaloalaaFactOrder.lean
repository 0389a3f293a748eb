/-
  The walks of FactOrder: the program's (with cmp.Or) and the specification's.
-/
import Derived.Test.YtehjhdihaloalaaOrder
import Derived.Deep.RegionHeld3
import Derived.Deep.DeepCutAuto
namespace Go.Proofs.Ytehjhdihaloalaa
open Go.RowKit

def orI (a b : Int) : Int := if a = 0 then b else a

set_option maxHeartbeats 400000 in
theorem cmpOr_any (v : Value) (a b : Int) (w : World) (h : RdInts w w.heap.size v [a, b]) :
    Calls Try.prog 92 #[v] w fun e w' => e = .returned (.int .i64 (orI a b)) ∧ w = w' := by
  obtain ⟨A, c, rfl, hc, ha⟩ := h
  obtain ⟨bb, o, rfl, hbB, hx⟩ := ha (by simp)
  have h0 : w.cell? ⟨bb, o, none⟩ = some (.int .i64 a) := by simpa using hx 0 (by simp)
  have h1 : w.cell? ⟨bb, o + 1, none⟩ = some (.int .i64 b) := by simpa using hx 1 (by simp)
  clear hx ha
  have hll : ([a, b] : List Int).length = 2 := rfl
  rw [hll]
  go_enter Try.func92, Try.ntmps92
  go_wp2_with (fail)
  go_loop [5, 8] (fun _ i => ∃ k : Nat, k ≤ 2 ∧ i = .int .i64 k ∧ (0 < k → a = 0) ∧ (1 < k → b = 0)) (fun _ i => 2 - (intOf i).toNat)
  case atStart => exact ⟨0, by omega, rfl, fun h => absurd h (by omega), fun h => absurd h (by omega)⟩
  case round =>
    obtain ⟨k, hk, rfl, hk0, hk1⟩ := hrel
    match k, hk with
    | 0, _ =>
      clear hk0 hk1
      by_cases ha0 : a = 0
      · subst ha0
        go_wp2_with (fail)
        go_round
        case rel => exact ⟨1, by omega, rfl, by simp, fun h => absurd h (by omega)⟩
        case measure => simp [intOf]
      · have hb : (a != 0) = true := by simpa using ha0
        have HE := Lib.hid (show orI a b = a by simp [orI, ha0])
        clear ha0
        go_wp2_with (fail)
        go_ret
        exact ⟨ret_int HE.out.symm, rfl⟩
    | 1, _ =>
      have ha0 := hk0 (by omega)
      clear hk0 hk1
      subst ha0
      by_cases hb0 : b = 0
      · subst hb0
        go_wp2_with (fail)
        go_round
        case rel => exact ⟨2, by omega, rfl, by simp, by simp⟩
        case measure => simp [intOf]
      · have hb : (b != 0) = true := by simpa using hb0
        have HE := Lib.hid (show orI 0 b = b by simp [orI])
        clear hb0
        go_wp2_with (fail)
        go_ret
        exact ⟨ret_int HE.out.symm, rfl⟩
    | 2, _ =>
      have ha0 := hk0 (by omega)
      have hb0 := hk1 (by omega)
      clear hk0 hk1
      subst ha0
      subst hb0
      go_wp2_with (fail)
      go_ret
      exact ⟨ret_int rfl, rfl⟩

theorem factOrder_or (f g : LFact) : orI (cmpI f.1 g.1) (cmpL f.2 g.2) = factOrder f g := by
  unfold orI factOrder
  by_cases h : f.1 = g.1
  · rw [if_pos h, h, cmpI_self, if_pos rfl]
  · rw [if_neg h, if_neg (cmpI_ne h)]

set_option maxHeartbeats 400000 in
set_option maxRecDepth 100000 in
theorem implFactOrder_any (v v2 : Value) (f g : LFact) (w : World) (h : RdFact w w.heap.size v f) (h2 : RdFact w w.heap.size v2 g) (hn : f.2.length ≤ 1048576) (hn2 : g.2.length ≤ 1048576) :
    Calls Try.prog 67 #[v, v2] w fun e w' => e = .returned (.int .i64 (factOrder f g)) ∧ Below w.heap.size w w' := by
  obtain ⟨a, rfl, h⟩ := h
  have H := Lib.hid h
  obtain ⟨A, c, rfl, hc, _⟩ := h
  obtain ⟨a, rfl, h2⟩ := h2
  have H2 := Lib.hid h2
  obtain ⟨A2, c2, rfl, hc2, _⟩ := h2
  have HF := Lib.hid (factOrder_or f g)
  go_enter Try.func67, Try.ntmps67
  go_wp2_with (fail)
  obtain ⟨w1, hw1⟩ : ∃ w1, w1 = ((w.alloc (Obj.cells #[Value.int IntKind.i64 f.1, Value.slice A f.2.length c] 28)).alloc (Obj.cells #[Value.int IntKind.i64 g.1, Value.slice A2 g.2.length c2] 28)) := ⟨_, rfl⟩
  have B1 : Below w.heap.size w w1 := by rw [hw1]; exact below2 _ _ _
  have k0 : Blk w1 w.heap.size 28 #[.int .i64 f.1, .slice A f.2.length c] := by rw [hw1]; exact (Blk.new w _ _).alloc _
  have k1 : Blk w1 (w.heap.size + 1) 28 #[.int .i64 g.1, .slice A2 g.2.length c2] := by rw [hw1]; simpa using Blk.new (w.alloc (Obj.cells #[Value.int IntKind.i64 f.1, Value.slice A f.2.length c] 28)) 28 #[.int .i64 g.1, .slice A2 g.2.length c2]
  rw [← hw1]
  clear hw1
  have HS0 := Lib.hid (show ∀ W, Below w1.heap.size w1 W → (Below w1.heap.size w1 W ∧ W.cell? ⟨w.heap.size, 0, none⟩ = some (.int .i64 f.1) ∧ W.cell? ⟨w.heap.size, 1, none⟩ = some (.slice A f.2.length c) ∧ W.cell? ⟨w.heap.size + 1, 0, none⟩ = some (.int .i64 g.1) ∧ W.cell? ⟨w.heap.size + 1, 1, none⟩ = some (.slice A2 g.2.length c2)) from
    fun W hW => ⟨hW, (k0.below hW k0.lt).cell 0, (k0.below hW k0.lt).cell 1, (k1.below hW k1.lt).cell 0, (k1.below hW k1.lt).cell 1⟩)
  go_region_held3 (fun W => Below w1.heap.size w1 W ∧ W.cell? ⟨w.heap.size, 0, none⟩ = some (.int .i64 f.1) ∧ W.cell? ⟨w.heap.size, 1, none⟩ = some (.slice A f.2.length c) ∧ W.cell? ⟨w.heap.size + 1, 0, none⟩ = some (.int .i64 g.1) ∧ W.cell? ⟨w.heap.size + 1, 1, none⟩ = some (.slice A2 g.2.length c2))
    (first | assumption | exact HS0.out _ (Below.refl _ _) | exact HS0.out _ (below1 _ _).drew | exact HS0.out _ (Below.refl _ _).drew | exact HS0.out _ (bthen (And.left (by assumption)) (by assumption)) | (refine HS0.out _ ?_; go_goals; fail))
    (first
      | (go_at_call 93; refine (cmpCompare_any _ _ _).mono ?_; rintro e w' ⟨rfl, rfl⟩)
      | (go_at_call 94; refine (slicesCompare_any _ _ f.2 g.2 _ ?_ ?_ (by omega) (by omega)).mono ?_; exact H.out.on (bthen B1 (And.left (by assumption))); exact H2.out.on (bthen B1 (And.left (by assumption))); rintro e w' ⟨rfl, rfl⟩)
      | (go_at_call 92; refine (cmpOr_any _ (cmpI f.1 g.1) (cmpL f.2 g.2) _ ?_).mono ?_; exact rdInts_pair _ _ _; rintro e w' ⟨rfl, rfl⟩))
  all_goals
    go_wp2_with (fail)
    go_ret
    exact ⟨ret_int HF.out, bthen B1 (And.left (by assumption))⟩

end Go.Proofs.Ytehjhdihaloalaa
