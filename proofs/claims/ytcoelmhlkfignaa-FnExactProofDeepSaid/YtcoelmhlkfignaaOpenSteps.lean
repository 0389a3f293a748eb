/-
  What comes in, opened: steps.
-/
import Derived.Test.YtcoelmhlkfignaaChecked
import Derived.Test.YtcoelmhlkfignaaUStepsZ
import Derived.Test.YtcoelmhlkfignaaOpenInts
import Derived.ProofKit
import Derived.OpenShut
import Derived.ChangeOld
import Derived.WalkKit
import Derived.Deep.Slices
import Derived.Deep.Fields
import Derived.ChangeSame
import Derived.Lib.SmallJoins
import Derived.KernelRfl
namespace Go.Proofs.Ytcoelmhlkfignaa
open Go.ChangeShapes Go.WideShapes Go.ChangeAt Go.RowKit Go.Joins Go.Deep

theorem Try.cellsS40 : Try.prog.cellsOf 40 = 2 := by kernel_rfl
theorem Try.cells42 : Try.prog.cellsOf 42 = 5 := by kernel_rfl

section
variable {H : Type} {enc : TypeId × Value → H} {P : Program} {w W : World} {base : Nat} {spare : Nat → Bool} {held : Bool}
theorem trod_struct4S {t : TypeId} {f0 f1 f2 f3 : Field} {fuel : Nat} {cs : List Value} {x : DataW H × List MemPlace} (ht : P.underlying t = some (.struct #[f0, f1, f2, f3])) (h : DataW.trod enc P w base spare held fuel t cs = some x) :
    ∃ y0 y1 y2 y3 n, cs.length = P.cellsOf t ∧ DataW.trod enc P w base spare held n f0.type ((cs.drop f0.offset).take (P.cellsOf f0.type)) = some y0 ∧
      DataW.trod enc P w base spare held n f1.type ((cs.drop f1.offset).take (P.cellsOf f1.type)) = some y1 ∧ DataW.trod enc P w base spare held n f2.type ((cs.drop f2.offset).take (P.cellsOf f2.type)) = some y2 ∧
      DataW.trod enc P w base spare held n f3.type ((cs.drop f3.offset).take (P.cellsOf f3.type)) = some y3 := by
  obtain ⟨xs, n, _, rfl, hl, hlen, hf⟩ := DataW.trod_struct ht h
  match xs, hlen with
  | [y0, y1, y2, y3], _ => exact ⟨y0, y1, y2, y3, n, hl, by simpa using hf 0 f0 rfl, by simpa using hf 1 f1 rfl, by simpa using hf 2 f2 rfl, by simpa using hf 3 f3 rfl⟩

set_option maxRecDepth 100000 in
theorem open_factS_cells {fuel : Nat} {v0 v1 : Value} {x : DataW H × List MemPlace} (h : DataW.trod enc Try.prog W 0 (fun _ => true) true fuel 40 [v0, v1] = some x) : ∃ f : LFact, v0 = .int .i64 f.1 ∧ InInts W v1 f.2 := by
  obtain ⟨y0, y1, n, _, _, h0, h1⟩ := trod_struct2 Try.underlying40 h
  rw [Try.cells3] at h0
  rw [Try.cells38] at h1
  obtain ⟨m, e0, _, _⟩ := DataW.trod_int Try.underlying3 h0
  obtain ⟨xs, hx⟩ := open_inInts_cells h1
  simp at e0
  exact ⟨(m, xs), e0, hx⟩

set_option maxRecDepth 100000 in
theorem open_step_cells {fuel : Nat} {v0 v1 v2 v3 v4 : Value} {x : DataW H × List MemPlace} (h : DataW.trod enc Try.prog W 0 (fun _ => true) true fuel 42 [v0, v1, v2, v3, v4] = some x) :
    ∃ s : LStep, (v0 = .int .i64 s.1.1 ∧ v2 = .int .i64 s.2.1) ∧ (RdInts W W.heap.size v1 s.1.2 ∧ RdInts W W.heap.size v3 s.2.2.1 ∧ RdInts W W.heap.size v4 s.2.2.2) ∧ stepFits s := by
  obtain ⟨y0, y1, y2, y3, n, _, h0, h1, h2, h3⟩ := trod_struct4S Try.underlying42 h
  rw [Try.cellsS40] at h0
  rw [Try.cells3] at h1
  rw [Try.cells38] at h2 h3
  obtain ⟨f, e0, hf⟩ := open_factS_cells (v0 := v0) (v1 := v1) h0
  obtain ⟨m, e1, _, _⟩ := DataW.trod_int Try.underlying3 h1
  obtain ⟨xs, hx⟩ := open_inInts_cells (v := v3) h2
  obtain ⟨ys, hy⟩ := open_inInts_cells (v := v4) h3
  simp at e1
  exact ⟨(f, m, xs, ys), ⟨e0, e1⟩, ⟨hf.1, hx.1, hy.1⟩, hf.2, hx.2, hy.2⟩

def InSteps (W : World) (v : Value) (ss : List LStep) : Prop := RdSteps W W.heap.size v ss ∧ ss.length ≤ maxLen ∧ ∀ k (h : k < ss.length), stepFits ss[k]

set_option maxRecDepth 100000 in
theorem open_inSteps {v : Value} {d : DataW H} {p : List MemPlace} {b0 : Nat} (hv : Value.okWide Try.prog W .any b0 22 v) (h : DataW.Trod enc Try.prog W 0 (fun _ => true) true 22 v d p) :
    ∃ ss, InSteps W v ss := by
  obtain ⟨a, len, cap, rfl⟩ := okWide_slice Try.underlying22 hv
  obtain ⟨fuel, h⟩ := h
  rcases open_slice Try.underlying22 h with ⟨hcs, _⟩ | ⟨a', len', cap', m, n, D, Pl, hcs, _, hl, hm, hmm, _, hx⟩
  · simp [Value.cells] at hcs
    obtain ⟨rfl, rfl, rfl⟩ := hcs
    exact ⟨[], ⟨none, 0, rfl, by simp, fun h => absurd h (by simp)⟩, by simp, fun k h => absurd h (by simp)⟩
  · simp [Value.cells] at hcs
    obtain ⟨rfl, rfl, rfl⟩ := hcs
    simp at hmm
    subst hmm
    rw [Try.cells42] at hx
    obtain ⟨F, hF⟩ := choose_lt (α := Value × Value × Value × LStep) (n := m) (p := fun i q => (W.cell? (a'.add (i * 5)) = some (.int .i64 q.2.2.2.1.1) ∧ W.cell? (a'.add (i * 5 + 1)) = some q.1 ∧ W.cell? (a'.add (i * 5 + 2)) = some (.int .i64 q.2.2.2.2.1) ∧
        W.cell? (a'.add (i * 5 + 3)) = some q.2.1 ∧ W.cell? (a'.add (i * 5 + 4)) = some q.2.2.1) ∧ (RdInts W W.heap.size q.1 q.2.2.2.1.2 ∧ RdInts W W.heap.size q.2.1 q.2.2.2.2.2.1 ∧ RdInts W W.heap.size q.2.2.1 q.2.2.2.2.2.2) ∧ stepFits q.2.2.2) (fun i hi => by
      obtain ⟨cs', h1, h2⟩ := hx i hi
      obtain ⟨_, hlen, hcell⟩ := World.cells?_some h1
      match cs', hlen with
      | [v0, v1, v2, v3, v4], _ =>
        have e0 := hcell 0 (by omega)
        have e1 := hcell 1 (by omega)
        have e2 := hcell 2 (by omega)
        have e3 := hcell 3 (by omega)
        have e4 := hcell 4 (by omega)
        rw [add_add] at e0 e1 e2 e3 e4
        obtain ⟨s, ⟨rfl, rfl⟩, hy, hn⟩ := open_step_cells h2
        exact ⟨(v1, v3, v4, s), ⟨by simpa using e0, by simpa using e1, by simpa using e2, by simpa using e3, by simpa using e4⟩, hy, hn⟩)
    refine ⟨(List.range len).map fun i => (F i).2.2.2, ⟨some a', m, by simp, by simpa using hl, fun hn => ?_⟩, by simp; omega, fun k hk => ?_⟩
    · simp at hn
      obtain ⟨b, off, spot⟩ := a'
      have hspot : spot = none := by simpa [Addr.add] using World.cell?_spot (hF 0 (by omega)).1.1
      subst hspot
      have hb : b < W.heap.size := by simpa [Addr.add] using World.block_lt_of_cell? _ _ (hF 0 (by omega)).1.1
      refine ⟨b, off, rfl, hb, fun k hk => ?_⟩
      simp at hk
      obtain ⟨⟨c0, c1, c2, c3, c4⟩, ⟨r1, r2, r3⟩, _⟩ := hF k (by omega)
      rw [Go.WideShapes.add_plain] at c0 c1 c2 c3 c4
      exact ⟨_, _, _, by simpa using c0, by simpa [Nat.add_assoc] using c1, by simpa [Nat.add_assoc] using c2, by simpa [Nat.add_assoc] using c3, by simpa [Nat.add_assoc] using c4, by simpa using r1, by simpa using r2, by simpa using r3⟩
    · simp at hk ⊢
      exact (hF k (by omega)).2.2
end

end Go.Proofs.Ytcoelmhlkfignaa
