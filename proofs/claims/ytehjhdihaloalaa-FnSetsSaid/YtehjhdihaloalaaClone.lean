/-
  slices.Clone at facts: a row of the call's own whose headers are the given ones.
-/
import Derived.Test.YtehjhdihaloalaaAppendFacts
namespace Go.Proofs.Ytehjhdihaloalaa
open Go.RowKit

theorem CellsAt.on {w w' : World} {A : Option Addr} {cs : List Value} (h : CellsAt w A cs) (hb : Below w.heap.size w w') : CellsAt w' A cs :=
  ⟨h.1, fun ad e j u hu => (hb.cell (World.block_lt_of_cell? _ _ (h.2 ad e j u hu))).trans (h.2 ad e j u hu)⟩

/-- A row of the call's own, from base on, that holds facts whose headers are av; they read in w. -/
structure RowF (w : World) (base : Nat) (A : Option Addr) (c : Nat) (fs : List LFact) (av : List Value) : Prop where
  row : w.ownsRow base 28 2 (.slice A fs.length c) fs.length (flat fs av)
  rd : RdArgs w w.heap.size av fs

theorem RowF.on {w w' : World} {base : Nat} {A : Option Addr} {c : Nat} {fs : List LFact} {av : List Value} (h : RowF w base A c fs av) (hb : Below w.heap.size w w') : RowF w' base A c fs av :=
  ⟨ownsRow_below h.row (fun g hg => (h.row.lt g hg).2) hb (Nat.le_refl _), h.rd.on hb⟩
theorem RowF.mono {w : World} {base base' : Nat} {A : Option Addr} {c : Nat} {fs : List LFact} {av : List Value} (h : RowF w base A c fs av) (hb : base' ≤ base) : RowF w base' A c fs av := ⟨ownsRow_mono h.row hb, h.rd⟩
theorem RowF.facts {w : World} {base : Nat} {A : Option Addr} {c : Nat} {fs : List LFact} {av : List Value} (h : RowF w base A c fs av) : RdFacts w w.heap.size (.slice A fs.length c) fs := by
  have hcells := @World.ownsRow.cells w base 28 2 (.slice A fs.length c) fs.length (flat fs av) h.row
  have hlt := h.row.lt
  have hl := h.rd.1
  rcases h.row.2 with ⟨e, h0⟩ | ⟨g, cap, cur, e, hb, hgg, hn, _⟩
  · injection e with e1 _ e3
    subst e1
    subst e3
    exact ⟨none, 0, rfl, by omega, fun hp => by omega⟩
  · injection e with e1 _ e3
    subst e1
    subst e3
    refine ⟨_, _, rfl, hn, fun _ => ⟨g, 0, rfl, (hlt g rfl).2, fun k hk => ?_⟩⟩
    obtain ⟨c0, c1⟩ := flat_at fs av hl k hk (by omega)
    have d0 := hcells (g := g) rfl _ _ c0
    have d1 := hcells (g := g) rfl _ _ c1
    rw [Go.WideShapes.add_plain] at d0 d1
    exact ⟨_, d0, d1, h.rd.2 k hk (by omega) hk⟩

theorem facts_eqlSome (ad : Addr) (n c : Nat) (w : World) : (binOp .eql 36 (.slice (some ad) n c) (.slice none 0 0)).run Try.prog w = .ok (.bool false) w := by kernel_rfl
theorem facts_eqlNil (n c : Nat) (w : World) : (binOp .eql 36 (.slice none n c) (.slice none 0 0)).run Try.prog w = .ok (.bool true) w := by kernel_rfl

set_option maxHeartbeats 400000 in
set_option maxRecDepth 100000 in
theorem clone_any (v : Value) (fs : List LFact) (w : World) (h : RdFacts w w.heap.size v fs) (hl : fs.length ≤ 4194304) :
    Calls Try.prog 97 #[v] w fun e w' => ∃ A' c' av, e = .returned (.slice A' fs.length c') ∧ RowF w' w.heap.size A' c' fs av ∧ Below w.heap.size w w' := by
  obtain ⟨i0, hi0, hz0, hz1, hz2⟩ := info_parts Try.infoFact
  obtain ⟨A, c, av, rfl, ha, hc⟩ := h.heads
  clear h
  have hE := facts_eqlSome
  have hN := facts_eqlNil
  rcases A with _ | ad
  · have h0 := hc.1 rfl
    have hfl := flat_length fs av ha.1
    rw [h0] at hfl
    have hfs : fs = [] := List.eq_nil_of_length_eq_zero (by simp at hfl; omega)
    subst hfs
    clear hfl h0 ha hc
    go_enter Try.func97, Try.ntmps97
    go_wp2_with (fail)
    go_ret
    exact ⟨none, 0, [], rfl, ⟨World.ownsRow_nil _ _ _ _, RdArgs.nil _ _⟩, Below.refl _ _⟩
  · have HA := Lib.hid ha
    have HC := Lib.hid hc
    clear ha hc
    go_enter Try.func97, Try.ntmps97
    go_wp2_with (at_builtin; refine wpList_append_facts rfl (.tmp 5) (.tmp 6) 36 rfl w.heap.size 28 i0 (.agg #[.int .i64 0, .slice none 0 0]) 32 Try.underlying36 hi0 hz0 hz1 hz2 rfl (.slice (some ⟨w.heap.size, 0, none⟩) 0 0) 0 [] rfl ?c1 (some ad) c fs av _ rfl (HA.out.on (below1 _ _)) ?c2 (by unfold maxLen; omega) (by omega) (by simp) ?_)
    case c1 => exact World.ownsRow_made w #[] 0 (Nat.le_refl _) (by decide) rfl
    case c2 => exact HC.out.on (below1 _ _)
    intro A' c' w' hown hgr hob
    have hB : Below w.heap.size w w' := (below1 w _).grown hgr (by simp) (fun b hb => by simp [Value.ownBlock] at hb; omega)
    have HR := Lib.hid (show RowF w' w.heap.size A' c' fs av from ⟨hown, HA.out.on hB⟩)
    have HB := Lib.hid hB
    clear hown hgr hob hB
    go_wp2_with (fail)
    go_ret
    exact ⟨A', c', av, rfl, HR.out, HB.out⟩

end Go.Proofs.Ytehjhdihaloalaa
