/-
  slices.Grow of the nil slice, slices.Clone, slices.Concat of two slices: at facts.
-/
import Derived.Test.YtehjhdihaloalaaClone
import Derived.Lib.AppendZerosOnto
import Derived.Shelf.RegionOpenPlain
import Derived.Shelf.Spec.SlicesGrow
namespace Go.Proofs.Ytehjhdihaloalaa
open Go.RowKit

theorem size_zeroPairs (n : Nat) : (Builtin.zeroCells #[Value.int IntKind.i64 0, Value.slice none 0 0] n).size = n * 2 := by simp [Builtin.zeroCells]

set_option maxHeartbeats 1000000 in
set_option maxRecDepth 100000 in
theorem growNil_any (n : Nat) (w : World) (hn : n ≤ 4194304) :
    Calls Try.prog 101 #[.slice none 0 0, .int .i64 n] w fun e w' => ∃ A c, e = .returned (.slice A 0 c) ∧ RowF w' w.heap.size A c [] [] ∧ Below w.heap.size w w' := by
  obtain ⟨i0, hi0, hz0, hz1, hz2⟩ := info_parts Try.infoFact
  by_cases h0 : n = 0
  · subst h0
    go_enter Try.func101, Try.ntmps101
    go_wp2_with (fail)
    go_ret
    exact ⟨none, 0, rfl, ⟨World.ownsRow_nil _ _ _ _, RdArgs.nil _ _⟩, Below.refl _ _⟩
  · have h1 : ¬ ((n : Int) < 0) := by omega
    have h4 : (n : Int) > 0 := by omega
    have hold : (Builtin.firstCells i0.size 0 (.slice none 0 0)).run Try.prog w.drew = .ok (#[] : Array Value) w.drew := run_firstCells_none w.drew i0.size 0 0 0
    have hrz : ∀ ty, (Builtin.append_ #[36, 3] ty #[.slice none 0 0, .int .i64 (n : Int)]).run Try.prog w =
        .ok (.slice (some ⟨w.heap.size, 0, none⟩) n (grownCap w n 0 28)) (w.drew.alloc (.cells (Builtin.zeroCells #[.int .i64 0, .slice none 0 0] n ++ Builtin.zeroCells #[.int .i64 0, .slice none 0 0] (grownCap w n 0 28 - n)) 28)) := fun ty => by
      have h := Lib.run_append_grow_zeros w 36 3 ty 28 i0 (.agg #[.int .i64 0, .slice none 0 0]) .i64 .i64 Try.underlying36 Try.underlying3 hi0 hz0 none 0 0 [] hold n (by omega) (by omega) (by omega) (by omega) (by rw [hz2]; omega)
        (growslice_fits (by omega) (by rw [hz2]; omega))
      simpa [Value.cells] using h
    have hGn : n ≤ grownCap w n 0 28 := grownCap_ge w _ _ _
    have hGm : grownCap w n 0 28 ≤ maxLen := grownCap_le_maxLen w n 0 28 (by unfold maxLen; omega)
    obtain ⟨G, hG⟩ : ∃ G, G = grownCap w n 0 28 := ⟨_, rfl⟩
    rw [← hG] at hrz hGn hGm
    have hG63 : G ≤ 9223372036854775807 := by unfold maxLen at hGm; omega
    have hsz : (Builtin.zeroCells #[Value.int IntKind.i64 0, Value.slice none 0 0] n ++ Builtin.zeroCells #[Value.int IntKind.i64 0, Value.slice none 0 0] (G - n)).size = G * 2 := by
      rw [Array.size_append, size_zeroPairs, size_zeroPairs]
      omega
    obtain ⟨zc, hzc⟩ : ∃ zc, zc = (Builtin.zeroCells #[Value.int IntKind.i64 0, Value.slice none 0 0] n ++ Builtin.zeroCells #[Value.int IntKind.i64 0, Value.slice none 0 0] (G - n)) := ⟨_, rfl⟩
    rw [← hzc] at hrz hsz
    have HS := Lib.hid hsz
    clear hold hG hzc hsz h0
    go_enter Try.func101, Try.ntmps101
    go_wp2_with (at_builtin; refine Lib.wpList_append_run _ rfl _ _ _ _ rfl _ _ rfl rfl _ _ (hrz _) ?_)
    go_ret
    refine ⟨_, _, rfl, ⟨?_, RdArgs.nil _ _⟩, (Below.refl _ _).drew.alloc (Nat.le_refl _) _⟩
    exact World.ownsRow_made w.drew zc G (Nat.le_refl _) hGm HS.out

set_option maxHeartbeats 400000 in
set_option maxRecDepth 100000 in
/-- slices.Clone, the headers known. -/
theorem clone_av (A : Option Addr) (c : Nat) (fs : List LFact) (av : List Value) (w : World) (ha : RdArgs w w.heap.size av fs) (hc : CellsAt w A (flat fs av)) (hl : fs.length ≤ 4194304) :
    Calls Try.prog 97 #[.slice A fs.length c] w fun e w' => ∃ A' c', e = .returned (.slice A' fs.length c') ∧ RowF w' w.heap.size A' c' fs av ∧ Below w.heap.size w w' := by
  obtain ⟨i0, hi0, hz0, hz1, hz2⟩ := info_parts Try.infoFact
  have hE := facts_eqlSome
  have hN := facts_eqlNil
  rcases A with _ | ad
  · have h0 := hc.1 rfl
    have hfl := flat_length fs av ha.1
    rw [h0] at hfl
    have hfs : fs = [] := List.eq_nil_of_length_eq_zero (by simp at hfl; omega)
    have hav : av = [] := List.eq_nil_of_length_eq_zero (by rw [ha.1, hfs]; rfl)
    subst hfs hav
    clear hfl h0 ha hc
    go_enter Try.func97, Try.ntmps97
    go_wp2_with (fail)
    go_ret
    exact ⟨none, 0, rfl, ⟨World.ownsRow_nil _ _ _ _, RdArgs.nil _ _⟩, Below.refl _ _⟩
  · have HA := Lib.hid ha
    have HC := Lib.hid hc
    clear ha hc
    go_enter Try.func97, Try.ntmps97
    go_wp2_with (at_builtin; refine wpList_append_facts rfl (.tmp 5) (.tmp 6) 36 rfl w.heap.size 28 i0 (.agg #[.int .i64 0, .slice none 0 0]) 32 Try.underlying36 hi0 hz0 hz1 hz2 rfl (.slice (some ⟨w.heap.size, 0, none⟩) 0 0) 0 [] rfl ?c1 (some ad) c fs av _ rfl (HA.out.on (below1 _ _)) ?c2 (by unfold maxLen; omega) (by omega) (by simp) ?_)
    case c1 => exact World.ownsRow_made w #[] 0 (Nat.le_refl _) (by decide) rfl
    case c2 => exact HC.out.on (below1 _ _)
    intro A' c' w' hown hgr hob
    have hB : Below w.heap.size w w' := (below1 w _).grown hgr (by simp) (fun b hb => by simp [Value.ownBlock] at hb; omega)
    have HR := Lib.hid (show RowF w' w.heap.size A' c' fs av from ⟨hown, HA.out.on hB⟩)
    have HB := Lib.hid hB
    clear hown hgr hob hB
    go_wp2_with (fail)
    go_ret
    exact ⟨A', c', rfl, HR.out, HB.out⟩

/-- What has been laid behind each other after k of two slices. -/
def joinF (xs ys : List LFact) (k : Nat) : List LFact := if k = 0 then [] else if k = 1 then xs else xs ++ ys
def joinV (xs ys : List Value) (k : Nat) : List Value := if k = 0 then [] else if k = 1 then xs else xs ++ ys
def joinN (n m k : Nat) : Nat := if k = 0 then 0 else if k = 1 then n else n + m

set_option maxHeartbeats 2000000 in
set_option maxRecDepth 100000 in
theorem concat_any (g c : Nat) (v v2 : Value) (xs ys : List LFact) (w : World) (k0 : w.cell? ⟨g, 0, none⟩ = some v) (k1 : w.cell? ⟨g, 1, none⟩ = some v2) (h : RdFacts w w.heap.size v xs) (h2 : RdFacts w w.heap.size v2 ys) (hn : xs.length + ys.length ≤ 2097152) :
    Calls Try.prog 71 #[.slice (some ⟨g, 0, none⟩) 2 c] w fun e w' => ∃ A' c' av, e = .returned (.slice A' (xs ++ ys).length c') ∧ RowF w' w.heap.size A' c' (xs ++ ys) av ∧ Below w.heap.size w w' := by
  obtain ⟨i0, hi0, hz0, hz1, hz2⟩ := info_parts Try.infoFact
  obtain ⟨A1, c1, av1, rfl, ha1, hc1⟩ := h.heads
  obtain ⟨A2, c2, av2, rfl, ha2, hc2⟩ := h2.heads
  have HA1 := Lib.hid (And.intro ha1 hc1)
  have HA2 := Lib.hid (And.intro ha2 hc2)
  clear h h2 ha1 ha2 hc1 hc2
  go_enter Try.func71, Try.ntmps71
  go_wp2_with (fail)
  go_loop [3, 5, 11] (fun s _ i => ∃ k : Nat, k ≤ 2 ∧ i = .int .i64 k ∧ s = .int .i64 (joinN xs.length ys.length k : Nat)) (fun _ _ i => 2 - (intOf i).toNat)
  case atStart => exact ⟨0, by omega, rfl, rfl⟩
  case round =>
    obtain ⟨k, hk, rfl, rfl⟩ := hrel
    rcases (show k = 0 ∨ k = 1 ∨ k = 2 by omega) with rfl | rfl | rfl
    · have hj : joinN xs.length ys.length 0 = 0 := rfl
      rw [hj]
      go_wp2_with (fail)
      go_round
      case rel => exact ⟨1, by omega, rfl, by simp [joinN]⟩
      case measure => simp [intOf]
    · have hj : joinN xs.length ys.length 1 = xs.length := rfl
      rw [hj]
      go_wp2_with (fail)
      go_round
      case rel => exact ⟨2, by omega, rfl, by simp [joinN]⟩
      case measure => simp [intOf]
    · have hj : joinN xs.length ys.length 2 = xs.length + ys.length := rfl
      rw [hj]
      go_wp2_with (fail)
      refine (growNil_any (xs.length + ys.length) w (by omega)).mono ?_
      rintro e w2 ⟨A', c', rfl, hrow, hb⟩
      have k02 : w2.cell? ⟨g, 0, none⟩ = some (.slice A1 xs.length c1) := (hb.cell (World.block_lt_of_cell? _ _ k0)).trans k0
      have k12 : w2.cell? ⟨g, 1, none⟩ = some (.slice A2 ys.length c2) := (hb.cell (World.block_lt_of_cell? _ _ k1)).trans k1
      have HG := Lib.hid (And.intro (World.block_lt_of_cell? _ _ k0) (And.intro k0 k1))
      clear k0 k1 hj
      go_wp2_with (fail)
      go_loopw [6, 8, 27] (fun r _ i wr => ∃ (k : Nat) (B : Option Addr) (d : Nat), k ≤ 2 ∧ i = .int .i64 k ∧ r = .slice B (joinF xs ys k).length d ∧ RowF wr w.heap.size B d (joinF xs ys k) (joinV av1 av2 k) ∧ Below w.heap.size w wr) (fun _ _ i _ => 2 - (intOf i).toNat)
      case atStart => exact ⟨0, A', c', by omega, rfl, rfl, hrow, hb⟩
      case round =>
        obtain ⟨k, B, d, hk, rfl, rfl, hr, hbe⟩ := hrel
        have q0 : wr.cell? ⟨g, 0, none⟩ = some (.slice A1 xs.length c1) := (hbe.cell HG.out.1).trans HG.out.2.1
        have q1 : wr.cell? ⟨g, 1, none⟩ = some (.slice A2 ys.length c2) := (hbe.cell HG.out.1).trans HG.out.2.2
        have HR := Lib.hid (And.intro hr hbe)
        clear hr hbe k02 k12
        rcases (show k = 0 ∨ k = 1 ∨ k = 2 by omega) with rfl | rfl | rfl
        · have hjl : (joinF xs ys 0).length = 0 := rfl
          rw [hjl]
          go_wp2_with (at_builtin; refine wpList_append_facts rfl (.tmp 31) (.tmp 32) 36 rfl w.heap.size 28 i0 (.agg #[.int .i64 0, .slice none 0 0]) 32 Try.underlying36 hi0 hz0 hz1 hz2 rfl (.slice B 0 d) 0 [] rfl ?c1 A1 c1 xs av1 _ rfl (HA1.out.1.on HR.out.2) ?c2 (by unfold maxLen; omega) (by omega) (HR.out.2.size) ?_)
          case c1 => exact HR.out.1.row
          case c2 => exact HA1.out.2.on HR.out.2
          intro A4 c4 w4 hown hgr hob
          have hlt := HR.out.1.row.lt
          have hB : Below w.heap.size w w4 := HR.out.2.grown hgr HR.out.2.size (fun b hb => (hlt b hb).1)
          have HQ := Lib.hid (show RowF w4 w.heap.size A4 c4 (joinF xs ys 1) (joinV av1 av2 1) ∧ Below w.heap.size w w4 from ⟨⟨by simpa [joinF, joinV] using hown, by simpa [joinF, joinV] using HA1.out.1.on hB⟩, hB⟩)
          have HL := Lib.hid (show 0 + xs.length = (joinF xs ys 1).length by simp [joinF])
          clear hown hgr hob hB hlt
          try rw [HL.out]
          go_wp2_with (fail)
          go_roundw
          case rel => exact ⟨1, _, _, by omega, rfl, by simp [joinF], HQ.out.1, HQ.out.2⟩
          case measure => simp [intOf]
        · have hjl : (joinF xs ys 1).length = xs.length := rfl
          rw [hjl]
          go_wp2_with (at_builtin; refine wpList_append_facts rfl (.tmp 31) (.tmp 32) 36 rfl w.heap.size 28 i0 (.agg #[.int .i64 0, .slice none 0 0]) 32 Try.underlying36 hi0 hz0 hz1 hz2 rfl (.slice B xs.length d) xs.length (flat xs av1) rfl ?c1 A2 c2 ys av2 _ rfl (HA2.out.1.on HR.out.2) ?c2 (by unfold maxLen; omega) (by omega) (HR.out.2.size) ?_)
          case c1 => exact HR.out.1.row
          case c2 => exact HA2.out.2.on HR.out.2
          intro A4 c4 w4 hown hgr hob
          have hlt := HR.out.1.row.lt
          have hB : Below w.heap.size w w4 := HR.out.2.grown hgr HR.out.2.size (fun b hb => (hlt b hb).1)
          have HQ := Lib.hid (show RowF w4 w.heap.size A4 c4 (joinF xs ys 2) (joinV av1 av2 2) ∧ Below w.heap.size w w4 from ⟨⟨by
            rw [← flat_append xs av1 HA1.out.1.1 ys av2] at hown
            simpa [joinF, joinV] using hown, by simpa [joinF, joinV] using (HA1.out.1.on hB).append (HA2.out.1.on hB)⟩, hB⟩)
          have HL := Lib.hid (show xs.length + ys.length = (joinF xs ys 2).length by simp [joinF])
          clear hown hgr hob hB hlt
          try rw [HL.out]
          go_wp2_with (fail)
          go_roundw
          case rel => exact ⟨2, _, _, by omega, rfl, by simp [joinF], HQ.out.1, HQ.out.2⟩
          case measure => simp [intOf]
        · have HJ := Lib.hid (show joinF xs ys 2 = xs ++ ys from rfl)
          go_wp2_with (fail)
          go_ret
          exact ⟨B, d, joinV av1 av2 2, rfl, HR.out.1, HR.out.2⟩

end Go.Proofs.Ytehjhdihaloalaa
