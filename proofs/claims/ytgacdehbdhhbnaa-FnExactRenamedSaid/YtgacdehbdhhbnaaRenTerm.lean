/-
  The program's renaming: the walks of varTerm and term.
-/
import Derived.Test.YtgacdehbdhhbnaaRenPure
import Derived.Test.YtgacdehbdhhbnaaLeaves
import Derived.Deep.RegionHeld3
import Derived.Deep.DeepCutAuto
namespace Go.Proofs.Ytgacdehbdhhbnaa
open Go.RowKit

/-- Block g holds what the variables have become. -/
def NamesAt (w : World) (g : Nat) (s : Ren) : Prop := ∃ a b c d : Int, s.1 = [a, b, c, d] ∧ Blk w g 117 #[.int .i64 a, .int .i64 b, .int .i64 c, .int .i64 d, .int .i64 (s.2 : Int)]
theorem NamesAt.below {w w' : World} {g B : Nat} {s : Ren} (h : NamesAt w g s) (hb : Below B w w') (hg : g < B) : NamesAt w' g s := by
  obtain ⟨a, b, c, d, e, hx⟩ := h
  exact ⟨a, b, c, d, e, hx.below hb hg⟩
theorem NamesAt.lt {w : World} {g : Nat} {s : Ren} (h : NamesAt w g s) : g < w.heap.size := by
  obtain ⟨_, _, _, _, _, hx⟩ := h
  exact hx.lt
theorem NamesAt.far {w : World} {g : Nat} {s : Ren} (h : NamesAt w g s) {p : Addr} (hp : g ≠ p.block) (u : Value) : NamesAt (w.setCell p u) g s := by
  obtain ⟨a, b, c, d, e, hx⟩ := h
  exact ⟨a, b, c, d, e, hx.far hp u⟩
theorem NamesAt.len {w : World} {g : Nat} {s : Ren} (h : NamesAt w g s) : s.1.length = 4 := by
  obtain ⟨_, _, _, _, e, _⟩ := h
  simp [e]

theorem varTerm_big (n : Int) (h0 : 0 ≤ n) (h1 : n ≤ 4611686018427387904) (w : World) : Calls Try.prog 106 #[.int .i64 n] w fun e w' => e = .returned (.int .i64 (-1 - n)) ∧ w = w' := by
  go_enter Try.func106, Try.ntmps106
  go_wp2
  go_ret
  exact ⟨rfl, rfl⟩

set_option maxHeartbeats 1000000 in
set_option maxRecDepth 100000 in
theorem term_any (g : Nat) (s : Ren) (t : Int) (w : World) (h : NamesAt w g s) (hv : isVarB t = true) (hm : s.2 ≤ 4611686018427387900) :
    Calls Try.prog 103 #[.pointer (some ⟨g, 0, none⟩), .int .i64 (-1 - t)] w fun e w' => e = .returned (.int .i64 (look (renStep s t) t)) ∧ NamesAt w' g (renStep s t) ∧ Only g (g + 1) w w' := by
  obtain ⟨a, b, c, d, hs, hx⟩ := h
  obtain ⟨ts, m⟩ := s
  subst hs
  have h4 : t = -1 ∨ t = -2 ∨ t = -3 ∨ t = -4 := by simp [isVarB] at hv; omega
  have c0 : w.cell? ⟨g, 0, none⟩ = some (.int .i64 a) := hx.cell 0
  have c1 : w.cell? ⟨g, 1, none⟩ = some (.int .i64 b) := hx.cell 1
  have c2 : w.cell? ⟨g, 2, none⟩ = some (.int .i64 c) := hx.cell 2
  have c3 : w.cell? ⟨g, 3, none⟩ = some (.int .i64 d) := hx.cell 3
  have c4 : w.cell? ⟨g, 4, none⟩ = some (.int .i64 (m : Int)) := hx.cell 4
  have f0 := hx.frozen 0
  have f4 := hx.frozen 4
  simp only at hm
  have HX := Lib.hid hx
  rcases h4 with rfl | rfl | rfl | rfl
  · have fv := hx.frozen 0
    by_cases ha : a = 0
    · have ht : (a == 0) = true := by simp [ha]
      have HR := Lib.hid (show renStep ([a, b, c, d], m) (-1) = ([-1 - (m : Int), b, c, d], m + 1) by simp [renStep, isVarB, ha])
      rw [HR.out]
      clear ha hx
      go_enter Try.func103, Try.ntmps103
      go_wp2_with (fail)
      go_cut [18] (fun _ wx => ∃ n, wx = (w.setCell ⟨g, 0, none⟩ (.int .i64 (-1 - (m : Int)))).drewN n)
      case first =>
        go_region_held3 (fun W => W.cell? ⟨g, 4, none⟩ = some (.int .i64 (m : Int)))
          (first | exact c4 | exact (World.cell?_setCell_other _ _ _ _ (by simp)).trans c4)
          (first | (go_at_call 106; refine (varTerm_big (m : Int) (by omega) (by omega) _).mono ?_; rintro e w' ⟨rfl, rfl⟩))
        all_goals (go_wp2_with (fail); go_meet; exact ⟨1, rfl⟩)
      case rest =>
        have B2 : Blk wc g 117 #[.int .i64 (-1 - (m : Int)), .int .i64 b, .int .i64 c, .int .i64 d, .int .i64 (m : Int)] := by
          obtain ⟨n, rfl⟩ := hcut
          simpa using (HX.out.set_ 0 (.int .i64 (-1 - (m : Int)))).drewN n
        have O2 : Only g (g + 1) w wc := by
          obtain ⟨n, rfl⟩ := hcut
          exact ((Only.refl _ _ _).setCell (p := ⟨g, 0, none⟩) ⟨Nat.le_refl _, Nat.lt_succ_self _⟩ _).trans ⟨rfl, rfl, rfl, Nat.le_refl _, fun _ _ _ => rfl⟩
        clear hcut c0 c1 c2 c3 c4 f0 f4 fv
        have k0 : wc.cell? ⟨g, 0, none⟩ = some (.int .i64 (-1 - (m : Int))) := B2.cell 0
        have k4 : wc.cell? ⟨g, 4, none⟩ = some (.int .i64 (m : Int)) := B2.cell 4
        have j4 := B2.frozen 4
        go_wp2_with (fail)
        go_ret
        exact ⟨rfl, ⟨_, _, _, _, rfl, by simpa using B2.set_ 4 (.int .i64 ((m : Int) + 1))⟩, O2.setCell (p := ⟨g, 4, none⟩) ⟨Nat.le_refl _, Nat.lt_succ_self _⟩ _⟩
    · have ht : (a == 0) = false := by simp [ha]
      have HR := Lib.hid (show renStep ([a, b, c, d], m) (-1) = ([a, b, c, d], m) by simp [renStep, isVarB, ha])
      rw [HR.out]
      clear ha hx
      go_enter Try.func103, Try.ntmps103
      go_wp2_with (fail)
      go_ret
      exact ⟨rfl, ⟨a, b, c, d, rfl, HX.out⟩, Only.refl _ _ _⟩
  · have fv := hx.frozen 1
    by_cases ha : b = 0
    · have ht : (b == 0) = true := by simp [ha]
      have HR := Lib.hid (show renStep ([a, b, c, d], m) (-2) = ([a, -1 - (m : Int), c, d], m + 1) by simp [renStep, isVarB, ha])
      rw [HR.out]
      clear ha hx
      go_enter Try.func103, Try.ntmps103
      go_wp2_with (fail)
      go_cut [18] (fun _ wx => ∃ n, wx = (w.setCell ⟨g, 1, none⟩ (.int .i64 (-1 - (m : Int)))).drewN n)
      case first =>
        go_region_held3 (fun W => W.cell? ⟨g, 4, none⟩ = some (.int .i64 (m : Int)))
          (first | exact c4 | exact (World.cell?_setCell_other _ _ _ _ (by simp)).trans c4)
          (first | (go_at_call 106; refine (varTerm_big (m : Int) (by omega) (by omega) _).mono ?_; rintro e w' ⟨rfl, rfl⟩))
        all_goals (go_wp2_with (fail); go_meet; exact ⟨1, rfl⟩)
      case rest =>
        have B2 : Blk wc g 117 #[.int .i64 a, .int .i64 (-1 - (m : Int)), .int .i64 c, .int .i64 d, .int .i64 (m : Int)] := by
          obtain ⟨n, rfl⟩ := hcut
          simpa using (HX.out.set_ 1 (.int .i64 (-1 - (m : Int)))).drewN n
        have O2 : Only g (g + 1) w wc := by
          obtain ⟨n, rfl⟩ := hcut
          exact ((Only.refl _ _ _).setCell (p := ⟨g, 1, none⟩) ⟨Nat.le_refl _, Nat.lt_succ_self _⟩ _).trans ⟨rfl, rfl, rfl, Nat.le_refl _, fun _ _ _ => rfl⟩
        clear hcut c0 c1 c2 c3 c4 f0 f4 fv
        have k0 : wc.cell? ⟨g, 1, none⟩ = some (.int .i64 (-1 - (m : Int))) := B2.cell 1
        have k4 : wc.cell? ⟨g, 4, none⟩ = some (.int .i64 (m : Int)) := B2.cell 4
        have j4 := B2.frozen 4
        go_wp2_with (fail)
        go_ret
        exact ⟨rfl, ⟨_, _, _, _, rfl, by simpa using B2.set_ 4 (.int .i64 ((m : Int) + 1))⟩, O2.setCell (p := ⟨g, 4, none⟩) ⟨Nat.le_refl _, Nat.lt_succ_self _⟩ _⟩
    · have ht : (b == 0) = false := by simp [ha]
      have HR := Lib.hid (show renStep ([a, b, c, d], m) (-2) = ([a, b, c, d], m) by simp [renStep, isVarB, ha])
      rw [HR.out]
      clear ha hx
      go_enter Try.func103, Try.ntmps103
      go_wp2_with (fail)
      go_ret
      exact ⟨rfl, ⟨a, b, c, d, rfl, HX.out⟩, Only.refl _ _ _⟩
  · have fv := hx.frozen 2
    by_cases ha : c = 0
    · have ht : (c == 0) = true := by simp [ha]
      have HR := Lib.hid (show renStep ([a, b, c, d], m) (-3) = ([a, b, -1 - (m : Int), d], m + 1) by simp [renStep, isVarB, ha])
      rw [HR.out]
      clear ha hx
      go_enter Try.func103, Try.ntmps103
      go_wp2_with (fail)
      go_cut [18] (fun _ wx => ∃ n, wx = (w.setCell ⟨g, 2, none⟩ (.int .i64 (-1 - (m : Int)))).drewN n)
      case first =>
        go_region_held3 (fun W => W.cell? ⟨g, 4, none⟩ = some (.int .i64 (m : Int)))
          (first | exact c4 | exact (World.cell?_setCell_other _ _ _ _ (by simp)).trans c4)
          (first | (go_at_call 106; refine (varTerm_big (m : Int) (by omega) (by omega) _).mono ?_; rintro e w' ⟨rfl, rfl⟩))
        all_goals (go_wp2_with (fail); go_meet; exact ⟨1, rfl⟩)
      case rest =>
        have B2 : Blk wc g 117 #[.int .i64 a, .int .i64 b, .int .i64 (-1 - (m : Int)), .int .i64 d, .int .i64 (m : Int)] := by
          obtain ⟨n, rfl⟩ := hcut
          simpa using (HX.out.set_ 2 (.int .i64 (-1 - (m : Int)))).drewN n
        have O2 : Only g (g + 1) w wc := by
          obtain ⟨n, rfl⟩ := hcut
          exact ((Only.refl _ _ _).setCell (p := ⟨g, 2, none⟩) ⟨Nat.le_refl _, Nat.lt_succ_self _⟩ _).trans ⟨rfl, rfl, rfl, Nat.le_refl _, fun _ _ _ => rfl⟩
        clear hcut c0 c1 c2 c3 c4 f0 f4 fv
        have k0 : wc.cell? ⟨g, 2, none⟩ = some (.int .i64 (-1 - (m : Int))) := B2.cell 2
        have k4 : wc.cell? ⟨g, 4, none⟩ = some (.int .i64 (m : Int)) := B2.cell 4
        have j4 := B2.frozen 4
        go_wp2_with (fail)
        go_ret
        exact ⟨rfl, ⟨_, _, _, _, rfl, by simpa using B2.set_ 4 (.int .i64 ((m : Int) + 1))⟩, O2.setCell (p := ⟨g, 4, none⟩) ⟨Nat.le_refl _, Nat.lt_succ_self _⟩ _⟩
    · have ht : (c == 0) = false := by simp [ha]
      have HR := Lib.hid (show renStep ([a, b, c, d], m) (-3) = ([a, b, c, d], m) by simp [renStep, isVarB, ha])
      rw [HR.out]
      clear ha hx
      go_enter Try.func103, Try.ntmps103
      go_wp2_with (fail)
      go_ret
      exact ⟨rfl, ⟨a, b, c, d, rfl, HX.out⟩, Only.refl _ _ _⟩
  · have fv := hx.frozen 3
    by_cases ha : d = 0
    · have ht : (d == 0) = true := by simp [ha]
      have HR := Lib.hid (show renStep ([a, b, c, d], m) (-4) = ([a, b, c, -1 - (m : Int)], m + 1) by simp [renStep, isVarB, ha])
      rw [HR.out]
      clear ha hx
      go_enter Try.func103, Try.ntmps103
      go_wp2_with (fail)
      go_cut [18] (fun _ wx => ∃ n, wx = (w.setCell ⟨g, 3, none⟩ (.int .i64 (-1 - (m : Int)))).drewN n)
      case first =>
        go_region_held3 (fun W => W.cell? ⟨g, 4, none⟩ = some (.int .i64 (m : Int)))
          (first | exact c4 | exact (World.cell?_setCell_other _ _ _ _ (by simp)).trans c4)
          (first | (go_at_call 106; refine (varTerm_big (m : Int) (by omega) (by omega) _).mono ?_; rintro e w' ⟨rfl, rfl⟩))
        all_goals (go_wp2_with (fail); go_meet; exact ⟨1, rfl⟩)
      case rest =>
        have B2 : Blk wc g 117 #[.int .i64 a, .int .i64 b, .int .i64 c, .int .i64 (-1 - (m : Int)), .int .i64 (m : Int)] := by
          obtain ⟨n, rfl⟩ := hcut
          simpa using (HX.out.set_ 3 (.int .i64 (-1 - (m : Int)))).drewN n
        have O2 : Only g (g + 1) w wc := by
          obtain ⟨n, rfl⟩ := hcut
          exact ((Only.refl _ _ _).setCell (p := ⟨g, 3, none⟩) ⟨Nat.le_refl _, Nat.lt_succ_self _⟩ _).trans ⟨rfl, rfl, rfl, Nat.le_refl _, fun _ _ _ => rfl⟩
        clear hcut c0 c1 c2 c3 c4 f0 f4 fv
        have k0 : wc.cell? ⟨g, 3, none⟩ = some (.int .i64 (-1 - (m : Int))) := B2.cell 3
        have k4 : wc.cell? ⟨g, 4, none⟩ = some (.int .i64 (m : Int)) := B2.cell 4
        have j4 := B2.frozen 4
        go_wp2_with (fail)
        go_ret
        exact ⟨rfl, ⟨_, _, _, _, rfl, by simpa using B2.set_ 4 (.int .i64 ((m : Int) + 1))⟩, O2.setCell (p := ⟨g, 4, none⟩) ⟨Nat.le_refl _, Nat.lt_succ_self _⟩ _⟩
    · have ht : (d == 0) = false := by simp [ha]
      have HR := Lib.hid (show renStep ([a, b, c, d], m) (-4) = ([a, b, c, d], m) by simp [renStep, isVarB, ha])
      rw [HR.out]
      clear ha hx
      go_enter Try.func103, Try.ntmps103
      go_wp2_with (fail)
      go_ret
      exact ⟨rfl, ⟨a, b, c, d, rfl, HX.out⟩, Only.refl _ _ _⟩

end Go.Proofs.Ytgacdehbdhhbnaa
