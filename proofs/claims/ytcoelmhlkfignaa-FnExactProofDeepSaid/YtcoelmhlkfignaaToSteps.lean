/-
  The walks over steps: toStep, toStepS, eqStep, eqStepS, szStep, szStepS.
-/
import Derived.Test.YtcoelmhlkfignaaStepsM
import Derived.Test.YtcoelmhlkfignaaFacts
import Derived.StillTailTactics
namespace Go.Proofs.Ytcoelmhlkfignaa
open Go.RowKit

theorem Try.infoStep : (Try.prog.info? 46).map (fun i => (i.zero, i.size, i.bytes)) = some (some (.agg #[.int .i64 0, .slice none 0 0, .int .i64 0, .slice none 0 0, .slice none 0 0]), 5, 88) := by kernel_rfl

theorem OwnInts.farS {w : World} {lo hi : Nat} {v : Value} {xs : List Int} (h : OwnInts w lo hi v xs) {p : Addr} (hp : p.block < lo) (u : Value) : OwnInts (w.setCell p u) lo hi v xs := h.set (.inl hp) u

set_option maxHeartbeats 2000000 in
set_option maxRecDepth 100000 in
theorem toStep_any (v : Value) (s : LStep) (w : World) (h : RdStep w w.heap.size v s) (hn : szSt s ≤ 1048576) :
    Calls Try.prog 22 #[v] w fun e w' => ∃ A1 c1 A2 c2 A3 c3 m n, e = .returned (.agg #[.int .i64 s.1.1, .slice A1 s.1.2.length c1, .int .i64 s.2.1, .slice A2 s.2.2.1.length c2, .slice A3 s.2.2.2.length c3]) ∧ (w.heap.size ≤ m ∧ m ≤ n ∧ n ≤ w'.heap.size) ∧
      OwnInts w' w.heap.size m (.slice A1 s.1.2.length c1) s.1.2 ∧ OwnInts w' m n (.slice A2 s.2.2.1.length c2) s.2.2.1 ∧ OwnInts w' n w'.heap.size (.slice A3 s.2.2.2.length c3) s.2.2.2 ∧ Below w.heap.size w w' := by
  obtain ⟨a, b, d, rfl, h1, h2, h3⟩ := h
  unfold szSt at hn
  have H1 := Lib.hid h1
  have H2 := Lib.hid h2
  have H3 := Lib.hid h3
  obtain ⟨A1, c1, rfl, _, _⟩ := h1
  obtain ⟨A2, c2, rfl, _, _⟩ := h2
  obtain ⟨A3, c3, rfl, _, _⟩ := h3
  go_enter Try.func22, Try.ntmps22
  go_wp2_with (fail)
  obtain ⟨w3, hw3⟩ : ∃ w3, w3 = ((w.alloc (Obj.cells #[Value.int IntKind.i64 s.1.1, Value.slice A1 s.1.2.length c1, Value.int IntKind.i64 s.2.1, Value.slice A2 s.2.2.1.length c2, Value.slice A3 s.2.2.2.length c3] 42)).alloc (Obj.cells #[.int .i64 0, .slice none 0 0, .int .i64 0, .slice none 0 0, .slice none 0 0] 46)).alloc (Obj.cells #[.int .i64 0, .slice none 0 0, .int .i64 0, .slice none 0 0, .slice none 0 0] 46) := ⟨_, rfl⟩
  have B3 : Below w.heap.size w w3 := by rw [hw3]; exact below3 _ _ _ _
  have s3 : w3.heap.size = w.heap.size + 3 := by rw [hw3]; simp
  have x0 : Blk w3 w.heap.size 42 #[.int .i64 s.1.1, .slice A1 s.1.2.length c1, .int .i64 s.2.1, .slice A2 s.2.2.1.length c2, .slice A3 s.2.2.2.length c3] := by rw [hw3]; exact ((Blk.new w _ _).alloc _).alloc _
  have x1 : Blk w3 (w.heap.size + 1) 46 #[.int .i64 0, .slice none 0 0, .int .i64 0, .slice none 0 0, .slice none 0 0] := by
    rw [hw3]
    simpa using (Blk.new (w.alloc (Obj.cells #[Value.int IntKind.i64 s.1.1, Value.slice A1 s.1.2.length c1, Value.int IntKind.i64 s.2.1, Value.slice A2 s.2.2.1.length c2, Value.slice A3 s.2.2.2.length c3] 42)) _ _).alloc _
  have x2 : Blk w3 (w.heap.size + 2) 46 #[.int .i64 0, .slice none 0 0, .int .i64 0, .slice none 0 0, .slice none 0 0] := by
    rw [hw3]
    simpa using Blk.new ((w.alloc (Obj.cells #[Value.int IntKind.i64 s.1.1, Value.slice A1 s.1.2.length c1, Value.int IntKind.i64 s.2.1, Value.slice A2 s.2.2.1.length c2, Value.slice A3 s.2.2.2.length c3] 42)).alloc (Obj.cells #[.int .i64 0, .slice none 0 0, .int .i64 0, .slice none 0 0, .slice none 0 0] 46)) _ _
  rw [← hw3]
  clear hw3
  refine (toFact_any _ s.1 _ ⟨_, rfl, H1.out.on B3⟩ (by omega)).mono ?_
  rintro e w4 ⟨P1, d1, rfl, o1, hb⟩
  have y0 := x0.below hb x0.lt
  have y1 := x1.below hb x1.lt
  have y2 := x2.below hb x2.lt
  have s4 := hb.size
  have q0 : w4.cell? ⟨w.heap.size + 2, 0, none⟩ = some (.int .i64 0) := y2.cell 0
  have q1 : w4.cell? ⟨w.heap.size + 2, 1, none⟩ = some (.slice none 0 0) := y2.cell 1
  have q2 : w4.cell? ⟨w.heap.size + 2, 2, none⟩ = some (.int .i64 0) := y2.cell 2
  have f0 := y2.frozen 0
  have f1 := y2.frozen 1
  have f2 := y2.frozen 2
  have p2 : w4.cell? ⟨w.heap.size, 2, none⟩ = some (.int .i64 s.2.1) := y0.cell 2
  have p3 : w4.cell? ⟨w.heap.size, 3, none⟩ = some (.slice A2 s.2.2.1.length c2) := y0.cell 3
  go_wp2_with (fail)
  obtain ⟨w5, hw5⟩ : ∃ w5, w5 = ((w4.setCell ⟨w.heap.size + 2, 0, none⟩ (.int .i64 s.1.1)).setCell ⟨w.heap.size + 2, 1, none⟩ (.slice P1 s.1.2.length d1)).setCell ⟨w.heap.size + 2, 2, none⟩ (.int .i64 s.2.1) := ⟨_, rfl⟩
  have s5 : w5.heap.size = w4.heap.size := by rw [hw5]; simp
  have u2 : Blk w5 (w.heap.size + 2) 46 #[.int .i64 s.1.1, .slice P1 s.1.2.length d1, .int .i64 s.2.1, .slice none 0 0, .slice none 0 0] := by
    rw [hw5]
    simpa using ((y2.set_ 0 (.int .i64 s.1.1)).set_ 1 (.slice P1 s.1.2.length d1)).set_ 2 (.int .i64 s.2.1)
  have u1 : Blk w5 (w.heap.size + 1) 46 #[.int .i64 0, .slice none 0 0, .int .i64 0, .slice none 0 0, .slice none 0 0] := by rw [hw5]; exact ((y1.far (by simp) _).far (by simp) _).far (by simp) _
  have u0 : Blk w5 w.heap.size 42 #[.int .i64 s.1.1, .slice A1 s.1.2.length c1, .int .i64 s.2.1, .slice A2 s.2.2.1.length c2, .slice A3 s.2.2.2.length c3] := by rw [hw5]; exact ((y0.far (by simp) _).far (by simp) _).far (by simp) _
  have B5 : Below w.heap.size w w5 := by rw [hw5]; exact (((bthen B3 hb).setCell (by simp) _).setCell (by simp) _).setCell (by simp) _
  have O5 : OwnInts w5 w3.heap.size w4.heap.size (.slice P1 s.1.2.length d1) s.1.2 := by rw [hw5]; exact ((o1.farS (by simp [s3]) _).farS (by simp [s3]) _).farS (by simp [s3]) _
  rw [← hw5]
  clear hw5 q0 q1 q2 f0 f1 f2 p2 p3 y0 y1 y2 x0 x1 x2 o1
  refine (toIntS_any _ s.2.2.1 _ (H2.out.on B5) (by omega)).mono ?_
  rintro e w6 ⟨P2, d2, rfl, o2, hb6⟩
  have v0 := u0.below hb6 u0.lt
  have v1 := u1.below hb6 u1.lt
  have v2 := u2.below hb6 u2.lt
  have B6 := bthen B5 hb6
  have s6 := hb6.size
  have O6 := O5.below hb6 (by omega)
  have q3 : w6.cell? ⟨w.heap.size + 2, 3, none⟩ = some (.slice none 0 0) := v2.cell 3
  have f3 := v2.frozen 3
  have p4 : w6.cell? ⟨w.heap.size, 4, none⟩ = some (.slice A3 s.2.2.2.length c3) := v0.cell 4
  go_wp2_with (fail)
  obtain ⟨w7, hw7⟩ : ∃ w7, w7 = w6.setCell ⟨w.heap.size + 2, 3, none⟩ (.slice P2 s.2.2.1.length d2) := ⟨_, rfl⟩
  have s7 : w7.heap.size = w6.heap.size := by rw [hw7]; simp
  have z2 : Blk w7 (w.heap.size + 2) 46 #[.int .i64 s.1.1, .slice P1 s.1.2.length d1, .int .i64 s.2.1, .slice P2 s.2.2.1.length d2, .slice none 0 0] := by
    rw [hw7]
    simpa using v2.set_ 3 (.slice P2 s.2.2.1.length d2)
  have z1 : Blk w7 (w.heap.size + 1) 46 #[.int .i64 0, .slice none 0 0, .int .i64 0, .slice none 0 0, .slice none 0 0] := by rw [hw7]; exact v1.far (by simp) _
  have B7 : Below w.heap.size w w7 := by rw [hw7]; exact B6.setCell (by simp) _
  have O7 : OwnInts w7 w3.heap.size w4.heap.size (.slice P1 s.1.2.length d1) s.1.2 := by rw [hw7]; exact O6.farS (by simp [s3]) _
  have R7 : OwnInts w7 w5.heap.size w6.heap.size (.slice P2 s.2.2.1.length d2) s.2.2.1 := by rw [hw7]; exact o2.farS (by simp; omega) _
  rw [← hw7]
  clear hw7 q3 f3 p4 u0 u1 u2 v0 v1 v2 O5 O6 o2 B6
  refine (toIntS_any _ s.2.2.2 _ (H3.out.on B7) (by omega)).mono ?_
  rintro e w8 ⟨P3, d3, rfl, o3, hb8⟩
  have t1 := z1.below hb8 z1.lt
  have t2 := z2.below hb8 z2.lt
  have B8 := bthen B7 hb8
  have s8 := hb8.size
  have O8 := O7.below hb8 (by omega)
  have R8 := R7.below hb8 (by omega)
  have b10 : w8.cell? ⟨w.heap.size + 1, 0, none⟩ = some (.int .i64 0) := t1.cell 0
  have b11 : w8.cell? ⟨w.heap.size + 1, 1, none⟩ = some (.slice none 0 0) := t1.cell 1
  have b12 : w8.cell? ⟨w.heap.size + 1, 2, none⟩ = some (.int .i64 0) := t1.cell 2
  have b13 : w8.cell? ⟨w.heap.size + 1, 3, none⟩ = some (.slice none 0 0) := t1.cell 3
  have b14 : w8.cell? ⟨w.heap.size + 1, 4, none⟩ = some (.slice none 0 0) := t1.cell 4
  have b20 : w8.cell? ⟨w.heap.size + 2, 0, none⟩ = some (.int .i64 s.1.1) := t2.cell 0
  have b21 : w8.cell? ⟨w.heap.size + 2, 1, none⟩ = some (.slice P1 s.1.2.length d1) := t2.cell 1
  have b22 : w8.cell? ⟨w.heap.size + 2, 2, none⟩ = some (.int .i64 s.2.1) := t2.cell 2
  have b23 : w8.cell? ⟨w.heap.size + 2, 3, none⟩ = some (.slice P2 s.2.2.1.length d2) := t2.cell 3
  have b24 : w8.cell? ⟨w.heap.size + 2, 4, none⟩ = some (.slice none 0 0) := t2.cell 4
  have f10 := t1.frozen 0
  have f11 := t1.frozen 1
  have f12 := t1.frozen 2
  have f13 := t1.frozen 3
  have f14 := t1.frozen 4
  have f24 := t2.frozen 4
  clear z1 z2 O7 R7
  go_wp2_with (fail)
  refine bodyPost_ret (v := .agg #[.int .i64 s.1.1, .slice P1 s.1.2.length d1, .int .i64 s.2.1, .slice P2 s.2.2.1.length d2, .slice P3 s.2.2.2.length d3]) (by simp [results, Try.results22, go_sem, b10, b11, b12, b13, b14]) rfl ⟨_, _, _, _, _, _, w4.heap.size, w6.heap.size, rfl, ⟨by omega, by omega, by simp; omega⟩, ?_, ?_, ?_, ?_⟩
  · refine OwnInts.mono (lo := w3.heap.size) (hi := w4.heap.size) ?_ (by omega) (Nat.le_refl _)
    repeat (first | with_reducible exact O8 | refine OwnInts.farS ?_ (by simp [s3]) _)
  · refine OwnInts.mono (lo := w5.heap.size) (hi := w6.heap.size) ?_ (by omega) (Nat.le_refl _)
    repeat (first | with_reducible exact R8 | refine OwnInts.farS ?_ (by simp; omega) _)
  · refine OwnInts.mono (lo := w7.heap.size) (hi := w8.heap.size) ?_ (by omega) (by simp)
    repeat (first | with_reducible exact o3 | refine OwnInts.farS ?_ (by simp; omega) _)
  · repeat (first | with_reducible exact B8 | refine Below.setCell ?_ (by first | (simp; done) | (simp; omega)) _)

set_option maxHeartbeats 1000000 in
set_option maxRecDepth 100000 in
theorem toStepS_any (v : Value) (ss : List LStep) (w : World) (h : RdSteps w w.heap.size v ss) (hl : ss.length ≤ 1048576) (hn : totS ss ≤ 1048576) :
    Calls Try.prog 8 #[v] w fun e w' => ∃ A' c', e = .returned (.slice A' ss.length c') ∧ OwnSteps w' w.heap.size w'.heap.size (.slice A' ss.length c') ss ∧ Below w.heap.size w w' := by
  obtain ⟨i0, hi0, hz0, hz1, hz2⟩ := info_parts Try.infoStep
  have hmk := fun W => run_make_rowN (P := Try.prog) 25 46 i0 (.agg #[.int .i64 0, .slice none 0 0, .int .i64 0, .slice none 0 0, .slice none 0 0]) Try.underlying25 hi0 hz0 .i64 .i64 ss.length ss.length (Nat.le_refl _) (by rw [hz2]; omega) (by omega) W
  rw [hz1] at hmk
  simp only [Value.cells] at hmk
  have H := Lib.hid h
  obtain ⟨A, c, rfl, hc, _⟩ := h
  go_enter Try.func8, Try.ntmps8
  go_wp2_with (fail)
  go_loopw [4] (fun i wr => ∃ (k : Nat) (av : List Value), k ≤ ss.length ∧ i = .int .i64 k ∧ To5 w wr ss k av) (fun i _ => ss.length - (intOf i).toNat)
  case atStart => exact ⟨0, [], Nat.zero_le _, rfl, To5.start w ss⟩
  case round =>
    obtain ⟨k, av, hk, rfl, hr⟩ := hrel
    by_cases hlt : k < ss.length
    · obtain ⟨b, o, A1, c1, A2, c2, A3, c3, rfl, hbB, ⟨k0, k1, k2, k3, k4⟩, r1, r2, r3⟩ := (H.out.on hr.below).get hlt
      have HA := Lib.hid (And.intro r1 (And.intro r2 r3))
      clear r1 r2 r3
      have hln := szSt_le_totS ss k hlt
      go_wp2_with (fail)
      refine (toStep_any _ ss[k] _ ⟨_, _, _, rfl, HA.out.1, HA.out.2.1, HA.out.2.2⟩ (by omega)).mono ?_
      rintro e w4 ⟨P1, d1, P2, d2, P3, d3, m, n, rfl, hmn, o1, o2, o3, hb4⟩
      obtain ⟨⟨g0, g1, g2, g3, g4⟩, f0, f1, f2, f3, f4⟩ := hr.room hlt hb4
      have hstep := hr.step hlt hb4 hmn o1 o2 o3
      unfold set5 at hstep
      have HS := Lib.hid hstep
      clear hstep hmn o1 o2 o3
      go_wp2_with (fail)
      go_roundw
      case rel => exact ⟨k + 1, _, by omega, by go_num, HS.out⟩
      case measure => simp [intOf]; omega
    · have hkn : k = ss.length := by omega
      have HO := Lib.hid (show OwnSteps wr w.heap.size wr.heap.size (.slice (some ⟨w.heap.size, 0, none⟩) ss.length ss.length) ss from To5.done (by rw [hkn] at hr; exact hr) (by unfold maxLen; omega))
      have hbe := hr.below
      clear hkn hr
      go_wp2_with (fail)
      go_ret
      exact ⟨_, _, rfl, HO.out, hbe⟩

end Go.Proofs.Ytcoelmhlkfignaa
