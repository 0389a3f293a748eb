/-
  The walks of szRule, toRule, eqRule.
-/
import Derived.Test.YtgacdehbdhhbnaaDoorLits
namespace Go.Proofs.YtgacdehbdhhbnaaDoor
open Go.RowKit

/-- What is asked of a rule that came in. -/
def ruleLens (r : LRule) : Prop := r.1.2.length ≤ 9223372036854775807 ∧ r.2.length ≤ 9223372036854775807 ∧ ∀ k (h : k < r.2.length), r.2[k].2.2.length ≤ 9223372036854775807

set_option maxHeartbeats 400000 in
theorem szRule_any (v : Value) (r : LRule) (left : Int) (w : World) (h : RdRule w w.heap.size v r) (h0 : 0 ≤ left) (hl : left ≤ 1048576) (hn : ruleLens r) :
    Calls Tryd.prog 5 #[v, .int .i64 left] w fun e w' => ∃ z, e = .returned (.int .i64 z) ∧ SzRes z left (szR r) ∧ Below w.heap.size w w' := by
  obtain ⟨a, b, rfl, h, h2⟩ := h
  obtain ⟨hn1, hn2, hn3⟩ := hn
  have H := Lib.hid h
  have H2 := Lib.hid h2
  obtain ⟨A, c, rfl, hc, _⟩ := h
  obtain ⟨A2, c2, rfl, hcc, _⟩ := h2
  have hcs := szV_cases left r.1.2.length
  go_enter Tryd.func5, Tryd.ntmps5
  go_wp2_with (fail)
  refine (szAtom_any _ r.1 _ _ ⟨_, rfl, H.out.on (below1 _ _)⟩ h0 hl hn1).mono ?_
  rintro e w1 ⟨rfl, hb⟩
  have hB := bthen (below1 _ _) hb
  have hx : Blk w1 w.heap.size 27 #[.int .i64 r.1.1, .slice A r.1.2.length c, .slice A2 r.2.length c2] := (Blk.new w _ _).below hb (by simp)
  have hx2 : w1.cell? ⟨w.heap.size, 2, none⟩ = some (.slice A2 r.2.length c2) := hx.cell 2
  rcases hcs with ⟨e1, e2⟩ | ⟨e1, e2⟩
  · rw [e1]
    have HV := Lib.hid e1
    clear e1
    go_wp2_with (fail)
    go_ret
    exact ⟨_, rfl, .inl rfl, hB⟩
  · have h1 : ¬ szV left r.1.2.length < 0 := by omega
    go_wp2_with (fail)
    refine (szLitS_any _ r.2 _ _ (H2.out.on hB) e1 (by omega) hn2 hn3).mono ?_
    rintro e w2 ⟨z, rfl, hz, hb2⟩
    have hB2 := bthen hB hb2
    rcases hz with rfl | ⟨z0, z1⟩
    · go_wp2_with (fail)
      go_ret
      exact ⟨_, rfl, .inl rfl, hB2⟩
    · have hz : ¬ z < 0 := by omega
      have HZ := Lib.hid (show SzRes z left (szR r) from .inr ⟨z0, by unfold szR; omega⟩)
      clear z0 z1 e1 e2
      go_wp2_with (fail)
      go_ret
      exact ⟨_, rfl, HZ.out, hB2⟩

theorem OwnLits.below {w w' : World} {lo hi B : Nat} {v : Value} {ls : List LLit} (h : OwnLits w lo hi v ls) (hb : Below B w w') (hB : hi ≤ B) : OwnLits w' lo hi v ls := h.keep fun g _ h2 => hb.block g (by omega)
theorem OwnInts.far {w : World} {lo hi : Nat} {v : Value} {xs : List Int} (h : OwnInts w lo hi v xs) {p : Addr} (hp : p.block < lo) (u : Value) : OwnInts (w.setCell p u) lo hi v xs := h.set (.inl hp) u
theorem OwnLits.far {w : World} {lo hi : Nat} {v : Value} {ls : List LLit} (h : OwnLits w lo hi v ls) {p : Addr} (hp : p.block < lo) (u : Value) : OwnLits (w.setCell p u) lo hi v ls :=
  h.keep fun g h1 _ => Below.heap_setCell _ _ _ _ (by omega)

set_option maxHeartbeats 1000000 in
theorem toRule_any (v : Value) (r : LRule) (w : World) (h : RdRule w w.heap.size v r) (hn : szR r ≤ 1048576) :
    Calls Tryd.prog 7 #[v] w fun e w' => ∃ A' c' A2' c2', e = .returned (.agg #[.int .i64 r.1.1, .slice A' r.1.2.length c', .slice A2' r.2.length c2']) ∧ OwnInts w' w.heap.size w'.heap.size (.slice A' r.1.2.length c') r.1.2 ∧ OwnLits w' w.heap.size w'.heap.size (.slice A2' r.2.length c2') r.2 ∧ Below w.heap.size w w' := by
  obtain ⟨a, b, rfl, h, h2⟩ := h
  unfold szR at hn
  have H := Lib.hid h
  have H2 := Lib.hid h2
  obtain ⟨A, c, rfl, hc, _⟩ := h
  obtain ⟨A2, c2, rfl, hcc, _⟩ := h2
  go_enter Tryd.func7, Tryd.ntmps7
  go_wp2_with (fail)
  obtain ⟨w3, hw3⟩ : ∃ w3, w3 = ((w.alloc (Obj.cells #[Value.int IntKind.i64 r.1.1, Value.slice A r.1.2.length c, Value.slice A2 r.2.length c2] 27)).alloc (Obj.cells #[.int .i64 0, .slice none 0 0, .slice none 0 0] 33)).alloc (Obj.cells #[.int .i64 0, .slice none 0 0, .slice none 0 0] 33) := ⟨_, rfl⟩
  have B3 : Below w.heap.size w w3 := by rw [hw3]; exact below3 _ _ _ _
  have s3 : w3.heap.size = w.heap.size + 3 := by rw [hw3]; simp
  have x0 : Blk w3 w.heap.size 27 #[.int .i64 r.1.1, .slice A r.1.2.length c, .slice A2 r.2.length c2] := by rw [hw3]; exact ((Blk.new w _ _).alloc _).alloc _
  have x1 : Blk w3 (w.heap.size + 1) 33 #[.int .i64 0, .slice none 0 0, .slice none 0 0] := by
    rw [hw3]
    simpa using (Blk.new (w.alloc (Obj.cells #[Value.int IntKind.i64 r.1.1, Value.slice A r.1.2.length c, Value.slice A2 r.2.length c2] 27)) _ _).alloc _
  have x2 : Blk w3 (w.heap.size + 2) 33 #[.int .i64 0, .slice none 0 0, .slice none 0 0] := by
    rw [hw3]
    simpa using Blk.new ((w.alloc (Obj.cells #[Value.int IntKind.i64 r.1.1, Value.slice A r.1.2.length c, Value.slice A2 r.2.length c2] 27)).alloc (Obj.cells #[.int .i64 0, .slice none 0 0, .slice none 0 0] 33)) _ _
  rw [← hw3]
  clear hw3
  refine (toAtom_any _ r.1 _ ⟨_, rfl, H.out.on B3⟩ (by omega)).mono ?_
  rintro e w4 ⟨A4, c4, rfl, ho, hb⟩
  have y0 := x0.below hb x0.lt
  have y1 := x1.below hb x1.lt
  have y2 := x2.below hb x2.lt
  have z2c0 : w4.cell? ⟨w.heap.size + 2, 0, none⟩ = some (.int .i64 0) := y2.cell 0
  have z2c1 : w4.cell? ⟨w.heap.size + 2, 1, none⟩ = some (.slice none 0 0) := y2.cell 1
  have z2f0 := y2.frozen 0
  have z2f1 := y2.frozen 1
  have z0c2 : w4.cell? ⟨w.heap.size, 2, none⟩ = some (.slice A2 r.2.length c2) := y0.cell 2
  go_wp2_with (fail)
  obtain ⟨w5, hw5⟩ : ∃ w5, w5 = (w4.setCell ⟨w.heap.size + 2, 0, none⟩ (.int .i64 r.1.1)).setCell ⟨w.heap.size + 2, 1, none⟩ (.slice A4 r.1.2.length c4) := ⟨_, rfl⟩
  have s5 : w5.heap.size = w4.heap.size := by rw [hw5]; simp
  have s4 := hb.size
  have u2 : Blk w5 (w.heap.size + 2) 33 #[.int .i64 r.1.1, .slice A4 r.1.2.length c4, .slice none 0 0] := by
    rw [hw5]
    simpa using (y2.set_ 0 (.int .i64 r.1.1)).set_ 1 (.slice A4 r.1.2.length c4)
  have u1 : Blk w5 (w.heap.size + 1) 33 #[.int .i64 0, .slice none 0 0, .slice none 0 0] := by rw [hw5]; exact (y1.far (by simp) _).far (by simp) _
  have B5 : Below w.heap.size w w5 := by rw [hw5]; exact ((bthen B3 hb).setCell (by simp) _).setCell (by simp) _
  have O5 : OwnInts w5 w3.heap.size w4.heap.size (.slice A4 r.1.2.length c4) r.1.2 := by rw [hw5]; exact (ho.far (by simp [s3]) _).far (by simp [s3]) _
  rw [← hw5]
  clear hw5 z2c0 z2c1 z2f0 z2f1 z0c2
  refine (toLitS_any _ r.2 _ (H2.out.on B5) (by omega) (by omega)).mono ?_
  rintro e w6 ⟨A6, c6, rfl, ho6, hb6⟩
  have v1 := u1.below hb6 u1.lt
  have v2 := u2.below hb6 u2.lt
  have B6 := bthen B5 hb6
  have O6 := O5.below hb6 (by omega)
  have s6 := hb6.size
  have b1c0 : w6.cell? ⟨w.heap.size + 1, 0, none⟩ = some (.int .i64 0) := v1.cell 0
  have b1c1 : w6.cell? ⟨w.heap.size + 1, 1, none⟩ = some (.slice none 0 0) := v1.cell 1
  have b1c2 : w6.cell? ⟨w.heap.size + 1, 2, none⟩ = some (.slice none 0 0) := v1.cell 2
  have b2c0 : w6.cell? ⟨w.heap.size + 2, 0, none⟩ = some (.int .i64 r.1.1) := v2.cell 0
  have b2c1 : w6.cell? ⟨w.heap.size + 2, 1, none⟩ = some (.slice A4 r.1.2.length c4) := v2.cell 1
  have b2c2 : w6.cell? ⟨w.heap.size + 2, 2, none⟩ = some (.slice none 0 0) := v2.cell 2
  have b1f0 := v1.frozen 0
  have b1f1 := v1.frozen 1
  have b1f2 := v1.frozen 2
  have b2f2 := v2.frozen 2
  clear y0 y1 y2 x0 x1 x2
  go_wp2_with (fail)
  refine bodyPost_ret (v := .agg #[.int .i64 r.1.1, .slice A4 r.1.2.length c4, .slice A6 r.2.length c6]) (by simp [results, Tryd.results7, go_sem, b1c0, b1c1, b1c2]) rfl ⟨_, _, _, _, rfl, ?_, ?_, ?_⟩
  · refine OwnInts.mono (lo := w3.heap.size) (hi := w4.heap.size) ?_ (by omega) (by simp; omega)
    repeat (first | exact O6 | refine OwnInts.far ?_ (by simp [s3]) _)
  · refine OwnLits.mono (lo := w5.heap.size) (hi := w6.heap.size) ?_ (by omega) (by simp)
    repeat (first | exact ho6 | refine OwnLits.far ?_ (by simp; omega) _)
  · repeat (first | exact B6 | refine Below.setCell ?_ (by first | (simp; done) | (simp; omega)) _)

set_option maxHeartbeats 1000000 in
theorem eqRule_any (v v2 : Value) (f g : LRule) (w : World) (h : RdRule w w.heap.size v f) (h2 : RdRule w w.heap.size v2 g) (hn : szR f ≤ 1048576) (hn2 : szR g ≤ 1048576) :
    Calls Tryd.prog 10 #[v, v2] w fun e w' => e = .returned (.bool (decide (f = g))) ∧ Below w.heap.size w w' := by
  obtain ⟨a, b, rfl, h, h3⟩ := h
  obtain ⟨a2, b2, rfl, h2, h4⟩ := h2
  unfold szR at hn hn2
  have H := Lib.hid h
  have H2 := Lib.hid h2
  have H3 := Lib.hid h3
  have H4 := Lib.hid h4
  obtain ⟨A, c, rfl, hc, _⟩ := h
  obtain ⟨A2, c2, rfl, hc2, _⟩ := h2
  obtain ⟨A3, c3, rfl, hc3, _⟩ := h3
  obtain ⟨A4, c4, rfl, hc4, _⟩ := h4
  go_enter Tryd.func10, Tryd.ntmps10
  go_wp2_with (fail)
  obtain ⟨w2, hw2⟩ : ∃ w2, w2 = (w.alloc (Obj.cells #[Value.int IntKind.i64 f.1.1, Value.slice A f.1.2.length c, Value.slice A3 f.2.length c3] 33)).alloc (Obj.cells #[Value.int IntKind.i64 g.1.1, Value.slice A2 g.1.2.length c2, Value.slice A4 g.2.length c4] 33) := ⟨_, rfl⟩
  have B2 : Below w.heap.size w w2 := by rw [hw2]; exact below2 _ _ _
  have x0 : Blk w2 w.heap.size 33 #[.int .i64 f.1.1, .slice A f.1.2.length c, .slice A3 f.2.length c3] := by rw [hw2]; exact (Blk.new w _ _).alloc _
  have x1 : Blk w2 (w.heap.size + 1) 33 #[.int .i64 g.1.1, .slice A2 g.1.2.length c2, .slice A4 g.2.length c4] := by
    rw [hw2]
    simpa using Blk.new (w.alloc (Obj.cells #[Value.int IntKind.i64 f.1.1, Value.slice A f.1.2.length c, Value.slice A3 f.2.length c3] 33)) _ _
  rw [← hw2]
  clear hw2
  refine (eqAtom_any _ _ f.1 g.1 _ ⟨_, rfl, H.out.on B2⟩ ⟨_, rfl, H2.out.on B2⟩ (by omega) (by omega)).mono ?_
  rintro e w4 ⟨rfl, hb⟩
  have y0 := x0.below hb x0.lt
  have y1 := x1.below hb x1.lt
  have B4 := bthen B2 hb
  have z0 : w4.cell? ⟨w.heap.size, 2, none⟩ = some (.slice A3 f.2.length c3) := y0.cell 2
  have z1 : w4.cell? ⟨w.heap.size + 1, 2, none⟩ = some (.slice A4 g.2.length c4) := y1.cell 2
  by_cases hp : f.1 = g.1
  · have hpb : decide (f.1 = g.1) = true := by simp [hp]
    have HE := Lib.hid (show decide (f = g) = decide (f.2 = g.2) from decide_eq_decide.2 ⟨fun e => by rw [e], fun e => Prod.ext hp e⟩)
    clear hp
    go_wp2_with (fail)
    refine (eqLitS_any _ _ f.2 g.2 _ (H3.out.on B4) (H4.out.on B4) (by omega) (by omega) (by omega) (by omega)).mono ?_
    rintro e w5 ⟨rfl, hb5⟩
    have B5 := bthen B4 hb5
    by_cases hd : f.2 = g.2
    · have hdb : decide (f.2 = g.2) = true := by simp [hd]
      have HD := Lib.hid hdb
      clear hd
      go_wp2_with (fail)
      go_ret
      exact ⟨ret_bool (by rw [HE.out, HD.out]), B5⟩
    · have hdb : decide (f.2 = g.2) = false := by simp [hd]
      have HD := Lib.hid hdb
      clear hd
      go_wp2_with (fail)
      go_ret
      exact ⟨ret_bool (by rw [HE.out, HD.out]), B5⟩
  · have hpb : decide (f.1 = g.1) = false := by simp [hp]
    have HE := Lib.hid (show decide (f = g) = false from decide_eq_false fun e => hp (by rw [e]))
    clear hp
    go_wp2_with (fail)
    go_ret
    exact ⟨ret_bool HE.out.symm, B4⟩

end Go.Proofs.YtgacdehbdhhbnaaDoor
