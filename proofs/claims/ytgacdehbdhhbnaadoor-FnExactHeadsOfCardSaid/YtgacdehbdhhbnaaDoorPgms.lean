/-
  The walks over lists of rules and programs: szRuleS, toRuleS, eqRuleS, szProgram, toProgram, eqProgram.
-/
import Derived.Test.YtgacdehbdhhbnaaDoorRules
import Derived.Test.YtgacdehbdhhbnaaDoorOpens
namespace Go.Proofs.YtgacdehbdhhbnaaDoor
open Go.RowKit

theorem Tryd.infoRule : (Tryd.prog.info? 33).map (fun i => (i.zero, i.size, i.bytes)) = some (some (.agg #[.int .i64 0, .slice none 0 0, .slice none 0 0]), 3, 56) := by kernel_rfl

set_option maxHeartbeats 400000 in
theorem toRuleS_any (v : Value) (ls : List LRule) (w : World) (h : RdRules w w.heap.size v ls) (hl : ls.length ≤ 1048576) (hn : totR ls ≤ 1048576) :
    Calls Tryd.prog 35 #[v] w fun e w' => ∃ A' c', e = .returned (.slice A' ls.length c') ∧ OwnRules w' w.heap.size w'.heap.size (.slice A' ls.length c') ls ∧ Below w.heap.size w w' := by
  obtain ⟨i0, hi0, hz0, hz1, hz2⟩ := info_parts Tryd.infoRule
  have hmk := fun W => run_make_rowN (P := Tryd.prog) 45 33 i0 (.agg #[.int .i64 0, .slice none 0 0, .slice none 0 0]) Tryd.underlying45 hi0 hz0 .i64 .i64 ls.length ls.length (Nat.le_refl _) (by rw [hz2]; omega) (by omega) W
  rw [hz1] at hmk
  simp only [Value.cells] at hmk
  have H := Lib.hid h
  obtain ⟨A, c, rfl, hc, _⟩ := h
  go_enter Tryd.func35, Tryd.ntmps35
  go_wp2_with (fail)
  go_loopw [4] (fun i wr => ∃ (k : Nat), k ≤ ls.length ∧ i = .int .i64 k ∧ ToRow 33 (.int .i64 0) (.slice none 0 0) (.slice none 0 0) ORule w wr ls k) (fun i _ => ls.length - (intOf i).toNat)
  case atStart => exact ⟨0, Nat.zero_le _, rfl, ToRow.start w ls⟩
  case round =>
    obtain ⟨k, hk, rfl, hr⟩ := hrel
    by_cases hlt : k < ls.length
    · obtain ⟨b, o, u0, u1, u2, rfl, hbB, k0, k1, k2, rfl, k3, k4⟩ := (H.out.on hr.below).get hlt
      have HA := Lib.hid k3
      have HB := Lib.hid k4
      obtain ⟨A3, c3, rfl, hc4, _⟩ := k3
      obtain ⟨A5, c5, rfl, hc5, _⟩ := k4
      have hln := sz_le_totR ls k hlt
      go_wp2_with (fail)
      refine (toRule_any _ ls[k] _ ⟨_, _, rfl, HA.out, HB.out⟩ (by omega)).mono ?_
      rintro e w4 ⟨A4, c4, A6, c6, rfl, ho4, hl4, hb4⟩
      obtain ⟨r1, r2, r3, r4, r5, r6⟩ := hr.room hlt hb4
      have hstep := hr.step (O := ORule) ORule.keep ORule.mono hlt hb4 (u0 := .int .i64 ls[k].1.1) ⟨rfl, ho4, hl4⟩
      go_wp2_with (fail)
      go_roundw
      case rel => exact ⟨k + 1, by omega, by go_num, hstep⟩
      case measure => simp [intOf]; omega
    · have hkn : k = ls.length := by omega
      have HO := Lib.hid (show OwnRules wr w.heap.size wr.heap.size (.slice (some ⟨w.heap.size, 0, none⟩) ls.length ls.length) ls from ToRow.done (O := ORule) ORule.mono (by have h' := hr; rw [hkn] at h'; exact h'))
      have hbe := hr.below
      clear hkn hr
      go_wp2_with (fail)
      go_ret
      exact ⟨_, _, rfl, HO.out, hbe⟩

set_option maxHeartbeats 400000 in
set_option maxRecDepth 100000 in
theorem eqRuleS_any (va vb : Value) (xs ys : List LRule) (w : World) (ha : RdRules w w.heap.size va xs) (hb : RdRules w w.heap.size vb ys) (hx : xs.length ≤ 1048576) (hy : ys.length ≤ 1048576) (htx : totR xs ≤ 1048576) (hty : totR ys ≤ 1048576) :
    Calls Tryd.prog 36 #[va, vb] w fun e w' => e = .returned (.bool (decide (xs = ys))) ∧ Below w.heap.size w w' := by
  have HX := Lib.hid ha
  have HY := Lib.hid hb
  obtain ⟨A, c, rfl, hc, _⟩ := ha
  obtain ⟨A2, c2, rfl, hc2, _⟩ := hb
  by_cases hl : xs.length = ys.length
  · have hl1 : ((xs.length : Int) != (ys.length : Int)) = false := by simp [hl]
    have HL := Lib.hid hl
    clear hl
    go_enter Tryd.func36, Tryd.ntmps36
    go_wp2_with (fail)
    go_loopw [5] (fun i wr => ∃ k : Nat, k ≤ xs.length ∧ i = .int .i64 k ∧ TSame xs ys k ∧ Below w.heap.size w wr) (fun i _ => xs.length - (intOf i).toNat)
    case atStart => exact ⟨0, Nat.zero_le _, rfl, rfl, Below.refl _ _⟩
    case round =>
      obtain ⟨k, hk, rfl, hs, hbe⟩ := hrel
      by_cases hlt : k < xs.length
      · have hlt2 : k < ys.length := by have := HL.out; omega
        obtain ⟨b, o, u0, u1, u2, rfl, hbB, k0, k1, k2, rfl, p3, p4⟩ := (HX.out.on hbe).get hlt
        obtain ⟨b2, o2, v0, v1, v2, rfl, hbB2, m0, m1, m2, rfl, q3, q4⟩ := (HY.out.on hbe).get hlt2
        have hln := sz_le_totR xs k hlt
        have hln2 := sz_le_totR ys k hlt2
        have HA := Lib.hid p3
        have HA2 := Lib.hid q3
        have HB := Lib.hid p4
        have HB2 := Lib.hid q4
        obtain ⟨A3, c3, rfl, hc3, _⟩ := p3
        obtain ⟨A4, c4, rfl, hc4, _⟩ := q3
        obtain ⟨A5, c5, rfl, hc5, _⟩ := p4
        obtain ⟨A6, c6, rfl, hc6, _⟩ := q4
        go_wp2_with (fail)
        go_still_tail 8, (by kernel_rfl)
        change wpList _ _ _ _ _ wr.drew
        obtain ⟨w2, hw2⟩ : ∃ w2, w2 = wr.drew := ⟨_, rfl⟩
        rw [← hw2]
        have hbe2 : Below wr.heap.size wr w2 := by rw [hw2]; exact (Below.refl _ _).drew
        clear hw2
        go_wp2_with (fail)
        refine (eqRule_any _ _ xs[k] ys[k] _ ⟨_, _, rfl, HA.out.on hbe2, HB.out.on hbe2⟩ ⟨_, _, rfl, HA2.out.on hbe2, HB2.out.on hbe2⟩ (by omega) (by omega)).mono ?_
        rintro e w4 ⟨rfl, hb4⟩
        have hB4 := bthen hbe (bthen hbe2 hb4)
        by_cases he : xs[k] = ys[k]
        · have hdb : decide (xs[k] = ys[k]) = true := by simp [he]
          have HS := Lib.hid (hs.step hlt hlt2 he)
          clear he hs
          go_wp2_with (fail)
          go_roundw
          case rel => exact ⟨k + 1, by omega, by go_num, HS.out, hB4⟩
          case measure => simp [intOf]; omega
        · have hdb : decide (xs[k] = ys[k]) = false := by simp [he]
          have HE := Lib.hid (show xs ≠ ys from fun e => he (by subst e; rfl))
          clear he hs
          go_wp2_with (fail)
          go_ret
          exact ⟨ret_bool (by simp [HE.out]), hB4⟩
      · have hkn : k = xs.length := by omega
        have HE := Lib.hid (show xs = ys from TSame.eq (by rw [← hkn]; exact hs) HL.out)
        clear hkn hs
        go_wp2_with (fail)
        go_ret
        exact ⟨ret_bool (by simp [HE.out]), hbe⟩
  · have hl1 : ((xs.length : Int) != (ys.length : Int)) = true := by simp; omega
    have HE := Lib.hid (show xs ≠ ys from fun e => hl (by rw [e]))
    clear hl
    go_enter Tryd.func36, Tryd.ntmps36
    go_wp2_with (fail)
    go_ret
    exact ⟨ret_bool (by simp [HE.out]), Below.refl _ _⟩

set_option maxHeartbeats 400000 in
theorem szRuleS_any (v : Value) (ls : List LRule) (left : Int) (w : World) (h : RdRules w w.heap.size v ls) (h0 : 0 ≤ left) (hl : left ≤ 1048576) (hn : ls.length ≤ 9223372036854775807) (hm : ∀ k (h : k < ls.length), ruleLens ls[k]) :
    Calls Tryd.prog 32 #[v, .int .i64 left] w fun e w' => ∃ r, e = .returned (.int .i64 r) ∧ SzRes r left (ls.length + totR ls) ∧ Below w.heap.size w w' := by
  have H := Lib.hid h
  obtain ⟨A, c, rfl, hc, _⟩ := h
  by_cases hneg : left - (ls.length : Int) < 0
  · go_enter Tryd.func32, Tryd.ntmps32
    go_wp2_with (fail)
    go_ret
    exact ⟨_, rfl, .inl rfl, Below.refl _ _⟩
  · go_enter Tryd.func32, Tryd.ntmps32
    go_wp2_with (fail)
    go_loopw [1, 5] (fun l i wr => ∃ (k : Nat) (r : Int), k ≤ ls.length ∧ i = .int .i64 k ∧ l = .int .i64 r ∧ SzTo r left ls.length (totR (ls.take k)) ∧ Below w.heap.size w wr) (fun _ i _ => ls.length - (intOf i).toNat)
    case atStart => exact ⟨0, _, Nat.zero_le _, rfl, rfl, ⟨by omega, by simp [totR]⟩, Below.refl _ _⟩
    case round =>
      obtain ⟨k, r, hk, rfl, rfl, hs, hbe⟩ := hrel
      by_cases hlt : k < ls.length
      · obtain ⟨b, o, u0, u1, u2, rfl, hbB, k0, k1, k2, rfl, p3, p4⟩ := (H.out.on hbe).get hlt
        have HA := Lib.hid p3
        have HB := Lib.hid p4
        obtain ⟨A3, c3, rfl, hc3, _⟩ := p3
        obtain ⟨A5, c5, rfl, hc5, _⟩ := p4
        have hmk := hm k hlt
        have htk := totR_take ls k hlt
        have hr0 := hs.1
        have hr1 := hs.2
        have HT := Lib.hid (And.intro htk hr1)
        clear htk hr1
        go_wp2_with (fail)
        refine (szRule_any _ ls[k] r _ ⟨_, _, rfl, HA.out, HB.out⟩ hr0 (by have := HT.out; omega) hmk).mono ?_
        rintro e w4 ⟨z, rfl, hz, hb4⟩
        have hB4 := bthen hbe hb4
        rcases hz with rfl | ⟨z0, z1⟩
        · go_wp2_with (fail)
          go_ret
          exact ⟨_, rfl, .inl rfl, hB4⟩
        · have h1 : ¬ z < 0 := by omega
          have HS := Lib.hid (show SzTo z left ls.length (totR (ls.take (k + 1))) from ⟨z0, by have := HT.out; omega⟩)
          clear z1
          go_wp2_with (fail)
          go_roundw
          case rel => exact ⟨k + 1, _, by omega, by go_num, rfl, HS.out, hB4⟩
          case measure => simp [intOf]; omega
      · have hkn : k = ls.length := by omega
        have HE := Lib.hid (show SzRes r left (ls.length + totR ls) from .inr ⟨hs.1, by have := hs.2; rw [hkn, List.take_length] at this; omega⟩)
        clear hkn hs
        go_wp2_with (fail)
        go_ret
        exact ⟨_, rfl, HE.out, hbe⟩

/-- What szProgram counts. -/
def szP (p : LProg) : Nat := p.1.length + (p.2.length + totR p.2)
def progLens (p : LProg) : Prop := p.1.length ≤ 9223372036854775807 ∧ p.2.length ≤ 9223372036854775807 ∧ ∀ k (h : k < p.2.length), ruleLens p.2[k]

set_option maxHeartbeats 400000 in
theorem szProgram_any (v : Value) (p : LProg) (left : Int) (w : World) (h : RdProg w w.heap.size v p) (h0 : 0 ≤ left) (hl : left ≤ 1048576) (hn : progLens p) :
    Calls Tryd.prog 14 #[v, .int .i64 left] w fun e w' => ∃ z, e = .returned (.int .i64 z) ∧ SzRes z left (szP p) ∧ Below w.heap.size w w' := by
  obtain ⟨a, b, rfl, h, h2⟩ := h
  obtain ⟨hn1, hn2, hn3⟩ := hn
  have H := Lib.hid h
  have H2 := Lib.hid h2
  obtain ⟨A, c, rfl, hc, _⟩ := h
  obtain ⟨A2, c2, rfl, hcc, _⟩ := h2
  have hcs := szV_cases left p.1.length
  go_enter Tryd.func14, Tryd.ntmps14
  go_wp2_with (fail)
  obtain ⟨w1, hw1⟩ : ∃ w1, w1 = w.alloc (Obj.cells #[Value.slice A p.1.length c, Value.slice A2 p.2.length c2] 42) := ⟨_, rfl⟩
  have B1 : Below w.heap.size w w1 := by rw [hw1]; exact below1 _ _
  have x1 : Blk w1 w.heap.size 42 #[.slice A p.1.length c, .slice A2 p.2.length c2] := by rw [hw1]; exact Blk.new w _ _
  have hx2 : w1.cell? ⟨w.heap.size, 1, none⟩ = some (.slice A2 p.2.length c2) := x1.cell 1
  rw [← hw1]
  clear hw1
  refine (szIntS_any _ _ _ _ _ h0 hl hn1).mono ?_
  rintro e w' ⟨rfl, rfl⟩
  rcases hcs with ⟨e1, e2⟩ | ⟨e1, e2⟩
  · rw [e1]
    have HV := Lib.hid e1
    clear e1
    go_wp2_with (fail)
    go_ret
    exact ⟨_, rfl, .inl rfl, B1⟩
  · have h1 : ¬ szV left p.1.length < 0 := by omega
    go_wp2_with (fail)
    refine (szRuleS_any _ p.2 _ _ (H2.out.on B1) e1 (by omega) hn2 hn3).mono ?_
    rintro e w2 ⟨z, rfl, hz, hb2⟩
    have hB2 := bthen B1 hb2
    rcases hz with rfl | ⟨z0, z1⟩
    · go_wp2_with (fail)
      go_ret
      exact ⟨_, rfl, .inl rfl, hB2⟩
    · have hz : ¬ z < 0 := by omega
      have HZ := Lib.hid (show SzRes z left (szP p) from .inr ⟨z0, by unfold szP; omega⟩)
      clear z0 z1 e1 e2
      go_wp2_with (fail)
      go_ret
      exact ⟨_, rfl, HZ.out, hB2⟩

theorem OwnRules.below {w w' : World} {lo hi B : Nat} {v : Value} {rs : List LRule} (h : OwnRules w lo hi v rs) (hb : Below B w w') (hB : hi ≤ B) : OwnRules w' lo hi v rs := h.keep fun g _ h2 => hb.block g (by omega)
theorem OwnRules.far {w : World} {lo hi : Nat} {v : Value} {rs : List LRule} (h : OwnRules w lo hi v rs) {p : Addr} (hp : p.block < lo) (u : Value) : OwnRules (w.setCell p u) lo hi v rs :=
  h.keep fun g h1 _ => Below.heap_setCell _ _ _ _ (by omega)

set_option maxHeartbeats 1000000 in
theorem toProgram_any (v : Value) (p : LProg) (w : World) (h : RdProg w w.heap.size v p) (hn : szP p ≤ 1048576) :
    Calls Tryd.prog 16 #[v] w fun e w' => ∃ A' c' A2' c2', e = .returned (.agg #[.slice A' p.1.length c', .slice A2' p.2.length c2']) ∧ OwnInts w' w.heap.size w'.heap.size (.slice A' p.1.length c') p.1 ∧ OwnRules w' w.heap.size w'.heap.size (.slice A2' p.2.length c2') p.2 ∧ Below w.heap.size w w' := by
  obtain ⟨a, b, rfl, h, h2⟩ := h
  unfold szP at hn
  have H := Lib.hid h
  have H2 := Lib.hid h2
  obtain ⟨A, c, rfl, hc, _⟩ := h
  obtain ⟨A2, c2, rfl, hcc, _⟩ := h2
  go_enter Tryd.func16, Tryd.ntmps16
  go_wp2_with (fail)
  obtain ⟨w3, hw3⟩ : ∃ w3, w3 = ((w.alloc (Obj.cells #[Value.slice A p.1.length c, Value.slice A2 p.2.length c2] 42)).alloc (Obj.cells #[.slice none 0 0, .slice none 0 0] 47)).alloc (Obj.cells #[.slice none 0 0, .slice none 0 0] 47) := ⟨_, rfl⟩
  have B3 : Below w.heap.size w w3 := by rw [hw3]; exact below3 _ _ _ _
  have s3 : w3.heap.size = w.heap.size + 3 := by rw [hw3]; simp
  have x0 : Blk w3 w.heap.size 42 #[.slice A p.1.length c, .slice A2 p.2.length c2] := by rw [hw3]; exact ((Blk.new w _ _).alloc _).alloc _
  have x1 : Blk w3 (w.heap.size + 1) 47 #[.slice none 0 0, .slice none 0 0] := by
    rw [hw3]
    simpa using (Blk.new (w.alloc (Obj.cells #[Value.slice A p.1.length c, Value.slice A2 p.2.length c2] 42)) _ _).alloc _
  have x2 : Blk w3 (w.heap.size + 2) 47 #[.slice none 0 0, .slice none 0 0] := by
    rw [hw3]
    simpa using Blk.new ((w.alloc (Obj.cells #[Value.slice A p.1.length c, Value.slice A2 p.2.length c2] 42)).alloc (Obj.cells #[.slice none 0 0, .slice none 0 0] 47)) _ _
  rw [← hw3]
  clear hw3
  refine (toIntS_any _ p.1 _ (H.out.on B3) (by omega)).mono ?_
  rintro e w4 ⟨A4, c4, rfl, ho, hb⟩
  have y0 := x0.below hb x0.lt
  have y1 := x1.below hb x1.lt
  have y2 := x2.below hb x2.lt
  have z2c0 : w4.cell? ⟨w.heap.size + 2, 0, none⟩ = some (.slice none 0 0) := y2.cell 0
  have z2f0 := y2.frozen 0
  have z0c2 : w4.cell? ⟨w.heap.size, 1, none⟩ = some (.slice A2 p.2.length c2) := y0.cell 1
  go_wp2_with (fail)
  obtain ⟨w5, hw5⟩ : ∃ w5, w5 = w4.setCell ⟨w.heap.size + 2, 0, none⟩ (.slice A4 p.1.length c4) := ⟨_, rfl⟩
  have s5 : w5.heap.size = w4.heap.size := by rw [hw5]; simp
  have s4 := hb.size
  have u2 : Blk w5 (w.heap.size + 2) 47 #[.slice A4 p.1.length c4, .slice none 0 0] := by
    rw [hw5]
    simpa using y2.set_ 0 (.slice A4 p.1.length c4)
  have u1 : Blk w5 (w.heap.size + 1) 47 #[.slice none 0 0, .slice none 0 0] := by rw [hw5]; exact y1.far (by simp) _
  have B5 : Below w.heap.size w w5 := by rw [hw5]; exact (bthen B3 hb).setCell (by simp) _
  have O5 : OwnInts w5 w3.heap.size w4.heap.size (.slice A4 p.1.length c4) p.1 := by rw [hw5]; exact ho.far (by simp [s3]) _
  rw [← hw5]
  clear hw5 z2c0 z2f0 z0c2
  refine (toRuleS_any _ p.2 _ (H2.out.on B5) (by omega) (by omega)).mono ?_
  rintro e w6 ⟨A6, c6, rfl, ho6, hb6⟩
  have v1 := u1.below hb6 u1.lt
  have v2 := u2.below hb6 u2.lt
  have B6 := bthen B5 hb6
  have O6 := O5.below hb6 (by omega)
  have s6 := hb6.size
  have b1c0 : w6.cell? ⟨w.heap.size + 1, 0, none⟩ = some (.slice none 0 0) := v1.cell 0
  have b1c1 : w6.cell? ⟨w.heap.size + 1, 1, none⟩ = some (.slice none 0 0) := v1.cell 1
  have b2c0 : w6.cell? ⟨w.heap.size + 2, 0, none⟩ = some (.slice A4 p.1.length c4) := v2.cell 0
  have b2c1 : w6.cell? ⟨w.heap.size + 2, 1, none⟩ = some (.slice none 0 0) := v2.cell 1
  have b1f0 := v1.frozen 0
  have b1f1 := v1.frozen 1
  have b2f1 := v2.frozen 1
  clear y0 y1 y2 x0 x1 x2
  go_wp2_with (fail)
  refine bodyPost_ret (v := .agg #[.slice A4 p.1.length c4, .slice A6 p.2.length c6]) (by simp [results, Tryd.results16, go_sem, b1c0, b1c1]) rfl ⟨_, _, _, _, rfl, ?_, ?_, ?_⟩
  · refine OwnInts.mono (lo := w3.heap.size) (hi := w4.heap.size) ?_ (by omega) (by simp; omega)
    repeat (first | exact O6 | refine OwnInts.far ?_ (by simp [s3]) _)
  · refine OwnRules.mono (lo := w5.heap.size) (hi := w6.heap.size) ?_ (by omega) (by simp)
    repeat (first | exact ho6 | refine OwnRules.far ?_ (by simp; omega) _)
  · repeat (first | exact B6 | refine Below.setCell ?_ (by first | (simp; done) | (simp; omega)) _)

set_option maxHeartbeats 1000000 in
theorem eqProgram_any (v v2 : Value) (f g : LProg) (w : World) (h : RdProg w w.heap.size v f) (h2 : RdProg w w.heap.size v2 g) (hn : szP f ≤ 1048576) (hn2 : szP g ≤ 1048576) :
    Calls Tryd.prog 18 #[v, v2] w fun e w' => e = .returned (.bool (decide (f = g))) ∧ Below w.heap.size w w' := by
  obtain ⟨a, b, rfl, h, h3⟩ := h
  obtain ⟨a2, b2, rfl, h2, h4⟩ := h2
  unfold szP at hn hn2
  have H := Lib.hid h
  have H2 := Lib.hid h2
  have H3 := Lib.hid h3
  have H4 := Lib.hid h4
  obtain ⟨A, c, rfl, hc, _⟩ := h
  obtain ⟨A2, c2, rfl, hc2, _⟩ := h2
  obtain ⟨A3, c3, rfl, hc3, _⟩ := h3
  obtain ⟨A4, c4, rfl, hc4, _⟩ := h4
  go_enter Tryd.func18, Tryd.ntmps18
  go_wp2_with (fail)
  obtain ⟨w2, hw2⟩ : ∃ w2, w2 = (w.alloc (Obj.cells #[Value.slice A f.1.length c, Value.slice A3 f.2.length c3] 47)).alloc (Obj.cells #[Value.slice A2 g.1.length c2, Value.slice A4 g.2.length c4] 47) := ⟨_, rfl⟩
  have B2 : Below w.heap.size w w2 := by rw [hw2]; exact below2 _ _ _
  have x0 : Blk w2 w.heap.size 47 #[.slice A f.1.length c, .slice A3 f.2.length c3] := by rw [hw2]; exact (Blk.new w _ _).alloc _
  have x1 : Blk w2 (w.heap.size + 1) 47 #[.slice A2 g.1.length c2, .slice A4 g.2.length c4] := by
    rw [hw2]
    simpa using Blk.new (w.alloc (Obj.cells #[Value.slice A f.1.length c, Value.slice A3 f.2.length c3] 47)) _ _
  rw [← hw2]
  clear hw2
  refine (eqIntS_any _ _ f.1 g.1 _ (H.out.on B2) (H2.out.on B2) (by omega) (by omega)).mono ?_
  rintro e w4 ⟨rfl, hb⟩
  have y0 := x0.below hb x0.lt
  have y1 := x1.below hb x1.lt
  have B4 := bthen B2 hb
  have z0 : w4.cell? ⟨w.heap.size, 1, none⟩ = some (.slice A3 f.2.length c3) := y0.cell 1
  have z1 : w4.cell? ⟨w.heap.size + 1, 1, none⟩ = some (.slice A4 g.2.length c4) := y1.cell 1
  by_cases hp : f.1 = g.1
  · have hpb : decide (f.1 = g.1) = true := by simp [hp]
    have HE := Lib.hid (show decide (f = g) = decide (f.2 = g.2) from decide_eq_decide.2 ⟨fun e => by rw [e], fun e => Prod.ext hp e⟩)
    clear hp
    go_wp2_with (fail)
    refine (eqRuleS_any _ _ f.2 g.2 _ (H3.out.on B4) (H4.out.on B4) (by omega) (by omega) (by omega) (by omega)).mono ?_
    rintro e w5 ⟨rfl, hb5⟩
    have B5 := bthen B4 hb5
    by_cases hd : f.2 = g.2
    · have hdb : decide (f.2 = g.2) = true := by simp [hd]
      have HD := Lib.hid hdb
      clear hd
      go_wp2_with (fail)
      go_ret
      exact ⟨ret_bool (by rw [HE.out, HD.out]), B5⟩
    · have hdb : decide (f.2 = g.2) = false := by simp [hd]
      have HD := Lib.hid hdb
      clear hd
      go_wp2_with (fail)
      go_ret
      exact ⟨ret_bool (by rw [HE.out, HD.out]), B5⟩
  · have hpb : decide (f.1 = g.1) = false := by simp [hp]
    have HE := Lib.hid (show decide (f = g) = false from decide_eq_false fun e => hp (by rw [e]))
    clear hp
    go_wp2_with (fail)
    go_ret
    exact ⟨ret_bool HE.out.symm, B4⟩

end Go.Proofs.YtgacdehbdhhbnaaDoor
