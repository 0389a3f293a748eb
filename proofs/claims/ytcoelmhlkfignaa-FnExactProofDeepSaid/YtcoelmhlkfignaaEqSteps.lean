/-
  The walks over steps: eqStep, eqStepS, szStep, szStepS.
-/
import Derived.Test.YtcoelmhlkfignaaStepsM
import Derived.Test.YtcoelmhlkfignaaToFacts
import Derived.Test.YtcoelmhlkfignaaFacts
import Derived.StillTailTactics
namespace Go.Proofs.Ytcoelmhlkfignaa
open Go.RowKit

set_option maxHeartbeats 1000000 in
set_option maxRecDepth 100000 in
theorem eqStep_any (v v2 : Value) (f g : LStep) (w : World) (h : RdStep w w.heap.size v f) (h2 : RdStep w w.heap.size v2 g) (hn : szSt f ≤ 1048576) (hn2 : szSt g ≤ 1048576) :
    Calls Try.prog 24 #[v, v2] w fun e w' => e = .returned (.bool (decide (f = g))) ∧ Below w.heap.size w w' := by
  obtain ⟨a, b, d, rfl, h1, h2', h3⟩ := h
  obtain ⟨a2, b2, d2, rfl, k1, k2, k3⟩ := h2
  unfold szSt at hn hn2
  have H1 := Lib.hid h1
  have H2 := Lib.hid h2'
  have H3 := Lib.hid h3
  have K1 := Lib.hid k1
  have K2 := Lib.hid k2
  have K3 := Lib.hid k3
  obtain ⟨A1, c1, rfl, _, _⟩ := h1
  obtain ⟨A2, c2, rfl, _, _⟩ := h2'
  obtain ⟨A3, c3, rfl, _, _⟩ := h3
  obtain ⟨D1, e1, rfl, _, _⟩ := k1
  obtain ⟨D2, e2, rfl, _, _⟩ := k2
  obtain ⟨D3, e3, rfl, _, _⟩ := k3
  go_enter Try.func24, Try.ntmps24
  go_wp2_with (fail)
  obtain ⟨w2, hw2⟩ : ∃ w2, w2 = (w.alloc (Obj.cells #[Value.int IntKind.i64 f.1.1, Value.slice A1 f.1.2.length c1, Value.int IntKind.i64 f.2.1, Value.slice A2 f.2.2.1.length c2, Value.slice A3 f.2.2.2.length c3] 46)).alloc (Obj.cells #[Value.int IntKind.i64 g.1.1, Value.slice D1 g.1.2.length e1, Value.int IntKind.i64 g.2.1, Value.slice D2 g.2.2.1.length e2, Value.slice D3 g.2.2.2.length e3] 46) := ⟨_, rfl⟩
  have B2 : Below w.heap.size w w2 := by rw [hw2]; exact below2 _ _ _
  have x0 : Blk w2 w.heap.size 46 #[.int .i64 f.1.1, .slice A1 f.1.2.length c1, .int .i64 f.2.1, .slice A2 f.2.2.1.length c2, .slice A3 f.2.2.2.length c3] := by rw [hw2]; exact (Blk.new w _ _).alloc _
  have x1 : Blk w2 (w.heap.size + 1) 46 #[.int .i64 g.1.1, .slice D1 g.1.2.length e1, .int .i64 g.2.1, .slice D2 g.2.2.1.length e2, .slice D3 g.2.2.2.length e3] := by
    rw [hw2]
    simpa using Blk.new (w.alloc (Obj.cells #[Value.int IntKind.i64 f.1.1, Value.slice A1 f.1.2.length c1, Value.int IntKind.i64 f.2.1, Value.slice A2 f.2.2.1.length c2, Value.slice A3 f.2.2.2.length c3] 46)) _ _
  rw [← hw2]
  clear hw2
  refine (eqFact_any _ _ f.1 g.1 _ ⟨_, rfl, H1.out.on B2⟩ ⟨_, rfl, K1.out.on B2⟩ (by omega) (by omega)).mono ?_
  rintro e w4 ⟨rfl, hb⟩
  have y0 := x0.below hb x0.lt
  have y1 := x1.below hb x1.lt
  have B4 := bthen B2 hb
  have p2 : w4.cell? ⟨w.heap.size, 2, none⟩ = some (.int .i64 f.2.1) := y0.cell 2
  have q2 : w4.cell? ⟨w.heap.size + 1, 2, none⟩ = some (.int .i64 g.2.1) := y1.cell 2
  have p3 : w4.cell? ⟨w.heap.size, 3, none⟩ = some (.slice A2 f.2.2.1.length c2) := y0.cell 3
  have q3 : w4.cell? ⟨w.heap.size + 1, 3, none⟩ = some (.slice D2 g.2.2.1.length e2) := y1.cell 3
  by_cases hp : f.1 = g.1
  · have hpb : decide (f.1 = g.1) = true := by simp [hp]
    by_cases hr : f.2.1 = g.2.1
    · have hrb : (f.2.1 != g.2.1) = false := by simp [hr]
      by_cases hd : f.2.2.1 = g.2.2.1
      · have hdb : decide (f.2.2.1 = g.2.2.1) = true := by simp [hd]
        have HE := Lib.hid (show decide (f = g) = decide (f.2.2.2 = g.2.2.2) from decide_eq_decide.2 ⟨fun e => by rw [e], fun e => Prod.ext hp (Prod.ext hr (Prod.ext hd e))⟩)
        have HD := Lib.hid hdb
        clear hp hr hd hdb
        go_wp2_with (fail)
        refine (eqIntS_any _ _ f.2.2.1 g.2.2.1 _ (H2.out.on B4) (K2.out.on B4) (by omega) (by omega)).mono ?_
        rintro e w5 ⟨rfl, hb5⟩
        have z0 := y0.below hb5 y0.lt
        have z1 := y1.below hb5 y1.lt
        have B5 := bthen B4 hb5
        have p4 : w5.cell? ⟨w.heap.size, 4, none⟩ = some (.slice A3 f.2.2.2.length c3) := z0.cell 4
        have q4 : w5.cell? ⟨w.heap.size + 1, 4, none⟩ = some (.slice D3 g.2.2.2.length e3) := z1.cell 4
        rw [HD.out]
        go_wp2_with (fail)
        refine (eqIntS_any _ _ f.2.2.2 g.2.2.2 _ (H3.out.on B5) (K3.out.on B5) (by omega) (by omega)).mono ?_
        rintro e w6 ⟨rfl, hb6⟩
        have B6 := bthen B5 hb6
        by_cases hl : f.2.2.2 = g.2.2.2
        · have hlb : decide (f.2.2.2 = g.2.2.2) = true := by simp [hl]
          have HL := Lib.hid hlb
          clear hl
          go_wp2_with (fail)
          go_ret
          exact ⟨ret_bool (by rw [HE.out, HL.out]), B6⟩
        · have hlb : decide (f.2.2.2 = g.2.2.2) = false := by simp [hl]
          have HL := Lib.hid hlb
          clear hl
          go_wp2_with (fail)
          go_ret
          exact ⟨ret_bool (by rw [HE.out, HL.out]), B6⟩
      · have hdb : decide (f.2.2.1 = g.2.2.1) = false := by simp [hd]
        have HE := Lib.hid (show decide (f = g) = false from decide_eq_false fun e => hd (by rw [e]))
        have HD := Lib.hid hdb
        clear hp hr hd hdb
        go_wp2_with (fail)
        refine (eqIntS_any _ _ f.2.2.1 g.2.2.1 _ (H2.out.on B4) (K2.out.on B4) (by omega) (by omega)).mono ?_
        rintro e w5 ⟨rfl, hb5⟩
        have B5 := bthen B4 hb5
        rw [HD.out]
        go_wp2_with (fail)
        go_ret
        exact ⟨ret_bool HE.out.symm, B5⟩
    · have hrb : (f.2.1 != g.2.1) = true := by simp [hr]
      have HE := Lib.hid (show decide (f = g) = false from decide_eq_false fun e => hr (by rw [e]))
      clear hp hr
      go_wp2_with (fail)
      go_ret
      exact ⟨ret_bool HE.out.symm, B4⟩
  · have hpb : decide (f.1 = g.1) = false := by simp [hp]
    have HE := Lib.hid (show decide (f = g) = false from decide_eq_false fun e => hp (by rw [e]))
    clear hp
    go_wp2_with (fail)
    go_ret
    exact ⟨ret_bool HE.out.symm, B4⟩

def StSame (xs ys : List LStep) (k : Nat) : Prop := xs.take k = ys.take k
theorem StSame.step {xs ys : List LStep} {k : Nat} (h : StSame xs ys k) (h1 : k < xs.length) (h2 : k < ys.length) (e : xs[k] = ys[k]) : StSame xs ys (k + 1) := by
  unfold StSame at h ⊢
  rw [take_snoc xs k h1, take_snoc ys k h2, h, e]
theorem StSame.eq {xs ys : List LStep} (h : StSame xs ys xs.length) (hl : xs.length = ys.length) : xs = ys := by
  unfold StSame at h
  rwa [List.take_length, hl, List.take_length] at h

set_option maxHeartbeats 1000000 in
set_option maxRecDepth 100000 in
theorem eqStepS_any (va vb : Value) (xs ys : List LStep) (w : World) (ha : RdSteps w w.heap.size va xs) (hb : RdSteps w w.heap.size vb ys) (hx : xs.length ≤ 1048576) (hy : ys.length ≤ 1048576) (htx : totS xs ≤ 1048576) (hty : totS ys ≤ 1048576) :
    Calls Try.prog 10 #[va, vb] w fun e w' => e = .returned (.bool (decide (xs = ys))) ∧ Below w.heap.size w w' := by
  have HX := Lib.hid ha
  have HY := Lib.hid hb
  obtain ⟨A, c, rfl, hc, _⟩ := ha
  obtain ⟨A2, c2, rfl, hc2, _⟩ := hb
  by_cases hl : xs.length = ys.length
  · have hl1 : ((xs.length : Int) != (ys.length : Int)) = false := by simp [hl]
    have HL := Lib.hid hl
    clear hl
    go_enter Try.func10, Try.ntmps10
    go_wp2_with (fail)
    go_loopw [5] (fun i wr => ∃ k : Nat, k ≤ xs.length ∧ i = .int .i64 k ∧ StSame xs ys k ∧ Below w.heap.size w wr) (fun i _ => xs.length - (intOf i).toNat)
    case atStart => exact ⟨0, Nat.zero_le _, rfl, rfl, Below.refl _ _⟩
    case round =>
      obtain ⟨k, hk, rfl, hs, hbe⟩ := hrel
      by_cases hlt : k < xs.length
      · have hlt2 : k < ys.length := by have := HL.out; omega
        obtain ⟨b, o, A1, c1, A3, c3, A4, c4, rfl, hbB, ⟨k0, k1, k2, k3, k4⟩, r1, r2, r3⟩ := (HX.out.on hbe).get hlt
        obtain ⟨b2, o2, D1, e1, D3, e3, D4, e4, rfl, hbB2, ⟨m0, m1, m2, m3, m4⟩, q1, q2, q3⟩ := (HY.out.on hbe).get hlt2
        have hln := szSt_le_totS xs k hlt
        have hln2 := szSt_le_totS ys k hlt2
        have HA := Lib.hid (And.intro r1 (And.intro r2 r3))
        have HA2 := Lib.hid (And.intro q1 (And.intro q2 q3))
        clear r1 r2 r3 q1 q2 q3
        go_wp2_with (fail)
        go_still_tail 8, (by kernel_rfl)
        change wpList _ _ _ _ _ wr.drew
        obtain ⟨w2, hw2⟩ : ∃ w2, w2 = wr.drew := ⟨_, rfl⟩
        rw [← hw2]
        have hbe2 : Below wr.heap.size wr w2 := by rw [hw2]; exact (Below.refl _ _).drew
        clear hw2
        go_wp2_with (fail)
        refine (eqStep_any _ _ xs[k] ys[k] _ ⟨_, _, _, rfl, HA.out.1.on hbe2, HA.out.2.1.on hbe2, HA.out.2.2.on hbe2⟩ ⟨_, _, _, rfl, HA2.out.1.on hbe2, HA2.out.2.1.on hbe2, HA2.out.2.2.on hbe2⟩ (by omega) (by omega)).mono ?_
        rintro e w4 ⟨rfl, hb4⟩
        have hB4 := bthen hbe (bthen hbe2 hb4)
        by_cases he : xs[k] = ys[k]
        · have hdb : decide (xs[k] = ys[k]) = true := by simp [he]
          have HS := Lib.hid (hs.step hlt hlt2 he)
          clear he hs
          go_wp2_with (fail)
          go_roundw
          case rel => exact ⟨k + 1, by omega, by go_num, HS.out, hB4⟩
          case measure => simp [intOf]; omega
        · have hdb : decide (xs[k] = ys[k]) = false := by simp [he]
          have HE := Lib.hid (show xs ≠ ys from fun e => he (by subst e; rfl))
          clear he hs
          go_wp2_with (fail)
          go_ret
          exact ⟨ret_bool (by simp [HE.out]), hB4⟩
      · have hkn : k = xs.length := by omega
        have HE := Lib.hid (show xs = ys from StSame.eq (by rw [← hkn]; exact hs) HL.out)
        clear hkn hs
        go_wp2_with (fail)
        go_ret
        exact ⟨ret_bool (by simp [HE.out]), hbe⟩
  · have hl1 : ((xs.length : Int) != (ys.length : Int)) = true := by simp; omega
    have HE := Lib.hid (show xs ≠ ys from fun e => hl (by rw [e]))
    clear hl
    go_enter Try.func10, Try.ntmps10
    go_wp2_with (fail)
    go_ret
    exact ⟨ret_bool (by simp [HE.out]), Below.refl _ _⟩

/-- What szStep answers: -1, or what is left when n are taken. -/
def SzResS (r left : Int) (n : Nat) : Prop := r = -1 ∨ (0 ≤ r ∧ r + n = left)

set_option maxHeartbeats 1000000 in
theorem szStep_any (v : Value) (s : LStep) (left : Int) (w : World) (h : RdStep w w.heap.size v s) (h0 : 0 ≤ left) (hl : left ≤ 1048576) (hn : s.1.2.length ≤ 9223372036854775807) (hn2 : s.2.2.1.length ≤ 9223372036854775807) (hn3 : s.2.2.2.length ≤ 9223372036854775807) :
    Calls Try.prog 20 #[v, .int .i64 left] w fun e w' => ∃ r, e = .returned (.int .i64 r) ∧ SzResS r left (szSt s) ∧ Below w.heap.size w w' := by
  obtain ⟨a, b, d, rfl, h1, h2, h3⟩ := h
  have H1 := Lib.hid h1
  obtain ⟨A1, c1, rfl, _, _⟩ := h1
  obtain ⟨A2, c2, rfl, _, _⟩ := h2
  obtain ⟨A3, c3, rfl, _, _⟩ := h3
  have hcs := szV_cases left s.1.2.length
  go_enter Try.func20, Try.ntmps20
  go_wp2_with (fail)
  obtain ⟨w1, hw1⟩ : ∃ w1, w1 = w.alloc (Obj.cells #[Value.int IntKind.i64 s.1.1, Value.slice A1 s.1.2.length c1, Value.int IntKind.i64 s.2.1, Value.slice A2 s.2.2.1.length c2, Value.slice A3 s.2.2.2.length c3] 42) := ⟨_, rfl⟩
  have B1 : Below w.heap.size w w1 := by rw [hw1]; exact below1 _ _
  have x0 : Blk w1 w.heap.size 42 #[.int .i64 s.1.1, .slice A1 s.1.2.length c1, .int .i64 s.2.1, .slice A2 s.2.2.1.length c2, .slice A3 s.2.2.2.length c3] := by rw [hw1]; exact Blk.new w _ _
  rw [← hw1]
  clear hw1
  refine (szFact_any _ s.1 left _ ⟨_, rfl, H1.out.on B1⟩ h0 hl hn).mono ?_
  rintro e w2 ⟨rfl, hb2⟩
  have y0 := x0.below hb2 x0.lt
  have B2 := bthen B1 hb2
  have p3 : w2.cell? ⟨w.heap.size, 3, none⟩ = some (.slice A2 s.2.2.1.length c2) := y0.cell 3
  have p4 : w2.cell? ⟨w.heap.size, 4, none⟩ = some (.slice A3 s.2.2.2.length c3) := y0.cell 4
  rcases hcs with ⟨e1, _⟩ | ⟨e1, e2⟩
  · rw [e1]
    have HE := Lib.hid (show SzResS (-1) left (szSt s) from .inl rfl)
    clear e1
    go_wp2_with (fail)
    go_ret
    exact ⟨_, rfl, HE.out, B2⟩
  · obtain ⟨r1, hr1⟩ : ∃ r, r = szV left s.1.2.length := ⟨_, rfl⟩
    rw [← hr1] at e1 e2 ⊢
    clear hr1
    have g1 : ¬ r1 < 0 := by omega
    have hcs2 := szV_cases r1 s.2.2.1.length
    have HT := Lib.hid e2
    go_wp2_with (fail)
    refine (szIntS_any _ _ _ _ _ e1 (by omega) hn2).mono ?_
    rintro e w3 ⟨rfl, rfl⟩
    rcases hcs2 with ⟨e3, _⟩ | ⟨e3, e4⟩
    · rw [e3]
      have HE := Lib.hid (show SzResS (-1) left (szSt s) from .inl rfl)
      clear e3 e2
      go_wp2_with (fail)
      go_ret
      exact ⟨_, rfl, HE.out, B2⟩
    · obtain ⟨r2, hr2⟩ : ∃ r, r = szV r1 s.2.2.1.length := ⟨_, rfl⟩
      rw [← hr2] at e3 e4 ⊢
      clear hr2
      have g2 : ¬ r2 < 0 := by omega
      have hcs3 := szV_cases r2 s.2.2.2.length
      have HT2 := Lib.hid e4
      have hl3 : r2 ≤ 1048576 := by omega
      clear e2 e4
      go_wp2_with (fail)
      refine (szIntS_any _ _ _ _ _ e3 hl3 hn3).mono ?_
      rintro e w4 ⟨rfl, rfl⟩
      rcases hcs3 with ⟨e5, _⟩ | ⟨e5, e6⟩
      · rw [e5]
        have HE := Lib.hid (show SzResS (-1) left (szSt s) from .inl rfl)
        clear e5
        go_wp2_with (fail)
        go_ret
        exact ⟨_, rfl, HE.out, B2⟩
      · obtain ⟨r3, hr3⟩ : ∃ r, r = szV r2 s.2.2.2.length := ⟨_, rfl⟩
        rw [← hr3] at e5 e6 ⊢
        clear hr3
        have g3 : ¬ r3 < 0 := by omega
        have HE := Lib.hid (show SzResS r3 left (szSt s) from .inr ⟨e5, by have h1 := HT.out; have h2 := HT2.out; unfold szSt; omega⟩)
        clear e6
        go_wp2_with (fail)
        go_ret
        exact ⟨_, rfl, HE.out, B2⟩

def SzToS (r left : Int) (n m : Nat) : Prop := 0 ≤ r ∧ r + n + m = left
set_option maxHeartbeats 1000000 in
theorem szStepS_any (v : Value) (ss : List LStep) (left : Int) (w : World) (h : RdSteps w w.heap.size v ss) (h0 : 0 ≤ left) (hl : left ≤ 1048576) (hn : ss.length ≤ 9223372036854775807) (hm : ∀ k (h : k < ss.length), ss[k].1.2.length ≤ 9223372036854775807 ∧ ss[k].2.2.1.length ≤ 9223372036854775807 ∧ ss[k].2.2.2.length ≤ 9223372036854775807) :
    Calls Try.prog 6 #[v, .int .i64 left] w fun e w' => ∃ r, e = .returned (.int .i64 r) ∧ SzResS r left (ss.length + totS ss) ∧ Below w.heap.size w w' := by
  have H := Lib.hid h
  obtain ⟨A, c, rfl, hc, _⟩ := h
  by_cases hneg : left - (ss.length : Int) < 0
  · go_enter Try.func6, Try.ntmps6
    go_wp2_with (fail)
    go_ret
    exact ⟨_, rfl, .inl rfl, Below.refl _ _⟩
  · go_enter Try.func6, Try.ntmps6
    go_wp2_with (fail)
    go_loopw [1, 5] (fun l i wr => ∃ (k : Nat) (r : Int), k ≤ ss.length ∧ i = .int .i64 k ∧ l = .int .i64 r ∧ SzToS r left ss.length (totS (ss.take k)) ∧ Below w.heap.size w wr) (fun _ i _ => ss.length - (intOf i).toNat)
    case atStart => exact ⟨0, _, Nat.zero_le _, rfl, rfl, ⟨by omega, by simp [totS]⟩, Below.refl _ _⟩
    case round =>
      obtain ⟨k, r, hk, rfl, rfl, hs, hbe⟩ := hrel
      by_cases hlt : k < ss.length
      · obtain ⟨b, o, A1, c1, A3, c3, A4, c4, rfl, hbB, ⟨k0, k1, k2, k3, k4⟩, r1, r2, r3⟩ := (H.out.on hbe).get hlt
        have HA := Lib.hid (And.intro r1 (And.intro r2 r3))
        clear r1 r2 r3
        obtain ⟨m1, m2, m3⟩ := hm k hlt
        have htk := totS_take ss k hlt
        have hr0 := hs.1
        have hr1 := hs.2
        have hr2 : r ≤ 1048576 := by omega
        have HT := Lib.hid (And.intro htk hr1)
        clear htk hr1
        go_wp2_with (fail)
        refine (szStep_any _ ss[k] r _ ⟨_, _, _, rfl, HA.out.1, HA.out.2.1, HA.out.2.2⟩ hr0 hr2 m1 m2 m3).mono ?_
        rintro e w4 ⟨q, rfl, hq, hb4⟩
        have hB4 := bthen hbe hb4
        rcases hq with rfl | ⟨q0, q1⟩
        · go_wp2_with (fail)
          go_ret
          exact ⟨_, rfl, .inl rfl, hB4⟩
        · have hq1 : ¬ q < 0 := by omega
          have HS := Lib.hid (show SzToS q left ss.length (totS (ss.take (k + 1))) from ⟨q0, by have := HT.out; omega⟩)
          clear q0 q1
          go_wp2_with (fail)
          go_roundw
          case rel => exact ⟨k + 1, _, by omega, by go_num, rfl, HS.out, hB4⟩
          case measure => simp [intOf]; omega
      · have hkn : k = ss.length := by omega
        have HE := Lib.hid (show SzResS r left (ss.length + totS ss) from .inr ⟨hs.1, by have := hs.2; rw [hkn, List.take_length] at this; omega⟩)
        clear hkn hs
        go_wp2_with (fail)
        go_ret
        exact ⟨_, rfl, HE.out, hbe⟩

end Go.Proofs.Ytcoelmhlkfignaa
