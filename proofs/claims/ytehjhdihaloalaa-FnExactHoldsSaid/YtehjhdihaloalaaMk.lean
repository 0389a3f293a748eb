/-
  The specification's sets of variables: rows of four bools. The walks of l2Mark, l2Marks.
-/
import Derived.Test.YtehjhdihaloalaaWords
import Derived.Test.YtehjhdihaloalaaMasks
import Derived.Test.YtehjhdihaloalaaL1In
namespace Go.Proofs.Ytehjhdihaloalaa
open Go.RowKit

/-- Block g is the row of the bits of m. -/
def MkRow (w : World) (g m : Nat) : Prop := Blk w g 4 #[.bool (m.testBit 0), .bool (m.testBit 1), .bool (m.testBit 2), .bool (m.testBit 3)]
theorem MkRow.cell {w : World} {g m : Nat} (h : MkRow w g m) {i : Nat} (hi : i < 4) : w.cell? ⟨g, i, none⟩ = some (.bool (m.testBit i)) := by
  rw [Blk.cell h i]
  match i, hi with
  | 0, _ => rfl
  | 1, _ => rfl
  | 2, _ => rfl
  | 3, _ => rfl
theorem MkRow.frozen {w : World} {g m : Nat} (h : MkRow w g m) (i : Nat) : w.frozen? ⟨g, i, none⟩ = false := Blk.frozen h i
theorem MkRow.lt {w : World} {g m : Nat} (h : MkRow w g m) : g < w.heap.size := Blk.lt h
theorem MkRow.below {B : Nat} {w w' : World} {g m : Nat} (h : MkRow w g m) (hb : Below B w w') (hg : g < B) : MkRow w' g m := Blk.below h hb hg
theorem MkRow.set {w : World} {g m : Nat} (h : MkRow w g m) {j : Nat} (hj : j < 4) : MkRow (w.setCell ⟨g, j, none⟩ (.bool true)) g (m ||| 2 ^ j) := by
  have h2 := Blk.set_ h j (.bool true)
  unfold MkRow
  match j, hj with
  | 0, _ => simpa [Nat.testBit_or, show Nat.testBit 1 1 = false from rfl, show Nat.testBit 1 2 = false from rfl, show Nat.testBit 1 3 = false from rfl] using h2
  | 1, _ => simpa [Nat.testBit_or, show Nat.testBit 2 1 = true from rfl, show Nat.testBit 2 2 = false from rfl, show Nat.testBit 2 3 = false from rfl] using h2
  | 2, _ => simpa [Nat.testBit_or, show Nat.testBit 4 1 = false from rfl, show Nat.testBit 4 2 = true from rfl, show Nat.testBit 4 3 = false from rfl] using h2
  | 3, _ => simpa [Nat.testBit_or, show Nat.testBit 8 1 = false from rfl, show Nat.testBit 8 2 = false from rfl, show Nat.testBit 8 3 = true from rfl] using h2
theorem maskFrom_take {xs : List Int} {m k : Nat} (h : k < xs.length) : maskFrom m (xs.take (k + 1)) = orV (maskFrom m (xs.take k)) xs[k] := by
  unfold maskFrom
  rw [take_snoc xs k h, List.foldl_append]
  rfl
theorem MkRow.var {w : World} {g m : Nat} (h : MkRow w g m) {t : Int} {j : Nat} (hj : j < 4) (ht : t = -1 - (j : Int)) : MkRow (w.setCell ⟨g, j, none⟩ (.bool true)) g (orV m t) := by
  have hv : isVarB t = true := by simp [isVarB]; omega
  have hn : (-1 - t).toNat = j := by omega
  unfold orV
  rw [if_pos hv, hn]
  exact h.set hj

set_option maxHeartbeats 400000 in
theorem l2Mark_any (g m : Nat) (v : Value) (xs : List Int) (w : World) (hm : MkRow w g m) (h : RdInts w g v xs) (hr : xs.length ≤ 1048576) :
    Calls Try.prog 110 #[.slice (some ⟨g, 0, none⟩) 4 4, v] w fun e w' => e = .returned (.tuple #[]) ∧ MkRow w' g (maskFrom m xs) ∧ Only g (g + 1) w w' := by
  have H := Lib.hid h
  have HM := Lib.hid hm
  clear hm
  obtain ⟨A, c, rfl, hc, _⟩ := h
  go_enter Try.func110, Try.ntmps110
  go_wp2_with (fail)
  go_loopw [4] (fun i wr => ∃ k : Nat, k ≤ xs.length ∧ i = .int .i64 k ∧ MkRow wr g (maskFrom m (xs.take k)) ∧ Only g (g + 1) w wr) (fun i _ => xs.length - (intOf i).toNat)
  case atStart => exact ⟨0, Nat.zero_le _, rfl, HM.out, Only.refl _ _ _⟩
  case round =>
    obtain ⟨k, hk, rfl, hx, hon⟩ := hrel
    have hg := HM.out.lt
    by_cases hlt : k < xs.length
    · obtain ⟨A', c', e, _, hr2⟩ := H.out.below (hon.below (Nat.le_refl g) (by omega)) (Nat.le_refl g)
      injection e with e1 _ e3
      subst e1
      subst e3
      obtain ⟨b, o, rfl, hbB, hr2⟩ := hr2 (by omega)
      have hck : wr.cell? ⟨b, o + k, none⟩ = some (.int .i64 xs[k]) := hr2 k hlt
      have htk := maskFrom_take (m := m) hlt
      clear hr2
      by_cases he : -4 ≤ xs[k] ∧ xs[k] ≤ -1
      · have hv : xs[k] = -1 - ((0 : Nat) : Int) ∨ xs[k] = -1 - ((1 : Nat) : Int) ∨ xs[k] = -1 - ((2 : Nat) : Int) ∨ xs[k] = -1 - ((3 : Nat) : Int) := by omega
        have c0 := hx.cell (i := 0) (by omega)
        have c1 := hx.cell (i := 1) (by omega)
        have c2 := hx.cell (i := 2) (by omega)
        have c3 := hx.cell (i := 3) (by omega)
        have f0 := hx.frozen 0
        have f1 := hx.frozen 1
        have f2 := hx.frozen 2
        have f3 := hx.frozen 3
        have HK := Lib.hid (l1In_yes he)
        have HX := Lib.hid (And.intro hx (And.intro hon htk))
        clear he hx hon htk
        rcases hv with hv | hv | hv | hv
        all_goals
          have HV := Lib.hid hv
          rw [hv] at hck
          simp at hck
          clear hv
        · go_wp2_with (go_at_call 63; refine (l1In_yes (by omega) _).mono ?_; rintro e w' ⟨rfl, rfl⟩)
          go_roundw
          case rel => exact ⟨k + 1, by omega, by go_num, by rw [HX.out.2.2]; exact HX.out.1.var (by omega) HV.out, HX.out.2.1.setCell (by simp) _⟩
          case measure => simp [intOf]; omega
        · go_wp2_with (go_at_call 63; refine (l1In_yes (by omega) _).mono ?_; rintro e w' ⟨rfl, rfl⟩)
          go_roundw
          case rel => exact ⟨k + 1, by omega, by go_num, by rw [HX.out.2.2]; exact HX.out.1.var (by omega) HV.out, HX.out.2.1.setCell (by simp) _⟩
          case measure => simp [intOf]; omega
        · go_wp2_with (go_at_call 63; refine (l1In_yes (by omega) _).mono ?_; rintro e w' ⟨rfl, rfl⟩)
          go_roundw
          case rel => exact ⟨k + 1, by omega, by go_num, by rw [HX.out.2.2]; exact HX.out.1.var (by omega) HV.out, HX.out.2.1.setCell (by simp) _⟩
          case measure => simp [intOf]; omega
        · go_wp2_with (go_at_call 63; refine (l1In_yes (by omega) _).mono ?_; rintro e w' ⟨rfl, rfl⟩)
          go_roundw
          case rel => exact ⟨k + 1, by omega, by go_num, by rw [HX.out.2.2]; exact HX.out.1.var (by omega) HV.out, HX.out.2.1.setCell (by simp) _⟩
          case measure => simp [intOf]; omega
      · have HK := Lib.hid (l1In_no he)
        have HX := Lib.hid (show MkRow wr g (maskFrom m (xs.take (k + 1))) by rw [htk]; unfold orV; rw [if_neg (by simp [isVarB]; omega)]; exact hx)
        clear he hx htk
        go_wp2_with (go_at_call 63; refine (HK.out _).mono ?_; rintro e w' ⟨rfl, rfl⟩)
        go_roundw
        case rel => exact ⟨k + 1, by omega, by go_num, HX.out, hon⟩
        case measure => simp [intOf]; omega
    · have HX := Lib.hid (show MkRow wr g (maskFrom m xs) by rw [show k = xs.length by omega, List.take_length] at hx; exact hx)
      clear hx
      go_wp2_with (fail)
      go_end0
      exact ⟨rfl, HX.out, hon⟩

theorem MkRow.only {lo hi : Nat} {w w' : World} {g m : Nat} (h : MkRow w g m) (ho : Only lo hi w w') (hg : g < lo ∨ hi ≤ g) : MkRow w' g m := (ho.block g h.lt hg).trans h
theorem made4 : madeCells #[Value.bool false] 4 = #[.bool false, .bool false, .bool false, .bool false] := by
  apply Array.ext
  · simp [madeCells]
  · intro i h1 h2
    simp [madeCells]
    match i, h2 with
    | 0, _ => rfl
    | 1, _ => rfl
    | 2, _ => rfl
    | 3, _ => rfl
theorem MkRow.made (w : World) : MkRow (w.alloc (.cells (madeCells #[.bool false] 4) 4)) w.heap.size 0 := by
  rw [made4]
  exact Blk.new w _ _
theorem Try.infoBool : (Try.prog.info? 4).map (fun i => (i.zero, i.size, i.bytes)) = some (some (.bool false), 1, 1) := by kernel_rfl

theorem make4 (W : World) : (Instr.makeSlice 110 (.int .i64 4) (.int .i64 4)).run Try.prog W = .ok (.slice (some ⟨W.heap.size, 0, none⟩) 4 4) (W.alloc (.cells (madeCells #[.bool false] 4) 4)) := by
  obtain ⟨i0, hi0, hz0, hz1, hz2⟩ := info_parts Try.infoBool
  have hmk := run_make_rowN (P := Try.prog) 110 4 i0 (.bool false) Try.underlying110 hi0 hz0 .i64 .i64 4 4 (Nat.le_refl _) (by rw [hz2]; omega) (by omega) W
  rw [hz1] at hmk
  simp only [Value.cells, Nat.mul_one] at hmk
  exact hmk

set_option maxHeartbeats 1000000 in
set_option maxRecDepth 100000 in
theorem l2Marks_any (v : Value) (r : LRule) (w : World) (h : RdRule w w.heap.size v r) (hr : szR r ≤ 1048576) :
    Calls Try.prog 111 #[v] w fun e w' => ∃ g, e = .returned (.slice (some ⟨g, 0, none⟩) 4 4) ∧ MkRow w' g (ruleMask r) ∧ w.heap.size ≤ g ∧ Below w.heap.size w w' := by
  have hmk := make4
  obtain ⟨a, b, rfl, h, h2⟩ := h
  unfold szR at hr
  have H := Lib.hid h
  have H2 := Lib.hid h2
  obtain ⟨A, c, rfl, hc, _⟩ := h
  obtain ⟨A2, c2, rfl, hcc, _⟩ := h2
  go_enter Try.func111, Try.ntmps111
  go_wp2_with (fail)
  obtain ⟨w1, hw1⟩ : ∃ w1, w1 = w.alloc (Obj.cells #[Value.int IntKind.i64 r.1.1, Value.slice A r.1.2.length c, Value.slice A2 r.2.length c2] 96) := ⟨_, rfl⟩
  have B1 : Below w.heap.size w w1 := by rw [hw1]; exact below1 _ _
  have s1 : w1.heap.size = w.heap.size + 1 := by rw [hw1]; simp
  have x1 : Blk w1 w.heap.size 96 #[.int .i64 r.1.1, .slice A r.1.2.length c, .slice A2 r.2.length c2] := by rw [hw1]; exact Blk.new w _ _
  obtain ⟨w2, hw2⟩ : ∃ w2, w2 = w1.alloc (Obj.cells (madeCells #[Value.bool false] 4) 4) := ⟨_, rfl⟩
  have m2 : MkRow w2 (w.heap.size + 1) 0 := by rw [hw2, ← s1]; exact MkRow.made _
  have b2 : Below w1.heap.size w1 w2 := by rw [hw2]; exact below1 _ _
  have x2 := x1.below b2 x1.lt
  have B2 := bthen B1 b2
  rw [← hw1, ← hw2]
  clear hw1 hw2
  refine (l2Mark_any (w.heap.size + 1) 0 _ r.1.2 _ m2 ((H.out.below B2 (Nat.le_refl _)).more (by omega)) (by omega)).mono ?_
  rintro e w3 ⟨rfl, m3, on3⟩
  have x3 := x2.only on3 (.inl (by omega))
  have B3 : Below w.heap.size w w3 := Only.then_ B2 on3 (by omega)
  have q3 : w3.cell? ⟨w.heap.size, 2, none⟩ = some (.slice A2 r.2.length c2) := x3.cell 2
  rw [maskFrom_eq, Nat.zero_or] at m3
  clear x1 x2 m2
  go_wp2_with (fail)
  go_loopw [4] (fun i wr => ∃ k : Nat, k ≤ r.2.length ∧ i = .int .i64 k ∧ MkRow wr (w.heap.size + 1) (maskOf r.1.2 ||| bodyMask (r.2.take k)) ∧ Only (w.heap.size + 1) (w.heap.size + 2) w3 wr) (fun i _ => r.2.length - (intOf i).toNat)
  case atStart => exact ⟨0, Nat.zero_le _, rfl, by simpa [bodyMask] using m3, Only.refl _ _ _⟩
  case round =>
    obtain ⟨k, hk, rfl, hm, hon⟩ := hrel
    have BW : Below w.heap.size w wr := Only.then_ B3 hon (by omega)
    have xr := x3.only hon (.inl (by omega))
    have q2 : wr.cell? ⟨w.heap.size, 2, none⟩ = some (.slice A2 r.2.length c2) := xr.cell 2
    clear q3
    by_cases hlt : k < r.2.length
    · obtain ⟨b, o, u0, u1, u2, rfl, hbB, k0, k1, k2, rfl, rfl, p3⟩ := (H2.out.below BW (Nat.le_refl _)).get hlt
      have HA := Lib.hid p3
      obtain ⟨A3, c3, rfl, hc3, _⟩ := p3
      have hle := len_le_totL r.2 k hlt
      go_wp2_with (fail)
      refine (l2Mark_any (w.heap.size + 1) _ _ r.2[k].2.2 _ hm (HA.out.more (by omega)) (by omega)).mono ?_
      rintro e w4 ⟨rfl, m4, on4⟩
      rw [maskFrom_eq, Nat.or_assoc, ← bodyMask_take hlt] at m4
      go_wp2_with (fail)
      go_roundw
      case rel => exact ⟨k + 1, by omega, by go_num, m4, hon.trans on4⟩
      case measure => simp [intOf]; omega
    · have HX := Lib.hid (show MkRow wr (w.heap.size + 1) (ruleMask r) by rw [show k = r.2.length by omega, List.take_length] at hm; exact hm)
      clear hm
      go_wp2_with (fail)
      go_ret
      exact ⟨_, rfl, HX.out, by omega, BW⟩

end Go.Proofs.Ytehjhdihaloalaa
