/-
  The walks of szLit, toLit, eqLit, szLitS, toLitS, eqLitS.
-/
import Derived.Test.YtehjhdihaloalaaRows3
import Derived.StillTailTactics
namespace Go.Proofs.Ytehjhdihaloalaa
open Go.RowKit

set_option maxHeartbeats 400000 in
theorem szLit_any (v : Value) (l : LLit) (left : Int) (w : World) (h : RdLit w w.heap.size v l) (h0 : 0 ≤ left) (hl : left ≤ 1048576) (hn : l.2.2.length ≤ 9223372036854775807) :
    Calls Try.prog 45 #[v, .int .i64 left] w fun e w' => e = .returned (.int .i64 (szV left l.2.2.length)) ∧ Below w.heap.size w w' := by
  obtain ⟨a, rfl, h⟩ := h
  have H := Lib.hid h
  obtain ⟨A, c, rfl, hc, _⟩ := h
  have hcs := szV_cases left l.2.2.length
  go_enter Try.func45, Try.ntmps45
  go_wp2_with (fail)
  refine (szAtom_any _ l.2 _ _ ⟨_, rfl, H.out.on (below1 _ _)⟩ h0 hl hn).mono ?_
  rintro e w1 ⟨rfl, hb⟩
  have hB := bthen (below1 _ _) hb
  rcases hcs with ⟨e1, _⟩ | ⟨e1, _⟩
  · rw [e1]
    have HV := Lib.hid e1
    clear e1
    go_wp2_with (fail)
    go_ret
    exact ⟨ret_int HV.out.symm, hB⟩
  · have h1 : ¬ szV left l.2.2.length < 0 := by omega
    go_wp2_with (fail)
    go_ret
    exact ⟨rfl, hB⟩

set_option maxHeartbeats 400000 in
theorem toLit_any (v : Value) (l : LLit) (w : World) (h : RdLit w w.heap.size v l) (hn : l.2.2.length * 8 ≤ 140737488351232) :
    Calls Try.prog 47 #[v] w fun e w' => ∃ A' c', e = .returned (.agg #[.int .i64 l.1, .int .i64 l.2.1, .slice A' l.2.2.length c']) ∧ OwnInts w' w.heap.size w'.heap.size (.slice A' l.2.2.length c') l.2.2 ∧ Below w.heap.size w w' := by
  obtain ⟨a, rfl, h⟩ := h
  have H := Lib.hid h
  obtain ⟨A, c, rfl, hc, _⟩ := h
  go_enter Try.func47, Try.ntmps47
  go_wp2_with (fail)
  refine (toAtom_any _ l.2 _ ⟨_, rfl, H.out.on (below3 _ _ _ _)⟩ hn).mono ?_
  rintro e w4 ⟨A4, c4, rfl, ho, hb⟩
  have hB := bthen (below3 _ _ _ _) hb
  have b1 : Blk w4 (w.heap.size + 1) 60 #[.int .i64 0, .int .i64 0, .slice none 0 0] := ((by simpa using (Blk.new (w.alloc (Obj.cells #[Value.int IntKind.i64 l.1, Value.int IntKind.i64 l.2.1, Value.slice A l.2.2.length c] 56)) _ _).alloc _ : Blk _ _ _ _)).below hb (by simp)
  have b2 : Blk w4 (w.heap.size + 2) 60 #[.int .i64 l.1, .int .i64 0, .slice none 0 0] := ((by simpa using Blk.new ((w.alloc (Obj.cells #[Value.int IntKind.i64 l.1, Value.int IntKind.i64 l.2.1, Value.slice A l.2.2.length c] 56)).alloc (Obj.cells #[.int .i64 0, .int .i64 0, .slice none 0 0] 60)) _ _ : Blk _ _ _ _)).below hb (by simp)
  have b1c0 : w4.cell? ⟨w.heap.size + 1, 0, none⟩ = some (.int .i64 0) := b1.cell 0
  have b1c1 : w4.cell? ⟨w.heap.size + 1, 1, none⟩ = some (.int .i64 0) := b1.cell 1
  have b1c2 : w4.cell? ⟨w.heap.size + 1, 2, none⟩ = some (.slice none 0 0) := b1.cell 2
  have b2c0 : w4.cell? ⟨w.heap.size + 2, 0, none⟩ = some (.int .i64 l.1) := b2.cell 0
  have b2c1 : w4.cell? ⟨w.heap.size + 2, 1, none⟩ = some (.int .i64 0) := b2.cell 1
  have b2c2 : w4.cell? ⟨w.heap.size + 2, 2, none⟩ = some (.slice none 0 0) := b2.cell 2
  have b1f0 := b1.frozen 0
  have b1f1 := b1.frozen 1
  have b1f2 := b1.frozen 2
  have b2f0 := b2.frozen 0
  have b2f1 := b2.frozen 1
  have b2f2 := b2.frozen 2
  go_wp2_with (fail)
  refine bodyPost_ret (v := .agg #[.int .i64 l.1, .int .i64 l.2.1, .slice A4 l.2.2.length c4]) (by simp [results, Try.results47, go_sem, b1c0, b1c1, b1c2]) rfl ⟨_, _, rfl, ?_, ?_⟩
  · refine OwnInts.mono (OwnInts.keep (lo := (((w.alloc (Obj.cells #[Value.int IntKind.i64 l.1, Value.int IntKind.i64 l.2.1, Value.slice A l.2.2.length c] 56)).alloc (Obj.cells #[.int .i64 0, .int .i64 0, .slice none 0 0] 60)).alloc (Obj.cells #[.int .i64 l.1, .int .i64 0, .slice none 0 0] 60)).heap.size) (hi := w4.heap.size) ho ?_) (by simp; omega) (by simp)
    intro g h1 h2
    simp at h1
    repeat (rw [Below.heap_setCell _ _ _ _ (by show g ≠ _; simp only []; omega)])
  · repeat (first | exact hB | refine Below.setCell ?_ (by simp <;> omega) _)

set_option maxHeartbeats 400000 in
theorem eqLit_any (v v2 : Value) (f g : LLit) (w : World) (h : RdLit w w.heap.size v f) (h2 : RdLit w w.heap.size v2 g) (hn : f.2.2.length * 8 ≤ 140737488351232) (hn2 : g.2.2.length * 8 ≤ 140737488351232) :
    Calls Try.prog 49 #[v, v2] w fun e w' => e = .returned (.bool (decide (f = g))) ∧ Below w.heap.size w w' := by
  obtain ⟨a, rfl, h⟩ := h
  have H := Lib.hid h
  obtain ⟨A, c, rfl, hc, _⟩ := h
  obtain ⟨a, rfl, h2⟩ := h2
  have H2 := Lib.hid h2
  obtain ⟨A2, c2, rfl, hc2, _⟩ := h2
  by_cases hp : f.1 = g.1
  · have hpb : (f.1 != g.1) = false := by simp [hp]
    have HE := Lib.hid (show decide (f = g) = decide (f.2 = g.2) by simp [Prod.ext_iff, hp])
    clear hp
    go_enter Try.func49, Try.ntmps49
    go_wp2_with (fail)
    refine (eqAtom_any _ _ f.2 g.2 _ ⟨_, rfl, H.out.on (below2 _ _ _)⟩ ⟨_, rfl, H2.out.on (below2 _ _ _)⟩ hn hn2).mono ?_
    rintro e w4 ⟨rfl, hb⟩
    have hB := bthen (below2 _ _ _) hb
    by_cases hd : f.2 = g.2
    · have hdb : decide (f.2 = g.2) = true := by simp [hd]
      have HD := Lib.hid hdb
      clear hd
      go_wp2_with (fail)
      go_ret
      exact ⟨ret_bool (by rw [HE.out, HD.out]), hB⟩
    · have hdb : decide (f.2 = g.2) = false := by simp [hd]
      have HD := Lib.hid hdb
      clear hd
      go_wp2_with (fail)
      go_ret
      exact ⟨ret_bool (by rw [HE.out, HD.out]), hB⟩
  · have hpb : (f.1 != g.1) = true := by simp [hp]
    have HE := Lib.hid (show decide (f = g) = false by simp [Prod.ext_iff, hp])
    clear hp
    go_enter Try.func49, Try.ntmps49
    go_wp2_with (fail)
    go_ret
    exact ⟨ret_bool HE.out.symm, below2 _ _ _⟩

theorem Try.infoLit : (Try.prog.info? 60).map (fun i => (i.zero, i.size, i.bytes)) = some (some (.agg #[.int .i64 0, .int .i64 0, .slice none 0 0]), 3, 40) := by kernel_rfl

set_option maxHeartbeats 400000 in
theorem toLitS_any (v : Value) (ls : List LLit) (w : World) (h : RdLits w w.heap.size v ls) (hl : ls.length ≤ 1048576) (hn : totL ls ≤ 1048576) :
    Calls Try.prog 52 #[v] w fun e w' => ∃ A' c', e = .returned (.slice A' ls.length c') ∧ OwnLits w' w.heap.size w'.heap.size (.slice A' ls.length c') ls ∧ Below w.heap.size w w' := by
  obtain ⟨i0, hi0, hz0, hz1, hz2⟩ := info_parts Try.infoLit
  have hmk := fun W => run_make_rowN (P := Try.prog) 67 60 i0 (.agg #[.int .i64 0, .int .i64 0, .slice none 0 0]) Try.underlying67 hi0 hz0 .i64 .i64 ls.length ls.length (Nat.le_refl _) (by rw [hz2]; omega) (by omega) W
  rw [hz1] at hmk
  simp only [Value.cells] at hmk
  have H := Lib.hid h
  obtain ⟨A, c, rfl, hc, _⟩ := h
  go_enter Try.func52, Try.ntmps52
  go_wp2_with (fail)
  go_loopw [4] (fun i wr => ∃ (k : Nat), k ≤ ls.length ∧ i = .int .i64 k ∧ ToRow 60 (.int .i64 0) (.int .i64 0) (.slice none 0 0) OLit w wr ls k) (fun i _ => ls.length - (intOf i).toNat)
  case atStart => exact ⟨0, Nat.zero_le _, rfl, ToRow.start w ls⟩
  case round =>
    obtain ⟨k, hk, rfl, hr⟩ := hrel
    by_cases hlt : k < ls.length
    · obtain ⟨b, o, u0, u1, u2, rfl, hbB, k0, k1, k2, rfl, rfl, k3⟩ := (H.out.on hr.below).get hlt
      have HA := Lib.hid k3
      obtain ⟨A3, c3, rfl, hc4, _⟩ := k3
      have hln := len_le_totL ls k hlt
      go_wp2_with (fail)
      refine (toLit_any _ ls[k] _ ⟨_, rfl, HA.out⟩ (by omega)).mono ?_
      rintro e w4 ⟨A4, c4, rfl, ho4, hb4⟩
      obtain ⟨r1, r2, r3, r4, r5, r6⟩ := hr.room hlt hb4
      have hstep := hr.step (O := OLit) OLit.keep OLit.mono hlt hb4 (u0 := .int .i64 ls[k].1) (u1 := .int .i64 ls[k].2.1) ⟨rfl, rfl, ho4⟩
      go_wp2_with (fail)
      go_roundw
      case rel => exact ⟨k + 1, by omega, by go_num, hstep⟩
      case measure => simp [intOf]; omega
    · have hkn : k = ls.length := by omega
      have HO := Lib.hid (show OwnLits wr w.heap.size wr.heap.size (.slice (some ⟨w.heap.size, 0, none⟩) ls.length ls.length) ls from ToRow.done (O := OLit) OLit.mono (by have h' := hr; rw [hkn] at h'; exact h'))
      have hbe := hr.below
      clear hkn hr
      go_wp2_with (fail)
      go_ret
      exact ⟨_, _, rfl, HO.out, hbe⟩

/-- 'the first k of both are the same', kept from the walk. -/
def TSame {α : Type} (xs ys : List α) (k : Nat) : Prop := xs.take k = ys.take k
theorem TSame.step {α : Type} {xs ys : List α} {k : Nat} (h : TSame xs ys k) (h1 : k < xs.length) (h2 : k < ys.length) (e : xs[k] = ys[k]) : TSame xs ys (k + 1) := by
  unfold TSame at h ⊢
  rw [take_snoc xs k h1, take_snoc ys k h2, h, e]
theorem TSame.eq {α : Type} {xs ys : List α} (h : TSame xs ys xs.length) (hl : xs.length = ys.length) : xs = ys := by
  unfold TSame at h
  rwa [List.take_length, hl, List.take_length] at h

set_option maxHeartbeats 400000 in
set_option maxRecDepth 100000 in
theorem eqLitS_any (va vb : Value) (xs ys : List LLit) (w : World) (ha : RdLits w w.heap.size va xs) (hb : RdLits w w.heap.size vb ys) (hx : xs.length ≤ 1048576) (hy : ys.length ≤ 1048576) (htx : totL xs ≤ 1048576) (hty : totL ys ≤ 1048576) :
    Calls Try.prog 54 #[va, vb] w fun e w' => e = .returned (.bool (decide (xs = ys))) ∧ Below w.heap.size w w' := by
  have HX := Lib.hid ha
  have HY := Lib.hid hb
  obtain ⟨A, c, rfl, hc, _⟩ := ha
  obtain ⟨A2, c2, rfl, hc2, _⟩ := hb
  by_cases hl : xs.length = ys.length
  · have hl1 : ((xs.length : Int) != (ys.length : Int)) = false := by simp [hl]
    have HL := Lib.hid hl
    clear hl
    go_enter Try.func54, Try.ntmps54
    go_wp2_with (fail)
    go_loopw [5] (fun i wr => ∃ k : Nat, k ≤ xs.length ∧ i = .int .i64 k ∧ TSame xs ys k ∧ Below w.heap.size w wr) (fun i _ => xs.length - (intOf i).toNat)
    case atStart => exact ⟨0, Nat.zero_le _, rfl, rfl, Below.refl _ _⟩
    case round =>
      obtain ⟨k, hk, rfl, hs, hbe⟩ := hrel
      by_cases hlt : k < xs.length
      · have hlt2 : k < ys.length := by have := HL.out; omega
        obtain ⟨b, o, u0, u1, u2, rfl, hbB, k0, k1, k2, rfl, rfl, p3⟩ := (HX.out.on hbe).get hlt
        obtain ⟨b2, o2, v0, v1, v2, rfl, hbB2, m0, m1, m2, rfl, rfl, q3⟩ := (HY.out.on hbe).get hlt2
        have hln := len_le_totL xs k hlt
        have hln2 := len_le_totL ys k hlt2
        have HA := Lib.hid p3
        have HA2 := Lib.hid q3
        obtain ⟨A3, c3, rfl, hc3, _⟩ := p3
        obtain ⟨A4, c4, rfl, hc4, _⟩ := q3
        go_wp2_with (fail)
        go_still_tail 8, (by kernel_rfl)
        change wpList _ _ _ _ _ wr.drew
        obtain ⟨w2, hw2⟩ : ∃ w2, w2 = wr.drew := ⟨_, rfl⟩
        rw [← hw2]
        have hbe2 : Below wr.heap.size wr w2 := by rw [hw2]; exact (Below.refl _ _).drew
        clear hw2
        go_wp2_with (fail)
        refine (eqLit_any _ _ xs[k] ys[k] _ ⟨_, rfl, HA.out.on hbe2⟩ ⟨_, rfl, HA2.out.on hbe2⟩ (by omega) (by omega)).mono ?_
        rintro e w4 ⟨rfl, hb4⟩
        have hB4 := bthen hbe (bthen hbe2 hb4)
        by_cases he : xs[k] = ys[k]
        · have hdb : decide (xs[k] = ys[k]) = true := by simp [he]
          have HS := Lib.hid (hs.step hlt hlt2 he)
          clear he hs
          go_wp2_with (fail)
          go_roundw
          case rel => exact ⟨k + 1, by omega, by go_num, HS.out, hB4⟩
          case measure => simp [intOf]; omega
        · have hdb : decide (xs[k] = ys[k]) = false := by simp [he]
          have HE := Lib.hid (show xs ≠ ys from fun e => he (by subst e; rfl))
          clear he hs
          go_wp2_with (fail)
          go_ret
          exact ⟨ret_bool (by simp [HE.out]), hB4⟩
      · have hkn : k = xs.length := by omega
        have HE := Lib.hid (show xs = ys from TSame.eq (by rw [← hkn]; exact hs) HL.out)
        clear hkn hs
        go_wp2_with (fail)
        go_ret
        exact ⟨ret_bool (by simp [HE.out]), hbe⟩
  · have hl1 : ((xs.length : Int) != (ys.length : Int)) = true := by simp; omega
    have HE := Lib.hid (show xs ≠ ys from fun e => hl (by rw [e]))
    clear hl
    go_enter Try.func54, Try.ntmps54
    go_wp2_with (fail)
    go_ret
    exact ⟨ret_bool (by simp [HE.out]), Below.refl _ _⟩

/-- What szLitS answers: -1, or what is left when the literals and all their integers are taken. -/
def SzRes (r left : Int) (n : Nat) : Prop := r = -1 ∨ (0 ≤ r ∧ r + n = left)
def SzTo (r left : Int) (n m : Nat) : Prop := 0 ≤ r ∧ r + n + m = left

set_option maxHeartbeats 400000 in
theorem szLitS_any (v : Value) (ls : List LLit) (left : Int) (w : World) (h : RdLits w w.heap.size v ls) (h0 : 0 ≤ left) (hl : left ≤ 1048576) (hn : ls.length ≤ 9223372036854775807) (hm : ∀ k (h : k < ls.length), ls[k].2.2.length ≤ 9223372036854775807) :
    Calls Try.prog 50 #[v, .int .i64 left] w fun e w' => ∃ r, e = .returned (.int .i64 r) ∧ SzRes r left (ls.length + totL ls) ∧ Below w.heap.size w w' := by
  have H := Lib.hid h
  obtain ⟨A, c, rfl, hc, _⟩ := h
  by_cases hneg : left - (ls.length : Int) < 0
  · go_enter Try.func50, Try.ntmps50
    go_wp2_with (fail)
    go_ret
    exact ⟨_, rfl, .inl rfl, Below.refl _ _⟩
  · go_enter Try.func50, Try.ntmps50
    go_wp2_with (fail)
    go_loopw [1, 5] (fun l i wr => ∃ (k : Nat) (r : Int), k ≤ ls.length ∧ i = .int .i64 k ∧ l = .int .i64 r ∧ SzTo r left ls.length (totL (ls.take k)) ∧ Below w.heap.size w wr) (fun _ i _ => ls.length - (intOf i).toNat)
    case atStart => exact ⟨0, _, Nat.zero_le _, rfl, rfl, ⟨by omega, by simp [totL]⟩, Below.refl _ _⟩
    case round =>
      obtain ⟨k, r, hk, rfl, rfl, hs, hbe⟩ := hrel
      by_cases hlt : k < ls.length
      · obtain ⟨b, o, u0, u1, u2, rfl, hbB, k0, k1, k2, rfl, rfl, p3⟩ := (H.out.on hbe).get hlt
        have HA := Lib.hid p3
        obtain ⟨A3, c3, rfl, hc3, _⟩ := p3
        have hmk := hm k hlt
        have htk := totL_take ls k hlt
        have hcs := szV_cases r ls[k].2.2.length
        have hr0 := hs.1
        have hr1 := hs.2
        have HT := Lib.hid (And.intro htk hr1)
        clear htk hr1
        go_wp2_with (fail)
        refine (szLit_any _ ls[k] r _ ⟨_, rfl, HA.out⟩ hr0 (by have := HT.out; omega) hmk).mono ?_
        rintro e w4 ⟨rfl, hb4⟩
        have hB4 := bthen hbe hb4
        rcases hcs with ⟨e1, _⟩ | ⟨e1, e2⟩
        · rw [e1]
          clear e1
          go_wp2_with (fail)
          go_ret
          exact ⟨_, rfl, .inl rfl, hB4⟩
        · have h1 : ¬ szV r ls[k].2.2.length < 0 := by omega
          have HS := Lib.hid (show SzTo (szV r ls[k].2.2.length) left ls.length (totL (ls.take (k + 1))) from ⟨e1, by have := HT.out; omega⟩)
          clear e2
          go_wp2_with (fail)
          go_roundw
          case rel => exact ⟨k + 1, _, by omega, by go_num, rfl, HS.out, hB4⟩
          case measure => simp [intOf]; omega
      · have hkn : k = ls.length := by omega
        have HE := Lib.hid (show SzRes r left (ls.length + totL ls) from .inr ⟨hs.1, by have := hs.2; rw [hkn, List.take_length] at this; omega⟩)
        clear hkn hs
        go_wp2_with (fail)
        go_ret
        exact ⟨_, rfl, HE.out, hbe⟩

end Go.Proofs.Ytehjhdihaloalaa
