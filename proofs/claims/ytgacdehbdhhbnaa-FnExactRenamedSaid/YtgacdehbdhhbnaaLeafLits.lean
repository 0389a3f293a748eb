/-
  Marks on lists of literals and on rules that are results, read again: markLitS, heldLitS, markAtom, heldAtom, markRule, heldRule.
-/
import Derived.Test.YtgacdehbdhhbnaaLeaves
namespace Go.Proofs.Ytgacdehbdhhbnaa
open Go.RowKit

/-- The leaves of literal k of a row at offset o of block b. -/
def litEl (b o : Nat) (qs : Nat → List Addr) (k : Nat) : List Addr := ⟨b, o + k * 3, none⟩ :: ⟨b, o + k * 3 + 1, none⟩ :: qs k
/-- A slice of literals in blocks from lo on and below hi that may be written; ps are its leaves. -/
def LvLits (w : World) (lo hi : Nat) (v : Value) (ls : List LLit) (ps : List Addr) : Prop :=
  ∃ A c, v = .slice A ls.length c ∧ ls.length ≤ c ∧ (ls.length = 0 → ps = []) ∧ (0 < ls.length → ∃ b o qs, A = some ⟨b, o, none⟩ ∧ lo ≤ b ∧ b < hi ∧ ps = preL (litEl b o qs) ls.length ∧
    ∀ k (h : k < ls.length), (w.frozen? ⟨b, o + k * 3, none⟩ = false ∧ w.frozen? ⟨b, o + k * 3 + 1, none⟩ = false) ∧ ∃ x y u2,
      w.cell? ⟨b, o + k * 3, none⟩ = some (.int .i64 x) ∧ w.cell? ⟨b, o + k * 3 + 1, none⟩ = some (.int .i64 y) ∧ w.cell? ⟨b, o + k * 3 + 2, none⟩ = some u2 ∧ LvInts w lo hi u2 ls[k].2.2.length (qs k))
theorem LvLits.marked {w w' : World} {lo hi lo' hi' : Nat} {v : Value} {ls : List LLit} {ps : List Addr} (h : LvLits w lo hi v ls ps) (hm : Marked lo' hi' w w') : LvLits w' lo hi v ls ps := by
  obtain ⟨A, c, rfl, hc, h0, h⟩ := h
  refine ⟨A, c, rfl, hc, h0, fun hn => ?_⟩
  obtain ⟨b, o, qs, rfl, h1, h2, hp, hx⟩ := h hn
  refine ⟨b, o, qs, rfl, h1, h2, hp, fun k hk => ?_⟩
  obtain ⟨⟨f0, f1⟩, x, y, u2, c0, c1, c2, hI⟩ := hx k hk
  obtain ⟨x', d0⟩ := hm.int c0
  obtain ⟨y', d1⟩ := hm.int c1
  have hI' := hI.marked hm
  obtain ⟨A2, c2', rfl, _⟩ := hI
  exact ⟨⟨(hm.frozen _ (World.block_lt_of_cell? _ _ c0)).trans f0, (hm.frozen _ (World.block_lt_of_cell? _ _ c1)).trans f1⟩, _, _, _, d0, d1, hm.slice c2, hI'⟩
theorem litEl_len {w : World} {lo hi n : Nat} {u : Value} {b o : Nat} {qs : Nat → List Addr} {k : Nat} (h : LvInts w lo hi u n (qs k)) : (litEl b o qs k).length = 2 + n := by
  obtain ⟨_, _, _, _, hl, _⟩ := h
  simp [litEl, hl]
  omega

set_option maxHeartbeats 1000000 in
set_option maxRecDepth 100000 in
theorem lmarkLitS_any (v : Value) (ls : List LLit) (ps : List Addr) (k : Int) (lo hi : Nat) (w : World) (h : LvLits w lo hi v ls ps) (hnd : ps.Nodup) (hk0 : 0 ≤ k) (hk : k ≤ 4294967296) (hn : ps.length ≤ 1073741824) :
    Calls Try.prog 94 #[v, .int .i64 k] w fun e w' => e = .returned (.int .i64 (k + ps.length)) ∧ SeqAt lo hi k ps w w' := by
  have H := Lib.hid h
  have HND := Lib.hid hnd
  clear hnd
  obtain ⟨A, c, rfl, hc, h0, h⟩ := h
  have hcap : ls.length ≤ 9223372036854775807 := by
    rcases Nat.eq_zero_or_pos ls.length with e | hp
    · omega
    · obtain ⟨b, o, qs, rfl, h1, h2, rfl, hx⟩ := h hp
      have : ∀ j, j ≤ ls.length → j ≤ (preL (litEl b o qs) j).length := by
        intro j
        induction j with
        | zero => intro _; omega
        | succ j ih =>
          intro hj
          have := ih (by omega)
          rw [preL_succ, List.length_append]
          simp [litEl]
          omega
      have := this ls.length (Nat.le_refl _)
      omega
  rcases Nat.eq_zero_or_pos ls.length with hz | hp
  · have hps := h0 hz
    subst hps
    have HZ := Lib.hid hz
    have hz' : ¬ (0 : Int) < (ls.length : Int) := by omega
    clear hz h h0
    go_enter Try.func94, Try.ntmps94
    go_wp2_with (fail)
    go_loopw [1, 5] (fun m i wr => i = .int .i64 0 ∧ m = .int .i64 k ∧ wr = w) (fun _ i _ => 0)
    case atStart => exact ⟨rfl, rfl, rfl⟩
    case round =>
      obtain ⟨rfl, rfl, rfl⟩ := hrel
      go_wp2_with (fail)
      go_ret
      exact ⟨ret_int (by simp), SeqAt.below (Below.refl _ _)⟩
  · obtain ⟨b, o, qs, rfl, h1, h2, rfl, hx⟩ := h hp
    have HX := Lib.hid hx
    clear hx h
    go_enter Try.func94, Try.ntmps94
    go_wp2_with (fail)
    go_loopw [1, 5] (fun m i wr => ∃ (j : Nat) (q : Int), j ≤ ls.length ∧ i = .int .i64 j ∧ m = .int .i64 q ∧ q = k + ((preL (litEl b o qs) j).length : Int) ∧ SeqAt lo hi k (preL (litEl b o qs) j) w wr) (fun _ i _ => ls.length - (intOf i).toNat)
    case atStart => exact ⟨0, k, Nat.zero_le _, rfl, rfl, by simp [preL_zero], SeqAt.below (Below.refl _ _)⟩
    case round =>
      obtain ⟨j, q, hj, rfl, rfl, hq, hs⟩ := hrel
      by_cases hlt : j < ls.length
      · obtain ⟨⟨f0, f1⟩, x, y, u2, c0, c1, c2, hI⟩ := HX.out j hlt
        have hlen := litEl_len (b := b) (o := o) hI
        have hpl : (preL (litEl b o qs) (j + 1)).length ≤ (preL (litEl b o qs) ls.length).length := preL_length_le hlt
        rw [preL_succ, List.length_append, hlen] at hpl
        obtain ⟨x', d0⟩ := hs.marked.int c0
        obtain ⟨y', d1⟩ := hs.marked.int c1
        have hI2 := hI.marked hs.marked
        have g0 : wr.frozen? ⟨b, o + j * 3, none⟩ = false := (hs.marked.frozen _ (World.block_lt_of_cell? _ _ c0)).trans f0
        have g1 : wr.frozen? ⟨b, o + j * 3 + 1, none⟩ = false := (hs.marked.frozen _ (World.block_lt_of_cell? _ _ c1)).trans f1
        obtain ⟨A3, c3, rfl, hcc3, hl3, _⟩ := hI
        have d2 := hs.marked.slice c2
        have m0 := SeqAt.store (lo := lo) (hi := hi) (p := ⟨b, o + j * 3, none⟩) ⟨h1, h2⟩ d0 q
        obtain ⟨y2, e1⟩ := m0.marked.int d1
        have e2 := m0.marked.slice d2
        have k1 : (wr.setCell ⟨b, o + j * 3, none⟩ (.int .i64 q)).frozen? ⟨b, o + j * 3 + 1, none⟩ = false := (m0.marked.frozen _ (World.block_lt_of_cell? _ _ d1)).trans g1
        have m1 := SeqAt.store (lo := lo) (hi := hi) (p := ⟨b, o + j * 3 + 1, none⟩) ⟨h1, h2⟩ e1 (q + 1)
        have e3 := m1.marked.slice e2
        have hI3 := (hI2.marked m0.marked).marked m1.marked
        have HI := Lib.hid hI3
        have HS := Lib.hid (And.intro hs (And.intro m0 (And.intro m1 hq)))
        have hq0 : 0 ≤ q := by omega
        have hq1 : q ≤ 8589934592 := by omega
        have hl3' : ls[j].2.2.length ≤ 1073741824 := by omega
        have HLE := Lib.hid hlen
        clear hI2 hI3 m0 m1 hs hq hlen hpl e2 d2 c2 c0 c1 hl3
        go_wp2_with (fail)
        refine (lmarkIntS_any _ _ (qs j) (q + 1 + 1) lo hi _ HI.out (by omega) (by omega)).mono ?_
        rintro e w3 ⟨rfl, hm3⟩
        obtain ⟨hs, m0, m1, hq⟩ := HS.out
        have hnd := preL_nodup HND.out hlt
        have hst : SeqAt lo hi k (preL (litEl b o qs) (j + 1)) w w3 := by
          rw [preL_succ]
          refine hs.append ?_ (fun p hp hp2 => (List.nodup_append.1 hnd).2.2 p hp p hp2 rfl)
          rw [← hq]
          have hn2 := (List.nodup_append.1 hnd).2.1
          have hm01 := m0.append (qs := [⟨b, o + j * 3 + 1, none⟩]) (by simpa using m1) (by simp [litEl] at hn2 ⊢)
          refine hm01.append (qs := qs j) ?_ (fun p hp hp2 => ?_)
          · simpa [Int.add_assoc] using hm3
          · simp only [litEl, List.nodup_cons, List.mem_cons, not_or] at hn2
            simp only [List.mem_append, List.mem_singleton] at hp
            rcases hp with rfl | rfl
            · exact hn2.1.2 hp2
            · exact hn2.2.1 hp2
        have HQ := Lib.hid (And.intro (show q + 1 + 1 + (ls[j].2.2.length : Int) = k + ((preL (litEl b o qs) (j + 1)).length : Int) by
          rw [preL_succ, List.length_append, HLE.out, hq]
          omega) hst)
        clear hs m0 m1 hq hnd hst hm3
        go_wp2_with (fail)
        go_roundw
        case rel => exact ⟨j + 1, _, by omega, by go_num, rfl, HQ.out.1, HQ.out.2⟩
        case measure => simp [intOf]; omega
      · have hkn : j = ls.length := by omega
        have HK := Lib.hid (show q = k + ((preL (litEl b o qs) ls.length).length : Int) by rw [hq, hkn])
        have HS := Lib.hid (show SeqAt lo hi k (preL (litEl b o qs) ls.length) w wr by rw [hkn] at hs; exact hs)
        clear hkn hs hq
        go_wp2_with (fail)
        go_ret
        exact ⟨ret_int HK.out, HS.out⟩

theorem preL_lits_le (b o : Nat) (qs : Nat → List Addr) : ∀ j, j ≤ (preL (litEl b o qs) j).length
  | 0 => by simp [preL_zero]
  | j + 1 => by
    have := preL_lits_le b o qs j
    rw [preL_succ, List.length_append]
    simp [litEl]
    omega

set_option maxHeartbeats 1000000 in
set_option maxRecDepth 100000 in
theorem lheldLitS_any (v : Value) (ls : List LLit) (ps : List Addr) (k : Int) (lo hi : Nat) (w : World) (h : LvLits w lo hi v ls ps) (hh : HoldsFrom w k ps) (hk0 : 0 ≤ k) (hk : k ≤ 4294967296) (hn : ps.length ≤ 1073741824) :
    Calls Try.prog 96 #[v, .int .i64 k] w fun e w' => e = .returned (.int .i64 (k + ps.length)) ∧ w = w' := by
  have HH := Lib.hid hh
  clear hh
  obtain ⟨A, c, rfl, hc, h0, h⟩ := h
  rcases Nat.eq_zero_or_pos ls.length with hz | hp
  · have hps := h0 hz
    subst hps
    have hz' : ¬ (0 : Int) < (ls.length : Int) := by omega
    clear hz h h0
    go_enter Try.func96, Try.ntmps96
    go_wp2_with (fail)
    go_loop [1, 5] (fun m i => i = .int .i64 0 ∧ m = .int .i64 k) (fun _ i => 0)
    case atStart => exact ⟨rfl, rfl⟩
    case round =>
      obtain ⟨rfl, rfl⟩ := hrel
      go_wp2_with (fail)
      go_ret
      exact ⟨ret_int (by simp), rfl⟩
  · obtain ⟨b, o, qs, rfl, h1, h2, rfl, hx⟩ := h hp
    have HX := Lib.hid hx
    clear hx h
    have hcap := preL_lits_le b o qs ls.length
    go_enter Try.func96, Try.ntmps96
    go_wp2_with (fail)
    go_loop [1, 5] (fun m i => ∃ (j : Nat) (q : Int), j ≤ ls.length ∧ i = .int .i64 j ∧ m = .int .i64 q ∧ q = k + ((preL (litEl b o qs) j).length : Int)) (fun _ i => ls.length - (intOf i).toNat)
    case atStart => exact ⟨0, k, Nat.zero_le _, rfl, rfl, by simp [preL_zero]⟩
    case round =>
      obtain ⟨j, q, hj, rfl, rfl, hq⟩ := hrel
      by_cases hlt : j < ls.length
      · obtain ⟨_, x, y, u2, c0, c1, c2, hI⟩ := HX.out j hlt
        have hlen := litEl_len (b := b) (o := o) hI
        have hpl : (preL (litEl b o qs) (j + 1)).length ≤ (preL (litEl b o qs) ls.length).length := preL_length_le hlt
        rw [preL_succ, List.length_append, hlen] at hpl
        have hel := preL_holds HH.out hlt
        rw [← hq] at hel
        have e0 := hel 0 (by simp [litEl])
        have e1 := hel 1 (by simp [litEl])
        have hqs : HoldsFrom w (q + 1 + 1) (qs j) := by
          have := HoldsFrom.right (ps := [⟨b, o + j * 3, none⟩, ⟨b, o + j * 3 + 1, none⟩]) (qs := qs j) hel
          simpa [Int.add_assoc] using this
        simp only [litEl, List.getElem_cons_zero, List.getElem_cons_succ] at e0 e1
        have e0' : w.cell? ⟨b, o + j * 3, none⟩ = some (.int .i64 q) := by simpa using e0
        have e1' : w.cell? ⟨b, o + j * 3 + 1, none⟩ = some (.int .i64 (q + 1)) := by simpa using e1
        have HI := Lib.hid (And.intro hI hqs)
        obtain ⟨A3, c3, rfl, hcc3, hl3, _⟩ := hI
        have hq0 : 0 ≤ q := by omega
        have hq1 : q ≤ 8589934592 := by omega
        have hl3' : ls[j].2.2.length ≤ 1073741824 := by omega
        have t0 : (q != q) = false := by simp
        have t1 : (q + 1 != q + 1) = false := by simp
        have HQ := Lib.hid (show q + 1 + 1 + (ls[j].2.2.length : Int) = k + ((preL (litEl b o qs) (j + 1)).length : Int) by
          rw [preL_succ, List.length_append, hlen, hq]
          omega)
        clear hel hqs e0 e1 hq hlen hpl c0 c1 hl3
        go_wp2_with (fail)
        refine (lheldIntS_any _ _ (qs j) (q + 1 + 1) lo hi _ HI.out.1 HI.out.2 (by omega) (by omega)).mono ?_
        rintro e w3 ⟨rfl, rfl⟩
        have hneg : ¬ q + 1 + 1 + (ls[j].2.2.length : Int) < 0 := by omega
        go_wp2_with (fail)
        go_round
        case rel => exact ⟨j + 1, _, by omega, by go_num, rfl, HQ.out⟩
        case measure => simp [intOf]; omega
      · have hkn : j = ls.length := by omega
        have HK := Lib.hid (show q = k + ((preL (litEl b o qs) ls.length).length : Int) by rw [hq, hkn])
        clear hkn hq
        go_wp2_with (fail)
        go_ret
        exact ⟨ret_int HK.out, rfl⟩

/-- A rule of blocks from lo on and below hi that may be written; ps are its leaves. -/
def LvRule (w : World) (lo hi : Nat) (v : Value) (r : LRule) (ps : List Addr) : Prop :=
  ∃ p a b qs rs, v = .agg #[.int .i64 p, a, b] ∧ ps = qs ++ rs ∧ LvInts w lo hi a r.1.2.length qs ∧ LvLits w lo hi b r.2 rs
theorem LvRule.marked {w w' : World} {lo hi lo' hi' : Nat} {v : Value} {r : LRule} {ps : List Addr} (h : LvRule w lo hi v r ps) (hm : Marked lo' hi' w w') : LvRule w' lo hi v r ps := by
  obtain ⟨p, a, b, qs, rs, rfl, rfl, h1, h2⟩ := h
  exact ⟨p, a, b, qs, rs, rfl, rfl, h1.marked hm, h2.marked hm⟩

set_option maxHeartbeats 400000 in
theorem lmarkRule_any (v : Value) (r : LRule) (ps : List Addr) (k : Int) (lo hi : Nat) (w : World) (h : LvRule w lo hi v r ps) (hnd : ps.Nodup) (hk0 : 0 ≤ k) (hk : k ≤ 1073741824) (hn : ps.length ≤ 1073741824) :
    Calls Try.prog 55 #[v, .int .i64 k] w fun e w' => e = .returned (.int .i64 (k + ps.length)) ∧ SeqAt lo hi k ps w w' := by
  obtain ⟨p, a, b, qs, rs, rfl, rfl, h, h2⟩ := h
  have H := Lib.hid h
  have H2 := Lib.hid h2
  have HND := Lib.hid (List.nodup_append.1 hnd)
  rw [List.length_append] at hn
  obtain ⟨A, c, rfl, _, hl, _⟩ := h
  obtain ⟨A2, c2, rfl, _⟩ := h2
  clear hnd
  go_enter Try.func55, Try.ntmps55
  go_wp2_with (fail)
  obtain ⟨w1, hw1⟩ : ∃ w1, w1 = w.alloc (Obj.cells #[Value.int IntKind.i64 p, Value.slice A r.1.2.length c, Value.slice A2 r.2.length c2] 63) := ⟨_, rfl⟩
  have B1 : Below w.heap.size w w1 := by rw [hw1]; exact below1 _ _
  have x1 : Blk w1 w.heap.size 63 #[.int .i64 p, .slice A r.1.2.length c, .slice A2 r.2.length c2] := by rw [hw1]; exact Blk.new _ _ _
  have M1 : Marked lo hi w w1 := Marked.of_below B1
  rw [← hw1]
  clear hw1
  have hmA : Calls Try.prog 93 #[.agg #[.int .i64 p, .slice A r.1.2.length c], .int .i64 k] w1 fun e w' => e = .returned (.int .i64 (k + (r.1.2.length : Int))) ∧ SeqAt lo hi k qs w1 w' := by
    have HL := Lib.hid hl
    clear hl
    go_enter Try.func93, Try.ntmps93
    go_wp2_with (fail)
    refine (lmarkIntS_any _ _ qs k lo hi _ ((H.out.marked M1).marked (Marked.of_below (below1 _ _) : Marked lo hi _ _)) hk0 (by have := HL.out; omega)).mono ?_
    rintro e w2 ⟨rfl, hm2⟩
    have HM := Lib.hid (SeqAt.below_then (below1 _ _) hm2)
    go_wp2_with (fail)
    go_ret
    exact ⟨rfl, HM.out⟩
  refine hmA.mono ?_
  rintro e w2 ⟨rfl, hm2⟩
  have y1 : w2.cell? ⟨w.heap.size, 1, none⟩ = some (.slice A r.1.2.length c) := hm2.marked.slice (x1.cell 1)
  have y2 : w2.cell? ⟨w.heap.size, 2, none⟩ = some (.slice A2 r.2.length c2) := hm2.marked.slice (x1.cell 2)
  go_wp2_with (fail)
  refine (lmarkLitS_any _ r.2 rs _ lo hi _ ((H2.out.marked M1).marked hm2.marked) HND.out.2.1 (by omega) (by omega) (by omega)).mono ?_
  rintro e w3 ⟨rfl, hm3⟩
  have HS := Lib.hid (SeqAt.below_then B1 (hm2.append (qs := rs) (by rw [hl]; exact hm3) (fun q hq hq2 => HND.out.2.2 q hq q hq2 rfl)))
  have HK := Lib.hid (show k + (r.1.2.length : Int) + (rs.length : Int) = k + ((qs ++ rs).length : Int) by rw [List.length_append]; omega)
  clear hm2 hm3
  go_wp2_with (fail)
  go_ret
  exact ⟨ret_int HK.out, HS.out⟩

set_option maxHeartbeats 400000 in
theorem lheldRule_any (v : Value) (r : LRule) (ps : List Addr) (k : Int) (lo hi : Nat) (w : World) (h : LvRule w lo hi v r ps) (hh : HoldsFrom w k ps) (hk0 : 0 ≤ k) (hk : k ≤ 1073741824) (hn : ps.length ≤ 1073741824) :
    Calls Try.prog 56 #[v, .int .i64 k] w fun e w' => e = .returned (.int .i64 (k + ps.length)) ∧ Below w.heap.size w w' := by
  obtain ⟨p, a, b, qs, rs, rfl, rfl, h, h2⟩ := h
  have H := Lib.hid h
  have H2 := Lib.hid h2
  have HL := Lib.hid hh.left
  have HR := Lib.hid hh.right
  rw [List.length_append] at hn
  obtain ⟨A, c, rfl, _, hl, _⟩ := h
  obtain ⟨A2, c2, rfl, _⟩ := h2
  clear hh
  go_enter Try.func56, Try.ntmps56
  go_wp2_with (fail)
  obtain ⟨w1, hw1⟩ : ∃ w1, w1 = w.alloc (Obj.cells #[Value.int IntKind.i64 p, Value.slice A r.1.2.length c, Value.slice A2 r.2.length c2] 63) := ⟨_, rfl⟩
  have B1 : Below w.heap.size w w1 := by rw [hw1]; exact below1 _ _
  have x1 : Blk w1 w.heap.size 63 #[.int .i64 p, .slice A r.1.2.length c, .slice A2 r.2.length c2] := by rw [hw1]; exact Blk.new _ _ _
  have M1 : Marked lo hi w w1 := Marked.of_below B1
  rw [← hw1]
  clear hw1
  have hmA : Calls Try.prog 95 #[.agg #[.int .i64 p, .slice A r.1.2.length c], .int .i64 k] w1 fun e w' => e = .returned (.int .i64 (k + (r.1.2.length : Int))) ∧ Below w1.heap.size w1 w' := by
    have HLL := Lib.hid hl
    clear hl
    go_enter Try.func95, Try.ntmps95
    go_wp2_with (fail)
    refine (lheldIntS_any _ _ qs k lo hi _ ((H.out.marked M1).marked (Marked.of_below (below1 _ _) : Marked lo hi _ _)) ((HL.out.below B1).below (below1 _ _)) hk0 (by have := HLL.out; omega)).mono ?_
    rintro e w2 ⟨rfl, rfl⟩
    have hneg : ¬ k + (r.1.2.length : Int) < 0 := by omega
    go_wp2_with (fail)
    go_ret
    exact ⟨rfl, below1 _ _⟩
  refine hmA.mono ?_
  rintro e w2 ⟨rfl, hb2⟩
  have x2 := x1.below hb2 x1.lt
  have y1 : w2.cell? ⟨w.heap.size, 1, none⟩ = some (.slice A r.1.2.length c) := x2.cell 1
  have y2 : w2.cell? ⟨w.heap.size, 2, none⟩ = some (.slice A2 r.2.length c2) := x2.cell 2
  have hneg : ¬ k + (r.1.2.length : Int) < 0 := by omega
  go_wp2_with (fail)
  refine (lheldLitS_any _ r.2 rs _ lo hi _ ((H2.out.marked M1).marked (Marked.of_below hb2 : Marked lo hi _ _)) (by have := (HR.out.below B1).below hb2; rwa [hl] at this) (by omega) (by omega) (by omega)).mono ?_
  rintro e w3 ⟨rfl, rfl⟩
  have HK := Lib.hid (show k + (r.1.2.length : Int) + (rs.length : Int) = k + ((qs ++ rs).length : Int) by rw [List.length_append]; omega)
  have hneg2 : ¬ k + (r.1.2.length : Int) + (rs.length : Int) < 0 := by omega
  go_wp2_with (fail)
  go_ret
  exact ⟨ret_int HK.out, bthen B1 hb2⟩

end Go.Proofs.Ytgacdehbdhhbnaa
