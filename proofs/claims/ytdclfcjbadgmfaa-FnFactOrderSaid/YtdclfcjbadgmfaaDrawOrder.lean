/-
  The arguments of FactOrder drawn.
-/
import Derived.Test.YtdclfcjbadgmfaaDrawOk
namespace Go.Proofs.Ytdclfcjbadgmfaa
open Go.RowKit

/-- The four cells of two results' blocks set, of blocks behind them. -/
theorem keepFour {w w3 : World} {lo hi lo2 hi2 : Nat} {v v2 : Value} {xs ys : List Int} {t : TypeId} {a b a2 b2 : Value} (h : Blk w3 w.heap.size t #[a, b]) (h' : Blk w3 (w.heap.size + 1) t #[a2, b2]) (hv : OwnInts w3 lo hi v xs) (hv2 : OwnInts w3 lo2 hi2 v2 ys) (h1 : w.heap.size + 1 < lo) (h2 : w.heap.size + 1 < lo2) (hb : Below w.heap.size w w3) (x : Int) (u : Value) (y : Int) (u2 : Value) :
    Blk ((((w3.setCell ⟨w.heap.size, 0, none⟩ (.int .i64 x)).setCell ⟨w.heap.size, 1, none⟩ u).setCell ⟨w.heap.size + 1, 0, none⟩ (.int .i64 y)).setCell ⟨w.heap.size + 1, 1, none⟩ u2) w.heap.size t #[.int .i64 x, u] ∧
    Blk ((((w3.setCell ⟨w.heap.size, 0, none⟩ (.int .i64 x)).setCell ⟨w.heap.size, 1, none⟩ u).setCell ⟨w.heap.size + 1, 0, none⟩ (.int .i64 y)).setCell ⟨w.heap.size + 1, 1, none⟩ u2) (w.heap.size + 1) t #[.int .i64 y, u2] ∧
    OwnInts ((((w3.setCell ⟨w.heap.size, 0, none⟩ (.int .i64 x)).setCell ⟨w.heap.size, 1, none⟩ u).setCell ⟨w.heap.size + 1, 0, none⟩ (.int .i64 y)).setCell ⟨w.heap.size + 1, 1, none⟩ u2) lo hi v xs ∧
    OwnInts ((((w3.setCell ⟨w.heap.size, 0, none⟩ (.int .i64 x)).setCell ⟨w.heap.size, 1, none⟩ u).setCell ⟨w.heap.size + 1, 0, none⟩ (.int .i64 y)).setCell ⟨w.heap.size + 1, 1, none⟩ u2) lo2 hi2 v2 ys ∧
    Below w.heap.size w ((((w3.setCell ⟨w.heap.size, 0, none⟩ (.int .i64 x)).setCell ⟨w.heap.size, 1, none⟩ u).setCell ⟨w.heap.size + 1, 0, none⟩ (.int .i64 y)).setCell ⟨w.heap.size + 1, 1, none⟩ u2) := by
  refine ⟨?_, ?_, ?_, ?_, ?_⟩
  · have := (((h.set_ 0 (.int .i64 x)).set_ 1 u).far (p := ⟨w.heap.size + 1, 0, none⟩) (by show w.heap.size ≠ w.heap.size + 1; omega) (.int .i64 y)).far (p := ⟨w.heap.size + 1, 1, none⟩) (by show w.heap.size ≠ w.heap.size + 1; omega) u2
    simpa using this
  · have := (((h'.far (p := ⟨w.heap.size, 0, none⟩) (by show w.heap.size + 1 ≠ w.heap.size; omega) (.int .i64 x)).far (p := ⟨w.heap.size, 1, none⟩) (by show w.heap.size + 1 ≠ w.heap.size; omega) u).set_ 0 (.int .i64 y)).set_ 1 u2
    simpa using this
  · exact (((hv.set (.inl (by show w.heap.size < lo; omega)) _).set (.inl (by show w.heap.size < lo; omega)) _).set (.inl h1) _).set (.inl h1) _
  · exact (((hv2.set (.inl (by show w.heap.size < lo2; omega)) _).set (.inl (by show w.heap.size < lo2; omega)) _).set (.inl h2) _).set (.inl h2) _
  · exact (((hb.setCell (Nat.le_refl _) _).setCell (Nat.le_refl _) _).setCell (Nat.le_succ _) _).setCell (Nat.le_succ _) _

/-- What the two stores meet. -/
theorem fourCells {w w3 : World} {t : TypeId} {a b a2 b2 : Value} (h : Blk w3 w.heap.size t #[a, b]) (h' : Blk w3 (w.heap.size + 1) t #[a2, b2]) (x : Int) (u : Value) :
    w3.cell? ⟨w.heap.size, 0, none⟩ = some a ∧ w3.cell? ⟨w.heap.size, 1, none⟩ = some b ∧
    ((w3.setCell ⟨w.heap.size, 0, none⟩ (.int .i64 x)).setCell ⟨w.heap.size, 1, none⟩ u).cell? ⟨w.heap.size + 1, 0, none⟩ = some a2 ∧ ((w3.setCell ⟨w.heap.size, 0, none⟩ (.int .i64 x)).setCell ⟨w.heap.size, 1, none⟩ u).cell? ⟨w.heap.size + 1, 1, none⟩ = some b2 ∧
    w3.frozen? ⟨w.heap.size, 0, none⟩ = false ∧ w3.frozen? ⟨w.heap.size, 1, none⟩ = false ∧
    ((w3.setCell ⟨w.heap.size, 0, none⟩ (.int .i64 x)).setCell ⟨w.heap.size, 1, none⟩ u).frozen? ⟨w.heap.size + 1, 0, none⟩ = false ∧ ((w3.setCell ⟨w.heap.size, 0, none⟩ (.int .i64 x)).setCell ⟨w.heap.size, 1, none⟩ u).frozen? ⟨w.heap.size + 1, 1, none⟩ = false := by
  have k := (h'.far (p := ⟨w.heap.size, 0, none⟩) (by show w.heap.size + 1 ≠ w.heap.size; omega) (.int .i64 x)).far (p := ⟨w.heap.size, 1, none⟩) (by show w.heap.size + 1 ≠ w.heap.size; omega) u
  exact ⟨h.cell 0, h.cell 1, k.cell 0, k.cell 1, h.frozen 0, h.frozen 1, k.frozen 0, k.frozen 1⟩

set_option maxHeartbeats 2000000 in
set_option maxRecDepth 100000 in
theorem drawFactOrder_any (v : Value) (bs : List Nat) (w : World) (h : RdBytes w w.heap.size v bs) (hby : ∀ b ∈ bs, b < 256) (hn : bs.length ≤ 1073741824) :
    Calls Try.prog 11 #[v] w fun e w' => ∃ (A : Option Addr) (c : Nat) (f : LFact) (A' : Option Addr) (c' : Nat) (f' : LFact), e = .returned (.tuple #[.agg #[.int .i64 f.1, .slice A f.2.length c], .agg #[.int .i64 f'.1, .slice A' f'.2.length c']]) ∧ f.2.length ≤ 3 ∧ f'.2.length ≤ 3 ∧
      OwnInts w' w.heap.size w'.heap.size (.slice A f.2.length c) f.2 ∧ OwnInts w' w.heap.size w'.heap.size (.slice A' f'.2.length c') f'.2 ∧ Below w.heap.size w w' := by
  have H := Lib.hid h
  clear h
  go_enter Try.func11, Try.ntmps11
  go_wp2_with (fail)
  refine (l40Open_any v bs _ (H.out.on (below2 _ _ _)) hby hn).mono ?_
  rintro e w1 ⟨rfl, hr1, hb1⟩
  have B1 := bthen (below2 _ _ _) hb1
  have R1 : Blk w1 w.heap.size 25 #[.int .i64 0, .slice none 0 0] := ((Blk.new w _ _).alloc _).below hb1 (by simp; omega)
  have T1 : Blk w1 (w.heap.size + 1) 25 #[.int .i64 0, .slice none 0 0] := (by simpa using Blk.new (w.alloc (Obj.cells #[Value.int IntKind.i64 0, Value.slice none 0 0] 25)) 25 #[.int .i64 0, .slice none 0 0] : Blk _ _ _ _).below hb1 (by simp)
  have HR := Lib.hid hr1
  have hz1 := hr1.lt
  simp only [World.size_alloc] at hz1
  clear hr1 hb1
  go_wp2_with (fail)
  refine (l1Arity_any (w.heap.size + 2) (bs.take 2000) 0 2 _ (by simpa using HR.out) (by omega) (by omega)).mono ?_
  rintro e w2 ⟨A2, c2, ar, rfl, hd⟩
  have HI := Lib.hid hd.ints
  have HD := Lib.hid hd.rdr
  have hlen := hd.len
  have hrng := Lib.hid hd.range
  have B2 := B1.trans (hd.only.below (Nat.le_refl _) (by have := hz1; omega) |>.mono (by omega))
  have R2 := R1.only hd.only (.inl (by omega))
  have T2 := T1.only hd.only (.inl (by omega))
  have hz2 := hd.only.size
  clear hd
  go_wp2_with (fail)
  refine (l1Fact_own (w.heap.size + 2) (bs.take 2000) 2 w1.heap.size w2.heap.size _ ar _ HD.out (by omega) HI.out (by omega) (Nat.le_refl _) hrng.out (by omega)).mono ?_
  rintro e w3 ⟨A, c, f, q, rfl, hf, hq, ho, hR, hO⟩
  have R3 := R2.only hO (.inl (by omega))
  have T3 := T2.only hO (.inl (by omega))
  have hz3 := hO.size
  have B3 := B2.trans (hO.below (Nat.le_refl _) (by omega) |>.mono (by omega))
  have I3 := HI.out.offG hO (by omega)
  have HR3 := Lib.hid hR
  clear hO R2 T2 B2 R1 T1 B1 hR
  go_wp2_with (fail)
  refine (pick_any (w.heap.size + 2) (bs.take 2000) q 6 _ (HR3.out.below (below1 _ _) (by omega)) (by omega) (by omega)).mono ?_
  rintro e w5 ⟨⟨x, rfl, _⟩, hpk⟩
  have R5 := (R3.alloc (Obj.cells #[Value.int IntKind.i64 f.fst, Value.slice A f.snd.length c] 25)).only hpk.2 (.inl (by omega))
  have U5 := (T3.alloc (Obj.cells #[Value.int IntKind.i64 f.fst, Value.slice A f.snd.length c] 25)).only hpk.2 (.inl (by omega))
  have T5 : Blk w5 w3.heap.size 25 #[.int .i64 f.1, .slice A f.2.length c] := (Blk.new w3 _ _).only hpk.2 (.inr (by omega))
  have hz5 := hpk.2.size
  simp only [World.size_alloc] at hz5
  have B5 : Below w.heap.size w w5 := (B3.trans ((below1 w3 _).mono (by omega))).trans (hpk.2.below (Nat.le_refl _) (by simp; omega) |>.mono (by omega))
  have I5 := (I3.below (below1 w3 (Obj.cells #[Value.int IntKind.i64 f.fst, Value.slice A f.snd.length c] 25)) hz3).offG hpk.2 (by omega)
  have J5 := (ho.below (below1 w3 (Obj.cells #[Value.int IntKind.i64 f.fst, Value.slice A f.snd.length c] 25)) (Nat.le_refl _)).offG hpk.2 (by omega)
  have HR5 := Lib.hid hpk.1
  clear hpk R3 T3 B3 I3 ho
  by_cases hx0 : x = 0
  · subst hx0
    go_upto_region 5 with (fail)
    obtain ⟨SS, hSS⟩ : ∃ SS : World → Prop, SS = (fun W => W.cell? ⟨w3.heap.size, 0, none⟩ = some (.int .i64 f.1) ∧ W.cell? ⟨w3.heap.size, 1, none⟩ = some (.slice A f.2.length c)) := ⟨_, rfl⟩
    have HS1 := Lib.hid (show ∀ W, Blk W w3.heap.size 25 #[.int .i64 f.1, .slice A f.2.length c] → SS W from by rw [hSS]; exact fun _ h => ⟨h.cell 0, h.cell 1⟩)
    have HS2 := Lib.hid (show ∀ W, SS W → W.cell? ⟨w3.heap.size, 0, none⟩ = some (.int .i64 f.1) ∧ W.cell? ⟨w3.heap.size, 1, none⟩ = some (.slice A f.2.length c) from by rw [hSS]; exact fun _ h => h)
    clear hSS
    have S5 := Lib.hid (HS1.out _ (show Blk w5.drew w3.heap.size 25 _ from T5))
    refine wp_region_rel SS 3 5 (by kernel_rfl) rfl ?_
    refine wpAnyR_take (i := 0) (oi := _) ?v0a rfl rfl (by kernel_rfl) (fun _ _ _ h => h) rfl ?hy0a S5.out ?rest0a
    case hy0a => (intro W hW; obtain ⟨e1, e2⟩ := HS2.out W hW; go_simp; (try with_reducible rfl))
    try simp only [List.setIfInBounds_toArray, List.set_cons_zero, List.set_cons_succ]
    refine wpAnyR_take (i := 1) (oi := _) ?v1a rfl rfl (by kernel_rfl) (fun _ _ _ h => h) rfl ?hy1a S5.out ?rest1a
    case hy1a => (intro W hW; obtain ⟨e1, e2⟩ := HS2.out W hW; go_simp; (try with_reducible rfl))
    try simp only [List.setIfInBounds_toArray, List.set_cons_zero, List.set_cons_succ]
    refine wpAnyR_one (i := 2) (by kernel_rfl) rfl (fun K hK => ?_)
    go_simp
    refine (l1Copy_any _ f _ (show RdFact w5.drew _ _ f from ⟨_, rfl, J5.rd.more (by show w3.heap.size ≤ w5.heap.size; omega)⟩) (by omega)).mono ?_
    rintro e W6 ⟨A', c', rfl, ho6, hb6⟩
    have hb6 : Below w5.heap.size w5 W6 := bthen (Below.refl _ _).drew hb6
    have ho6 : OwnInts W6 w5.heap.size W6.heap.size (.slice A' f.2.length c') f.2 := ho6
    obtain ⟨f', hff⟩ : ∃ f', f' = f := ⟨_, rfl⟩
    have hf' : f'.2.length ≤ 3 := by rw [hff]; exact hf
    rw [← hff] at ho6
    have hz6 := hb6.size
    have R6 := R5.below hb6 R5.lt
    have R7 := U5.below hb6 U5.lt
    have K6 := T5.below hb6 T5.lt
    have I6 := J5.below hb6 (show w3.heap.size ≤ w5.heap.size by omega)
    have J6 := ho6
    have B6 := bthen B5 hb6
    rw [show (Value.agg #[.int .i64 f.1, .slice A' f.2.length c']) = .agg #[.int .i64 f'.1, .slice A' f'.2.length c'] by rw [hff]]
    clear hff ho6 hb6
    have X6 := Lib.hid (keepFour R6 R7 I6 J6 (by omega) (by omega) B6 f.1 (.slice A f.2.length c) f'.1 (.slice A' f'.2.length c'))
    have hw6 : w.heap.size + 1 < W6.heap.size := R7.lt
    obtain ⟨j0, j1, j2, j3, l0, l1, l2, l3⟩ := fourCells R6 R7 f.1 (.slice A f.2.length c)
    have S6 := HS1.out _ K6
    refine hK.out _ _ (fun _ => S6) ?_
    clear hK K
    try simp only [List.setIfInBounds_toArray, List.set_cons_zero, List.set_cons_succ, Act.put]
    clear R6 R7 I6 J6 B6 K6
    refine wpAnyR_one (i := 3) (by kernel_rfl) rfl (fun K hK => ?_)
    go_simp
    refine hK.out _ _ (fun hf => absurd hf (by decide)) ?_
    clear hK K
    try simp only [List.setIfInBounds_toArray, List.set_cons_zero, List.set_cons_succ, Act.put]
    refine wpAnyR_one (i := 4) (by kernel_rfl) rfl (fun K hK => ?_)
    go_simp
    obtain ⟨W, hW⟩ : ∃ W, W = (((W6.setCell ⟨w.heap.size, 0, none⟩ (.int .i64 f.1)).setCell ⟨w.heap.size, 1, none⟩ (.slice A f.2.length c)).setCell ⟨w.heap.size + 1, 0, none⟩ (.int .i64 f'.1)).setCell ⟨w.heap.size + 1, 1, none⟩ (.slice A' f'.2.length c') := ⟨_, rfl⟩
    rw [← hW] at X6 ⊢
    have d0 : W.cell? ⟨w.heap.size, 0, none⟩ = some (.int .i64 f.1) := X6.out.1.cell 0
    have d1 : W.cell? ⟨w.heap.size, 1, none⟩ = some (.slice A f.2.length c) := X6.out.1.cell 1
    have d2 : W.cell? ⟨w.heap.size + 1, 0, none⟩ = some (.int .i64 f'.1) := X6.out.2.1.cell 0
    have d3 : W.cell? ⟨w.heap.size + 1, 1, none⟩ = some (.slice A' f'.2.length c') := X6.out.2.1.cell 1
    have hs : W.heap.size = W6.heap.size := by rw [hW]; simp
    clear hW
    refine hK.out _ _ (fun hf => absurd hf (by decide)) ?_
    clear hK K
    refine wpAnyR_done (by kernel_rfl) ?_
    go_wp2_with (fail)
    refine bodyPost_ret (v := .tuple #[.agg #[.int .i64 f.1, .slice A f.2.length c], .agg #[.int .i64 f'.1, .slice A' f'.2.length c']]) (by simp [results, Try.results11, go_sem, d0, d1, d2, d3]) rfl ?_
    obtain ⟨_, _, h1, h2, h3⟩ := X6.out
    exact ⟨A, c, f, A', c', f', rfl, hf, hf', h1.mono (by omega) (by omega), h2.mono (by omega) (by omega), h3⟩
  · have hd0 : (x == 0) = false := by simpa using hx0
    go_upto_region 6 with (fail)
    obtain ⟨SS, hSS⟩ : ∃ SS : World → Prop, SS = (fun W => W.cell? ⟨w3.heap.size, 0, none⟩ = some (.int .i64 f.1) ∧ W.cell? ⟨w3.heap.size, 1, none⟩ = some (.slice A f.2.length c)) := ⟨_, rfl⟩
    have HS1 := Lib.hid (show ∀ W, Blk W w3.heap.size 25 #[.int .i64 f.1, .slice A f.2.length c] → SS W from by rw [hSS]; exact fun _ h => ⟨h.cell 0, h.cell 1⟩)
    have HS2 := Lib.hid (show ∀ W, SS W → W.cell? ⟨w3.heap.size, 0, none⟩ = some (.int .i64 f.1) ∧ W.cell? ⟨w3.heap.size, 1, none⟩ = some (.slice A f.2.length c) from by rw [hSS]; exact fun _ h => h)
    clear hSS
    have S5 := Lib.hid (HS1.out _ (show Blk w5.drew w3.heap.size 25 _ from T5))
    refine wp_region_rel SS 4 6 (by kernel_rfl) rfl ?_
    refine wpAnyR_take (i := 0) (oi := _) ?v0b rfl rfl (by kernel_rfl) (fun _ _ _ h => h) rfl ?hy0b S5.out ?rest0b
    case hy0b => (intro W hW; obtain ⟨e1, e2⟩ := HS2.out W hW; go_simp; (try with_reducible rfl))
    try simp only [List.setIfInBounds_toArray, List.set_cons_zero, List.set_cons_succ]
    refine wpAnyR_pure (i := 1) (oi := _) ?v1b rfl rfl (by kernel_rfl) (by decide) (fun _ _ _ h => h) rfl ?hy1b (fun _ => S5.out) ?rest1b
    case hy1b => (intro W; go_simp; (try with_reducible rfl))
    try simp only [List.setIfInBounds_toArray, List.set_cons_zero, List.set_cons_succ]
    refine wpAnyR_pure (i := 2) (oi := _) ?v2b rfl rfl (by kernel_rfl) (by decide) (fun _ _ _ h => h) rfl ?hy2b (fun _ => S5.out) ?rest2b
    case hy2b => (intro W; go_simp; (try with_reducible rfl))
    try simp only [List.setIfInBounds_toArray, List.set_cons_zero, List.set_cons_succ]
    refine wpAnyR_one (i := 3) (by kernel_rfl) rfl (fun K hK => ?_)
    go_simp
    refine (l1Fact_own (w.heap.size + 2) (bs.take 2000) (q + 1) w1.heap.size w2.heap.size _ ar _ (show Rdr w5.drew _ _ _ from HR5.out) (by omega) (show OwnInts w5.drew _ _ _ _ from I5) (by omega) (by show w2.heap.size ≤ w5.heap.size; omega) hrng.out (by omega)).mono ?_
    rintro e W6 ⟨A', c', f', q', rfl, hf', hq', ho6, _, hO6⟩
    have hO6 : Only (w.heap.size + 2) (w.heap.size + 2 + 1) w5 W6 := ⟨hO6.os, hO6.tape, hO6.output, hO6.size, hO6.block⟩
    have J6 : OwnInts W6 w5.heap.size W6.heap.size (.slice A' f'.2.length c') f'.2 := ho6
    have hz6 := hO6.size
    have R6 := R5.only hO6 (.inl (by omega))
    have R7 := U5.only hO6 (.inl (by omega))
    have K6 := T5.only hO6 (.inr (by omega))
    have I6 := J5.offG hO6 (by omega)
    have B6 : Below w.heap.size w W6 := B5.trans (hO6.below (Nat.le_refl _) (by omega) |>.mono (by omega))
    clear hO6 ho6
    have X6 := Lib.hid (keepFour R6 R7 I6 J6 (by omega) (by omega) B6 f.1 (.slice A f.2.length c) f'.1 (.slice A' f'.2.length c'))
    have hw6 : w.heap.size + 1 < W6.heap.size := R7.lt
    obtain ⟨j0, j1, j2, j3, l0, l1, l2, l3⟩ := fourCells R6 R7 f.1 (.slice A f.2.length c)
    have S6 := HS1.out _ K6
    refine hK.out _ _ (fun _ => S6) ?_
    clear hK K
    try simp only [List.setIfInBounds_toArray, List.set_cons_zero, List.set_cons_succ, Act.put]
    clear R6 R7 I6 J6 B6 K6
    refine wpAnyR_one (i := 4) (by kernel_rfl) rfl (fun K hK => ?_)
    go_simp
    refine hK.out _ _ (fun hf => absurd hf (by decide)) ?_
    clear hK K
    try simp only [List.setIfInBounds_toArray, List.set_cons_zero, List.set_cons_succ, Act.put]
    refine wpAnyR_one (i := 5) (by kernel_rfl) rfl (fun K hK => ?_)
    go_simp
    obtain ⟨W, hW⟩ : ∃ W, W = (((W6.setCell ⟨w.heap.size, 0, none⟩ (.int .i64 f.1)).setCell ⟨w.heap.size, 1, none⟩ (.slice A f.2.length c)).setCell ⟨w.heap.size + 1, 0, none⟩ (.int .i64 f'.1)).setCell ⟨w.heap.size + 1, 1, none⟩ (.slice A' f'.2.length c') := ⟨_, rfl⟩
    rw [← hW] at X6 ⊢
    have d0 : W.cell? ⟨w.heap.size, 0, none⟩ = some (.int .i64 f.1) := X6.out.1.cell 0
    have d1 : W.cell? ⟨w.heap.size, 1, none⟩ = some (.slice A f.2.length c) := X6.out.1.cell 1
    have d2 : W.cell? ⟨w.heap.size + 1, 0, none⟩ = some (.int .i64 f'.1) := X6.out.2.1.cell 0
    have d3 : W.cell? ⟨w.heap.size + 1, 1, none⟩ = some (.slice A' f'.2.length c') := X6.out.2.1.cell 1
    have hs : W.heap.size = W6.heap.size := by rw [hW]; simp
    clear hW
    refine hK.out _ _ (fun hf => absurd hf (by decide)) ?_
    clear hK K
    refine wpAnyR_done (by kernel_rfl) ?_
    go_wp2_with (fail)
    refine bodyPost_ret (v := .tuple #[.agg #[.int .i64 f.1, .slice A f.2.length c], .agg #[.int .i64 f'.1, .slice A' f'.2.length c']]) (by simp [results, Try.results11, go_sem, d0, d1, d2, d3]) rfl ?_
    obtain ⟨_, _, h1, h2, h3⟩ := X6.out
    exact ⟨A, c, f, A', c', f', rfl, hf, hf', h1.mono (by omega) (by omega), h2.mono (by omega) (by omega), h3⟩

end Go.Proofs.Ytdclfcjbadgmfaa
