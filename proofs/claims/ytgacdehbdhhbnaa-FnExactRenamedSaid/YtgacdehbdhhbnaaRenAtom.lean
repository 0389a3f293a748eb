/-
  The program's renaming: the walk of atom.
-/
import Derived.Test.YtgacdehbdhhbnaaRenTerm
namespace Go.Proofs.Ytgacdehbdhhbnaa
open Go.RowKit

theorem rowIs_only {w w' : World} {lo hi g n : Nat} {t : TypeId} {f : Nat → Value} (h : w.rowIs g t n f) (ho : Only lo hi w w') (hd : g < lo ∨ hi ≤ g) : w'.rowIs g t n f := by
  obtain ⟨c, hb, r⟩ := h
  exact ⟨c, (ho.block g (Array.getElem?_eq_some_iff.1 hb).1 hd).trans hb, r⟩
theorem RdInts.only {w w' : World} {lo hi B : Nat} {v : Value} {xs : List Int} (h : RdInts w B v xs) (ho : Only lo hi w w') (hB : B ≤ lo) : RdInts w' B v xs := by
  obtain ⟨A, c, rfl, hc, h⟩ := h
  refine ⟨A, c, rfl, hc, fun hn => ?_⟩
  obtain ⟨b, o, rfl, hlt, hk⟩ := h hn
  refine ⟨b, o, rfl, hlt, fun k hkl => ?_⟩
  have hc := hk k hkl
  rw [← hc]
  exact World.cell?_of_block (by exact ho.block b (World.block_lt_of_cell? _ _ hc) (.inl (by omega)))

/-- All blocks but two are as they were. -/
structure But2 (g r : Nat) (w w' : World) : Prop where
  os : w'.os = w.os
  tape : w'.tape = w.tape
  output : w'.output = w.output
  size : w.heap.size ≤ w'.heap.size
  block : ∀ k, k < w.heap.size → k ≠ g → k ≠ r → w'.heap[k]? = w.heap[k]?
theorem But2.refl (g r : Nat) (w : World) : But2 g r w w := ⟨rfl, rfl, rfl, Nat.le_refl _, fun _ _ _ _ => rfl⟩
theorem But2.only {g r : Nat} {w w1 w' : World} (h : But2 g r w w1) (ho : Only g (g + 1) w1 w') : But2 g r w w' :=
  ⟨ho.os.trans h.os, ho.tape.trans h.tape, ho.output.trans h.output, Nat.le_trans h.size ho.size, fun k hk h1 h2 => (ho.block k (Nat.lt_of_lt_of_le hk h.size) (by omega)).trans (h.block k hk h1 h2)⟩
theorem But2.set {g r j : Nat} {w w1 : World} (h : But2 g r w w1) (u : Value) : But2 g r w (w1.setCell ⟨r, j, none⟩ u) :=
  ⟨h.os, h.tape, h.output, by simpa using h.size, fun k hk h1 h2 => (Below.heap_setCell _ _ _ _ h2).trans (h.block k hk h1 h2)⟩
theorem Blk.but {g r b : Nat} {w w' : World} {t : TypeId} {cs : Array Value} (h : Blk w b t cs) (hb : But2 g r w w') (h1 : b ≠ g) (h2 : b ≠ r) : Blk w' b t cs := (hb.block b h.lt h1 h2).trans h

theorem renOut_at {s : Ren} {xs : List Int} {k : Nat} (h : k < xs.length) : (renOut s xs).getD k 0 = look (renStep (renList s (xs.take k)) xs[k]) xs[k] := by
  rw [← renList_take s h]
  simp [renOut, h]
theorem renStep_no {s : Ren} {t : Int} (h : isVarB t = false) : renStep s t = s := by simp [renStep, h]
theorem look_no {s : Ren} {t : Int} (h : isVarB t = false) : look s t = t := by simp [look, h]
theorem renStep_count (s : Ren) (t : Int) : (renStep s t).2 ≤ s.2 + 1 := by
  unfold renStep
  split <;> simp
theorem renList_count : ∀ (xs : List Int) (s : Ren), (renList s xs).2 ≤ s.2 + xs.length
  | [], s => by simp [renList]
  | t :: xs, s => by
    have h1 := renList_count xs (renStep s t)
    have h2 := renStep_count s t
    show (renList (renStep s t) xs).2 ≤ _
    simp only [List.length_cons]
    omega

set_option maxHeartbeats 1000000 in
set_option maxRecDepth 100000 in
theorem renAtom_any (g : Nat) (s : Ren) (p : Int) (v : Value) (xs : List Int) (w : World) (hN : NamesAt w g s) (h : RdInts w g v xs) (hn : xs.length ≤ 1048576) (hm : s.2 ≤ 4611686014132420000) :
    Calls Try.prog 92 #[.pointer (some ⟨g, 0, none⟩), .agg #[.int .i64 p, v]] w fun e w' => ∃ A' c', e = .returned (.agg #[.int .i64 p, .slice A' xs.length c']) ∧
      OwnInts w' w.heap.size w'.heap.size (.slice A' xs.length c') (renOut s xs) ∧ NamesAt w' g (renList s xs) ∧ Only g (g + 1) w w' := by
  have hg := hN.lt
  have HN := Lib.hid hN
  have HV := Lib.hid h
  clear hN
  obtain ⟨A, c, rfl, hc, h⟩ := h
  have hmk := run_make_row' (P := Try.prog) 23 3 (.int .i64 0) 8 Try.underlying23 Try.infoInt rfl .i64 .i64 xs.length (by omega) (by omega)
  go_enter Try.func92, Try.ntmps92
  go_wp2_with (fail)
  obtain ⟨w3, hw3⟩ : ∃ w3, w3 = ((w.alloc (Obj.cells #[Value.int IntKind.i64 p, Value.slice A xs.length c] 42)).alloc (Obj.cells #[Value.int IntKind.i64 0, Value.slice none 0 0] 42)).alloc (Obj.cells (madeCells #[Value.int IntKind.i64 0] xs.length) 3) := ⟨_, rfl⟩
  have B3 : Below w.heap.size w w3 := by rw [hw3]; exact below3 _ _ _ _
  have s3 : w3.heap.size = w.heap.size + 3 := by rw [hw3]; simp
  have x3 : Blk w3 w.heap.size 42 #[.int .i64 p, .slice A xs.length c] := by rw [hw3]; exact ((Blk.new w _ _).alloc _).alloc _
  have y3 : Blk w3 (w.heap.size + 1) 42 #[.int .i64 0, .slice none 0 0] := by
    rw [hw3]
    have := (Blk.new (w.alloc (Obj.cells #[Value.int IntKind.i64 p, Value.slice A xs.length c] 42)) 42 #[.int .i64 0, .slice none 0 0]).alloc (Obj.cells (madeCells #[Value.int IntKind.i64 0] xs.length) 3)
    simpa using this
  have r3 : w3.rowIs (w.heap.size + 2) 3 xs.length (fun _ => .int .i64 0) := by
    rw [hw3]
    have := World.rowIs_made ((w.alloc (Obj.cells #[Value.int IntKind.i64 p, Value.slice A xs.length c] 42)).alloc (Obj.cells #[Value.int IntKind.i64 0, Value.slice none 0 0] 42)) (.int .i64 0) xs.length 3
    simpa using this
  have N3 := HN.out.below B3 hg
  rw [← hw3]
  clear hw3
  go_loopw [6, 7, 15] (fun _ _ i wr => ∃ k : Nat, k ≤ xs.length ∧ i = .int .i64 k ∧ wr.rowIs (w.heap.size + 2) 3 xs.length (fun j => if j < k then .int .i64 ((renOut s xs).getD j 0) else .int .i64 0) ∧ NamesAt wr g (renList s (xs.take k)) ∧
      But2 g (w.heap.size + 2) w3 wr) (fun _ _ i _ => xs.length - (intOf i).toNat)
  case atStart => exact ⟨0, Nat.zero_le _, rfl, r3.congr (fun j _ => by simp), N3, But2.refl _ _ _⟩
  case round =>
    obtain ⟨k, hk, rfl, hrow, hnm, hbt⟩ := hrel
    have xr := x3.but hbt (by omega) (by omega)
    have yr := y3.but hbt (by omega) (by omega)
    have q0 : wr.cell? ⟨w.heap.size, 0, none⟩ = some (.int .i64 p) := xr.cell 0
    have q1 : wr.cell? ⟨w.heap.size, 1, none⟩ = some (.slice A xs.length c) := xr.cell 1
    by_cases hlt : k < xs.length
    · obtain ⟨b, o, rfl, hbB, hx⟩ := h (by omega)
      have hbk := hx k hlt
      have hbw := World.block_lt_of_cell? _ _ hbk
      have hck : wr.cell? ⟨b, o + k, none⟩ = some (.int .i64 xs[k]) := by
        rw [← hbk]
        exact World.cell?_of_block ((hbt.block b (by rw [s3]; simp at hbw; omega) (by omega) (by simp at hbw; omega)).trans (B3.block b hbw))
      have hc2 := hrow.cell hlt
      have hf2 := hrow.frozen k
      have hcnt := renList_count (xs.take k) s
      rw [List.length_take] at hcnt
      have HR := Lib.hid (And.intro hrow (And.intro hnm hbt))
      clear hx hrow hnm hbt h hbk hbw
      by_cases he : isVarB xs[k] = true
      · have HK := Lib.hid (isVar_is he)
        have hv4 := Lib.hid (show -4 ≤ xs[k] ∧ xs[k] ≤ -1 by simpa [isVarB] using he)
        have HE := Lib.hid he
        clear he
        go_wp2_with (first | (go_at_call 102; refine (HK.out _).mono ?_; rintro e w' ⟨rfl, rfl⟩) | (go_at_call 104; refine (varNumber_any _ hv4.out.1 hv4.out.2 _).mono ?_; rintro e w' ⟨rfl, rfl⟩))
        refine (term_any g _ xs[k] _ (HR.out.2.1.far (p := ⟨w.heap.size + 2, k, none⟩) (by simp; omega) _) HE.out (by omega)).mono ?_
        rintro e w4 ⟨rfl, hn4, ho4⟩
        have hr4 := rowIs_only (HR.out.1.set k (.int .i64 xs[k])) ho4 (.inr (by omega))
        have hb4 := (HR.out.2.2.set (j := k) (.int .i64 xs[k])).only ho4
        have hc4 := hr4.cell hlt
        have hf4 := hr4.frozen k
        have HR4 := Lib.hid (And.intro hr4 (And.intro hn4 hb4))
        have HO := Lib.hid (renOut_at (s := s) hlt)
        clear hr4 hn4 hb4 ho4 hc2 hf2
        go_wp2_with (fail)
        go_roundw
        case rel =>
          refine ⟨k + 1, by omega, by go_num, (HR4.out.1.set k _).congr (fun j hj => ?_), ?_, HR4.out.2.2.set _⟩
          · by_cases e : j = k
            · subst e
              rw [if_pos rfl, if_pos (by omega), HO.out]
            · rw [if_neg e]
              by_cases h2 : j < k
              · rw [if_neg e, if_pos h2, if_pos (by omega)]
              · rw [if_neg e, if_neg h2, if_neg (by omega)]
          · rw [renList_take s hlt]
            exact HR4.out.2.1.far (by simp; omega) _
        case measure => simp [intOf]; omega
      · have he' : isVarB xs[k] = false := by simpa using he
        have HK := Lib.hid (isVar_is he')
        have HO := Lib.hid (show (renOut s xs).getD k 0 = xs[k] by rw [renOut_at hlt, look_no he'])
        have HT := Lib.hid (show renList s (xs.take (k + 1)) = renList s (xs.take k) by rw [renList_take s hlt, renStep_no he'])
        clear he he'
        go_wp2_with (go_at_call 102; refine (HK.out _).mono ?_; rintro e w' ⟨rfl, rfl⟩)
        go_roundw
        case rel =>
          refine ⟨k + 1, by omega, by go_num, (HR.out.1.set k _).congr (fun j hj => ?_), ?_, HR.out.2.2.set _⟩
          · by_cases e : j = k
            · subst e
              rw [if_pos rfl, if_pos (by omega), HO.out]
            · rw [if_neg e]
              by_cases h2 : j < k
              · rw [if_pos h2, if_pos (by omega)]
              · rw [if_neg h2, if_neg (by omega)]
          · rw [HT.out]
            exact HR.out.2.1.far (by simp; omega) _
        case measure => simp [intOf]; omega
    · have hkn : k = xs.length := by omega
      have HO : OwnInts wr (w.heap.size + 2) wr.heap.size (.slice (some ⟨w.heap.size + 2, 0, none⟩) (renOut s xs).length (renOut s xs).length) (renOut s xs) :=
        OwnInts.of_rowIs (by rw [renOut_length]; exact hrow.congr (fun j hj => by rw [if_pos (by omega)])) (Nat.le_refl _) hrow.lt (by rw [renOut_length]; unfold maxLen; omega)
      rw [renOut_length] at HO
      have HN2 := Lib.hid (show NamesAt wr g (renList s xs) by rw [hkn, List.take_length] at hnm; exact hnm)
      have HH := Lib.hid (And.intro HO hbt)
      have k0 : wr.cell? ⟨w.heap.size + 1, 0, none⟩ = some (.int .i64 0) := yr.cell 0
      have k1 : wr.cell? ⟨w.heap.size + 1, 1, none⟩ = some (.slice none 0 0) := yr.cell 1
      have j0 := yr.frozen 0
      have j1 := yr.frozen 1
      clear HO hkn hrow hnm hbt
      go_wp2_with (fail)
      have yb := (yr.set_ 0 (.int .i64 p)).set_ 1 (.slice (some ⟨w.heap.size + 2, 0, none⟩) xs.length xs.length)
      have d0 : ((wr.setCell ⟨w.heap.size + 1, 0, none⟩ (.int .i64 p)).setCell ⟨w.heap.size + 1, 1, none⟩ (.slice (some ⟨w.heap.size + 2, 0, none⟩) xs.length xs.length)).cell? ⟨w.heap.size + 1, 0, none⟩ = some (.int .i64 p) := by
        simpa using yb.cell 0
      have d1 : ((wr.setCell ⟨w.heap.size + 1, 0, none⟩ (.int .i64 p)).setCell ⟨w.heap.size + 1, 1, none⟩ (.slice (some ⟨w.heap.size + 2, 0, none⟩) xs.length xs.length)).cell? ⟨w.heap.size + 1, 1, none⟩ = some (.slice (some ⟨w.heap.size + 2, 0, none⟩) xs.length xs.length) := by
        simpa using yb.cell 1
      refine bodyPost_ret (v := .agg #[.int .i64 p, .slice (some ⟨w.heap.size + 2, 0, none⟩) xs.length xs.length]) (by simp [results, Try.results92, go_sem, d0, d1]) rfl ⟨_, _, rfl, ?_, ?_, ?_⟩
      · exact (((HH.out.1.set (p := ⟨w.heap.size + 1, 0, none⟩) (.inl (Nat.lt_succ_self _)) _).set (p := ⟨w.heap.size + 1, 1, none⟩) (.inl (Nat.lt_succ_self _)) _)).mono (by omega) (by simp)
      · exact (HN2.out.far (p := ⟨w.heap.size + 1, 0, none⟩) (by simp; omega) _).far (p := ⟨w.heap.size + 1, 1, none⟩) (by simp; omega) _
      · refine ⟨HH.out.2.os.trans B3.os, HH.out.2.tape.trans B3.tape, HH.out.2.output.trans B3.output, ?_, fun j hj hd => ?_⟩
        · have := HH.out.2.size
          simp
          omega
        · rw [Below.heap_setCell _ _ _ _ (by simp; omega), Below.heap_setCell _ _ _ _ (by simp; omega)]
          exact (HH.out.2.block j (by omega) (by omega) (by omega)).trans (B3.block j hj)

end Go.Proofs.Ytgacdehbdhhbnaa
