/-
  A row of literals that grows: the words; the specification's renaming: the walk of l2Rule.
-/
import Derived.Test.YtgacdehbdhhbnaaRenNum
import Derived.Test.YtgacdehbdhhbnaaRelease
import Derived.Test.YtgacdehbdhhbnaaRenImpl
namespace Go.Proofs.Ytgacdehbdhhbnaa
open Go.RowKit

/-- The cells of literals, a literal's three behind each other. -/
def flatL : List LLit → List Value → List Value
  | l :: ls, u :: us => .int .i64 l.1 :: .int .i64 l.2.1 :: u :: flatL ls us
  | _, _ => []
theorem flatL_length : ∀ (ls : List LLit) (us : List Value), us.length = ls.length → (flatL ls us).length = ls.length * 3
  | [], _, _ => by simp [flatL]
  | l :: ls, [], h => by simp at h
  | l :: ls, u :: us, h => by
    have := flatL_length ls us (by simpa using h)
    simp only [flatL, List.length_cons, this]
    omega
theorem flatL_at : ∀ (ls : List LLit) (us : List Value) (_ : us.length = ls.length) (k : Nat) (hk : k < ls.length) (hk' : k < us.length),
    (flatL ls us)[k * 3]? = some (.int .i64 ls[k].1) ∧ (flatL ls us)[k * 3 + 1]? = some (.int .i64 ls[k].2.1) ∧ (flatL ls us)[k * 3 + 2]? = some us[k]
  | [], _, _, k, hk, _ => absurd hk (by simp)
  | l :: ls, [], h, _, _, _ => by simp at h
  | l :: ls, u :: us, h, 0, _, _ => by simp [flatL]
  | l :: ls, u :: us, h, k + 1, hk, hk' => by
    have := flatL_at ls us (by simpa using h) k (by simpa using hk) (by simpa using hk')
    simpa [flatL, Nat.add_mul] using this
theorem flatL_snoc : ∀ (ls : List LLit) (us : List Value) (_ : us.length = ls.length) (l : LLit) (u : Value), flatL (ls ++ [l]) (us ++ [u]) = flatL ls us ++ [.int .i64 l.1, .int .i64 l.2.1, u]
  | [], [], _, l, u => by simp [flatL]
  | [], u' :: us, h, _, _ => by simp at h
  | l :: ls, [], h, _, _ => by simp at h
  | l :: ls, u :: us, h, m, b => by simp [flatL, flatL_snoc ls us (by simpa using h) m b]

/-- A row of literals of the call's own that grows, with its rows of integers us, in blocks from base on. -/
structure ColL (base : Nat) (wr : World) (ls : List LLit) (A : Option Addr) (c : Nat) (us : List Value) : Prop where
  len : us.length = ls.length
  own : ∀ i (h : i < ls.length) (h' : i < us.length), OwnInts wr base wr.heap.size us[i] ls[i].2.2
  row : wr.ownsRow base 52 3 (.slice A ls.length c) ls.length (flatL ls us)
section
variable {base : Nat} {wr w2 w4 : World} {ls : List LLit} {A : Option Addr} {c : Nat} {us : List Value}
theorem ColL.nil (base : Nat) (w : World) : ColL base w [] none 0 [] := ⟨rfl, fun i h => absurd h (by simp), by simpa [flatL] using World.ownsRow_nil w base 52 3⟩
theorem ColL.below (h : ColL base wr ls A c us) (hb : Below wr.heap.size wr w2) : ColL base w2 ls A c us :=
  ⟨h.len, fun i h1 h2 => ((h.own i h1 h2).below hb (Nat.le_refl _)).mono (Nat.le_refl _) hb.size, ownsRow_only h.row fun g hg => hb.block g (h.row.lt g hg).2⟩
theorem int_ne_lit {n : Nat} {v a : Value} {zs : List Value} {xs : List Int} {lo hi g : Nat} (hr : wr.ownsRow base 52 3 v n zs) (hv : v.ownBlock = some g) (ha : OwnInts wr lo hi a xs) : a.ownBlock ≠ some g := by
  rcases hr.2 with ⟨rfl, _⟩ | ⟨g1, c1, cur1, rfl, _, h1, _⟩
  · cases hv
  · have e : g1 = g := by simpa [Value.ownBlock] using hv
    subst e
    rcases ha.1.2 with ⟨rfl, _⟩ | ⟨g2, c2, cur2, rfl, _, h2, _⟩
    · simp [Value.ownBlock]
    · intro e
      have e : g2 = g1 := by simpa [Value.ownBlock] using e
      subst e
      rw [h1] at h2
      injection h2 with h2
      injection h2 with _ h2
      exact absurd h2 (by decide)
/-- One more literal. -/
theorem ColL.push {l : LLit} {u : Value} {g cap : Nat} {o : Obj} (h : ColL base wr ls A c us) (hb : Below wr.heap.size wr w2) (hu : OwnInts w2 base w2.heap.size u l.2.2)
    (hg : (w2.alloc o).grownBy w4 (Value.slice A ls.length c).ownBlock) (hown : w4.ownsRow base 52 3 (.slice (some ⟨g, 0, none⟩) (ls.length + 1) cap) (ls.length + 1) (flatL ls us ++ [.int .i64 l.1, .int .i64 l.2.1, u])) :
    ColL base w4 (ls ++ [l]) (some ⟨g, 0, none⟩) cap (us ++ [u]) := by
  have h2 := h.below hb
  have hg2 := grown_from_alloc hg
  have hl : (ls ++ [l]).length = ls.length + 1 := by simp
  have keep : ∀ {v : Value} {xs : List Int}, OwnInts w2 base w2.heap.size v xs → OwnInts w4 base w4.heap.size v xs := fun {v xs} hv =>
    (hv.kept (fun b hb' => hg2.block b (hv.lt hb').2.2 (fun e => int_ne_lit h2.row e.symm hv hb'))).mono (Nat.le_refl _) hg2.size
  refine ⟨by simp [h.len], fun i h1 h3 => ?_, ?_⟩
  · by_cases e : i < ls.length
    · have e' : i < us.length := by rw [h.len]; exact e
      rw [List.getElem_append_left e', List.getElem_append_left e]
      exact keep (h2.own i e e')
    · have e2 : i = ls.length := by simp at h1; omega
      subst e2
      simp [← h.len]
      simpa using keep hu
  · rw [hl, flatL_snoc ls us h.len]
    exact hown
theorem ColL.lits (h : ColL base wr ls A c us) (hn : ls.length ≤ c) : OwnLits wr base wr.heap.size (.slice A ls.length c) ls := by
  have hcells := @World.ownsRow.cells wr base 52 3 (.slice A ls.length c) ls.length (flatL ls us) h.row
  have hlt := h.row.lt
  have hl := h.len
  refine ⟨A, c, rfl, hn, fun hpos => ?_⟩
  rcases h.row.2 with ⟨e, h0⟩ | ⟨g, cap, cur, e, hb, hgg, _⟩
  · omega
  · injection e with e1 _ e3
    subst e1
    refine ⟨g, 0, rfl, hb, (hlt g rfl).2, fun k hk => ⟨⟨by simp [World.frozen?, hgg], by simp [World.frozen?, hgg]⟩, ?_⟩⟩
    obtain ⟨c0, c1, c2⟩ := flatL_at ls us hl k hk (by omega)
    have d0 := hcells (g := g) rfl _ _ c0
    have d1 := hcells (g := g) rfl _ _ c1
    have d2 := hcells (g := g) rfl _ _ c2
    rw [Go.WideShapes.add_plain] at d0 d1 d2
    exact ⟨_, _, _, d0, d1, d2, rfl, rfl, h.own k hk (by omega)⟩
theorem ColL.set {p : Addr} (h : ColL base wr ls A c us) (hp : p.block < base) (u : Value) : ColL base (wr.setCell p u) ls A c us :=
  ⟨h.len, fun i h1 h2 => ((h.own i h1 h2).set (.inl hp) u).mono (Nat.le_refl _) (by simp), ownsRow_only h.row fun g hg => Below.heap_setCell _ _ _ _ (by have := (h.row.lt g hg).1; omega)⟩
theorem ColL.cap (h : ColL base wr ls A c us) : ls.length ≤ c := by
  rcases h.row.2 with ⟨e, h0⟩ | ⟨g, cap, cur, e, hb, hgg, hn, _⟩
  · injection e with _ _ e
    omega
  · injection e with _ _ e
    omega
end

set_option maxHeartbeats 4000000 in
set_option maxRecDepth 100000 in
theorem l2Rule_any (s : Ren) (g : Nat) (v : Value) (r : LRule) (w : World) (hT : ToAt w g s) (h : RdRule w w.heap.size v r) (hr : szR r ≤ 1048576) (hok : termsOk r = true) :
    Calls Try.prog 90 #[v, .slice (some ⟨g, 0, none⟩) 4 4] w fun e w' => ∃ A c A2 c2, e = .returned (.agg #[.int .i64 r.1.1, .slice A r.1.2.length c, .slice A2 r.2.length c2]) ∧
      OwnInts w' w.heap.size w'.heap.size (.slice A r.1.2.length c) (r.1.2.map (look s)) ∧ OwnLits w' w.heap.size w'.heap.size (.slice A2 r.2.length c2) (r.2.map (lookLit s)) ∧ Below w.heap.size w w' := by
  obtain ⟨i0, hi0, hz0, hz1, hz2⟩ := info_parts Try.infoLit
  obtain ⟨a, b, rfl, h, h2⟩ := h
  have hok' := hok
  unfold termsOk at hok'
  simp only [Bool.and_eq_true] at hok'
  unfold szR at hr
  have HT := Lib.hid hT
  have hgw := hT.lt
  have H := Lib.hid h
  have H2 := Lib.hid h2
  obtain ⟨A, c, rfl, hc, _⟩ := h
  obtain ⟨A2, c2, rfl, hcc, _⟩ := h2
  clear hT
  go_enter Try.func90, Try.ntmps90
  go_wp2_with (fail)
  refine (l2Atom_any s g r.1.1 _ r.1.2 _ (HT.out.below (below2 _ _ _) hgw) (H.out.on (below2 _ _ _)) (by omega) hok'.2).mono ?_
  rintro e w1 ⟨A3, c3, rfl, ho1, hb1⟩
  have B1 := bthen (below2 _ _ _) hb1
  have s1 : w.heap.size + 2 ≤ w1.heap.size := by have := hb1.size; simp at this; exact this
  have x1 : Blk w1 w.heap.size 63 #[.int .i64 r.1.1, .slice A r.1.2.length c, .slice A2 r.2.length c2] := ((Blk.new w _ _).alloc _).below hb1 (by simp; omega)
  have y1 : Blk w1 (w.heap.size + 1) 63 #[.int .i64 0, .slice none 0 0, .slice none 0 0] := by
    have := (Blk.new (w.alloc (Obj.cells #[Value.int IntKind.i64 r.1.1, Value.slice A r.1.2.length c, Value.slice A2 r.2.length c2] 63)) 63 #[.int .i64 0, .slice none 0 0, .slice none 0 0]).below hb1 (by simp)
    simpa using this
  have hgw1 : g < w1.heap.size := by omega
  have T1 := HT.out.below B1 hgw
  have O1 : OwnInts w1 (w.heap.size + 2) w1.heap.size (.slice A3 r.1.2.length c3) (r.1.2.map (look s)) := by simpa using ho1
  clear hb1 ho1
  go_wp2_with (fail)
  obtain ⟨w2, hw2⟩ : ∃ w2, w2 = w1.alloc (Obj.cells #[Value.int IntKind.i64 r.1.1, Value.slice A3 r.1.2.length c3, Value.slice none 0 0] 63) := ⟨_, rfl⟩
  have b2 : Below w1.heap.size w1 w2 := by rw [hw2]; exact below1 _ _
  have o2 : Blk w2 w1.heap.size 63 #[.int .i64 r.1.1, .slice A3 r.1.2.length c3, .slice none 0 0] := by rw [hw2]; exact Blk.new _ _ _
  rw [← hw2]
  clear hw2
  obtain ⟨ms, hms⟩ : ∃ ms, ms = r.2.map (lookLit s) := ⟨_, rfl⟩
  have hml : ms.length = r.2.length := by rw [hms]; simp
  have hmk : ∀ k (hk : k < r.2.length) (hk' : k < ms.length), ms[k] = lookLit s r.2[k] := fun k hk hk' => by simp [hms]
  have HML := Lib.hid hml
  have HMK := Lib.hid hmk
  have HMS := Lib.hid hms
  clear hml hmk hms
  go_loopw [6] (fun i wr => ∃ (k : Nat) (A' : Option Addr) (c' : Nat) (us : List Value), k ≤ r.2.length ∧ i = .int .i64 k ∧ ColL (w1.heap.size + 1) wr (ms.take k) A' c' us ∧ Blk wr w1.heap.size 63 #[.int .i64 r.1.1, .slice A3 r.1.2.length c3, .slice A' k c'] ∧ Below w1.heap.size w1 wr)
    (fun i _ => r.2.length - (intOf i).toNat)
  case atStart => exact ⟨0, none, 0, [], Nat.zero_le _, rfl, by simpa using ColL.nil _ _, o2, b2⟩
  case round =>
    obtain ⟨k, A', c', us, hk, rfl, hcol, ho, hbe⟩ := hrel
    have BW := bthen B1 hbe
    have xr := x1.below hbe x1.lt
    have yr := y1.below hbe y1.lt
    have Tr := T1.below hbe hgw1
    have hkl : (ms.take k).length = k := by rw [List.length_take, HML.out]; omega
    have q2 : wr.cell? ⟨w.heap.size, 2, none⟩ = some (.slice A2 r.2.length c2) := xr.cell 2
    have n2 : wr.cell? ⟨w1.heap.size, 2, none⟩ = some (.slice A' k c') := ho.cell 2
    by_cases hlt : k < r.2.length
    · obtain ⟨b, o, u0, u1, u2, rfl, hbB, k0, k1, k2, rfl, rfl, p3⟩ := (H2.out.on BW).get hlt
      have HP := Lib.hid p3
      obtain ⟨A4, c4, rfl, hc4, _⟩ := p3
      have hle := len_le_totL r.2 k hlt
      have hok3 := List.all_eq_true.1 hok'.1 _ (List.getElem_mem hlt)
      have HCO := Lib.hid hcol
      clear hcol
      go_upto_region 5 with fail
      obtain ⟨SS, hSS⟩ : ∃ SS : World → Prop, SS = (fun W => Below wr.heap.size wr W ∧ W.cell? ⟨w1.heap.size, 2, none⟩ = some (.slice A' k c') ∧ W.cell? ⟨w.heap.size, 2, none⟩ = some (.slice (some ⟨b, o, none⟩) r.2.length c2) ∧ W.cell? ⟨b, o + k * 3, none⟩ = some (.int .i64 r.2[k].1) ∧ W.cell? ⟨b, o + k * 3 + 1, none⟩ = some (.int .i64 r.2[k].2.1) ∧ W.cell? ⟨b, o + k * 3 + 2, none⟩ = some (.slice A4 r.2[k].2.2.length c4)) := ⟨_, rfl⟩
      have HS := Lib.hid (show ∀ W, Below wr.heap.size wr W → SS W from by
        rw [hSS]
        exact fun W hW => ⟨hW, (hW.cell (by exact ho.lt)).trans n2, (hW.cell (by exact xr.lt)).trans q2, (hW.cell (by exact World.block_lt_of_cell? _ _ k0)).trans k0, (hW.cell (by exact World.block_lt_of_cell? _ _ k1)).trans k1, (hW.cell (by exact World.block_lt_of_cell? _ _ k2)).trans k2⟩)
      have HB := Lib.hid (show ∀ W, SS W → (Below wr.heap.size wr W ∧ W.cell? ⟨w1.heap.size, 2, none⟩ = some (.slice A' k c') ∧ W.cell? ⟨w.heap.size, 2, none⟩ = some (.slice (some ⟨b, o, none⟩) r.2.length c2) ∧ W.cell? ⟨b, o + k * 3, none⟩ = some (.int .i64 r.2[k].1) ∧ W.cell? ⟨b, o + k * 3 + 1, none⟩ = some (.int .i64 r.2[k].2.1) ∧ W.cell? ⟨b, o + k * 3 + 2, none⟩ = some (.slice A4 r.2[k].2.2.length c4)) from by rw [hSS]; exact fun W hW => hW)
      clear hSS
      have hkz : (0 : Int) ≤ (k : Int) := by omega
      have hki : (k : Int) < (r.2.length : Int) := by omega
      refine wp_region_rel SS 18 21 (by kernel_rfl) rfl ?_
      have S0 := Lib.hid (HS.out _ (Below.refl _ _).drew)
      refine wpAnyR_pure (i := 0) (oi := _) ?v0 rfl rfl (by kernel_rfl) (by decide) (fun _ _ _ h => h) rfl ?hy0 (fun _ => S0.out) ?rest0
      case hy0 => (intro W; go_simp; (try with_reducible rfl))
      simp only [List.setIfInBounds_toArray, List.set_cons_zero, List.set_cons_succ]
      refine wpAnyR_take (i := 1) (oi := _) ?v1 rfl rfl (by kernel_rfl) (fun _ _ _ h => h) rfl ?hy1 S0.out ?rest1
      case hy1 => (intro W hW; obtain ⟨_, e1, e2, e3, e4, e5⟩ := HB.out W hW; go_simp; (try with_reducible rfl))
      simp only [List.setIfInBounds_toArray, List.set_cons_zero, List.set_cons_succ]
      refine wpAnyR_pure (i := 2) (oi := _) ?v2 rfl rfl (by kernel_rfl) (by decide) (fun _ _ _ h => h) rfl ?hy2 (fun _ => S0.out) ?rest2
      case hy2 => (intro W; go_simp; (try with_reducible rfl))
      simp only [List.setIfInBounds_toArray, List.set_cons_zero, List.set_cons_succ]
      refine wpAnyR_take (i := 3) (oi := _) ?v3 rfl rfl (by kernel_rfl) (fun _ _ _ h => h) rfl ?hy3 S0.out ?rest3
      case hy3 => (intro W hW; obtain ⟨_, e1, e2, e3, e4, e5⟩ := HB.out W hW; go_simp; (try with_reducible rfl))
      simp only [List.setIfInBounds_toArray, List.set_cons_zero, List.set_cons_succ]
      refine wpAnyR_pure (i := 4) (oi := _) ?v4 rfl rfl (by kernel_rfl) (by decide) (fun _ _ _ h => h) rfl ?hy4 (fun _ => S0.out) ?rest4
      case hy4 => (intro W; go_simp; (try with_reducible rfl))
      simp only [List.setIfInBounds_toArray, List.set_cons_zero, List.set_cons_succ]
      refine wpAnyR_pure (i := 5) (oi := _) ?v5 rfl rfl (by kernel_rfl) (by decide) (fun _ _ _ h => h) rfl ?hy5 (fun _ => S0.out) ?rest5
      case hy5 => (intro W; go_simp; (try with_reducible rfl))
      simp only [List.setIfInBounds_toArray, List.set_cons_zero, List.set_cons_succ]
      refine wpAnyR_pure (i := 6) (oi := _) ?v6 rfl rfl (by kernel_rfl) (by decide) (fun _ _ _ h => h) rfl ?hy6 (fun _ => S0.out) ?rest6
      case hy6 => (intro W; go_simp; (try with_reducible rfl))
      simp only [List.setIfInBounds_toArray, List.set_cons_zero, List.set_cons_succ]
      refine wpAnyR_take (i := 7) (oi := _) ?v7 rfl rfl (by kernel_rfl) (fun _ _ _ h => h) rfl ?hy7 S0.out ?rest7
      case hy7 => (intro W hW; obtain ⟨_, e1, e2, e3, e4, e5⟩ := HB.out W hW; go_simp; (try with_reducible rfl))
      simp only [List.setIfInBounds_toArray, List.set_cons_zero, List.set_cons_succ]
      refine wpAnyR_pure (i := 8) (oi := _) ?v8 rfl rfl (by kernel_rfl) (by decide) (fun _ _ _ h => h) rfl ?hy8 (fun _ => S0.out) ?rest8
      case hy8 => (intro W; go_simp; (try with_reducible rfl))
      simp only [List.setIfInBounds_toArray, List.set_cons_zero, List.set_cons_succ]
      refine wpAnyR_take (i := 9) (oi := _) ?v9 rfl rfl (by kernel_rfl) (fun _ _ _ h => h) rfl ?hy9 S0.out ?rest9
      case hy9 => (intro W hW; obtain ⟨_, e1, e2, e3, e4, e5⟩ := HB.out W hW; go_simp; (try with_reducible rfl))
      simp only [List.setIfInBounds_toArray, List.set_cons_zero, List.set_cons_succ]
      refine wpAnyR_pure (i := 10) (oi := _) ?v10 rfl rfl (by kernel_rfl) (by decide) (fun _ _ _ h => h) rfl ?hy10 (fun _ => S0.out) ?rest10
      case hy10 => (intro W; go_simp; (try with_reducible rfl))
      simp only [List.setIfInBounds_toArray, List.set_cons_zero, List.set_cons_succ]
      refine wpAnyR_pure (i := 11) (oi := _) ?v11 rfl rfl (by kernel_rfl) (by decide) (fun _ _ _ h => h) rfl ?hy11 (fun _ => S0.out) ?rest11
      case hy11 => (intro W; go_simp; (try with_reducible rfl))
      simp only [List.setIfInBounds_toArray, List.set_cons_zero, List.set_cons_succ]
      refine wpAnyR_pure (i := 12) (oi := _) ?v12 rfl rfl (by kernel_rfl) (by decide) (fun _ _ _ h => h) rfl ?hy12 (fun _ => S0.out) ?rest12
      case hy12 => (intro W; go_simp; (try with_reducible rfl))
      simp only [List.setIfInBounds_toArray, List.set_cons_zero, List.set_cons_succ]
      refine wpAnyR_take (i := 13) (oi := _) ?v13 rfl rfl (by kernel_rfl) (fun _ _ _ h => h) rfl ?hy13 S0.out ?rest13
      case hy13 => (intro W hW; obtain ⟨_, e1, e2, e3, e4, e5⟩ := HB.out W hW; go_simp; (try with_reducible rfl))
      simp only [List.setIfInBounds_toArray, List.set_cons_zero, List.set_cons_succ]
      refine wpAnyR_pure (i := 14) (oi := _) ?v14 rfl rfl (by kernel_rfl) (by decide) (fun _ _ _ h => h) rfl ?hy14 (fun _ => S0.out) ?rest14
      case hy14 => (intro W; go_simp; (try with_reducible rfl))
      simp only [List.setIfInBounds_toArray, List.set_cons_zero, List.set_cons_succ]
      refine wpAnyR_one (i := 15) (by kernel_rfl) rfl (fun K hK => ?_)
      go_simp
      refine (l2Atom_any s g r.2[k].2.1 _ r.2[k].2.2 _ (Tr.below (Below.refl _ _).drew (by omega)) (HP.out.on (Below.refl _ _).drew) (by omega) hok3).mono ?_
      rintro e W4 ⟨A6, c6, rfl, ho6, hb6⟩
      have hb4 : Below wr.heap.size wr W4 := bthen (Below.refl _ _).drew hb6
      have S1 := Lib.hid (HS.out _ hb4)
      refine hK.out _ _ (fun _ => S1.out) ?_
      clear hK K
      try simp only [List.setIfInBounds_toArray, List.set_cons_zero, List.set_cons_succ, Act.put]
      refine wpAnyR_pure (i := 16) (oi := _) ?v16 rfl rfl (by kernel_rfl) (by decide) (fun _ _ _ h => h) rfl ?hy16 (fun _ => S1.out) ?rest16
      case hy16 => (intro W; go_simp; (try with_reducible rfl))
      simp only [List.setIfInBounds_toArray, List.set_cons_zero, List.set_cons_succ]
      refine wpAnyR_one (i := 17) (by kernel_rfl) rfl (fun K hK => ?_)
      go_simp
      refine hK.out _ _ (fun _ => HS.out _ (bthen hb4 (below1 _ _))) ?_
      clear hK K
      refine wpAnyR_one (i := 18) (by kernel_rfl) rfl (fun K hK => ?_)
      refine step_append_lies _ rfl (.tmp 20) (.tmp 36) 61 rfl (w1.heap.size + 1) 52 i0 (.agg #[.int .i64 0, .int .i64 0, .slice none 0 0]) 3 40 Try.underlying61 hi0 hz0 hz1 hz2 rfl (by decide) (.slice A' k c') k (flatL (ms.take k) us) rfl ?c1 ⟨W4.heap.size, 0, none⟩ 1 1 [.int .i64 r.2[k].1, .int .i64 r.2[k].2.1, .slice A6 r.2[k].2.2.length c6] rfl rfl ?c4 ?c2 (by omega) (by unfold maxLen; omega) (by omega) ?c3 _ rfl ?c5
      case c1 => have := ((HCO.out.below hb4).row); rw [hkl] at this; exact this.alloc _
      case c4 => exact World.news_of_block (cs := #[.int .i64 r.2[k].1, .int .i64 r.2[k].2.1, .slice A6 r.2[k].2.2.length c6]) (heap_alloc_new W4 _)
      case c2 =>
        intro u hu
        simp only [List.mem_cons, List.not_mem_nil, or_false] at hu
        rcases hu with rfl | rfl | rfl <;> rfl
      case c3 => have := hb4.size; have := hbe.size; simp; omega
      case c5 =>
        intro g2 cap w7 hown hg _ _
        have hkm : k < ms.length := by rw [HML.out]; exact hlt
        have hcol2 := HCO.out.push (l := ms[k]) (u := .slice A6 r.2[k].2.2.length c6) (g := g2) (cap := cap) hb4 (by rw [HMK.out k hlt hkm]; exact ho6.mono (by have := hbe.size; show w1.heap.size + 1 ≤ wr.heap.size; have := ho.lt; omega) (Nat.le_refl _)) (by rw [hkl]; exact hg) (by rw [hkl, HMK.out k hlt hkm]; exact hown)
        rw [← take_snoc ms k hkm] at hcol2
        have hg2 := grown_from_alloc hg
        have ho4 := ho.below hb4 ho.lt
        have hrow4 := (HCO.out.below hb4).row
        rw [hkl] at hrow4
        have hne : (Value.slice A' k c').ownBlock ≠ some w1.heap.size := blk_ne_own hrow4 ho4 (by decide)
        have ho7 : Blk w7 w1.heap.size 63 #[.int .i64 r.1.1, .slice A3 r.1.2.length c3, .slice A' k c'] := (hg2.block _ ho4.lt (fun e => hne e.symm)).trans ho4
        have hB7 : Below w1.heap.size w1 w7 := (bthen hbe hb4).grown hg2 (by have := hb4.size; have := hbe.size; omega) (fun b hb => by have := (hrow4.lt b hb).1; omega)
        have HC := Lib.hid (And.intro hcol2 (And.intro ho7 hB7))
        have e1 : w7.cell? ⟨w1.heap.size, 2, none⟩ = some (.slice A' k c') := ho7.cell 2
        have e2 := ho7.frozen 2
        clear hcol2 hg2 ho4 hrow4 hne ho7 hB7 hown hg
        refine hK.out _ _ (fun hf => absurd hf (by decide)) ?_
        clear hK K
        simp only [List.setIfInBounds_toArray, Act.put]
        refine wpAnyR_pure (i := 19) (oi := _) ?v19 rfl rfl (by kernel_rfl) (by decide) (fun _ _ _ h => h) rfl ?hy19 (fun hf => absurd hf (by decide)) ?rest19
        case hy19 => (intro W; go_simp; (try with_reducible rfl))
        refine wpAnyR_one (i := 20) (by kernel_rfl) rfl (fun K hK => ?_)
        go_simp
        refine hK.out _ _ (fun hf => absurd hf (by decide)) ?_
        clear hK K
        refine wpAnyR_done (by kernel_rfl) ?_
        go_wp2_with (fail)
        go_roundw
        case rel =>
          obtain ⟨hcol2, ho7, hB7⟩ := HC.out
          exact ⟨k + 1, _, _, _, by omega, by go_num, hcol2.set (p := ⟨w1.heap.size, 2, none⟩) (Nat.lt_succ_self _) _, by simpa using ho7.set_ 2 (.slice (some ⟨g2, 0, none⟩) (k + 1) cap), hB7.setCell (p := ⟨w1.heap.size, 2, none⟩) (Nat.le_refl _) _⟩
        case measure => simp [intOf]; omega
    · obtain rfl : k = r.2.length := by omega
      have htk : ms.take r.2.length = ms := by rw [← HML.out, List.take_length]
      rw [htk] at hcol
      have n0 : wr.cell? ⟨w1.heap.size, 0, none⟩ = some (.int .i64 r.1.1) := ho.cell 0
      have n1 : wr.cell? ⟨w1.heap.size, 1, none⟩ = some (.slice A3 r.1.2.length c3) := ho.cell 1
      have k0 : wr.cell? ⟨w.heap.size + 1, 0, none⟩ = some (.int .i64 0) := yr.cell 0
      have k1 : wr.cell? ⟨w.heap.size + 1, 1, none⟩ = some (.slice none 0 0) := yr.cell 1
      have k2 : wr.cell? ⟨w.heap.size + 1, 2, none⟩ = some (.slice none 0 0) := yr.cell 2
      have j0 := yr.frozen 0
      have j1 := yr.frozen 1
      have j2 := yr.frozen 2
      have hlits := hcol.lits hcol.cap
      have hOI := O1.below hbe (Nat.le_refl _)
      obtain ⟨W, hW⟩ : ∃ W, W = ((wr.setCell ⟨w.heap.size + 1, 0, none⟩ (.int .i64 r.1.1)).setCell ⟨w.heap.size + 1, 1, none⟩ (.slice A3 r.1.2.length c3)).setCell ⟨w.heap.size + 1, 2, none⟩ (.slice A' r.2.length c') := ⟨_, rfl⟩
      have HY := Lib.hid (show Blk W (w.heap.size + 1) 63 #[.int .i64 r.1.1, .slice A3 r.1.2.length c3, .slice A' r.2.length c'] by rw [hW]; exact yr.set3 _ _ _)
      have BWW : Below w.heap.size w W := by
        rw [hW]
        exact (((BW.setCell (by simp) _).setCell (by simp) _).setCell (by simp) _)
      have hOW : OwnInts W (w.heap.size + 2) w1.heap.size (.slice A3 r.1.2.length c3) (r.1.2.map (look s)) := by
        rw [hW]
        exact hOI.set3 (by omega) _ _ _
      have hsW : W.heap.size = wr.heap.size := by rw [hW]; simp
      have hLW : OwnLits W (w1.heap.size + 1) wr.heap.size (.slice A' ms.length c') ms := by
        rw [hW]
        exact ((hlits.far (p := ⟨w.heap.size + 1, 0, none⟩) (by simp; omega) _).far (p := ⟨w.heap.size + 1, 1, none⟩) (by simp; omega) _).far (p := ⟨w.heap.size + 1, 2, none⟩) (by simp; omega) _
      have HF := Lib.hid (And.intro (hOW.mono (show w.heap.size ≤ w.heap.size + 2 by omega) (show w1.heap.size ≤ W.heap.size by have := hbe.size; omega)) (And.intro (hLW.mono (show w.heap.size ≤ w1.heap.size + 1 by omega) (show wr.heap.size ≤ W.heap.size by omega)) BWW))
      have HWW := Lib.hid hW
      clear hW hLW hsW hOW BWW hOI hlits hcol htk ho
      go_wp2_with (fail)
      rw [← HWW.out]
      have d0 : W.cell? ⟨w.heap.size + 1, 0, none⟩ = some (.int .i64 r.1.1) := HY.out.cell 0
      have d1 : W.cell? ⟨w.heap.size + 1, 1, none⟩ = some (.slice A3 r.1.2.length c3) := HY.out.cell 1
      have d2 : W.cell? ⟨w.heap.size + 1, 2, none⟩ = some (.slice A' r.2.length c') := HY.out.cell 2
      refine bodyPost_ret (v := .agg #[.int .i64 r.1.1, .slice A3 r.1.2.length c3, .slice A' r.2.length c']) (by simp [results, Try.results90, go_sem, d0, d1, d2]) rfl ?_
      obtain ⟨h1, h2, h3⟩ := HF.out
      refine ⟨_, _, A', c', rfl, h1, ?_, h3⟩
      have e2 : ms.length = r.2.length := HML.out
      rw [e2] at h2
      rw [HMS.out] at h2
      exact h2

end Go.Proofs.Ytgacdehbdhhbnaa
