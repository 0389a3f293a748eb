/-
  Texts that the claim's last one imports, laid together: part 3 of 4. No condition of its own.
-/
import Derived.Test.YtocpfmbieedpgaaMPr1
import Derived.Test.YtocpfmbieedpgaaMPb1
import Derived.Shelf.SlSortCmp.Whole1
import Derived.Shelf.Spec.SlicesGrow
import Derived.Shelf.LaySoft
import Derived.Shelf.Lay
import Derived.Test.YtocpfmbieedpgaaChecked
import Derived.Test.YtocpfmbieedpgaaMPb3
import Derived.Lib.AppendZerosOnto
import Derived.Shelf.RegionOpenPlain
import Derived.Sort.Grow
import Derived.Laws.IdiomCopy
import Derived.Test.YtocpfmbieedpgaaMPp1
import Derived.Test.YtocpfmbieedpgaaMPp2
/-
  A program drawn, one in twenty spoilt: the walk of l2Any (under way).
-/
namespace Go.Proofs.Ytocpfmbieedpgaa
open Go.RowKit

/-- l2Any while it spoils: the program's own block is D. -/
structure Pg3 (w wr : World) (D B g : Nat) (bs : List Nat) (q : Nat) (A : Option Addr) (c : Nat) (ar : List Int) (Ar : Option Addr) (cr : Nat) (es : List Ent) : Prop where
  res : Blk wr w.heap.size 132 #[.slice none 0 0, .slice none 0 0]
  prg : Blk wr D 132 #[.slice A ar.length c, .slice Ar es.length cr]
  own : OwnInts wr (w.heap.size + 1) B (.slice A ar.length c) ar
  rules : ColR B wr es Ar cr
  low : w.heap.size < B
  high : B ≤ D
  rdr : Rdr wr g bs q
  only : Only g (g + 1) w wr
section
variable {w wr w' w1 : World} {D g q B : Nat} {bs : List Nat} {A Ar : Option Addr} {c cr : Nat} {ar : List Int} {es : List Ent}
theorem Pg3.go (h : Pg3 w wr D B g bs q A c ar Ar cr es) (hg : g < w.heap.size) {q' : Nat} (hr : Rdr w' g bs q') (ho : Only g (g + 1) wr w') : Pg3 w w' D B g bs q' A c ar Ar cr es :=
  ⟨h.res.only ho (.inr (by omega)), h.prg.only ho (.inr (by have := h.low; have := h.high; omega)), h.own.only ho (.inr (by omega)), h.rules.only ho (by have := h.low; omega), h.low, h.high, hr, h.only.trans ho⟩
theorem Pg3.start (hg : g < w.heap.size) (hB : w.heap.size + 1 ≤ B) (hB2 : B ≤ w1.heap.size) (hw : w' = w1.alloc (.cells #[.slice A ar.length c, .slice Ar es.length cr] 132))
    (h1 : OwnInts w1 (w.heap.size + 1) B (.slice A ar.length c) ar) (h2 : ColR B w1 es Ar cr) (h3 : Rdr w1 g bs q) (h4 : Only g (g + 1) (w.alloc (.cells #[.slice none 0 0, .slice none 0 0] 132)) w1) : Pg3 w w' w1.heap.size B g bs q A c ar Ar cr es := by
  have hb : Below w1.heap.size w1 w' := by rw [hw]; exact below1 _ _
  refine ⟨((Blk.new w 132 #[.slice none 0 0, .slice none 0 0]).only h4 (.inr (by omega))).below hb (by omega), by rw [hw]; exact Blk.new _ _ _, h1.below hb hB2, h2.below hb, hB, hB2, h3.below hb h3.lt, ((Only.of_below (below1 w _)).trans h4).trans (Only.of_below hb)⟩
/-- A cell of the rules' row is set anew. -/
theorem Pg3.row {gr j : Nat} {v : Value} {es' : List Ent} (h : Pg3 w wr D B g bs q A c ar (some ⟨gr, 0, none⟩) cr es) (hg : g < w.heap.size) (hl : es'.length = es.length) (hc : ColR B (wr.setCell ⟨gr, j, none⟩ v) es' (some ⟨gr, 0, none⟩) cr) :
    Pg3 w (wr.setCell ⟨gr, j, none⟩ v) D B g bs q A c ar (some ⟨gr, 0, none⟩) cr es' := by
  have hk : ∀ k, k ≠ gr → (wr.setCell ⟨gr, j, none⟩ v).heap[k]? = wr.heap[k]? := fun k hk => Below.heap_setCell _ _ _ k hk
  have hb := (h.rules.row.lt gr rfl).1
  have hB := h.low
  have hne : gr ≠ D := fun e => blk_ne_own h.rules.row h.prg (by decide) (by simp [Value.ownBlock, e])
  refine ⟨(hk _ (by omega)).trans h.res, by rw [hl]; exact (hk _ (fun e => hne e.symm)).trans h.prg, h.own.keep fun k _ k2 => hk k (by omega), hc, hB, h.high, h.rdr.same fun k hk' => hk k (by omega), ⟨h.only.os, h.only.tape, h.only.output, by simpa using h.only.size, fun k hk' hn => (hk k (by omega)).trans (h.only.block k hk' hn)⟩⟩
/-- A place of the arity is set anew. -/
theorem Pg3.arity {ga j : Nat} (h : Pg3 w wr D B g bs q (some ⟨ga, 0, none⟩) c ar Ar cr es) (hg : g < w.heap.size) (hj : j < ar.length) (x : Int) : Pg3 w (wr.setCell ⟨ga, j, none⟩ (.int .i64 x)) D B g bs q (some ⟨ga, 0, none⟩) c (ar.set j x) Ar cr es := by
  have hb1 := (h.own.lt (g := ga) rfl).1
  have hb2 := (h.own.lt (g := ga) rfl).2.1
  have hB := h.high
  have hk : ∀ k, k ≠ ga → (wr.setCell ⟨ga, j, none⟩ (.int .i64 x)).heap[k]? = wr.heap[k]? := fun k hk => Below.heap_setCell _ _ _ k hk
  have hsz : (wr.setCell ⟨ga, j, none⟩ (.int .i64 x)).heap.size = wr.heap.size := by simp
  have hl : (ar.set j x).length = ar.length := by simp
  refine ⟨(hk _ (by omega)).trans h.res, ?_, ?_, h.rules.keep (by rw [hsz]; exact Nat.le_refl _) (fun k k1 _ => hk k (by omega)), h.low, h.high, h.rdr.same fun k hk' => hk k (by omega), ⟨h.only.os, h.only.tape, h.only.output, by rw [hsz]; exact h.only.size, fun k hk' hn => (hk k (by omega)).trans (h.only.block k hk' hn)⟩⟩
  · rw [hl]
    exact (hk _ (by omega)).trans h.prg
  · rw [hl]
    exact h.own.store rfl hj x
end
/-- l2Any once it has spoilt. -/
structure Pg4 (w wr : World) (D B g : Nat) (bs : List Nat) (q : Nat) (A : Option Addr) (c : Nat) (ar : List Int) (Ar : Option Addr) (cr : Nat) (es : List Ent) : Prop where
  res : Blk wr w.heap.size 132 #[.slice none 0 0, .slice none 0 0]
  prg : Blk wr D 132 #[.slice A ar.length c, .slice Ar es.length cr]
  own : OwnInts wr (w.heap.size + 1) B (.slice A ar.length c) ar
  rules : RowR B wr es Ar cr
  low : w.heap.size < B
  high : B ≤ D
  rdr : Rdr wr g bs q
  only : Only g (g + 1) w wr
theorem Pg3.four {w wr : World} {D B g : Nat} {bs : List Nat} {q : Nat} {A : Option Addr} {c : Nat} {ar : List Int} {Ar : Option Addr} {cr : Nat} {es : List Ent} (h : Pg3 w wr D B g bs q A c ar Ar cr es) : Pg4 w wr D B g bs q A c ar Ar cr es :=
  ⟨h.res, h.prg, h.own, h.rules.out, h.low, h.high, h.rdr, h.only⟩
section
variable {w wr w' w1 : World} {D g q B : Nat} {bs : List Nat} {A Ar : Option Addr} {c cr : Nat} {ar : List Int} {es : List Ent}
/-- The result is laid. -/
theorem Pg4.done (h : Pg4 w wr D B g bs q A c ar Ar cr es) (hg : g < w.heap.size) (hw : w' = (wr.setCell ⟨w.heap.size, 0, none⟩ (.slice A ar.length c)).setCell ⟨w.heap.size, 1, none⟩ (.slice Ar es.length cr)) :
    w.heap.size ≤ B ∧ B ≤ w'.heap.size ∧ OwnInts w' w.heap.size B (.slice A ar.length c) ar ∧ RowR B w' es Ar cr ∧ Rdr w' g bs q ∧ Only g (g + 1) w w' ∧ Blk w' w.heap.size 132 #[.slice A ar.length c, .slice Ar es.length cr] := by
  have hk : ∀ k, k ≠ w.heap.size → w'.heap[k]? = wr.heap[k]? := fun k hk => by
    rw [hw]
    exact (Below.heap_setCell _ _ _ k hk).trans (Below.heap_setCell _ _ _ k hk)
  have hsz : w'.heap.size = wr.heap.size := by rw [hw]; simp
  have hB := h.low
  have hH := h.high
  have hD := h.prg.lt
  refine ⟨by omega, by omega, (h.own.keep fun k k1 _ => hk k (by omega)).mono (Nat.le_succ _) (Nat.le_refl _), h.rules.keep (by rw [hsz]; exact Nat.le_refl _) (fun k k1 _ => hk k (by omega)), h.rdr.same fun k hk' => hk k (by omega), ⟨?_, ?_, ?_, by rw [hsz]; exact h.only.size, fun k hk' hn => (hk k (by omega)).trans (h.only.block k hk' hn)⟩, ?_⟩
  · rw [hw]; exact h.only.os
  · rw [hw]; exact h.only.tape
  · rw [hw]; exact h.only.output
  · have := (h.res.set_ 0 (.slice A ar.length c)).set_ 1 (.slice Ar es.length cr)
    rw [hw]
    simpa using this
/-- What an append to a head keeps. -/
theorem Pg3.kept {wn w5 : World} {gr i : Nat} {o : Obj} {lo mid hi : Nat → Nat} (h : Pg3 w wn D B g bs q A c ar (some ⟨gr, 0, none⟩) cr es)
    (q1 : ∀ i (h : i < es.length), EntAt B wn (some gr) es[i] (lo i) (mid i) (hi i)) (hi' : i < es.length)
    (hgr : (wn.alloc o).grownBy w5 es[i].2.1.ownBlock) : w5.heap[gr]? = wn.heap[gr]? ∧ w5.heap[D]? = wn.heap[D]? := by
  have hg2 := grown_from_alloc hgr
  have X := q1 i hi'
  refine ⟨hg2.block gr (h.rules.row.lt gr rfl).2 (fun e => ?_), hg2.block D h.prg.lt (fun e => blk_ne_own X.head.1 h.prg (by decide) e.symm)⟩
  have h1 := X.head.lt e.symm
  have h2 := X.off gr rfl
  have h3 := X.mh
  omega
/-- A head is one longer. -/
theorem Pg3.longer {wn w5 w6 : World} {gr g2 i cap : Nat} {o : Obj} {lo mid hi : Nat → Nat} {xs : List Int} {x : Int} (h : Pg3 w wn D B g bs q A c ar (some ⟨gr, 0, none⟩) cr es) (hgl : g < w.heap.size)
    (q1 : ∀ i (h : i < es.length), EntAt B wn (some gr) es[i] (lo i) (mid i) (hi i)) (q2 : ∀ i j, i < j → j < es.length → hi i ≤ lo j) (hi' : i < es.length) (hxs : xs = es[i].1.1.2 ++ [x])
    (hgr : (wn.alloc o).grownBy w5 es[i].2.1.ownBlock) (hat : es[i].2.1.ownBlock = some g2 ∨ g2 = (wn.alloc o).heap.size)
    (hown : w5.ownsRow (lo i) 3 1 (.slice (some ⟨g2, 0, none⟩) xs.length cap) xs.length (xs.map (Value.int .i64)))
    (hw : w6 = w5.setCell ⟨gr, i * 3 + 1, none⟩ (.slice (some ⟨g2, 0, none⟩) xs.length cap)) :
    Pg4 w w6 D B g bs q A c ar (some ⟨gr, 0, none⟩) cr (es.set i (((es[i].1.1.1, xs), es[i].1.2), .slice (some ⟨g2, 0, none⟩) xs.length cap, es[i].2.2)) := by
  have hg2 := grown_from_alloc hgr
  have hR := ColR.longer h.rules.row q1 q2 hi' hxs hg2 (hat.imp id fun e => by rw [e]; simp) rfl hown hw
  have X := q1 i hi'
  have hB := h.low
  have hH := h.high
  have hrow := h.rules.row.lt gr rfl
  have hob : ∀ b, es[i].2.1.ownBlock = some b → B ≤ b := fun b hb => by have := (X.head.lt hb).1; have := X.low; omega
  have hk : ∀ k, k < wn.heap.size → k ≠ gr → es[i].2.1.ownBlock ≠ some k → w6.heap[k]? = wn.heap[k]? := fun k h1 h2 h3 => by
    rw [hw]
    exact (Below.heap_setCell _ _ _ k h2).trans (hg2.block k h1 (fun e => h3 e.symm))
  have hlow : ∀ k, k < B → w6.heap[k]? = wn.heap[k]? := fun k h1 => hk k (by omega) (by omega) (fun e => by have := hob k e; omega)
  have hsz : wn.heap.size ≤ w6.heap.size := by rw [hw]; simpa using hg2.size
  have hl : (es.set i (((es[i].1.1.1, xs), es[i].1.2), Value.slice (some ⟨g2, 0, none⟩) xs.length cap, es[i].2.2)).length = es.length := by simp
  refine ⟨(hlow _ (by omega)).trans h.res, ?_, h.own.keep fun k _ k2 => hlow k k2, hR, hB, hH, h.rdr.same fun k hk' => hlow k (by omega), ⟨?_, ?_, ?_, Nat.le_trans h.only.size hsz, fun k hk' hn => (hlow k (by omega)).trans (h.only.block k hk' hn)⟩⟩
  · rw [hl]
    exact (hk D h.prg.lt (fun e => blk_ne_own h.rules.row h.prg (by decide) (by simp [Value.ownBlock, e])) (blk_ne_own X.head.1 h.prg (by decide))).trans h.prg
  · rw [hw]; exact hg2.os.trans h.only.os
  · rw [hw]; exact hg2.tape.trans h.only.tape
  · rw [hw]; exact hg2.output.trans h.only.output
end

/-- A drawn program's bounds. -/
def AnyOk (ar : List Int) (es : List Ent) : Prop := 4 ≤ ar.length ∧ ar.length ≤ 5 ∧ (∀ x ∈ ar, 0 ≤ x ∧ x ≤ 3) ∧ 1 ≤ es.length ∧ es.length ≤ 4 ∧ ∀ e ∈ es, e.1.1.2.length ≤ 3 ∧ e.1.2.length ≤ 4 ∧ totL e.1.2 ≤ 8 ∧ KindsOk e.1.2

set_option maxHeartbeats 4000000 in
set_option maxRecDepth 100000 in
theorem l2Any_any (g : Nat) (bs : List Nat) (p : Nat) (no : Int) (w : World) (h : Rdr w g bs p) (hp : p ≤ 900000) :
    Calls Try.prog 119 #[.pointer (some ⟨g, 0, none⟩), .int .i64 no] w fun e w' => ∃ (A Ar : Option Addr) (c cr B q : Nat) (ar : List Int) (es : List Ent), e = .returned (.agg #[.slice A ar.length c, .slice Ar es.length cr]) ∧ AnyOk ar es ∧ q ≤ p + 1700 ∧
      w.heap.size ≤ B ∧ B ≤ w'.heap.size ∧ OwnInts w' w.heap.size B (.slice A ar.length c) ar ∧ RowR B w' es Ar cr ∧ Rdr w' g bs q ∧ Only g (g + 1) w w' := by
  obtain ⟨i0, hi0, hz0, hz1, hz2⟩ := info_parts Try.infoInt
  have hgl := h.lt
  have H := Lib.hid h
  clear h
  go_enter Try.func119, Try.ntmps119
  go_wp2_with (fail)
  refine (l2Program_any g bs p no _ (H.out.below (below1 w (.cells #[.slice none 0 0, .slice none 0 0] 132)) H.out.lt) (by omega)).mono ?_
  rintro e w1 ⟨A, Ar, c, cr, B, q, ar, es, rfl, hl4, hl5, har, hes1, hes4, hes, hq, hB, hB2, h1, h2, h3, h4⟩
  have HES2 := Lib.hid (show ∀ e ∈ es, e.1.1.2.length ≤ 2 from fun e he => (hes e he).1)
  have HOK := Lib.hid (show AnyOk ar es from ⟨hl4, hl5, fun x hx => by have := har x hx; omega, hes1, hes4, fun e he => ⟨by have := (hes e he).1; omega, (hes e he).2⟩⟩)
  simp only [World.size_alloc] at hB h1
  have HQ := Lib.hid (And.intro hB (And.intro hB2 (And.intro h1 (And.intro h2 (And.intro h3 h4)))))
  clear hB hB2 h1 h2 h3 h4 har hes
  go_upto_region 2 with (fail)
  obtain ⟨wS, hwS⟩ : ∃ wS, wS = w1.alloc (.cells #[.slice A ar.length c, .slice Ar es.length cr] 132) := ⟨_, rfl⟩
  have H1 := Lib.hid (Pg3.start hgl HQ.out.1 HQ.out.2.1 hwS HQ.out.2.2.1 HQ.out.2.2.2.1 HQ.out.2.2.2.2.1 HQ.out.2.2.2.2.2)
  rw [← hwS]
  clear hwS HQ
  obtain ⟨D, hD⟩ : ∃ D, D = w1.heap.size := ⟨_, rfl⟩
  rw [← hD] at H1 ⊢
  clear hD
  have hDw : w.heap.size < D := Nat.lt_of_lt_of_le H1.out.low H1.out.high
  go_wp2_with (fail)
  refine (pick_any g bs q 20 _ H1.out.rdr (by omega) (by omega)).mono ?_
  rintro e w3 ⟨⟨z, rfl, _⟩, hp3⟩
  have H3 := Lib.hid (H1.out.go hgl hp3.1 hp3.2)
  clear hp3
  by_cases hz : z = 0
  · have hzb : (z == 0) = true := by simp [hz]
    clear hz
    have k0 : w3.cell? ⟨D, 0, none⟩ = some (.slice A ar.length c) := H3.out.prg.cell 0
    have k1 : w3.cell? ⟨D, 1, none⟩ = some (.slice Ar es.length cr) := H3.out.prg.cell 1
    go_wp2_with (fail)
    refine (pick_any g bs (q + 1) es.length _ H3.out.rdr (by omega) (by omega)).mono ?_
    rintro e w4 ⟨⟨i, rfl, hi⟩, hp4⟩
    have hir : 0 ≤ i ∧ i < es.length := hi.1 (by omega)
    obtain ⟨i, rfl⟩ : ∃ j : Nat, i = (j : Int) := ⟨i.toNat, by omega⟩
    have H4 := Lib.hid (H3.out.go hgl hp4.1 hp4.2)
    clear hp4 hi k0 k1 H3 H1
    go_wp2_with (fail)
    refine (pick_any g bs (q + 1 + 1) 4 _ H4.out.rdr (by omega) (by omega)).mono ?_
    rintro e w5 ⟨⟨kk, rfl, hkk⟩, hp5⟩
    have hkr : 0 ≤ kk ∧ kk < 4 := hkk.1 (by omega)
    have H5 := Lib.hid (H4.out.go hgl hp5.1 hp5.2)
    clear hp5 hkk H4
    obtain ⟨gr, hgr, hgr1, hgr2⟩ := H5.out.rules.form (by omega)
    subst hgr
    have k0 : w5.cell? ⟨D, 0, none⟩ = some (.slice A ar.length c) := H5.out.prg.cell 0
    have k1 : w5.cell? ⟨D, 1, none⟩ = some (.slice (some ⟨gr, 0, none⟩) es.length cr) := H5.out.prg.cell 1
    by_cases hk0 : kk = 0
    · have hb0 : (kk == 0) = true := by simp [hk0]
      clear hk0
      have hi2 : i < es.length := by omega
      have hib : decide ((i : Int) < (es.length : Int)) = true := by simp; omega
      obtain ⟨SS, hSS⟩ : ∃ SS : World → Prop, SS = (fun W => W.cell? ⟨D, 0, none⟩ = some (.slice A ar.length c) ∧ W.cell? ⟨D, 1, none⟩ = some (.slice (some ⟨gr, 0, none⟩) es.length cr)) := ⟨_, rfl⟩
      have HB := Lib.hid (show ∀ W, SS W → W.cell? ⟨D, 0, none⟩ = some (.slice A ar.length c) ∧ W.cell? ⟨D, 1, none⟩ = some (.slice (some ⟨gr, 0, none⟩) es.length cr) from by rw [hSS]; exact fun W hW => hW)
      have HC := Lib.hid (show ∀ W (q : Nat), Pg3 w W D B g bs q A c ar (some ⟨gr, 0, none⟩) cr es → SS W from by rw [hSS]; exact fun W q hW => ⟨hW.prg.cell 0, hW.prg.cell 1⟩)
      clear hSS
      go_upto_region 6 with (fail)
      have HRd := Lib.hid (H5.out.go hgl (H5.out.rdr.below (Below.refl _ _).drew H5.out.rdr.lt) (Only.of_below (Below.refl _ _).drew))
      have SB := HC.out _ _ HRd.out
      have HX7 := Lib.hid (HRd.out.go hgl (HRd.out.rdr.below (below1 w5.drew (.cells #[.int .i64 (-1), .int .i64 (ar.length : Int)] 3)) HRd.out.rdr.lt) (Only.of_below (below1 w5.drew (.cells #[.int .i64 (-1), .int .i64 (ar.length : Int)] 3))))
      refine wp_region_rel SS 12 13 (by kernel_rfl) rfl ?_
      refine wpAnyR_pure (i := 0) (oi := _) ?v0 rfl rfl (by kernel_rfl) (by decide) (fun _ _ _ h => h) rfl ?hy0 (fun _ => SB) ?rest0
      case hy0 => (intro W; go_simp; (try with_reducible rfl))
      try simp only [List.setIfInBounds_toArray, List.set_cons_zero, List.set_cons_succ]
      refine wpAnyR_pure (i := 2) (oi := _) ?v2 rfl rfl (by kernel_rfl) (by decide) (fun _ _ _ h => h) rfl ?hy2 (fun _ => SB) ?rest2
      case hy2 => (intro W; go_simp; (try with_reducible rfl))
      try simp only [List.setIfInBounds_toArray, List.set_cons_zero, List.set_cons_succ]
      refine wpAnyR_pure (i := 3) (oi := _) ?v3 rfl rfl (by kernel_rfl) (by decide) (fun _ _ _ h => h) rfl ?hy3 (fun _ => SB) ?rest3
      case hy3 => (intro W; go_simp; (try with_reducible rfl))
      try simp only [List.setIfInBounds_toArray, List.set_cons_zero, List.set_cons_succ]
      refine wpAnyR_pure (i := 4) (oi := _) ?v4 rfl rfl (by kernel_rfl) (by decide) (fun _ _ _ h => h) rfl ?hy4 (fun _ => SB) ?rest4
      case hy4 => (intro W; go_simp; (try with_reducible rfl))
      try simp only [List.setIfInBounds_toArray, List.set_cons_zero, List.set_cons_succ]
      refine wpAnyR_take (i := 1) (oi := _) ?v1 rfl rfl (by kernel_rfl) (fun _ _ _ h => h) rfl ?hy1 SB ?rest1
      case hy1 => (intro W hW; obtain ⟨E0, E1⟩ := HB.out W hW; go_simp; (try with_reducible rfl))
      try simp only [List.setIfInBounds_toArray, List.set_cons_zero, List.set_cons_succ]
      refine wpAnyR_take (i := 5) (oi := _) ?v5 rfl rfl (by kernel_rfl) (fun _ _ _ h => h) rfl ?hy5 SB ?rest5
      case hy5 => (intro W hW; obtain ⟨E0, E1⟩ := HB.out W hW; go_simp; (try with_reducible rfl))
      try simp only [List.setIfInBounds_toArray, List.set_cons_zero, List.set_cons_succ]
      refine wpAnyR_pure (i := 6) (oi := _) ?v6 rfl rfl (by kernel_rfl) (by decide) (fun _ _ _ h => h) rfl ?hy6 (fun _ => SB) ?rest6
      case hy6 => (intro W; go_simp; (try with_reducible rfl))
      try simp only [List.setIfInBounds_toArray, List.set_cons_zero, List.set_cons_succ]
      refine wpAnyR_one (i := 7) (by kernel_rfl) rfl (fun K hK => ?_)
      try rw [if_pos (show Region.wanted _ _ = true from rfl)]
      go_simp
      refine hK.out _ _ (fun _ => HC.out _ _ HX7.out) ?_
      clear hK K
      try simp only [List.setIfInBounds_toArray, List.set_cons_zero, List.set_cons_succ, Act.put]
      refine wpAnyR_one (i := 8) (by kernel_rfl) rfl (fun K hK => ?_)
      try rw [if_pos (show Region.wanted _ _ = true from rfl)]
      go_simp
      refine (num_any g bs _ _ _ [-1, (ar.length : Int)] 2 _ HX7.out.rdr (by omega) (Blk.new _ _ _) rfl (by have := HX7.out.rdr.lt; have := H5.out.only.size; show w5.heap.size ≠ g; omega) rfl (by simp) (by simp)).mono ?_
      rintro e wn ⟨⟨x, rfl, _⟩, hpn⟩
      have Hn := Lib.hid (HX7.out.go hgl hpn.1 hpn.2)
      clear hpn
      obtain ⟨c0, c1, c2⟩ := flatEnt_at es i hi2
      have r2 := World.ownsRow.cells Hn.out.rules.row (g := gr) rfl _ _ c0
      rw [Go.WideShapes.add_plain, Nat.zero_add] at r2
      have r3 := Hn.out.rules.row.frozenAt (i * 3)
      clear c0 c1 c2
      refine hK.out _ _ (fun _ => HC.out _ _ Hn.out) ?_
      clear hK K
      try simp only [List.setIfInBounds_toArray, List.set_cons_zero, List.set_cons_succ, Act.put]
      refine wpAnyR_one (i := 9) (by kernel_rfl) rfl (fun K hK => ?_)
      try rw [if_pos (show Region.wanted _ _ = true from rfl)]
      go_simp
      refine hK.out _ _ (fun _ => HC.out _ _ Hn.out) ?_
      clear hK K
      try simp only [List.setIfInBounds_toArray, List.set_cons_zero, List.set_cons_succ, Act.put]
      refine wpAnyR_pure (i := 10) (oi := _) ?v10 rfl rfl (by kernel_rfl) (by decide) (fun _ _ _ h => h) rfl ?hy10 (fun _ => HC.out _ _ Hn.out) ?rest10
      case hy10 => (intro W; go_simp; (try with_reducible rfl))
      try simp only [List.setIfInBounds_toArray, List.set_cons_zero, List.set_cons_succ]
      refine wpAnyR_pure (i := 11) (oi := _) ?v11 rfl rfl (by kernel_rfl) (by decide) (fun _ _ _ h => h) rfl ?hy11 (fun _ => HC.out _ _ Hn.out) ?rest11
      case hy11 => (intro W; go_simp; (try with_reducible rfl))
      try simp only [List.setIfInBounds_toArray, List.set_cons_zero, List.set_cons_succ]
      refine wpAnyR_one (i := 12) (by kernel_rfl) rfl (fun K hK => ?_)
      go_simp
      refine hK.out _ _ (fun hf => absurd hf (by decide)) ?_
      clear hK K
      refine wpAnyR_done (by kernel_rfl) ?_
      obtain ⟨es2, hes2⟩ : ∃ es2, es2 = es.set i (((x, es[i].1.1.2), es[i].1.2), es[i].2) := ⟨_, rfl⟩
      obtain ⟨w6, hw6⟩ : ∃ w6, w6 = wn.setCell ⟨gr, i * 3, none⟩ (.int .i64 x) := ⟨_, rfl⟩
      have hl2 : es.length = es2.length := by rw [hes2]; simp
      have HC6 := Hn.out.rules.setPred hi2 x
      rw [← hes2] at HC6
      have H6 := Lib.hid (Hn.out.row hgl hl2.symm HC6)
      have HO6 := Lib.hid (show AnyOk ar es2 from by
        obtain ⟨a1, a2, a3, a4, a5, a6⟩ := HOK.out
        refine ⟨a1, a2, a3, by omega, by omega, fun e he => ?_⟩
        rw [hes2] at he
        rcases List.mem_or_eq_of_mem_set he with he | rfl
        · exact a6 e he
        · exact a6 es[i] (List.getElem_mem hi2))
      rw [← hw6] at H6 ⊢
      rw [hl2] at k1 ⊢
      clear HC6 hw6 hes2 hl2 r2 r3 k0 k1
      have k0 : w6.cell? ⟨D, 0, none⟩ = some (.slice A ar.length c) := H6.out.prg.cell 0
      have k1 : w6.cell? ⟨D, 1, none⟩ = some (.slice (some ⟨gr, 0, none⟩) es2.length cr) := H6.out.prg.cell 1
      have j0 : w6.cell? ⟨w.heap.size, 0, none⟩ = some (.slice none 0 0) := H6.out.res.cell 0
      have j1 : w6.cell? ⟨w.heap.size, 1, none⟩ = some (.slice none 0 0) := H6.out.res.cell 1
      have l0 := H6.out.res.frozen 0
      have l1 := H6.out.res.frozen 1
      go_wp2_with (fail)
      obtain ⟨W, hW⟩ : ∃ W, W = (w6.setCell ⟨w.heap.size, 0, none⟩ (.slice A ar.length c)).setCell ⟨w.heap.size, 1, none⟩ (.slice (some ⟨gr, 0, none⟩) es2.length cr) := ⟨_, rfl⟩
      rw [← hW]
      obtain ⟨f1, f2, f3, f4, f5, f6, f7⟩ := H6.out.four.done hgl hW
      have d0 := f7.cell 0
      have d1 := f7.cell 1
      refine bodyPost_ret (v := .agg #[.slice A ar.length c, .slice (some ⟨gr, 0, none⟩) es2.length cr]) (by simp [results, Try.results119, go_sem, d0, d1]) rfl ?_
      exact ⟨A, some ⟨gr, 0, none⟩, c, cr, B, q + 1 + 1 + 1 + 1, ar, es2, rfl, HO6.out, by omega, f1, f2, f3, f4, f5, f6⟩
    · have hb0 : (kk == 0) = false := by simp [hk0]
      by_cases hk1 : kk = 1
      · have hb1 : (kk == 1) = true := by simp [hk1]
        clear hk0 hk1
        have hib : decide ((i : Int) < (es.length : Int)) = true := by simp; omega
        have hi2 : i < es.length := by omega
        obtain ⟨c0, c1, c2⟩ := flatEnt_at es i hi2
        have r2 := World.ownsRow.cells H5.out.rules.row (g := gr) rfl _ _ c2
        rw [Go.WideShapes.add_plain, Nat.zero_add] at r2
        have r3 := H5.out.rules.row.frozenAt (i * 3 + 2)
        clear c0 c1 c2
        go_upto_region 12 with (fail)
        obtain ⟨es2, hes2⟩ : ∃ es2, es2 = es.set i ((es[i].1.1, []), es[i].2.1, .slice none 0 0) := ⟨_, rfl⟩
        obtain ⟨w6, hw6⟩ : ∃ w6, w6 = w5.setCell ⟨gr, i * 3 + 2, none⟩ (.slice none 0 0) := ⟨_, rfl⟩
        have hl2 : es.length = es2.length := by rw [hes2]; simp
        have HC6 := H5.out.rules.setBody hi2
        rw [← hes2] at HC6
        have H6 := Lib.hid (H5.out.row hgl hl2.symm HC6)
        have HO6 := Lib.hid (show AnyOk ar es2 from by
          obtain ⟨a1, a2, a3, a4, a5, a6⟩ := HOK.out
          refine ⟨a1, a2, a3, by omega, by omega, fun e he => ?_⟩
          rw [hes2] at he
          rcases List.mem_or_eq_of_mem_set he with he | rfl
          · exact a6 e he
          · exact ⟨(a6 _ (List.getElem_mem hi2)).1, by simp, by simp [totL], KindsOk.nil⟩)
        rw [← hw6] at H6 ⊢
        rw [hl2] at k1 ⊢
        clear HC6 hw6 hes2 hl2 r2 r3 k0 k1
        have k0 : w6.cell? ⟨D, 0, none⟩ = some (.slice A ar.length c) := H6.out.prg.cell 0
        have k1 : w6.cell? ⟨D, 1, none⟩ = some (.slice (some ⟨gr, 0, none⟩) es2.length cr) := H6.out.prg.cell 1
        have j0 : w6.cell? ⟨w.heap.size, 0, none⟩ = some (.slice none 0 0) := H6.out.res.cell 0
        have j1 : w6.cell? ⟨w.heap.size, 1, none⟩ = some (.slice none 0 0) := H6.out.res.cell 1
        have l0 := H6.out.res.frozen 0
        have l1 := H6.out.res.frozen 1
        go_wp2_with (fail)
        obtain ⟨W, hW⟩ : ∃ W, W = (w6.setCell ⟨w.heap.size, 0, none⟩ (.slice A ar.length c)).setCell ⟨w.heap.size, 1, none⟩ (.slice (some ⟨gr, 0, none⟩) es2.length cr) := ⟨_, rfl⟩
        rw [← hW]
        obtain ⟨f1, f2, f3, f4, f5, f6, f7⟩ := H6.out.four.done hgl hW
        have d0 := f7.cell 0
        have d1 := f7.cell 1
        refine bodyPost_ret (v := .agg #[.slice A ar.length c, .slice (some ⟨gr, 0, none⟩) es2.length cr]) (by simp [results, Try.results119, go_sem, d0, d1]) rfl ?_
        exact ⟨A, some ⟨gr, 0, none⟩, c, cr, B, q + 1 + 1 + 1, ar, es2, rfl, HO6.out, by omega, f1, f2, f3, f4, f5, f6⟩
      · have hb1 : (kk == 1) = false := by simp [hk1]
        by_cases hk2 : kk = 2
        · have hb2 : (kk == 2) = true := by simp [hk2]
          clear hk0 hk1 hk2
          obtain ⟨ga, rfl⟩ : ∃ ga, A = some ⟨ga, 0, none⟩ := by
            obtain ⟨g2, cap, e, _⟩ := H5.out.own.1.form (by omega)
            injection e with e1 _ _
            exact ⟨g2, e1⟩
          obtain ⟨m, hm, hm2⟩ : ∃ m : Nat, IntKind.i64.wrap ((ar.length : Int) - 1) = (m : Int) ∧ m < ar.length := ⟨ar.length - 1, by unfold IntKind.wrap; simp [IntKind.bits, IntKind.signed]; omega, by omega⟩
          have k0 : w5.cell? ⟨D, 0, none⟩ = some (.slice (some ⟨ga, 0, none⟩) ar.length c) := H5.out.prg.cell 0
          have a0 : w5.cell? ⟨ga, m, none⟩ = some (.int .i64 (ar[m]'hm2)) := by rw [H5.out.own.1.cellAt m (by omega)]; simp [hm2]
          have a1 := H5.out.own.1.frozenAt m
          have hmb : decide ((m : Int) < (ar.length : Int)) = true := by simp; omega
          go_upto_region 12 with (fail)
          obtain ⟨ar2, har2⟩ : ∃ ar2, ar2 = ar.set m (3 : Int) := ⟨_, rfl⟩
          obtain ⟨w6, hw6⟩ : ∃ w6, w6 = w5.setCell ⟨ga, m, none⟩ (.int .i64 3) := ⟨_, rfl⟩
          have H6 := Lib.hid (H5.out.arity hgl hm2 3)
          have HO6 := Lib.hid (show AnyOk ar2 es from by
            obtain ⟨a1, a2, a3, a4, a5, a6⟩ := HOK.out
            refine ⟨by rw [har2]; simpa using a1, by rw [har2]; simpa using a2, fun x hx => ?_, a4, a5, a6⟩
            rw [har2] at hx
            rcases List.mem_or_eq_of_mem_set hx with hx | rfl
            · exact a3 x hx
            · omega)
          rw [← hw6, ← har2] at H6
          rw [← hw6]
          clear hw6 har2 a0 a1 k0 k1
          have k0 : w6.cell? ⟨D, 0, none⟩ = some (.slice (some ⟨ga, 0, none⟩) ar2.length c) := H6.out.prg.cell 0
          have k1 : w6.cell? ⟨D, 1, none⟩ = some (.slice (some ⟨gr, 0, none⟩) es.length cr) := H6.out.prg.cell 1
          have j0 : w6.cell? ⟨w.heap.size, 0, none⟩ = some (.slice none 0 0) := H6.out.res.cell 0
          have j1 : w6.cell? ⟨w.heap.size, 1, none⟩ = some (.slice none 0 0) := H6.out.res.cell 1
          have l0 := H6.out.res.frozen 0
          have l1 := H6.out.res.frozen 1
          go_wp2_with (fail)
          obtain ⟨W, hW⟩ : ∃ W, W = (w6.setCell ⟨w.heap.size, 0, none⟩ (.slice (some ⟨ga, 0, none⟩) ar2.length c)).setCell ⟨w.heap.size, 1, none⟩ (.slice (some ⟨gr, 0, none⟩) es.length cr) := ⟨_, rfl⟩
          rw [← hW]
          obtain ⟨f1, f2, f3, f4, f5, f6, f7⟩ := H6.out.four.done hgl hW
          have d0 := f7.cell 0
          have d1 := f7.cell 1
          refine bodyPost_ret (v := .agg #[.slice (some ⟨ga, 0, none⟩) ar2.length c, .slice (some ⟨gr, 0, none⟩) es.length cr]) (by simp [results, Try.results119, go_sem, d0, d1]) rfl ?_
          exact ⟨some ⟨ga, 0, none⟩, some ⟨gr, 0, none⟩, c, cr, B, q + 1 + 1 + 1, ar2, es, rfl, HO6.out, by omega, f1, f2, f3, f4, f5, f6⟩
        · have hk3 : kk = 3 := by omega
          have hb2 : (kk == 2) = false := by simp [hk3]
          clear hk0 hk1 hk2 hk3
          have hi2 : i < es.length := by omega
          have hib : decide ((i : Int) < (es.length : Int)) = true := by simp; omega
          have HRd := Lib.hid (H5.out.go hgl (H5.out.rdr.below (Below.refl _ _).drew H5.out.rdr.lt) (Only.of_below (Below.refl _ _).drew))
          obtain ⟨lo, mid, hi, q1, q2⟩ := HRd.out.rules.own
          have HQ := Lib.hid (And.intro q1 q2)
          obtain ⟨A1, c1, hv1⟩ := (q1 i hi2).head.form
          have HV1 := Lib.hid hv1
          have hl1 : es[i].1.1.2.length ≤ 2 := HES2.out _ (List.getElem_mem hi2)
          obtain ⟨xs, hxs⟩ : ∃ xs, xs = es[i].1.1.2 := ⟨_, rfl⟩
          have HXS := Lib.hid hxs
          rw [← hxs] at hv1 hl1
          obtain ⟨c0, c1', c2⟩ := flatEnt_at es i hi2
          have r2 := World.ownsRow.cells HRd.out.rules.row (g := gr) rfl _ _ c1'
          rw [Go.WideShapes.add_plain, Nat.zero_add, hv1] at r2
          have r3 := HRd.out.rules.row.frozenAt (i * 3 + 1)
          obtain ⟨bl, hbl⟩ : ∃ bl, bl = lo i := ⟨_, rfl⟩
          have HBL := Lib.hid hbl
          have HOW := Lib.hid (show w5.drew.ownsRow bl 3 1 (.slice A1 xs.length c1) xs.length (xs.map (Value.int .i64)) by rw [hbl, ← hv1, hxs]; exact (q1 i hi2).head.1)
          have hblB : B ≤ bl := by rw [hbl]; exact (q1 i hi2).low
          have hblw : bl ≤ w5.heap.size := by rw [hbl]; have := (q1 i hi2).lm; have := (q1 i hi2).mh; have h9 := (q1 i hi2).high; rw [World.size_drew] at h9; omega
          clear q1 q2 hv1 hxs c0 c1' c2 hbl
          obtain ⟨SS, hSS⟩ : ∃ SS : World → Prop, SS = (fun W => W.cell? ⟨D, 1, none⟩ = some (.slice (some ⟨gr, 0, none⟩) es.length cr) ∧ W.cell? ⟨gr, i * 3 + 1, none⟩ = some (.slice A1 xs.length c1)) := ⟨_, rfl⟩
          have HB := Lib.hid (show ∀ W, SS W → W.cell? ⟨D, 1, none⟩ = some (.slice (some ⟨gr, 0, none⟩) es.length cr) ∧ W.cell? ⟨gr, i * 3 + 1, none⟩ = some (.slice A1 xs.length c1) from by rw [hSS]; exact fun W hW => hW)
          have HC := Lib.hid (show ∀ W, W.cell? ⟨D, 1, none⟩ = some (.slice (some ⟨gr, 0, none⟩) es.length cr) → W.cell? ⟨gr, i * 3 + 1, none⟩ = some (.slice A1 xs.length c1) → SS W from by rw [hSS]; exact fun W h1 h2 => ⟨h1, h2⟩)
          clear hSS
          go_upto_region 11 with (fail)
          have SB := HC.out w5.drew (HRd.out.prg.cell 1) r2
          have HX0 := Lib.hid (HRd.out.go hgl (HRd.out.rdr.below (below1 w5.drew (.cells #[.int .i64 0] 3)) HRd.out.rdr.lt) (Only.of_below (below1 w5.drew (.cells #[.int .i64 0] 3))))
          have r4 : (w5.drew.alloc (.cells #[.int .i64 0] 3)).cell? ⟨gr, i * 3 + 1, none⟩ = some (.slice A1 xs.length c1) := ((below1 w5.drew _).cell (World.block_lt_of_cell? _ _ r2)).trans r2
          refine wp_region_rel SS 15 16 (by kernel_rfl) rfl ?_
          refine wpAnyR_pure (i := 0) (oi := _) ?y0 rfl rfl (by kernel_rfl) (by decide) (fun _ _ _ h => h) rfl ?gy0 (fun _ => SB) ?rust0
          case gy0 => (intro W; go_simp; (try with_reducible rfl))
          try simp only [List.setIfInBounds_toArray, List.set_cons_zero, List.set_cons_succ]
          refine wpAnyR_pure (i := 2) (oi := _) ?y2 rfl rfl (by kernel_rfl) (by decide) (fun _ _ _ h => h) rfl ?gy2 (fun _ => SB) ?rust2
          case gy2 => (intro W; go_simp; (try with_reducible rfl))
          try simp only [List.setIfInBounds_toArray, List.set_cons_zero, List.set_cons_succ]
          refine wpAnyR_pure (i := 3) (oi := _) ?y3 rfl rfl (by kernel_rfl) (by decide) (fun _ _ _ h => h) rfl ?gy3 (fun _ => SB) ?rust3
          case gy3 => (intro W; go_simp; (try with_reducible rfl))
          try simp only [List.setIfInBounds_toArray, List.set_cons_zero, List.set_cons_succ]
          refine wpAnyR_pure (i := 5) (oi := _) ?y5 rfl rfl (by kernel_rfl) (by decide) (fun _ _ _ h => h) rfl ?gy5 (fun _ => SB) ?rust5
          case gy5 => (intro W; go_simp; (try with_reducible rfl))
          try simp only [List.setIfInBounds_toArray, List.set_cons_zero, List.set_cons_succ]
          refine wpAnyR_take (i := 1) (oi := _) ?y1 rfl rfl (by kernel_rfl) (fun _ _ _ h => h) rfl ?gy1 SB ?rust1
          case gy1 => (intro W hW; obtain ⟨E0, E1⟩ := HB.out W hW; go_simp; (try with_reducible rfl))
          try simp only [List.setIfInBounds_toArray, List.set_cons_zero, List.set_cons_succ]
          refine wpAnyR_take (i := 4) (oi := _) ?y4 rfl rfl (by kernel_rfl) (fun _ _ _ h => h) rfl ?gy4 SB ?rust4
          case gy4 => (intro W hW; obtain ⟨E0, E1⟩ := HB.out W hW; go_simp; (try with_reducible rfl))
          try simp only [List.setIfInBounds_toArray, List.set_cons_zero, List.set_cons_succ]
          refine wpAnyR_pure (i := 6) (oi := _) ?y6 rfl rfl (by kernel_rfl) (by decide) (fun _ _ _ h => h) rfl ?gy6 (fun _ => SB) ?rust6
          case gy6 => (intro W; go_simp; (try with_reducible rfl))
          try simp only [List.setIfInBounds_toArray, List.set_cons_zero, List.set_cons_succ]
          refine wpAnyR_pure (i := 7) (oi := _) ?y7 rfl rfl (by kernel_rfl) (by decide) (fun _ _ _ h => h) rfl ?gy7 (fun _ => SB) ?rust7
          case gy7 => (intro W; go_simp; (try with_reducible rfl))
          try simp only [List.setIfInBounds_toArray, List.set_cons_zero, List.set_cons_succ]
          refine wpAnyR_pure (i := 8) (oi := _) ?y8 rfl rfl (by kernel_rfl) (by decide) (fun _ _ _ h => h) rfl ?gy8 (fun _ => SB) ?rust8
          case gy8 => (intro W; go_simp; (try with_reducible rfl))
          try simp only [List.setIfInBounds_toArray, List.set_cons_zero, List.set_cons_succ]
          refine wpAnyR_take (i := 9) (oi := _) ?y9 rfl rfl (by kernel_rfl) (fun _ _ _ h => h) rfl ?gy9 SB ?rust9
          case gy9 => (intro W hW; obtain ⟨E0, E1⟩ := HB.out W hW; go_simp; (try with_reducible rfl))
          try simp only [List.setIfInBounds_toArray, List.set_cons_zero, List.set_cons_succ]
          refine wpAnyR_one (i := 10) (by kernel_rfl) rfl (fun K hK => ?_)
          try rw [if_pos (show Region.wanted _ _ = true from rfl)]
          go_simp
          refine hK.out _ _ (fun _ => HC.out _ (HX0.out.prg.cell 1) r4) ?_
          clear hK K
          try simp only [List.setIfInBounds_toArray, List.set_cons_zero, List.set_cons_succ, Act.put]
          refine wpAnyR_one (i := 11) (by kernel_rfl) rfl (fun K hK => ?_)
          refine step_append_lies _ rfl (.tmp 60) (.tmp 61) 23 rfl bl 3 i0 (.int .i64 0) 1 8 Try.underlying23 hi0 hz0 hz1 hz2 rfl (by decide) (.slice A1 xs.length c1) xs.length (xs.map (Value.int .i64)) rfl ?c1 ⟨w5.heap.size, 0, none⟩ 1 1 [.int .i64 0] rfl rfl ?c4 ?c2 (by omega) (by unfold maxLen; omega) (by omega) ?c3 _ rfl ?c5
          case c1 => exact HOW.out.alloc _
          case c4 => exact cell_one_new _ _ _
          case c2 => intro u hu; simp at hu; subst hu; rfl
          case c3 => simp; omega
          case c5 =>
            intro g2 cap w7 hown hgr hat _
            obtain ⟨ys, hys⟩ : ∃ ys, ys = xs ++ [(0 : Int)] := ⟨_, rfl⟩
            have hyl : xs.length + 1 = ys.length := by rw [hys]; simp
            have hgr1' : (w5.drew.alloc (.cells #[.int .i64 0] 3)).grownBy w7 es[i].2.1.ownBlock := by rw [HV1.out, ← HXS.out]; exact hgr
            have hkf := HRd.out.kept HQ.out.1 hi2 hgr1'
            have e0 : w7.cell? ⟨D, 1, none⟩ = some (.slice (some ⟨gr, 0, none⟩) es.length cr) := Blk.cell (hkf.2.trans HRd.out.prg) 1
            have r5 : w7.cell? ⟨gr, i * 3 + 1, none⟩ = some (.slice A1 xs.length c1) := by rw [← r2]; simp [World.cell?, hkf.1]
            have r6 : w7.frozen? ⟨gr, i * 3 + 1, none⟩ = false := by rw [← r3]; simp [World.frozen?, hkf.1]
            have HST := Lib.hid (fun w6 (hw6 : w6 = w7.setCell ⟨gr, i * 3 + 1, none⟩ (.slice (some ⟨g2, 0, none⟩) ys.length cap)) => HRd.out.longer (x := 0) hgl HQ.out.1 HQ.out.2 hi2 (by rw [hys, HXS.out]) hgr1' (by rw [HV1.out, ← HXS.out]; exact hat) (by rw [← HBL.out, ← hyl, hys, List.map_append]; exact hown) hw6)
            have HO6 := Lib.hid (show AnyOk ar (es.set i (((es[i].1.1.1, ys), es[i].1.2), .slice (some ⟨g2, 0, none⟩) ys.length cap, es[i].2.2)) from by
              obtain ⟨a1, a2, a3, a4, a5, a6⟩ := HOK.out
              refine ⟨a1, a2, a3, by simpa using a4, by simpa using a5, fun e he => ?_⟩
              rcases List.mem_or_eq_of_mem_set he with he | rfl
              · exact a6 e he
              · exact ⟨by show ys.length ≤ 3; omega, (a6 es[i] (List.getElem_mem hi2)).2⟩)
            have hyl2 := Lib.hid hyl
            clear hkf hown hgr hgr1' hat hys
            refine hK.out _ _ (fun _ => HC.out _ e0 r5) ?_
            clear hK K
            try simp only [List.setIfInBounds_toArray, List.set_cons_zero, List.set_cons_succ, Act.put]
            refine wpAnyR_pure (i := 12) (oi := _) ?y12 rfl rfl (by kernel_rfl) (by decide) (fun _ _ _ h => h) rfl ?gy12 (fun _ => HC.out _ e0 r5) ?rust12
            case gy12 => (intro W; go_simp; (try with_reducible rfl))
            try simp only [List.setIfInBounds_toArray, List.set_cons_zero, List.set_cons_succ]
            refine wpAnyR_pure (i := 13) (oi := _) ?y13 rfl rfl (by kernel_rfl) (by decide) (fun _ _ _ h => h) rfl ?gy13 (fun _ => HC.out _ e0 r5) ?rust13
            case gy13 => (intro W; go_simp; (try with_reducible rfl))
            try simp only [List.setIfInBounds_toArray, List.set_cons_zero, List.set_cons_succ]
            refine wpAnyR_pure (i := 14) (oi := _) ?y14 rfl rfl (by kernel_rfl) (by decide) (fun _ _ _ h => h) rfl ?gy14 (fun _ => HC.out _ e0 r5) ?rust14
            case gy14 => (intro W; go_simp; (try with_reducible rfl))
            try simp only [List.setIfInBounds_toArray, List.set_cons_zero, List.set_cons_succ]
            refine wpAnyR_one (i := 15) (by kernel_rfl) rfl (fun K hK => ?_)
            go_simp
            refine hK.out _ _ (fun hf => absurd hf (by decide)) ?_
            clear hK K
            refine wpAnyR_done (by kernel_rfl) ?_
            obtain ⟨w6, hw6⟩ : ∃ w6, w6 = w7.setCell ⟨gr, i * 3 + 1, none⟩ (.slice (some ⟨g2, 0, none⟩) ys.length cap) := ⟨_, rfl⟩
            have H6 := Lib.hid (HST.out w6 hw6)
            rw [← hw6]
            obtain ⟨es2, hes2⟩ : ∃ es2, es2 = es.set i (((es[i].1.1.1, ys), es[i].1.2), .slice (some ⟨g2, 0, none⟩) ys.length cap, es[i].2.2) := ⟨_, rfl⟩
            have hl2 : es.length = es2.length := by rw [hes2]; simp
            rw [← hes2] at H6 HO6
            clear hw6 hes2 e0 r5 r6 r2 r3 r4 hyl HST k0 k1
            have k0 : w6.cell? ⟨D, 0, none⟩ = some (.slice A ar.length c) := H6.out.prg.cell 0
            have k1 : w6.cell? ⟨D, 1, none⟩ = some (.slice (some ⟨gr, 0, none⟩) es2.length cr) := H6.out.prg.cell 1
            have j0 : w6.cell? ⟨w.heap.size, 0, none⟩ = some (.slice none 0 0) := H6.out.res.cell 0
            have j1 : w6.cell? ⟨w.heap.size, 1, none⟩ = some (.slice none 0 0) := H6.out.res.cell 1
            have l0 := H6.out.res.frozen 0
            have l1 := H6.out.res.frozen 1
            clear hl2
            go_wp2_with (fail)
            obtain ⟨W, hW⟩ : ∃ W, W = (w6.setCell ⟨w.heap.size, 0, none⟩ (.slice A ar.length c)).setCell ⟨w.heap.size, 1, none⟩ (.slice (some ⟨gr, 0, none⟩) es2.length cr) := ⟨_, rfl⟩
            rw [← hW]
            obtain ⟨f1, f2, f3, f4, f5, f6, f7⟩ := H6.out.done hgl hW
            have d0 := f7.cell 0
            have d1 := f7.cell 1
            refine bodyPost_ret (v := .agg #[.slice A ar.length c, .slice (some ⟨gr, 0, none⟩) es2.length cr]) (by simp [results, Try.results119, go_sem, d0, d1]) rfl ?_
            exact ⟨A, some ⟨gr, 0, none⟩, c, cr, B, q + 1 + 1 + 1, ar, es2, rfl, HO6.out, by omega, f1, f2, f3, f4, f5, f6⟩
  · have hzb : (z == 0) = false := by simp [hz]
    clear hz
    have k0 : w3.cell? ⟨D, 0, none⟩ = some (.slice A ar.length c) := H3.out.prg.cell 0
    have k1 : w3.cell? ⟨D, 1, none⟩ = some (.slice Ar es.length cr) := H3.out.prg.cell 1
    have j0 : w3.cell? ⟨w.heap.size, 0, none⟩ = some (.slice none 0 0) := H3.out.res.cell 0
    have j1 : w3.cell? ⟨w.heap.size, 1, none⟩ = some (.slice none 0 0) := H3.out.res.cell 1
    have l0 := H3.out.res.frozen 0
    have l1 := H3.out.res.frozen 1
    go_wp2_with (fail)
    obtain ⟨W, hW⟩ : ∃ W, W = (w3.setCell ⟨w.heap.size, 0, none⟩ (.slice A ar.length c)).setCell ⟨w.heap.size, 1, none⟩ (.slice Ar es.length cr) := ⟨_, rfl⟩
    rw [← hW]
    obtain ⟨f1, f2, f3, f4, f5, f6, f7⟩ := H3.out.four.done hgl hW
    have d0 := f7.cell 0
    have d1 := f7.cell 1
    refine bodyPost_ret (v := .agg #[.slice A ar.length c, .slice Ar es.length cr]) (by simp [results, Try.results119, go_sem, d0, d1]) rfl ?_
    exact ⟨A, Ar, c, cr, B, q + 1, ar, es, rfl, HOK.out, by omega, f1, f2, f3, f4, f5, f6⟩

end Go.Proofs.Ytocpfmbieedpgaa
/-
  The walk of the specification's FactOk.
-/
namespace Go.Proofs.Ytocpfmbieedpgaa
open Go.RowKit

set_option maxHeartbeats 400000 in
set_option maxRecDepth 100000 in
theorem specFactOk_any (v v2 : Value) (ar : List Int) (f : LFact) (w : World) (h : RdInts w w.heap.size v ar) (h2 : RdFact w w.heap.size v2 f) (hr : ar.length ≤ 1048576) (hn : f.2.length ≤ 1048576) :
    Calls Try.prog 110 #[v, v2] w fun e w' => e = .returned (.bool (factOk ar f)) ∧ Below w.heap.size w w' := by
  have H := Lib.hid h
  have H2 := Lib.hid h2
  obtain ⟨pp, xs⟩ := f
  obtain ⟨A, c, rfl, hc, h⟩ := h
  obtain ⟨a, rfl, A2, c2, rfl, hc2, h2⟩ := h2
  by_cases ha : arityOk ar = true
  · have CA : ∀ W, Below w.heap.size w W → Calls Try.prog 96 #[.slice A ar.length c] W fun e w' => e = .returned (.bool true) ∧ w' = W := fun W hW =>
      (specArityOk_any _ ar W (H.out.on hW) (by omega)).mono fun e w' ⟨he, hw⟩ => ⟨by rw [he, ha], hw.symm⟩
    have HCA := Lib.hid CA
    have HA := Lib.hid ha
    clear CA ha
    by_cases hp : 0 ≤ pp ∧ pp ≤ (ar.length : Int) - 1
    · have HCL := Lib.hid (l1In_yes hp)
      obtain ⟨p, rfl⟩ := Int.eq_ofNat_of_zero_le hp.1
      have hlt : p < ar.length := by omega
      have hltI : (p : Int) < (ar.length : Int) := by omega
      obtain ⟨b, o, rfl, hbB, hx⟩ := h (by omega)
      have hck : ∀ O, (w.alloc O).cell? ⟨b, o + p, none⟩ = some (.int .i64 ar[p]) := fun O => (World.cell?_alloc_lt w O ⟨b, o + p, none⟩ hbB).trans (hx p hlt)
      clear hp
      by_cases h3 : (xs.length : Int) = ar[p]
      · have hd3 : ((xs.length : Int) != ar[p]) = false := by simp [h3]
        have H3 := Lib.hid (show factOk ar ((p : Int), xs) = xs.all constOk by simp [factOk, HA.out, factFits, hlt, h3])
        clear h3 hx h
        go_enter Try.func110, Try.ntmps110
        go_wp2_with (fail)
        go_quiet (first | (go_at_call 96; exact Calls.quiet_of_same (HCA.out _ (bdrewN (below1 _ _) _))) | (go_at_call 61; exact quiet_left (HCL.out _)))
        go_wp2_with (fail)
        obtain ⟨w1, hw1⟩ : ∃ w1, w1 = (w.alloc (Obj.cells #[Value.int IntKind.i64 ↑p, Value.slice A2 xs.length c2] 118)).drewN nq := ⟨_, rfl⟩
        rw [← hw1]
        have hbe : Below w.heap.size w w1 := by rw [hw1]; exact bdrewN (below1 _ _) _
        have hblk : Blk w1 w.heap.size 118 #[.int .i64 p, .slice A2 xs.length c2] := by rw [hw1]; exact (Blk.new w _ _).drewN _
        have hc1 : w1.cell? ⟨w.heap.size, 1, none⟩ = some (.slice A2 xs.length c2) := hblk.cell 1
        clear hw1 hck
        go_loop [5] (fun i => ∃ k : Nat, k ≤ xs.length ∧ i = .int .i64 k ∧ ConstsTo xs k) (fun i => xs.length - (intOf i).toNat)
        case atStart => exact ⟨0, Nat.zero_le _, rfl, fun j hj => absurd hj (by omega)⟩
        case round =>
          obtain ⟨k, hk, rfl, hs⟩ := hrel
          by_cases hlk : k < xs.length
          · obtain ⟨b2, o2, rfl, hbB2, hx2⟩ := h2 (by show 0 < xs.length; omega)
            have hck2 : w1.cell? ⟨b2, o2 + k, none⟩ = some (.int .i64 xs[k]) := (hbe.cell (p := ⟨b2, o2 + k, none⟩) hbB2).trans (hx2 k hlk)
            clear hx2 h2
            by_cases he : 0 ≤ xs[k] ∧ xs[k] ≤ 5
            · have HS := Lib.hid (hs.step (by simpa [hlk, constOk] using he))
              have HK := Lib.hid (l1In_yes he)
              clear hs he
              go_wp2_with (go_at_call 61; refine (HK.out _).mono ?_; rintro e w' ⟨rfl, rfl⟩)
              go_round
              case rel => exact ⟨k + 1, by omega, by go_num, HS.out⟩
              case measure => simp [intOf]; omega
            · have HE := Lib.hid (consts_not hlk (by simpa [constOk] using he))
              have HK := Lib.hid (l1In_no he)
              clear hs he
              go_wp2_with (go_at_call 61; refine (HK.out _).mono ?_; rintro e w' ⟨rfl, rfl⟩)
              go_ret
              exact ⟨ret_bool (by rw [H3.out, HE.out]), hbe⟩
          · have hkn : k = xs.length := by omega
            have HE := Lib.hid (show xs.all constOk = true from ConstsTo.all (by rw [← hkn]; exact hs))
            clear hkn hs h2
            go_wp2_with (fail)
            go_ret
            exact ⟨ret_bool (by rw [H3.out, HE.out]), hbe⟩
      · have hd3 : ((xs.length : Int) != ar[p]) = true := by simp [h3]
        have HE := Lib.hid (show factOk ar ((p : Int), xs) = false by simp [factOk, factFits, hlt, h3])
        clear h3 hx h
        go_enter Try.func110, Try.ntmps110
        go_wp2_with (fail)
        go_quiet (first | (go_at_call 96; exact Calls.quiet_of_same (HCA.out _ (bdrewN (below1 _ _) _))) | (go_at_call 61; exact quiet_left (HCL.out _)))
        go_wp2_with (fail)
        go_ret
        exact ⟨ret_bool HE.out.symm, bdrewN (below1 _ _) _⟩
    · have HCL := Lib.hid (l1In_no hp)
      have HE := Lib.hid (show factOk ar (pp, xs) = false by simp [factOk, factFits]; omega)
      clear hp
      go_enter Try.func110, Try.ntmps110
      go_wp2_with (fail)
      go_quiet (first | (go_at_call 96; exact Calls.quiet_of_same (HCA.out _ (bdrewN (below1 _ _) _))) | (go_at_call 61; exact quiet_left (HCL.out _)))
      go_wp2_with (fail)
      go_ret
      exact ⟨ret_bool HE.out.symm, bdrewN (below1 _ _) _⟩
  · have CA : ∀ W, Below w.heap.size w W → Calls Try.prog 96 #[.slice A ar.length c] W fun e w' => e = .returned (.bool false) ∧ w' = W := fun W hW =>
      (specArityOk_any _ ar W (H.out.on hW) (by omega)).mono fun e w' ⟨he, hw⟩ => ⟨by rw [he, show arityOk ar = false by simpa using ha], hw.symm⟩
    have HCA := Lib.hid CA
    have HE := Lib.hid (show factOk ar (pp, xs) = false by simp [factOk, ha])
    clear CA ha
    go_enter Try.func110, Try.ntmps110
    go_wp2_with (fail)
    go_quiet (first | (go_at_call 96; exact Calls.quiet_of_same (HCA.out _ (bdrewN (below1 _ _) _))))
    go_wp2_with (fail)
    go_ret
    exact ⟨ret_bool HE.out.symm, bdrewN (below1 _ _) _⟩

end Go.Proofs.Ytocpfmbieedpgaa
/-
  The walk of the specification's FactsWith.
-/
namespace Go.Proofs.Ytocpfmbieedpgaa
open Go.RowKit

/-- append of one copied fact onto the row that a loop collects. -/
theorem wpList_push {ops : Array Oper} {rest : List Oper} {op : Oper} {a : Act} {Q : Exit → Act → World → Prop} (hgd : op.guard = none) (s x : Operand)
    (ho : op.op = .call { callee := .builtin .append, args := #[s, x], argTypes := #[66, 66] })
    {w wr w2 : World} {gs : List LFact} {A A4 : Option Addr} {c c4 : Nat} {av : List Value} {f : LFact} (h : ColRel w wr gs A c av) (hb : Below wr.heap.size wr w2) (ha : OwnInts w2 wr.heap.size w2.heap.size (.slice A4 f.2.length c4) f.2)
    {n : Nat} (hnl : n = gs.length) (hs : a.eval s = .slice A n c) (hx : a.eval x = .slice (some ⟨w2.heap.size, 0, none⟩) 1 1) (hn : gs.length ≤ 1073741824)
    (K : ∀ g cap w4 av', ColRel w w4 (gs ++ [f]) (some ⟨g, 0, none⟩) cap av' → w2.grownBy w4 (Value.slice A gs.length c).ownBlock → wpList Try.prog ops Q rest (a.put op.dst (.slice (some ⟨g, 0, none⟩) (n + 1) cap)) w4) :
    wpList Try.prog ops Q (op :: rest) a (w2.alloc (.cells #[.int .i64 f.1, .slice A4 f.2.length c4] 118)) := by
  subst hnl
  obtain ⟨i0, hi0, hz0, hz1, hz2⟩ := info_parts Try.infoFact
  refine wpList_append_lies _ hgd s x 66 ho w.heap.size 118 i0 (.agg #[.int .i64 0, .slice none 0 0]) 2 32 Try.underlying66 hi0 hz0 hz1 hz2 rfl (by decide) (.slice A gs.length c) gs.length (flat gs av) hs ?_ ⟨w2.heap.size, 0, none⟩ 1 1 [.int .i64 f.1, .slice A4 f.2.length c4] hx rfl (news2 _ _ _ _) ?_ (by omega) (by unfold maxLen; omega) (by omega) ?_ _ rfl ?_
  · exact (ownsRow_below h.own.row h.own.lt hb (Nat.le_refl _)).alloc _
  · intro u hu
    simp at hu
    rcases hu with rfl | rfl <;> rfl
  · have := h.below.size
    have := hb.size
    simp
    omega
  intro g cap w4 hown hg _ _
  obtain ⟨av', hcol, _⟩ := h.push rfl hb ha hg hown
  exact K g cap w4 av' hcol (grown_from_alloc hg)

def withStep (f : LFact) (s : List LFact × Bool) (g : LFact) : List LFact × Bool :=
  ((if s.2 = false ∧ factOrder f g ≤ 0 then s.1 ++ [f] else s.1) ++ (if factOrder f g = 0 then [] else [g]), s.2 || decide (factOrder f g ≤ 0))
def withTo (fs : List LFact) (f : LFact) (k : Nat) : List LFact × Bool := (fs.take k).foldl (withStep f) ([], false)
def factsWith (fs : List LFact) (f : LFact) : List LFact := if (withTo fs f fs.length).2 then (withTo fs f fs.length).1 else (withTo fs f fs.length).1 ++ [f]
theorem withTo_step {fs : List LFact} {f : LFact} {k : Nat} (h : k < fs.length) : withTo fs f (k + 1) = withStep f (withTo fs f k) fs[k] := by
  unfold withTo
  rw [take_snoc fs k h, List.foldl_append]
  rfl
theorem withTo_bound (fs : List LFact) (f : LFact) : ∀ k, k ≤ fs.length → (withTo fs f k).1.length ≤ k + (if (withTo fs f k).2 then 1 else 0) ∧ tot (withTo fs f k).1 ≤ tot (fs.take k) + (if (withTo fs f k).2 then f.2.length else 0)
  | 0, _ => by simp [withTo, tot]
  | k + 1, hk => by
    have ih := withTo_bound fs f k (by omega)
    rw [withTo_step (by omega), tot_take fs k (by omega)]
    obtain ⟨h1, h2⟩ := ih
    unfold withStep
    cases hp : (withTo fs f k).2 <;> by_cases h0 : factOrder f fs[k] = 0 <;> by_cases hle : factOrder f fs[k] ≤ 0 <;> simp [hp, h0, hle, tot_append, tot_cons] at h1 h2 ⊢ <;> simp [tot] at h2 ⊢ <;> omega

theorem factsWith_bound (fs : List LFact) (f : LFact) : (factsWith fs f).length ≤ fs.length + 1 ∧ tot (factsWith fs f) ≤ tot fs + f.2.length := by
  have h := withTo_bound fs f fs.length (Nat.le_refl _)
  rw [List.take_length] at h
  unfold factsWith
  cases hp : (withTo fs f fs.length).2 <;> simp [hp, tot_append, tot_cons] at h ⊢ <;> simp [tot] at h ⊢ <;> omega

end Go.Proofs.Ytocpfmbieedpgaa
/-
  The walk of the specification's FactsWith.
-/
namespace Go.Proofs.Ytocpfmbieedpgaa
open Go.RowKit

/-- What a loop of FactsWith knows at its head, k facts on. -/
structure WithRel (w1 wr : World) (fs : List LFact) (f : LFact) (k : Nat) (st : List LFact × Bool) (A : Option Addr) (c : Nat) (av : List Value) : Prop where
  col : ColRel w1 wr st.1 A c av
  st : st = withTo fs f k

theorem With.next {fs : List LFact} {f : LFact} {k : Nat} {st st' : List LFact × Bool} (h : st = withTo fs f k) (hk : k < fs.length) (e : st' = withStep f st fs[k]) : st' = withTo fs f (k + 1) := by rw [withTo_step hk, ← h, e]

set_option maxHeartbeats 2000000 in
set_option maxRecDepth 100000 in
theorem specFactsWith_any (v v2 : Value) (fs : List LFact) (f : LFact) (w : World) (h : RdFacts w w.heap.size v fs) (h2 : RdFact w w.heap.size v2 f) (hn : fs.length ≤ 1048576) (ht : tot fs ≤ 1048576) (hf : f.2.length ≤ 1048576) :
    Calls Try.prog 129 #[v, v2] w fun e w' => ∃ A' c', e = .returned (.slice A' (factsWith fs f).length c') ∧ OwnFacts w' w.heap.size w'.heap.size (.slice A' (factsWith fs f).length c') (factsWith fs f) ∧ Below w.heap.size w w' := by
  have H := Lib.hid h
  have H2 := Lib.hid h2
  obtain ⟨A, c, rfl, hc, _⟩ := h
  obtain ⟨a, rfl, A2, c2, rfl, hc2, _⟩ := h2
  go_enter Try.func129, Try.ntmps129
  go_wp2_with (fail)
  obtain ⟨w1, hw1⟩ : ∃ w1, w1 = (w.alloc (Obj.cells #[Value.int IntKind.i64 f.1, Value.slice A2 f.2.length c2] 118)) := ⟨_, rfl⟩
  have B1 : Below w.heap.size w w1 := by rw [hw1]; exact below1 _ _
  have k0 : Blk w1 w.heap.size 118 #[.int .i64 f.1, .slice A2 f.2.length c2] := by rw [hw1]; exact Blk.new w _ _
  have hz1 : w.heap.size + 1 = w1.heap.size := by rw [hw1]; simp
  rw [← hw1]
  clear hw1
  simp only [hz1]
  have HZ := Lib.hid hz1
  clear hz1
  go_loopw [5, 6, 7, 8] (fun o p i _ wr => ∃ (k : Nat) (st : List LFact × Bool) (A' : Option Addr) (c' : Nat) (av : List Value), k ≤ fs.length ∧ i = .int .i64 k ∧ p = .bool st.2 ∧ o = .slice A' st.1.length c' ∧ WithRel w1 wr fs f k st A' c' av) (fun _ _ i _ _ => fs.length - (intOf i).toNat)
  case atStart => exact ⟨0, ([], false), _, 0, [], Nat.zero_le _, rfl, rfl, rfl, ColRel.empty w1, rfl⟩
  case round =>
    obtain ⟨k, ⟨gs, pb⟩, A', c', av, hk, rfl, rfl, rfl, hcol, hst⟩ := hrel
    have hbd := withTo_bound fs f k hk
    rw [← hst] at hbd
    have hgl : gs.length ≤ 2097152 := by have := hbd.1; simp only at this; split at this <;> omega
    clear hbd
    have HST := Lib.hid hst
    clear hst
    by_cases hlt : k < fs.length
    · obtain ⟨b, o, A3, c3, rfl, hbB, k1, k2, k3⟩ := H.out.get hlt
      have hln := len_le_tot fs k hlt
      have K3 := Lib.hid (show RdFact w w.heap.size (.agg #[.int .i64 fs[k].1, .slice A3 fs[k].2.length c3]) fs[k] from ⟨_, rfl, k3⟩)
      have M1 : ∀ W, Below w.heap.size w W → W.cell? ⟨b, o + k * 2, none⟩ = some (.int .i64 fs[k].1) := fun W hW => (hW.cell (p := ⟨b, o + k * 2, none⟩) hbB).trans k1
      have M2 : ∀ W, Below w.heap.size w W → W.cell? ⟨b, o + k * 2 + 1, none⟩ = some (.slice A3 fs[k].2.length c3) := fun W hW => (hW.cell (p := ⟨b, o + k * 2 + 1, none⟩) hbB).trans k2
      have N1 : ∀ W, Below w1.heap.size w1 W → W.cell? ⟨w.heap.size, 0, none⟩ = some (.int .i64 f.1) := fun W hW => (k0.below hW k0.lt).cell 0
      have N2 : ∀ W, Below w1.heap.size w1 W → W.cell? ⟨w.heap.size, 1, none⟩ = some (.slice A2 f.2.length c2) := fun W hW => (k0.below hW k0.lt).cell 1
      have hB := bthen B1 hcol.below
      have L1 := later_cell (M1 _ hB)
      have L2 := later_cell (M2 _ hB)
      have L3 := later_cell (N1 _ hcol.below)
      have L4 := later_cell (N2 _ hcol.below)
      obtain ⟨q, hq⟩ : ∃ q, q = factOrder f fs[k] := ⟨_, rfl⟩
      have CO := Lib.hid (fun x : Later wr => (specFactOrder_any _ _ f fs[k] x.val ((H2.out.on hB).on x.2) ((K3.out.on hB).on x.2) hf (by omega)).mono fun e w' (hh : e = .returned (.int .i64 (factOrder f fs[k])) ∧ Below x.val.heap.size x.val w') => (⟨by rw [hh.1, hq], hh.2⟩ : e = .returned (.int .i64 q) ∧ Below x.val.heap.size x.val w'))
      have HQ := Lib.hid hq
      have HC := Lib.hid hcol
      have HM := Lib.hid (And.intro M1 (And.intro M2 (And.intro N1 N2)))
      clear hq hcol k1 k2 k3 M1 M2 N1 N2
      go_wp2_with (fail)
      refine wp_region_later (by kernel_rfl) (by kernel_rfl) ?_
      repeat (go_big_quiet_step ((go_at_call 111; exact later_of (CO.out _))))
      refine wpQuiet_nil ?_
      rintro _ ⟨xq, rfl⟩
      obtain ⟨w2, hw2⟩ : ∃ w2, w2 = xq.val := ⟨_, rfl⟩
      have hb2 : Below wr.heap.size wr w2 := by rw [hw2]; exact xq.2
      rw [← hw2]
      have HC2 := Lib.hid (HC.out.on hb2)
      clear hw2 L1 L2 L3 L4 CO
      obtain ⟨M1, M2, N1, N2⟩ := HM.out
      have P2 := HC2.out.below
      have hB2 := bthen B1 P2
      have m1 := M1 _ hB2
      have m2 := M2 _ hB2
      have n1 := N1 _ P2
      have n2 := N2 _ P2
      clear M1 M2 N1 N2
      cases pb with
      | true =>
        by_cases hq0 : q = 0
        · have t1 : (q != 0) = false := by simp [hq0]
          have HS := Lib.hid (show ((gs, true) : List LFact × Bool) = withStep f (gs, true) fs[k] by simp [withStep, ← HQ.out, hq0])
          clear hq0
          go_wp2_with (fail)
          go_roundw
          case rel => exact ⟨k + 1, (gs, true), _, _, _, by omega, by go_num, rfl, rfl, ⟨HC2.out, With.next HST.out hlt HS.out⟩⟩
          case measure => simp [intOf]; omega
        · have t1 : (q != 0) = true := by simp [hq0]
          have HS := Lib.hid (show ((gs ++ [fs[k]], true) : List LFact × Bool) = withStep f (gs, true) fs[k] by simp [withStep, ← HQ.out, hq0])
          clear hq0
          go_wp2_with (fail)
          refine (l1Copy_any _ fs[k] _ (K3.out.on hB2) (by omega)).mono ?_
          rintro e w3 ⟨A4, c4, rfl, ho4, hb4⟩
          go_wp2_with (at_builtin; refine wpList_push rfl (.tmp 35) (.tmp 41) rfl HC2.out hb4 ho4 rfl rfl rfl (by omega) ?_; intro g4 cap4 w4 av4 hcol4 hgr4)
          have HC4 := Lib.hid hcol4
          clear hcol4 hgr4
          go_roundw
          case rel => exact ⟨k + 1, (gs ++ [fs[k]], true), _, _, _, by omega, by go_num, rfl, by simp, ⟨HC4.out, With.next HST.out hlt HS.out⟩⟩
          case measure => simp [intOf]; omega
      | false =>
        rcases Int.lt_trichotomy q 0 with hq0 | hq0 | hq0
        · have t1 : (q != 0) = true := by simp; omega
          have t2 : decide (q ≤ 0) = true := by simp; omega
          have HS := Lib.hid (show (((gs ++ [f]) ++ [fs[k]], true) : List LFact × Bool) = withStep f (gs, false) fs[k] by
            have e1 : q ≠ 0 := by omega
            have e2 : q ≤ 0 := by omega
            simp [withStep, ← HQ.out, e1, e2])
          clear hq0
          go_wp2_with (fail)
          refine (l1Copy_any _ f _ (H2.out.on hB2) (by omega)).mono ?_
          rintro e w3 ⟨A4, c4, rfl, ho4, hb4⟩
          go_wp2_with (at_builtin; refine wpList_push rfl (.tmp 28) (.tmp 31) rfl HC2.out hb4 ho4 rfl rfl rfl (by omega) ?_; intro g4 cap4 w4 av4 hcol4 hgr4; have m3 := HM.out.1 _ (bthen B1 hcol4.below); have m4 := HM.out.2.1 _ (bthen B1 hcol4.below); have HC4 := Lib.hid hcol4; clear hcol4 hgr4)
          refine (l1Copy_any _ fs[k] _ (K3.out.on (bthen B1 HC4.out.below)) (by omega)).mono ?_
          rintro e w5 ⟨A6, c6, rfl, ho6, hb6⟩
          go_wp2_with (at_builtin; refine wpList_push rfl (.tmp 35) (.tmp 41) rfl HC4.out hb6 ho6 (by simp) rfl rfl (by simp; omega) ?_; intro g6 cap6 w6 av6 hcol6 hgr6; have HC6 := Lib.hid hcol6; clear hcol6 hgr6)
          go_roundw
          case rel => exact ⟨k + 1, ((gs ++ [f]) ++ [fs[k]], true), _, _, _, by omega, by go_num, rfl, by simp, ⟨HC6.out, With.next HST.out hlt HS.out⟩⟩
          case measure => simp [intOf]; omega
        · have t1 : (q != 0) = false := by simp [hq0]
          have t2 : decide (q ≤ 0) = true := by simp; omega
          have HS := Lib.hid (show ((gs ++ [f], true) : List LFact × Bool) = withStep f (gs, false) fs[k] by simp [withStep, ← HQ.out, hq0])
          clear hq0
          go_wp2_with (fail)
          refine (l1Copy_any _ f _ (H2.out.on hB2) (by omega)).mono ?_
          rintro e w3 ⟨A4, c4, rfl, ho4, hb4⟩
          go_wp2_with (at_builtin; refine wpList_push rfl (.tmp 28) (.tmp 31) rfl HC2.out hb4 ho4 rfl rfl rfl (by omega) ?_; intro g4 cap4 w4 av4 hcol4 hgr4; have HC4 := Lib.hid hcol4; clear hcol4 hgr4)
          go_roundw
          case rel => exact ⟨k + 1, (gs ++ [f], true), _, _, _, by omega, by go_num, rfl, by simp, ⟨HC4.out, With.next HST.out hlt HS.out⟩⟩
          case measure => simp [intOf]; omega
        · have t1 : (q != 0) = true := by simp; omega
          have t2 : decide (q ≤ 0) = false := by simp; omega
          have HS := Lib.hid (show ((gs ++ [fs[k]], false) : List LFact × Bool) = withStep f (gs, false) fs[k] by
            have e1 : q ≠ 0 := by omega
            have e2 : ¬ q ≤ 0 := by omega
            simp [withStep, ← HQ.out, e1, e2])
          clear hq0
          go_wp2_with (fail)
          refine (l1Copy_any _ fs[k] _ (K3.out.on hB2) (by omega)).mono ?_
          rintro e w3 ⟨A4, c4, rfl, ho4, hb4⟩
          go_wp2_with (at_builtin; refine wpList_push rfl (.tmp 35) (.tmp 41) rfl HC2.out hb4 ho4 rfl rfl rfl (by omega) ?_; intro g4 cap4 w4 av4 hcol4 hgr4; have HC4 := Lib.hid hcol4; clear hcol4 hgr4)
          go_roundw
          case rel => exact ⟨k + 1, (gs ++ [fs[k]], false), _, _, _, by omega, by go_num, rfl, by simp, ⟨HC4.out, With.next HST.out hlt HS.out⟩⟩
          case measure => simp [intOf]; omega
    · have hkn : fs.length = k := by omega
      have HB := Lib.hid (bthen B1 hcol.below)
      have hz1 : w.heap.size ≤ w1.heap.size := B1.size
      have n1 : wr.cell? ⟨w.heap.size, 0, none⟩ = some (.int .i64 f.1) := (k0.below hcol.below k0.lt).cell 0
      have n2 : wr.cell? ⟨w.heap.size, 1, none⟩ = some (.slice A2 f.2.length c2) := (k0.below hcol.below k0.lt).cell 1
      have HC := Lib.hid hcol
      cases pb with
      | true =>
        have HE := Lib.hid (show factsWith fs f = gs by unfold factsWith; rw [hkn, ← HST.out]; rfl)
        clear hcol hkn
        go_wp2_with (fail)
        go_ret
        rw [HE.out]
        exact ⟨_, _, rfl, HC.out.own.own.mono hz1 (Nat.le_refl _), HB.out⟩
      | false =>
        have HE := Lib.hid (show factsWith fs f = gs ++ [f] by unfold factsWith; rw [hkn, ← HST.out]; rfl)
        clear hcol hkn
        go_wp2_with (fail)
        refine (l1Copy_any _ f _ (H2.out.on HB.out) (by omega)).mono ?_
        rintro e w3 ⟨A4, c4, rfl, ho4, hb4⟩
        go_wp2_with (at_builtin; refine wpList_push rfl (.tmp 45) (.tmp 48) rfl HC.out hb4 ho4 rfl rfl rfl (by omega) ?_; intro g4 cap4 w4 av4 hcol4 hgr4; have HC4 := Lib.hid hcol4; clear hcol4 hgr4)
        go_ret
        rw [HE.out]
        exact ⟨some ⟨g4, 0, none⟩, cap4, by simp, HC4.out.own.own.mono hz1 (Nat.le_refl _), bthen B1 HC4.out.below⟩

end Go.Proofs.Ytocpfmbieedpgaa
/-
  No function of the library here sorts facts: nothing is laid.
-/
namespace Go.Proofs
end Go.Proofs
/-
  append of a slice of facts that is read, nil and empty let in, onto a row of the call's own: the headers are shared.
-/
namespace Go.Proofs.Ytocpfmbieedpgaa
open Go.RowKit

/-- The headers av read as the facts' rows. -/
def RdArgs (w : World) (B : Nat) (av : List Value) (fs : List LFact) : Prop := av.length = fs.length ∧ ∀ k (_ : k < fs.length) (h' : k < av.length) (h : k < fs.length), RdInts w B av[k] fs[k].2
theorem RdArgs.nil (w : World) (B : Nat) : RdArgs w B [] [] := ⟨rfl, fun k h => absurd h (by simp)⟩
theorem RdArgs.on {w w' : World} {av : List Value} {fs : List LFact} (h : RdArgs w w.heap.size av fs) (hb : Below w.heap.size w w') : RdArgs w' w'.heap.size av fs := ⟨h.1, fun k h1 h2 h3 => (h.2 k h1 h2 h3).on hb⟩
theorem RdArgs.append {w : World} {B : Nat} {av av2 : List Value} {fs fs2 : List LFact} (h : RdArgs w B av fs) (h2 : RdArgs w B av2 fs2) : RdArgs w B (av ++ av2) (fs ++ fs2) := by
  refine ⟨by simp [h.1, h2.1], fun k _ h' hk => ?_⟩
  by_cases e : k < fs.length
  · have e' : k < av.length := by rw [h.1]; exact e
    rw [List.getElem_append_left e', List.getElem_append_left e]
    exact h.2 k e e' e
  · have e' : ¬ k < av.length := by rw [h.1]; exact e
    have l1 := h.1
    simp only [List.length_append] at h' hk
    rw [List.getElem_append_right (by omega), List.getElem_append_right (by omega)]
    have := h2.2 (k - fs.length) (by omega) (by omega) (by omega)
    simpa [l1] using this
theorem flat_append : ∀ (fs : List LFact) (av : List Value) (_ : av.length = fs.length) (fs2 : List LFact) (av2 : List Value), flat (fs ++ fs2) (av ++ av2) = flat fs av ++ flat fs2 av2
  | [], [], _, _, _ => by simp [flat]
  | [], _ :: _, h, _, _ => by simp at h
  | _ :: _, [], h, _, _ => by simp at h
  | f :: fs, a :: av, h, fs2, av2 => by simp [flat, flat_append fs av (by simpa using h) fs2 av2]

/-- What is read at a slice of facts, cell by cell. -/
def CellsAt (w : World) (A : Option Addr) (cs : List Value) : Prop := (A = none → cs = []) ∧ ∀ ad, A = some ad → ∀ j u, cs[j]? = some u → w.cell? (ad.add j) = some u

theorem flat_get (fs : List LFact) (av : List Value) (h : av.length = fs.length) (j : Nat) (u : Value) (hu : (flat fs av)[j]? = some u) :
    ∃ k, ∃ (hk : k < fs.length) (hk' : k < av.length), (j = k * 2 ∧ u = .int .i64 fs[k].1) ∨ (j = k * 2 + 1 ∧ u = av[k]) := by
  have hl := flat_length fs av h
  have hj : j < fs.length * 2 := by
    rcases Nat.lt_or_ge j (fs.length * 2) with h1 | h1
    · exact h1
    · rw [List.getElem?_eq_none (by omega)] at hu
      cases hu
  have hk : j / 2 < fs.length := by omega
  obtain ⟨c0, c1⟩ := flat_at fs av h (j / 2) hk (by omega)
  refine ⟨j / 2, hk, by omega, ?_⟩
  by_cases e : j % 2 = 0
  · left
    have e1 : j = j / 2 * 2 := by omega
    refine ⟨e1, ?_⟩
    rw [e1, c0] at hu
    exact (Option.some.inj hu).symm
  · right
    have e1 : j = j / 2 * 2 + 1 := by omega
    refine ⟨e1, ?_⟩
    rw [e1, c1] at hu
    exact (Option.some.inj hu).symm

theorem RdFacts.heads {w : World} {B : Nat} {v : Value} {fs : List LFact} (h : RdFacts w B v fs) : ∃ A c av, v = .slice A fs.length c ∧ RdArgs w B av fs ∧ CellsAt w A (flat fs av) := by
  obtain ⟨A, c, rfl, hc, h⟩ := h
  rcases Nat.eq_zero_or_pos fs.length with h0 | h0
  · have : fs = [] := List.eq_nil_of_length_eq_zero h0
    subst this
    exact ⟨A, c, [], rfl, RdArgs.nil _ _, fun _ => rfl, fun ad _ j u hu => by simp [flat] at hu⟩
  · obtain ⟨b, o, rfl, hb, hx⟩ := h h0
    let av : List Value := (List.finRange fs.length).map fun k => (hx k.1 k.2).choose
    have hl : av.length = fs.length := by simp [av]
    have hav : ∀ k (h : k < fs.length) (h' : k < av.length), av[k] = (hx k h).choose := fun k h h' => by simp [av]
    refine ⟨_, c, av, rfl, ⟨hl, fun k _ h' hk => ?_⟩, fun e => (by cases e), fun ad e j u hu => ?_⟩
    · rw [hav k hk h']
      exact (hx k hk).choose_spec.2.2
    · injection e with e
      subst e
      obtain ⟨k, hk, hk', h1⟩ := flat_get fs av hl j u hu
      rw [Go.WideShapes.add_plain]
      rcases h1 with ⟨rfl, rfl⟩ | ⟨rfl, rfl⟩
      · exact (hx k hk).choose_spec.1
      · rw [hav k hk hk']
        exact (hx k hk).choose_spec.2.1

theorem flat_one (fs : List LFact) (av : List Value) {w : World} {B : Nat} (h : RdArgs w B av fs) : ∀ u ∈ flat fs av, u.oneCell' = true := by
  intro u hu
  obtain ⟨j, hj, e⟩ := List.getElem_of_mem hu
  obtain ⟨k, hk, hk', h1⟩ := flat_get fs av h.1 j u (by rw [List.getElem?_eq_getElem hj, e])
  rcases h1 with ⟨_, rfl⟩ | ⟨_, rfl⟩
  · rfl
  · obtain ⟨A, c, e, _⟩ := h.2 k hk hk' hk
    rw [e]
    rfl

theorem run_append_facts {P : Program} (w : World) (base : Nat) (t ty e : TypeId) (i : TypeInfo) (z : Value) (bytes : Nat) (ht : P.underlying t = some (.slice e)) (hi : P.info? e = some i) (hz : i.zero = some z)
    (hsize : i.size = 2) (hby : i.bytes = bytes) (hzs : z.cells.size = 2)
    (v : Value) (n : Nat) (xs : List Value) (hown : w.ownsRow base e 2 v n xs) (A : Option Addr) (c : Nat) (fs : List LFact) (av : List Value) (B : Nat) (ha : RdArgs w B av fs) (hx : CellsAt w A (flat fs av))
    (h63 : n + fs.length ≤ maxLen) (hbytes : (n + fs.length) * bytes ≤ 140737488355328) (hbase : base ≤ w.heap.size) :
    ∃ A' c' w', (Builtin.append_ #[t, t] ty #[v, .slice A fs.length c]).run P w = .ok (.slice A' (n + fs.length) c') w' ∧ w'.ownsRow base e 2 (.slice A' (n + fs.length) c') (n + fs.length) (xs ++ flat fs av) ∧ w.grownBy w' v.ownBlock ∧
      ((Value.slice A' (n + fs.length) c').ownBlock = v.ownBlock ∨ (Value.slice A' (n + fs.length) c').ownBlock = some w.heap.size) := by
  have hform : ∀ {w' : World} {v' : Value} {m : Nat} {zs : List Value}, w'.ownsRow base e 2 v' m zs → ∃ A c, v' = .slice A m c := by
    intro w' v' m zs h
    rcases h.2 with ⟨rfl, h0⟩ | ⟨g, cap, _, rfl, _⟩
    · exact ⟨none, 0, by rw [h0]⟩
    · exact ⟨_, _, rfl⟩
  rcases A with _ | ad
  · have h0 := hx.1 rfl
    have hl := flat_length fs av ha.1
    rw [h0] at hl
    have hfs : fs = [] := List.eq_nil_of_length_eq_zero (by simp at hl; omega)
    subst hfs
    obtain ⟨A', c', hv⟩ := hform hown
    refine ⟨A', c', w, ?_, by simpa [flat, ← hv] using hown, World.grownBy.refl w _, .inl (by simp only [List.length_nil, Nat.add_zero]; rw [hv])⟩
    simp only [List.length_nil, Nat.add_zero]
    rw [← hv]
    exact run_append_nilsrc w base t ty e i 2 ht hi v n xs hown c
  · obtain ⟨v', w', hrun, h2, h3, _, h5⟩ := run_append_own_at (P := P) w base t ty e i z 2 bytes ht hi hz hsize hby hzs (by decide) v n xs hown ad fs.length c (flat fs av) (flat_length fs av ha.1) (hx.2 ad rfl)
      (flat_one fs av ha) h63 hbytes hbase
    obtain ⟨A', c', hv⟩ := hform h2
    subst hv
    exact ⟨A', c', w', hrun, h2, h3, h5⟩

theorem wpList_append_facts {P : Program} {w : World} {ops : Array Oper} {rest : List Oper} {o : Oper} {a : Act} {Q : Exit → Act → World → Prop} (hgd : o.guard = none) (s x : Operand) (t : TypeId)
    (ho : o.op = .call { callee := .builtin .append, args := #[s, x], argTypes := #[t, t] })
    (base : Nat) (e : TypeId) (i : TypeInfo) (z : Value) (bytes : Nat) (ht : P.underlying t = some (.slice e)) (hi : P.info? e = some i) (hz : i.zero = some z)
    (hsize : i.size = 2) (hby : i.bytes = bytes) (hzs : z.cells.size = 2)
    (v : Value) (n : Nat) (xs : List Value) (hs : a.eval s = v) (hown : w.ownsRow base e 2 v n xs) (A : Option Addr) (c : Nat) (fs : List LFact) (av : List Value) (B : Nat) (hx : a.eval x = .slice A fs.length c) (ha : RdArgs w B av fs) (hc : CellsAt w A (flat fs av))
    (h63 : n + fs.length ≤ maxLen) (hbytes : (n + fs.length) * bytes ≤ 140737488355328) (hbase : base ≤ w.heap.size)
    (h : ∀ A' c' w', w'.ownsRow base e 2 (.slice A' (n + fs.length) c') (n + fs.length) (xs ++ flat fs av) → w.grownBy w' v.ownBlock →
      ((Value.slice A' (n + fs.length) c').ownBlock = v.ownBlock ∨ (Value.slice A' (n + fs.length) c').ownBlock = some w.heap.size) → wpList P ops Q rest (a.put o.dst (.slice A' (n + fs.length) c')) w') : wpList P ops Q (o :: rest) a w := by
  refine wpList_plain hgd fun _ hK => ?_
  obtain ⟨A', c', w', hrun, h2, h3, h4⟩ := run_append_facts (P := P) w base t o.type e i z bytes ht hi hz hsize hby hzs v n xs hown A c fs av B ha hc h63 hbytes hbase
  unfold Oper.wp execOp
  simp only [ho, resolve, invoke, builtin, Sem.run_bind, Sem.run_pure, Result.andThen_ok, List.map_toArray, List.map_cons, List.map_nil, hs, hx, hrun]
  exact hK _ _ (h A' c' w' h2 h3 h4)

end Go.Proofs.Ytocpfmbieedpgaa
/-
  slices.Clone at facts: a row of the call's own whose headers are the given ones.
-/
namespace Go.Proofs.Ytocpfmbieedpgaa
open Go.RowKit

theorem CellsAt.on {w w' : World} {A : Option Addr} {cs : List Value} (h : CellsAt w A cs) (hb : Below w.heap.size w w') : CellsAt w' A cs :=
  ⟨h.1, fun ad e j u hu => (hb.cell (World.block_lt_of_cell? _ _ (h.2 ad e j u hu))).trans (h.2 ad e j u hu)⟩

/-- A row of the call's own, from base on, that holds facts whose headers are av; they read in w. -/
structure RowF (w : World) (base : Nat) (A : Option Addr) (c : Nat) (fs : List LFact) (av : List Value) : Prop where
  row : w.ownsRow base 118 2 (.slice A fs.length c) fs.length (flat fs av)
  rd : RdArgs w w.heap.size av fs

theorem RowF.on {w w' : World} {base : Nat} {A : Option Addr} {c : Nat} {fs : List LFact} {av : List Value} (h : RowF w base A c fs av) (hb : Below w.heap.size w w') : RowF w' base A c fs av :=
  ⟨ownsRow_below h.row (fun g hg => (h.row.lt g hg).2) hb (Nat.le_refl _), h.rd.on hb⟩
theorem RowF.mono {w : World} {base base' : Nat} {A : Option Addr} {c : Nat} {fs : List LFact} {av : List Value} (h : RowF w base A c fs av) (hb : base' ≤ base) : RowF w base' A c fs av := ⟨ownsRow_mono h.row hb, h.rd⟩
theorem RowF.facts {w : World} {base : Nat} {A : Option Addr} {c : Nat} {fs : List LFact} {av : List Value} (h : RowF w base A c fs av) : RdFacts w w.heap.size (.slice A fs.length c) fs := by
  have hcells := @World.ownsRow.cells w base 118 2 (.slice A fs.length c) fs.length (flat fs av) h.row
  have hlt := h.row.lt
  have hl := h.rd.1
  rcases h.row.2 with ⟨e, h0⟩ | ⟨g, cap, cur, e, hb, hgg, hn, _⟩
  · injection e with e1 _ e3
    subst e1
    subst e3
    exact ⟨none, 0, rfl, by omega, fun hp => by omega⟩
  · injection e with e1 _ e3
    subst e1
    subst e3
    refine ⟨_, _, rfl, hn, fun _ => ⟨g, 0, rfl, (hlt g rfl).2, fun k hk => ?_⟩⟩
    obtain ⟨c0, c1⟩ := flat_at fs av hl k hk (by omega)
    have d0 := hcells (g := g) rfl _ _ c0
    have d1 := hcells (g := g) rfl _ _ c1
    rw [Go.WideShapes.add_plain] at d0 d1
    exact ⟨_, d0, d1, h.rd.2 k hk (by omega) hk⟩

theorem facts_eqlSome (ad : Addr) (n c : Nat) (w : World) : (binOp .eql 66 (.slice (some ad) n c) (.slice none 0 0)).run Try.prog w = .ok (.bool false) w := by kernel_rfl
theorem facts_eqlNil (n c : Nat) (w : World) : (binOp .eql 66 (.slice none n c) (.slice none 0 0)).run Try.prog w = .ok (.bool true) w := by kernel_rfl

end Go.Proofs.Ytocpfmbieedpgaa
/-
  slices.Grow of the nil slice, slices.Clone, slices.Concat of two slices: at facts.
-/
namespace Go.Proofs.Ytocpfmbieedpgaa
open Go.RowKit

theorem size_zeroPairs (n : Nat) : (Builtin.zeroCells #[Value.int IntKind.i64 0, Value.slice none 0 0] n).size = n * 2 := by simp [Builtin.zeroCells]

/-- What has been laid behind each other after k of two slices. -/
def joinF (xs ys : List LFact) (k : Nat) : List LFact := if k = 0 then [] else if k = 1 then xs else xs ++ ys
def joinV (xs ys : List Value) (k : Nat) : List Value := if k = 0 then [] else if k = 1 then xs else xs ++ ys
def joinN (n m k : Nat) : Nat := if k = 0 then 0 else if k = 1 then n else n + m

end Go.Proofs.Ytocpfmbieedpgaa
/-
  FactOrder's contract with its worlds written out: draws on, and blocks behind.
-/
namespace Go.Proofs.Ytocpfmbieedpgaa
open Go.RowKit Go.Sort

/-- W is w some draws on, with blocks laid behind it. -/
def Gr (w W : World) : Prop := ∃ q os, W = grow (w.drewN q) os
theorem Gr.refl (w : World) : Gr w w := ⟨0, #[], by simp [grow, World.drewN]⟩
theorem Gr.alloc {w W : World} (h : Gr w W) (o : Obj) : Gr w (W.alloc o) := by
  obtain ⟨q, os, rfl⟩ := h
  exact ⟨q, os.push o, by simp [grow, World.alloc]⟩
theorem Gr.drew {w W : World} (h : Gr w W) : Gr w W.drew := by
  obtain ⟨q, os, rfl⟩ := h
  exact ⟨q + 1, os, rfl⟩
theorem Gr.drewN {w W : World} (h : Gr w W) (n : Nat) : Gr w (W.drewN n) := by
  obtain ⟨q, os, rfl⟩ := h
  exact ⟨q + n, os, by simp [grow, World.drewN, Nat.add_assoc]⟩
theorem Gr.trans {w w1 W : World} (h : Gr w w1) (k : Gr w1 W) : Gr w W := by
  obtain ⟨q, os, rfl⟩ := h
  obtain ⟨q', os', rfl⟩ := k
  exact ⟨q + q', os ++ os', by simp [grow, World.drewN, Nat.add_assoc, Array.append_assoc]⟩
theorem Gr.below {w W : World} (h : Gr w W) : Below w.heap.size w W := by
  obtain ⟨q, os, rfl⟩ := h
  exact ⟨rfl, rfl, rfl, by simp [grow, World.drewN], fun k hk => by simp [grow, World.drewN, Array.getElem?_append, hk]⟩

set_option maxHeartbeats 400000 in
set_option maxRecDepth 100000 in
theorem implFactOrder_grow (v v2 : Value) (f g : LFact) (w : World) (h : RdFact w w.heap.size v f) (h2 : RdFact w w.heap.size v2 g) (hn : f.2.length ≤ 1048576) (hn2 : g.2.length ≤ 1048576) :
    Calls Try.prog 115 #[v, v2] w fun e w' => e = .returned (.int .i64 (factOrder f g)) ∧ Gr w w' := by
  obtain ⟨a, rfl, h⟩ := h
  have H := Lib.hid h
  obtain ⟨A, c, rfl, hc, _⟩ := h
  obtain ⟨a, rfl, h2⟩ := h2
  have H2 := Lib.hid h2
  obtain ⟨A2, c2, rfl, hc2, _⟩ := h2
  have HF := Lib.hid (factOrder_or f g)
  go_enter Try.func115, Try.ntmps115
  go_wp2_with (fail)
  obtain ⟨w1, hw1⟩ : ∃ w1, w1 = ((w.alloc (Obj.cells #[Value.int IntKind.i64 f.1, Value.slice A f.2.length c] 118)).alloc (Obj.cells #[Value.int IntKind.i64 g.1, Value.slice A2 g.2.length c2] 118)) := ⟨_, rfl⟩
  have B1 : Gr w w1 := by rw [hw1]; exact ((Gr.refl _).alloc _).alloc _
  have k0 : Blk w1 w.heap.size 118 #[.int .i64 f.1, .slice A f.2.length c] := by rw [hw1]; exact (Blk.new w _ _).alloc _
  have k1 : Blk w1 (w.heap.size + 1) 118 #[.int .i64 g.1, .slice A2 g.2.length c2] := by rw [hw1]; simpa using Blk.new (w.alloc (Obj.cells #[Value.int IntKind.i64 f.1, Value.slice A f.2.length c] 118)) 118 #[.int .i64 g.1, .slice A2 g.2.length c2]
  rw [← hw1]
  clear hw1
  have HS0 := Lib.hid (show ∀ W, Gr w1 W → (Gr w1 W ∧ W.cell? ⟨w.heap.size, 0, none⟩ = some (.int .i64 f.1) ∧ W.cell? ⟨w.heap.size, 1, none⟩ = some (.slice A f.2.length c) ∧ W.cell? ⟨w.heap.size + 1, 0, none⟩ = some (.int .i64 g.1) ∧ W.cell? ⟨w.heap.size + 1, 1, none⟩ = some (.slice A2 g.2.length c2)) from
    fun W hW => ⟨hW, (k0.below hW.below k0.lt).cell 0, (k0.below hW.below k0.lt).cell 1, (k1.below hW.below k1.lt).cell 0, (k1.below hW.below k1.lt).cell 1⟩)
  go_region_held3 (fun W => Gr w1 W ∧ W.cell? ⟨w.heap.size, 0, none⟩ = some (.int .i64 f.1) ∧ W.cell? ⟨w.heap.size, 1, none⟩ = some (.slice A f.2.length c) ∧ W.cell? ⟨w.heap.size + 1, 0, none⟩ = some (.int .i64 g.1) ∧ W.cell? ⟨w.heap.size + 1, 1, none⟩ = some (.slice A2 g.2.length c2))
    (first | assumption | exact HS0.out _ (Gr.refl _) | exact HS0.out _ ((Gr.refl _).alloc _).drew | exact HS0.out _ (Gr.refl _).drew | exact HS0.out _ ((And.left (by assumption) : Gr w1 _).alloc _) | exact HS0.out _ (And.left (by assumption) : Gr w1 _).drew | (refine HS0.out _ ?_; go_goals; fail))
    (first
      | (go_at_call 134; refine (cmpCompare_any _ _ _).mono ?_; rintro e w' ⟨rfl, rfl⟩)
      | (go_at_call 135; refine (slicesCompare_any _ _ f.2 g.2 _ ?_ ?_ (by omega) (by omega)).mono ?_; exact H.out.on (bthen B1.below (And.left (by assumption) : Gr w1 _).below); exact H2.out.on (bthen B1.below (And.left (by assumption) : Gr w1 _).below); rintro e w' ⟨rfl, rfl⟩)
      | (go_at_call 133; refine (cmpOr_any _ (cmpI f.1 g.1) (cmpL f.2 g.2) _ ?_).mono ?_; exact rdInts_pair _ _ _; rintro e w' ⟨rfl, rfl⟩))
  all_goals
    go_wp2_with (fail)
    go_ret
    exact ⟨ret_int HF.out, B1.trans (And.left (by assumption))⟩

end Go.Proofs.Ytocpfmbieedpgaa
/-
  Facts in order, plain mathematics: the order, lists that ascend, FactsWith on them, and that their members determine them.
-/
namespace Go.Proofs.Ytocpfmbieedpgaa

theorem cmpI_neg {a b : Int} : cmpI a b < 0 ↔ a < b := by
  unfold cmpI
  split
  · simp; assumption
  · split <;> simp <;> omega
theorem cmpI_pos {a b : Int} : 0 < cmpI a b ↔ b < a := by
  unfold cmpI
  split
  · simp; omega
  · split <;> simp <;> omega
theorem cmpL_eq : ∀ {xs ys : List Int}, cmpL xs ys = 0 → xs = ys
  | [], [], _ => rfl
  | [], _ :: _, h => by simp [cmpL] at h
  | _ :: _, [], h => by simp [cmpL] at h
  | x :: xs, y :: ys, h => by
    unfold cmpL at h
    split at h
    · rename_i e
      rw [e, cmpL_eq h]
    · exact absurd (cmpI_zero h) (by assumption)
theorem cmpL_refl : ∀ xs : List Int, cmpL xs xs = 0
  | [] => rfl
  | x :: xs => by simp [cmpL, cmpL_refl xs]
theorem cmpL_flip : ∀ {xs ys : List Int}, cmpL xs ys < 0 ↔ 0 < cmpL ys xs
  | [], [] => by simp [cmpL]
  | [], _ :: _ => by simp [cmpL]
  | _ :: _, [] => by simp [cmpL]
  | x :: xs, y :: ys => by
    unfold cmpL
    by_cases e : x = y
    · subst e
      simpa using cmpL_flip
    · rw [if_neg e, if_neg (fun h => e h.symm), cmpI_neg, cmpI_pos]
theorem cmpL_less : ∀ {xs ys zs : List Int}, cmpL xs ys < 0 → cmpL ys zs < 0 → cmpL xs zs < 0
  | [], [], _, h, _ => by simp [cmpL] at h
  | [], _ :: _, [], _, h => by simp [cmpL] at h
  | [], _ :: _, _ :: _, _, _ => by simp [cmpL]
  | _ :: _, [], _, h, _ => by simp [cmpL] at h
  | _ :: _, _ :: _, [], _, h => by simp [cmpL] at h
  | x :: xs, y :: ys, z :: zs, h1, h2 => by
    unfold cmpL at h1 h2 ⊢
    by_cases e1 : x = y
    · subst e1
      by_cases e2 : x = z
      · simp only [e2, if_true] at h1 h2 ⊢
        exact cmpL_less h1 h2
      · simpa [e2] using h2
    · by_cases e2 : y = z
      · subst e2
        simpa [e1] using h1
      · rw [if_neg e1] at h1
        rw [if_neg e2] at h2
        rw [cmpI_neg] at h1 h2
        rw [if_neg (by omega), cmpI_neg]
        omega

theorem order_eq {f g : LFact} (h : factOrder f g = 0) : f = g := by
  unfold factOrder at h
  split at h
  · exact Prod.ext (by assumption) (cmpL_eq h)
  · exact absurd (cmpI_zero h) (by assumption)
theorem order_refl (f : LFact) : factOrder f f = 0 := by simp [factOrder, cmpL_refl]
theorem order_flip {f g : LFact} : factOrder f g < 0 ↔ 0 < factOrder g f := by
  unfold factOrder
  by_cases e : f.1 = g.1
  · rw [if_pos e, if_pos e.symm]
    exact cmpL_flip
  · rw [if_neg e, if_neg (fun h => e h.symm), cmpI_neg, cmpI_pos]
theorem order_less {f g h : LFact} (h1 : factOrder f g < 0) (h2 : factOrder g h < 0) : factOrder f h < 0 := by
  unfold factOrder at h1 h2 ⊢
  by_cases e1 : f.1 = g.1
  · by_cases e2 : g.1 = h.1
    · rw [if_pos e1] at h1
      rw [if_pos e2] at h2
      rw [if_pos (e1.trans e2)]
      exact cmpL_less h1 h2
    · rw [if_neg e2] at h2
      rw [if_neg (fun e => e2 (e1.symm.trans e)), e1]
      exact h2
  · by_cases e2 : g.1 = h.1
    · rw [if_neg e1] at h1
      rw [if_neg (fun e => e1 (e.trans e2.symm)), ← e2]
      exact h1
    · rw [if_neg e1, cmpI_neg] at h1
      rw [if_neg e2, cmpI_neg] at h2
      rw [if_neg (by omega), cmpI_neg]
      omega
theorem order_cases (f g : LFact) : factOrder f g < 0 ∨ f = g ∨ factOrder g f < 0 := by
  rcases Int.lt_trichotomy (factOrder f g) 0 with h | h | h
  · exact .inl h
  · exact .inr (.inl (order_eq h))
  · exact .inr (.inr (order_flip.2 h))

/-- The list ascends, each fact once. -/
def Asc (l : List LFact) : Prop := l.Pairwise fun f g => factOrder f g < 0

/-- Lists that ascend and have the same members are the same. -/
theorem Asc.unique : ∀ {l m : List LFact}, Asc l → Asc m → (∀ f, f ∈ l ↔ f ∈ m) → l = m
  | [], [], _, _, _ => rfl
  | [], g :: m, _, _, h => absurd ((h g).2 (List.mem_cons_self ..)) (by simp)
  | f :: l, [], _, _, h => absurd ((h f).1 (List.mem_cons_self ..)) (by simp)
  | f :: l, g :: m, hl, hm, h => by
    have hl' := List.pairwise_cons.1 hl
    have hm' := List.pairwise_cons.1 hm
    have e : f = g := by
      rcases List.mem_cons.1 ((h f).1 (List.mem_cons_self ..)) with e | e
      · exact e
      rcases List.mem_cons.1 ((h g).2 (List.mem_cons_self ..)) with e' | e'
      · exact e'.symm
      have h1 := hm'.1 f e
      have h2 := hl'.1 g e'
      have := order_less h1 h2
      rw [order_refl] at this
      omega
    subst e
    refine congrArg (f :: ·) (Asc.unique hl'.2 hm'.2 fun x => ⟨fun hx => ?_, fun hx => ?_⟩)
    · rcases List.mem_cons.1 ((h x).1 (List.mem_cons_of_mem _ hx)) with e | e
      · subst e
        have := hl'.1 x hx
        rw [order_refl] at this
        omega
      · exact e
    · rcases List.mem_cons.1 ((h x).2 (List.mem_cons_of_mem _ hx)) with e | e
      · subst e
        have := hm'.1 x hx
        rw [order_refl] at this
        omega
      · exact e

/-- Insertion. -/
def ins (f : LFact) : List LFact → List LFact
  | [] => [f]
  | g :: l => if factOrder f g < 0 then f :: g :: l else if factOrder f g = 0 then f :: l else g :: ins f l

theorem ins_mem (f : LFact) : ∀ (l : List LFact) (x : LFact), x ∈ ins f l ↔ x = f ∨ x ∈ l
  | [], x => by simp [ins]
  | g :: l, x => by
    unfold ins
    split
    · simp
    · split
      · have e := order_eq (by assumption : factOrder f g = 0)
        subst e
        simp
      · simp [ins_mem f l x]
        constructor
        · rintro (h | h | h) <;> simp [h]
        · rintro (h | h | h) <;> simp [h]
theorem Asc.ins {f : LFact} : ∀ {l : List LFact}, Asc l → Asc (ins f l)
  | [], _ => by simp [Go.Proofs.Ytocpfmbieedpgaa.ins, Asc]
  | g :: l, h => by
    have h' := List.pairwise_cons.1 h
    unfold Go.Proofs.Ytocpfmbieedpgaa.ins
    split
    · rename_i hlt
      refine List.pairwise_cons.2 ⟨fun x hx => ?_, h⟩
      rcases List.mem_cons.1 hx with e | e
      · rw [e]; exact hlt
      · exact order_less hlt (h'.1 x e)
    · split
      · have e := order_eq (by assumption : factOrder f g = 0)
        subst e
        exact h
      · refine List.pairwise_cons.2 ⟨fun x hx => ?_, Asc.ins h'.2⟩
        rcases (ins_mem f l x).1 hx with e | e
        · subst e
          rcases order_cases x g with h1 | h1 | h1
          · exact absurd h1 (by assumption)
          · subst h1
            exact absurd (order_refl x) (by assumption)
          · exact h1
        · exact h'.1 x e

/-- FactsWith's fold, from a state where the fact is placed already and the rest ascends behind it. -/
theorem withStep_placed (f : LFact) : ∀ (l : List LFact) (out : List LFact), (∀ g ∈ l, factOrder f g ≠ 0) → l.foldl (withStep f) (out, true) = (out ++ l, true)
  | [], out, _ => by simp
  | g :: l, out, h => by
    have h0 := h g (List.mem_cons_self ..)
    simp only [List.foldl_cons, withStep]
    simp [h0]
    rw [withStep_placed f l (out ++ [g]) fun x hx => h x (List.mem_cons_of_mem _ hx)]
    simp

def endW (f : LFact) (s : List LFact × Bool) : List LFact := if s.2 then s.1 else s.1 ++ [f]
theorem withStep_fold (f : LFact) : ∀ (l : List LFact) (out : List LFact), Asc l → endW f (l.foldl (withStep f) (out, false)) = out ++ ins f l
  | [], out, _ => by simp [ins, endW]
  | g :: l, out, h => by
    have h' := List.pairwise_cons.1 h
    simp only [List.foldl_cons]
    rcases Int.lt_trichotomy (factOrder f g) 0 with h1 | h1 | h1
    · have e : withStep f (out, false) g = (out ++ [f] ++ [g], true) := by
        simp [withStep, show factOrder f g ≤ 0 by omega, show factOrder f g ≠ 0 by omega]
      rw [e, withStep_placed f l _ fun x hx => by have := order_less h1 (h'.1 x hx); omega]
      simp [ins, h1, endW]
    · have e : withStep f (out, false) g = (out ++ [f], true) := by
        simp [withStep, h1]
      have e2 := order_eq h1
      subst e2
      rw [e, withStep_placed f l _ fun x hx => by have := h'.1 x hx; omega]
      simp [ins, order_refl, endW]
    · have e : withStep f (out, false) g = (out ++ [g], false) := by
        simp [withStep, show ¬ factOrder f g ≤ 0 by omega, show factOrder f g ≠ 0 by omega]
      rw [e, withStep_fold f l _ h'.2]
      simp [ins, show ¬ factOrder f g < 0 by omega, show factOrder f g ≠ 0 by omega]

/-- FactsWith on a list that ascends is insertion. -/
theorem Asc.with_ {l : List LFact} (h : Asc l) (f : LFact) : factsWith l f = Go.Proofs.Ytocpfmbieedpgaa.ins f l := by
  have := withStep_fold f l [] h
  unfold endW at this
  unfold factsWith withTo
  rw [List.take_length]
  simpa using this

/-- Facts laid into a list, one after another. -/
def setOf (l : List LFact) : List LFact := l.foldl factsWith []
theorem foldWith : ∀ (l : List LFact) (out : List LFact), Asc out → Asc (l.foldl factsWith out) ∧ ∀ x, x ∈ l.foldl factsWith out ↔ x ∈ out ∨ x ∈ l
  | [], out, h => by simpa using h
  | f :: l, out, h => by
    have h1 : Asc (factsWith out f) := by rw [h.with_ f]; exact h.ins
    obtain ⟨h2, h3⟩ := foldWith l _ h1
    refine ⟨h2, fun x => ?_⟩
    rw [List.foldl_cons, h3 x, h.with_ f, ins_mem]
    simp only [List.mem_cons]
    constructor
    · rintro ((h | h) | h) <;> simp [h]
    · rintro (h | h | h) <;> simp [h]
theorem setOf_asc (l : List LFact) : Asc (setOf l) := (foldWith l [] List.Pairwise.nil).1
theorem setOf_mem (l : List LFact) (x : LFact) : x ∈ setOf l ↔ x ∈ l := by
  rw [setOf, (foldWith l [] List.Pairwise.nil).2 x]
  simp

/-- The list ascends, a fact perhaps more than once. -/
def Up (l : List LFact) : Prop := l.Pairwise fun f g => factOrder f g ≤ 0
/-- Of equal neighbours the last one. -/
def compactL : List LFact → List LFact
  | [] => []
  | [f] => [f]
  | f :: g :: l => if factOrder f g = 0 then compactL (g :: l) else f :: compactL (g :: l)
theorem compactL_mem : ∀ (l : List LFact) (x : LFact), x ∈ compactL l ↔ x ∈ l
  | [], x => by simp [compactL]
  | [f], x => by simp [compactL]
  | f :: g :: l, x => by
    unfold compactL
    split
    · have e := order_eq (by assumption : factOrder f g = 0)
      subst e
      rw [compactL_mem (f :: l) x]
      simp
    · rw [List.mem_cons, compactL_mem (g :: l) x]
      simp
theorem Up.asc : ∀ {l : List LFact}, Up l → Asc (compactL l)
  | [], _ => List.Pairwise.nil
  | [f], _ => by simp [compactL, Asc]
  | f :: g :: l, h => by
    have h' := List.pairwise_cons.1 h
    unfold compactL
    split
    · exact Up.asc h'.2
    · refine List.pairwise_cons.2 ⟨fun x hx => ?_, Up.asc h'.2⟩
      rw [compactL_mem] at hx
      have hfg : factOrder f g < 0 := by
        have := h'.1 g (List.mem_cons_self ..)
        omega
      rcases List.mem_cons.1 hx with e | e
      · rw [e]; exact hfg
      · have h2 := (List.pairwise_cons.1 h'.2).1 x e
        rcases Int.lt_trichotomy (factOrder g x) 0 with h3 | h3 | h3
        · exact order_less hfg h3
        · rw [← order_eq h3]; exact hfg
        · omega

/-- Sorted and compacted, and laid one after another: the same. -/
theorem compact_setOf {s l : List LFact} (h : Up s) (hm : ∀ x, x ∈ s ↔ x ∈ l) : compactL s = setOf l :=
  h.asc.unique (setOf_asc l) fun x => by rw [compactL_mem, setOf_mem, hm]
theorem compact_filter {s l : List LFact} (h : Up s) (hm : ∀ x, x ∈ s ↔ x ∈ l) (p : LFact → Bool) : (compactL s).filter p = setOf (l.filter p) :=
  Asc.unique (h.asc.filter p) (setOf_asc _) fun x => by rw [List.mem_filter, compactL_mem, setOf_mem, List.mem_filter, hm]

end Go.Proofs.Ytocpfmbieedpgaa
/-
  slices.SortFunc at facts by FactOrder: a permutation, ascending.
-/
namespace Go.Proofs.Ytocpfmbieedpgaa
open Go.RowKit Go.Sort

/-- An element of the row: a fact, its header, which reads in blocks below g. -/
def El (w : World) (g : Nat) : Type := { x : LFact × Value // RdInts w g x.2 x.1.2 ∧ x.1.2.length ≤ 1048576 }
instance (w : World) (g : Nat) : Inhabited (El w g) := ⟨⟨((0, []), .slice none 0 0), ⟨none, 0, rfl, by simp, fun h => absurd h (by simp)⟩, by simp⟩⟩
def encE {w : World} {g : Nat} (x : El w g) : List Value := [.int .i64 x.1.1.1, x.1.2]
def cfE {w : World} {g : Nat} (x y : El w g) : Int := factOrder x.1.1 y.1.1

section
variable {w : World} {g : Nat}
theorem ltE (x y : El w g) : ltOf cfE x y = decide (factOrder x.1.1 y.1.1 < 0) := rfl
theorem swoE : SWO (ltOf (cfE (w := w) (g := g))) where
  irrefl x := by rw [ltE, order_refl]; rfl
  trans x y z h1 h2 := by
    rw [ltE] at *
    exact decide_eq_true (order_less (of_decide_eq_true h1) (of_decide_eq_true h2))
  ntrans x y z h1 h2 := by
    rw [ltE] at *
    refine decide_eq_false fun h3 => ?_
    have h1 := of_decide_eq_false h1
    have h2 := of_decide_eq_false h2
    rcases order_cases x.1.1 y.1.1 with h | h | h
    · exact h1 h
    · rw [h] at h3
      exact h2 h3
    · exact h2 (order_less h h3)

theorem below_sortWorld {α : Type} [Inhabited α] (enc : α → List Value) (m : Nat) (dk : Array α) (os : Array Obj) : Only g (g + 1) w (sortWorldK enc 2 w g 0 m dk os) := by
  refine ⟨rfl, rfl, rfl, ?_, fun k hk ho => ?_⟩
  · simp [sortWorldK, putRowK, putRow, mapBlock, Sort.grow, Sort.ahead]
  · have hne : ¬ g = k := by omega
    simp only [sortWorldK, putRowK, putRow, mapBlock, Sort.grow, Sort.ahead, Array.getElem?_append, Array.size_modify, Array.getElem?_modify, hne, if_false]
    rw [if_pos hk]

theorem flatE : ∀ (l : List (El w g)), (flatK encE 2 l.toArray).toList = flat (l.map (·.1.1)) (l.map (·.1.2)) := by
  intro l
  have hl : (l.map fun x : El w g => x.1.2).length = (l.map fun x : El w g => x.1.1).length := by simp
  have hfl := flat_length (l.map fun x : El w g => x.1.1) (l.map fun x : El w g => x.1.2) hl
  simp only [List.length_map] at hfl
  have hsz : (flatK encE 2 l.toArray).size = l.length * 2 := by simp
  apply List.ext_getElem
  · rw [Array.length_toList, hsz, hfl]
  · intro t h1 h2
    rw [Array.length_toList, hsz] at h1
    have hk : t / 2 < l.length := by omega
    obtain ⟨c0, c1⟩ := flat_at (l.map fun x : El w g => x.1.1) (l.map fun x : El w g => x.1.2) hl (t / 2) (by simpa using hk) (by simpa using hk)
    have hget : (flatK encE 2 l.toArray)[t]'(by rw [hsz]; exact h1) = (encE l[t / 2])[t % 2]! := by
      have := get_flatK (encE (w := w) (g := g)) 2 l.toArray t (by simpa using h1)
      rw [getElem!_pos _ _ (by rw [hsz]; exact h1)] at this
      rw [this]
      congr 2
      rw [getElem!_pos _ _ (by simpa using hk)]
      simp
    rw [Array.getElem_toList, hget]
    apply Option.some.inj
    rw [← List.getElem?_eq_getElem h2]
    rcases (show t % 2 = 0 ∨ t % 2 = 1 by omega) with e | e
    · have et : t = t / 2 * 2 := by omega
      rw [e]
      conv => rhs; rw [et, c0]
      simp [encE]
    · have et : t = t / 2 * 2 + 1 := by omega
      rw [e]
      conv => rhs; rw [et, c1]
      simp [encE]

theorem elems {fs : List LFact} {av : List Value} (h : RdArgs w g av fs) (hl : ∀ k (hk : k < fs.length), fs[k].2.length ≤ 1048576) : ∃ l : List (El w g), l.map (·.1.1) = fs ∧ l.map (·.1.2) = av := by
  let F : Fin fs.length → El w g := fun i => ⟨(fs[i.1], av[i.1]'(by have := i.2; have := h.1; omega)), h.2 i.1 i.2 _ i.2, hl i.1 i.2⟩
  refine ⟨List.ofFn F, ?_, ?_⟩
  · apply List.ext_getElem
    · rw [List.length_map, List.length_ofFn]
    · intro k k1 k2
      rw [List.getElem_map, List.getElem_ofFn]
  · apply List.ext_getElem
    · rw [List.length_map, List.length_ofFn, h.1]
    · intro k k1 k2
      rw [List.getElem_map, List.getElem_ofFn]

theorem rdE (l : List (El w g)) : RdArgs w g (l.map (·.1.2)) (l.map (·.1.1)) := ⟨by simp, fun k _ h2 h3 => by simpa using (l[k]'(by simpa using h3)).2.1⟩
end

theorem RdArgs.below {w w' : World} {B B' : Nat} {av : List Value} {fs : List LFact} (h : RdArgs w B av fs) (hb : Below B' w w') (hB : B ≤ B') : RdArgs w' B av fs := ⟨h.1, fun k h1 h2 h3 => (h.2 k h1 h2 h3).below hb hB⟩
theorem RdArgs.more {w : World} {B B' : Nat} {av : List Value} {fs : List LFact} (h : RdArgs w B av fs) (hB : B ≤ B') : RdArgs w B' av fs := ⟨h.1, fun k h1 h2 h3 => (h.2 k h1 h2 h3).more hB⟩

/-- The row at block g, from its start, holds facts with these headers. -/
def AtRow (w : World) (g cap : Nat) (fs : List LFact) (av : List Value) : Prop :=
  ∃ cur, w.heap[g]? = some (.cells cur 118 (0, 0)) ∧ fs.length ≤ cap ∧ cap ≤ maxLen ∧ cur.size = cap * 2 ∧ cur.toList.take (fs.length * 2) = flat fs av
theorem AtRow.lt {w : World} {g cap : Nat} {fs : List LFact} {av : List Value} (h : AtRow w g cap fs av) : g < w.heap.size := by
  obtain ⟨cur, hg, _⟩ := h
  exact Blk.lt hg
theorem RowF.at_ {w : World} {base c : Nat} {A : Option Addr} {fs : List LFact} {av : List Value} (h : RowF w base A c fs av) (hn : 0 < fs.length) : ∃ g, A = some ⟨g, 0, none⟩ ∧ base ≤ g ∧ AtRow w g c fs av := by
  rcases h.row.2 with ⟨_, h0⟩ | ⟨g, cap, cur, e, hb, hgg, r1, r2, r3, r4⟩
  · omega
  · injection e with e1 _ e3
    subst e1
    subst e3
    exact ⟨g, rfl, hb, cur, hgg, r1, r2, r3, r4⟩
theorem AtRow.row {w : World} {base g c : Nat} {fs : List LFact} {av : List Value} (h : AtRow w g c fs av) (hl : av.length = fs.length) (hb : base ≤ g) : w.ownsRow base 118 2 (.slice (some ⟨g, 0, none⟩) fs.length c) fs.length (flat fs av) := by
  obtain ⟨cur, hg, h1, h2, h3, h4⟩ := h
  exact ⟨flat_length _ _ hl, .inr ⟨g, c, cur, rfl, hb, hg, h1, h2, h3, h4⟩⟩
theorem AtRow.cell {w : World} {g c : Nat} {fs : List LFact} {av : List Value} (h : AtRow w g c fs av) {j : Nat} (hj : j < fs.length * 2) : w.cell? ⟨g, j, none⟩ = (flat fs av)[j]? := by
  obtain ⟨cur, hg, h1, h2, h3, h4⟩ := h
  rw [Blk.cell hg, ← h4, List.getElem?_take_of_lt hj, Array.getElem?_toList]
theorem AtRow.frozen {w : World} {g c : Nat} {fs : List LFact} {av : List Value} (h : AtRow w g c fs av) (j : Nat) : w.frozen? ⟨g, j, none⟩ = false := by
  obtain ⟨cur, hg, _⟩ := h
  exact Blk.frozen hg j

end Go.Proofs.Ytocpfmbieedpgaa
/-
  sameFact.
-/
namespace Go.Proofs.Ytocpfmbieedpgaa
open Go.RowKit Go.Sort

end Go.Proofs.Ytocpfmbieedpgaa
/-
  Compacting, plain mathematics; a row of facts under stores.
-/
namespace Go.Proofs.Ytocpfmbieedpgaa
open Go.RowKit Go.Sort

theorem same_iff (f g : LFact) : (factOrder f g == 0) = decide (f = g) := by
  by_cases h : f = g
  · subst h
    simp [order_refl]
  · rw [decide_eq_false h]
    simpa using fun e => h (order_eq e)

theorem compactL_snoc : ∀ (l : List LFact) (a b : LFact), compactL (l ++ [a, b]) = if a = b then compactL (l ++ [a]) else compactL (l ++ [a]) ++ [b]
  | [], a, b => by
    by_cases h : a = b
    · subst h
      simp [compactL, order_refl]
    · have : factOrder a b ≠ 0 := fun e => h (order_eq e)
      simp [compactL, this, h]
  | [x], a, b => by
    have ih := compactL_snoc [] a b
    simp only [List.nil_append] at ih
    show compactL (x :: a :: [b]) = _
    by_cases hx : factOrder x a = 0
    · rw [compactL, if_pos hx]
      show compactL [a, b] = _
      rw [ih, show compactL ([x] ++ [a]) = compactL [a] by simp [compactL, hx]]
    · rw [compactL, if_neg hx]
      show x :: compactL [a, b] = _
      rw [ih, show compactL ([x] ++ [a]) = x :: compactL [a] by simp [compactL, hx]]
      split <;> rfl
  | x :: y :: l, a, b => by
    have ih := compactL_snoc (y :: l) a b
    have e1 : x :: y :: l ++ [a, b] = x :: (y :: (l ++ [a, b])) := rfl
    have e2 : x :: y :: l ++ [a] = x :: (y :: (l ++ [a])) := rfl
    have e3 : y :: l ++ [a, b] = y :: (l ++ [a, b]) := rfl
    have e4 : y :: l ++ [a] = y :: (l ++ [a]) := rfl
    rw [e3, e4] at ih
    rw [e1, e2]
    by_cases hx : factOrder x y = 0
    · rw [compactL, if_pos hx, ih, compactL, if_pos hx]
    · rw [compactL, if_neg hx, ih, compactL, if_neg hx]
      split <;> rfl
/-- One more place. -/
theorem compact_step {fs : List LFact} {j : Nat} (h : j + 1 < fs.length) : compactL (fs.take (j + 2)) = if fs[j] = fs[j + 1] then compactL (fs.take (j + 1)) else compactL (fs.take (j + 1)) ++ [fs[j + 1]] := by
  have e1 : fs.take (j + 2) = fs.take j ++ [fs[j], fs[j + 1]] := by
    rw [take_snoc fs (j + 1) h, take_snoc fs j (by omega), List.append_assoc]
    rfl
  have e2 : fs.take (j + 1) = fs.take j ++ [fs[j]] := take_snoc fs j (by omega)
  rw [e1, e2]
  exact compactL_snoc _ _ _
theorem compactL_length_le : ∀ l : List LFact, (compactL l).length ≤ l.length
  | [] => by simp [compactL]
  | [f] => by simp [compactL]
  | f :: g :: l => by
    have := compactL_length_le (g :: l)
    unfold compactL
    split <;> simp at this ⊢ <;> omega

theorem flat_set_v : ∀ (fs : List LFact) (av : List Value) (j : Nat) (a : Value), av.length = fs.length → j < fs.length → flat fs (av.set j a) = (flat fs av).set (j * 2 + 1) a
  | [], _, j, _, _, h => absurd h (by simp)
  | _ :: _, [], _, _, h, _ => by simp at h
  | f :: fs, b :: av, 0, a, _, _ => by simp [flat]
  | f :: fs, b :: av, j + 1, a, h, hj => by
    have := flat_set_v fs av j a (by simpa using h) (by simpa using hj)
    rw [show (j + 1) * 2 + 1 = j * 2 + 1 + 1 + 1 by omega]
    simp [flat, this]

section
variable {w w' : World} {g c : Nat} {fs : List LFact} {av : List Value}
theorem AtRow.keep (h : AtRow w g c fs av) (hk : w'.heap[g]? = w.heap[g]?) : AtRow w' g c fs av := by
  obtain ⟨cur, hg, r⟩ := h
  exact ⟨cur, hk.trans hg, r⟩
theorem AtRow.below {B : Nat} (h : AtRow w g c fs av) (hb : Below B w w') (hB : g < B) : AtRow w' g c fs av := h.keep (hb.block g hB)
theorem AtRow.len (h : AtRow w g c fs av) : fs.length ≤ c := by
  obtain ⟨cur, _, h1, _⟩ := h
  exact h1
/-- A fact laid at a place. -/
theorem AtRow.set (h : AtRow w g c fs av) (hl : av.length = fs.length) {k : Nat} (hk : k < fs.length) (f : LFact) (a : Value) : AtRow ((w.setCell ⟨g, k * 2, none⟩ (.int .i64 f.1)).setCell ⟨g, k * 2 + 1, none⟩ a) g c (fs.set k f) (av.set k a) := by
  obtain ⟨cur, hg, h1, h2, h3, h4⟩ := h
  have s1 := Blk.set_ (show Blk w g 118 cur from hg) (k * 2) (.int .i64 f.1)
  have s2 := s1.set_ (k * 2 + 1) a
  refine ⟨_, s2, by simpa using h1, h2, by simpa using h3, ?_⟩
  rw [flat_set_v (fs.set k f) av k a (by simpa using hl) (by simpa using hk), flat_set fs av k f hl, ← h4]
  apply List.ext_getElem?
  intro j
  simp only [List.length_set, List.getElem?_take, Array.getElem?_toList, Array.getElem?_setIfInBounds, List.getElem?_set, Array.size_setIfInBounds, List.length_take, Array.length_toList]
  have hb : fs.length * 2 ≤ cur.size := by omega
  by_cases e1 : k * 2 + 1 = j
  · subst e1
    have : k * 2 + 1 < fs.length * 2 := by omega
    have h5 : k * 2 + 1 < cur.size := by omega
    simp [this, h5]
    omega
  · by_cases e2 : k * 2 = j
    · subst e2
      have : k * 2 < fs.length * 2 := by omega
      have h5 : k * 2 < cur.size := by omega
      simp [this, h5]
      omega
    · by_cases h6 : j < fs.length * 2
      · simp [e1, e2, h6]
      · simp [e1, e2, h6]
/-- The first m alone. -/
theorem AtRow.take (h : AtRow w g c fs av) (hl : av.length = fs.length) {m : Nat} (hm : m ≤ fs.length) : AtRow w g c (fs.take m) (av.take m) := by
  obtain ⟨cur, hg, h1, h2, h3, h4⟩ := h
  refine ⟨cur, hg, by simp; omega, h2, h3, ?_⟩
  have hlm : (fs.take m).length = m := by simp; omega
  rw [hlm]
  have e : flat fs av = flat (fs.take m) (av.take m) ++ flat (fs.drop m) (av.drop m) := by
    rw [← flat_append _ _ (by simp [hl]), List.take_append_drop, List.take_append_drop]
  have hfl := flat_length (fs.take m) (av.take m) (by simp [hl])
  rw [hlm] at hfl
  rw [e] at h4
  have := congrArg (List.take (m * 2)) h4
  rw [List.take_take, show min (m * 2) (fs.length * 2) = m * 2 by omega, List.take_append_of_le_length (by omega), ← hfl, List.take_length] at this
  rw [← hfl]
  exact this
end

theorem setCells_heap (g : Nat) : ∀ (vs : List Value) (o : Nat) (w : World) (cur : Array Value) (t : TypeId), w.heap[g]? = some (.cells cur t (0, 0)) →
    ∃ cur', (w.setCells g o vs).heap[g]? = some (.cells cur' t (0, 0)) ∧ cur'.size = cur.size ∧ (∀ j, j < o → cur'[j]? = cur[j]?) ∧ Only g (g + 1) w (w.setCells g o vs)
  | [], _, w, cur, t, h => ⟨cur, h, rfl, fun _ _ => rfl, Only.refl _ _ _⟩
  | v :: vs, o, w, cur, t, h => by
    obtain ⟨cur', h1, h2, h3, h4⟩ := setCells_heap g vs (o + 1) (w.setCell ⟨g, o, none⟩ v) _ t (Blk.set_ (show Blk w g t cur from h) o v)
    refine ⟨cur', h1, by simpa using h2, fun j hj => ?_, (Only.setCell (p := ⟨g, o, none⟩) (Only.refl g (g + 1) w) ⟨Nat.le_refl g, Nat.lt_succ_self g⟩ v).trans h4⟩
    rw [h3 j (by omega), Array.getElem?_setIfInBounds]
    rw [if_neg (by omega)]

/-- clear of the places from k on. -/
theorem run_clear_facts {w : World} {g c : Nat} {fs : List LFact} {av : List Value} (h : AtRow w g c fs av) {k : Nat} (hk : k < fs.length) (d : Nat) :
    ∃ W, (∀ ty, (Builtin.clear_ #[66] ty #[.slice (some ⟨g, k * 2, none⟩) (fs.length - k) d]).run Try.prog w = .ok (.tuple #[]) W) ∧ Only g (g + 1) w W ∧ ((av.length = fs.length) → AtRow W g c (fs.take k) (av.take k)) := by
  obtain ⟨cur, hg, h1, h2, h3, h4⟩ := h
  have hz : ∀ W, (zeroValue 118).run Try.prog W = .ok (.agg #[.int .i64 0, .slice none 0 0]) W := Try.zeroValue118
  obtain ⟨zc, hzc⟩ : ∃ zc, zc = (Builtin.zeroCells #[Value.int IntKind.i64 0, Value.slice none 0 0] (fs.length - k)).toList := ⟨_, rfl⟩
  have hzl : zc.length = (fs.length - k) * 2 := by rw [hzc, Array.length_toList, size_zeroPairs]
  have hz1 : ∀ v ∈ zc, v.oneCell' = true := by
    intro v hv
    rw [hzc] at hv
    simp [Builtin.zeroCells] at hv
    obtain ⟨i, _, hi⟩ := hv
    rcases (show i % 2 = 0 ∨ i % 2 = 1 by omega) with e | e
    · rw [e] at hi
      simp at hi
      rw [← hi]
      rfl
    · rw [e] at hi
      simp at hi
      rw [← hi]
      rfl
  have hst := run_storeCells_cells (P := Try.prog) g (k * 2) zc 0 w (fun j hj => by
      rw [Blk.cell hg, Array.getElem?_eq_getElem (by omega)]
      rfl) (fun j _ => Blk.frozen hg _) hz1
  rw [Nat.add_zero] at hst
  obtain ⟨cur', g1, g2, g3, g4⟩ := setCells_heap g zc (k * 2) w cur _ hg
  refine ⟨w.setCells g (k * 2) zc, fun ty => ?_, g4, fun hl => ?_⟩
  · obtain ⟨m, hm⟩ : ∃ m, fs.length - k = m + 1 := ⟨fs.length - k - 1, by omega⟩
    rw [hm] at hzc ⊢
    simp only [Builtin.clear_]
    simp [run_underlying Try.underlying66, hz, Value.cells, ← hzc, hst]
  · have hA : AtRow w g c fs av := ⟨cur, hg, h1, h2, h3, h4⟩
    obtain ⟨_, hg', _, _, _, h4'⟩ := hA.take hl (Nat.le_of_lt hk)
    rw [hg] at hg'
    injection hg' with hg'
    injection hg' with hg' _ _
    subst hg'
    refine ⟨cur', g1, by simp; omega, h2, by rw [g2]; exact h3, ?_⟩
    rw [← h4']
    have hlk : (fs.take k).length = k := by simp; omega
    rw [hlk]
    apply List.ext_getElem?
    intro j
    rw [List.getElem?_take, List.getElem?_take]
    split
    · rw [Array.getElem?_toList, Array.getElem?_toList]
      exact g3 j (by omega)
    · rfl

end Go.Proofs.Ytocpfmbieedpgaa
/-
  Some facts drawn: l1Some, its list of the call's own.
-/
namespace Go.Proofs.Ytocpfmbieedpgaa
open Go.RowKit

theorem OwnFacts.offG {w W : World} {lo hi g : Nat} {v : Value} {fs : List LFact} (h : OwnFacts w lo hi v fs) (k : Only g (g + 1) w W) (hg : g < lo) : OwnFacts W lo hi v fs := h.only k (.inr (by omega))

theorem OwnFacts.swap {w : World} {lo hi : Nat} {v : Value} {f0 f1 : LFact} {fs : List LFact} (h : OwnFacts w lo hi v (f0 :: f1 :: fs)) (hh : hi ≤ w.heap.size) :
    ∃ (g c : Nat) (A0 : Option Addr) (c0 : Nat) (A1 : Option Addr) (c1 : Nat), v = .slice (some ⟨g, 0, none⟩) (fs.length + 2) c ∧ lo ≤ g ∧ g < hi ∧
      w.cell? ⟨g, 0, none⟩ = some (.int .i64 f0.1) ∧ w.cell? ⟨g, 1, none⟩ = some (.slice A0 f0.2.length c0) ∧ w.cell? ⟨g, 2, none⟩ = some (.int .i64 f1.1) ∧ w.cell? ⟨g, 3, none⟩ = some (.slice A1 f1.2.length c1) ∧ (∀ k, w.frozen? ⟨g, k, none⟩ = false) ∧
      ∀ W, Below w.heap.size w W → OwnFacts ((((W.setCell ⟨g, 0, none⟩ (.int .i64 f1.1)).setCell ⟨g, 1, none⟩ (.slice A1 f1.2.length c1)).setCell ⟨g, 2, none⟩ (.int .i64 f0.1)).setCell ⟨g, 3, none⟩ (.slice A0 f0.2.length c0)) lo hi v (f1 :: f0 :: fs) := by
  obtain ⟨av, ⟨hlen, hown, hap⟩, hr, hlt⟩ := h
  rcases av with _ | ⟨a0, _ | ⟨a1, av⟩⟩
  · simp at hlen
  · simp at hlen
  have o0 : OwnInts w lo hi a0 f0.2 := hown 0 (by simp) (by simp)
  have o1 : OwnInts w lo hi a1 f1.2 := hown 1 (by simp) (by simp)
  obtain ⟨A0, c0, rfl⟩ := o0.form
  obtain ⟨A1, c1, rfl⟩ := o1.form
  rcases hr.2 with ⟨_, h0⟩ | ⟨g, cap, cur, rfl, hbg, hgg, r1, r2, r3, r4⟩
  · simp at h0
  have hat : AtRow w g cap (f0 :: f1 :: fs) (.slice A0 f0.2.length c0 :: .slice A1 f1.2.length c1 :: av) := ⟨cur, hgg, r1, r2, r3, r4⟩
  have hl : av.length = fs.length := by simpa using hlen
  have hgh := hlt g rfl
  refine ⟨g, cap, A0, c0, A1, c1, rfl, hbg, hgh, ?_, ?_, ?_, ?_, fun k => hat.frozen k, fun W hW => ?_⟩
  · rw [hat.cell (by simp only [List.length_cons]; omega)]; rfl
  · rw [hat.cell (by simp only [List.length_cons]; omega)]; rfl
  · rw [hat.cell (by simp only [List.length_cons]; omega)]; rfl
  · rw [hat.cell (by simp only [List.length_cons]; omega)]; rfl
  · have K : ∀ (x : Value) (xs : List Int), OwnInts w lo hi x xs → OwnInts ((((W.setCell ⟨g, 0, none⟩ (.int .i64 f1.1)).setCell ⟨g, 1, none⟩ (.slice A1 f1.2.length c1)).setCell ⟨g, 2, none⟩ (.int .i64 f0.1)).setCell ⟨g, 3, none⟩ (.slice A0 f0.2.length c0)) lo hi x xs := fun x xs hx => by
      refine (hx.below hW hh).kept fun b hb => ?_
      have hne : b ≠ g := fun e => blk_ne_row hx.1 (show Blk w g 118 cur from hgg) (by decide) (by rw [hb, e])
      exact (Below.heap_setCell _ ⟨g, 3, none⟩ _ _ hne).trans ((Below.heap_setCell _ ⟨g, 2, none⟩ _ _ hne).trans ((Below.heap_setCell _ ⟨g, 1, none⟩ _ _ hne).trans (Below.heap_setCell _ ⟨g, 0, none⟩ _ _ hne)))
    have S := ((hat.below hW (by omega)).set (by simp [hl]) (k := 0) (by simp) f1 (.slice A1 f1.2.length c1)).set (by simp [hl]) (k := 1) (by simp) f0 (.slice A0 f0.2.length c0)
    have T := S.row (base := lo) (by simp [hl]) hbg
    refine ⟨.slice A1 f1.2.length c1 :: .slice A0 f0.2.length c0 :: av, ⟨by simp [hl], fun i h1 h2 => ?_, ?_⟩, T, hlt⟩
    · rcases i with _ | _ | i
      · exact K _ _ o1
      · exact K _ _ o0
      · exact K _ _ (hown (i + 2) (by simpa using h1) (by simpa using h2))
    · rw [List.pairwise_cons, List.pairwise_cons] at hap
      obtain ⟨p0, p1, p2⟩ := hap
      rw [List.pairwise_cons, List.pairwise_cons]
      refine ⟨fun b hb => ?_, fun b hb => p0 b (by simp [hb]), p2⟩
      rcases List.mem_cons.1 hb with rfl | hb
      · exact fun x hx hx' => p0 _ (by simp) x hx' hx
      · exact p1 b hb

set_option maxHeartbeats 2000000 in
set_option maxRecDepth 100000 in
theorem l1Some_any (g : Nat) (bs : List Nat) (p m lo hi : Nat) (v : Value) (ar : List Int) (w : World) (h : Rdr w g bs p) (hp : p ≤ 65536) (ha : OwnInts w lo hi v ar) (hg : g < lo) (hh : hi ≤ w.heap.size) (hr : ∀ x ∈ ar, 0 ≤ x ∧ x ≤ 2) (hl : ar.length ≤ 1048576) (hm : m ≤ 64) :
    Calls Try.prog 121 #[.pointer (some ⟨g, 0, none⟩), v, .int .i64 m] w fun e w' => ∃ (A : Option Addr) (c : Nat) (fs : List LFact) (q : Nat), e = .returned (.slice A fs.length c) ∧ fs.length ≤ m ∧ tot fs ≤ 3 * m ∧ q ≤ p + 2 + 24 * m ∧
      OwnFacts w' w.heap.size w'.heap.size (.slice A fs.length c) fs ∧ Rdr w' g bs q ∧ Only g (g + 1) w w' := by
  obtain ⟨A0, c0, rfl⟩ := ha.form
  have hgl := h.lt
  have H := Lib.hid h
  have HA := Lib.hid ha
  have HR0 := Lib.hid hr
  clear h ha hr
  go_enter Try.func121, Try.ntmps121
  go_wp2_with (fail)
  refine (pick_any g bs p _ _ (H.out.below (below1 _ _) hgl) (by omega) (by omega)).mono ?_
  rintro e w1 ⟨⟨x, rfl, hx⟩, hpk⟩
  obtain ⟨j, rfl⟩ : ∃ j : Nat, x = (j : Int) := ⟨x.toNat, by have := hx.1 (by omega); omega⟩
  have hj : j ≤ m := by have := hx.1 (by omega); omega
  have HS := Lib.hid (show OwnFacts w1 w.heap.size w1.heap.size (.slice (some ⟨w.heap.size, 0, none⟩) 0 0) [] from (((ColRel.empty w).own.own.mono (Nat.le_refl _) (Nat.le_refl _)).offG hpk.2 hgl).mono (Nat.le_refl _) hpk.2.size)
  have HR1 := Lib.hid hpk.1
  have HO1 := Lib.hid ((Only.of_below (below1 w _)).trans hpk.2)
  clear hpk hx
  go_wp2_with (fail)
  go_loopw [7, 8] (fun o i wr => ∃ (k : Nat) (fs : List LFact) (A : Option Addr) (c q : Nat), i = .int .i64 k ∧ fs.length + k ≤ m ∧ tot fs + 3 * k ≤ 3 * m ∧ q + 24 * k ≤ p + 1 + 24 * m ∧ o = .slice A fs.length c ∧ OwnFacts wr w.heap.size wr.heap.size (.slice A fs.length c) fs ∧ Rdr wr g bs q ∧ Only g (g + 1) w wr) (fun _ i _ => (intOf i).toNat)
  case atStart => exact ⟨j, [], _, 0, p + 1, rfl, by simpa using hj, by have : tot [] = 0 := rfl; omega, by omega, rfl, HS.out, HR1.out, HO1.out⟩
  case round =>
    obtain ⟨k, fs, A, c, q, rfl, hk, htk, hqk, rfl, ho, hrd, hon⟩ := hrel
    have HO := Lib.hid ho
    have HRD := Lib.hid hrd
    have hsz := hon.size
    have HN := Lib.hid hon
    have hfl : fs.length ≤ m := by omega
    clear ho hrd hon
    by_cases hlt : 0 < k
    · obtain ⟨k, rfl⟩ : ∃ k', k = k' + 1 := ⟨k - 1, by omega⟩
      have hd : decide ((0 : Int) < ((k + 1 : Nat) : Int)) = true := by simp
      go_wp2_with (fail)
      refine (l1Fact_own g bs q lo hi _ ar wr HRD.out (by omega) (HA.out.offG HN.out hg) hg (Nat.le_trans hh hsz) HR0.out hl).mono ?_
      rintro e w2 ⟨A3, c3, f, q3, rfl, hf, hq3, ho, hR, hO⟩
      have HF := Lib.hid ho
      have HR2 := Lib.hid hR
      have HO2 := Lib.hid hO
      have hs2 := hO.size
      clear ho hR hO
      go_wp2_with (fail)
      have RA := Lib.hid (show RdInts (w2.alloc (Obj.cells #[Value.int IntKind.i64 f.fst, Value.slice A3 f.snd.length c3] 118)) (w2.alloc (Obj.cells #[Value.int IntKind.i64 f.fst, Value.slice A3 f.snd.length c3] 118)).heap.size (.slice A0 ar.length c0) ar from
        (((HA.out.offG HN.out hg).offG HO2.out hg).rd.more (by omega)).on (below1 w2 _))
      have RB := Lib.hid (show RdFact (w2.alloc (Obj.cells #[Value.int IntKind.i64 f.fst, Value.slice A3 f.snd.length c3] 118)) (w2.alloc (Obj.cells #[Value.int IntKind.i64 f.fst, Value.slice A3 f.snd.length c3] 118)).heap.size (.agg #[.int .i64 f.1, .slice A3 f.2.length c3]) f from
        RdFact.on ⟨_, rfl, HF.out.rd⟩ (below1 w2 _))
      refine (specFactOk_any _ _ ar f _ RA.out RB.out hl (by omega)).mono ?_
      rintro e w3 ⟨rfl, hb3⟩
      have B3 := bthen (below1 w2 _) hb3
      have hs3 := B3.size
      have K3 : Blk w3 w2.heap.size 118 #[.int .i64 f.1, .slice A3 f.2.length c3] := (Blk.new w2 _ _).below hb3 (by simp)
      have O3 : OwnFacts w3 w.heap.size wr.heap.size (.slice A fs.length c) fs := (HO.out.offG HO2.out (by omega)).below B3 hs2
      have F3 : OwnInts w3 wr.heap.size w2.heap.size (.slice A3 f.2.length c3) f.2 := HF.out.below B3 (Nat.le_refl _)
      have R3 := HR2.out.below B3 HR2.out.lt
      have N3 := HN.out.trans (HO2.out.trans (Only.of_below (lo := g) (hi := g + 1) B3))
      have hbd := factsWith_bound fs f
      have hgr : g < w3.heap.size := R3.lt
      clear hb3 B3 HRD HR2 HO2 HO HF RA RB HN
      cases hok : factOk ar f
      · have HX3 := Lib.hid (And.intro O3 (And.intro F3 (And.intro R3 N3)))
        have HK3 := Lib.hid K3
        clear O3 F3 N3 K3
        have HR3 := Lib.hid R3
        clear R3
        go_wp2_with (fail)
        refine (pick_any g bs q3 _ _ HR3.out (by omega) (by omega)).mono ?_
        rintro e w4 ⟨⟨x, rfl, _⟩, hpk⟩
        have hs4 := hpk.2.size
        have K4 := HK3.out.only hpk.2 (.inr (by omega))
        obtain ⟨O3, F3, _, N3⟩ := HX3.out
        have O4 := (O3.offG hpk.2 (by omega)).mono (Nat.le_refl _) (show wr.heap.size ≤ w4.heap.size by omega)
        have F4 := (F3.offG hpk.2 (by omega)).rd.more (show w2.heap.size ≤ w4.heap.size by omega)
        have R4 := hpk.1
        have N4 := N3.trans hpk.2
        have k0 : w4.cell? ⟨w2.heap.size, 0, none⟩ = some (.int .i64 f.1) := K4.cell 0
        have k1 : w4.cell? ⟨w2.heap.size, 1, none⟩ = some (.slice A3 f.2.length c3) := K4.cell 1
        clear hpk O3 F3 N3 K4 HX3 HK3 HR3
        have HX4 := Lib.hid (And.intro O4 (And.intro F4 (And.intro R4 N4)))
        clear O4 F4 R4 N4
        by_cases hx0 : x = 0
        · subst hx0
          go_wp2_with (fail)
          refine (specFactsWith_any _ _ fs f _ HX4.out.1.rd ⟨_, rfl, HX4.out.2.1⟩ (by omega) (by omega) (by omega)).mono ?_
          rintro e w5 ⟨A5, c5, rfl, ho5, hb5⟩
          have HE := Lib.hid (show OwnFacts w5 w.heap.size w5.heap.size _ _ from ho5.mono (by omega) (Nat.le_refl _))
          have HR5 := Lib.hid (HX4.out.2.2.1.below hb5 (by omega))
          have HN5 := Lib.hid (HX4.out.2.2.2.trans (Only.of_below (lo := g) (hi := g + 1) hb5))
          clear ho5 hb5
          go_wp2_with (fail)
          go_roundw
          case rel => exact ⟨k, factsWith fs f, A5, c5, q3 + 1, by go_num, by omega, by omega, by omega, rfl, HE.out, HR5.out, HN5.out⟩
          case measure => simp [intOf]
        · have hd0 : (x == 0) = false := by simpa using hx0
          go_wp2_with (fail)
          go_roundw
          case rel => exact ⟨k, fs, A, c, q3 + 1, by go_num, by omega, by omega, by omega, rfl, HX4.out.1, HX4.out.2.2.1, HX4.out.2.2.2⟩
          case measure => simp [intOf]
      · have k0 : w3.cell? ⟨w2.heap.size, 0, none⟩ = some (.int .i64 f.1) := K3.cell 0
        have k1 : w3.cell? ⟨w2.heap.size, 1, none⟩ = some (.slice A3 f.2.length c3) := K3.cell 1
        have HX3 := Lib.hid (And.intro O3 (And.intro F3 (And.intro R3 N3)))
        clear O3 F3 R3 N3 K3
        go_wp2_with (fail)
        refine (specFactsWith_any _ _ fs f _ (HX3.out.1.rd.more (by omega)) ⟨_, rfl, HX3.out.2.1.rd.more (by omega)⟩ (by omega) (by omega) (by omega)).mono ?_
        rintro e w5 ⟨A5, c5, rfl, ho5, hb5⟩
        have HE := Lib.hid (show OwnFacts w5 w.heap.size w5.heap.size _ _ from ho5.mono (by omega) (Nat.le_refl _))
        have HR5 := Lib.hid (HX3.out.2.2.1.below hb5 (by omega))
        have HN5 := Lib.hid (HX3.out.2.2.2.trans (Only.of_below (lo := g) (hi := g + 1) hb5))
        clear ho5 hb5
        go_wp2_with (fail)
        go_roundw
        case rel => exact ⟨k, factsWith fs f, A5, c5, q3, by go_num, by omega, by omega, by omega, rfl, HE.out, HR5.out, HN5.out⟩
        case measure => simp [intOf]
    · have hk0 : k = 0 := by omega
      subst hk0
      by_cases h1 : 1 < fs.length
      · obtain ⟨f0, f1, fs, rfl⟩ : ∃ f0 f1 fs', fs = f0 :: f1 :: fs' := by
          rcases fs with _ | ⟨f0, _ | ⟨f1, fs⟩⟩
          · simp at h1
          · simp at h1
          · exact ⟨f0, f1, fs, rfl⟩
        have hd1 : decide ((1 : Int) < ((f0 :: f1 :: fs).length : Int)) = true := by simp only [List.length_cons]; simp; omega
        go_wp2_with (fail)
        refine (pick_any g bs q _ _ HRD.out (by omega) (by omega)).mono ?_
        rintro e w3 ⟨⟨x, rfl, _⟩, hpk⟩
        have O3 := (HO.out.offG hpk.2 hgl).mono (Nat.le_refl _) hpk.2.size
        have HN3 := Lib.hid (HN.out.trans hpk.2)
        have HR3 := Lib.hid hpk.1
        have hs3 := hpk.2.size
        clear hpk
        by_cases hx0 : x = 0
        · subst hx0
          obtain ⟨g2, cp, B0, d0, B1, d1, e0, hlo, hhi, k0, k1, k2, k3, kf, hsw⟩ := O3.swap (Nat.le_refl _)
          injection e0 with e1 _ e3
          subst e1
          subst e3
          have f0' := kf 0
          have f1' := kf 1
          have f2' := kf 2
          have f3' := kf 3
          have HSW := Lib.hid hsw
          clear hsw kf
          go_wp2_with (fail)
          go_ret
          refine ⟨some ⟨g2, 0, none⟩, _, f1 :: f0 :: fs, q + 1, rfl, by simpa using hk, by simp only [tot_cons] at htk ⊢; omega, by omega, ?_⟩
          have hso := HSW.out w3 (Below.refl _ _)
          have hkb : ∀ b, b ≠ g2 → ((((w3.setCell ⟨g2, 0, none⟩ (.int .i64 f1.1)).setCell ⟨g2, 1, none⟩ (.slice B1 f1.2.length d1)).setCell ⟨g2, 2, none⟩ (.int .i64 f0.1)).setCell ⟨g2, 3, none⟩ (.slice B0 f0.2.length d0)).heap[b]? = w3.heap[b]? := fun b hne =>
            (Below.heap_setCell _ ⟨g2, 3, none⟩ _ _ hne).trans ((Below.heap_setCell _ ⟨g2, 2, none⟩ _ _ hne).trans ((Below.heap_setCell _ ⟨g2, 1, none⟩ _ _ hne).trans (Below.heap_setCell _ ⟨g2, 0, none⟩ _ _ hne)))
          have hN3 := HN3.out
          have hR3 := HR3.out
          have ho : Only g (g + 1) w ((((w3.setCell ⟨g2, 0, none⟩ (.int .i64 f1.1)).setCell ⟨g2, 1, none⟩ (.slice B1 f1.2.length d1)).setCell ⟨g2, 2, none⟩ (.int .i64 f0.1)).setCell ⟨g2, 3, none⟩ (.slice B0 f0.2.length d0)) :=
            ⟨hN3.os, hN3.tape, hN3.output, by simpa using hN3.size, fun k hk hn => (hkb k (by omega)).trans (hN3.block k hk hn)⟩
          have hsz4 : ((((w3.setCell ⟨g2, 0, none⟩ (.int .i64 f1.1)).setCell ⟨g2, 1, none⟩ (.slice B1 f1.2.length d1)).setCell ⟨g2, 2, none⟩ (.int .i64 f0.1)).setCell ⟨g2, 3, none⟩ (.slice B0 f0.2.length d0)).heap.size = w3.heap.size := by simp
          have hr4 := hR3.same (w' := ((((w3.setCell ⟨g2, 0, none⟩ (.int .i64 f1.1)).setCell ⟨g2, 1, none⟩ (.slice B1 f1.2.length d1)).setCell ⟨g2, 2, none⟩ (.int .i64 f0.1)).setCell ⟨g2, 3, none⟩ (.slice B0 f0.2.length d0))) fun k hk => hkb k (by omega)
          exact ⟨(hso.below (below1 _ _) (by omega)).mono (Nat.le_refl _) (by rw [World.size_alloc]; omega), hr4.below (below1 _ _) (by omega), ho.trans (Only.of_below (below1 _ _))⟩
        · have hd0 : (x == 0) = false := by simpa using hx0
          have HO3 := Lib.hid O3
          clear O3
          go_wp2_with (fail)
          go_ret
          exact ⟨A, c, f0 :: f1 :: fs, q + 1, rfl, by simpa using hk, by simpa using htk, by omega, HO3.out, HR3.out, HN3.out⟩
      · have hd1 : decide ((1 : Int) < (fs.length : Int)) = false := by simp; omega
        go_wp2_with (fail)
        go_ret
        exact ⟨A, c, fs, q, rfl, by simpa using hk, by simpa using htk, by omega, HO.out, HRD.out, HN.out⟩

end Go.Proofs.Ytocpfmbieedpgaa
