/-
  Texts that the claim's last one imports, laid together: part 6 of 7. No condition of its own.
-/
import Derived.Laws.BitsAllLaws
import Derived.StillTailTactics
import Derived.Deep.QuietTactic
import Derived.BigQuiet
import Derived.Deep.RegionLaw
import Derived.Deep.DeepCutAuto
import Derived.WalkLawsBesides
import Derived.BigRegion
import Derived.Deep.RegionHeld3
import Derived.Deep.RegionWith
import Derived.Test.YtfjmnjemmfmoaaaDoorChecked
import Derived.Deep.SlicePairs
import Derived.ProofKit
import Derived.OpenShut
import Derived.ChangeOld
import Derived.WalkKit
import Derived.Deep.Slices
import Derived.Deep.Fields
import Derived.ChangeSame
import Derived.Lib.SmallJoins
import Derived.KernelRfl
import Derived.Test.YtfjmnjemmfmoaaaDoorPR1
import Derived.Test.YtfjmnjemmfmoaaaDoorPR2
import Derived.Test.YtfjmnjemmfmoaaaDoorPR3
import Derived.Test.YtfjmnjemmfmoaaaDoorPR5
/-
  A program drawn, one in twenty spoilt: the walk of l2Any (under way).
-/
namespace Go.Proofs.YtfjmnjemmfmoaaaDoor
open Go.RowKit

/-- l2Any while it spoils: the program's own block is D. -/
structure Pg3 (w wr : World) (D B g : Nat) (bs : List Nat) (q : Nat) (A : Option Addr) (c : Nat) (ar : List Int) (Ar : Option Addr) (cr : Nat) (es : List Ent) : Prop where
  res : Blk wr w.heap.size 40 #[.slice none 0 0, .slice none 0 0]
  prg : Blk wr D 40 #[.slice A ar.length c, .slice Ar es.length cr]
  own : OwnInts wr (w.heap.size + 1) B (.slice A ar.length c) ar
  rules : ColR B wr es Ar cr
  low : w.heap.size < B
  high : B ≤ D
  rdr : Rdr wr g bs q
  only : Only g (g + 1) w wr
section
variable {w wr w' w1 : World} {D g q B : Nat} {bs : List Nat} {A Ar : Option Addr} {c cr : Nat} {ar : List Int} {es : List Ent}
theorem Pg3.go (h : Pg3 w wr D B g bs q A c ar Ar cr es) (hg : g < w.heap.size) {q' : Nat} (hr : Rdr w' g bs q') (ho : Only g (g + 1) wr w') : Pg3 w w' D B g bs q' A c ar Ar cr es :=
  ⟨h.res.only ho (.inr (by omega)), h.prg.only ho (.inr (by have := h.low; have := h.high; omega)), h.own.only ho (.inr (by omega)), h.rules.only ho (by have := h.low; omega), h.low, h.high, hr, h.only.trans ho⟩
theorem Pg3.start (hg : g < w.heap.size) (hB : w.heap.size + 1 ≤ B) (hB2 : B ≤ w1.heap.size) (hw : w' = w1.alloc (.cells #[.slice A ar.length c, .slice Ar es.length cr] 40))
    (h1 : OwnInts w1 (w.heap.size + 1) B (.slice A ar.length c) ar) (h2 : ColR B w1 es Ar cr) (h3 : Rdr w1 g bs q) (h4 : Only g (g + 1) (w.alloc (.cells #[.slice none 0 0, .slice none 0 0] 40)) w1) : Pg3 w w' w1.heap.size B g bs q A c ar Ar cr es := by
  have hb : Below w1.heap.size w1 w' := by rw [hw]; exact below1 _ _
  refine ⟨((Blk.new w 40 #[.slice none 0 0, .slice none 0 0]).only h4 (.inr (by omega))).below hb (by omega), by rw [hw]; exact Blk.new _ _ _, h1.below hb hB2, h2.below hb, hB, hB2, h3.below hb h3.lt, ((Only.of_below (below1 w _)).trans h4).trans (Only.of_below hb)⟩
/-- A cell of the rules' row is set anew. -/
theorem Pg3.row {gr j : Nat} {v : Value} {es' : List Ent} (h : Pg3 w wr D B g bs q A c ar (some ⟨gr, 0, none⟩) cr es) (hg : g < w.heap.size) (hl : es'.length = es.length) (hc : ColR B (wr.setCell ⟨gr, j, none⟩ v) es' (some ⟨gr, 0, none⟩) cr) :
    Pg3 w (wr.setCell ⟨gr, j, none⟩ v) D B g bs q A c ar (some ⟨gr, 0, none⟩) cr es' := by
  have hk : ∀ k, k ≠ gr → (wr.setCell ⟨gr, j, none⟩ v).heap[k]? = wr.heap[k]? := fun k hk => Below.heap_setCell _ _ _ k hk
  have hb := (h.rules.row.lt gr rfl).1
  have hB := h.low
  have hne : gr ≠ D := fun e => blk_ne_own h.rules.row h.prg (by decide) (by simp [Value.ownBlock, e])
  refine ⟨(hk _ (by omega)).trans h.res, by rw [hl]; exact (hk _ (fun e => hne e.symm)).trans h.prg, h.own.keep fun k _ k2 => hk k (by omega), hc, hB, h.high, h.rdr.same fun k hk' => hk k (by omega), ⟨h.only.os, h.only.tape, h.only.output, by simpa using h.only.size, fun k hk' hn => (hk k (by omega)).trans (h.only.block k hk' hn)⟩⟩
/-- A place of the arity is set anew. -/
theorem Pg3.arity {ga j : Nat} (h : Pg3 w wr D B g bs q (some ⟨ga, 0, none⟩) c ar Ar cr es) (hg : g < w.heap.size) (hj : j < ar.length) (x : Int) : Pg3 w (wr.setCell ⟨ga, j, none⟩ (.int .i64 x)) D B g bs q (some ⟨ga, 0, none⟩) c (ar.set j x) Ar cr es := by
  have hb1 := (h.own.lt (g := ga) rfl).1
  have hb2 := (h.own.lt (g := ga) rfl).2.1
  have hB := h.high
  have hk : ∀ k, k ≠ ga → (wr.setCell ⟨ga, j, none⟩ (.int .i64 x)).heap[k]? = wr.heap[k]? := fun k hk => Below.heap_setCell _ _ _ k hk
  have hsz : (wr.setCell ⟨ga, j, none⟩ (.int .i64 x)).heap.size = wr.heap.size := by simp
  have hl : (ar.set j x).length = ar.length := by simp
  refine ⟨(hk _ (by omega)).trans h.res, ?_, ?_, h.rules.keep (by rw [hsz]; exact Nat.le_refl _) (fun k k1 _ => hk k (by omega)), h.low, h.high, h.rdr.same fun k hk' => hk k (by omega), ⟨h.only.os, h.only.tape, h.only.output, by rw [hsz]; exact h.only.size, fun k hk' hn => (hk k (by omega)).trans (h.only.block k hk' hn)⟩⟩
  · rw [hl]
    exact (hk _ (by omega)).trans h.prg
  · rw [hl]
    exact h.own.store rfl hj x
end
/-- l2Any once it has spoilt. -/
structure Pg4 (w wr : World) (D B g : Nat) (bs : List Nat) (q : Nat) (A : Option Addr) (c : Nat) (ar : List Int) (Ar : Option Addr) (cr : Nat) (es : List Ent) : Prop where
  res : Blk wr w.heap.size 40 #[.slice none 0 0, .slice none 0 0]
  prg : Blk wr D 40 #[.slice A ar.length c, .slice Ar es.length cr]
  own : OwnInts wr (w.heap.size + 1) B (.slice A ar.length c) ar
  rules : RowR B wr es Ar cr
  low : w.heap.size < B
  high : B ≤ D
  rdr : Rdr wr g bs q
  only : Only g (g + 1) w wr
theorem Pg3.four {w wr : World} {D B g : Nat} {bs : List Nat} {q : Nat} {A : Option Addr} {c : Nat} {ar : List Int} {Ar : Option Addr} {cr : Nat} {es : List Ent} (h : Pg3 w wr D B g bs q A c ar Ar cr es) : Pg4 w wr D B g bs q A c ar Ar cr es :=
  ⟨h.res, h.prg, h.own, h.rules.out, h.low, h.high, h.rdr, h.only⟩
section
variable {w wr w' w1 : World} {D g q B : Nat} {bs : List Nat} {A Ar : Option Addr} {c cr : Nat} {ar : List Int} {es : List Ent}
/-- The result is laid. -/
theorem Pg4.done (h : Pg4 w wr D B g bs q A c ar Ar cr es) (hg : g < w.heap.size) (hw : w' = (wr.setCell ⟨w.heap.size, 0, none⟩ (.slice A ar.length c)).setCell ⟨w.heap.size, 1, none⟩ (.slice Ar es.length cr)) :
    w.heap.size ≤ B ∧ B ≤ w'.heap.size ∧ OwnInts w' w.heap.size B (.slice A ar.length c) ar ∧ RowR B w' es Ar cr ∧ Rdr w' g bs q ∧ Only g (g + 1) w w' ∧ Blk w' w.heap.size 40 #[.slice A ar.length c, .slice Ar es.length cr] := by
  have hk : ∀ k, k ≠ w.heap.size → w'.heap[k]? = wr.heap[k]? := fun k hk => by
    rw [hw]
    exact (Below.heap_setCell _ _ _ k hk).trans (Below.heap_setCell _ _ _ k hk)
  have hsz : w'.heap.size = wr.heap.size := by rw [hw]; simp
  have hB := h.low
  have hH := h.high
  have hD := h.prg.lt
  refine ⟨by omega, by omega, (h.own.keep fun k k1 _ => hk k (by omega)).mono (Nat.le_succ _) (Nat.le_refl _), h.rules.keep (by rw [hsz]; exact Nat.le_refl _) (fun k k1 _ => hk k (by omega)), h.rdr.same fun k hk' => hk k (by omega), ⟨?_, ?_, ?_, by rw [hsz]; exact h.only.size, fun k hk' hn => (hk k (by omega)).trans (h.only.block k hk' hn)⟩, ?_⟩
  · rw [hw]; exact h.only.os
  · rw [hw]; exact h.only.tape
  · rw [hw]; exact h.only.output
  · have := (h.res.set_ 0 (.slice A ar.length c)).set_ 1 (.slice Ar es.length cr)
    rw [hw]
    simpa using this
/-- What an append to a head keeps. -/
theorem Pg3.kept {wn w5 : World} {gr i : Nat} {o : Obj} {lo mid hi : Nat → Nat} (h : Pg3 w wn D B g bs q A c ar (some ⟨gr, 0, none⟩) cr es)
    (q1 : ∀ i (h : i < es.length), EntAt B wn (some gr) es[i] (lo i) (mid i) (hi i)) (hi' : i < es.length)
    (hgr : (wn.alloc o).grownBy w5 es[i].2.1.ownBlock) : w5.heap[gr]? = wn.heap[gr]? ∧ w5.heap[D]? = wn.heap[D]? := by
  have hg2 := grown_from_alloc hgr
  have X := q1 i hi'
  refine ⟨hg2.block gr (h.rules.row.lt gr rfl).2 (fun e => ?_), hg2.block D h.prg.lt (fun e => blk_ne_own X.head.1 h.prg (by decide) e.symm)⟩
  have h1 := X.head.lt e.symm
  have h2 := X.off gr rfl
  have h3 := X.mh
  omega
/-- A head is one longer. -/
theorem Pg3.longer {wn w5 w6 : World} {gr g2 i cap : Nat} {o : Obj} {lo mid hi : Nat → Nat} {xs : List Int} {x : Int} (h : Pg3 w wn D B g bs q A c ar (some ⟨gr, 0, none⟩) cr es) (hgl : g < w.heap.size)
    (q1 : ∀ i (h : i < es.length), EntAt B wn (some gr) es[i] (lo i) (mid i) (hi i)) (q2 : ∀ i j, i < j → j < es.length → hi i ≤ lo j) (hi' : i < es.length) (hxs : xs = es[i].1.1.2 ++ [x])
    (hgr : (wn.alloc o).grownBy w5 es[i].2.1.ownBlock) (hat : es[i].2.1.ownBlock = some g2 ∨ g2 = (wn.alloc o).heap.size)
    (hown : w5.ownsRow (lo i) 3 1 (.slice (some ⟨g2, 0, none⟩) xs.length cap) xs.length (xs.map (Value.int .i64)))
    (hw : w6 = w5.setCell ⟨gr, i * 3 + 1, none⟩ (.slice (some ⟨g2, 0, none⟩) xs.length cap)) :
    Pg4 w w6 D B g bs q A c ar (some ⟨gr, 0, none⟩) cr (es.set i (((es[i].1.1.1, xs), es[i].1.2), .slice (some ⟨g2, 0, none⟩) xs.length cap, es[i].2.2)) := by
  have hg2 := grown_from_alloc hgr
  have hR := ColR.longer h.rules.row q1 q2 hi' hxs hg2 (hat.imp id fun e => by rw [e]; simp) rfl hown hw
  have X := q1 i hi'
  have hB := h.low
  have hH := h.high
  have hrow := h.rules.row.lt gr rfl
  have hob : ∀ b, es[i].2.1.ownBlock = some b → B ≤ b := fun b hb => by have := (X.head.lt hb).1; have := X.low; omega
  have hk : ∀ k, k < wn.heap.size → k ≠ gr → es[i].2.1.ownBlock ≠ some k → w6.heap[k]? = wn.heap[k]? := fun k h1 h2 h3 => by
    rw [hw]
    exact (Below.heap_setCell _ _ _ k h2).trans (hg2.block k h1 (fun e => h3 e.symm))
  have hlow : ∀ k, k < B → w6.heap[k]? = wn.heap[k]? := fun k h1 => hk k (by omega) (by omega) (fun e => by have := hob k e; omega)
  have hsz : wn.heap.size ≤ w6.heap.size := by rw [hw]; simpa using hg2.size
  have hl : (es.set i (((es[i].1.1.1, xs), es[i].1.2), Value.slice (some ⟨g2, 0, none⟩) xs.length cap, es[i].2.2)).length = es.length := by simp
  refine ⟨(hlow _ (by omega)).trans h.res, ?_, h.own.keep fun k _ k2 => hlow k k2, hR, hB, hH, h.rdr.same fun k hk' => hlow k (by omega), ⟨?_, ?_, ?_, Nat.le_trans h.only.size hsz, fun k hk' hn => (hlow k (by omega)).trans (h.only.block k hk' hn)⟩⟩
  · rw [hl]
    exact (hk D h.prg.lt (fun e => blk_ne_own h.rules.row h.prg (by decide) (by simp [Value.ownBlock, e])) (blk_ne_own X.head.1 h.prg (by decide))).trans h.prg
  · rw [hw]; exact hg2.os.trans h.only.os
  · rw [hw]; exact hg2.tape.trans h.only.tape
  · rw [hw]; exact hg2.output.trans h.only.output
end

/-- A drawn program's bounds. -/
def AnyOk (ar : List Int) (es : List Ent) : Prop := 4 ≤ ar.length ∧ ar.length ≤ 5 ∧ (∀ x ∈ ar, 0 ≤ x ∧ x ≤ 3) ∧ 1 ≤ es.length ∧ es.length ≤ 4 ∧ ∀ e ∈ es, e.1.1.2.length ≤ 3 ∧ e.1.2.length ≤ 4 ∧ totL e.1.2 ≤ 8 ∧ KindsOk e.1.2

set_option maxHeartbeats 4000000 in
set_option maxRecDepth 100000 in
theorem l2Any_any (g : Nat) (bs : List Nat) (p : Nat) (no : Int) (w : World) (h : Rdr w g bs p) (hp : p ≤ 900000) :
    Calls Tryd.prog 71 #[.pointer (some ⟨g, 0, none⟩), .int .i64 no] w fun e w' => ∃ (A Ar : Option Addr) (c cr B q : Nat) (ar : List Int) (es : List Ent), e = .returned (.agg #[.slice A ar.length c, .slice Ar es.length cr]) ∧ AnyOk ar es ∧ q ≤ p + 1700 ∧
      w.heap.size ≤ B ∧ B ≤ w'.heap.size ∧ OwnInts w' w.heap.size B (.slice A ar.length c) ar ∧ RowR B w' es Ar cr ∧ Rdr w' g bs q ∧ Only g (g + 1) w w' := by
  obtain ⟨i0, hi0, hz0, hz1, hz2⟩ := info_parts Tryd.infoInt
  have hgl := h.lt
  have H := Lib.hid h
  clear h
  go_enter Tryd.func71, Tryd.ntmps71
  go_wp2_with (fail)
  refine (l2Program_any g bs p no _ (H.out.below (below1 w (.cells #[.slice none 0 0, .slice none 0 0] 40)) H.out.lt) (by omega)).mono ?_
  rintro e w1 ⟨A, Ar, c, cr, B, q, ar, es, rfl, hl4, hl5, har, hes1, hes4, hes, hq, hB, hB2, h1, h2, h3, h4⟩
  have HES2 := Lib.hid (show ∀ e ∈ es, e.1.1.2.length ≤ 2 from fun e he => (hes e he).1)
  have HOK := Lib.hid (show AnyOk ar es from ⟨hl4, hl5, fun x hx => by have := har x hx; omega, hes1, hes4, fun e he => ⟨by have := (hes e he).1; omega, (hes e he).2⟩⟩)
  simp only [World.size_alloc] at hB h1
  have HQ := Lib.hid (And.intro hB (And.intro hB2 (And.intro h1 (And.intro h2 (And.intro h3 h4)))))
  clear hB hB2 h1 h2 h3 h4 har hes
  go_upto_region 2 with (fail)
  obtain ⟨wS, hwS⟩ : ∃ wS, wS = w1.alloc (.cells #[.slice A ar.length c, .slice Ar es.length cr] 40) := ⟨_, rfl⟩
  have H1 := Lib.hid (Pg3.start hgl HQ.out.1 HQ.out.2.1 hwS HQ.out.2.2.1 HQ.out.2.2.2.1 HQ.out.2.2.2.2.1 HQ.out.2.2.2.2.2)
  rw [← hwS]
  clear hwS HQ
  obtain ⟨D, hD⟩ : ∃ D, D = w1.heap.size := ⟨_, rfl⟩
  rw [← hD] at H1 ⊢
  clear hD
  have hDw : w.heap.size < D := Nat.lt_of_lt_of_le H1.out.low H1.out.high
  go_wp2_with (fail)
  refine (pick_any g bs q 20 _ H1.out.rdr (by omega) (by omega)).mono ?_
  rintro e w3 ⟨⟨z, rfl, _⟩, hp3⟩
  have H3 := Lib.hid (H1.out.go hgl hp3.1 hp3.2)
  clear hp3
  by_cases hz : z = 0
  · have hzb : (z == 0) = true := by simp [hz]
    clear hz
    have k0 : w3.cell? ⟨D, 0, none⟩ = some (.slice A ar.length c) := H3.out.prg.cell 0
    have k1 : w3.cell? ⟨D, 1, none⟩ = some (.slice Ar es.length cr) := H3.out.prg.cell 1
    go_wp2_with (fail)
    refine (pick_any g bs (q + 1) es.length _ H3.out.rdr (by omega) (by omega)).mono ?_
    rintro e w4 ⟨⟨i, rfl, hi⟩, hp4⟩
    have hir : 0 ≤ i ∧ i < es.length := hi.1 (by omega)
    obtain ⟨i, rfl⟩ : ∃ j : Nat, i = (j : Int) := ⟨i.toNat, by omega⟩
    have H4 := Lib.hid (H3.out.go hgl hp4.1 hp4.2)
    clear hp4 hi k0 k1 H3 H1
    go_wp2_with (fail)
    refine (pick_any g bs (q + 1 + 1) 4 _ H4.out.rdr (by omega) (by omega)).mono ?_
    rintro e w5 ⟨⟨kk, rfl, hkk⟩, hp5⟩
    have hkr : 0 ≤ kk ∧ kk < 4 := hkk.1 (by omega)
    have H5 := Lib.hid (H4.out.go hgl hp5.1 hp5.2)
    clear hp5 hkk H4
    obtain ⟨gr, hgr, hgr1, hgr2⟩ := H5.out.rules.form (by omega)
    subst hgr
    have k0 : w5.cell? ⟨D, 0, none⟩ = some (.slice A ar.length c) := H5.out.prg.cell 0
    have k1 : w5.cell? ⟨D, 1, none⟩ = some (.slice (some ⟨gr, 0, none⟩) es.length cr) := H5.out.prg.cell 1
    by_cases hk0 : kk = 0
    · have hb0 : (kk == 0) = true := by simp [hk0]
      clear hk0
      have hi2 : i < es.length := by omega
      have hib : decide ((i : Int) < (es.length : Int)) = true := by simp; omega
      obtain ⟨SS, hSS⟩ : ∃ SS : World → Prop, SS = (fun W => W.cell? ⟨D, 0, none⟩ = some (.slice A ar.length c) ∧ W.cell? ⟨D, 1, none⟩ = some (.slice (some ⟨gr, 0, none⟩) es.length cr)) := ⟨_, rfl⟩
      have HB := Lib.hid (show ∀ W, SS W → W.cell? ⟨D, 0, none⟩ = some (.slice A ar.length c) ∧ W.cell? ⟨D, 1, none⟩ = some (.slice (some ⟨gr, 0, none⟩) es.length cr) from by rw [hSS]; exact fun W hW => hW)
      have HC := Lib.hid (show ∀ W (q : Nat), Pg3 w W D B g bs q A c ar (some ⟨gr, 0, none⟩) cr es → SS W from by rw [hSS]; exact fun W q hW => ⟨hW.prg.cell 0, hW.prg.cell 1⟩)
      clear hSS
      go_upto_region 6 with (fail)
      have HRd := Lib.hid (H5.out.go hgl (H5.out.rdr.below (Below.refl _ _).drew H5.out.rdr.lt) (Only.of_below (Below.refl _ _).drew))
      have SB := HC.out _ _ HRd.out
      have HX7 := Lib.hid (HRd.out.go hgl (HRd.out.rdr.below (below1 w5.drew (.cells #[.int .i64 (-1), .int .i64 (ar.length : Int)] 3)) HRd.out.rdr.lt) (Only.of_below (below1 w5.drew (.cells #[.int .i64 (-1), .int .i64 (ar.length : Int)] 3))))
      refine wp_region_rel SS 12 13 (by kernel_rfl) rfl ?_
      refine wpAnyR_pure (i := 0) (oi := _) ?v0 rfl rfl (by kernel_rfl) (by decide) (fun _ _ _ h => h) rfl ?hy0 (fun _ => SB) ?rest0
      case hy0 => (intro W; go_simp; (try with_reducible rfl))
      try simp only [List.setIfInBounds_toArray, List.set_cons_zero, List.set_cons_succ]
      refine wpAnyR_pure (i := 2) (oi := _) ?v2 rfl rfl (by kernel_rfl) (by decide) (fun _ _ _ h => h) rfl ?hy2 (fun _ => SB) ?rest2
      case hy2 => (intro W; go_simp; (try with_reducible rfl))
      try simp only [List.setIfInBounds_toArray, List.set_cons_zero, List.set_cons_succ]
      refine wpAnyR_pure (i := 3) (oi := _) ?v3 rfl rfl (by kernel_rfl) (by decide) (fun _ _ _ h => h) rfl ?hy3 (fun _ => SB) ?rest3
      case hy3 => (intro W; go_simp; (try with_reducible rfl))
      try simp only [List.setIfInBounds_toArray, List.set_cons_zero, List.set_cons_succ]
      refine wpAnyR_pure (i := 4) (oi := _) ?v4 rfl rfl (by kernel_rfl) (by decide) (fun _ _ _ h => h) rfl ?hy4 (fun _ => SB) ?rest4
      case hy4 => (intro W; go_simp; (try with_reducible rfl))
      try simp only [List.setIfInBounds_toArray, List.set_cons_zero, List.set_cons_succ]
      refine wpAnyR_take (i := 1) (oi := _) ?v1 rfl rfl (by kernel_rfl) (fun _ _ _ h => h) rfl ?hy1 SB ?rest1
      case hy1 => (intro W hW; obtain ⟨E0, E1⟩ := HB.out W hW; go_simp; (try with_reducible rfl))
      try simp only [List.setIfInBounds_toArray, List.set_cons_zero, List.set_cons_succ]
      refine wpAnyR_take (i := 5) (oi := _) ?v5 rfl rfl (by kernel_rfl) (fun _ _ _ h => h) rfl ?hy5 SB ?rest5
      case hy5 => (intro W hW; obtain ⟨E0, E1⟩ := HB.out W hW; go_simp; (try with_reducible rfl))
      try simp only [List.setIfInBounds_toArray, List.set_cons_zero, List.set_cons_succ]
      refine wpAnyR_pure (i := 6) (oi := _) ?v6 rfl rfl (by kernel_rfl) (by decide) (fun _ _ _ h => h) rfl ?hy6 (fun _ => SB) ?rest6
      case hy6 => (intro W; go_simp; (try with_reducible rfl))
      try simp only [List.setIfInBounds_toArray, List.set_cons_zero, List.set_cons_succ]
      refine wpAnyR_one (i := 7) (by kernel_rfl) rfl (fun K hK => ?_)
      try rw [if_pos (show Region.wanted _ _ = true from rfl)]
      go_simp
      refine hK.out _ _ (fun _ => HC.out _ _ HX7.out) ?_
      clear hK K
      try simp only [List.setIfInBounds_toArray, List.set_cons_zero, List.set_cons_succ, Act.put]
      refine wpAnyR_one (i := 8) (by kernel_rfl) rfl (fun K hK => ?_)
      try rw [if_pos (show Region.wanted _ _ = true from rfl)]
      go_simp
      refine (num_any g bs _ _ _ [-1, (ar.length : Int)] 2 _ HX7.out.rdr (by omega) (Blk.new _ _ _) rfl (by have := HX7.out.rdr.lt; have := H5.out.only.size; show w5.heap.size ≠ g; omega) rfl (by simp) (by simp)).mono ?_
      rintro e wn ⟨⟨x, rfl, _⟩, hpn⟩
      have Hn := Lib.hid (HX7.out.go hgl hpn.1 hpn.2)
      clear hpn
      obtain ⟨c0, c1, c2⟩ := flatEnt_at es i hi2
      have r2 := World.ownsRow.cells Hn.out.rules.row (g := gr) rfl _ _ c0
      rw [Go.WideShapes.add_plain, Nat.zero_add] at r2
      have r3 := Hn.out.rules.row.frozenAt (i * 3)
      clear c0 c1 c2
      refine hK.out _ _ (fun _ => HC.out _ _ Hn.out) ?_
      clear hK K
      try simp only [List.setIfInBounds_toArray, List.set_cons_zero, List.set_cons_succ, Act.put]
      refine wpAnyR_one (i := 9) (by kernel_rfl) rfl (fun K hK => ?_)
      try rw [if_pos (show Region.wanted _ _ = true from rfl)]
      go_simp
      refine hK.out _ _ (fun _ => HC.out _ _ Hn.out) ?_
      clear hK K
      try simp only [List.setIfInBounds_toArray, List.set_cons_zero, List.set_cons_succ, Act.put]
      refine wpAnyR_pure (i := 10) (oi := _) ?v10 rfl rfl (by kernel_rfl) (by decide) (fun _ _ _ h => h) rfl ?hy10 (fun _ => HC.out _ _ Hn.out) ?rest10
      case hy10 => (intro W; go_simp; (try with_reducible rfl))
      try simp only [List.setIfInBounds_toArray, List.set_cons_zero, List.set_cons_succ]
      refine wpAnyR_pure (i := 11) (oi := _) ?v11 rfl rfl (by kernel_rfl) (by decide) (fun _ _ _ h => h) rfl ?hy11 (fun _ => HC.out _ _ Hn.out) ?rest11
      case hy11 => (intro W; go_simp; (try with_reducible rfl))
      try simp only [List.setIfInBounds_toArray, List.set_cons_zero, List.set_cons_succ]
      refine wpAnyR_one (i := 12) (by kernel_rfl) rfl (fun K hK => ?_)
      go_simp
      refine hK.out _ _ (fun hf => absurd hf (by decide)) ?_
      clear hK K
      refine wpAnyR_done (by kernel_rfl) ?_
      obtain ⟨es2, hes2⟩ : ∃ es2, es2 = es.set i (((x, es[i].1.1.2), es[i].1.2), es[i].2) := ⟨_, rfl⟩
      obtain ⟨w6, hw6⟩ : ∃ w6, w6 = wn.setCell ⟨gr, i * 3, none⟩ (.int .i64 x) := ⟨_, rfl⟩
      have hl2 : es.length = es2.length := by rw [hes2]; simp
      have HC6 := Hn.out.rules.setPred hi2 x
      rw [← hes2] at HC6
      have H6 := Lib.hid (Hn.out.row hgl hl2.symm HC6)
      have HO6 := Lib.hid (show AnyOk ar es2 from by
        obtain ⟨a1, a2, a3, a4, a5, a6⟩ := HOK.out
        refine ⟨a1, a2, a3, by omega, by omega, fun e he => ?_⟩
        rw [hes2] at he
        rcases List.mem_or_eq_of_mem_set he with he | rfl
        · exact a6 e he
        · exact a6 es[i] (List.getElem_mem hi2))
      rw [← hw6] at H6 ⊢
      rw [hl2] at k1 ⊢
      clear HC6 hw6 hes2 hl2 r2 r3 k0 k1
      have k0 : w6.cell? ⟨D, 0, none⟩ = some (.slice A ar.length c) := H6.out.prg.cell 0
      have k1 : w6.cell? ⟨D, 1, none⟩ = some (.slice (some ⟨gr, 0, none⟩) es2.length cr) := H6.out.prg.cell 1
      have j0 : w6.cell? ⟨w.heap.size, 0, none⟩ = some (.slice none 0 0) := H6.out.res.cell 0
      have j1 : w6.cell? ⟨w.heap.size, 1, none⟩ = some (.slice none 0 0) := H6.out.res.cell 1
      have l0 := H6.out.res.frozen 0
      have l1 := H6.out.res.frozen 1
      go_wp2_with (fail)
      obtain ⟨W, hW⟩ : ∃ W, W = (w6.setCell ⟨w.heap.size, 0, none⟩ (.slice A ar.length c)).setCell ⟨w.heap.size, 1, none⟩ (.slice (some ⟨gr, 0, none⟩) es2.length cr) := ⟨_, rfl⟩
      rw [← hW]
      obtain ⟨f1, f2, f3, f4, f5, f6, f7⟩ := H6.out.four.done hgl hW
      have d0 := f7.cell 0
      have d1 := f7.cell 1
      refine bodyPost_ret (v := .agg #[.slice A ar.length c, .slice (some ⟨gr, 0, none⟩) es2.length cr]) (by simp [results, Tryd.results71, go_sem, d0, d1]) rfl ?_
      exact ⟨A, some ⟨gr, 0, none⟩, c, cr, B, q + 1 + 1 + 1 + 1, ar, es2, rfl, HO6.out, by omega, f1, f2, f3, f4, f5, f6⟩
    · have hb0 : (kk == 0) = false := by simp [hk0]
      by_cases hk1 : kk = 1
      · have hb1 : (kk == 1) = true := by simp [hk1]
        clear hk0 hk1
        have hib : decide ((i : Int) < (es.length : Int)) = true := by simp; omega
        have hi2 : i < es.length := by omega
        obtain ⟨c0, c1, c2⟩ := flatEnt_at es i hi2
        have r2 := World.ownsRow.cells H5.out.rules.row (g := gr) rfl _ _ c2
        rw [Go.WideShapes.add_plain, Nat.zero_add] at r2
        have r3 := H5.out.rules.row.frozenAt (i * 3 + 2)
        clear c0 c1 c2
        go_upto_region 12 with (fail)
        obtain ⟨es2, hes2⟩ : ∃ es2, es2 = es.set i ((es[i].1.1, []), es[i].2.1, .slice none 0 0) := ⟨_, rfl⟩
        obtain ⟨w6, hw6⟩ : ∃ w6, w6 = w5.setCell ⟨gr, i * 3 + 2, none⟩ (.slice none 0 0) := ⟨_, rfl⟩
        have hl2 : es.length = es2.length := by rw [hes2]; simp
        have HC6 := H5.out.rules.setBody hi2
        rw [← hes2] at HC6
        have H6 := Lib.hid (H5.out.row hgl hl2.symm HC6)
        have HO6 := Lib.hid (show AnyOk ar es2 from by
          obtain ⟨a1, a2, a3, a4, a5, a6⟩ := HOK.out
          refine ⟨a1, a2, a3, by omega, by omega, fun e he => ?_⟩
          rw [hes2] at he
          rcases List.mem_or_eq_of_mem_set he with he | rfl
          · exact a6 e he
          · exact ⟨(a6 _ (List.getElem_mem hi2)).1, by simp, by simp [totL], KindsOk.nil⟩)
        rw [← hw6] at H6 ⊢
        rw [hl2] at k1 ⊢
        clear HC6 hw6 hes2 hl2 r2 r3 k0 k1
        have k0 : w6.cell? ⟨D, 0, none⟩ = some (.slice A ar.length c) := H6.out.prg.cell 0
        have k1 : w6.cell? ⟨D, 1, none⟩ = some (.slice (some ⟨gr, 0, none⟩) es2.length cr) := H6.out.prg.cell 1
        have j0 : w6.cell? ⟨w.heap.size, 0, none⟩ = some (.slice none 0 0) := H6.out.res.cell 0
        have j1 : w6.cell? ⟨w.heap.size, 1, none⟩ = some (.slice none 0 0) := H6.out.res.cell 1
        have l0 := H6.out.res.frozen 0
        have l1 := H6.out.res.frozen 1
        go_wp2_with (fail)
        obtain ⟨W, hW⟩ : ∃ W, W = (w6.setCell ⟨w.heap.size, 0, none⟩ (.slice A ar.length c)).setCell ⟨w.heap.size, 1, none⟩ (.slice (some ⟨gr, 0, none⟩) es2.length cr) := ⟨_, rfl⟩
        rw [← hW]
        obtain ⟨f1, f2, f3, f4, f5, f6, f7⟩ := H6.out.four.done hgl hW
        have d0 := f7.cell 0
        have d1 := f7.cell 1
        refine bodyPost_ret (v := .agg #[.slice A ar.length c, .slice (some ⟨gr, 0, none⟩) es2.length cr]) (by simp [results, Tryd.results71, go_sem, d0, d1]) rfl ?_
        exact ⟨A, some ⟨gr, 0, none⟩, c, cr, B, q + 1 + 1 + 1, ar, es2, rfl, HO6.out, by omega, f1, f2, f3, f4, f5, f6⟩
      · have hb1 : (kk == 1) = false := by simp [hk1]
        by_cases hk2 : kk = 2
        · have hb2 : (kk == 2) = true := by simp [hk2]
          clear hk0 hk1 hk2
          obtain ⟨ga, rfl⟩ : ∃ ga, A = some ⟨ga, 0, none⟩ := by
            obtain ⟨g2, cap, e, _⟩ := H5.out.own.1.form (by omega)
            injection e with e1 _ _
            exact ⟨g2, e1⟩
          obtain ⟨m, hm, hm2⟩ : ∃ m : Nat, IntKind.i64.wrap ((ar.length : Int) - 1) = (m : Int) ∧ m < ar.length := ⟨ar.length - 1, by unfold IntKind.wrap; simp [IntKind.bits, IntKind.signed]; omega, by omega⟩
          have k0 : w5.cell? ⟨D, 0, none⟩ = some (.slice (some ⟨ga, 0, none⟩) ar.length c) := H5.out.prg.cell 0
          have a0 : w5.cell? ⟨ga, m, none⟩ = some (.int .i64 (ar[m]'hm2)) := by rw [H5.out.own.1.cellAt m (by omega)]; simp [hm2]
          have a1 := H5.out.own.1.frozenAt m
          have hmb : decide ((m : Int) < (ar.length : Int)) = true := by simp; omega
          go_upto_region 12 with (fail)
          obtain ⟨ar2, har2⟩ : ∃ ar2, ar2 = ar.set m (3 : Int) := ⟨_, rfl⟩
          obtain ⟨w6, hw6⟩ : ∃ w6, w6 = w5.setCell ⟨ga, m, none⟩ (.int .i64 3) := ⟨_, rfl⟩
          have H6 := Lib.hid (H5.out.arity hgl hm2 3)
          have HO6 := Lib.hid (show AnyOk ar2 es from by
            obtain ⟨a1, a2, a3, a4, a5, a6⟩ := HOK.out
            refine ⟨by rw [har2]; simpa using a1, by rw [har2]; simpa using a2, fun x hx => ?_, a4, a5, a6⟩
            rw [har2] at hx
            rcases List.mem_or_eq_of_mem_set hx with hx | rfl
            · exact a3 x hx
            · omega)
          rw [← hw6, ← har2] at H6
          rw [← hw6]
          clear hw6 har2 a0 a1 k0 k1
          have k0 : w6.cell? ⟨D, 0, none⟩ = some (.slice (some ⟨ga, 0, none⟩) ar2.length c) := H6.out.prg.cell 0
          have k1 : w6.cell? ⟨D, 1, none⟩ = some (.slice (some ⟨gr, 0, none⟩) es.length cr) := H6.out.prg.cell 1
          have j0 : w6.cell? ⟨w.heap.size, 0, none⟩ = some (.slice none 0 0) := H6.out.res.cell 0
          have j1 : w6.cell? ⟨w.heap.size, 1, none⟩ = some (.slice none 0 0) := H6.out.res.cell 1
          have l0 := H6.out.res.frozen 0
          have l1 := H6.out.res.frozen 1
          go_wp2_with (fail)
          obtain ⟨W, hW⟩ : ∃ W, W = (w6.setCell ⟨w.heap.size, 0, none⟩ (.slice (some ⟨ga, 0, none⟩) ar2.length c)).setCell ⟨w.heap.size, 1, none⟩ (.slice (some ⟨gr, 0, none⟩) es.length cr) := ⟨_, rfl⟩
          rw [← hW]
          obtain ⟨f1, f2, f3, f4, f5, f6, f7⟩ := H6.out.four.done hgl hW
          have d0 := f7.cell 0
          have d1 := f7.cell 1
          refine bodyPost_ret (v := .agg #[.slice (some ⟨ga, 0, none⟩) ar2.length c, .slice (some ⟨gr, 0, none⟩) es.length cr]) (by simp [results, Tryd.results71, go_sem, d0, d1]) rfl ?_
          exact ⟨some ⟨ga, 0, none⟩, some ⟨gr, 0, none⟩, c, cr, B, q + 1 + 1 + 1, ar2, es, rfl, HO6.out, by omega, f1, f2, f3, f4, f5, f6⟩
        · have hk3 : kk = 3 := by omega
          have hb2 : (kk == 2) = false := by simp [hk3]
          clear hk0 hk1 hk2 hk3
          have hi2 : i < es.length := by omega
          have hib : decide ((i : Int) < (es.length : Int)) = true := by simp; omega
          have HRd := Lib.hid (H5.out.go hgl (H5.out.rdr.below (Below.refl _ _).drew H5.out.rdr.lt) (Only.of_below (Below.refl _ _).drew))
          obtain ⟨lo, mid, hi, q1, q2⟩ := HRd.out.rules.own
          have HQ := Lib.hid (And.intro q1 q2)
          obtain ⟨A1, c1, hv1⟩ := (q1 i hi2).head.form
          have HV1 := Lib.hid hv1
          have hl1 : es[i].1.1.2.length ≤ 2 := HES2.out _ (List.getElem_mem hi2)
          obtain ⟨xs, hxs⟩ : ∃ xs, xs = es[i].1.1.2 := ⟨_, rfl⟩
          have HXS := Lib.hid hxs
          rw [← hxs] at hv1 hl1
          obtain ⟨c0, c1', c2⟩ := flatEnt_at es i hi2
          have r2 := World.ownsRow.cells HRd.out.rules.row (g := gr) rfl _ _ c1'
          rw [Go.WideShapes.add_plain, Nat.zero_add, hv1] at r2
          have r3 := HRd.out.rules.row.frozenAt (i * 3 + 1)
          obtain ⟨bl, hbl⟩ : ∃ bl, bl = lo i := ⟨_, rfl⟩
          have HBL := Lib.hid hbl
          have HOW := Lib.hid (show w5.drew.ownsRow bl 3 1 (.slice A1 xs.length c1) xs.length (xs.map (Value.int .i64)) by rw [hbl, ← hv1, hxs]; exact (q1 i hi2).head.1)
          have hblB : B ≤ bl := by rw [hbl]; exact (q1 i hi2).low
          have hblw : bl ≤ w5.heap.size := by rw [hbl]; have := (q1 i hi2).lm; have := (q1 i hi2).mh; have h9 := (q1 i hi2).high; rw [World.size_drew] at h9; omega
          clear q1 q2 hv1 hxs c0 c1' c2 hbl
          obtain ⟨SS, hSS⟩ : ∃ SS : World → Prop, SS = (fun W => W.cell? ⟨D, 1, none⟩ = some (.slice (some ⟨gr, 0, none⟩) es.length cr) ∧ W.cell? ⟨gr, i * 3 + 1, none⟩ = some (.slice A1 xs.length c1)) := ⟨_, rfl⟩
          have HB := Lib.hid (show ∀ W, SS W → W.cell? ⟨D, 1, none⟩ = some (.slice (some ⟨gr, 0, none⟩) es.length cr) ∧ W.cell? ⟨gr, i * 3 + 1, none⟩ = some (.slice A1 xs.length c1) from by rw [hSS]; exact fun W hW => hW)
          have HC := Lib.hid (show ∀ W, W.cell? ⟨D, 1, none⟩ = some (.slice (some ⟨gr, 0, none⟩) es.length cr) → W.cell? ⟨gr, i * 3 + 1, none⟩ = some (.slice A1 xs.length c1) → SS W from by rw [hSS]; exact fun W h1 h2 => ⟨h1, h2⟩)
          clear hSS
          go_upto_region 11 with (fail)
          have SB := HC.out w5.drew (HRd.out.prg.cell 1) r2
          have HX0 := Lib.hid (HRd.out.go hgl (HRd.out.rdr.below (below1 w5.drew (.cells #[.int .i64 0] 3)) HRd.out.rdr.lt) (Only.of_below (below1 w5.drew (.cells #[.int .i64 0] 3))))
          have r4 : (w5.drew.alloc (.cells #[.int .i64 0] 3)).cell? ⟨gr, i * 3 + 1, none⟩ = some (.slice A1 xs.length c1) := ((below1 w5.drew _).cell (World.block_lt_of_cell? _ _ r2)).trans r2
          refine wp_region_rel SS 15 16 (by kernel_rfl) rfl ?_
          refine wpAnyR_pure (i := 0) (oi := _) ?y0 rfl rfl (by kernel_rfl) (by decide) (fun _ _ _ h => h) rfl ?gy0 (fun _ => SB) ?rust0
          case gy0 => (intro W; go_simp; (try with_reducible rfl))
          try simp only [List.setIfInBounds_toArray, List.set_cons_zero, List.set_cons_succ]
          refine wpAnyR_pure (i := 2) (oi := _) ?y2 rfl rfl (by kernel_rfl) (by decide) (fun _ _ _ h => h) rfl ?gy2 (fun _ => SB) ?rust2
          case gy2 => (intro W; go_simp; (try with_reducible rfl))
          try simp only [List.setIfInBounds_toArray, List.set_cons_zero, List.set_cons_succ]
          refine wpAnyR_pure (i := 3) (oi := _) ?y3 rfl rfl (by kernel_rfl) (by decide) (fun _ _ _ h => h) rfl ?gy3 (fun _ => SB) ?rust3
          case gy3 => (intro W; go_simp; (try with_reducible rfl))
          try simp only [List.setIfInBounds_toArray, List.set_cons_zero, List.set_cons_succ]
          refine wpAnyR_pure (i := 5) (oi := _) ?y5 rfl rfl (by kernel_rfl) (by decide) (fun _ _ _ h => h) rfl ?gy5 (fun _ => SB) ?rust5
          case gy5 => (intro W; go_simp; (try with_reducible rfl))
          try simp only [List.setIfInBounds_toArray, List.set_cons_zero, List.set_cons_succ]
          refine wpAnyR_take (i := 1) (oi := _) ?y1 rfl rfl (by kernel_rfl) (fun _ _ _ h => h) rfl ?gy1 SB ?rust1
          case gy1 => (intro W hW; obtain ⟨E0, E1⟩ := HB.out W hW; go_simp; (try with_reducible rfl))
          try simp only [List.setIfInBounds_toArray, List.set_cons_zero, List.set_cons_succ]
          refine wpAnyR_take (i := 4) (oi := _) ?y4 rfl rfl (by kernel_rfl) (fun _ _ _ h => h) rfl ?gy4 SB ?rust4
          case gy4 => (intro W hW; obtain ⟨E0, E1⟩ := HB.out W hW; go_simp; (try with_reducible rfl))
          try simp only [List.setIfInBounds_toArray, List.set_cons_zero, List.set_cons_succ]
          refine wpAnyR_pure (i := 6) (oi := _) ?y6 rfl rfl (by kernel_rfl) (by decide) (fun _ _ _ h => h) rfl ?gy6 (fun _ => SB) ?rust6
          case gy6 => (intro W; go_simp; (try with_reducible rfl))
          try simp only [List.setIfInBounds_toArray, List.set_cons_zero, List.set_cons_succ]
          refine wpAnyR_pure (i := 7) (oi := _) ?y7 rfl rfl (by kernel_rfl) (by decide) (fun _ _ _ h => h) rfl ?gy7 (fun _ => SB) ?rust7
          case gy7 => (intro W; go_simp; (try with_reducible rfl))
          try simp only [List.setIfInBounds_toArray, List.set_cons_zero, List.set_cons_succ]
          refine wpAnyR_pure (i := 8) (oi := _) ?y8 rfl rfl (by kernel_rfl) (by decide) (fun _ _ _ h => h) rfl ?gy8 (fun _ => SB) ?rust8
          case gy8 => (intro W; go_simp; (try with_reducible rfl))
          try simp only [List.setIfInBounds_toArray, List.set_cons_zero, List.set_cons_succ]
          refine wpAnyR_take (i := 9) (oi := _) ?y9 rfl rfl (by kernel_rfl) (fun _ _ _ h => h) rfl ?gy9 SB ?rust9
          case gy9 => (intro W hW; obtain ⟨E0, E1⟩ := HB.out W hW; go_simp; (try with_reducible rfl))
          try simp only [List.setIfInBounds_toArray, List.set_cons_zero, List.set_cons_succ]
          refine wpAnyR_one (i := 10) (by kernel_rfl) rfl (fun K hK => ?_)
          try rw [if_pos (show Region.wanted _ _ = true from rfl)]
          go_simp
          refine hK.out _ _ (fun _ => HC.out _ (HX0.out.prg.cell 1) r4) ?_
          clear hK K
          try simp only [List.setIfInBounds_toArray, List.set_cons_zero, List.set_cons_succ, Act.put]
          refine wpAnyR_one (i := 11) (by kernel_rfl) rfl (fun K hK => ?_)
          refine step_append_lies _ rfl (.tmp 60) (.tmp 61) 23 rfl bl 3 i0 (.int .i64 0) 1 8 Tryd.underlying23 hi0 hz0 hz1 hz2 rfl (by decide) (.slice A1 xs.length c1) xs.length (xs.map (Value.int .i64)) rfl ?c1 ⟨w5.heap.size, 0, none⟩ 1 1 [.int .i64 0] rfl rfl ?c4 ?c2 (by omega) (by unfold maxLen; omega) (by omega) ?c3 _ rfl ?c5
          case c1 => exact HOW.out.alloc _
          case c4 => exact cell_one_new _ _ _
          case c2 => intro u hu; simp at hu; subst hu; rfl
          case c3 => simp; omega
          case c5 =>
            intro g2 cap w7 hown hgr hat _
            obtain ⟨ys, hys⟩ : ∃ ys, ys = xs ++ [(0 : Int)] := ⟨_, rfl⟩
            have hyl : xs.length + 1 = ys.length := by rw [hys]; simp
            have hgr1' : (w5.drew.alloc (.cells #[.int .i64 0] 3)).grownBy w7 es[i].2.1.ownBlock := by rw [HV1.out, ← HXS.out]; exact hgr
            have hkf := HRd.out.kept HQ.out.1 hi2 hgr1'
            have e0 : w7.cell? ⟨D, 1, none⟩ = some (.slice (some ⟨gr, 0, none⟩) es.length cr) := Blk.cell (hkf.2.trans HRd.out.prg) 1
            have r5 : w7.cell? ⟨gr, i * 3 + 1, none⟩ = some (.slice A1 xs.length c1) := by rw [← r2]; simp [World.cell?, hkf.1]
            have r6 : w7.frozen? ⟨gr, i * 3 + 1, none⟩ = false := by rw [← r3]; simp [World.frozen?, hkf.1]
            have HST := Lib.hid (fun w6 (hw6 : w6 = w7.setCell ⟨gr, i * 3 + 1, none⟩ (.slice (some ⟨g2, 0, none⟩) ys.length cap)) => HRd.out.longer (x := 0) hgl HQ.out.1 HQ.out.2 hi2 (by rw [hys, HXS.out]) hgr1' (by rw [HV1.out, ← HXS.out]; exact hat) (by rw [← HBL.out, ← hyl, hys, List.map_append]; exact hown) hw6)
            have HO6 := Lib.hid (show AnyOk ar (es.set i (((es[i].1.1.1, ys), es[i].1.2), .slice (some ⟨g2, 0, none⟩) ys.length cap, es[i].2.2)) from by
              obtain ⟨a1, a2, a3, a4, a5, a6⟩ := HOK.out
              refine ⟨a1, a2, a3, by simpa using a4, by simpa using a5, fun e he => ?_⟩
              rcases List.mem_or_eq_of_mem_set he with he | rfl
              · exact a6 e he
              · exact ⟨by show ys.length ≤ 3; omega, (a6 es[i] (List.getElem_mem hi2)).2⟩)
            have hyl2 := Lib.hid hyl
            clear hkf hown hgr hgr1' hat hys
            refine hK.out _ _ (fun _ => HC.out _ e0 r5) ?_
            clear hK K
            try simp only [List.setIfInBounds_toArray, List.set_cons_zero, List.set_cons_succ, Act.put]
            refine wpAnyR_pure (i := 12) (oi := _) ?y12 rfl rfl (by kernel_rfl) (by decide) (fun _ _ _ h => h) rfl ?gy12 (fun _ => HC.out _ e0 r5) ?rust12
            case gy12 => (intro W; go_simp; (try with_reducible rfl))
            try simp only [List.setIfInBounds_toArray, List.set_cons_zero, List.set_cons_succ]
            refine wpAnyR_pure (i := 13) (oi := _) ?y13 rfl rfl (by kernel_rfl) (by decide) (fun _ _ _ h => h) rfl ?gy13 (fun _ => HC.out _ e0 r5) ?rust13
            case gy13 => (intro W; go_simp; (try with_reducible rfl))
            try simp only [List.setIfInBounds_toArray, List.set_cons_zero, List.set_cons_succ]
            refine wpAnyR_pure (i := 14) (oi := _) ?y14 rfl rfl (by kernel_rfl) (by decide) (fun _ _ _ h => h) rfl ?gy14 (fun _ => HC.out _ e0 r5) ?rust14
            case gy14 => (intro W; go_simp; (try with_reducible rfl))
            try simp only [List.setIfInBounds_toArray, List.set_cons_zero, List.set_cons_succ]
            refine wpAnyR_one (i := 15) (by kernel_rfl) rfl (fun K hK => ?_)
            go_simp
            refine hK.out _ _ (fun hf => absurd hf (by decide)) ?_
            clear hK K
            refine wpAnyR_done (by kernel_rfl) ?_
            obtain ⟨w6, hw6⟩ : ∃ w6, w6 = w7.setCell ⟨gr, i * 3 + 1, none⟩ (.slice (some ⟨g2, 0, none⟩) ys.length cap) := ⟨_, rfl⟩
            have H6 := Lib.hid (HST.out w6 hw6)
            rw [← hw6]
            obtain ⟨es2, hes2⟩ : ∃ es2, es2 = es.set i (((es[i].1.1.1, ys), es[i].1.2), .slice (some ⟨g2, 0, none⟩) ys.length cap, es[i].2.2) := ⟨_, rfl⟩
            have hl2 : es.length = es2.length := by rw [hes2]; simp
            rw [← hes2] at H6 HO6
            clear hw6 hes2 e0 r5 r6 r2 r3 r4 hyl HST k0 k1
            have k0 : w6.cell? ⟨D, 0, none⟩ = some (.slice A ar.length c) := H6.out.prg.cell 0
            have k1 : w6.cell? ⟨D, 1, none⟩ = some (.slice (some ⟨gr, 0, none⟩) es2.length cr) := H6.out.prg.cell 1
            have j0 : w6.cell? ⟨w.heap.size, 0, none⟩ = some (.slice none 0 0) := H6.out.res.cell 0
            have j1 : w6.cell? ⟨w.heap.size, 1, none⟩ = some (.slice none 0 0) := H6.out.res.cell 1
            have l0 := H6.out.res.frozen 0
            have l1 := H6.out.res.frozen 1
            clear hl2
            go_wp2_with (fail)
            obtain ⟨W, hW⟩ : ∃ W, W = (w6.setCell ⟨w.heap.size, 0, none⟩ (.slice A ar.length c)).setCell ⟨w.heap.size, 1, none⟩ (.slice (some ⟨gr, 0, none⟩) es2.length cr) := ⟨_, rfl⟩
            rw [← hW]
            obtain ⟨f1, f2, f3, f4, f5, f6, f7⟩ := H6.out.done hgl hW
            have d0 := f7.cell 0
            have d1 := f7.cell 1
            refine bodyPost_ret (v := .agg #[.slice A ar.length c, .slice (some ⟨gr, 0, none⟩) es2.length cr]) (by simp [results, Tryd.results71, go_sem, d0, d1]) rfl ?_
            exact ⟨A, some ⟨gr, 0, none⟩, c, cr, B, q + 1 + 1 + 1, ar, es2, rfl, HO6.out, by omega, f1, f2, f3, f4, f5, f6⟩
  · have hzb : (z == 0) = false := by simp [hz]
    clear hz
    have k0 : w3.cell? ⟨D, 0, none⟩ = some (.slice A ar.length c) := H3.out.prg.cell 0
    have k1 : w3.cell? ⟨D, 1, none⟩ = some (.slice Ar es.length cr) := H3.out.prg.cell 1
    have j0 : w3.cell? ⟨w.heap.size, 0, none⟩ = some (.slice none 0 0) := H3.out.res.cell 0
    have j1 : w3.cell? ⟨w.heap.size, 1, none⟩ = some (.slice none 0 0) := H3.out.res.cell 1
    have l0 := H3.out.res.frozen 0
    have l1 := H3.out.res.frozen 1
    go_wp2_with (fail)
    obtain ⟨W, hW⟩ : ∃ W, W = (w3.setCell ⟨w.heap.size, 0, none⟩ (.slice A ar.length c)).setCell ⟨w.heap.size, 1, none⟩ (.slice Ar es.length cr) := ⟨_, rfl⟩
    rw [← hW]
    obtain ⟨f1, f2, f3, f4, f5, f6, f7⟩ := H3.out.four.done hgl hW
    have d0 := f7.cell 0
    have d1 := f7.cell 1
    refine bodyPost_ret (v := .agg #[.slice A ar.length c, .slice Ar es.length cr]) (by simp [results, Tryd.results71, go_sem, d0, d1]) rfl ?_
    exact ⟨A, Ar, c, cr, B, q + 1, ar, es, rfl, HOK.out, by omega, f1, f2, f3, f4, f5, f6⟩

end Go.Proofs.YtfjmnjemmfmoaaaDoor
/-
  Rows of slices of integers: one that is read, one of the call's own; the relation of a loop that collects them.
-/
namespace Go.Proofs.YtfjmnjemmfmoaaaDoor
open Go.RowKit

theorem Tryd.infoIntS : (Tryd.prog.info? 23).map (fun i => (i.zero, i.size, i.bytes)) = some (some (.slice none 0 0), 1, 24) := by kernel_rfl

/-- A row of slices of integers that is read. -/
def RdRows (w : World) (B : Nat) (v : Value) (xss : List (List Int)) : Prop :=
  ∃ A c, v = .slice A xss.length c ∧ xss.length ≤ c ∧ (0 < xss.length → ∃ b o, A = some ⟨b, o, none⟩ ∧ b < B ∧ ∀ k (h : k < xss.length), ∃ u, w.cell? ⟨b, o + k, none⟩ = some u ∧ RdInts w B u xss[k])
/-- A row of slices of integers in blocks from lo on and below hi; weak: two of them may share a block. -/
def WkRows (w : World) (lo hi : Nat) (v : Value) (xss : List (List Int)) : Prop :=
  ∃ av : List Value, (av.length = xss.length ∧ ∀ i (h : i < xss.length) (h' : i < av.length), OwnInts w lo hi av[i] xss[i]) ∧ w.ownsRow lo 23 1 v xss.length av ∧ ∀ g, v.ownBlock = some g → g < hi
/-- And no two share one. -/
def OwnRows (w : World) (lo hi : Nat) (v : Value) (xss : List (List Int)) : Prop :=
  ∃ av, OwnArgs w lo hi av xss ∧ w.ownsRow lo 23 1 v xss.length av ∧ ∀ g, v.ownBlock = some g → g < hi

section
variable {w w' : World} {lo hi lo' hi' B B' : Nat} {v : Value} {xss : List (List Int)}
theorem RdRows.below (h : RdRows w B v xss) (hb : Below B' w w') (hB : B ≤ B') : RdRows w' B v xss := by
  obtain ⟨A, c, rfl, hc, h⟩ := h
  refine ⟨A, c, rfl, hc, fun hn => ?_⟩
  obtain ⟨b, o, rfl, hlt, hk⟩ := h hn
  refine ⟨b, o, rfl, hlt, fun k hkl => ?_⟩
  obtain ⟨u, h1, h2⟩ := hk k hkl
  exact ⟨u, (hb.cell (p := ⟨b, o + k, none⟩) (by show b < B'; omega)).trans h1, h2.below hb hB⟩
theorem RdRows.more (h : RdRows w B v xss) (hB : B ≤ B') : RdRows w B' v xss := by
  obtain ⟨A, c, rfl, hc, h⟩ := h
  refine ⟨A, c, rfl, hc, fun hn => ?_⟩
  obtain ⟨b, o, rfl, hlt, hk⟩ := h hn
  refine ⟨b, o, rfl, by omega, fun k hkl => ?_⟩
  obtain ⟨u, h1, h2⟩ := hk k hkl
  exact ⟨u, h1, h2.more hB⟩
theorem RdRows.on (h : RdRows w w.heap.size v xss) (hb : Below w.heap.size w w') : RdRows w' w'.heap.size v xss := (h.below hb (Nat.le_refl _)).more hb.size
theorem RdRows.get {A : Option Addr} {c : Nat} (h : RdRows w B (.slice A xss.length c) xss) {k : Nat} (hk : k < xss.length) :
    ∃ b o A2 c2, A = some ⟨b, o, none⟩ ∧ b < B ∧ w.cell? ⟨b, o + k, none⟩ = some (.slice A2 xss[k].length c2) ∧ RdInts w B (.slice A2 xss[k].length c2) xss[k] := by
  obtain ⟨A', c', e, _, h⟩ := h
  injection e with e1 _ _
  subst e1
  obtain ⟨b, o, rfl, hb, hx⟩ := h (by omega)
  obtain ⟨u, h1, h2⟩ := hx k hk
  have h3 := h2
  obtain ⟨A2, c2, rfl, _⟩ := h2
  exact ⟨b, o, A2, c2, rfl, hb, h1, h3⟩
theorem OwnRows.weak (h : OwnRows w lo hi v xss) : WkRows w lo hi v xss := by
  obtain ⟨av, h1, h2, h3⟩ := h
  exact ⟨av, ⟨h1.len, h1.own⟩, h2, h3⟩
theorem WkRows.form (h : WkRows w lo hi v xss) : ∃ A c, v = .slice A xss.length c := by
  obtain ⟨_, _, h, _⟩ := h
  rcases h.2 with ⟨rfl, h0⟩ | ⟨g, cap, _, rfl, _⟩
  · exact ⟨none, 0, by rw [h0]⟩
  · exact ⟨_, _, rfl⟩
theorem WkRows.below (h : WkRows w lo hi v xss) (hb : Below B w w') (hB : hi ≤ B) : WkRows w' lo hi v xss := by
  obtain ⟨av, ⟨h0, h1⟩, h2, h3⟩ := h
  exact ⟨av, ⟨h0, fun i a b => (h1 i a b).below hb hB⟩, ownsRow_below h2 h3 hb hB, h3⟩
theorem WkRows.mono (h : WkRows w lo hi v xss) (h1 : lo' ≤ lo) (h2 : hi ≤ hi') : WkRows w lo' hi' v xss := by
  obtain ⟨av, ⟨h0, ha⟩, hr, hlt⟩ := h
  exact ⟨av, ⟨h0, fun i a b => (ha i a b).mono h1 h2⟩, ownsRow_mono hr h1, fun g hg => by have := hlt g hg; omega⟩
theorem WkRows.only (h : WkRows w lo hi v xss) (ho : Only lo' hi' w w') (hd : hi ≤ lo' ∨ hi' ≤ lo) : WkRows w' lo hi v xss := by
  obtain ⟨av, ⟨h0, ha⟩, hr, hlt⟩ := h
  exact ⟨av, ⟨h0, fun i a b => (ha i a b).only ho hd⟩, ownsRow_only hr fun g hg => ho.block g (hr.lt g hg).2 (by have := hr.lt g hg; have := hlt g hg; omega), hlt⟩
theorem WkRows.rd (h : WkRows w lo hi v xss) : RdRows w hi v xss := by
  obtain ⟨av, ⟨h0, ha⟩, hr, hlt⟩ := h
  have hcells := @World.ownsRow.cells w lo 23 1 v xss.length av hr
  obtain ⟨hlen, hr⟩ := hr
  rcases hr with ⟨rfl, e0⟩ | ⟨g, cap, cur, rfl, hb, hg, hn, hm, hs, ht⟩
  · have : xss = [] := List.eq_nil_of_length_eq_zero e0
    subst this
    exact ⟨none, 0, rfl, by simp, fun h => absurd h (by simp)⟩
  · refine ⟨_, cap, rfl, hn, fun _ => ⟨g, 0, rfl, hlt g rfl, fun k hk => ⟨av[k]'(by omega), ?_, (ha k hk (by omega)).rd⟩⟩⟩
    have := hcells (g := g) rfl k (av[k]'(by omega)) (by simp [show k < av.length by omega])
    rwa [Go.WideShapes.add_plain] at this
theorem OwnRows.below (h : OwnRows w lo hi v xss) (hb : Below B w w') (hB : hi ≤ B) : OwnRows w' lo hi v xss := by
  obtain ⟨av, h1, h2, h3⟩ := h
  exact ⟨av, h1.below hb hB, ownsRow_below h2 h3 hb hB, h3⟩
theorem OwnRows.mono (h : OwnRows w lo hi v xss) (h1 : lo' ≤ lo) (h2 : hi ≤ hi') : OwnRows w lo' hi' v xss := by
  obtain ⟨av, ha, hr, hlt⟩ := h
  exact ⟨av, ha.mono h1 h2, ownsRow_mono hr h1, fun g hg => by have := hlt g hg; omega⟩
theorem OwnRows.only (h : OwnRows w lo hi v xss) (ho : Only lo' hi' w w') (hd : hi ≤ lo' ∨ hi' ≤ lo) : OwnRows w' lo hi v xss := by
  obtain ⟨av, ha, hr, hlt⟩ := h
  exact ⟨av, ⟨ha.len, fun i a b => (ha.own i a b).only ho hd, ha.apart⟩, ownsRow_only hr fun g hg => ho.block g (hr.lt g hg).2 (by have := hr.lt g hg; have := hlt g hg; omega), hlt⟩
theorem OwnRows.rd (h : OwnRows w lo hi v xss) : RdRows w hi v xss := h.weak.rd
theorem OwnRows.form (h : OwnRows w lo hi v xss) : ∃ A c, v = .slice A xss.length c := h.weak.form
end

/-- The block of a row of integers is no block of a row of slices. -/
theorem rowsI_ne {w : World} {lo hi lo' g : Nat} {n : Nat} {v a : Value} {zs : List Value} {xs : List Int} (hr : w.ownsRow lo' 23 1 v n zs) (hv : v.ownBlock = some g) (ha : OwnInts w lo hi a xs) : a.ownBlock ≠ some g := by
  rcases hr.2 with ⟨rfl, _⟩ | ⟨g1, c1, cur1, rfl, _, h1, _⟩
  · cases hv
  · have e : g1 = g := by simpa [Value.ownBlock] using hv
    subst e
    exact blk_ne_row ha.1 (show Blk w g1 23 cur1 from h1) (by decide)

theorem WkRows.get {w : World} {lo hi c : Nat} {A : Option Addr} {xss : List (List Int)} (h : WkRows w lo hi (.slice A xss.length c) xss) {k : Nat} (hk : k < xss.length) :
    ∃ g A2 c2, A = some ⟨g, 0, none⟩ ∧ g < w.heap.size ∧ w.cell? ⟨g, k, none⟩ = some (.slice A2 xss[k].length c2) ∧ OwnInts w lo hi (.slice A2 xss[k].length c2) xss[k] := by
  obtain ⟨av, ⟨h0, ha⟩, hr, hlt⟩ := h
  have hcells := @World.ownsRow.cells w lo 23 1 _ xss.length av hr
  obtain ⟨hlen, hr2⟩ := hr
  rcases hr2 with ⟨e, e0⟩ | ⟨g, cap, cur, e, hb, hg, _⟩
  · omega
  · injection e with e1 _ _
    subst e1
    have h1 := ha k hk (by omega)
    obtain ⟨A2, c2, e2⟩ := h1.form
    have := hcells (g := g) rfl k (av[k]'(by omega)) (by simp [show k < av.length by omega])
    rw [Go.WideShapes.add_plain, Nat.zero_add, e2] at this
    exact ⟨g, A2, c2, rfl, Blk.lt hg, this, e2 ▸ h1⟩

/-- The relation of a loop that collects slices of integers: these lie from lo on, the row is new. -/
structure ColS (lo : Nat) (w wr : World) (xss : List (List Int)) (A : Option Addr) (c : Nat) (av : List Value) : Prop where
  below : Below w.heap.size w wr
  len : av.length = xss.length
  inn : ∀ i (h : i < xss.length) (h' : i < av.length), OwnInts wr lo wr.heap.size av[i] xss[i]
  row : wr.ownsRow w.heap.size 23 1 (.slice A xss.length c) xss.length av
theorem ColS.empty {lo : Nat} {w wr : World} (hb : Below w.heap.size w wr) : ColS lo w (wr.alloc (.cells #[] 23)) [] (some ⟨wr.heap.size, 0, none⟩) 0 [] :=
  ⟨hb.alloc hb.size _, rfl, fun i h => absurd h (by simp), World.ownsRow_made wr #[] 0 hb.size (by decide) rfl⟩
theorem ColS.on {lo : Nat} {w wr w2 : World} {xss : List (List Int)} {A : Option Addr} {c : Nat} {av : List Value} (h : ColS lo w wr xss A c av) (hb : Below wr.heap.size wr w2) : ColS lo w w2 xss A c av :=
  ⟨bthen h.below hb, h.len, fun i a b => ((h.inn i a b).below hb (Nat.le_refl _)).mono (Nat.le_refl _) hb.size, ownsRow_below h.row (fun g hg => (h.row.lt g hg).2) hb (Nat.le_refl _)⟩
theorem ColS.rows {lo : Nat} {w wr : World} {xss : List (List Int)} {A : Option Addr} {c : Nat} {av : List Value} (h : ColS lo w wr xss A c av) (hl : lo ≤ w.heap.size) : WkRows wr lo wr.heap.size (.slice A xss.length c) xss :=
  ⟨av, ⟨h.len, h.inn⟩, ownsRow_mono h.row hl, fun g hg => (h.row.lt g hg).2⟩
theorem ColS.push {lo : Nat} {w wr w2 w4 : World} {xss xss' : List (List Int)} {A : Option Addr} {c g cap : Nat} {xs : List Int} {u : Value} {o : Obj} {av : List Value} (h : ColS lo w wr xss A c av) (e : xss' = xss ++ [xs]) (hb : Below wr.heap.size wr w2) (hu : OwnInts w2 lo w2.heap.size u xs)
    (hg : (w2.alloc o).grownBy w4 (Value.slice A xss.length c).ownBlock) (hown : w4.ownsRow w.heap.size 23 1 (.slice (some ⟨g, 0, none⟩) (xss.length + 1) cap) (xss.length + 1) (av ++ [u])) :
    ColS lo w w4 xss' (some ⟨g, 0, none⟩) cap (av ++ [u]) ∧ xss.length + 1 = xss'.length := by
  subst e
  have h2 := h.on hb
  have hg' := grown_from_alloc hg
  have hl : (xss ++ [xs]).length = xss.length + 1 := by simp
  refine ⟨⟨(h2.below.alloc h2.below.size _).grown hg (by have := h2.below.size; simp; omega) (fun k hk => (h2.row.lt k hk).1), by simp [h.len], fun i h1 h3 => ?_, by rw [hl]; exact hown⟩, hl.symm⟩
  have keep : ∀ {a : Value} {ys : List Int}, OwnInts w2 lo w2.heap.size a ys → OwnInts w4 lo w4.heap.size a ys := fun {a ys} h0 =>
    (h0.kept fun b hbk => hg'.block b (h0.lt hbk).2.2 (fun e => rowsI_ne h2.row e.symm h0 hbk)).mono (Nat.le_refl _) hg'.size
  by_cases e : i < xss.length
  · rw [List.getElem_append_left (by rw [h.len]; exact e), List.getElem_append_left e]
    exact keep (h2.inn i e (by rw [h.len]; exact e))
  · have e2 : i = xss.length := by simp at h1; omega
    subst e2
    have := h.len
    simp [← this]
    exact keep hu

end Go.Proofs.YtfjmnjemmfmoaaaDoor
/-
  What variables have, plain mathematics: lists of four numbers from -1 to 5, and the words of four fields that the program keeps them in.
-/
namespace Go.Proofs.YtfjmnjemmfmoaaaDoor
open Go.RowKit

/-- One of what a variable may have. -/
def hasB (x : Int) : Bool := decide (-1 ≤ x ∧ x ≤ 5)
def bindOk (bs : List Int) : Bool := decide (bs.length = 4) && bs.all hasB

theorem bindOk_len {bs : List Int} (h : bindOk bs = true) : bs.length = 4 := by
  simp only [bindOk, Bool.and_eq_true, decide_eq_true_eq] at h
  exact h.1
theorem bindOk_all {bs : List Int} (h : bindOk bs = true) : bs.all hasB = true := by
  simp only [bindOk, Bool.and_eq_true] at h
  exact h.2
theorem hasB_at {bs : List Int} (h : bs.all hasB = true) {k : Nat} (hk : k < bs.length) : -1 ≤ bs[k] ∧ bs[k] ≤ 5 := by
  have := List.all_eq_true.1 h bs[k] (List.getElem_mem hk)
  simpa [hasB] using this
theorem bindOk_at {bs : List Int} (h : bindOk bs = true) {k : Nat} (hk : k < bs.length) : -1 ≤ bs[k] ∧ bs[k] ≤ 5 := hasB_at (bindOk_all h) hk
theorem bindOk_iff {bs : List Int} (hl : bs.length = 4) (h : bs.all hasB = true) : bindOk bs = true := by simp [bindOk, hl, h]

/-- What a term has: a constant itself, a variable what it has. -/
def termVal (bs : List Int) (t : Int) : Int := if 0 ≤ t then t else bs.getD (-1 - t).toNat (-1)
theorem termVal_const {bs : List Int} {t : Int} (h : 0 ≤ t) : termVal bs t = t := if_pos h
theorem termVal_var {bs : List Int} {t : Int} (h : t < 0) : termVal bs t = bs.getD (-1 - t).toNat (-1) := if_neg (by omega)
theorem termOk_at {t : Int} (ht : termOk t = true) : -4 ≤ t ∧ t ≤ 5 := by simpa [termOk] using ht
theorem termVal_bounds {bs : List Int} (hb : bindOk bs = true) {t : Int} (ht : termOk t = true) : -1 ≤ termVal bs t ∧ termVal bs t ≤ 5 := by
  have ht' := termOk_at ht
  unfold termVal
  split
  · omega
  · have hl := bindOk_len hb
    have hk : (-1 - t).toNat < bs.length := by omega
    rw [List.getD_eq_getElem?_getD, List.getElem?_eq_getElem hk]
    exact bindOk_at hb hk

/-- The word of a list of four. -/
def encB (bs : List Int) : Nat := (((bs.getD 0 (-1) + 1).toNat * 16 + (bs.getD 1 (-1) + 1).toNat) * 16 + (bs.getD 2 (-1) + 1).toNat) * 16 + (bs.getD 3 (-1) + 1).toNat
/-- Nobody has anything. -/
def noneB : List Int := [-1, -1, -1, -1]
theorem noneB_ok : bindOk noneB = true := by decide
theorem encB_none : encB noneB = 0 := by decide

theorem list4 {bs : List Int} (h : bs.length = 4) : ∃ a b c d, bs = [a, b, c, d] := by
  match bs, h with
  | [a, b, c, d], _ => exact ⟨a, b, c, d, rfl⟩
theorem fin7 {x : Int} (h : -1 ≤ x ∧ x ≤ 5) : ∃ a : Fin 7, (x + 1).toNat = a.val ∧ x = (a.val : Int) - 1 := ⟨⟨(x + 1).toNat, by omega⟩, rfl, by show x = (((x + 1).toNat : Nat) : Int) - 1; omega⟩

theorem or0 : ∀ a b c e : Fin 7, ((0 * 16 + a.val) * 16 + b.val) * 16 + c.val ||| e.val * 4096 = ((e.val * 16 + a.val) * 16 + b.val) * 16 + c.val := by decide +kernel
theorem or1 : ∀ a b c e : Fin 7, ((a.val * 16 + 0) * 16 + b.val) * 16 + c.val ||| e.val * 256 = ((a.val * 16 + e.val) * 16 + b.val) * 16 + c.val := by decide +kernel
theorem or2 : ∀ a b c e : Fin 7, ((a.val * 16 + b.val) * 16 + 0) * 16 + c.val ||| e.val * 16 = ((a.val * 16 + b.val) * 16 + e.val) * 16 + c.val := by decide +kernel
theorem or3 : ∀ a b c e : Fin 7, ((a.val * 16 + b.val) * 16 + c.val) * 16 + 0 ||| e.val = ((a.val * 16 + b.val) * 16 + c.val) * 16 + e.val := by decide +kernel

/-- The word of a variable's constant. -/
def shlB (v : Nat) (c : Int) : Nat := (c + 1).toNat * 2 ^ ((3 - v) * 4)

theorem encB_set {bs : List Int} (h : bindOk bs = true) {v : Nat} (hv : v < 4) (hn : bs.getD v (-1) = -1) {c : Int} (hc : -1 ≤ c ∧ c ≤ 5) : encB bs ||| shlB v c = encB (bs.set v c) := by
  obtain ⟨b0, b1, b2, b3, rfl⟩ := list4 (bindOk_len h)
  have ha := bindOk_all h
  simp only [List.all_cons, List.all_nil, Bool.and_true, Bool.and_eq_true, hasB, decide_eq_true_eq] at ha
  obtain ⟨h0, h1, h2, h3⟩ := ha
  obtain ⟨e, he, he'⟩ := fin7 hc
  obtain ⟨x0, e0, _⟩ := fin7 h0
  obtain ⟨x1, e1, _⟩ := fin7 h1
  obtain ⟨x2, e2, _⟩ := fin7 h2
  obtain ⟨x3, e3, _⟩ := fin7 h3
  match v, hv with
  | 0, _ =>
    simp only [List.getD_cons_zero] at hn
    subst hn
    simp only [encB, shlB, List.getD_cons_zero, List.getD_cons_succ, List.set_cons_zero, he, e1, e2, e3]
    exact or0 x1 x2 x3 e
  | 1, _ =>
    simp only [List.getD_cons_zero, List.getD_cons_succ] at hn
    subst hn
    simp only [encB, shlB, List.getD_cons_zero, List.getD_cons_succ, List.set_cons_zero, List.set_cons_succ, he, e0, e2, e3]
    exact or1 x0 x2 x3 e
  | 2, _ =>
    simp only [List.getD_cons_zero, List.getD_cons_succ] at hn
    subst hn
    simp only [encB, shlB, List.getD_cons_zero, List.getD_cons_succ, List.set_cons_zero, List.set_cons_succ, he, e0, e1, e3]
    exact or2 x0 x1 x3 e
  | 3, _ =>
    simp only [List.getD_cons_zero, List.getD_cons_succ] at hn
    subst hn
    simp only [encB, shlB, List.getD_cons_zero, List.getD_cons_succ, List.set_cons_zero, List.set_cons_succ, he, e0, e1, e2]
    simpa using or3 x0 x1 x2 e

theorem encB_lt {bs : List Int} (h : bindOk bs = true) : encB bs < 65536 := by
  obtain ⟨b0, b1, b2, b3, rfl⟩ := list4 (bindOk_len h)
  have ha := bindOk_all h
  simp only [List.all_cons, List.all_nil, Bool.and_true, Bool.and_eq_true, hasB, decide_eq_true_eq] at ha
  simp only [encB, List.getD_cons_zero, List.getD_cons_succ]
  omega
theorem shlB_lt {v : Nat} (hv : v < 4) {c : Int} (hc : -1 ≤ c ∧ c ≤ 5) : shlB v c < 65536 := by
  unfold shlB
  match v, hv with
  | 0, _ => show (c + 1).toNat * 4096 < 65536; omega
  | 1, _ => show (c + 1).toNat * 256 < 65536; omega
  | 2, _ => show (c + 1).toNat * 16 < 65536; omega
  | 3, _ => show (c + 1).toNat * 1 < 65536; omega

/-- What a variable has, read off the word. -/
def fieldB (m v : Nat) : Nat := m / 2 ^ ((3 - v) * 4) % 16
theorem fieldB_enc {bs : List Int} (h : bindOk bs = true) {v : Nat} (hv : v < 4) : ((fieldB (encB bs) v : Nat) : Int) - 1 = bs.getD v (-1) := by
  obtain ⟨b0, b1, b2, b3, rfl⟩ := list4 (bindOk_len h)
  have ha := bindOk_all h
  simp only [List.all_cons, List.all_nil, Bool.and_true, Bool.and_eq_true, hasB, decide_eq_true_eq] at ha
  match v, hv with
  | 0, _ => simp only [fieldB, encB, List.getD_cons_zero, List.getD_cons_succ]; omega
  | 1, _ => simp only [fieldB, encB, List.getD_cons_zero, List.getD_cons_succ]; omega
  | 2, _ => simp only [fieldB, encB, List.getD_cons_zero, List.getD_cons_succ]; omega
  | 3, _ => simp only [fieldB, encB, List.getD_cons_zero, List.getD_cons_succ]; omega

theorem encB_inj {bs cs : List Int} (h : bindOk bs = true) (h2 : bindOk cs = true) (e : encB bs = encB cs) : bs = cs := by
  apply List.ext_getElem (by rw [bindOk_len h, bindOk_len h2])
  intro v h1 h3
  have hv : v < 4 := by rw [bindOk_len h] at h1; exact h1
  have a := fieldB_enc h hv
  have b := fieldB_enc h2 hv
  rw [e] at a
  have c := a.symm.trans b
  simpa [h1, h3] using c
theorem bindOk_set {bs : List Int} (h : bindOk bs = true) {c : Int} (hc : -1 ≤ c ∧ c ≤ 5) (v : Nat) : bindOk (bs.set v c) = true := by
  refine bindOk_iff (by rw [List.length_set]; exact bindOk_len h) (List.all_eq_true.2 fun x hx => ?_)
  rcases List.mem_or_eq_of_mem_set hx with hx | rfl
  · exact List.all_eq_true.1 (bindOk_all h) x hx
  · simpa [hasB] using hc

/-- The first k of a list, the others as yet without any. -/
def padB (bs : List Int) (k : Nat) : List Int := bs.take k ++ List.replicate (4 - k) (-1)
theorem padB_zero (bs : List Int) : padB bs 0 = noneB := rfl
theorem padB_all {bs : List Int} (h : bs.length = 4) : padB bs 4 = bs := by simp [padB, ← h]
theorem padB_ok {bs : List Int} {k : Nat} (hl : bs.length = 4) (hk : k ≤ 4) (h : (bs.take k).all hasB = true) : bindOk (padB bs k) = true := by
  refine bindOk_iff (by simp [padB, hl]; omega) ?_
  simp only [padB, List.all_append, h, Bool.true_and, List.all_eq_true]
  intro x hx
  rw [List.eq_of_mem_replicate hx]
  rfl
theorem padB_step {bs : List Int} {k : Nat} (hl : bs.length = 4) (hk : k < 4) : (padB bs k).getD k (-1) = -1 ∧ (padB bs k).set k (bs[k]'(by omega)) = padB bs (k + 1) := by
  obtain ⟨b0, b1, b2, b3, rfl⟩ := list4 hl
  match k, hk with
  | 0, _ => exact ⟨rfl, rfl⟩
  | 1, _ => exact ⟨rfl, rfl⟩
  | 2, _ => exact ⟨rfl, rfl⟩
  | 3, _ => exact ⟨rfl, rfl⟩

/-- Bound. -/
def boundL (args bs : List Int) : List Int := if bindOk bs && args.all termOk then args.map (termVal bs) else []
theorem boundL_length (args bs : List Int) : (boundL args bs).length ≤ args.length := by
  unfold boundL
  split <;> simp

end Go.Proofs.YtfjmnjemmfmoaaaDoor
/-
  The walks of FactOk: the program's (with factFits) and the specification's.
-/
namespace Go.Proofs.YtfjmnjemmfmoaaaDoor
open Go.RowKit

def constOk (x : Int) : Bool := decide (0 ≤ x ∧ x ≤ 5)
def factFits (ar : List Int) (f : LFact) : Bool := decide (0 ≤ f.1 ∧ f.1 < ar.length ∧ (f.2.length : Int) = ar.getD f.1.toNat 0) && f.2.all constOk
def factOk (ar : List Int) (f : LFact) : Bool := arityOk ar && factFits ar f

def ConstsTo (xs : List Int) (k : Nat) : Prop := ∀ j, j < k → constOk (xs.getD j 0) = true
theorem ConstsTo.step {xs : List Int} {k : Nat} (h : ConstsTo xs k) (e : constOk (xs.getD k 0) = true) : ConstsTo xs (k + 1) := fun j hj => by
  by_cases h2 : j = k
  · subst h2; exact e
  · exact h j (by omega)
theorem ConstsTo.all {xs : List Int} (h : ConstsTo xs xs.length) : xs.all constOk = true := by
  rw [List.all_eq_true]
  intro x hx
  obtain ⟨j, hj, rfl⟩ := List.getElem_of_mem hx
  have := h j hj
  simpa [hj] using this
theorem consts_not {xs : List Int} {k : Nat} (hk : k < xs.length) (e : constOk xs[k] = false) : xs.all constOk = false := by
  rw [List.all_eq_false]
  exact ⟨xs[k], List.getElem_mem hk, by simp [e]⟩

end Go.Proofs.YtfjmnjemmfmoaaaDoor
/-
  HeadOf, plain mathematics; blocks that growth leaves alone.
-/
namespace Go.Proofs.YtfjmnjemmfmoaaaDoor
open Go.RowKit

def headOk (a : LFact) (bs : List Int) : Bool := (bindOk bs && a.2.all termOk) && (a.2.map (termVal bs)).all constOk
def headOf (a : LFact) (bs : List Int) : LFact := if headOk a bs then (a.1, a.2.map (termVal bs)) else (0, [])
theorem headOk_bind {a : LFact} {bs : List Int} (h : bindOk bs = false) : headOk a bs = false := by unfold headOk; rw [h]; rfl
theorem headOk_terms {a : LFact} {bs : List Int} (h : a.2.all termOk = false) : headOk a bs = false := by unfold headOk; rw [h, Bool.and_false]; rfl
theorem headOk_vals {a : LFact} {bs : List Int} (h : (a.2.map (termVal bs)).all constOk = false) : headOk a bs = false := by unfold headOk; rw [h, Bool.and_false]
theorem headOk_yes {a : LFact} {bs : List Int} (h1 : bindOk bs = true) (h2 : a.2.all termOk = true) (h3 : (a.2.map (termVal bs)).all constOk = true) : headOk a bs = true := by unfold headOk; rw [h1, h2, h3]; rfl
theorem headOf_no {a : LFact} {bs : List Int} (h : headOk a bs = false) : headOf a bs = (0, []) := by unfold headOf; rw [h]; rfl
theorem headOf_yes {a : LFact} {bs : List Int} (h : headOk a bs = true) : headOf a bs = (a.1, a.2.map (termVal bs)) := by unfold headOf; rw [h]; rfl
theorem headOf_length (a : LFact) (bs : List Int) : (headOf a bs).2.length ≤ a.2.length := by
  unfold headOf
  split <;> simp

theorem Blk.grown {w w' : World} {g : Nat} {t : TypeId} {cs : Array Value} {row : Option Nat} (h : Blk w g t cs) (hg : w.grownBy w' row) (hne : row ≠ some g) : Blk w' g t cs := (hg.block g h.lt (fun e => hne e.symm)).trans h
/-- A row that is appended to lies in none of the blocks ahead. -/
theorem OwnInts.apart {w : World} {lo hi : Nat} {v : Value} {xs : List Int} (h : OwnInts w lo hi v xs) {g : Nat} (hg : g < lo) : v.ownBlock ≠ some g := fun e => by have := h.lt e; omega

end Go.Proofs.YtfjmnjemmfmoaaaDoor
/-
  The specification's l3Bind, l3Term, Bound, l3Copy.
-/
namespace Go.Proofs.YtfjmnjemmfmoaaaDoor
open Go.RowKit

end Go.Proofs.YtfjmnjemmfmoaaaDoor
/-
  The walks of the program's words of what variables have: bindingShift, with, constant, value.
-/
namespace Go.Proofs.YtfjmnjemmfmoaaaDoor
open Go.RowKit

theorem shl_word {v : Nat} (hv : v < 4) {c : Int} (hc : -1 ≤ c ∧ c ≤ 5) : (c + 1) * 2 ^ ((3 - v) * 4) % 4294967296 = ((shlB v c : Nat) : Int) := by
  unfold shlB
  match v, hv with
  | 0, _ => show (c + 1) * 4096 % 4294967296 = (((c + 1).toNat * 4096 : Nat) : Int); omega
  | 1, _ => show (c + 1) * 256 % 4294967296 = (((c + 1).toNat * 256 : Nat) : Int); omega
  | 2, _ => show (c + 1) * 16 % 4294967296 = (((c + 1).toNat * 16 : Nat) : Int); omega
  | 3, _ => show (c + 1) * 1 % 4294967296 = (((c + 1).toNat * 1 : Nat) : Int); omega
theorem or_word32 {a b : Nat} (ha : a < 65536) (hb : b < 65536) : bits .or .u32 (a : Int) (b : Int) = ((a ||| b : Nat) : Int) := u32_or_nat a b (by omega) (by omega)
theorem field_word {m v : Nat} (hm : m < 65536) : bits .and .u32 ((m : Int) / 2 ^ ((3 - v) * 4)) 15 = ((fieldB m v : Nat) : Int) := by
  have h := u32_and_nat (m / 2 ^ ((3 - v) * 4)) 15 (Nat.lt_of_le_of_lt (Nat.div_le_self _ _) (by omega)) (by omega)
  have e : (15 : Nat) = 2 ^ 4 - 1 := rfl
  rw [e, Nat.and_two_pow_sub_one_eq_mod] at h
  simpa [fieldB] using h
theorem fieldB_lt (m v : Nat) : fieldB m v < 16 := Nat.mod_lt _ (by omega)

end Go.Proofs.YtfjmnjemmfmoaaaDoor
/-
  The walks of bindingOf, values, numbers.
-/
namespace Go.Proofs.YtfjmnjemmfmoaaaDoor
open Go.RowKit

theorem bs_getD {bs : List Int} {j : Nat} (hl : bs.length = 4) (hj : j < 4) : bs.getD j (-1) = bs.getD j 0 := by
  rw [List.getD_eq_getElem?_getD, List.getD_eq_getElem?_getD, List.getElem?_eq_getElem (by omega)]
  rfl

theorem make4i (W : World) : (Instr.makeSlice 23 (.int .i64 4) (.int .i64 4)).run Tryd.prog W = .ok (.slice (some ⟨W.heap.size, 0, none⟩) 4 4) (W.alloc (.cells (madeCells #[.int .i64 0] 4) 3)) :=
  run_make_row' (P := Tryd.prog) 23 3 (.int .i64 0) 8 Tryd.underlying23 Tryd.infoInt rfl .i64 .i64 4 (by omega) (by omega) W

end Go.Proofs.YtfjmnjemmfmoaaaDoor
/-
  The program's Bound.
-/
namespace Go.Proofs.YtfjmnjemmfmoaaaDoor
open Go.RowKit

theorem areTerms_is {xs : List Int} {b : Bool} (e : xs.all termOk = b) (v : Value) (B : Nat) (w : World) (h : RdInts w B v xs) (hr : xs.length ≤ 1048576) :
    Calls Tryd.prog 97 #[v] w fun e w' => e = .returned (.bool b) ∧ w = w' := e ▸ areTerms_any v xs B w h hr

end Go.Proofs.YtfjmnjemmfmoaaaDoor
/-
  Both BodySafe.
-/
namespace Go.Proofs.YtfjmnjemmfmoaaaDoor
open Go.RowKit

def litFine (l : LLit) : Bool := decide (0 ≤ l.1 ∧ l.1 ≤ 3) && l.2.2.all termOk
def bodySafe (ls : List LLit) : Bool := (ls.all litFine && decide (ls.length ≤ 4)) && ruleSafe ((0, []), ls)
theorem litFine_kind {l : LLit} (h : ¬ (0 ≤ l.1 ∧ l.1 ≤ 3)) : litFine l = false := by simp [litFine, h]
theorem litFine_terms {l : LLit} (h : l.2.2.all termOk = false) : litFine l = false := by unfold litFine; rw [h, Bool.and_false]
theorem litFine_yes {l : LLit} (h : 0 ≤ l.1 ∧ l.1 ≤ 3) (h2 : l.2.2.all termOk = true) : litFine l = true := by unfold litFine; rw [h2, decide_eq_true h]; rfl
theorem ruleMask_body (ls : List LLit) : ruleMask ((0, []), ls) = bodyMask ls := by simp [ruleMask, maskOf, maskFrom]
theorem bodySafe_not {ls : List LLit} {k : Nat} (hk : k < ls.length) (e : litFine ls[k] = false) : bodySafe ls = false := by
  unfold bodySafe
  rw [all_not hk e]
  rfl
theorem l2Terms_is {xs : List Int} {b : Bool} (e : xs.all termOk = b) (v : Value) (B : Nat) (w : World) (h : RdInts w B v xs) (hr : xs.length ≤ 1048576) :
    Calls Tryd.prog 60 #[v] w fun e w' => e = .returned (.bool b) ∧ w = w' := e ▸ l2Terms_any v xs B w h hr

end Go.Proofs.YtfjmnjemmfmoaaaDoor
/-
  The specification's HeadOf.
-/
namespace Go.Proofs.YtfjmnjemmfmoaaaDoor
open Go.RowKit

theorem zeroI (w : World) (lo hi : Nat) : OwnInts w lo hi (.slice none 0 0) [] := ⟨World.ownsRow_nil _ _ _ _, fun g hg => by cases hg⟩

end Go.Proofs.YtfjmnjemmfmoaaaDoor
/-
  The program's HeadOf.
-/
namespace Go.Proofs.YtfjmnjemmfmoaaaDoor
open Go.RowKit

end Go.Proofs.YtfjmnjemmfmoaaaDoor
/-
  Matching an atom with a fact, plain mathematics.
-/
namespace Go.Proofs.YtfjmnjemmfmoaaaDoor
open Go.RowKit

/-- One term against one constant. -/
def stepM (bs : List Int) (t c : Int) : Option (List Int) :=
  if termVal bs t = c then some bs else if termVal bs t = -1 then some (bs.set (-1 - t).toNat c) else none
def matchTo (bs xs ys : List Int) : Nat → Option (List Int)
  | 0 => some bs
  | k + 1 => (matchTo bs xs ys k).bind fun b => stepM b (xs.getD k 0) (ys.getD k 0)
def matchL (a f : LFact) (bs : List Int) : Option (List Int) :=
  if a.1 = f.1 ∧ a.2.length = f.2.length then matchTo bs a.2 f.2 a.2.length else none

theorem stepM_ok {bs b : List Int} (h : bindOk bs = true) {t c : Int} (hc : -1 ≤ c ∧ c ≤ 5) (e : stepM bs t c = some b) : bindOk b = true := by
  unfold stepM at e
  split at e
  · injection e with e
    rwa [← e]
  · split at e
    · injection e with e
      rw [← e]
      exact bindOk_set h hc _
    · cases e
theorem matchTo_step {bs xs ys b : List Int} {k : Nat} (h : matchTo bs xs ys k = some b) (h1 : k < xs.length) (h2 : k < ys.length) : matchTo bs xs ys (k + 1) = stepM b xs[k] ys[k] := by
  show (matchTo bs xs ys k).bind _ = _
  rw [h]
  simp [h1, h2]
theorem matchTo_none {bs xs ys : List Int} {k : Nat} (h : matchTo bs xs ys k = none) : ∀ n, k ≤ n → matchTo bs xs ys n = none
  | 0, hn => by
    have : k = 0 := by omega
    subst this
    exact h
  | n + 1, hn => by
    by_cases e : k = n + 1
    · rw [← e]; exact h
    · show (matchTo bs xs ys n).bind _ = none
      rw [matchTo_none h n (by omega)]
      rfl
theorem matchL_eq {a f : LFact} {bs : List Int} (h1 : a.1 = f.1) (h2 : a.2.length = f.2.length) : matchL a f bs = matchTo bs a.2 f.2 a.2.length := if_pos ⟨h1, h2⟩
theorem matchL_pred {a f : LFact} {bs : List Int} (h : a.1 ≠ f.1) : matchL a f bs = none := if_neg fun e => h e.1
theorem matchL_len {a f : LFact} {bs : List Int} (h : a.2.length ≠ f.2.length) : matchL a f bs = none := if_neg fun e => h e.2
theorem matchL_stop {a f : LFact} {bs : List Int} {k : Nat} (h1 : a.1 = f.1) (h2 : a.2.length = f.2.length) (hk : k < a.2.length) (e : matchTo bs a.2 f.2 (k + 1) = none) : matchL a f bs = none := by
  rw [matchL_eq h1 h2]
  exact matchTo_none e _ hk
theorem stepM_same {bs : List Int} {t c : Int} (h : termVal bs t = c) : stepM bs t c = some bs := if_pos h
theorem stepM_new {bs : List Int} {t c : Int} (h : termVal bs t = -1) (hc : c ≠ -1) : stepM bs t c = some (bs.set (-1 - t).toNat c) := by
  unfold stepM
  rw [if_neg (by omega), if_pos h]
theorem stepM_no {bs : List Int} {t c : Int} (h : termVal bs t ≠ c) (h2 : termVal bs t ≠ -1) : stepM bs t c = none := by
  unfold stepM
  rw [if_neg h, if_neg h2]
theorem termVal_free {bs : List Int} {t : Int} (ht : termOk t = true) (h : termVal bs t = -1) : -4 ≤ t ∧ t ≤ -1 ∧ bs.getD (-1 - t).toNat (-1) = -1 := by
  have htb := termOk_at ht
  have h0 : t < 0 := by
    rcases Int.lt_or_le t 0 with h1 | h1
    · exact h1
    · rw [termVal_const h1] at h
      omega
  rw [termVal_var h0] at h
  exact ⟨htb.1, by omega, h⟩

end Go.Proofs.YtfjmnjemmfmoaaaDoor
/-
  The specification's l3Copy, l3Match.
-/
namespace Go.Proofs.YtfjmnjemmfmoaaaDoor
open Go.RowKit

/-- A row of one's own that is not empty: its block, its cells. -/
theorem OwnInts.at_ {w : World} {lo hi c n : Nat} {A : Option Addr} {xs : List Int} (h : OwnInts w lo hi (.slice A n c) xs) (hn : 0 < xs.length) :
    ∃ g, A = some ⟨g, 0, none⟩ ∧ lo ≤ g ∧ g < hi ∧ g < w.heap.size ∧ (∀ k (hk : k < xs.length), w.cell? ⟨g, k, none⟩ = some (.int .i64 xs[k])) ∧ ∀ k, w.frozen? ⟨g, k, none⟩ = false := by
  obtain ⟨g, cap, e, _, _⟩ := h.1.form hn
  injection e with e1 e2 e3
  subst e1
  subst e2
  obtain ⟨l1, l2, l3⟩ := h.lt (g := g) rfl
  obtain ⟨A', c', e, _, hx⟩ := h.rd
  injection e with e1 _ _
  obtain ⟨b, o, e2, _, hx⟩ := hx hn
  rw [← e1] at e2
  injection e2 with e2
  injection e2 with e2 e3 _
  subst e2
  subst e3
  exact ⟨g, rfl, l1, l2, l3, fun k hk => by simpa using hx k hk, fun k => World.ownsRow.frozenAt h.1 k⟩

theorem OwnInts.atG {w : World} {lo hi c n g : Nat} {xs : List Int} (h : OwnInts w lo hi (.slice (some ⟨g, 0, none⟩) n c) xs) (hn : 0 < xs.length) :
    lo ≤ g ∧ g < hi ∧ g < w.heap.size ∧ (∀ k (hk : k < xs.length), w.cell? ⟨g, k, none⟩ = some (.int .i64 xs[k])) ∧ ∀ k, w.frozen? ⟨g, k, none⟩ = false := by
  obtain ⟨g', e, h'⟩ := h.at_ hn
  injection e with e
  injection e with e _ _
  subst e
  exact h'

end Go.Proofs.YtfjmnjemmfmoaaaDoor
/-
  Both Holds.
-/
namespace Go.Proofs.YtfjmnjemmfmoaaaDoor
open Go.RowKit

/-- LitSame, LitLess: both have constants, and are the same, or the first is less. -/
def cmpB (k a b : Int) : Bool := (decide (0 ≤ a) && decide (0 ≤ b)) && (if k = 2 then decide (a = b) else decide (a < b))
def litHolds (fs : List LFact) (l : LLit) (bs : List Int) : Bool :=
  if l.1 = 2 ∨ l.1 = 3 then decide (l.2.2.length = 2) && cmpB l.1 (termVal bs (l.2.2.getD 0 0)) (termVal bs (l.2.2.getD 1 0))
  else (headOk l.2 bs && decide (0 ≤ l.1 ∧ l.1 ≤ 1)) && (factsHas fs (headOf l.2 bs) == decide (l.1 = 0))
def holdsB (fs : List LFact) (l : LLit) (bs : List Int) : Bool := (bindOk bs && l.2.2.all termOk) && litHolds fs l bs

theorem cmpB_neg {k a b : Int} (h : a < 0) : cmpB k a b = false := by unfold cmpB; rw [decide_eq_false (show ¬ 0 ≤ a by omega)]; rfl
theorem cmpB_neg2 {k a b : Int} (h : b < 0) : cmpB k a b = false := by unfold cmpB; rw [decide_eq_false (show ¬ 0 ≤ b by omega), Bool.and_false]; rfl
theorem cmpB_same {a b : Int} (h : 0 ≤ a) (h2 : 0 ≤ b) : cmpB 2 a b = decide (a = b) := by unfold cmpB; rw [decide_eq_true h, decide_eq_true h2]; simp
theorem cmpB_less {a b : Int} (h : 0 ≤ a) (h2 : 0 ≤ b) : cmpB 3 a b = decide (a < b) := by unfold cmpB; rw [decide_eq_true h, decide_eq_true h2]; simp

/-- Two values, and what a comparison of them answers. -/
theorem cmpB_cases (k a b : Int) (hk : k = 2 ∨ k = 3) : (a < 0 ∧ cmpB k a b = false) ∨ (0 ≤ a ∧ b < 0 ∧ cmpB k a b = false) ∨ (0 ≤ a ∧ 0 ≤ b ∧ cmpB k a b = (if k = 2 then a == b else decide (a < b))) := by
  rcases Int.lt_or_le a 0 with h | h
  · exact .inl ⟨h, cmpB_neg h⟩
  · rcases Int.lt_or_le b 0 with h2 | h2
    · exact .inr (.inl ⟨h, h2, cmpB_neg2 h2⟩)
    · refine .inr (.inr ⟨h, h2, ?_⟩)
      rcases hk with rfl | rfl
      · rw [cmpB_same h h2]
        rfl
      · rw [cmpB_less h h2]
        rfl

end Go.Proofs.YtfjmnjemmfmoaaaDoor
/-
  Both Holds: literals that an atom holds, or does not.
-/
namespace Go.Proofs.YtfjmnjemmfmoaaaDoor
open Go.RowKit

theorem l1In_is {n lo hi : Int} {b : Bool} (h : decide (lo ≤ n ∧ n ≤ hi) = b) (w : World) : Calls Tryd.prog 70 #[.int .i64 n, .int .i64 lo, .int .i64 hi] w fun e w' => e = .returned (.bool b) ∧ w = w' := h ▸ l1In_any n lo hi w

end Go.Proofs.YtfjmnjemmfmoaaaDoor
/-
  The specification's l3Row, l3None, l3Try.
-/
namespace Go.Proofs.YtfjmnjemmfmoaaaDoor
open Go.RowKit

end Go.Proofs.YtfjmnjemmfmoaaaDoor
/-
  The walk of DrawMatch.
-/
namespace Go.Proofs.YtfjmnjemmfmoaaaDoor
open Go.RowKit

theorem RdBytes.onM {w w' : World} {v : Value} {bs : List Nat} (h : RdBytes w w.heap.size v bs) (hb : Below w.heap.size w w') : RdBytes w' w'.heap.size v bs := by
  obtain ⟨A, c, rfl, hc, hx⟩ := h.off (w' := w') (fun k hk => hb.block k hk)
  refine ⟨A, c, rfl, hc, fun hn => ?_⟩
  obtain ⟨b, o, rfl, hlt, hk⟩ := hx hn
  exact ⟨b, o, rfl, by have := hb.size; omega, hk⟩

section
variable {w w0 wr w' w4 : World} {g bf base q : Nat} {bs : List Nat} {p : Int} {A : Option Addr} {c : Nat} {zs : List Int}
end

/-- What the two results' stores leave. -/
theorem matchDone {w W : World} {ra rb lo hi : Nat} {ta tb : TypeId} {a f : LFact} {va vf vb : Value} {ys : List Int} (RA : Blk W ra ta #[.int .i64 0, .slice none 0 0]) (RB : Blk W rb tb #[.int .i64 0, .slice none 0 0]) (hab : ra ≠ rb) (B : Below w.heap.size w W) (h1 : w.heap.size ≤ ra) (h2 : w.heap.size ≤ rb)
    (ha : ra < lo) (hb : rb < lo) (oa : OwnInts W lo hi va a.2) (of : OwnInts W lo hi vf f.2) (ob : OwnInts W lo hi vb ys) (hh : hi ≤ W.heap.size) {Wf : World} (hW : Wf = (((W.setCell ⟨ra, 0, none⟩ (.int .i64 a.1)).setCell ⟨ra, 1, none⟩ va).setCell ⟨rb, 0, none⟩ (.int .i64 f.1)).setCell ⟨rb, 1, none⟩ vf) :
    Wf.cell? ⟨ra, 0, none⟩ = some (.int .i64 a.1) ∧ Wf.cell? ⟨ra, 1, none⟩ = some va ∧ Wf.cell? ⟨rb, 0, none⟩ = some (.int .i64 f.1) ∧ Wf.cell? ⟨rb, 1, none⟩ = some vf ∧
    RdInts Wf Wf.heap.size va a.2 ∧ RdInts Wf Wf.heap.size vf f.2 ∧ RdInts Wf Wf.heap.size vb ys ∧ Below w.heap.size w Wf := by
  subst hW
  have A2 := (RA.set_ 0 (.int .i64 a.1)).set_ 1 va
  have B2 := (((RB.far (p := ⟨ra, 0, none⟩) (fun e => hab e.symm) (.int .i64 a.1)).far (p := ⟨ra, 1, none⟩) (fun e => hab e.symm) va).set_ 0 (.int .i64 f.1)).set_ 1 vf
  have A3 := (A2.far (p := ⟨rb, 0, none⟩) hab (.int .i64 f.1)).far (p := ⟨rb, 1, none⟩) hab vf
  have rows : ∀ {v : Value} {xs : List Int}, OwnInts W lo hi v xs → RdInts ((((W.setCell ⟨ra, 0, none⟩ (.int .i64 a.1)).setCell ⟨ra, 1, none⟩ va).setCell ⟨rb, 0, none⟩ (.int .i64 f.1)).setCell ⟨rb, 1, none⟩ vf) ((((W.setCell ⟨ra, 0, none⟩ (.int .i64 a.1)).setCell ⟨ra, 1, none⟩ va).setCell ⟨rb, 0, none⟩ (.int .i64 f.1)).setCell ⟨rb, 1, none⟩ vf).heap.size v xs := fun h =>
    ((((h.set (p := ⟨ra, 0, none⟩) (.inl ha) _).set (p := ⟨ra, 1, none⟩) (.inl ha) _).set (p := ⟨rb, 0, none⟩) (.inl hb) _).set (p := ⟨rb, 1, none⟩) (.inl hb) _).rd.more (by simpa using hh)
  refine ⟨by rw [A3.cell 0]; simp, by rw [A3.cell 1]; simp, by rw [B2.cell 0]; simp, by rw [B2.cell 1]; simp, rows oa, rows of, rows ob, ?_⟩
  exact (((B.setCell h1 _).setCell h1 _).setCell h2 _).setCell h2 _

end Go.Proofs.YtfjmnjemmfmoaaaDoor
/-
  The walk of DrawProgramOk.
-/
namespace Go.Proofs.YtfjmnjemmfmoaaaDoor
open Go.RowKit

theorem szP_es {ar : List Int} {es : List Ent} (h : AnyOk ar es) : szP (ar, es.map (·.1)) ≤ 100 := by
  obtain ⟨_, h2, _, _, h5, h6⟩ := h
  have hr : ∀ l : List Ent, (∀ e ∈ l, e.1.1.2.length ≤ 3 ∧ e.1.2.length ≤ 4 ∧ totL e.1.2 ≤ 8 ∧ KindsOk e.1.2) → totR (l.map (·.1)) ≤ l.length * 15 := fun l => by
    induction l with
    | nil => intro _; simp [totR]
    | cons e l ih =>
      intro h
      have h1 := ih fun x hx => h x (List.mem_cons_of_mem _ hx)
      obtain ⟨h2, h3, h4, _⟩ := h e (List.mem_cons_self ..)
      have e1 : totR ((e :: l).map (·.1)) = szR e.1 + totR (l.map (·.1)) := by simp [totR]
      rw [e1, List.length_cons]
      unfold szR
      omega
  have := hr es h6
  unfold szP
  rw [List.length_map]
  show ar.length + (es.length + totR (es.map (·.1))) ≤ 100
  omega

set_option maxHeartbeats 4000000 in
set_option maxRecDepth 100000 in
theorem drawProgramOk_any (v : Value) (code : List Nat) (w : World) (h : RdBytes w w.heap.size v code) (hby : ∀ b ∈ code, b < 256) (hn : code.length ≤ 1073741824) :
    Calls Tryd.prog 22 #[v] w fun e w' => ∃ (p : LProg) (A : Option Addr) (c : Nat) (A2 : Option Addr) (c2 : Nat),
      e = .returned (.agg #[.slice A p.1.length c, .slice A2 p.2.length c2]) ∧ szP p ≤ 100 ∧ (∀ r ∈ p.2, KindsOk r.2) ∧
      RdInts w' w'.heap.size (.slice A p.1.length c) p.1 ∧ RdRules w' w'.heap.size (.slice A2 p.2.length c2) p.2 ∧ Below w.heap.size w w' := by
  have HV := Lib.hid h
  clear h
  go_enter Tryd.func22, Tryd.ntmps22
  go_upto_region 1 with fail
  obtain ⟨w0, hw0⟩ : ∃ w0, w0 = w.alloc (Obj.cells #[Value.slice none 0 0, Value.slice none 0 0] 40) := ⟨_, rfl⟩
  have RA0 : Blk w0 w.heap.size 40 #[.slice none 0 0, .slice none 0 0] := by rw [hw0]; exact Blk.new _ _ _
  have B0 : Below w.heap.size w w0 := by rw [hw0]; exact below1 _ _
  have hs0 : w0.heap.size = w.heap.size + 1 := by rw [hw0]; simp
  rw [← hw0]
  clear hw0
  obtain ⟨g, hg⟩ : ∃ g, g = w0.heap.size := ⟨_, rfl⟩
  have HRA := Lib.hid RA0
  have HB0 := Lib.hid B0
  have HS0 := Lib.hid hs0
  clear RA0 B0 hs0
  go_wp2_with (first
    | (go_at_call 72; refine (l40Open_any v code w0 (HV.out.onM HB0.out) hby hn).mono ?_
       rintro e w1 ⟨rfl, hr1, hb1⟩
       rw [← hg] at hr1 ⊢
       have hg1 : g < w1.heap.size := hr1.lt
       have HG := Lib.hid (show w.heap.size < g by rw [hg, HS0.out]; omega)
       have HB1 := Lib.hid (bthen HB0.out hb1)
       have HR1 := Lib.hid hr1
       have HRA1 := Lib.hid (HRA.out.below hb1 HRA.out.lt)
       obtain ⟨bs, hbs⟩ : ∃ bs, bs = code.take 2000 := ⟨_, rfl⟩
       rw [← hbs] at HR1
       clear hb1 hr1 hbs hg)
    | (go_at_call 71; refine (l2Any_any g bs 0 2 w1 HR1.out (by omega)).mono ?_
       rintro e w2 ⟨A, Ar, c, cr, B, q, ar, es, rfl, hok, hq, hB, hB2, h1, h2, h3, h4⟩
       have HOK := Lib.hid hok
       have HQ := Lib.hid (And.intro hB (And.intro hB2 (And.intro h1 (And.intro h2 (And.intro h3 h4)))))
       have HRA2 := Lib.hid (HRA1.out.only h4 (.inl HG.out))
       have j0 : w2.cell? ⟨w.heap.size, 0, none⟩ = some (.slice none 0 0) := HRA2.out.cell 0
       have j1 : w2.cell? ⟨w.heap.size, 1, none⟩ = some (.slice none 0 0) := HRA2.out.cell 1
       have l0 := HRA2.out.frozen 0
       have l1 := HRA2.out.frozen 1
       clear hok hB hB2 h1 h2 h3 h4))
  obtain ⟨W, hW⟩ : ∃ W, W = (w2.setCell ⟨w.heap.size, 0, none⟩ (.slice A ar.length c)).setCell ⟨w.heap.size, 1, none⟩ (.slice Ar es.length cr) := ⟨_, rfl⟩
  rw [← hW]
  have hbk := (HRA2.out.set_ 0 (.slice A ar.length c)).set_ 1 (.slice Ar es.length cr)
  rw [← hW] at hbk
  have d0 : W.cell? ⟨w.heap.size, 0, none⟩ = some (.slice A ar.length c) := by rw [hbk.cell 0]; simp
  have d1 : W.cell? ⟨w.heap.size, 1, none⟩ = some (.slice Ar es.length cr) := by rw [hbk.cell 1]; simp
  have hgg := HG.out
  obtain ⟨hB, hB2, h1, h2, h3, h4⟩ := HQ.out
  have hk : ∀ k, g < k → W.heap[k]? = w2.heap[k]? := fun k k1 => by
    rw [hW]
    exact (Below.heap_setCell _ _ _ k (by show k ≠ w.heap.size; omega)).trans (Below.heap_setCell _ _ _ k (by show k ≠ w.heap.size; omega))
  have hsz : w2.heap.size = W.heap.size := by rw [hW]; simp
  have hBW : Below w.heap.size w W := by rw [hW]; exact ((Only.then_ HB1.out h4 (by omega)).setCell (Nat.le_refl _) _).setCell (Nat.le_refl _) _
  have hml : (es.map (·.1)).length = es.length := by simp
  refine bodyPost_ret (v := .agg #[.slice A ar.length c, .slice Ar es.length cr]) (by simp [results, Tryd.results22, go_sem, d0, d1]) rfl ?_
  refine ⟨(ar, es.map (·.1)), A, c, Ar, cr, by rw [hml], szP_es HOK.out, fun r hr => ?_, (h1.keep fun k k1 k2 => hk k (by omega)).rd.more (by omega), ?_, hBW⟩
  · obtain ⟨e, he, rfl⟩ := List.mem_map.1 hr
    exact (HOK.out.2.2.2.2.2 e he).2.2.2
  · rw [hml]
    exact ((h2.keep (w2 := W) (Nat.le_of_eq hsz) fun k k1 k2 => hk k (by omega)).rules).rd

end Go.Proofs.YtfjmnjemmfmoaaaDoor
/-
  The walks of both VarsOf.
-/
namespace Go.Proofs.YtfjmnjemmfmoaaaDoor
open Go.RowKit

def varsOf (r : LRule) : List Int := bitsOf (ruleMask r)
/-- The marks below k. -/
def marksTo (m k : Nat) : List Int := ((List.range k).filter fun j => m.testBit j).map fun j : Nat => (j : Int)
theorem marksTo_yes {m k : Nat} (h : m.testBit k = true) : marksTo m (k + 1) = marksTo m k ++ [(k : Int)] := by
  unfold marksTo
  rw [List.range_succ, List.filter_append, List.map_append]
  simp [h]
theorem marksTo_no {m k : Nat} (h : m.testBit k = false) : marksTo m (k + 1) = marksTo m k := by
  unfold marksTo
  rw [List.range_succ, List.filter_append, List.map_append]
  simp [h]
theorem marksTo_length (m k : Nat) : (marksTo m k).length ≤ k := by
  unfold marksTo
  rw [List.length_map]
  exact Nat.le_trans (List.length_filter_le _ _) (by simp)
theorem marks_bits (k : Nat) (hk : k ≤ 64) {m : Nat} (hm : m < 2 ^ k) : marksTo m k = bitsOf m := by
  unfold marksTo bitsOf
  obtain ⟨d, hd⟩ : ∃ d, 64 = k + d := ⟨64 - k, by omega⟩
  rw [hd, List.range_add, List.filter_append, List.map_append]
  have : ((List.range d).map (k + ·)).filter (fun j => m.testBit j) = [] := by
    rw [List.filter_eq_nil_iff]
    intro j hj
    simp only [List.mem_map, List.mem_range] at hj
    obtain ⟨a, ha, rfl⟩ := hj
    have : m.testBit (k + a) = false := Nat.testBit_lt_two_pow (Nat.lt_of_lt_of_le hm (Nat.pow_le_pow_right (by omega) (by omega)))
    simp [this]
  rw [this]
  simp

set_option maxHeartbeats 1000000 in
theorem implVarsOf_any (v : Value) (r : LRule) (w : World) (h : RdRule w w.heap.size v r) (hr : szR r ≤ 1048576) (hT : Tab w) :
    Calls Tryd.prog 18 #[v] w fun e w' => ∃ A' c', e = .returned (.slice A' (varsOf r).length c') ∧ OwnInts w' w.heap.size w'.heap.size (.slice A' (varsOf r).length c') (varsOf r) ∧ Below w.heap.size w w' := by
  have hm := ruleMask_lt r
  have H := Lib.hid h
  have HT := Lib.hid hT
  clear hT
  obtain ⟨a, b, rfl, h, h2⟩ := h
  obtain ⟨A, c, rfl, hc, _⟩ := h
  obtain ⟨A2, c2, rfl, hcc, _⟩ := h2
  go_enter Tryd.func18, Tryd.ntmps18
  go_wp2_with (fail)
  refine (ruleVars_any _ r _ (H.out.on (below1 _ _)) hr).mono ?_
  rintro e w1 ⟨rfl, hb1⟩
  have B1 := bthen (below1 _ _) hb1
  clear hb1
  go_wp2_with (fail)
  refine (bitNumbers_any (ruleMask r) (by omega) _ (HT.out.below B1)).mono ?_
  rintro e w2 ⟨A', c', rfl, ho, hb2⟩
  go_wp2_with (fail)
  go_ret
  exact ⟨_, _, rfl, ho.mono B1.size (Nat.le_refl _), bthen B1 hb2⟩

set_option maxHeartbeats 1000000 in
set_option maxRecDepth 100000 in
theorem specVarsOf_any (v : Value) (r : LRule) (w : World) (h : RdRule w w.heap.size v r) (hr : szR r ≤ 1048576) :
    Calls Tryd.prog 19 #[v] w fun e w' => ∃ A' c', e = .returned (.slice A' (varsOf r).length c') ∧ OwnInts w' w.heap.size w'.heap.size (.slice A' (varsOf r).length c') (varsOf r) ∧ Below w.heap.size w w' := by
  obtain ⟨i0, hi0, hz0, hz1, hz2⟩ := info_parts Tryd.infoInt
  have hm := ruleMask_lt r
  have HE := Lib.hid (marks_bits 4 (by omega) hm)
  have H := Lib.hid h
  obtain ⟨a, b, rfl, h, h2⟩ := h
  obtain ⟨A, c, rfl, hc, _⟩ := h
  obtain ⟨A2, c2, rfl, hcc, _⟩ := h2
  go_enter Tryd.func19, Tryd.ntmps19
  go_wp2_with (fail)
  refine (l2Marks_any _ r _ (H.out.on (below1 _ _)) hr).mono ?_
  rintro e w1 ⟨g, rfl, m1, hg, hb1⟩
  have B1 := bthen (below1 _ _) hb1
  clear hb1
  go_wp2_with (fail)
  have hgl := m1.lt
  go_loopw [4, 5] (fun o i wr => ∃ (k : Nat) (A' : Option Addr) (c' : Nat), k ≤ 4 ∧ i = .int .i64 k ∧ o = .slice A' (marksTo (ruleMask r) k).length c' ∧ ColI w1 wr (marksTo (ruleMask r) k) A' c') (fun _ i _ => 4 - (intOf i).toNat)
  case atStart => exact ⟨0, _, 0, Nat.zero_le _, rfl, rfl, ColI.empty (Below.refl _ _)⟩
  case round =>
    obtain ⟨k, A', c', hk, rfl, rfl, hr2⟩ := hrel
    have hln := marksTo_length (ruleMask r) k
    by_cases hlt : k < 4
    · have hck := (m1.below hr2.below hgl).cell hlt
      cases he : (ruleMask r).testBit k
      · rw [he] at hck
        have HS := Lib.hid (marksTo_no he)
        have HP := Lib.hid hr2
        clear he hr2
        go_wp2_with (fail)
        go_roundw
        case rel => exact ⟨k + 1, _, _, by omega, by go_num, by rw [HS.out], by rw [HS.out]; exact HP.out⟩
        case measure => simp [intOf]; omega
      · rw [he] at hck
        have HS := Lib.hid (marksTo_yes he)
        have HP := Lib.hid hr2
        clear he hr2
        go_wp2_with (at_builtin; refine wpList_append_lies _ rfl (.tmp 19) (.tmp 21) 23 rfl w1.heap.size 3 i0 (.int .i64 0) 1 8 Tryd.underlying23 hi0 hz0 hz1 hz2 rfl (by decide) (.slice A' (marksTo (ruleMask r) k).length c') (marksTo (ruleMask r) k).length ((marksTo (ruleMask r) k).map (Value.int .i64)) rfl ?c1 ⟨_, 0, none⟩ 1 1 [.int .i64 k] rfl rfl (news1s _ _ _ _ (by simp)) ?c2 (by omega) (by unfold maxLen; omega) (by omega) ?c3 _ rfl ?_)
        case c1 => exact HP.out.own.1.alloc _
        case c2 => intro u hu; simp at hu; subst hu; rfl
        case c3 => have := HP.out.below.size; simp; omega
        intro g2 cap w4 hown hg2 _ _
        have hcol := HP.out.push (Below.refl _ _) hg2 hown
        rw [← HS.out] at hcol
        have hlen : (marksTo (ruleMask r) k).length + 1 = (marksTo (ruleMask r) (k + 1)).length := by rw [HS.out]; simp
        rw [hlen]
        have HC := Lib.hid hcol
        clear hcol hlen hown hg2
        go_wp2_with (fail)
        go_roundw
        case rel => exact ⟨k + 1, _, _, by omega, by go_num, rfl, HC.out⟩
        case measure => simp [intOf]; omega
    · have HO := Lib.hid (show OwnInts wr w1.heap.size wr.heap.size (.slice A' (varsOf r).length c') (varsOf r) ∧ marksTo (ruleMask r) k = varsOf r by
        have := hr2.own
        rw [show k = 4 by omega, HE.out] at this ⊢
        exact ⟨this, rfl⟩)
      have hbe := bthen B1 hr2.below
      have hsz := B1.size
      rw [HO.out.2]
      clear hr2
      go_wp2_with (fail)
      go_ret
      exact ⟨_, _, rfl, HO.out.1.mono hsz (Nat.le_refl _), hbe⟩

end Go.Proofs.YtfjmnjemmfmoaaaDoor
/-
  The walks of both HeadsOf.
-/
namespace Go.Proofs.YtfjmnjemmfmoaaaDoor
open Go.RowKit

/-- The heads among the first n predicates. -/
def headStep (n : Nat) (m : Nat) (r : LRule) : Nat := if 0 ≤ r.1.1 ∧ r.1.1 < (n : Int) then m ||| 2 ^ r.1.1.toNat else m
def headMask (n : Nat) (rs : List LRule) : Nat := rs.foldl (headStep n) 0
def headN (p : LProg) : Nat := min p.1.length 24
def headsOf (p : LProg) : List Int := bitsOf (headMask (headN p) p.2)
theorem headMask_take {n : Nat} {rs : List LRule} {k : Nat} (h : k < rs.length) : headMask n (rs.take (k + 1)) = headStep n (headMask n (rs.take k)) rs[k] := by
  unfold headMask
  rw [take_snoc rs k h, List.foldl_append]
  rfl
theorem headStep_lt {n m : Nat} {r : LRule} (hm : m < 2 ^ n) : headStep n m r < 2 ^ n := by
  unfold headStep
  split
  · rename_i h
    exact Nat.or_lt_two_pow hm (Nat.pow_lt_pow_right (by omega) (by omega))
  · exact hm
theorem headMask_lt {n : Nat} (rs : List LRule) : headMask n rs < 2 ^ n := by
  suffices ∀ (rs : List LRule) (m : Nat), m < 2 ^ n → rs.foldl (headStep n) m < 2 ^ n from this rs 0 (Nat.two_pow_pos n)
  intro rs
  induction rs with
  | nil => intro m hm; exact hm
  | cons r rs ih => intro m hm; exact ih _ (headStep_lt hm)
theorem testBit_headMask {n i : Nat} (hi : i < n) : ∀ (rs : List LRule) (m : Nat), (rs.foldl (headStep n) m).testBit i = (m.testBit i || rs.any fun r => r.1.1 == (i : Int))
  | [], m => by simp
  | r :: rs, m => by
    rw [List.foldl_cons, testBit_headMask hi rs, List.any_cons, ← Bool.or_assoc]
    congr 1
    unfold headStep
    split
    · rename_i h
      rw [Nat.testBit_or, Nat.testBit_two_pow]
      congr 1
      by_cases e : r.1.1 = (i : Int)
      · simp [e]
      · have : (r.1.1 == (i : Int)) = false := by simpa using e
        rw [this]
        simp
        omega
    · rename_i h
      have : (r.1.1 == (i : Int)) = false := by
        simp
        omega
      rw [this, Bool.or_false]
theorem rulesOf_any (p : LProg) (i : Nat) : (p.2.any fun r => r.1.1 == (i : Int)) = decide (0 < (rulesOf p (i : Int)).length) := by
  unfold rulesOf rulesTo
  rw [List.length_map]
  cases h : p.2.any fun r => r.1.1 == (i : Int)
  · rw [List.any_eq_false] at h
    have : (List.range p.2.length).filter (fun j => (p.2.getD j ((0, []), [])).1.1 == (i : Int)) = [] := by
      rw [List.filter_eq_nil_iff]
      intro j hj
      have hj := List.mem_range.1 hj
      have := h _ (List.getElem_mem hj)
      simpa [hj] using this
    rw [this]
    rfl
  · rw [List.any_eq_true] at h
    obtain ⟨r, hr, he⟩ := h
    obtain ⟨j, hj, rfl⟩ := List.getElem_of_mem hr
    symm
    rw [decide_eq_true_iff]
    apply List.length_pos_of_mem (a := j)
    rw [List.mem_filter]
    exact ⟨List.mem_range.2 hj, by simpa [hj] using he⟩
theorem head_bit {p : LProg} {i : Nat} (hi : i < headN p) : (headMask (headN p) p.2).testBit i = decide (0 < (rulesOf p (i : Int)).length) := by
  unfold headMask
  rw [testBit_headMask hi, rulesOf_any]
  simp

theorem shl_head {m q : Nat} (hm : m < 2 ^ 24) (hq : q < 24) : bits .or .u64 (m : Int) (IntKind.u64.wrap (2 ^ q)) = ((m ||| 2 ^ q : Nat) : Int) := by
  have hp : 2 ^ q < 2 ^ 24 := Nat.pow_lt_pow_right (by omega) hq
  have hw : IntKind.u64.wrap (2 ^ q : Int) = ((2 ^ q : Nat) : Int) := by
    rw [IntKind.wrap_u64]
    have : ((2 : Int) ^ q) = ((2 ^ q : Nat) : Int) := by simp
    rw [this]
    generalize (2 : Nat) ^ q = t at hp
    omega
  rw [hw]
  generalize (2 : Nat) ^ q = t at hp
  exact u64_or_nat m t (by omega) (by omega)

set_option maxHeartbeats 1000000 in
set_option maxRecDepth 100000 in
theorem implHeadsOf_any (v : Value) (p : LProg) (w : World) (h : RdProg w w.heap.size v p) (hs : szP p ≤ 1048576) (hT : Tab w) :
    Calls Tryd.prog 24 #[v] w fun e w' => ∃ A' c', e = .returned (.slice A' (headsOf p).length c') ∧ OwnInts w' w.heap.size w'.heap.size (.slice A' (headsOf p).length c') (headsOf p) ∧ Below w.heap.size w w' := by
  unfold szP at hs
  have HT := Lib.hid hT
  clear hT
  obtain ⟨a, b, rfl, h, h2⟩ := h
  have H2 := Lib.hid h2
  obtain ⟨A, c, rfl, hc, _⟩ := h
  obtain ⟨A2, c2, rfl, hc2, _⟩ := h2
  go_enter Tryd.func24, Tryd.ntmps24
  go_upto_region 1 with fail
  obtain ⟨w1, hw1⟩ : ∃ w1, w1 = w.alloc (Obj.cells #[Value.slice A p.1.length c, Value.slice A2 p.2.length c2] 40) := ⟨_, rfl⟩
  have B1 : Below w.heap.size w w1 := by rw [hw1]; exact below1 _ _
  have x1 : Blk w1 w.heap.size 40 #[.slice A p.1.length c, .slice A2 p.2.length c2] := by rw [hw1]; exact Blk.new _ _ _
  have q0 : w1.cell? ⟨w.heap.size, 0, none⟩ = some (.slice A p.1.length c) := x1.cell 0
  have q1 : w1.cell? ⟨w.heap.size, 1, none⟩ = some (.slice A2 p.2.length c2) := x1.cell 1
  rw [← hw1]
  clear hw1
  have hn24 : headN p ≤ 24 := by unfold headN; omega
  go_cut [3] (fun v wx => v = .int .i64 (headN p : Nat) ∧ wx = w1)
  case first =>
    rcases Nat.lt_or_ge 24 p.1.length with hl | hl
    · have HN := Lib.hid (show headN p = 24 by unfold headN; omega)
      have hlt : ¬ (p.1.length : Int) ≤ 24 := by omega
      go_wp2_with (fail)
      all_goals (go_meet; exact ⟨by rw [HN.out] <;> first | rfl | (congr 1; omega), rfl⟩)
    · have HN := Lib.hid (show headN p = p.1.length by unfold headN; omega)
      have hlt : (p.1.length : Int) ≤ 24 := by omega
      go_wp2_with (fail)
      all_goals (go_meet; exact ⟨by rw [HN.out] <;> first | rfl | (congr 1; omega), rfl⟩)
  case rest =>
    obtain ⟨rfl, rfl⟩ := hcut
    generalize hnn : headN p = n at hn24
    have HNN := Lib.hid hnn
    clear hnn
    go_wp2_with (fail)
    go_loopw [4, 6, 14] (fun m _ i wr => ∃ (k : Nat) (z : Int), k ≤ p.2.length ∧ i = .int .i64 k ∧ m = .int .u64 z ∧ z = (headMask n (p.2.take k) : Nat) ∧ Below wc.heap.size wc wr) (fun _ _ i _ => p.2.length - (intOf i).toNat)
    case atStart => exact ⟨0, 0, Nat.zero_le _, rfl, rfl, rfl, Below.refl _ _⟩
    case round =>
      obtain ⟨k, z, hk, rfl, rfl, hz, hbe⟩ := hrel
      have BW := bthen B1 hbe
      by_cases hlt : k < p.2.length
      · obtain ⟨b, o, u0, u1, u2, rfl, hbB, k0, k1, k2, rfl, p3, p4⟩ := (H2.out.on BW).get hlt
        obtain ⟨A4, c4, rfl, hc4, _⟩ := p3
        obtain ⟨A5, c5, rfl, hc5, _⟩ := p4
        have hml := headMask_lt (n := n) (p.2.take k)
        have hmt := headMask_take (n := n) hlt
        have hp24 : 2 ^ n ≤ 2 ^ 24 := Nat.pow_le_pow_right (by omega) hn24
        by_cases h0 : 0 ≤ p.2[k].1.1
        · have t0 : decide (0 ≤ p.2[k].1.1) = true := by simpa using h0
          by_cases h1 : p.2[k].1.1 < (n : Int)
          · have t1 : decide (p.2[k].1.1 < (n : Int)) = true := by simpa using h1
            have h64 : p.2[k].1.1 ≤ 64 := by omega
            have HZ := Lib.hid (show bits .or .u64 z (IntKind.u64.wrap (2 ^ p.2[k].1.1.toNat)) = (headMask n (p.2.take (k + 1)) : Nat) by
              rw [hz, shl_head (by omega) (by omega), hmt]
              unfold headStep
              rw [if_pos ⟨h0, h1⟩])
            clear hz hml hmt hp24
            go_wp2_with (fail)
            go_roundw
            case rel => exact ⟨k + 1, _, by omega, by go_num, rfl, HZ.out, bthen hbe (below1 _ _)⟩
            case measure => simp [intOf]; omega
          · have t1 : decide (p.2[k].1.1 < (n : Int)) = false := by simpa using h1
            have HZ := Lib.hid (show z = (headMask n (p.2.take (k + 1)) : Nat) by
              rw [hz, hmt]
              unfold headStep
              rw [if_neg (fun h => h1 h.2)])
            clear hz hml hmt hp24 h1
            go_wp2_with (fail)
            go_roundw
            case rel => exact ⟨k + 1, _, by omega, by go_num, rfl, HZ.out, bthen hbe (below1 _ _)⟩
            case measure => simp [intOf]; omega
        · have t0 : decide (0 ≤ p.2[k].1.1) = false := by simpa using h0
          have HZ := Lib.hid (show z = (headMask n (p.2.take (k + 1)) : Nat) by
            rw [hz, hmt]
            unfold headStep
            rw [if_neg (fun h => h0 h.1)])
          clear hz hml hmt hp24 h0
          go_wp2_with (fail)
          go_roundw
          case rel => exact ⟨k + 1, _, by omega, by go_num, rfl, HZ.out, bthen hbe (below1 _ _)⟩
          case measure => simp [intOf]; omega
      · have hzz : z = (headMask n p.2 : Nat) := by rw [hz, show k = p.2.length by omega, List.take_length]
        have hml := headMask_lt (n := n) p.2
        have hp24 : 2 ^ n ≤ 2 ^ 24 := Nat.pow_le_pow_right (by omega) hn24
        have HB := Lib.hid (show ∀ W, Tab W → Calls Tryd.prog 69 #[.int .u64 z] W fun e w' => ∃ A' c', e = .returned (.slice A' (headsOf p).length c') ∧ OwnInts w' W.heap.size w'.heap.size (.slice A' (headsOf p).length c') (headsOf p) ∧ Below W.heap.size W w' from fun W hW => by
          rw [hzz]
          have := bitNumbers_any (headMask n p.2) (by omega) W hW
          unfold headsOf
          rw [HNN.out]
          exact this)
        clear hz hzz hml hp24
        go_wp2_with (fail)
        refine (HB.out _ (HT.out.below BW)).mono ?_
        rintro e w2 ⟨A', c', rfl, ho, hb2⟩
        go_wp2_with (fail)
        go_ret
        exact ⟨_, _, rfl, ho.mono BW.size (Nat.le_refl _), bthen BW hb2⟩

set_option maxHeartbeats 1000000 in
set_option maxRecDepth 100000 in
theorem specHeadsOf_any (v : Value) (p : LProg) (w : World) (h : RdProg w w.heap.size v p) (hs : szP p ≤ 1048576) :
    Calls Tryd.prog 26 #[v] w fun e w' => ∃ A' c', e = .returned (.slice A' (headsOf p).length c') ∧ OwnInts w' w.heap.size w'.heap.size (.slice A' (headsOf p).length c') (headsOf p) ∧ Below w.heap.size w w' := by
  obtain ⟨i0, hi0, hz0, hz1, hz2⟩ := info_parts Tryd.infoInt
  have H := Lib.hid h
  have hsz := hs
  unfold szP at hs
  obtain ⟨a, b, rfl, h, h2⟩ := h
  obtain ⟨A, c, rfl, hc, _⟩ := h
  obtain ⟨A2, c2, rfl, hc2, _⟩ := h2
  go_enter Tryd.func26, Tryd.ntmps26
  go_wp2_with (fail)
  obtain ⟨w1, hw1⟩ : ∃ w1, w1 = w.alloc (Obj.cells #[Value.slice A p.1.length c, Value.slice A2 p.2.length c2] 40) := ⟨_, rfl⟩
  have B1 : Below w.heap.size w w1 := by rw [hw1]; exact below1 _ _
  have x1 : Blk w1 w.heap.size 40 #[.slice A p.1.length c, .slice A2 p.2.length c2] := by rw [hw1]; exact Blk.new _ _ _
  have s1 := x1.lt
  have S1 := Lib.hid (show w1.heap.size = w.heap.size + 1 by rw [hw1]; simp)
  rw [← hw1]
  clear hw1
  obtain ⟨m, hm⟩ : ∃ m, m = headMask (headN p) p.2 := ⟨_, rfl⟩
  have hbit : ∀ i, i < headN p → m.testBit i = decide (0 < (rulesOf p (i : Int)).length) := fun i hi => by rw [hm]; exact head_bit hi
  have hfin : marksTo m (headN p) = headsOf p := by
    rw [hm]
    exact marks_bits _ (by unfold headN; omega) (headMask_lt _)
  have HB := Lib.hid hbit
  have HF := Lib.hid hfin
  clear hm hbit hfin
  have hN1 : headN p ≤ p.1.length := by unfold headN; omega
  have hN2 : headN p ≤ 24 := by unfold headN; omega
  have hN3 : p.1.length ≤ headN p ∨ 24 ≤ headN p := by unfold headN; omega
  generalize hnn : headN p = n at hN1 hN2 hN3 HB HF
  clear hnn
  go_loopw [3, 4] (fun o i wr => ∃ (k : Nat) (A' : Option Addr) (c' : Nat), k ≤ n ∧ i = .int .i64 k ∧ o = .slice A' (marksTo m k).length c' ∧ ColI w1 wr (marksTo m k) A' c') (fun _ i _ => n - (intOf i).toNat)
  case atStart => exact ⟨0, _, 0, Nat.zero_le _, rfl, rfl, by rw [← S1.out]; exact ColI.empty (Below.refl _ _)⟩
  case round =>
    obtain ⟨k, A', c', hk, rfl, rfl, hr⟩ := hrel
    have hln := marksTo_length m k
    have BW := bthen B1 hr.below
    have xr := x1.below hr.below x1.lt
    have q0 : wr.cell? ⟨w.heap.size, 0, none⟩ = some (.slice A p.1.length c) := xr.cell 0
    have q1 : wr.cell? ⟨w.heap.size, 1, none⟩ = some (.slice A2 p.2.length c2) := xr.cell 1
    by_cases hlt : k < n
    · have ta : decide ((k : Int) < (p.1.length : Int)) = true := by simp; omega
      have tb : decide ((k : Int) < 24) = true := by simp; omega
      have hbk := HB.out k hlt
      have hrl := rulesTo_length p.2 (k : Int) p.2.length
      obtain ⟨L, hL⟩ : ∃ L, L = (rulesOf p (k : Int)).length := ⟨_, rfl⟩
      have hLs : L ≤ 1048576 := by rw [hL]; unfold rulesOf; omega
      have HR := Lib.hid (specRulesOf_any (.agg #[.slice A p.1.length c, .slice A2 p.2.length c2]) p (k : Int) wr (H.out.on BW) hsz)
      rw [← hL] at hbk HR
      have HL := Lib.hid hL
      clear hL
      have HP := Lib.hid hr
      clear hr
      by_cases he : 0 < L
      · have tp : (0 : Int) < (L : Int) := by omega
        have HS := Lib.hid (marksTo_yes (show m.testBit k = true by rw [hbk]; simpa using he))
        clear hbk
        go_wp2_with (fail)
        refine HR.out.mono ?_
        rintro e w2 ⟨A7, c7, rfl, ho7, hb2⟩
        go_wp2_with (at_builtin; refine wpList_append_lies _ rfl (.tmp 22) (.tmp 24) 23 rfl w1.heap.size 3 i0 (.int .i64 0) 1 8 Tryd.underlying23 hi0 hz0 hz1 hz2 rfl (by decide) (.slice A' (marksTo m k).length c') (marksTo m k).length ((marksTo m k).map (Value.int .i64)) rfl ?c1 ⟨_, 0, none⟩ 1 1 [.int .i64 k] rfl rfl (news1s _ _ _ _ (by simp)) ?c2 (by omega) (by unfold maxLen; omega) (by omega) ?c3 _ rfl ?_)
        case c1 => exact ((HP.out.own.below hb2 (Nat.le_refl _)).1).alloc _
        case c2 => intro u hu; simp at hu; subst hu; rfl
        case c3 => have := HP.out.below.size; have := hb2.size; simp; omega
        intro g2 cap w4 hown hg2 _ _
        have hcol := HP.out.push hb2 hg2 hown
        rw [← HS.out] at hcol
        have hlen : (marksTo m k).length + 1 = (marksTo m (k + 1)).length := by rw [HS.out]; simp
        rw [hlen]
        have HC := Lib.hid hcol
        clear hcol hlen hown hg2
        go_wp2_with (fail)
        go_roundw
        case rel => exact ⟨k + 1, _, _, by omega, by go_num, rfl, HC.out⟩
        case measure => simp [intOf]; omega
      · have tp : ¬ (0 : Int) < (L : Int) := by omega
        have HS := Lib.hid (marksTo_no (show m.testBit k = false by rw [hbk]; simpa using he))
        clear hbk he
        go_wp2_with (fail)
        refine HR.out.mono ?_
        rintro e w2 ⟨A7, c7, rfl, ho7, hb2⟩
        go_wp2_with (fail)
        go_roundw
        case rel => exact ⟨k + 1, _, _, by omega, by go_num, by rw [HS.out], by rw [HS.out]; exact ⟨bthen HP.out.below hb2, (HP.out.own.below hb2 (Nat.le_refl _)).mono (Nat.le_refl _) hb2.size⟩⟩
        case measure => simp [intOf]; omega
    · have hkn : k = n := by omega
      have HO := Lib.hid (show OwnInts wr w1.heap.size wr.heap.size (.slice A' (headsOf p).length c') (headsOf p) ∧ marksTo m k = headsOf p by
        have := hr.own
        rw [hkn, HF.out] at this ⊢
        exact ⟨this, rfl⟩)
      have hbe := bthen B1 hr.below
      have hsz1 := B1.size
      rw [HO.out.2]
      clear hr
      rcases hN3 with h3 | h3
      · have ta : decide ((k : Int) < (p.1.length : Int)) = false := by simp; omega
        go_wp2_with (fail)
        go_ret
        exact ⟨_, _, rfl, HO.out.1.mono hsz1 (Nat.le_refl _), hbe⟩
      · by_cases h5 : (k : Int) < (p.1.length : Int)
        · have ta : decide ((k : Int) < (p.1.length : Int)) = true := by simpa using h5
          have tb : decide ((k : Int) < 24) = false := by simp; omega
          go_wp2_with (fail)
          go_ret
          exact ⟨_, _, rfl, HO.out.1.mono hsz1 (Nat.le_refl _), hbe⟩
        · have ta : decide ((k : Int) < (p.1.length : Int)) = false := by simpa using h5
          go_wp2_with (fail)
          go_ret
          exact ⟨_, _, rfl, HO.out.1.mono hsz1 (Nat.le_refl _), hbe⟩

end Go.Proofs.YtfjmnjemmfmoaaaDoor
/-
  What heads and their rules are together: plain mathematics.
-/
namespace Go.Proofs.YtfjmnjemmfmoaaaDoor
open Go.RowKit

theorem rulesOf_count (p : LProg) (k : Int) : (rulesOf p k).length = p.2.countP (fun r => r.1.1 == k) := by
  unfold rulesOf rulesTo
  rw [List.length_map, ← List.countP_eq_length_filter]
  have e : p.2 = (List.range p.2.length).map (fun i => p.2.getD i ((0, []), [])) := by
    apply List.ext_getElem (by simp)
    intro i h1 h2
    simp [h1]
  conv => rhs; rw [e]
  rw [List.countP_map]
  rfl
theorem headsOf_mem {p : LProg} {k : Int} (h : k ∈ headsOf p) : ∃ j : Nat, k = (j : Int) ∧ j < headN p ∧ (p.2.any fun r => r.1.1 == (j : Int)) = true := by
  unfold headsOf bitsOf at h
  obtain ⟨j, hj, rfl⟩ := List.mem_map.1 h
  obtain ⟨_, hb⟩ := List.mem_filter.1 hj
  have hlt : j < headN p := by
    apply Classical.byContradiction
    intro hn
    have h1 := headMask_lt (n := headN p) p.2
    have h2 := Nat.ge_two_pow_of_testBit hb
    have h3 : 2 ^ headN p ≤ 2 ^ j := Nat.pow_le_pow_right (by decide) (by omega)
    omega
  refine ⟨j, rfl, hlt, ?_⟩
  unfold headMask at hb
  rw [testBit_headMask hlt, Nat.zero_testBit, Bool.false_or] at hb
  exact hb
theorem head_has {p : LProg} {k : Int} (h : k ∈ headsOf p) : 0 < (rulesOf p k).length := by
  obtain ⟨j, rfl, _, h2⟩ := headsOf_mem h
  rw [rulesOf_any] at h2
  exact of_decide_eq_true h2
theorem sum_counts : ∀ (rs : List LRule) (js : List Int), js.Nodup → (∀ r ∈ rs, r.1.1 ∈ js) → (js.map fun j => rs.countP (fun r => r.1.1 == j)).sum = rs.length
  | [], js, _, _ => by
    have h0 : ∀ l : List Int, (l.map fun j => ([] : List LRule).countP (fun r => r.1.1 == j)).sum = 0 := fun l => by
      induction l with
      | nil => rfl
      | cons j l ih => rw [List.map_cons, List.sum_cons, ih]; rfl
    exact h0 js
  | r :: rs, js, hn, h => by
    have h1 := sum_counts rs js hn fun x hx => h x (List.mem_cons_of_mem _ hx)
    have h2 : ∀ l : List Int, (l.map fun j => (r :: rs).countP (fun r => r.1.1 == j)).sum = (l.map fun j => rs.countP (fun r => r.1.1 == j)).sum + l.count r.1.1 := fun l => by
      induction l with
      | nil => rfl
      | cons j l ih =>
        rw [List.map_cons, List.sum_cons, List.map_cons, List.sum_cons, ih, List.countP_cons, List.count_cons]
        by_cases e : r.1.1 = j
        · have e1 : (r.1.1 == j) = true := by simpa using e
          have e2 : (j == r.1.1) = true := by simpa using e.symm
          rw [e1, e2]
          simp
          omega
        · have e1 : (r.1.1 == j) = false := by simpa using e
          have e2 : (j == r.1.1) = false := by simpa using fun h => e h.symm
          rw [e1, e2]
          simp
          omega
    rw [h2, h1, List.length_cons]
    have h3 : js.count r.1.1 ≤ 1 := List.nodup_iff_count.1 hn _
    have h4 : 0 < js.count r.1.1 := List.count_pos_iff.2 (h r (List.mem_cons_self ..))
    omega
theorem headsOf_nodup (p : LProg) : (headsOf p).Nodup := by
  unfold headsOf bitsOf
  unfold List.Nodup
  rw [List.pairwise_map]
  exact (List.nodup_range.filter _).imp fun {a b} h e => h (by exact_mod_cast e)
theorem heads_sum {p : LProg} (h : progOk p = true) : ((headsOf p).map fun k => (rulesOf p k).length).sum = p.2.length := by
  have e : (headsOf p).map (fun k => (rulesOf p k).length) = (headsOf p).map (fun k => p.2.countP (fun r => r.1.1 == k)) := List.map_congr_left fun k _ => rulesOf_count p k
  rw [e]
  refine sum_counts p.2 (headsOf p) (headsOf_nodup p) fun r hr => ?_
  unfold progOk at h
  rw [Bool.and_eq_true, Bool.and_eq_true] at h
  obtain ⟨ha, _, h2⟩ := h
  have hf := List.all_eq_true.1 h2 r hr
  unfold ruleFits atomFits at hf
  rw [Bool.and_eq_true, Bool.and_eq_true, decide_eq_true_eq] at hf
  have h24 : p.1.length ≤ 24 := by
    simp only [arityOk, Bool.and_eq_true, decide_eq_true_eq] at ha
    exact ha.1
  have hN : headN p = p.1.length := by unfold headN; omega
  obtain ⟨j, hj⟩ : ∃ j : Nat, r.1.1 = (j : Int) := ⟨r.1.1.toNat, by omega⟩
  unfold headsOf bitsOf
  rw [hj]
  refine List.mem_map.2 ⟨j, List.mem_filter.2 ⟨List.mem_range.2 (by omega), ?_⟩, rfl⟩
  unfold headMask
  rw [testBit_headMask (by omega), Nat.zero_testBit, Bool.false_or, List.any_eq_true]
  exact ⟨r, hr, by simpa using hj⟩

end Go.Proofs.YtfjmnjemmfmoaaaDoor
/-
  The walks of l2Has and of both Positive.
-/
namespace Go.Proofs.YtfjmnjemmfmoaaaDoor
open Go.RowKit

def hasNo (l : LLit) : Bool := decide (l.1 = 1)
def noneNo (r : LRule) : Bool := r.2.all fun l => !hasNo l
def positive (p : LProg) : Bool := progOk p && p.2.all noneNo

set_option maxHeartbeats 1000000 in
theorem l2Has_any (v : Value) (ls : List LLit) (B : Nat) (w : World) (h : RdLits w B v ls) (hr : ls.length ≤ 1048576) :
    Calls Tryd.prog 73 #[v, .int .i64 1] w fun e w' => e = .returned (.bool (!ls.all fun l => !hasNo l)) ∧ w = w' := by
  have H := Lib.hid h
  obtain ⟨A, c, rfl, hc, _⟩ := h
  go_enter Tryd.func73, Tryd.ntmps73
  go_wp2_with (fail)
  go_loop [5] (fun i => ∃ k : Nat, k ≤ ls.length ∧ i = .int .i64 k ∧ AllTo (fun l => !hasNo l) ls k) (fun i => ls.length - (intOf i).toNat)
  case atStart => exact ⟨0, Nat.zero_le _, rfl, AllTo.start⟩
  case round =>
    obtain ⟨k, hk, rfl, hs⟩ := hrel
    by_cases hlt : k < ls.length
    · obtain ⟨b, o, u0, u1, u2, rfl, hbB, k0, k1, k2, rfl, rfl, p3⟩ := H.out.get hlt
      by_cases he : ls[k].1 = 1
      · have hd : (ls[k].1 == 1) = true := by simpa using he
        have HE := Lib.hid (all_not (p := fun l : LLit => !hasNo l) hlt (by simp [hasNo, he]))
        clear hs he p3
        go_wp2_with (fail)
        go_ret
        exact ⟨ret_bool (by rw [HE.out]; rfl), rfl⟩
      · have hd : (ls[k].1 == 1) = false := by simpa using he
        have HS := Lib.hid (hs.step hlt (by simp [hasNo, he]))
        clear hs he p3
        go_wp2_with (fail)
        go_round
        case rel => exact ⟨k + 1, by omega, by go_num, HS.out⟩
        case measure => simp [intOf]; omega
    · have HE := Lib.hid (hs.done (by omega))
      clear hs
      go_wp2_with (fail)
      go_ret
      exact ⟨ret_bool (by rw [HE.out]; rfl), rfl⟩

set_option maxHeartbeats 1000000 in
set_option maxRecDepth 100000 in
theorem specPositive_any (v : Value) (p : LProg) (w : World) (h : RdProg w w.heap.size v p) (hs : szP p ≤ 1048576) :
    Calls Tryd.prog 28 #[v] w fun e w' => e = .returned (.bool (positive p)) ∧ Below w.heap.size w w' := by
  have HP := Lib.hid h
  have hsz := hs
  unfold szP at hs
  obtain ⟨a, b, rfl, h, h2⟩ := h
  have H2 := Lib.hid h2
  obtain ⟨A, c, rfl, hc, _⟩ := h
  obtain ⟨A2, c2, rfl, hc2, _⟩ := h2
  go_enter Tryd.func28, Tryd.ntmps28
  go_wp2_with (fail)
  obtain ⟨w2, hw2⟩ : ∃ w2, w2 = w.alloc (Obj.cells #[Value.slice A p.1.length c, Value.slice A2 p.2.length c2] 40) := ⟨_, rfl⟩
  have B2 : Below w.heap.size w w2 := by rw [hw2]; exact below1 _ _
  have x2 : Blk w2 w.heap.size 40 #[.slice A p.1.length c, .slice A2 p.2.length c2] := by rw [hw2]; exact Blk.new _ _ _
  have q0 : w2.cell? ⟨w.heap.size, 0, none⟩ = some (.slice A p.1.length c) := x2.cell 0
  have q1 : w2.cell? ⟨w.heap.size, 1, none⟩ = some (.slice A2 p.2.length c2) := x2.cell 1
  rw [← hw2]
  clear hw2
  go_loop [3] (fun i => ∃ k : Nat, k ≤ p.2.length ∧ i = .int .i64 k ∧ AllTo noneNo p.2 k) (fun i => p.2.length - (intOf i).toNat)
  case atStart => exact ⟨0, Nat.zero_le _, rfl, AllTo.start⟩
  case round =>
    obtain ⟨k, hk, rfl, hs⟩ := hrel
    by_cases hlt : k < p.2.length
    · obtain ⟨b, o, u0, u1, u2, rfl, hbB, k0, k1, k2, rfl, p3, p4⟩ := (H2.out.on B2).get hlt
      have HB := Lib.hid p4
      obtain ⟨A4, c4, rfl, hc4, _⟩ := p3
      obtain ⟨A5, c5, rfl, hc5, _⟩ := p4
      have hle := sz_le_totR p.2 k hlt
      unfold szR at hle
      by_cases he : noneNo p.2[k] = true
      · have HK := Lib.hid (l2Has_any _ p.2[k].2 _ _ HB.out (by omega))
        have HS := Lib.hid (hs.step hlt he)
        have he2 : (!p.2[k].2.all fun l => !hasNo l) = false := by unfold noneNo at he; rw [he]; rfl
        rw [he2] at HK
        clear hs he he2
        go_wp2_with (go_at_call 73; refine HK.out.mono ?_; rintro e w' ⟨rfl, rfl⟩)
        go_round
        case rel => exact ⟨k + 1, by omega, by go_num, HS.out⟩
        case measure => simp [intOf]; omega
      · have HK := Lib.hid (l2Has_any _ p.2[k].2 _ _ HB.out (by omega))
        have he' : noneNo p.2[k] = false := by simpa using he
        have HS := Lib.hid (show positive p = false by unfold positive; rw [all_not hlt he', Bool.and_false])
        have he2 : (!p.2[k].2.all fun l => !hasNo l) = true := by unfold noneNo at he'; rw [he']; rfl
        rw [he2] at HK
        clear hs he he2 he'
        go_wp2_with (go_at_call 73; refine HK.out.mono ?_; rintro e w' ⟨rfl, rfl⟩)
        go_ret
        exact ⟨ret_bool HS.out.symm, B2⟩
    · have HE := Lib.hid (show positive p = progOk p by unfold positive; rw [hs.done (by omega), Bool.and_true])
      clear hs
      go_wp2_with (fail)
      refine (specProgramOk_any _ p _ (HP.out.on B2) hsz).mono ?_
      rintro e w5 ⟨rfl, hb5⟩
      go_wp2_with (fail)
      go_ret
      exact ⟨ret_bool HE.out.symm, bthen B2 hb5⟩

set_option maxHeartbeats 1000000 in
set_option maxRecDepth 100000 in
theorem implPositive_any (v : Value) (p : LProg) (w : World) (h : RdProg w w.heap.size v p) (hs : szP p ≤ 1048576) :
    Calls Tryd.prog 27 #[v] w fun e w' => e = .returned (.bool (positive p)) ∧ Below w.heap.size w w' := by
  have HP := Lib.hid h
  have hsz := hs
  unfold szP at hs
  obtain ⟨a, b, rfl, h, h2⟩ := h
  have H2 := Lib.hid h2
  obtain ⟨A, c, rfl, hc, _⟩ := h
  obtain ⟨A2, c2, rfl, hc2, _⟩ := h2
  go_enter Tryd.func27, Tryd.ntmps27
  go_wp2_with (fail)
  refine (implProgramOk_any _ p _ (HP.out.on (below1 _ _)) hsz).mono ?_
  rintro e w2 ⟨rfl, hb2⟩
  have B2 := bthen (below1 _ _) hb2
  have x2 : Blk w2 w.heap.size 40 #[.slice A p.1.length c, .slice A2 p.2.length c2] := (Blk.new w _ _).below hb2 (by simp)
  have q1 : w2.cell? ⟨w.heap.size, 1, none⟩ = some (.slice A2 p.2.length c2) := x2.cell 1
  by_cases hf : progOk p = true
  · rw [hf]
    have HF := Lib.hid (show positive p = p.2.all noneNo by unfold positive; rw [hf, Bool.true_and])
    clear hf hb2
    go_wp2_with (fail)
    go_loopw [13] (fun i wr => ∃ k : Nat, k ≤ p.2.length ∧ i = .int .i64 k ∧ AllTo noneNo p.2 k ∧ Below w2.heap.size w2 wr) (fun i _ => p.2.length - (intOf i).toNat)
    case atStart => exact ⟨0, Nat.zero_le _, rfl, AllTo.start, Below.refl _ _⟩
    case round =>
      obtain ⟨k, hk, rfl, hs, hbe⟩ := hrel
      have BW := bthen B2 hbe
      clear q1
      by_cases hlt : k < p.2.length
      · obtain ⟨b, o, u0, u1, u2, rfl, hbB, k0, k1, k2, rfl, p3, p4⟩ := (H2.out.on BW).get hlt
        have HB := Lib.hid p4
        obtain ⟨A4, c4, rfl, hc4, _⟩ := p3
        obtain ⟨A5, c5, rfl, hc5, _⟩ := p4
        have hle := sz_le_totR p.2 k hlt
        unfold szR at hle
        go_wp2_with (fail)
        obtain ⟨w3, hw3⟩ : ∃ w3, w3 = wr.alloc (Obj.cells #[Value.int IntKind.i64 p.2[k].1.1, Value.slice A4 p.2[k].1.2.length c4, Value.slice A5 p.2[k].2.length c5] 28) := ⟨_, rfl⟩
        have B3 : Below wr.heap.size wr w3 := by rw [hw3]; exact below1 _ _
        rw [← hw3]
        clear hw3 k0 k1 k2
        go_loopw [20] (fun i ws => ∃ m : Nat, m ≤ p.2[k].2.length ∧ i = .int .i64 m ∧ AllTo (fun l => !hasNo l) p.2[k].2 m ∧ Below w3.heap.size w3 ws) (fun i _ => p.2[k].2.length - (intOf i).toNat)
        case atStart => exact ⟨0, Nat.zero_le _, rfl, AllTo.start, Below.refl _ _⟩
        case round =>
          obtain ⟨m, hm, rfl, ht, hbt⟩ := hrel
          have BT := bthen B3 hbt
          by_cases hlm : m < p.2[k].2.length
          · obtain ⟨b', o', u0, u1, u2, rfl, hbB', k0, k1, k2, rfl, rfl, p5⟩ := (HB.out.on BT).get hlm
            obtain ⟨A6, c6, rfl, hc6, _⟩ := p5
            by_cases he : p.2[k].2[m].1 = 1
            · have hd : (p.2[k].2[m].1 == 1) = true := by simpa using he
              have HE := Lib.hid (show positive p = false by rw [HF.out, all_not hlt (show noneNo p.2[k] = false from all_not hlm (by simp [hasNo, he]))])
              clear hs ht he
              go_wp2_with (fail)
              go_ret
              exact ⟨ret_bool HE.out.symm, bthen BW (bthen BT (below1 _ _))⟩
            · have hd : (p.2[k].2[m].1 == 1) = false := by simpa using he
              have HT := Lib.hid (ht.step hlm (by simp [hasNo, he]))
              clear ht he
              go_wp2_with (fail)
              go_roundw
              case rel => exact ⟨m + 1, by omega, by go_num, HT.out, bthen hbt (below1 _ _)⟩
              case measure => simp [intOf]; omega
          · have HS := Lib.hid (hs.step hlt (show noneNo p.2[k] = true from ht.done (by omega)))
            clear hs ht
            go_wp2_with (fail)
            go_roundw
            case rel => exact ⟨k + 1, by omega, by go_num, HS.out, bthen hbe BT⟩
            case measure => simp [intOf]; omega
      · have HE := Lib.hid (show positive p = true by rw [HF.out, hs.done (by omega)])
        clear hs
        go_wp2_with (fail)
        go_ret
        exact ⟨ret_bool HE.out.symm, BW⟩
  · have hf' : progOk p = false := by simpa using hf
    rw [hf']
    have HE := Lib.hid (show positive p = false by simp [positive, hf'])
    clear hf hf'
    go_wp2_with (fail)
    go_ret
    exact ⟨ret_bool HE.out.symm, B2⟩

end Go.Proofs.YtfjmnjemmfmoaaaDoor
/-
  The walk of the plain laws' wrInts.
-/
namespace Go.Proofs.YtfjmnjemmfmoaaaDoor
open Go.RowKit

theorem RdInts.at_ {w : World} {B c : Nat} {A : Option Addr} {xs : List Int} (h : RdInts w B (.slice A xs.length c) xs) {k : Nat} (hk : k < xs.length) : ∃ b o, A = some ⟨b, o, none⟩ ∧ b < B ∧ w.cell? ⟨b, o + k, none⟩ = some (.int .i64 xs[k]) := by
  obtain ⟨A', c', e, _, hx⟩ := h
  injection e with e1 _ _
  subst e1
  obtain ⟨b, o, rfl, hb, hx⟩ := hx (by omega)
  exact ⟨b, o, rfl, hb, hx k hk⟩

set_option maxHeartbeats 1000000 in
set_option maxRecDepth 100000 in
theorem wrInts_any (va vb : Value) (xs ys : List Int) (w : World) (ha : RdInts w w.heap.size va xs) (hb : RdInts w w.heap.size vb ys) (hx : xs.length ≤ 1048576) (hy : ys.length ≤ 1048576) :
    Calls Tryd.prog 17 #[va, vb] w fun e w' => e = .returned (.bool (decide (xs = ys))) ∧ Below w.heap.size w w' := by
  have HX := Lib.hid ha
  have HY := Lib.hid hb
  obtain ⟨A, c, rfl, hc, _⟩ := ha
  obtain ⟨A2, c2, rfl, hc2, _⟩ := hb
  by_cases hl : xs.length = ys.length
  · have hl1 : ((xs.length : Int) != (ys.length : Int)) = false := by simp [hl]
    have HL := Lib.hid hl
    clear hl
    go_enter Tryd.func17, Tryd.ntmps17
    go_wp2_with (fail)
    go_loopw [13] (fun i wr => ∃ k : Nat, k ≤ xs.length ∧ i = .int .i64 k ∧ (∀ j, j < k → xs[j]? = ys[j]?) ∧ Below w.heap.size w wr) (fun i _ => xs.length - (intOf i).toNat)
    case atStart => exact ⟨0, Nat.zero_le _, rfl, fun j h => absurd h (Nat.not_lt_zero _), Below.refl _ _⟩
    case round =>
      obtain ⟨k, hk, rfl, hs, hbe⟩ := hrel
      by_cases hlt : k < xs.length
      · have hlt2 : k < ys.length := by have := HL.out; omega
        obtain ⟨b, o, rfl, hbB, k0⟩ := (HX.out.on hbe).at_ hlt
        obtain ⟨b2, o2, rfl, hbB2, m0⟩ := (HY.out.on hbe).at_ hlt2
        have d0 : wr.drew.cell? ⟨b, o + k, none⟩ = some (.int .i64 xs[k]) := k0
        have d1 : wr.drew.cell? ⟨b2, o2 + k, none⟩ = some (.int .i64 ys[k]) := m0
        have HBE := Lib.hid hbe
        by_cases he : xs[k] = ys[k]
        · have hdb : (xs[k] != ys[k]) = false := by simp [he]
          have HS2 := Lib.hid (show ∀ j, j < k + 1 → xs[j]? = ys[j]? from fun j hj => by
            by_cases e : j = k
            · subst e; rw [List.getElem?_eq_getElem hlt, List.getElem?_eq_getElem hlt2, he]
            · exact hs j (by omega))
          clear he hs hbe
          go_upto_region 6 with fail
          go_big_region
          go_wp2_with (fail)
          go_roundw
          case rel => exact ⟨k + 1, by omega, by go_num, HS2.out, HBE.out.drew⟩
          case measure => simp [intOf]; omega
        · have hdb : (xs[k] != ys[k]) = true := by simpa using he
          have HE := Lib.hid (show decide (xs = ys) = false from decide_eq_false fun e => he (by subst e; rfl))
          clear he hs hbe
          go_upto_region 6 with fail
          go_big_region
          go_wp2_with (fail)
          go_ret
          exact ⟨ret_bool HE.out.symm, HBE.out.drew⟩
      · have HE := Lib.hid (show decide (xs = ys) = true from decide_eq_true (List.ext_getElem? fun j => by
          by_cases e : j < k
          · exact hs j e
          · have := HL.out
            rw [List.getElem?_eq_none (by omega), List.getElem?_eq_none (by omega)]))
        clear hs
        go_wp2_with (fail)
        go_ret
        exact ⟨ret_bool HE.out.symm, hbe⟩
  · have hl1 : ((xs.length : Int) != (ys.length : Int)) = true := by simp; omega
    have HE := Lib.hid (show decide (xs = ys) = false from decide_eq_false fun e => hl (by rw [e]))
    clear hl
    go_enter Tryd.func17, Tryd.ntmps17
    go_wp2_with (fail)
    go_ret
    exact ⟨ret_bool HE.out.symm, Below.refl _ _⟩

end Go.Proofs.YtfjmnjemmfmoaaaDoor
/-
  What comes in, opened into the words of the Base text.
-/
namespace Go.Proofs.YtfjmnjemmfmoaaaDoor
open Go.ChangeShapes Go.WideShapes Go.ChangeAt Go.RowKit Go.Joins Go.Deep

section
variable {H : Type} {enc : TypeId × Value → H} {W : World}

def InFact (W : World) (v : Value) (f : LFact) : Prop := RdFact W W.heap.size v f ∧ f.2.length ≤ maxLen
def InFacts (W : World) (v : Value) (fs : List LFact) : Prop := RdFacts W W.heap.size v fs ∧ fs.length ≤ maxLen ∧ ∀ k (h : k < fs.length), fs[k].2.length ≤ maxLen

end

end Go.Proofs.YtfjmnjemmfmoaaaDoor
/-
  A slice of bytes that came in.
-/
namespace Go.Proofs.YtfjmnjemmfmoaaaDoor
open Go.ChangeShapes Go.WideShapes Go.ChangeAt Go.RowKit Go.Joins Go.Deep

theorem Tryd.cells5 : Tryd.prog.cellsOf 5 = 1 := by kernel_rfl

/-- What is known of a slice of bytes that came in. -/
def InBytes (W : World) (v : Value) (bs : List Nat) : Prop := RdBytes W W.heap.size v bs ∧ bs.length ≤ maxLen ∧ ∀ b ∈ bs, b < 256

theorem byte_of_wf {n : Int} (h : (Lit.int .u8 n).wf = true) : 0 ≤ n ∧ n < 256 := by
  simp only [Lit.wf, Bool.and_eq_true, decide_eq_true_eq] at h
  have h1 : IntKind.u8.min = 0 := by decide
  have h2 : IntKind.u8.max = 255 := by decide
  omega

set_option maxRecDepth 100000 in
theorem open_inBytes {H : Type} {enc : TypeId × Value → H} {W : World} {v : Value} {d : DataW H} {p : List MemPlace} {b0 : Nat} (hv : Value.okWide Tryd.prog W .any b0 22 v) (h : DataW.Trod enc Tryd.prog W 0 (fun _ => true) true 22 v d p) :
    ∃ bs, InBytes W v bs := by
  obtain ⟨a, len, cap, rfl⟩ := okWide_slice Tryd.underlying22 hv
  obtain ⟨fuel, hf⟩ := h
  have hf : DataW.trod enc Tryd.prog W 0 (fun _ => true) true fuel 22 [.slice a len cap] = some (d, p) := by simpa [Value.cells] using hf
  rcases open_ints Tryd.underlying22 Tryd.underlying5 Tryd.cells5 hf with ⟨hcs, _⟩ | ⟨a, len, cap, zs, hcs, _, hl, hm, hz, _, hcell, hwz⟩
  · simp at hcs
    obtain ⟨rfl, rfl, rfl⟩ := hcs
    exact ⟨[], ⟨none, 0, rfl, by simp, fun h => absurd h (by simp)⟩, by simp, by simp⟩
  · simp at hcs
    obtain ⟨rfl, rfl, rfl⟩ := hcs
    simp at hz
    refine ⟨(zs.take len).map Int.toNat, ⟨some a, cap, ?_, by simp; omega, fun hn => ?_⟩, by simp; omega, ?_⟩
    · congr 1
      simp
      omega
    · have hlen : (zs.take len).length = len := by simp; omega
      simp only [List.length_map, hlen] at hn
      obtain ⟨b, o, rfl, hc⟩ := ints_at hcell (by omega)
      refine ⟨b, o, rfl, World.block_lt_of_cell? _ _ (hc 0 (by omega)), fun k hk => ?_⟩
      simp only [List.length_map, hlen] at hk
      have hw := byte_of_wf (hwz zs[k] (List.getElem_mem (by omega)))
      rw [hc k (by omega)]
      simp [show k < zs.length by omega]
      omega
    · intro b hb
      rw [List.mem_map] at hb
      obtain ⟨z, hz1, rfl⟩ := hb
      have := byte_of_wf (hwz z (List.mem_of_mem_take hz1))
      omega

end Go.Proofs.YtfjmnjemmfmoaaaDoor
