/-
  The law FnLits: for every input the call returns true, and each argument reads behind it as it read before. Conditions: none but the row's own.
-/
import Derived.Test.YtfjmnjemmfmoaaaChecked
import Derived.Deep.SlicePairs
import Derived.ProofKit
import Derived.OpenShut
import Derived.ChangeOld
import Derived.WalkKit
import Derived.Deep.Slices
import Derived.Deep.Fields
import Derived.ChangeSame
import Derived.Lib.SmallJoins
import Derived.KernelRfl
import Derived.Test.YtfjmnjemmfmoaaaRows
import Derived.Test.YtfjmnjemmfmoaaaPL1
import Derived.Test.YtfjmnjemmfmoaaaPL2
import Derived.Test.YtfjmnjemmfmoaaaPL3
import Derived.Test.YtfjmnjemmfmoaaaPL5
import Derived.Test.YtfjmnjemmfmoaaaPL6
/-
  The walks of DrawAtomOk and DrawLitOk.
-/
namespace Go.Proofs.Ytfjmnjemmfmoaaa
open Go.RowKit

/-- A drawn program while more is drawn: rb is the result's block, g the reader, D the program's block. -/
structure AnyAt (w0 wr : World) (rb : Nat) (tb : TypeId) (zs : Array Value) (lo D B g : Nat) (bs : List Nat) (q : Nat) (A : Option Addr) (c : Nat) (ar : List Int) (Ar : Option Addr) (cr : Nat) (es : List Ent) : Prop where
  res : Blk wr rb tb zs
  prg : Blk wr D 50 #[.slice A ar.length c, .slice Ar es.length cr]
  own : OwnInts wr lo B (.slice A ar.length c) ar
  rules : RowR B wr es Ar cr
  rg : rb < g
  gl : g < lo
  lB : lo ≤ B
  dB : B ≤ D
  rdr : Rdr wr g bs q
  below : Below w0.heap.size w0 wr
  first : w0.heap.size ≤ rb
section
variable {w0 w1 w2 wr w' : World} {rb : Nat} {tb : TypeId} {zs : Array Value} {lo D B g q i : Nat} {bs : List Nat} {A Ar : Option Addr} {c cr : Nat} {ar : List Int} {es : List Ent}
theorem AnyAt.go (h : AnyAt w0 wr rb tb zs lo D B g bs q A c ar Ar cr es) {q' : Nat} (hr : Rdr w' g bs q') (ho : Only g (g + 1) wr w') : AnyAt w0 w' rb tb zs lo D B g bs q' A c ar Ar cr es :=
  ⟨h.res.only ho (.inl h.rg), h.prg.only ho (.inr (by have := h.gl; have := h.lB; have := h.dB; omega)), h.own.only ho (.inr h.gl), h.rules.only ho (by have := h.gl; have := h.lB; omega), h.rg, h.gl, h.lB, h.dB, hr, Only.then_ h.below ho (by have := h.first; have := h.rg; omega), h.first⟩
theorem AnyAt.on (h : AnyAt w0 wr rb tb zs lo D B g bs q A c ar Ar cr es) (hb : Below wr.heap.size wr w') : AnyAt w0 w' rb tb zs lo D B g bs q A c ar Ar cr es :=
  h.go (h.rdr.below hb h.rdr.lt) (Only.of_below hb)
theorem AnyAt.start (hres : Blk w1 rb tb zs) (hrg : rb < g) (hf : w0.heap.size ≤ rb) (hb0 : Below w0.heap.size w0 w1) (hg : g < w1.heap.size) (hB : w1.heap.size ≤ B) (hB2 : B ≤ w2.heap.size) (h1 : OwnInts w2 w1.heap.size B (.slice A ar.length c) ar) (h2 : RowR B w2 es Ar cr) (h3 : Rdr w2 g bs q) (h4 : Only g (g + 1) w1 w2)
    (hw : w' = w2.alloc (.cells #[.slice A ar.length c, .slice Ar es.length cr] 50)) : AnyAt w0 w' rb tb zs w1.heap.size w2.heap.size B g bs q A c ar Ar cr es := by
  have hb : Below w2.heap.size w2 w' := by rw [hw]; exact below1 _ _
  exact ⟨(hres.only h4 (.inl hrg)).below hb (by have := hres.lt; have := h4.size; omega), by rw [hw]; exact Blk.new _ _ _, h1.below hb hB2, h2.below hb, hrg, hg, hB, hB2, h3.below hb h3.lt, bthen (Only.then_ hb0 h4 (by omega)) hb, hf⟩
/-- A drawn rule in a variable of its own. -/
def RuleAt (w0 wx : World) (rb : Nat) (tb : TypeId) (zs : Array Value) (lo D B g : Nat) (bs : List Nat) (q : Nat) (A : Option Addr) (c : Nat) (ar : List Int) (Ar : Option Addr) (cr : Nat) (es : List Ent) (s : Value) : Prop :=
  ∃ (b : Nat) (e : Ent), s = .pointer (some ⟨b, 0, none⟩) ∧ e ∈ es ∧ Blk wx b 54 #[.int .i64 e.1.1.1, e.2.1, e.2.2] ∧ D < b ∧ AnyAt w0 wx rb tb zs lo D B g bs q A c ar Ar cr es
theorem AnyAt.forms (h : AnyAt w0 wr rb tb zs lo D B g bs q A c ar Ar cr es) (hi : i < es.length) : ∃ A5 c5 A6 c6, es[i].2.1 = .slice A5 es[i].1.1.2.length c5 ∧ es[i].2.2 = .slice A6 es[i].1.2.length c6 := by
  obtain ⟨_, _, _, _, _, _, _, _, _, _, h7, h8⟩ := h.rules.own i hi
  obtain ⟨A5, c5, e5⟩ := h7.form
  obtain ⟨A6, c6, e6, _⟩ := h8
  exact ⟨A5, c5, A6, c6, e5, e6⟩
theorem AnyAt.pick1 {v5 v6 : Value} (h : AnyAt w0 wr rb tb zs lo D B g bs q A c ar Ar cr es) (hi : i < es.length) (hv : (es[i].2.1, es[i].2.2) = (v5, v6)) : RuleAt w0 (wr.alloc (.cells #[.int .i64 es[i].1.1.1, v5, v6] 54)) rb tb zs lo D B g bs q A c ar Ar cr es (.pointer (some ⟨wr.heap.size, 0, none⟩)) := by
  injection hv with h5 h6
  rw [← h5, ← h6]
  exact ⟨_, es[i], rfl, List.getElem_mem hi, Blk.new _ _ _, h.prg.lt, h.on (below1 _ _)⟩
theorem AnyAt.pick2 {b q' : Nat} {wn : World} {v5 v6 : Value} (h : AnyAt w0 wr rb tb zs lo D B g bs q A c ar Ar cr es) (hi : i < es.length) (hb : wr.heap.size ≤ b) (hn : Only g (g + 1) wr wn) (hr : Rdr wn g bs q') (hB : Blk wn b 54 #[.int .i64 0, .slice none 0 0, .slice none 0 0])
    (h5 : es[i].2.1 = v5) (h6 : es[i].2.2 = v6) (hw : w' = ((wn.setCell ⟨b, 0, none⟩ (.int .i64 es[i].1.1.1)).setCell ⟨b, 1, none⟩ v5).setCell ⟨b, 2, none⟩ v6) : RuleAt w0 w' rb tb zs lo D B g bs q' A c ar Ar cr es (.pointer (some ⟨b, 0, none⟩)) := by
  subst hw
  have hgb : g < wr.heap.size := h.rdr.lt
  refine ⟨b, es[i], rfl, List.getElem_mem hi, ?_, Nat.lt_of_lt_of_le h.prg.lt hb, h.go (hr.same fun k hk => ?_) (((hn.setNew (p := ⟨b, 0, none⟩) hb _).setNew (p := ⟨b, 1, none⟩) hb _).setNew (p := ⟨b, 2, none⟩) hb _)⟩
  · rw [h5, h6]
    exact Blk.set3 hB _ _ _
  · exact ((Below.heap_setCell _ _ _ k (by show k ≠ b; omega)).trans (Below.heap_setCell _ _ _ k (by show k ≠ b; omega))).trans (Below.heap_setCell _ _ _ k (by show k ≠ b; omega))
/-- What the drawn rule reads as, wherever what lies behind the reader stays. -/
theorem AnyAt.head (h : AnyAt w0 wr rb tb zs lo D B g bs q A c ar Ar cr es) (hi : i < es.length) (hk : ∀ k, g < k → k < wr.heap.size → w'.heap[k]? = wr.heap[k]?) (hs : wr.heap.size ≤ w'.heap.size) : RdInts w' w'.heap.size es[i].2.1 es[i].1.1.2 := by
  obtain ⟨lo1, hi1, lo2, hi2, h1, h2, h3, h4, _, _, h7, h8⟩ := h.rules.own i hi
  have := h.gl
  have := h.lB
  exact (h7.keep fun k k1 k2 => hk k (by omega) (by omega)).rd.more (by omega)
theorem AnyAt.body (h : AnyAt w0 wr rb tb zs lo D B g bs q A c ar Ar cr es) (hi : i < es.length) (hk : ∀ k, g < k → k < wr.heap.size → w'.heap[k]? = wr.heap[k]?) (hs : wr.heap.size ≤ w'.heap.size) : RdLits w' w'.heap.size es[i].2.2 es[i].1.2 := by
  obtain ⟨lo1, hi1, lo2, hi2, h1, h2, h3, h4, _, _, h7, h8⟩ := h.rules.own i hi
  have := h.gl
  have := h.lB
  exact (h8.keep fun k k1 k2 => hk k (by omega) (by omega)).rd.more (by omega)
theorem AnyAt.arity (h : AnyAt w0 wr rb tb zs lo D B g bs q A c ar Ar cr es) (hk : ∀ k, g < k → k < wr.heap.size → w'.heap[k]? = wr.heap[k]?) (hs : wr.heap.size ≤ w'.heap.size) : RdInts w' w'.heap.size (.slice A ar.length c) ar := by
  have := h.gl
  have := h.dB
  have := h.prg.lt
  exact (h.own.keep fun k k1 k2 => hk k (by omega) (by omega)).rd.more (by omega)
end

set_option maxHeartbeats 4000000 in
set_option maxRecDepth 100000 in
theorem drawAtomOk_any (v : Value) (code : List Nat) (w : World) (h : RdBytes w w.heap.size v code) (hby : ∀ b ∈ code, b < 256) (hn : code.length ≤ 1073741824) :
    Calls Try.prog 6 #[v] w fun e w' => ∃ (ar : List Int) (a : LFact) (A : Option Addr) (c : Nat) (A2 : Option Addr) (c2 : Nat),
      e = .returned (.tuple #[.slice A ar.length c, .agg #[.int .i64 a.1, .slice A2 a.2.length c2]]) ∧ ar.length ≤ 5 ∧ a.2.length ≤ 3 ∧
      RdInts w' w'.heap.size (.slice A ar.length c) ar ∧ RdInts w' w'.heap.size (.slice A2 a.2.length c2) a.2 ∧ Below w.heap.size w w' := by
  have HV := Lib.hid h
  clear h
  go_enter Try.func6, Try.ntmps6
  go_upto_region 1 with fail
  obtain ⟨w0, hw0⟩ : ∃ w0, w0 = w.alloc (Obj.cells #[Value.int IntKind.i64 0, Value.slice none 0 0] 25) := ⟨_, rfl⟩
  have RA0 : Blk w0 w.heap.size 25 #[.int .i64 0, .slice none 0 0] := by rw [hw0]; exact Blk.new _ _ _
  have B0 : Below w.heap.size w w0 := by rw [hw0]; exact below1 _ _
  have hs0 : w0.heap.size = w.heap.size + 1 := by rw [hw0]; simp
  rw [← hw0]
  clear hw0
  obtain ⟨g, hg⟩ : ∃ g, g = w0.heap.size := ⟨_, rfl⟩
  have HRA := Lib.hid RA0
  have HB0 := Lib.hid B0
  have HS0 := Lib.hid hs0
  clear RA0 B0 hs0
  go_wp2_with fail
  refine (l40Open_any v code w0 (HV.out.onM HB0.out) hby hn).mono ?_
  rintro e w1 ⟨rfl, hr1, hb1⟩
  rw [← hg] at hr1 ⊢
  have hg1 : g < w1.heap.size := hr1.lt
  have HG := Lib.hid (show w.heap.size < g by rw [hg, HS0.out]; omega)
  have HB1 := Lib.hid (bthen HB0.out hb1)
  have HR1 := Lib.hid hr1
  have HRA1 := Lib.hid (HRA.out.below hb1 HRA.out.lt)
  obtain ⟨bs, hbs⟩ : ∃ bs, bs = code.take 2000 := ⟨_, rfl⟩
  rw [← hbs] at HR1
  clear hb1 hr1 hbs hg
  go_wp2_with fail
  refine (l2Any_any g bs 0 1 w1 HR1.out (by omega)).mono ?_
  rintro e w2 ⟨A, Ar, c, cr, B, q, ar, es, rfl, hok, hq, hB, hB2, h1, h2, h3, h4⟩
  have HOK := Lib.hid hok
  have HQ := Lib.hid (And.intro hB (And.intro hB2 (And.intro h1 (And.intro h2 (And.intro h3 h4)))))
  clear hok hB hB2 h1 h2 h3 h4
  go_upto_region 3 with fail
  obtain ⟨w3, hw3⟩ : ∃ w3, w3 = w2.alloc (.cells #[.slice A ar.length c, .slice Ar es.length cr] 50) := ⟨_, rfl⟩
  have H3 := Lib.hid (AnyAt.start HRA1.out HG.out (Nat.le_refl _) HB1.out hg1 HQ.out.1 HQ.out.2.1 HQ.out.2.2.1 HQ.out.2.2.2.1 HQ.out.2.2.2.2.1 HQ.out.2.2.2.2.2 hw3)
  rw [← hw3]
  clear hw3 HQ
  obtain ⟨D, hD⟩ : ∃ D, D = w2.heap.size := ⟨_, rfl⟩
  rw [← hD] at H3 ⊢
  clear hD
  have hel := HOK.out.2.2.2.1
  have hel4 := HOK.out.2.2.2.2.1
  obtain ⟨gr, hgr, hgr1, hgr2⟩ := H3.out.rules.form (by omega)
  subst hgr
  obtain ⟨SS, hSS⟩ : ∃ SS : World → Prop, SS = (fun W => W.cell? ⟨D, 0, none⟩ = some (.slice A ar.length c) ∧ W.cell? ⟨D, 1, none⟩ = some (.slice (some ⟨gr, 0, none⟩) es.length cr)) := ⟨_, rfl⟩
  have HB := Lib.hid (show ∀ W, SS W → W.cell? ⟨D, 0, none⟩ = some (.slice A ar.length c) ∧ W.cell? ⟨D, 1, none⟩ = some (.slice (some ⟨gr, 0, none⟩) es.length cr) from by rw [hSS]; exact fun W hW => hW)
  have HC := Lib.hid (show ∀ W (q : Nat), AnyAt w W w.heap.size 25 #[.int .i64 0, .slice none 0 0] w1.heap.size D B g bs q A c ar (some ⟨gr, 0, none⟩) cr es → SS W from by rw [hSS]; exact fun W q hW => ⟨hW.prg.cell 0, hW.prg.cell 1⟩)
  clear hSS
  have HRd := Lib.hid (H3.out.on (Below.refl _ _).drew)
  have SB := HC.out _ _ HRd.out
  refine wp_region_rel SS 13 14 (by kernel_rfl) rfl ?_
  refine wpAnyR_pure (i := 0) (oi := _) ?v0 rfl rfl (by kernel_rfl) (by decide) (fun _ _ _ h => h) rfl ?hy0 (fun _ => SB) ?rest0
  case hy0 => (intro W; go_simp; (try with_reducible rfl))
  try simp only [List.setIfInBounds_toArray, List.set_cons_zero, List.set_cons_succ]
  refine wpAnyR_pure (i := 2) (oi := _) ?v2 rfl rfl (by kernel_rfl) (by decide) (fun _ _ _ h => h) rfl ?hy2 (fun _ => SB) ?rest2
  case hy2 => (intro W; go_simp; (try with_reducible rfl))
  try simp only [List.setIfInBounds_toArray, List.set_cons_zero, List.set_cons_succ]
  refine wpAnyR_pure (i := 4) (oi := _) ?v4 rfl rfl (by kernel_rfl) (by decide) (fun _ _ _ h => h) rfl ?hy4 (fun _ => SB) ?rest4
  case hy4 => (intro W; go_simp; (try with_reducible rfl))
  try simp only [List.setIfInBounds_toArray, List.set_cons_zero, List.set_cons_succ]
  refine wpAnyR_pure (i := 5) (oi := _) ?v5 rfl rfl (by kernel_rfl) (by decide) (fun _ _ _ h => h) rfl ?hy5 (fun _ => SB) ?rest5
  case hy5 => (intro W; go_simp; (try with_reducible rfl))
  try simp only [List.setIfInBounds_toArray, List.set_cons_zero, List.set_cons_succ]
  refine wpAnyR_take (i := 1) (oi := _) ?v1 rfl rfl (by kernel_rfl) (fun _ _ _ h => h) rfl ?hy1 SB ?rest1
  case hy1 => (intro W hW; obtain ⟨E0, E1⟩ := HB.out W hW; go_simp; (try with_reducible rfl))
  try simp only [List.setIfInBounds_toArray, List.set_cons_zero, List.set_cons_succ]
  refine wpAnyR_take (i := 3) (oi := _) ?v3 rfl rfl (by kernel_rfl) (fun _ _ _ h => h) rfl ?hy3 SB ?rest3
  case hy3 => (intro W hW; obtain ⟨E0, E1⟩ := HB.out W hW; go_simp; (try with_reducible rfl))
  try simp only [List.setIfInBounds_toArray, List.set_cons_zero, List.set_cons_succ]
  refine wpAnyR_take (i := 6) (oi := _) ?v6 rfl rfl (by kernel_rfl) (fun _ _ _ h => h) rfl ?hy6 SB ?rest6
  case hy6 => (intro W hW; obtain ⟨E0, E1⟩ := HB.out W hW; go_simp; (try with_reducible rfl))
  try simp only [List.setIfInBounds_toArray, List.set_cons_zero, List.set_cons_succ]
  refine wpAnyR_pure (i := 7) (oi := _) ?v7 rfl rfl (by kernel_rfl) (by decide) (fun _ _ _ h => h) rfl ?hy7 (fun _ => SB) ?rest7
  case hy7 => (intro W; go_simp; (try with_reducible rfl))
  try simp only [List.setIfInBounds_toArray, List.set_cons_zero, List.set_cons_succ]
  refine wpAnyR_one (i := 8) (by kernel_rfl) rfl (fun K hK => ?_)
  try rw [if_pos (show Region.wanted _ _ = true from rfl)]
  go_simp
  refine (pick_any g bs q es.length _ HRd.out.rdr (by omega) (by omega)).mono ?_
  rintro e wn ⟨⟨i, rfl, hi⟩, hpn⟩
  have hir : 0 ≤ i ∧ i < es.length := hi.1 (by omega)
  obtain ⟨i, rfl⟩ : ∃ j : Nat, i = (j : Int) := ⟨i.toNat, by omega⟩
  have hi2 : i < es.length := by omega
  have hib : decide ((i : Int) < (es.length : Int)) = true := by simp; omega
  have Hn := Lib.hid (HRd.out.go hpn.1 hpn.2)
  clear hpn hi
  have SN := HC.out _ _ Hn.out
  refine hK.out _ _ (fun _ => SN) ?_
  clear hK K
  try simp only [List.setIfInBounds_toArray, List.set_cons_zero, List.set_cons_succ, Act.put]
  obtain ⟨c0, c1, c2⟩ := Hn.out.rules.at_ hi2
  obtain ⟨A5, c5, hv5⟩ : ∃ A5 c5, es[i].2.1 = .slice A5 es[i].1.1.2.length c5 := by
    obtain ⟨_, _, _, _, _, _, _, _, _, _, h7, _⟩ := Hn.out.rules.own i hi2
    exact h7.form
  have hhl := (HOK.out.2.2.2.2.2 _ (List.getElem_mem hi2)).1
  have HV5 := Lib.hid hv5
  rw [hv5] at c1
  obtain ⟨xs, hxs⟩ : ∃ xs, xs = es[i].1.1.2 := ⟨_, rfl⟩
  have HXS := Lib.hid hxs
  obtain ⟨pd, hpd⟩ : ∃ pd, pd = es[i].1.1.1 := ⟨_, rfl⟩
  rw [← hxs] at c1 hhl
  rw [← hpd] at c0
  have j0 : wn.cell? ⟨w.heap.size, 0, none⟩ = some (.int .i64 0) := Hn.out.res.cell 0
  have j1 : wn.cell? ⟨w.heap.size, 1, none⟩ = some (.slice none 0 0) := Hn.out.res.cell 1
  have l0 := Hn.out.res.frozen 0
  have l1 := Hn.out.res.frozen 1
  clear hv5 hxs c2
  refine wpAnyR_pure (i := 12) (oi := _) ?v12 rfl rfl (by kernel_rfl) (by decide) (fun _ _ _ h => h) rfl ?hy12 (fun _ => SN) ?rest12
  case hy12 => (intro W; go_simp; (try with_reducible rfl))
  try simp only [List.setIfInBounds_toArray, List.set_cons_zero, List.set_cons_succ]
  refine wpAnyR_pure (i := 9) (oi := _) ?v9 rfl rfl (by kernel_rfl) (by decide) (fun _ _ _ h => h) rfl ?hy9 (fun _ => SN) ?rest9
  case hy9 => (intro W; go_simp; (try with_reducible rfl))
  try simp only [List.setIfInBounds_toArray, List.set_cons_zero, List.set_cons_succ]
  refine wpAnyR_pure (i := 10) (oi := _) ?v10 rfl rfl (by kernel_rfl) (by decide) (fun _ _ _ h => h) rfl ?hy10 (fun _ => SN) ?rest10
  case hy10 => (intro W; go_simp; (try with_reducible rfl))
  try simp only [List.setIfInBounds_toArray, List.set_cons_zero, List.set_cons_succ]
  refine wpAnyR_one (i := 11) (by kernel_rfl) rfl (fun K hK => ?_)
  try rw [if_pos (show Region.wanted _ _ = true from rfl)]
  go_simp
  refine hK.out _ _ (fun _ => SN) ?_
  clear hK K
  try simp only [List.setIfInBounds_toArray, List.set_cons_zero, List.set_cons_succ, Act.put]
  refine wpAnyR_one (i := 13) (by kernel_rfl) rfl (fun K hK => ?_)
  go_simp
  refine hK.out _ _ (fun hf => absurd hf (by decide)) ?_
  clear hK K
  refine wpAnyR_done (by kernel_rfl) ?_
  go_wp2_with (fail)
  rw [← hpd]
  obtain ⟨W, hW⟩ : ∃ W, W = (wn.setCell ⟨w.heap.size, 0, none⟩ (.int .i64 pd)).setCell ⟨w.heap.size, 1, none⟩ (.slice A5 xs.length c5) := ⟨_, rfl⟩
  rw [← hW]
  have hbk := (Hn.out.res.set_ 0 (.int .i64 pd)).set_ 1 (.slice A5 xs.length c5)
  rw [← hW] at hbk
  have d0 : W.cell? ⟨w.heap.size, 0, none⟩ = some (.int .i64 pd) := by rw [hbk.cell 0]; simp
  have d1 : W.cell? ⟨w.heap.size, 1, none⟩ = some (.slice A5 xs.length c5) := by rw [hbk.cell 1]; simp
  have hgg := HG.out
  have hk : ∀ k, g < k → k < wn.heap.size → W.heap[k]? = wn.heap[k]? := fun k k1 _ => by
    rw [hW]
    exact (Below.heap_setCell _ _ _ k (by show k ≠ w.heap.size; omega)).trans (Below.heap_setCell _ _ _ k (by show k ≠ w.heap.size; omega))
  have hsz : wn.heap.size ≤ W.heap.size := by rw [hW]; simp
  have hB : Below w.heap.size w W := by rw [hW]; exact (Hn.out.below.setCell (Nat.le_refl _) _).setCell (Nat.le_refl _) _
  have hh := Hn.out.head hi2 hk hsz
  rw [HV5.out, ← HXS.out] at hh
  refine bodyPost_ret (v := .tuple #[.slice A ar.length c, .agg #[.int .i64 pd, .slice A5 xs.length c5]]) (by simp [results, Try.results6, go_sem, d0, d1]) rfl ?_
  exact ⟨ar, (pd, xs), A, c, A5, c5, rfl, HOK.out.2.1, hhl, Hn.out.arity hk hsz, hh, hB⟩

/-- A literal in a variable of its own (block lb), while more is drawn. -/
def LitAt (wc wx : World) (g : Nat) (bs : List Nat) (n lb : Nat) : Prop :=
  ∃ (q : Nat) (l : LLit) (A7 : Option Addr) (c7 lo7 hi7 : Nat), q ≤ n ∧ Blk wx lb 27 #[.int .i64 l.1, .int .i64 l.2.1, .slice A7 l.2.2.length c7] ∧ l.2.2.length ≤ 8 ∧ OwnInts wx lo7 hi7 (.slice A7 l.2.2.length c7) l.2.2 ∧ g < lo7 ∧ hi7 ≤ wx.heap.size ∧ Rdr wx g bs q ∧ Only g (g + 1) wc wx
theorem OwnLits.at_ {w : World} {lo hi m : Nat} {v : Value} {ls : List LLit} (h : OwnLits w lo hi v ls) (hm : m < ls.length) : ∃ b o c A7 c7, v = .slice (some ⟨b, o, none⟩) ls.length c ∧ w.cell? ⟨b, o + m * 3, none⟩ = some (.int .i64 ls[m].1) ∧ w.cell? ⟨b, o + m * 3 + 1, none⟩ = some (.int .i64 ls[m].2.1) ∧ w.cell? ⟨b, o + m * 3 + 2, none⟩ = some (.slice A7 ls[m].2.2.length c7) ∧ OwnInts w lo hi (.slice A7 ls[m].2.2.length c7) ls[m].2.2 := by
  obtain ⟨A, c, rfl, _, hx⟩ := h
  obtain ⟨b, o, rfl, _, _, hk⟩ := hx (by omega)
  obtain ⟨_, u0, u1, u2, c0, c1, c2, rfl, rfl, ho⟩ := hk m hm
  obtain ⟨A7, c7, rfl⟩ := ho.form
  exact ⟨b, o, c, A7, c7, rfl, c0, c1, c2, ho⟩

set_option maxHeartbeats 4000000 in
set_option maxRecDepth 100000 in
theorem drawLitOk_any (v : Value) (code : List Nat) (w : World) (h : RdBytes w w.heap.size v code) (hby : ∀ b ∈ code, b < 256) (hn : code.length ≤ 1073741824) :
    Calls Try.prog 5 #[v] w fun e w' => ∃ (ar : List Int) (l : LLit) (A : Option Addr) (c : Nat) (A2 : Option Addr) (c2 : Nat),
      e = .returned (.tuple #[.slice A ar.length c, .agg #[.int .i64 l.1, .int .i64 l.2.1, .slice A2 l.2.2.length c2]]) ∧ ar.length ≤ 5 ∧ l.2.2.length ≤ 8 ∧
      RdInts w' w'.heap.size (.slice A ar.length c) ar ∧ RdInts w' w'.heap.size (.slice A2 l.2.2.length c2) l.2.2 ∧ Below w.heap.size w w' := by
  have HV := Lib.hid h
  clear h
  go_enter Try.func5, Try.ntmps5
  go_upto_region 1 with fail
  obtain ⟨w0, hw0⟩ : ∃ w0, w0 = w.alloc (Obj.cells #[Value.int IntKind.i64 0, Value.int IntKind.i64 0, Value.slice none 0 0] 27) := ⟨_, rfl⟩
  have RA0 : Blk w0 w.heap.size 27 #[.int .i64 0, .int .i64 0, .slice none 0 0] := by rw [hw0]; exact Blk.new _ _ _
  have B0 : Below w.heap.size w w0 := by rw [hw0]; exact below1 _ _
  have hs0 : w0.heap.size = w.heap.size + 1 := by rw [hw0]; simp
  rw [← hw0]
  clear hw0
  obtain ⟨g, hg⟩ : ∃ g, g = w0.heap.size := ⟨_, rfl⟩
  have HRA := Lib.hid RA0
  have HB0 := Lib.hid B0
  have HS0 := Lib.hid hs0
  clear RA0 B0 hs0
  go_wp2_with fail
  refine (l40Open_any v code w0 (HV.out.onM HB0.out) hby hn).mono ?_
  rintro e w1 ⟨rfl, hr1, hb1⟩
  rw [← hg] at hr1 ⊢
  have hg1 : g < w1.heap.size := hr1.lt
  have HG := Lib.hid (show w.heap.size < g by rw [hg, HS0.out]; omega)
  have HB1 := Lib.hid (bthen HB0.out hb1)
  have HR1 := Lib.hid hr1
  have HRA1 := Lib.hid (HRA.out.below hb1 HRA.out.lt)
  obtain ⟨bs, hbs⟩ : ∃ bs, bs = code.take 2000 := ⟨_, rfl⟩
  rw [← hbs] at HR1
  clear hb1 hr1 hbs hg
  go_wp2_with fail
  refine (l2Any_any g bs 0 2 w1 HR1.out (by omega)).mono ?_
  rintro e w2 ⟨A, Ar, c, cr, B, q, ar, es, rfl, hok, hq, hB, hB2, h1, h2, h3, h4⟩
  have HOK := Lib.hid hok
  have HQ := Lib.hid (And.intro hB (And.intro hB2 (And.intro h1 (And.intro h2 (And.intro h3 h4)))))
  clear hok hB hB2 h1 h2 h3 h4
  go_upto_region 3 with fail
  obtain ⟨w3, hw3⟩ : ∃ w3, w3 = w2.alloc (.cells #[.slice A ar.length c, .slice Ar es.length cr] 50) := ⟨_, rfl⟩
  have H3 := Lib.hid (AnyAt.start HRA1.out HG.out (Nat.le_refl _) HB1.out hg1 HQ.out.1 HQ.out.2.1 HQ.out.2.2.1 HQ.out.2.2.2.1 HQ.out.2.2.2.2.1 HQ.out.2.2.2.2.2 hw3)
  rw [← hw3]
  clear hw3 HQ
  obtain ⟨D, hD⟩ : ∃ D, D = w2.heap.size := ⟨_, rfl⟩
  rw [← hD] at H3 ⊢
  clear hD
  have hel := HOK.out.2.2.2.1
  have hel4 := HOK.out.2.2.2.2.1
  obtain ⟨gr, hgr, hgr1, hgr2⟩ := H3.out.rules.form (by omega)
  subst hgr
  go_cut [6] (fun s6 wx => RuleAt w wx w.heap.size 27 #[.int .i64 0, .int .i64 0, .slice none 0 0] w1.heap.size D B g bs (q + 1) A c ar (some ⟨gr, 0, none⟩) cr es s6)
  case first =>
    obtain ⟨SS, hSS⟩ : ∃ SS : World → Prop, SS = (fun W => W.cell? ⟨D, 1, none⟩ = some (.slice (some ⟨gr, 0, none⟩) es.length cr) ∧ ∀ i (h : i < es.length), W.cell? ⟨gr, i * 3, none⟩ = some (.int .i64 es[i].1.1.1) ∧ W.cell? ⟨gr, i * 3 + 1, none⟩ = some es[i].2.1 ∧ W.cell? ⟨gr, i * 3 + 2, none⟩ = some es[i].2.2) := ⟨_, rfl⟩
    have HB := Lib.hid (show ∀ W, SS W → W.cell? ⟨D, 1, none⟩ = some (.slice (some ⟨gr, 0, none⟩) es.length cr) ∧ ∀ i (h : i < es.length), W.cell? ⟨gr, i * 3, none⟩ = some (.int .i64 es[i].1.1.1) ∧ W.cell? ⟨gr, i * 3 + 1, none⟩ = some es[i].2.1 ∧ W.cell? ⟨gr, i * 3 + 2, none⟩ = some es[i].2.2 from by rw [hSS]; exact fun W hW => hW)
    have HC := Lib.hid (show ∀ W (q : Nat), AnyAt w W w.heap.size 27 #[.int .i64 0, .int .i64 0, .slice none 0 0] w1.heap.size D B g bs q A c ar (some ⟨gr, 0, none⟩) cr es → SS W from by rw [hSS]; exact fun W q hW => ⟨hW.prg.cell 1, fun i hi => hW.rules.at_ hi⟩)
    clear hSS
    have HRd := Lib.hid (H3.out.on (Below.refl _ _).drew)
    have SB := HC.out _ _ HRd.out
    have HGD := Lib.hid (show g + 1 ≤ w3.drew.heap.size from H3.out.rdr.lt)
    refine wp_region_rel SS 10 11 (by kernel_rfl) rfl ?_
    refine wpAnyR_pure (i := 0) (oi := _) ?v0 rfl rfl (by kernel_rfl) (by decide) (fun _ _ _ h => h) rfl ?hy0 (fun _ => SB) ?rest0
    case hy0 => (intro W; go_simp; (try with_reducible rfl))
    try simp only [List.setIfInBounds_toArray, List.set_cons_zero, List.set_cons_succ]
    refine wpAnyR_pure (i := 2) (oi := _) ?v2 rfl rfl (by kernel_rfl) (by decide) (fun _ _ _ h => h) rfl ?hy2 (fun _ => SB) ?rest2
    case hy2 => (intro W; go_simp; (try with_reducible rfl))
    try simp only [List.setIfInBounds_toArray, List.set_cons_zero, List.set_cons_succ]
    refine wpAnyR_pure (i := 3) (oi := _) ?v3 rfl rfl (by kernel_rfl) (by decide) (fun _ _ _ h => h) rfl ?hy3 (fun _ => SB) ?rest3
    case hy3 => (intro W; go_simp; (try with_reducible rfl))
    try simp only [List.setIfInBounds_toArray, List.set_cons_zero, List.set_cons_succ]
    refine wpAnyR_take (i := 1) (oi := _) ?v1 rfl rfl (by kernel_rfl) (fun _ _ _ h => h) rfl ?hy1 SB ?rest1
    case hy1 => (intro W hW; obtain ⟨E1, ER⟩ := HB.out W hW; go_simp; (try with_reducible rfl))
    try simp only [List.setIfInBounds_toArray, List.set_cons_zero, List.set_cons_succ]
    refine wpAnyR_take (i := 4) (oi := _) ?v4 rfl rfl (by kernel_rfl) (fun _ _ _ h => h) rfl ?hy4 SB ?rest4
    case hy4 => (intro W hW; obtain ⟨E1, ER⟩ := HB.out W hW; go_simp; (try with_reducible rfl))
    try simp only [List.setIfInBounds_toArray, List.set_cons_zero, List.set_cons_succ]
    refine wpAnyR_pure (i := 5) (oi := _) ?v5 rfl rfl (by kernel_rfl) (by decide) (fun _ _ _ h => h) rfl ?hy5 (fun _ => SB) ?rest5
    case hy5 => (intro W; go_simp; (try with_reducible rfl))
    try simp only [List.setIfInBounds_toArray, List.set_cons_zero, List.set_cons_succ]
    refine wpAnyR_two (i := 6) (j := 9) (by kernel_rfl) rfl rfl (fun K hK => ?_) (fun K hK => ?_)
    · try rw [if_pos (show Region.wanted _ _ = true from rfl)]
      go_simp
      refine (pick_any g bs q es.length _ HRd.out.rdr (by omega) (by omega)).mono ?_
      rintro e wn ⟨⟨i, rfl, hi⟩, hpn⟩
      have hir : 0 ≤ i ∧ i < es.length := hi.1 (by omega)
      obtain ⟨i, rfl⟩ : ∃ j : Nat, i = (j : Int) := ⟨i.toNat, by omega⟩
      have hi2 : i < es.length := by omega
      have hib : decide ((i : Int) < (es.length : Int)) = true := by simp; omega
      have Hn := Lib.hid (HRd.out.go hpn.1 hpn.2)
      have SN := HC.out _ _ Hn.out
      obtain ⟨A5, c5, A6, c6, hv5, hv6⟩ := Hn.out.forms hi2
      have HV56 := Lib.hid (And.intro hv5 hv6)
      clear hpn hi
      refine hK.out _ _ (fun _ => SN) ?_
      clear hK K
      try simp only [List.setIfInBounds_toArray, List.set_cons_zero, List.set_cons_succ, Act.put]
      refine wpAnyR_pure (i := 7) (oi := _) ?va7 rfl rfl (by kernel_rfl) (by decide) (fun _ _ _ h => h) rfl ?hya7 (fun _ => SN) ?resta7
      case hya7 => (intro W; go_simp; (try with_reducible rfl))
      try simp only [List.setIfInBounds_toArray, List.set_cons_zero, List.set_cons_succ]
      refine wpAnyR_take (i := 8) (oi := _) ?va8 rfl rfl (by kernel_rfl) (fun _ _ _ h => h) rfl ?hya8 SN ?resta8
      case hya8 => (intro W hW; obtain ⟨E1, ER⟩ := HB.out W hW; obtain ⟨R0, R1, R2⟩ := ER i hi2; rw [hv5] at R1; rw [hv6] at R2; go_simp; (try with_reducible rfl))
      try simp only [List.setIfInBounds_toArray, List.set_cons_zero, List.set_cons_succ]
      clear hv5 hv6
      refine wpAnyR_one (i := 9) (by kernel_rfl) rfl (fun K hK => ?_)
      try rw [if_pos (show Region.wanted _ _ = true from rfl)]
      go_simp
      have Ha := Lib.hid (Hn.out.on (below1 wn (Obj.cells #[Value.int .i64 0, Value.slice none 0 0, Value.slice none 0 0] 54)))
      have SA := HC.out _ _ Ha.out
      refine hK.out _ _ (fun _ => SA) ?_
      clear hK K
      try simp only [List.setIfInBounds_toArray, List.set_cons_zero, List.set_cons_succ, Act.put]
      refine wpAnyR_one (i := 10) (by kernel_rfl) rfl (fun K hK => ?_)
      go_simp
      refine hK.out _ _ (fun hf => absurd hf (by decide)) ?_
      clear hK K
      refine wpAnyR_done (by kernel_rfl) ?_
      go_wp2_with (fail)
      go_meet
      exact Hn.out.pick1 hi2 (by rw [HV56.out.1, HV56.out.2])
    · try rw [if_pos (show Region.wanted _ _ = true from rfl)]
      go_simp
      have Ha := Lib.hid (HRd.out.on (below1 _ (Obj.cells #[Value.int .i64 0, Value.slice none 0 0, Value.slice none 0 0] 54)))
      have SA := HC.out _ _ Ha.out
      refine hK.out _ _ (fun _ => SA) ?_
      clear hK K
      try simp only [List.setIfInBounds_toArray, List.set_cons_zero, List.set_cons_succ, Act.put]
      refine wpAnyR_one (i := 6) (by kernel_rfl) rfl (fun K hK => ?_)
      try rw [if_pos (show Region.wanted _ _ = true from rfl)]
      go_simp
      refine (pick_any g bs q es.length _ Ha.out.rdr (by omega) (by omega)).mono ?_
      rintro e wn ⟨⟨i, rfl, hi⟩, hpn⟩
      have hir : 0 ≤ i ∧ i < es.length := hi.1 (by omega)
      obtain ⟨i, rfl⟩ : ∃ j : Nat, i = (j : Int) := ⟨i.toNat, by omega⟩
      have hi2 : i < es.length := by omega
      have hib : decide ((i : Int) < (es.length : Int)) = true := by simp; omega
      have Hn := Lib.hid (Ha.out.go hpn.1 hpn.2)
      have SN := HC.out _ _ Hn.out
      obtain ⟨A5, c5, A6, c6, hv5, hv6⟩ := Hn.out.forms hi2
      have HV56 := Lib.hid (And.intro hv5 hv6)
      have hpn0 := hpn
      clear hi
      have HZn := Lib.hid (show Blk wn w3.heap.size 54 #[.int .i64 0, .slice none 0 0, .slice none 0 0] from (Blk.new w3.drew _ _).only hpn0.2 (.inr HGD.out))
      have z0 : wn.cell? ⟨w3.heap.size, 0, none⟩ = some (.int .i64 0) := HZn.out.cell 0
      have z1 : wn.cell? ⟨w3.heap.size, 1, none⟩ = some (.slice none 0 0) := HZn.out.cell 1
      have z2 : wn.cell? ⟨w3.heap.size, 2, none⟩ = some (.slice none 0 0) := HZn.out.cell 2
      have HPN := Lib.hid hpn0
      clear hpn0
      have f0 := HZn.out.frozen 0
      have f1 := HZn.out.frozen 1
      have f2 := HZn.out.frozen 2
      refine hK.out _ _ (fun _ => SN) ?_
      clear hK K
      try simp only [List.setIfInBounds_toArray, List.set_cons_zero, List.set_cons_succ, Act.put]
      refine wpAnyR_pure (i := 7) (oi := _) ?vb7 rfl rfl (by kernel_rfl) (by decide) (fun _ _ _ h => h) rfl ?hyb7 (fun _ => SN) ?restb7
      case hyb7 => (intro W; go_simp; (try with_reducible rfl))
      try simp only [List.setIfInBounds_toArray, List.set_cons_zero, List.set_cons_succ]
      refine wpAnyR_take (i := 8) (oi := _) ?vb8 rfl rfl (by kernel_rfl) (fun _ _ _ h => h) rfl ?hyb8 SN ?restb8
      case hyb8 => (intro W hW; obtain ⟨E1, ER⟩ := HB.out W hW; obtain ⟨R0, R1, R2⟩ := ER i hi2; rw [hv5] at R1; rw [hv6] at R2; go_simp; (try with_reducible rfl))
      try simp only [List.setIfInBounds_toArray, List.set_cons_zero, List.set_cons_succ]
      clear hv5 hv6
      refine wpAnyR_one (i := 10) (by kernel_rfl) rfl (fun K hK => ?_)
      go_simp
      refine hK.out _ _ (fun hf => absurd hf (by decide)) ?_
      clear hK K
      refine wpAnyR_done (by kernel_rfl) ?_
      go_wp2_with (fail)
      go_meet
      exact HRd.out.pick2 hi2 (Nat.le_refl _) ((Only.of_below (below1 w3.drew _)).trans HPN.out.2) HPN.out.1 HZn.out HV56.out.1 HV56.out.2 rfl
  case rest =>
    obtain ⟨b, e, rfl, he, hb, hDb, H⟩ := hcut
    obtain ⟨i, hi, rfl⟩ := List.getElem_of_mem he
    obtain ⟨A5, c5, A6, c6, hv5, hv6⟩ := H.forms hi
    have HV := Lib.hid (And.intro hv5 hv6)
    rw [hv5, hv6] at hb
    obtain ⟨ls, hls⟩ : ∃ ls, ls = es[i].1.2 := ⟨_, rfl⟩
    have HLS := Lib.hid hls
    rw [← hls] at hb
    have hl4 : ls.length ≤ 4 := by rw [hls]; exact (HOK.out.2.2.2.2.2 _ he).2.1
    have hl8 : totL ls ≤ 8 := by rw [hls]; exact (HOK.out.2.2.2.2.2 _ he).2.2.1
    have HBb := Lib.hid hb
    have Hc := Lib.hid H
    have hbl := hb.lt
    clear hv5 hv6 hls H he
    go_upto_region 5 with fail
    obtain ⟨wd, hwd⟩ : ∃ wd, wd = (wc.alloc (.cells #[.int .i64 (-1), .int .i64 2] 3)).alloc (.cells #[.int .i64 2, .int .i64 0, .slice (some ⟨wc.heap.size, 0, none⟩) 2 2] 27) := ⟨_, rfl⟩
    have bd : Below wc.heap.size wc wd := by rw [hwd]; exact below2 _ _ _
    have HLB := Lib.hid (show Blk wd (wc.heap.size + 1) 27 #[.int .i64 2, .int .i64 0, .slice (some ⟨wc.heap.size, 0, none⟩) 2 2] from by
      rw [hwd]
      have := Blk.new (wc.alloc (.cells #[.int .i64 (-1), .int .i64 2] 3)) 27 #[.int .i64 2, .int .i64 0, .slice (some ⟨wc.heap.size, 0, none⟩) 2 2]
      simpa using this)
    have HOW := Lib.hid (show OwnInts wd wc.heap.size (wc.heap.size + 1) (.slice (some ⟨wc.heap.size, 0, none⟩) 2 2) [-1, 2] from by
      rw [hwd]
      exact (own_two wc wc.heap.size (-1) 2 (Nat.le_refl _)).below (below1 _ _) (by simp))
    have HBd := Lib.hid (HBb.out.below bd hbl)
    have Hd := Lib.hid (Hc.out.on bd)
    rw [← hwd]
    obtain ⟨lb, hlb⟩ : ∃ lb, lb = wc.heap.size + 1 := ⟨_, rfl⟩
    have hgw : g < wc.heap.size := Hc.out.rdr.lt
    have hblb : b < lb := by omega
    have HL0 := Lib.hid (show LitAt wc wd g bs (q + 1) lb from
      ⟨q + 1, (2, (0, [-1, 2])), _, _, _, _, Nat.le_refl _, by rw [hlb]; exact HLB.out, by decide, HOW.out, hgw, Nat.le_of_lt HLB.out.lt, Hd.out.rdr, Only.of_below bd⟩)
    have hlbw : wc.heap.size ≤ lb := by omega
    rw [← hlb] at HLB ⊢
    have HBD := Lib.hid bd
    clear hwd bd hb hlb HOW HBb
    have y1 : wd.cell? ⟨b, 2, none⟩ = some (.slice A6 ls.length c6) := HBd.out.cell 2
    go_upto_if 27 with (fail)
    go_cut [] (fun wx => LitAt wc wx g bs (q + 1) lb)
    case first =>
      by_cases h0 : 0 < ls.length
      · obtain ⟨m, hm1, hm2⟩ : ∃ m : Nat, IntKind.i64.wrap ((ls.length : Int) - 1) = (m : Int) ∧ m < ls.length := ⟨ls.length - 1, by unfold IntKind.wrap; simp [IntKind.bits, IntKind.signed]; omega, by omega⟩
        obtain ⟨lo1, hi1, lo2, hi2, _, hB2, _, hh2, _, _, _, hlits⟩ := Hd.out.rules.own i hi
        rw [HV.out.2, ← HLS.out] at hlits
        obtain ⟨bb, oo, c9, A7, c7, e9, k0, k1, k2, hrow⟩ := hlits.at_ hm2
        injection e9 with e9 _ e10
        subst e9 e10
        have hpb : decide (0 < (ls.length : Int)) = true := by rw [decide_eq_true_eq]; omega
        have hmb : decide ((m : Int) < (ls.length : Int)) = true := by rw [decide_eq_true_eq]; omega
        have z0 := HLB.out.cell 0
        have z1 := HLB.out.cell 1
        have z2 := HLB.out.cell 2
        have f0 := HLB.out.frozen 0
        have f1 := HLB.out.frozen 1
        have f2 := HLB.out.frozen 2
        have hrl : ls[m].2.2.length ≤ 8 := by have := len_le_totL ls m hm2; omega
        have HRW := Lib.hid hrow
        have HH := Lib.hid (And.intro hB2 hh2)
        clear hrow hlits hB2 hh2
        go_wp2_with (fail)
        go_meet
        have hlbl := HLB.out.lt
        have hgd := Hd.out.rdr.lt
        have hne : ∀ k, k ≠ lb → (((wd.setCell ⟨lb, 0, none⟩ (.int .i64 ls[m].1)).setCell ⟨lb, 1, none⟩ (.int .i64 ls[m].2.1)).setCell ⟨lb, 2, none⟩ (.slice A7 ls[m].2.2.length c7)).heap[k]? = wd.heap[k]? := fun k hk => ((Below.heap_setCell _ _ _ k hk).trans (Below.heap_setCell _ _ _ k hk)).trans (Below.heap_setCell _ _ _ k hk)
        have hnr : ∀ b', (Value.slice A7 ls[m].2.2.length c7).ownBlock = some b' → b' ≠ lb := fun b' hb' e => blk_ne_own HRW.out.1 HLB.out (by decide) (by rw [hb', e])
        refine ⟨q + 1, ls[m], A7, c7, lo2, hi2, Nat.le_refl _, Blk.set3 HLB.out _ _ _, hrl, HRW.out.kept fun b' hb' => hne b' (hnr b' hb'), by have := HH.out; have := Hd.out.gl; have := Hd.out.lB; omega, by have := HH.out.2; simpa using this, Hd.out.rdr.same fun k hk => hne k (by omega), (((Only.of_below HBD.out).setNew (p := ⟨lb, 0, none⟩) hlbw _).setNew (p := ⟨lb, 1, none⟩) hlbw _).setNew (p := ⟨lb, 2, none⟩) hlbw _⟩
      · have hpb : decide (0 < (ls.length : Int)) = false := by rw [decide_eq_false_iff_not]; omega
        go_wp2_with (fail)
        go_meet
        exact HL0.out
    case rest =>
      have hB5 := Hd.out.prg.lt
      obtain ⟨q5, l5, A7, c7, lo7, hi7, hq5, hb5, hl5, ho5, hg5, hh5, hr5, hO5⟩ := hcut
      have H5 := Lib.hid (And.intro hb5 (And.intro ho5 (And.intro hr5 hO5)))
      clear hb5 ho5 hr5 hO5
      rename World => we
      go_wp2_with (fail)
      refine (pick_any g bs q5 8 _ H5.out.2.2.1 (by omega) (by omega)).mono ?_
      rintro e w6 ⟨⟨x, rfl, _⟩, hp6⟩
      have hb6 := H5.out.1.only hp6.2 (.inr (by omega))
      have ho6 := H5.out.2.1.only hp6.2 (.inr hg5)
      have hO6 := H5.out.2.2.2.trans hp6.2
      have H6 := Lib.hid (And.intro hb6 (And.intro ho6 (And.intro hp6.1 hO6)))
      have hh6 : hi7 ≤ w6.heap.size := Nat.le_trans hh5 hp6.2.size
      clear hb6 ho6 hO6 hp6
      go_upto_if 38 with (fail)
      go_cut [] (fun wx => LitAt wc wx g bs (q + 3) lb)
      case first =>
        by_cases hx : x = 0
        · have hxb : (x == 0) = true := by simp [hx]
          clear hx
          have Hm := Lib.hid (H6.out.2.2.1.below (below1 w6 (.cells #[.int .i64 0, .int .i64 1, .int .i64 2, .int .i64 3, .int .i64 4, .int .i64 (-1)] 3)) H6.out.2.2.1.lt)
          have hg6 : g < w6.heap.size := H6.out.2.2.1.lt
          have hlb6 : lb < w6.heap.size := H6.out.1.lt
          go_wp2_with (first
            | (go_at_call 22; refine (num_any g bs (q5 + 1) _ _ [0, 1, 2, 3, 4, -1] 6 _ Hm.out (by omega) (Blk.new _ _ _) rfl (by omega) rfl (by simp) (by simp)).mono ?_
               rintro e w7 ⟨⟨kd, rfl, _⟩, hp7⟩
               have hb7 := (H6.out.1.below (below1 w6 (.cells #[.int .i64 0, .int .i64 1, .int .i64 2, .int .i64 3, .int .i64 4, .int .i64 (-1)] 3)) hlb6).only hp7.2 (.inr (by omega))
               have ho7 := (H6.out.2.1.keep fun k k1 k2 => (below1 w6 (.cells #[.int .i64 0, .int .i64 1, .int .i64 2, .int .i64 3, .int .i64 4, .int .i64 (-1)] 3)).block k (by omega)).only hp7.2 (.inr hg5)
               have hO7 := (H6.out.2.2.2.trans (Only.of_below (below1 w6 (.cells #[.int .i64 0, .int .i64 1, .int .i64 2, .int .i64 3, .int .i64 4, .int .i64 (-1)] 3)))).trans hp7.2
               have H7 := Lib.hid (And.intro hb7 (And.intro ho7 (And.intro hp7.1 hO7)))
               have z0 := hb7.cell 0
               have f0 := hb7.frozen 0
               have hz7 : w6.heap.size ≤ w7.heap.size := by have := hp7.2.size; simp at this; omega
               clear hb7 ho7 hO7 hp7))
          go_meet
          have hne : ∀ k, k ≠ lb → (w7.setCell ⟨lb, 0, none⟩ (.int .i64 kd)).heap[k]? = w7.heap[k]? := fun k hk => Below.heap_setCell _ _ _ k hk
          have hnr : ∀ b', (Value.slice A7 l5.2.2.length c7).ownBlock = some b' → b' ≠ lb := fun b' hb' e => blk_ne_own H7.out.2.1.1 H7.out.1 (by decide) (by rw [hb', e])
          have hs7 := H7.out.2.2.1.lt
          exact ⟨q5 + 1 + 1, (kd, l5.2), A7, c7, lo7, hi7, by omega, by simpa using H7.out.1.set_ 0 (.int .i64 kd), hl5, H7.out.2.1.kept fun b' hb' => hne b' (hnr b' hb'), hg5, by simp only [World.size_setCell]; exact Nat.le_trans hh6 hz7, H7.out.2.2.1.same fun k hk => hne k (by omega), H7.out.2.2.2.setNew (p := ⟨lb, 0, none⟩) hlbw _⟩
        · have hxb : (x == 0) = false := by simp [hx]
          go_wp2_with (fail)
          go_meet
          exact ⟨q5 + 1, l5, A7, c7, lo7, hi7, by omega, H6.out.1, hl5, H6.out.2.1, hg5, hh6, H6.out.2.2.1, H6.out.2.2.2⟩
      case rest =>
        obtain ⟨q9, l9, A9, c9, lo9, hi9, hq9, hb9, hl9, ho9, hg9, hh9, hr9, hO9⟩ := hcut
        have H9 := Lib.hid (And.intro hb9 ho9)
        rename World => wz
        have Hz0 := Lib.hid (Hc.out.go hr9 hO9)
        obtain ⟨wy, hwy⟩ : ∃ wy, wy = wz.drew := ⟨_, rfl⟩
        have Hz := Lib.hid (show AnyAt w wy w.heap.size 27 #[.int .i64 0, .int .i64 0, .slice none 0 0] w1.heap.size D B g bs q9 A c ar (some ⟨gr, 0, none⟩) cr es by rw [hwy]; exact Hz0.out.on (Below.refl _ _).drew)
        have hh9 : hi9 ≤ wy.heap.size := by rw [hwy]; exact hh9
        have H9 := Lib.hid (show Blk wy lb 27 #[.int .i64 l9.1, .int .i64 l9.2.1, .slice A9 l9.2.2.length c9] ∧ OwnInts wy lo9 hi9 (.slice A9 l9.2.2.length c9) l9.2.2 by rw [hwy]; exact H9.out)
        clear hb9 ho9 hr9 hO9
        obtain ⟨SS, hSS⟩ : ∃ SS : World → Prop, SS = (fun W => W.cell? ⟨D, 0, none⟩ = some (.slice A ar.length c) ∧ W.cell? ⟨lb, 0, none⟩ = some (.int .i64 l9.1) ∧ W.cell? ⟨lb, 1, none⟩ = some (.int .i64 l9.2.1) ∧ W.cell? ⟨lb, 2, none⟩ = some (.slice A9 l9.2.2.length c9)) := ⟨_, rfl⟩
        have HB := Lib.hid (show ∀ W, SS W → W.cell? ⟨D, 0, none⟩ = some (.slice A ar.length c) ∧ W.cell? ⟨lb, 0, none⟩ = some (.int .i64 l9.1) ∧ W.cell? ⟨lb, 1, none⟩ = some (.int .i64 l9.2.1) ∧ W.cell? ⟨lb, 2, none⟩ = some (.slice A9 l9.2.2.length c9) from by rw [hSS]; exact fun W hW => hW)
        have SB : SS wy := by rw [hSS]; exact ⟨Hz.out.prg.cell 0, H9.out.1.cell 0, H9.out.1.cell 1, H9.out.1.cell 2⟩
        clear hSS
        have j0 : wy.cell? ⟨w.heap.size, 0, none⟩ = some (.int .i64 0) := Hz.out.res.cell 0
        have j1 : wy.cell? ⟨w.heap.size, 1, none⟩ = some (.int .i64 0) := Hz.out.res.cell 1
        have j2 : wy.cell? ⟨w.heap.size, 2, none⟩ = some (.slice none 0 0) := Hz.out.res.cell 2
        have l0 : wy.frozen? ⟨w.heap.size, 0, none⟩ = false := Hz.out.res.frozen 0
        have l1 : wy.frozen? ⟨w.heap.size, 1, none⟩ = false := Hz.out.res.frozen 1
        have l2 : wy.frozen? ⟨w.heap.size, 2, none⟩ = false := Hz.out.res.frozen 2
        go_upto_region 9 with fail
        refine wp_region_rel SS 4 5 (by kernel_rfl) rfl ?_
        rw [← hwy]
        clear hwy
        refine wpAnyR_pure (i := 0) (oi := _) ?vz0 rfl rfl (by kernel_rfl) (by decide) (fun _ _ _ h => h) rfl ?hyz0 (fun _ => SB) ?restz0
        case hyz0 => (intro W; go_simp; (try with_reducible rfl))
        try simp only [List.setIfInBounds_toArray, List.set_cons_zero, List.set_cons_succ]
        refine wpAnyR_take (i := 1) (oi := _) ?vz1 rfl rfl (by kernel_rfl) (fun _ _ _ h => h) rfl ?hyz1 SB ?restz1
        case hyz1 => (intro W hW; obtain ⟨E0, E1, E2, E3⟩ := HB.out W hW; go_simp; (try with_reducible rfl))
        try simp only [List.setIfInBounds_toArray, List.set_cons_zero, List.set_cons_succ]
        refine wpAnyR_take (i := 2) (oi := _) ?vz2 rfl rfl (by kernel_rfl) (fun _ _ _ h => h) rfl ?hyz2 SB ?restz2
        case hyz2 => (intro W hW; obtain ⟨E0, E1, E2, E3⟩ := HB.out W hW; go_simp; (try with_reducible rfl))
        try simp only [List.setIfInBounds_toArray, List.set_cons_zero, List.set_cons_succ]
        refine wpAnyR_pure (i := 3) (oi := _) ?vz3 rfl rfl (by kernel_rfl) (by decide) (fun _ _ _ h => h) rfl ?hyz3 (fun _ => SB) ?restz3
        case hyz3 => (intro W; go_simp; (try with_reducible rfl))
        try simp only [List.setIfInBounds_toArray, List.set_cons_zero, List.set_cons_succ]
        refine wpAnyR_one (i := 4) (by kernel_rfl) rfl (fun K hK => ?_)
        go_simp
        refine hK.out _ _ (fun hf => absurd hf (by decide)) ?_
        clear hK K
        refine wpAnyR_done (by kernel_rfl) ?_
        go_wp2_with (fail)
        obtain ⟨W, hW⟩ : ∃ W, W = ((wy.setCell ⟨w.heap.size, 0, none⟩ (.int .i64 l9.1)).setCell ⟨w.heap.size, 1, none⟩ (.int .i64 l9.2.1)).setCell ⟨w.heap.size, 2, none⟩ (.slice A9 l9.2.2.length c9) := ⟨_, rfl⟩
        rw [← hW]
        have hbk := Blk.set3 (show Blk wy w.heap.size 27 #[.int .i64 0, .int .i64 0, .slice none 0 0] from Hz.out.res) (.int .i64 l9.1) (.int .i64 l9.2.1) (.slice A9 l9.2.2.length c9)
        rw [← hW] at hbk
        have d0 : W.cell? ⟨w.heap.size, 0, none⟩ = some (.int .i64 l9.1) := hbk.cell 0
        have d1 : W.cell? ⟨w.heap.size, 1, none⟩ = some (.int .i64 l9.2.1) := hbk.cell 1
        have d2 : W.cell? ⟨w.heap.size, 2, none⟩ = some (.slice A9 l9.2.2.length c9) := hbk.cell 2
        have hgg := HG.out
        have hk : ∀ k, g < k → k < wy.heap.size → W.heap[k]? = wy.heap[k]? := fun k k1 _ => by
          have hne : k ≠ w.heap.size := by omega
          rw [hW]
          exact ((Below.heap_setCell _ _ _ k hne).trans (Below.heap_setCell _ _ _ k hne)).trans (Below.heap_setCell _ _ _ k hne)
        have hsz : wy.heap.size ≤ W.heap.size := by rw [hW]; simp
        have hB : Below w.heap.size w W := by rw [hW]; exact ((Hz.out.below.setCell (Nat.le_refl _) _).setCell (Nat.le_refl _) _).setCell (Nat.le_refl _) _
        refine bodyPost_ret (v := .tuple #[.slice A ar.length c, .agg #[.int .i64 l9.1, .int .i64 l9.2.1, .slice A9 l9.2.2.length c9]]) (by simp [results, Try.results5, go_sem, d0, d1, d2]) rfl ?_
        exact ⟨ar, l9, A, c, A9, c9, rfl, HOK.out.2.1, hl9, Hz.out.arity hk hsz, (H9.out.2.keep fun k k1 k2 => hk k (by omega) (by omega)).rd.more (by omega), hB⟩

end Go.Proofs.Ytfjmnjemmfmoaaa
/-
  What comes in, opened into the words of the Base text.
-/
namespace Go.Proofs.Ytfjmnjemmfmoaaa
open Go.ChangeShapes Go.WideShapes Go.ChangeAt Go.RowKit Go.Joins Go.Deep

section
variable {H : Type} {enc : TypeId × Value → H} {W : World}

def InFact (W : World) (v : Value) (f : LFact) : Prop := RdFact W W.heap.size v f ∧ f.2.length ≤ maxLen
def InFacts (W : World) (v : Value) (fs : List LFact) : Prop := RdFacts W W.heap.size v fs ∧ fs.length ≤ maxLen ∧ ∀ k (h : k < fs.length), fs[k].2.length ≤ maxLen

end

end Go.Proofs.Ytfjmnjemmfmoaaa
/-
  A slice of bytes that came in.
-/
namespace Go.Proofs.Ytfjmnjemmfmoaaa
open Go.ChangeShapes Go.WideShapes Go.ChangeAt Go.RowKit Go.Joins Go.Deep

theorem Try.cells5 : Try.prog.cellsOf 5 = 1 := by kernel_rfl

/-- What is known of a slice of bytes that came in. -/
def InBytes (W : World) (v : Value) (bs : List Nat) : Prop := RdBytes W W.heap.size v bs ∧ bs.length ≤ maxLen ∧ ∀ b ∈ bs, b < 256

theorem byte_of_wf {n : Int} (h : (Lit.int .u8 n).wf = true) : 0 ≤ n ∧ n < 256 := by
  simp only [Lit.wf, Bool.and_eq_true, decide_eq_true_eq] at h
  have h1 : IntKind.u8.min = 0 := by decide
  have h2 : IntKind.u8.max = 255 := by decide
  omega

set_option maxRecDepth 100000 in
theorem open_inBytes {H : Type} {enc : TypeId × Value → H} {W : World} {v : Value} {d : DataW H} {p : List MemPlace} {b0 : Nat} (hv : Value.okWide Try.prog W .any b0 22 v) (h : DataW.Trod enc Try.prog W 0 (fun _ => true) true 22 v d p) :
    ∃ bs, InBytes W v bs := by
  obtain ⟨a, len, cap, rfl⟩ := okWide_slice Try.underlying22 hv
  obtain ⟨fuel, hf⟩ := h
  have hf : DataW.trod enc Try.prog W 0 (fun _ => true) true fuel 22 [.slice a len cap] = some (d, p) := by simpa [Value.cells] using hf
  rcases open_ints Try.underlying22 Try.underlying5 Try.cells5 hf with ⟨hcs, _⟩ | ⟨a, len, cap, zs, hcs, _, hl, hm, hz, _, hcell, hwz⟩
  · simp at hcs
    obtain ⟨rfl, rfl, rfl⟩ := hcs
    exact ⟨[], ⟨none, 0, rfl, by simp, fun h => absurd h (by simp)⟩, by simp, by simp⟩
  · simp at hcs
    obtain ⟨rfl, rfl, rfl⟩ := hcs
    simp at hz
    refine ⟨(zs.take len).map Int.toNat, ⟨some a, cap, ?_, by simp; omega, fun hn => ?_⟩, by simp; omega, ?_⟩
    · congr 1
      simp
      omega
    · have hlen : (zs.take len).length = len := by simp; omega
      simp only [List.length_map, hlen] at hn
      obtain ⟨b, o, rfl, hc⟩ := ints_at hcell (by omega)
      refine ⟨b, o, rfl, World.block_lt_of_cell? _ _ (hc 0 (by omega)), fun k hk => ?_⟩
      simp only [List.length_map, hlen] at hk
      have hw := byte_of_wf (hwz zs[k] (List.getElem_mem (by omega)))
      rw [hc k (by omega)]
      simp [show k < zs.length by omega]
      omega
    · intro b hb
      rw [List.mem_map] at hb
      obtain ⟨z, hz1, rfl⟩ := hb
      have := byte_of_wf (hwz z (List.mem_of_mem_take hz1))
      omega

end Go.Proofs.Ytfjmnjemmfmoaaa
/-
  The walk of the law FnLits.
-/
namespace Go.Proofs.Ytfjmnjemmfmoaaa
open Go.RowKit

theorem lit_atom {ar : List Int} {l : LLit} (h : litOk ar l = true) (hk : l.1 ≤ 1) : atomOk ar l.2 = true := by
  unfold litOk litFits at h
  rw [Bool.and_eq_true] at h
  obtain ⟨h1, h2⟩ := h
  split at h2
  · unfold atomOk
    rw [h1, h2]
    rfl
  · rename_i h3
    split at h2
    · omega
    · cases h2

set_option maxHeartbeats 4000000 in
set_option maxRecDepth 100000 in
theorem lawPlainLits_any (v : Value) (code : List Nat) (w : World) (hr : RdBytes w w.heap.size v code) (_ : code.length ≤ maxLen) (hby : ∀ b ∈ code, b < 256) :
    Calls Try.prog 3 #[v] w fun e w' => e = .returned (.bool true) ∧ Below w.heap.size w w' := by
  have HV := Lib.hid hr
  obtain ⟨Av, cv, rfl, hcv, _⟩ := hr
  go_enter Try.func3, Try.ntmps3
  by_cases hbig : 1048576 < code.length
  · have hd : decide ((1048576 : Int) < code.length) = true := by simp; omega
    go_wp2_with (fail)
    go_ret
    exact ⟨rfl, Below.refl _ _⟩
  have hd : decide ((1048576 : Int) < code.length) = false := by simp; omega
  have hbn : code.length ≤ 1073741824 := by omega
  go_wp2_with (fail)
  refine (drawLitOk_any _ code w HV.out hby hbn).mono ?_
  rintro e w1 ⟨ar, l, A, c, A2, c2, rfl, hal, hll, ra, rl, B1⟩
  have HA := Lib.hid ra
  have HL := Lib.hid rl
  clear ra rl
  go_upto_region 4 with fail
  obtain ⟨w2, hw2⟩ : ∃ w2, w2 = w1.alloc (Obj.cells #[Value.int IntKind.i64 l.1, Value.int IntKind.i64 l.2.1, Value.slice A2 l.2.2.length c2] 27) := ⟨_, rfl⟩
  have b2 : Below w1.heap.size w1 w2 := by rw [hw2]; exact below1 _ _
  have HX2 := Lib.hid (show Blk w2 w1.heap.size 27 #[.int .i64 l.1, .int .i64 l.2.1, .slice A2 l.2.2.length c2] by rw [hw2]; exact Blk.new _ _ _)
  rw [← hw2]
  clear hw2
  obtain ⟨D, hD⟩ : ∃ D, D = w1.heap.size := ⟨_, rfl⟩
  rw [← hD] at HX2 ⊢
  clear hD
  have hDl := HX2.out.lt
  have B2 := bthen B1 b2
  have HA2 := Lib.hid (HA.out.on b2)
  have HL2 := Lib.hid (HL.out.on b2)
  clear HA HL b2
  go_wp2_with (fail)
  refine (drawAtomOk_any _ code w2 (HV.out.onM B2) hby hbn).mono ?_
  rintro e w3 ⟨br, a, A3, c3, A4, c4, rfl, hbl, hal2, rb, ra, b3⟩
  have HB3 := Lib.hid rb
  have HT3 := Lib.hid ra
  have HA3 := Lib.hid (HA2.out.on b3)
  have HL3 := Lib.hid (HL2.out.on b3)
  have HX3 := Lib.hid (HX2.out.below b3 hDl)
  have B3 := bthen B2 b3
  have hs3 := b3.size
  clear HA2 HL2 HX2 B1 B2 b3 rb ra
  go_upto_region 5 with fail
  obtain ⟨w4, hw4⟩ : ∃ w4, w4 = w3.alloc (Obj.cells #[Value.int IntKind.i64 a.1, Value.slice A4 a.2.length c4] 25) := ⟨_, rfl⟩
  have b4 : Below w3.heap.size w3 w4 := by rw [hw4]; exact below1 _ _
  have HY4 := Lib.hid (show Blk w4 w3.heap.size 25 #[.int .i64 a.1, .slice A4 a.2.length c4] by rw [hw4]; exact Blk.new _ _ _)
  rw [← hw4]
  clear hw4
  obtain ⟨E, hE⟩ : ∃ E, E = w3.heap.size := ⟨_, rfl⟩
  rw [← hE] at HY4 ⊢
  have B4 := Lib.hid (bthen B3 b4)
  have HX4 := Lib.hid (HX3.out.below b4 (by omega))
  have hEl := HY4.out.lt
  have hDl4 := HX4.out.lt
  have HLF := Lib.hid (show ∀ W, Below w4.heap.size w4 W → RdInts W W.heap.size (.slice A ar.length c) ar ∧ RdLit W W.heap.size (.agg #[.int .i64 l.1, .int .i64 l.2.1, .slice A2 l.2.2.length c2]) l ∧ RdFact W W.heap.size (.agg #[.int .i64 l.2.1, .slice A2 l.2.2.length c2]) l.2 from fun W hW => ⟨(HA3.out.on b4).on hW, ⟨_, rfl, (HL3.out.on b4).on hW⟩, ⟨_, rfl, (HL3.out.on b4).on hW⟩⟩)
  have HAF := Lib.hid (show ∀ W, Below w4.heap.size w4 W → RdInts W W.heap.size (.slice A3 br.length c3) br ∧ RdFact W W.heap.size (.agg #[.int .i64 a.1, .slice A4 a.2.length c4]) a from fun W hW => ⟨(HB3.out.on b4).on hW, ⟨_, rfl, (HT3.out.on b4).on hW⟩⟩)
  have HXY := Lib.hid (show ∀ W, Below w4.heap.size w4 W → Blk W D 27 #[.int .i64 l.1, .int .i64 l.2.1, .slice A2 l.2.2.length c2] ∧ Blk W E 25 #[.int .i64 a.1, .slice A4 a.2.length c4] from fun W hW => ⟨HX4.out.below hW hDl4, HY4.out.below hW hEl⟩)
  clear hE b4 B3 HA3 HL3 HB3 HT3 HX3
  have x0 : w4.cell? ⟨D, 0, none⟩ = some (.int .i64 l.1) := HX4.out.cell 0
  have x1 : w4.cell? ⟨D, 1, none⟩ = some (.int .i64 l.2.1) := HX4.out.cell 1
  have x2 : w4.cell? ⟨D, 2, none⟩ = some (.slice A2 l.2.2.length c2) := HX4.out.cell 2
  obtain ⟨lo, hlo⟩ : ∃ lo, lo = litOk ar l := ⟨_, rfl⟩
  obtain ⟨ao, hao⟩ : ∃ ao, ao = atomOk br a := ⟨_, rfl⟩
  have HLO := Lib.hid hlo
  have HAO := Lib.hid hao
  clear hlo hao
  go_wp2_with (fail)
  refine (implLitOk_any _ _ ar l w4 (HLF.out _ (Below.refl _ _)).1 (HLF.out _ (Below.refl _ _)).2.1 (by omega) (by omega)).mono ?_
  rw [← HLO.out]
  rintro e w5 ⟨rfl, b5⟩
  have B5 := Lib.hid b5
  clear b5 x0 x1 x2
  have hnl : (lo != lo) = false := by simp
  have hna : (ao != ao) = false := by simp
  obtain ⟨SS, hSS⟩ : ∃ SS : World → Prop, SS = (fun W => (W.cell? ⟨D, 0, none⟩ = some (.int .i64 l.1) ∧ W.cell? ⟨D, 1, none⟩ = some (.int .i64 l.2.1) ∧ W.cell? ⟨D, 2, none⟩ = some (.slice A2 l.2.2.length c2)) ∧ W.cell? ⟨E, 0, none⟩ = some (.int .i64 a.1) ∧ W.cell? ⟨E, 1, none⟩ = some (.slice A4 a.2.length c4)) := ⟨_, rfl⟩
  have HB := Lib.hid (show ∀ W, SS W → (W.cell? ⟨D, 0, none⟩ = some (.int .i64 l.1) ∧ W.cell? ⟨D, 1, none⟩ = some (.int .i64 l.2.1) ∧ W.cell? ⟨D, 2, none⟩ = some (.slice A2 l.2.2.length c2)) ∧ W.cell? ⟨E, 0, none⟩ = some (.int .i64 a.1) ∧ W.cell? ⟨E, 1, none⟩ = some (.slice A4 a.2.length c4) from by rw [hSS]; exact fun W hW => hW)
  have HC := Lib.hid (show ∀ W, Below w4.heap.size w4 W → SS W from by rw [hSS]; exact fun W hW => ⟨⟨(HXY.out W hW).1.cell 0, (HXY.out W hW).1.cell 1, (HXY.out W hW).1.cell 2⟩, (HXY.out W hW).2.cell 0, (HXY.out W hW).2.cell 1⟩)
  clear hSS
  go_upto_region 6 with fail
  have B5d := Lib.hid (bthen B5.out (Below.refl _ w5).drew)
  have SB := HC.out _ B5d.out
  refine wp_region_rel SS 13 14 (by kernel_rfl) rfl ?_
  refine wpAnyR_pure (i := 0) (oi := _) ?v0 rfl rfl (by kernel_rfl) (by decide) (fun _ _ _ h => h) rfl ?hy0 (fun _ => SB) ?rest0
  case hy0 => (intro W; go_simp; (try with_reducible rfl))
  try simp only [List.setIfInBounds_toArray, List.set_cons_zero, List.set_cons_succ]
  refine wpAnyR_pure (i := 1) (oi := _) ?v1 rfl rfl (by kernel_rfl) (by decide) (fun _ _ _ h => h) rfl ?hy1 (fun _ => SB) ?rest1
  case hy1 => (intro W; go_simp; (try with_reducible rfl))
  try simp only [List.setIfInBounds_toArray, List.set_cons_zero, List.set_cons_succ]
  refine wpAnyR_take (i := 2) (oi := _) ?v2 rfl rfl (by kernel_rfl) (fun _ _ _ h => h) rfl ?hy2 SB ?rest2
  case hy2 => (intro W hW; obtain ⟨⟨E0, E1, E2⟩, E3, E4⟩ := HB.out W hW; go_simp; (try with_reducible rfl))
  try simp only [List.setIfInBounds_toArray, List.set_cons_zero, List.set_cons_succ]
  refine wpAnyR_one (i := 3) (by kernel_rfl) rfl (fun K hK => ?_)
  try rw [if_pos (show Region.wanted _ _ = true from rfl)]
  go_simp
  refine (specLitOk_any _ _ ar l _ (HLF.out _ B5d.out).1 (HLF.out _ B5d.out).2.1 (by omega) (by omega)).mono ?_
  rw [← HLO.out]
  rintro e w6 ⟨rfl, b6⟩
  have B6 := Lib.hid (bthen B5d.out b6)
  have S6 := HC.out _ B6.out
  clear b6
  refine hK.out _ _ (fun _ => S6) ?_
  clear hK K
  try simp only [List.setIfInBounds_toArray, List.set_cons_zero, List.set_cons_succ, Act.put]
  refine wpAnyR_pure (i := 4) (oi := _) (.bool false) rfl rfl (by kernel_rfl) (by decide) (fun _ _ _ h => h) rfl ?hy4 (fun _ => S6) ?rest4
  case hy4 => (intro W; go_simp; (try simp))
  try simp only [List.setIfInBounds_toArray, List.set_cons_zero, List.set_cons_succ]
  refine wpAnyR_pure (i := 5) (oi := _) (.bool false) rfl rfl (by kernel_rfl) (by decide) (fun _ _ _ h => h) rfl ?hy5 (fun _ => S6) ?rest5
  case hy5 => (intro W; go_simp; (try simp))
  try simp only [List.setIfInBounds_toArray, List.set_cons_zero, List.set_cons_succ]
  refine wpAnyR_pure (i := 6) (oi := _) ?v6 rfl rfl (by kernel_rfl) (by decide) (fun _ _ _ h => h) rfl ?hy6 (fun _ => S6) ?rest6
  case hy6 => (intro W; go_simp; (try with_reducible rfl))
  try simp only [List.setIfInBounds_toArray, List.set_cons_zero, List.set_cons_succ]
  refine wpAnyR_pure (i := 9) (oi := _) ?v9 rfl rfl (by kernel_rfl) (by decide) (fun _ _ _ h => h) rfl ?hy9 (fun _ => S6) ?rest9
  case hy9 => (intro W; go_simp; (try with_reducible rfl))
  try simp only [List.setIfInBounds_toArray, List.set_cons_zero, List.set_cons_succ]
  refine wpAnyR_take (i := 7) (oi := _) ?v7 rfl rfl (by kernel_rfl) (fun _ _ _ h => h) rfl ?hy7 S6 ?rest7
  case hy7 => (intro W hW; obtain ⟨⟨E0, E1, E2⟩, E3, E4⟩ := HB.out W hW; go_simp; (try with_reducible rfl))
  try simp only [List.setIfInBounds_toArray, List.set_cons_zero, List.set_cons_succ]
  refine wpAnyR_take (i := 10) (oi := _) ?v10 rfl rfl (by kernel_rfl) (fun _ _ _ h => h) rfl ?hy10 S6 ?rest10
  case hy10 => (intro W hW; obtain ⟨⟨E0, E1, E2⟩, E3, E4⟩ := HB.out W hW; go_simp; (try with_reducible rfl))
  try simp only [List.setIfInBounds_toArray, List.set_cons_zero, List.set_cons_succ]
  refine wpAnyR_one (i := 8) (by kernel_rfl) rfl (fun K hK => ?_)
  try rw [if_pos (show Region.wanted _ _ = true from rfl)]
  go_simp
  refine (implAtomOk_any _ _ br a _ (HAF.out _ B6.out).1 (HAF.out _ B6.out).2 (by omega) (by omega)).mono ?_
  rw [← HAO.out]
  rintro e w7 ⟨rfl, b7⟩
  have B7 := Lib.hid (bthen B6.out b7)
  have S7 := HC.out _ B7.out
  clear b7
  refine hK.out _ _ (fun _ => S7) ?_
  clear hK K
  try simp only [List.setIfInBounds_toArray, List.set_cons_zero, List.set_cons_succ, Act.put]
  refine wpAnyR_one (i := 11) (by kernel_rfl) rfl (fun K hK => ?_)
  try rw [if_pos (show Region.wanted _ _ = true from rfl)]
  go_simp
  refine (specAtomOk_any _ _ br a _ (HAF.out _ B7.out).1 (HAF.out _ B7.out).2 (by omega) (by omega)).mono ?_
  rw [← HAO.out]
  rintro e w8 ⟨rfl, b8⟩
  have B8 := Lib.hid (bthen B7.out b8)
  have S8 := HC.out _ B8.out
  clear b8
  refine hK.out _ _ (fun _ => S8) ?_
  clear hK K
  try simp only [List.setIfInBounds_toArray, List.set_cons_zero, List.set_cons_succ, Act.put]
  refine wpAnyR_pure (i := 12) (oi := _) (.bool false) rfl rfl (by kernel_rfl) (by decide) (fun _ _ _ h => h) rfl ?hy12 (fun _ => S8) ?rest12
  case hy12 => (intro W; go_simp; (try simp))
  try simp only [List.setIfInBounds_toArray, List.set_cons_zero, List.set_cons_succ]
  refine wpAnyR_one (i := 13) (by kernel_rfl) rfl (fun K hK => ?_)
  go_simp
  refine hK.out _ _ (fun hf => absurd hf (by decide)) ?_
  clear hK K
  refine wpAnyR_done (by kernel_rfl) ?_
  have x0 : w8.cell? ⟨D, 0, none⟩ = some (.int .i64 l.1) := (HXY.out _ B8.out).1.cell 0
  have x1 : w8.cell? ⟨D, 1, none⟩ = some (.int .i64 l.2.1) := (HXY.out _ B8.out).1.cell 1
  have x2 : w8.cell? ⟨D, 2, none⟩ = some (.slice A2 l.2.2.length c2) := (HXY.out _ B8.out).1.cell 2
  cases lo
  · go_wp2_with (fail)
    go_ret
    exact ⟨rfl, bthen B4.out B8.out⟩
  · by_cases hk : 1 < l.1
    · have hkb : decide (1 < l.1) = true := by simpa using hk
      go_wp2_with (fail)
      go_ret
      exact ⟨rfl, bthen B4.out B8.out⟩
    · have hkb : decide (1 < l.1) = false := by simpa using hk
      have HAT := Lib.hid (lit_atom HLO.out.symm (by omega))
      go_wp2_with (go_at_call 9; refine (implAtomOk_any _ _ ar l.2 w8 (HLF.out _ B8.out).1 (HLF.out _ B8.out).2.2 (by omega) (by omega)).mono ?_; rw [HAT.out]; rintro e w9 ⟨rfl, b9⟩; have B9 := Lib.hid (bthen B8.out b9); clear b9)
      go_ret
      exact ⟨rfl, bthen B4.out B9.out⟩

theorem lawPlainLits_in (v : Value) (bs : List Nat) (w : World) (h : InBytes w v bs) : Calls Try.prog 3 #[v] w fun e w' => e = .returned (.bool true) ∧ Below w.heap.size w w' :=
  lawPlainLits_any v bs w h.1 h.2.1 h.2.2

end Go.Proofs.Ytfjmnjemmfmoaaa
namespace Go.Proofs.Ytfjmnjemmfmoaaa
open Go.ChangeShapes Go.WideShapes Go.ChangeAt Go.RowKit

set_option maxRecDepth 100000 in
theorem fnLits_lifted (os : Os) (started : os.Started) (H : Type) (enc : TypeId × Value → H) :
    ReturnsInHanded {} Try.checked os 3 .any (Rows.fnLitsSpec.pre6 enc Try.prog Try.f3 Rows.fnLitsRow.domain false) (Rows.fnLitsSpec.post enc Try.prog Try.f3 false true false false) := by
  refine returnsInHanded_of_change (C := Try.checked) Try.own started (by kernel_rfl) Try.func3
    (ChangeSpec.witness6 (enc := enc) (C := Try.checked) false ⟨#[], #[.slice none 0 0], []⟩ 8 (by kernel_rfl) (by kernel_rfl) (by kernel_rfl) (by kernel_rfl)) ?_
  intro W base args ds gs before hval0 hW hcnd _
  have hval : ∀ (j : Nat) t v, Try.f3.params[j]? = some t → args[j]? = some v → Value.okWide Try.prog W .any base t v := hval0
  have hW' := hW
  obtain ⟨p, q, hA0, hV, rfl, hfz, hnd⟩ := hW
  have hA : DataW.TrodAll enc Try.prog W 0 (fun _ => true) true Try.f3.params.toList args.toList ds p := hA0
  rw [Try.params3] at hA hval
  obtain ⟨v0, vs0, d0, ds0, p0, q0, hargs, rfl, rfl, h0, r0⟩ := trodAll_cons hA
  obtain ⟨rfl, rfl, rfl⟩ := trodAll_nil r0
  obtain rfl : args = #[v0] := by cases args; simp_all
  obtain ⟨rfl, rfl⟩ := trodVars_none hV
  have lt0 : ∀ x ∈ p0, x.block < W.heap.size := by obtain ⟨m, hm⟩ := h0; exact DataW.trod_lt m _ _ _ hm
  obtain ⟨x0, w0⟩ := open_inBytes (hval 0 22 v0 rfl rfl) h0
  clear hA0 hval0
  refine (lawPlainLits_in v0 x0 W w0).mono fun e W' ⟨he, bel⟩ => ?_
  subst he
  exact ⟨_, rfl, _, _, _, [], _, [], hW', trodAll_mk1 (shut_bool Try.underlying4 _), (trodAll_cons_mk (Below.trod Try.laidOut (by kernel_rfl) (of_decide_eq_true (by kernel_rfl)) h0 bel lt0) trodAll_mk0), rfl, bel.frame _, fun h => by cases h⟩

theorem fnLits_holds : Rows.FnLitsSaid :=
  OpenClaim.holds_of_wide 3 Try.f3 rfl rfl rfl rfl rfl rfl rfl ⟨rfl, rfl, rfl, rfl, rfl⟩ rfl rfl rfl rfl rfl (by kernel_rfl) Try.func3 (by kernel_rfl)
    (of_decide_eq_true (by kernel_rfl)) (by unfold Func.isWrapper; rw [if_neg (of_decide_eq_false (by kernel_rfl))]; exact ⟨rfl, rfl⟩)
    (fun os started H enc _ => fnLits_lifted os started H enc)

end Go.Proofs.Ytfjmnjemmfmoaaa
