/-
  A fact drawn.
-/
import Derived.Test.YtehjhdihaloalaaDrawInts
import Derived.Test.YtehjhdihaloalaaRelease
namespace Go.Proofs.Ytehjhdihaloalaa
open Go.RowKit

/-- What l1Fact keeps: r is the result's block, r + 1 the fact's. -/
structure FaRel (w wr : World) (g : Nat) (bs : List Nat) (p : Nat) (A : Option Addr) (c : Nat) (f : LFact) : Prop where
  res : Blk wr w.heap.size 28 #[.int .i64 0, .slice none 0 0]
  fact : Blk wr (w.heap.size + 1) 28 #[.int .i64 f.1, .slice A f.2.length c]
  own : wr.ownsRow (w.heap.size + 2) 3 1 (.slice A f.2.length c) f.2.length (f.2.map (Value.int .i64))
  rdr : Rdr wr g bs p
  only : Only g (g + 1) w wr

theorem FaRel.start {w : World} {g : Nat} {bs : List Nat} {p : Nat} (h : Rdr w g bs p) :
    FaRel w ((w.alloc (Obj.cells #[Value.int IntKind.i64 0, Value.slice none 0 0] 28)).alloc (Obj.cells #[Value.int IntKind.i64 0, Value.slice none 0 0] 28)) g bs p none 0 (0, []) :=
  ⟨(Blk.new w _ _).alloc _, by simpa using Blk.new (w.alloc (Obj.cells #[Value.int IntKind.i64 0, Value.slice none 0 0] 28)) 28 #[.int .i64 0, .slice none 0 0], World.ownsRow_nil _ _ _ _, h.below (below2 w _ _) h.lt, Only.of_below (below2 w _ _)⟩

/-- A pick keeps the rest. -/
theorem FaRel.pick {w wr w' : World} {g : Nat} {bs : List Nat} {p : Nat} {A : Option Addr} {c : Nat} {f : LFact} (h : FaRel w wr g bs p A c f) (hg : g < w.heap.size) (hk : Picked wr w' g bs p) : FaRel w w' g bs (p + 1) A c f :=
  ⟨h.res.only hk.2 (by omega), h.fact.only hk.2 (by omega), ownsRow_only h.own (fun b hb => hk.2.block b (h.own.lt b hb).2 (by have := (h.own.lt b hb).1; omega)), hk.1, h.only.trans hk.2⟩

/-- The predicate stored. -/
theorem FaRel.pred {w wr : World} {g : Nat} {bs : List Nat} {p : Nat} {A : Option Addr} {c : Nat} {f : LFact} (h : FaRel w wr g bs p A c f) (hg : g < w.heap.size) (x : Int) : FaRel w (wr.setCell ⟨w.heap.size + 1, 0, none⟩ (.int .i64 x)) g bs p A c (x, f.2) :=
  ⟨h.res.far (by show w.heap.size ≠ w.heap.size + 1; omega) _, h.fact.set_ 0 _, ownsRow_only h.own (fun b hb => Below.heap_setCell _ _ _ _ (by have := (h.own.lt b hb).1; show b ≠ w.heap.size + 1; omega)),
    h.rdr.same fun k hk => Below.heap_setCell _ _ _ _ (by show k ≠ w.heap.size + 1; omega),
    ⟨h.only.os, h.only.tape, h.only.output, by simpa using h.only.size, fun k hk hn => (Below.heap_setCell _ _ _ _ (by show k ≠ w.heap.size + 1; omega)).trans (h.only.block k hk hn)⟩⟩

/-- A new block keeps all. -/
theorem FaRel.alloc {w wr : World} {g : Nat} {bs : List Nat} {p : Nat} {A : Option Addr} {c : Nat} {f : LFact} (h : FaRel w wr g bs p A c f) (o : Obj) : FaRel w (wr.alloc o) g bs p A c f :=
  ⟨h.res.alloc o, h.fact.alloc o, h.own.alloc o, h.rdr.below (below1 wr o) h.rdr.lt, h.only.trans (Only.of_below (below1 wr o))⟩
theorem FaRel.drewN {w wr : World} {g : Nat} {bs : List Nat} {p : Nat} {A : Option Addr} {c : Nat} {f : LFact} (h : FaRel w wr g bs p A c f) (n : Nat) : FaRel w (wr.drewN n) g bs p A c f :=
  ⟨h.res, h.fact, h.own, h.rdr, ⟨h.only.os, h.only.tape, h.only.output, h.only.size, h.only.block⟩⟩

theorem FaRel.drew {w wr : World} {g : Nat} {bs : List Nat} {p : Nat} {A : Option Addr} {c : Nat} {f : LFact} (h : FaRel w wr g bs p A c f) : FaRel w wr.drew g bs p A c f :=
  ⟨h.res, h.fact, h.own, h.rdr, ⟨h.only.os, h.only.tape, h.only.output, h.only.size, h.only.block⟩⟩

theorem FaRel.push {w wr w4 : World} {g : Nat} {bs : List Nat} {p : Nat} {A : Option Addr} {c : Nat} {P : Int} {xs : List Int} (h : FaRel w wr g bs p A c (P, xs)) (hg : g < w.heap.size)
    (hgr : wr.grownBy w4 (Value.slice A xs.length c).ownBlock) {g2 cap : Nat} {x : Int} (hown : w4.ownsRow (w.heap.size + 2) 3 1 (.slice (some ⟨g2, 0, none⟩) (xs.length + 1) cap) (xs.length + 1) (xs.map (Value.int .i64) ++ [.int .i64 x])) :
    FaRel w (w4.setCell ⟨w.heap.size + 1, 1, none⟩ (.slice (some ⟨g2, 0, none⟩) (xs.length + 1) cap)) g bs p (some ⟨g2, 0, none⟩) cap (P, xs ++ [x]) := by
  have hs := h.fact.lt
  have hlow : ∀ b, b < w.heap.size + 2 → w4.heap[b]? = wr.heap[b]? := fun b hb => hgr.block b (by omega) (fun e => by have := (h.own.lt b e.symm).1; omega)
  have hlow2 : ∀ b, b < w.heap.size + 1 → (w4.setCell ⟨w.heap.size + 1, 1, none⟩ (.slice (some ⟨g2, 0, none⟩) (xs.length + 1) cap)).heap[b]? = wr.heap[b]? := fun b hb =>
    (Below.heap_setCell _ _ _ _ (by show b ≠ w.heap.size + 1; omega)).trans (hlow b (by omega))
  refine ⟨(hlow2 _ (by omega)).trans h.res, ?_, ?_, h.rdr.same fun k hk => hlow2 k (by omega), ⟨hgr.os.trans h.only.os, hgr.tape.trans h.only.tape, hgr.output.trans h.only.output, Nat.le_trans h.only.size (Nat.le_trans hgr.size (by simp)), fun k hk hn => (hlow2 k (by omega)).trans (h.only.block k hk hn)⟩⟩
  · have := (show Blk w4 (w.heap.size + 1) 28 _ from (hlow _ (by omega)).trans h.fact).set_ 1 (.slice (some ⟨g2, 0, none⟩) (xs.length + 1) cap)
    simpa using this
  · simpa using ownsRow_only hown (fun b hb => Below.heap_setCell _ _ _ _ (by have := (hown.lt b hb).1; show b ≠ w.heap.size + 1; omega))

theorem FaRel.keepFact {w wr w4 : World} {g : Nat} {bs : List Nat} {p : Nat} {A : Option Addr} {c : Nat} {f : LFact} (h : FaRel w wr g bs p A c f) (hgr : wr.grownBy w4 (Value.slice A f.2.length c).ownBlock) : Blk w4 (w.heap.size + 1) 28 #[.int .i64 f.1, .slice A f.2.length c] :=
  (hgr.block _ h.fact.lt (fun e => by have := (h.own.lt _ e.symm).1; omega)).trans h.fact

theorem num3_any (g : Nat) (bs : List Nat) (p b : Nat) (x y z : Int) (w : World) (h : Rdr w g bs p) (hp : p ≤ 1073741824) (hb : Blk w b 3 #[.int .i64 x, .int .i64 y, .int .i64 z]) (hne : b ≠ g) :
    Calls Try.prog 122 #[.pointer (some ⟨g, 0, none⟩), .slice (some ⟨b, 0, none⟩) 3 3] w fun e w' => (∃ x, e = .returned (.int .i64 x)) ∧ Picked w w' g bs p :=
  (num_any g bs p b _ [x, y, z] 3 w h hp hb rfl hne rfl (by simp) (by simp)).mono fun _ _ ⟨⟨u, he, _⟩, hk⟩ => ⟨⟨u, he⟩, hk⟩

theorem FaRel.pick_calls {w W : World} {g : Nat} {bs : List Nat} {q : Nat} {A : Option Addr} {c : Nat} {f : LFact} (h : FaRel w W g bs q A c f) (hg : g < w.heap.size) (hq : q ≤ 1073741824) (n : Int) (hn : n ≤ 1073741824) :
    Calls Try.prog 123 #[.pointer (some ⟨g, 0, none⟩), .int .i64 n] W fun e w' => ∃ v, e = .returned v ∧ (∃ x, v = .int .i64 x) ∧ FaRel w w' g bs (q + 1) A c f :=
  (pick_any g bs q n W h.rdr hq hn).mono fun _ _ ⟨⟨x, he, _⟩, hk⟩ => ⟨_, he, ⟨x, rfl⟩, h.pick hg hk⟩
theorem FaRel.num_calls {w W : World} {g : Nat} {bs : List Nat} {q : Nat} {A : Option Addr} {c : Nat} {f : LFact} (h : FaRel w W g bs q A c f) (hg : g < w.heap.size) (hq : q ≤ 1073741824) (x y z : Int) :
    Calls Try.prog 122 #[.pointer (some ⟨g, 0, none⟩), .slice (some ⟨W.heap.size, 0, none⟩) 3 3] (W.alloc (.cells #[.int .i64 x, .int .i64 y, .int .i64 z] 3)) fun e w' => ∃ v, e = .returned v ∧ (∃ x, v = .int .i64 x) ∧ FaRel w w' g bs (q + 1) A c f :=
  (num3_any g bs q W.heap.size x y z _ (h.alloc _).rdr hq (Blk.new _ _ _) (Nat.ne_of_gt h.rdr.lt)).mono fun _ _ ⟨⟨u, he⟩, hk⟩ => ⟨_, he, ⟨u, rfl⟩, (h.alloc _).pick hg hk⟩

/-- A round is done. -/
def FaStep (w wx : World) (g : Nat) (bs : List Nat) (p : Nat) (P : Int) (k : Nat) : Prop := ∃ (A : Option Addr) (c : Nat) (xs : List Int) (q : Nat), xs.length = k + 1 ∧ q ≤ p + 1 + 4 * (k + 1) ∧ FaRel w wx g bs q A c (P, xs)

/-- Some fact stands, of at most m arguments. -/
def FaNow (w wx : World) (g : Nat) (bs : List Nat) (p m q0 : Nat) : Prop := ∃ (A : Option Addr) (c : Nat) (f : LFact) (q : Nat), f.2.length ≤ m ∧ q ≤ p + q0 ∧ FaRel w wx g bs q A c f

/-- A row of one or more begins at its block. -/
theorem FaRel.form {w W : World} {g : Nat} {bs : List Nat} {q : Nat} {A : Option Addr} {c : Nat} {f : LFact} (h : FaRel w W g bs q A c f) (hn : 0 < f.2.length) : ∃ g2, A = some ⟨g2, 0, none⟩ := by
  obtain ⟨g2, cap, e, _⟩ := h.own.form hn
  injection e with e1 _ _
  exact ⟨g2, e1⟩
theorem FaRel.head {w W : World} {g : Nat} {bs : List Nat} {q g2 c : Nat} {f : LFact} (h : FaRel w W g bs q (some ⟨g2, 0, none⟩) c f) (hn : 0 < f.2.length) : W.cell? ⟨g2, 0, none⟩ = some (.int .i64 (f.2[0]'hn)) ∧ W.frozen? ⟨g2, 0, none⟩ = false := by
  refine ⟨?_, h.own.frozenAt 0⟩
  rw [h.own.cellAt 0 (by omega)]
  simp [hn]
/-- The first place is set anew. -/
theorem FaRel.first {w W : World} {g : Nat} {bs : List Nat} {q g2 c : Nat} {f : LFact} (h : FaRel w W g bs q (some ⟨g2, 0, none⟩) c f) (hg : g < w.heap.size) (x : Int) :
    FaRel w (W.setCell ⟨g2, 0, none⟩ (.int .i64 x)) g bs q (some ⟨g2, 0, none⟩) c (f.1, f.2.set 0 x) := by
  have hb := (h.own.lt g2 rfl).1
  have hs := h.own.stored 0 (.int .i64 x)
  refine ⟨h.res.far (by show w.heap.size ≠ g2; omega) _, ?_, ?_, h.rdr.same fun k hk => Below.heap_setCell _ _ _ _ (by show k ≠ g2; omega),
    ⟨h.only.os, h.only.tape, h.only.output, by simpa using h.only.size, fun k hk hn => (Below.heap_setCell _ _ _ _ (by show k ≠ g2; omega)).trans (h.only.block k hk hn)⟩⟩
  · simpa using h.fact.far (p := ⟨g2, 0, none⟩) (by show w.heap.size + 1 ≠ g2; omega) (.int .i64 x)
  · have := hs.1
    rw [← List.map_set] at this
    simpa using this
/-- The result is laid. -/
theorem FaRel.done {w W : World} {g : Nat} {bs : List Nat} {q : Nat} {A : Option Addr} {c : Nat} {f : LFact} (h : FaRel w W g bs q A c f) (hg : g < w.heap.size) :
    ((W.setCell ⟨w.heap.size, 0, none⟩ (.int .i64 f.1)).setCell ⟨w.heap.size, 1, none⟩ (.slice A f.2.length c)).ownsRow (w.heap.size + 2) 3 1 (.slice A f.2.length c) f.2.length (f.2.map (Value.int .i64)) ∧
    Rdr ((W.setCell ⟨w.heap.size, 0, none⟩ (.int .i64 f.1)).setCell ⟨w.heap.size, 1, none⟩ (.slice A f.2.length c)) g bs q ∧
    Only g (g + 1) w ((W.setCell ⟨w.heap.size, 0, none⟩ (.int .i64 f.1)).setCell ⟨w.heap.size, 1, none⟩ (.slice A f.2.length c)) ∧
    Blk ((W.setCell ⟨w.heap.size, 0, none⟩ (.int .i64 f.1)).setCell ⟨w.heap.size, 1, none⟩ (.slice A f.2.length c)) w.heap.size 28 #[.int .i64 f.1, .slice A f.2.length c] := by
  have hb : ∀ k, k ≠ w.heap.size → ((W.setCell ⟨w.heap.size, 0, none⟩ (.int .i64 f.1)).setCell ⟨w.heap.size, 1, none⟩ (.slice A f.2.length c)).heap[k]? = W.heap[k]? := fun k hk =>
    (Below.heap_setCell _ _ _ _ (by show k ≠ w.heap.size; exact hk)).trans (Below.heap_setCell _ _ _ _ (by show k ≠ w.heap.size; exact hk))
  refine ⟨ownsRow_only h.own (fun b hb' => hb b (by have := (h.own.lt b hb').1; omega)), h.rdr.same fun k hk => hb k (by omega), ⟨h.only.os, h.only.tape, h.only.output, by simpa using h.only.size, fun k hk hn => (hb k (by omega)).trans (h.only.block k hk hn)⟩, ?_⟩
  have := (h.res.set_ 0 (.int .i64 f.1)).set_ 1 (.slice A f.2.length c)
  simpa using this

set_option maxHeartbeats 8000000 in
set_option maxRecDepth 100000 in
theorem l1Fact_any (g : Nat) (bs : List Nat) (p : Nat) (v : Value) (ar : List Int) (w : World) (h : Rdr w g bs p) (hp : p ≤ 1048576) (ha : RdInts w w.heap.size v ar) (hv : ∀ w', Only g (g + 1) w w' → RdInts w' w'.heap.size v ar) (hr : ∀ x ∈ ar, 0 ≤ x ∧ x ≤ 2) (hl : ar.length ≤ 1048576) :
    Calls Try.prog 124 #[.pointer (some ⟨g, 0, none⟩), v] w fun e w' => ∃ (A : Option Addr) (c : Nat) (f : LFact) (q : Nat), e = .returned (.agg #[.int .i64 f.1, .slice A f.2.length c]) ∧ f.2.length ≤ 3 ∧ q ≤ p + 20 ∧
      w'.ownsRow (w.heap.size + 2) 3 1 (.slice A f.2.length c) f.2.length (f.2.map (Value.int .i64)) ∧ Rdr w' g bs q ∧ Only g (g + 1) w w' := by
  obtain ⟨i0, hi0, hz0, hz1, hz2⟩ := info_parts Try.infoInt
  have H := Lib.hid h
  have hgl := h.lt
  have HV := Lib.hid hv
  have HS := Lib.hid (FaRel.start h)
  obtain ⟨A0, c0, rfl, hc, hx⟩ := ha
  clear h hv hx
  go_enter Try.func124, Try.ntmps124
  go_upto_if 11 with (fail)
  go_cut [] (fun wx => FaNow w wx g bs p 2 9)
  case first =>
    by_cases h0 : 0 < ar.length
    · have hd : decide ((0 : Int) < ar.length) = true := by simpa using h0
      go_wp2_with (fail)
      refine (pick_any g bs p _ _ HS.out.rdr (by omega) (by omega)).mono ?_
      rintro e w1 ⟨⟨x, rfl, hx1⟩, hpk⟩
      obtain ⟨j, rfl⟩ : ∃ j : Nat, x = (j : Int) := ⟨x.toNat, by have := hx1.1 (by omega); omega⟩
      have hj : j < ar.length := by have := hx1.1 (by omega); omega
      have hf := HS.out.pick hgl hpk
      have HF := Lib.hid (hf.pred hgl (j : Int))
      have k0 : w1.cell? ⟨w.heap.size + 1, 0, none⟩ = some (.int .i64 0) := hf.fact.cell 0
      have k1 : w1.frozen? ⟨w.heap.size + 1, 0, none⟩ = false := hf.fact.frozen 0
      clear hf hpk hx1
      have hjr := hr _ (List.getElem_mem hj)
      obtain ⟨m, hm⟩ : ∃ m : Nat, ar[j] = (m : Int) := ⟨ar[j].toNat, by omega⟩
      have hm2 : m ≤ 2 := by omega
      clear hjr
      go_wp2_with (fail)
      go_loopw [6] (fun i wr => ∃ (k : Nat) (A : Option Addr) (c : Nat) (xs : List Int) (q : Nat), k ≤ m ∧ i = .int .i64 k ∧ xs.length = k ∧ q ≤ p + 1 + 4 * k ∧ FaRel w wr g bs q A c ((j : Int), xs)) (fun i _ => m - (intOf i).toNat)
      case atStart => exact ⟨0, none, 0, [], p + 1, Nat.zero_le _, rfl, rfl, by omega, HF.out⟩
      case round =>
        obtain ⟨k, A, c, xs, q, hk, rfl, hxl, hq, hfr⟩ := hrel
        have k2 : wr.cell? ⟨w.heap.size + 1, 0, none⟩ = some (.int .i64 (j : Int)) := hfr.fact.cell 0
        obtain ⟨A', c', e0, hc', hcell⟩ := HV.out wr hfr.only
        injection e0 with e1 _ e2
        subst e1
        subst e2
        obtain ⟨b, o, rfl, hbB, hx⟩ := hcell (by omega)
        have k3 : wr.cell? ⟨b, o + j, none⟩ = some (.int .i64 (m : Int)) := by rw [hx j hj, hm]
        have HR := Lib.hid hfr
        clear hcell hx hfr
        subst hxl
        by_cases hlt : xs.length < m
        · go_upto_region 7 with (fail)
          obtain ⟨SS, hSS⟩ : ∃ SS : World → Prop, SS = (fun W => W.cell? ⟨w.heap.size + 1, 1, none⟩ = some (.slice A xs.length c)) := ⟨_, rfl⟩
          have HS1 := Lib.hid (show ∀ W, W.cell? ⟨w.heap.size + 1, 1, none⟩ = some (.slice A xs.length c) → SS W from by rw [hSS]; exact fun _ h => h)
          have HS2 := Lib.hid (show ∀ W, SS W → W.cell? ⟨w.heap.size + 1, 1, none⟩ = some (.slice A xs.length c) from by rw [hSS]; exact fun _ h => h)
          clear hSS
          have F0 := Lib.hid HR.out.drew
          have S0 := Lib.hid (HS1.out _ (F0.out.fact.cell 1))
          refine wp_region_rel SS 14 15 (by kernel_rfl) rfl ?_
          refine wpAnyR_pure (i := 0) (oi := _) ?v0 rfl rfl (by kernel_rfl) (by decide) (fun _ _ _ h => h) rfl ?hy0 (fun _ => S0.out) ?rest0
          case hy0 => (intro W; go_simp; (try with_reducible rfl))
          simp only [List.setIfInBounds_toArray, List.set_cons_zero, List.set_cons_succ]
          refine wpAnyR_take (i := 1) (oi := _) ?v1 rfl rfl (by kernel_rfl) (fun _ _ _ h => h) rfl ?hy1 S0.out ?rest1
          case hy1 => (intro W hW; have e1 := HS2.out W hW; go_simp; (try with_reducible rfl))
          simp only [List.setIfInBounds_toArray, List.set_cons_zero, List.set_cons_succ]
          refine wpAnyR_pure (i := 2) (oi := _) ?v2 rfl rfl (by kernel_rfl) (by decide) (fun _ _ _ h => h) rfl ?hy2 (fun _ => S0.out) ?rest2
          case hy2 => (intro W; go_simp; (try with_reducible rfl))
          simp only [List.setIfInBounds_toArray, List.set_cons_zero, List.set_cons_succ]
          refine wpAnyR_pure (i := 3) (oi := _) ?v3 rfl rfl (by kernel_rfl) (by decide) (fun _ _ _ h => h) rfl ?hy3 (fun _ => S0.out) ?rest3
          case hy3 => (intro W; go_simp; (try with_reducible rfl))
          simp only [List.setIfInBounds_toArray, List.set_cons_zero, List.set_cons_succ]
          refine wpAnyR_pure (i := 5) (oi := _) ?v5 rfl rfl (by kernel_rfl) (by decide) (fun _ _ _ h => h) rfl ?hy5 (fun _ => S0.out) ?rest5
          case hy5 => (intro W; go_simp; (try with_reducible rfl))
          simp only [List.setIfInBounds_toArray, List.set_cons_zero, List.set_cons_succ]
          refine wpAnyR_pure (i := 7) (oi := _) ?v7 rfl rfl (by kernel_rfl) (by decide) (fun _ _ _ h => h) rfl ?hy7 (fun _ => S0.out) ?rest7
          case hy7 => (intro W; go_simp; (try with_reducible rfl))
          simp only [List.setIfInBounds_toArray, List.set_cons_zero, List.set_cons_succ]
          refine wpAnyR_one (i := 4) (by kernel_rfl) rfl (fun K hK => ?_)
          go_simp
          refine (FaRel.pick_calls F0.out hgl (by omega) 3 (by omega)).mono ?_
          rintro e w4 ⟨v4, rfl, ⟨x4, rfl⟩, hf4⟩
          have F4 := Lib.hid hf4
          have S4 := Lib.hid (HS1.out _ (hf4.fact.cell 1))
          clear hf4
          refine hK.out _ _ (fun _ => S4.out) ?_
          clear hK K
          try simp only [List.setIfInBounds_toArray, List.set_cons_zero, List.set_cons_succ, Act.put]
          refine wpAnyR_one (i := 6) (by kernel_rfl) rfl (fun K hK => ?_)
          go_simp
          refine (FaRel.pick_calls F4.out hgl (by omega) 3 (by omega)).mono ?_
          rintro e w6 ⟨v6, rfl, ⟨x6, rfl⟩, hf6⟩
          have F6 := Lib.hid hf6
          have S6 := Lib.hid (HS1.out _ (hf6.fact.cell 1))
          clear hf6
          refine hK.out _ _ (fun _ => S6.out) ?_
          clear hK K
          try simp only [List.setIfInBounds_toArray, List.set_cons_zero, List.set_cons_succ, Act.put]
          refine wpAnyR_one (i := 8) (by kernel_rfl) rfl (fun K hK => ?_)
          go_simp
          refine (FaRel.pick_calls F6.out hgl (by omega) 6 (by omega)).mono ?_
          rintro e w8 ⟨v8, rfl, ⟨x8, rfl⟩, hf8⟩
          have F8 := Lib.hid hf8
          have S8 := Lib.hid (HS1.out _ ((hf8.alloc (.cells #[.int .i64 x4, .int .i64 x6, .int .i64 x8] 3)).fact.cell 1))
          clear hf8
          refine hK.out _ _ (fun _ => HS1.out _ (F8.out.fact.cell 1)) ?_
          clear hK K
          try simp only [List.setIfInBounds_toArray, List.set_cons_zero, List.set_cons_succ, Act.put]
          refine wpAnyR_one (i := 9) (by kernel_rfl) rfl (fun K hK => ?_)
          go_simp
          refine hK.out _ _ (fun _ => S8.out) ?_
          clear hK K
          try simp only [List.setIfInBounds_toArray, List.set_cons_zero, List.set_cons_succ, Act.put]
          refine wpAnyR_one (i := 10) (by kernel_rfl) rfl (fun K hK => ?_)
          go_simp
          refine (FaRel.num_calls F8.out hgl (by omega) x4 x6 x8).mono ?_
          rintro e w9 ⟨v9, rfl, ⟨x9, rfl⟩, hf9⟩
          have F9 := Lib.hid hf9
          clear hf9
          refine hK.out _ _ (fun _ => HS1.out _ (F9.out.fact.cell 1)) ?_
          clear hK K
          try simp only [List.setIfInBounds_toArray, List.set_cons_zero, List.set_cons_succ, Act.put]
          refine wpAnyR_one (i := 11) (by kernel_rfl) rfl (fun K hK => ?_)
          go_simp
          refine hK.out _ _ (fun _ => HS1.out _ ((F9.out.alloc _).fact.cell 1)) ?_
          clear hK K
          try simp only [List.setIfInBounds_toArray, List.set_cons_zero, List.set_cons_succ, Act.put]
          refine wpAnyR_one (i := 12) (by kernel_rfl) rfl (fun K hK => ?_)
          refine step_append_lies _ rfl (.tmp 27) (.tmp 37) 22 rfl (w.heap.size + 2) 3 i0 (.int .i64 0) 1 8 Try.underlying22 hi0 hz0 hz1 hz2 rfl (by decide) (.slice A xs.length c) xs.length (xs.map (Value.int .i64)) rfl ?c1 ⟨w9.heap.size, 0, none⟩ 1 1 [.int .i64 x9] rfl rfl ?c4 ?c2 (by omega) (by unfold maxLen; omega) (by omega) ?c3 _ rfl ?c5
          case c1 => exact (F9.out.alloc _).own
          case c4 => exact cell_one_new _ _ _
          case c2 => intro u hu; simp at hu; subst hu; rfl
          case c3 => exact (F9.out.alloc _).fact.lt
          case c5 =>
            intro g2 cap w5 hown hgr _ _
            have HST := Lib.hid (FaRel.push (F9.out.alloc _) hgl hgr hown)
            have hkf := FaRel.keepFact (F9.out.alloc _) hgr
            have e1 : w5.cell? ⟨w.heap.size + 1, 1, none⟩ = some (.slice A xs.length c) := hkf.cell 1
            have e2 := hkf.frozen 1
            clear hkf hown hgr
            refine hK.out _ _ (fun _ => HS1.out _ e1) ?_
            clear hK K
            try simp only [List.setIfInBounds_toArray, Act.put]
            refine wpAnyR_pure (i := 13) (oi := _) ?v13 rfl rfl (by kernel_rfl) (by decide) (fun _ _ _ h => h) rfl ?hy13 (fun _ => HS1.out _ e1) ?rest13
            case hy13 => (intro W; go_simp; (try with_reducible rfl))
            try simp only [List.setIfInBounds_toArray, List.set_cons_zero, List.set_cons_succ]
            refine wpAnyR_one (i := 14) (by kernel_rfl) rfl (fun K hK => ?_)
            go_simp
            refine hK.out _ _ (fun hf => absurd hf (by decide)) ?_
            clear hK K
            refine wpAnyR_done (by kernel_rfl) ?_
            go_wp2_with (fail)
            go_roundw
            case rel => exact ⟨xs.length + 1, _, _, _, _, by omega, by go_num, by simp, by omega, HST.out⟩
            case measure => simp [intOf]; omega
        · have hkn : xs.length = m := by omega
          have hdk : decide ((xs.length : Int) < (m : Int)) = false := by simp; omega
          go_wp2_with (fail)
          go_meet
          exact ⟨A, c, ((j : Int), xs), q, by show xs.length ≤ 2; omega, by omega, HR.out⟩
    · have hd : decide ((0 : Int) < ar.length) = false := by simpa using h0
      go_wp2_with (fail)
      go_meet
      exact ⟨none, 0, (0, []), p, by simp, by omega, HS.out⟩
  case rest =>
    obtain ⟨A, c, f, q, hfl, hq, hf⟩ := hcut
    have F0' := Lib.hid hf
    clear hf HS HV
    go_wp2_with (fail)
    refine (FaRel.pick_calls F0'.out hgl (by omega) 40 (by omega)).mono ?_
    rintro e w1 ⟨v1, rfl, ⟨x1, rfl⟩, hf1⟩
    have F1 := Lib.hid hf1
    clear hf1
    go_upto_if 42 with (fail)
    go_cut [] (fun wx => FaNow w wx g bs p 3 20)
    case first =>
      by_cases h1 : x1 = 0
      · subst h1
        go_wp2_with (fail)
        refine (FaRel.pick_calls F1.out hgl (by omega) 3 (by omega)).mono ?_
        rintro e w2 ⟨v2, rfl, ⟨x2, rfl⟩, hf2⟩
        have F2 := Lib.hid hf2
        clear hf2
        by_cases h2 : x2 = 0
        · subst h2
          go_wp2_with (fail)
          refine (FaRel.num_calls F2.out hgl (by omega) (-1) (ar.length : Int) 30).mono ?_
          rintro e w3 ⟨v3, rfl, ⟨x3, rfl⟩, hf3⟩
          have HF := Lib.hid (hf3.pred hgl x3)
          have k0 : w3.cell? ⟨w.heap.size + 1, 0, none⟩ = some (.int .i64 f.1) := hf3.fact.cell 0
          have k1 : w3.frozen? ⟨w.heap.size + 1, 0, none⟩ = false := hf3.fact.frozen 0
          clear hf3
          go_wp2_with (fail)
          go_meet
          exact ⟨A, c, (x3, f.2), _, by show f.2.length ≤ 3; omega, by omega, HF.out⟩
        · have hd2 : (x2 == 0) = false := by simpa using h2
          by_cases h3 : x2 = 1
          · subst h3
            go_upto_region 13 with (fail)
            obtain ⟨SS, hSS⟩ : ∃ SS : World → Prop, SS = (fun W => W.cell? ⟨w.heap.size + 1, 1, none⟩ = some (.slice A f.2.length c)) := ⟨_, rfl⟩
            have HS1 := Lib.hid (show ∀ W, W.cell? ⟨w.heap.size + 1, 1, none⟩ = some (.slice A f.2.length c) → SS W from by rw [hSS]; exact fun _ h => h)
            have HS2 := Lib.hid (show ∀ W, SS W → W.cell? ⟨w.heap.size + 1, 1, none⟩ = some (.slice A f.2.length c) from by rw [hSS]; exact fun _ h => h)
            clear hSS
            have F0 := Lib.hid F2.out.drew
            have S0 := Lib.hid (HS1.out _ (F0.out.fact.cell 1))
            refine wp_region_rel SS 8 9 (by kernel_rfl) rfl ?_
            refine wpAnyR_pure (i := 0) (oi := _) ?v0b rfl rfl (by kernel_rfl) (by decide) (fun _ _ _ h => h) rfl ?hy0b (fun _ => S0.out) ?rest0b
            case hy0b => (intro W; go_simp; (try with_reducible rfl))
            try simp only [List.setIfInBounds_toArray, List.set_cons_zero, List.set_cons_succ]
            refine wpAnyR_take (i := 1) (oi := _) ?v1b rfl rfl (by kernel_rfl) (fun _ _ _ h => h) rfl ?hy1b S0.out ?rest1b
            case hy1b => (intro W hW; have e1 := HS2.out W hW; go_simp; (try with_reducible rfl))
            try simp only [List.setIfInBounds_toArray, List.set_cons_zero, List.set_cons_succ]
            refine wpAnyR_pure (i := 2) (oi := _) ?v2b rfl rfl (by kernel_rfl) (by decide) (fun _ _ _ h => h) rfl ?hy2b (fun _ => S0.out) ?rest2b
            case hy2b => (intro W; go_simp; (try with_reducible rfl))
            try simp only [List.setIfInBounds_toArray, List.set_cons_zero, List.set_cons_succ]
            refine wpAnyR_one (i := 3) (by kernel_rfl) rfl (fun K hK => ?_)
            go_simp
            refine hK.out _ _ (fun _ => HS1.out _ ((F0.out.alloc _).fact.cell 1)) ?_
            clear hK K
            try simp only [List.setIfInBounds_toArray, List.set_cons_zero, List.set_cons_succ, Act.put]
            refine wpAnyR_one (i := 4) (by kernel_rfl) rfl (fun K hK => ?_)
            go_simp
            refine (FaRel.num_calls F0.out hgl (by omega) 0 6 (-1)).mono ?_
            rintro e w9 ⟨v9, rfl, ⟨x9, rfl⟩, hf9⟩
            have F9 := Lib.hid hf9
            clear hf9
            refine hK.out _ _ (fun _ => HS1.out _ (F9.out.fact.cell 1)) ?_
            clear hK K
            try simp only [List.setIfInBounds_toArray, List.set_cons_zero, List.set_cons_succ, Act.put]
            refine wpAnyR_one (i := 5) (by kernel_rfl) rfl (fun K hK => ?_)
            go_simp
            refine hK.out _ _ (fun _ => HS1.out _ ((F9.out.alloc _).fact.cell 1)) ?_
            clear hK K
            try simp only [List.setIfInBounds_toArray, List.set_cons_zero, List.set_cons_succ, Act.put]
            refine wpAnyR_one (i := 6) (by kernel_rfl) rfl (fun K hK => ?_)
            refine step_append_lies _ rfl (.tmp 56) (.tmp 60) 22 rfl (w.heap.size + 2) 3 i0 (.int .i64 0) 1 8 Try.underlying22 hi0 hz0 hz1 hz2 rfl (by decide) (.slice A f.2.length c) f.2.length (f.2.map (Value.int .i64)) rfl ?c1b ⟨w9.heap.size, 0, none⟩ 1 1 [.int .i64 x9] rfl rfl ?c4b ?c2b (by omega) (by unfold maxLen; omega) (by omega) ?c3b _ rfl ?c5b
            case c1b => exact (F9.out.alloc _).own
            case c4b => exact cell_one_new _ _ _
            case c2b => intro u hu; simp at hu; subst hu; rfl
            case c3b => exact (F9.out.alloc _).fact.lt
            case c5b =>
              intro g2 cap w5 hown hgr _ _
              have HST := Lib.hid (FaRel.push (P := f.1) (xs := f.2) (F9.out.alloc _) hgl hgr hown)
              have hkf := FaRel.keepFact (F9.out.alloc _) hgr
              have e1 : w5.cell? ⟨w.heap.size + 1, 1, none⟩ = some (.slice A f.2.length c) := hkf.cell 1
              have e2 := hkf.frozen 1
              clear hkf hown hgr
              refine hK.out _ _ (fun _ => HS1.out _ e1) ?_
              clear hK K
              try simp only [List.setIfInBounds_toArray, Act.put]
              refine wpAnyR_pure (i := 7) (oi := _) ?v7b rfl rfl (by kernel_rfl) (by decide) (fun _ _ _ h => h) rfl ?hy7b (fun _ => HS1.out _ e1) ?rest7b
              case hy7b => (intro W; go_simp; (try with_reducible rfl))
              try simp only [List.setIfInBounds_toArray, List.set_cons_zero, List.set_cons_succ]
              refine wpAnyR_one (i := 8) (by kernel_rfl) rfl (fun K hK => ?_)
              go_simp
              refine hK.out _ _ (fun hf => absurd hf (by decide)) ?_
              clear hK K
              refine wpAnyR_done (by kernel_rfl) ?_
              go_wp2_with (fail)
              go_meet
              exact ⟨_, _, (f.1, f.2 ++ [x9]), _, by simp; omega, by omega, HST.out⟩
          · have hd3 : (x2 == 1) = false := by simpa using h3
            have k1 : w2.cell? ⟨w.heap.size + 1, 1, none⟩ = some (.slice A f.2.length c) := F2.out.fact.cell 1
            by_cases hn0 : 0 < f.2.length
            · have hdn : decide ((0 : Int) < f.2.length) = true := by simpa using hn0
              obtain ⟨g2, rfl⟩ := F2.out.form hn0
              go_upto_region 15 with (fail)
              obtain ⟨SS, hSS⟩ : ∃ SS : World → Prop, SS = (fun W => W.cell? ⟨w.heap.size + 1, 1, none⟩ = some (.slice (some ⟨g2, 0, none⟩) f.2.length c)) := ⟨_, rfl⟩
              have HS1 := Lib.hid (show ∀ W, W.cell? ⟨w.heap.size + 1, 1, none⟩ = some (.slice (some ⟨g2, 0, none⟩) f.2.length c) → SS W from by rw [hSS]; exact fun _ h => h)
              have HS2 := Lib.hid (show ∀ W, SS W → W.cell? ⟨w.heap.size + 1, 1, none⟩ = some (.slice (some ⟨g2, 0, none⟩) f.2.length c) from by rw [hSS]; exact fun _ h => h)
              clear hSS
              have F0 := Lib.hid F2.out.drew
              have S0 := Lib.hid (HS1.out _ (F0.out.fact.cell 1))
              have hpos : (0 : Int) < (f.2.length : Int) := by omega
              refine wp_region_rel SS 6 7 (by kernel_rfl) rfl ?_
              refine wpAnyR_pure (i := 0) (oi := _) ?v0d rfl rfl (by kernel_rfl) (by decide) (fun _ _ _ h => h) rfl ?hy0d (fun _ => S0.out) ?rest0d
              case hy0d => (intro W; go_simp; (try with_reducible rfl))
              try simp only [List.setIfInBounds_toArray, List.set_cons_zero, List.set_cons_succ]
              refine wpAnyR_take (i := 1) (oi := _) ?v1d rfl rfl (by kernel_rfl) (fun _ _ _ h => h) rfl ?hy1d S0.out ?rest1d
              case hy1d => (intro W hW; have e1 := HS2.out W hW; go_simp; (try with_reducible rfl))
              try simp only [List.setIfInBounds_toArray, List.set_cons_zero, List.set_cons_succ]
              refine wpAnyR_pure (i := 2) (oi := _) ?v2d rfl rfl (by kernel_rfl) (by decide) (fun _ _ _ h => h) rfl ?hy2d (fun _ => S0.out) ?rest2d
              case hy2d => (intro W; go_simp; (try with_reducible rfl))
              try simp only [List.setIfInBounds_toArray, List.set_cons_zero, List.set_cons_succ]
              refine wpAnyR_one (i := 3) (by kernel_rfl) rfl (fun K hK => ?_)
              go_simp
              refine hK.out _ _ (fun _ => HS1.out _ ((F0.out.alloc _).fact.cell 1)) ?_
              clear hK K
              try simp only [List.setIfInBounds_toArray, List.set_cons_zero, List.set_cons_succ, Act.put]
              refine wpAnyR_one (i := 4) (by kernel_rfl) rfl (fun K hK => ?_)
              go_simp
              refine (FaRel.num_calls F0.out hgl (by omega) 6 (-1) 5).mono ?_
              rintro e w9 ⟨v9, rfl, ⟨x9, rfl⟩, hf9⟩
              have F9 := Lib.hid hf9
              have HST := Lib.hid (hf9.first hgl x9)
              obtain ⟨e1, e2⟩ := hf9.head hn0
              clear hf9
              refine hK.out _ _ (fun _ => HS1.out _ (F9.out.fact.cell 1)) ?_
              clear hK K
              try simp only [List.setIfInBounds_toArray, List.set_cons_zero, List.set_cons_succ, Act.put]
              refine wpAnyR_pure (i := 5) (oi := _) (.pointer (some ⟨g2, 0, none⟩)) rfl rfl (by kernel_rfl) (by decide) (fun _ _ _ h => h) rfl ?hy5d (fun _ => HS1.out _ (F9.out.fact.cell 1)) ?rest5d
              case hy5d => (intro W; go_simp; (try with_reducible rfl))
              try simp only [List.setIfInBounds_toArray, List.set_cons_zero, List.set_cons_succ]
              refine wpAnyR_one (i := 6) (by kernel_rfl) rfl (fun K hK => ?_)
              go_simp
              refine hK.out _ _ (fun hf => absurd hf (by decide)) ?_
              clear hK K
              refine wpAnyR_done (by kernel_rfl) ?_
              go_wp2_with (fail)
              go_meet
              exact ⟨_, _, (f.1, f.2.set 0 x9), _, by simp; omega, by omega, HST.out⟩
            · have hdn : decide ((0 : Int) < f.2.length) = false := by simpa using hn0
              go_wp2_with (fail)
              go_meet
              exact ⟨A, c, f, _, by omega, by omega, F2.out⟩
      · have hd1 : (x1 == 0) = false := by simpa using h1
        go_wp2_with (fail)
        go_meet
        exact ⟨A, c, f, _, by omega, by omega, F1.out⟩
    case rest =>
      obtain ⟨A, c, f, q, hfl, hq, hf⟩ := hcut
      have k0 : wc.cell? ⟨w.heap.size + 1, 0, none⟩ = some (.int .i64 f.1) := hf.fact.cell 0
      have k1 : wc.cell? ⟨w.heap.size + 1, 1, none⟩ = some (.slice A f.2.length c) := hf.fact.cell 1
      have j0 : wc.cell? ⟨w.heap.size, 0, none⟩ = some (.int .i64 0) := hf.res.cell 0
      have j1 : wc.cell? ⟨w.heap.size, 1, none⟩ = some (.slice none 0 0) := hf.res.cell 1
      have l0 := hf.res.frozen 0
      have l1 := hf.res.frozen 1
      obtain ⟨hd0, hd1, hd2, hd3⟩ := hf.done hgl
      have HD := Lib.hid (And.intro hd0 (And.intro hd1 hd2))
      obtain ⟨W, hW⟩ : ∃ W, W = (wc.setCell ⟨w.heap.size, 0, none⟩ (.int .i64 f.1)).setCell ⟨w.heap.size, 1, none⟩ (.slice A f.2.length c) := ⟨_, rfl⟩
      rw [← hW] at HD
      have d0 : W.cell? ⟨w.heap.size, 0, none⟩ = some (.int .i64 f.1) := by rw [hW, hd3.cell 0]; rfl
      have d1 : W.cell? ⟨w.heap.size, 1, none⟩ = some (.slice A f.2.length c) := by rw [hW, hd3.cell 1]; rfl
      have HW := Lib.hid hW
      clear hW hd0 hd1 hd2 hd3 hf
      go_wp2_with (fail)
      rw [← HW.out]
      refine bodyPost_ret (v := .agg #[.int .i64 f.1, .slice A f.2.length c]) (by simp [results, Try.results124, go_sem, d0, d1]) rfl ?_
      obtain ⟨h1, h2, h3⟩ := HD.out
      exact ⟨A, c, f, q, rfl, hfl, by omega, h1, h2, h3⟩

end Go.Proofs.Ytehjhdihaloalaa
