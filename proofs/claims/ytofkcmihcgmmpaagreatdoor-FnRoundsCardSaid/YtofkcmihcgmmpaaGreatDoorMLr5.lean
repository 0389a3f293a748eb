/-
  Texts that the claim's last one imports, laid together: part 5 of 16. No condition of its own.
-/
import Derived.Laws.BitsAllLaws
import Derived.StillTailTactics
import Derived.Deep.QuietTactic
import Derived.BigQuiet
import Derived.Test.YtofkcmihcgmmpaaGreatDoorMLr1
import Derived.Test.YtofkcmihcgmmpaaGreatDoorMLr2
import Derived.Test.YtofkcmihcgmmpaaGreatDoorMLr3
import Derived.Test.YtofkcmihcgmmpaaGreatDoorMLr4
namespace Go.Proofs.YtofkcmihcgmmpaaGreatDoor
set_option maxRecDepth 100000
open Go.RowKit
theorem zl5 {w : World} {lo lo2 : Nat} {e : TypeId} {size n : Nat} {v : Value} {xs : List Value} (h : w.ownsRow lo e size v n xs) (h1 : ∀ b, v.ownBlock = some b -> lo2 <= b) : w.ownsRow lo2 e size v n xs := by
 obtain ⟨hlen, h⟩ := h
 refine ⟨hlen, ?_⟩
 rcases h with h | ⟨g, cap, cur, rfl, hbg, r⟩
 ·exact .inl h
 ·exact .inr ⟨g, cap, cur, rfl, h1 g rfl, r⟩
theorem zgT : ∀ (es : List Ent) (i : Nat) (h : i < es.length) (x : Int), (zaf es).set (i * 3) (.int .i64 x) = zaf (es.set i (((x, es[i].1.1.2), es[i].1.2), es[i].2))
 | [], _, h, _ => absurd h (by simp)
 | e :: es, 0, _, x => by simp [zaf]
 | e :: es, i + 1, h, x => by
  have := zgT es i (by simpa using h) x
  rw [show (i + 1) * 3 = i * 3 + 1 + 1 + 1 by omega]
  simpa [zaf] using this
theorem zgS : ∀ (es : List Ent) (i : Nat) (h : i < es.length) (v : Value) (xs : List Int), (zaf es).set (i * 3 + 1) v = zaf (es.set i (((es[i].1.1.1, xs), es[i].1.2), v, es[i].2.2))
 | [], _, h, _, _ => absurd h (by simp)
 | e :: es, 0, _, v, xs => by simp [zaf]
 | e :: es, i + 1, h, v, xs => by
  have := zgS es i (by simpa using h) v xs
  rw [show (i + 1) * 3 + 1 = i * 3 + 1 + 1 + 1 + 1 by omega]
  simpa [zaf] using this
theorem zgR : ∀ (es : List Ent) (i : Nat) (h : i < es.length) (v : Value) (ls : List zC), (zaf es).set (i * 3 + 2) v = zaf (es.set i ((es[i].1.1, ls), es[i].2.1, v))
 | [], _, h, _, _ => absurd h (by simp)
 | e :: es, 0, _, v, ls => by simp [zaf]
 | e :: es, i + 1, h, v, ls => by
  have := zgR es i (by simpa using h) v ls
  rw [show (i + 1) * 3 + 2 = i * 3 + 2 + 1 + 1 + 1 by omega]
  simpa [zaf] using this
section
variable {base g i j : Nat} {wr : World} {es : List Ent} {c : Nat} {e : Ent} {v : Value}
theorem zbF.set (h : zbF base wr es (some ⟨g, 0, none⟩) c) (hi : i < es.length) (hf : (zaf es).set j v = zaf (es.set i e))
 (ho : ∀ lo mid hi', zg wr lo mid es[i].2.1 es[i].1.1.2 -> zW wr mid hi' es[i].2.2 es[i].1.2 -> zg wr lo mid e.2.1 e.1.1.2 /\ zW wr mid hi' e.2.2 e.1.2) : zbF base (wr.setCell ⟨g, j, none⟩ v) (es.set i e) (some ⟨g, 0, none⟩) c := by
 have hk : ∀ k, k ≠ g -> (wr.setCell ⟨g, j, none⟩ v).heap[k]? = wr.heap[k]? := fun k hk => Below.heap_setCell _ _ _ k hk
 have hsz : (wr.setCell ⟨g, j, none⟩ v).heap.size = wr.heap.size := by simp
 have hl : (es.set i e).length = es.length := by simp
 obtain ⟨lo, mid, hh, q1, q2⟩ := h.own
 have hkk : ∀ i', (hi' : i' < es.length) -> ∀ k, lo i' <= k -> k < hh i' -> (wr.setCell ⟨g, j, none⟩ v).heap[k]? = wr.heap[k]? := fun i' hi' k k1 k2 => hk k (fun e => by have := (q1 i' hi').off g rfl; omega)
 refine ⟨⟨lo, mid, hh, fun i' hi' => ?_, fun i' j' h1 h2 => q2 i' j' h1 (by omega)⟩, ?_⟩
 ·by_cases e1 : i = i'
  ·subst e1
   rw [List.getElem_set_self]
   have x := q1 i hi
   obtain ⟨y1, y2⟩ := ho _ _ _ x.head x.body
   have y : ze9 base wr (Value.slice (some ⟨g, 0, none⟩) (es.set i e).length c).ownBlock e (lo i) (mid i) (hh i) := ⟨x.low, x.lm, x.mh, x.high, x.off, y1, y2⟩
   exact y.keep (by have := y.high; omega) (hkk i hi) y.off
  ·rw [List.getElem_set_ne e1]
   have x := q1 i' (by omega)
   exact x.keep (by have := x.high; omega) (hkk i' (by omega)) x.off
 ·rw [hl, <- hf]
  exact (h.row.stored j v).1
theorem zbF.form {A : Option Addr} (h : zbF base wr es A c) (hn : 0 < es.length) : ∃ g, A = some ⟨g, 0, none⟩ /\ base <= g /\ g < wr.heap.size := by
 obtain ⟨g, cq, e, h1, h2⟩ := h.row.form hn
 injection e with e1 _ _
 exact ⟨g, e1, h1, h2⟩
theorem zbF.setPred (h : zbF base wr es (some ⟨g, 0, none⟩) c) (hi : i < es.length) (x : Int) : zbF base (wr.setCell ⟨g, i * 3, none⟩ (.int .i64 x)) (es.set i (((x, es[i].1.1.2), es[i].1.2), es[i].2)) (some ⟨g, 0, none⟩) c :=
 h.set hi (zgT es i hi x) fun _ _ _ h1 h2 => ⟨h1, h2⟩
theorem zbF.setBody (h : zbF base wr es (some ⟨g, 0, none⟩) c) (hi : i < es.length) : zbF base (wr.setCell ⟨g, i * 3 + 2, none⟩ (.slice none 0 0)) (es.set i ((es[i].1.1, []), es[i].2.1, .slice none 0 0)) (some ⟨g, 0, none⟩) c :=
 h.set hi (zgR es i hi _ []) fun _ _ _ h1 _ => ⟨h1, ⟨none, 0, rfl, Nat.le_refl _, fun h => absurd h (by simp)⟩⟩
end
structure zdl (base : Nat) (wr : World) (es : List Ent) (A : Option Addr) (c : Nat) : Prop where
 own : ∀ i (_ : i < es.length), ∃ lo1 hi1 lo2 hi2, base <= lo1 /\ base <= lo2 /\ hi1 <= wr.heap.size /\ hi2 <= wr.heap.size /\ (hi1 <= lo2 \/ hi2 <= lo1) /\ (∀ b, (Value.slice A es.length c).ownBlock = some b -> (b < lo1 \/ hi1 <= b) /\ (b < lo2 \/ hi2 <= b)) /\ zg wr lo1 hi1 es[i].2.1 es[i].1.1.2 /\ zW wr lo2 hi2 es[i].2.2 es[i].1.2
 row : wr.ownsRow base 66 3 (.slice A es.length c) es.length (zaf es)
section
variable {base g g2 i cap : Nat} {wr w2 wn w4 w5 w6 : World} {es : List Ent} {A : Option Addr} {c : Nat}
theorem zbF.out (h : zbF base wr es A c) : zdl base wr es A c := by
 obtain ⟨lo, mid, hi, q1, _⟩ := h.own
 refine ⟨fun i hi => ?_, h.row⟩
 have x := q1 i hi
 have y1 := x.low
 have y2 := x.lm
 have y3 := x.mh
 have y4 := x.high
 exact ⟨_, _, _, _, y1, by omega, by omega, y4, .inl (Nat.le_refl _), fun b hb => by have := x.off b hb; omega, x.head, x.body⟩
theorem zdl.keep (h : zdl base wr es A c) (hs : wr.heap.size <= w2.heap.size) (hk : ∀ k, base <= k -> k < wr.heap.size -> w2.heap[k]? = wr.heap[k]?) : zdl base w2 es A c := by
 refine ⟨fun i hi => ?_, zw h.row fun b hb => hk b (h.row.lt b hb).1 (h.row.lt b hb).2⟩
 obtain ⟨lo1, hi1, lo2, hi2, h1, h2, h3, h4, h5, h6, h7, h8⟩ := h.own i hi
 exact ⟨lo1, hi1, lo2, hi2, h1, h2, by omega, by omega, h5, h6, h7.keep fun k k1 k2 => hk k (by omega) (by omega), h8.keep fun k k1 k2 => hk k (by omega) (by omega)⟩
theorem zdl.only (h : zdl base wr es A c) (ho : zl g (g + 1) wr w2) (hg : g < base) : zdl base w2 es A c :=
 h.keep ho.size fun k k1 k2 => ho.block k k2 (by omega)
theorem zdl.below (h : zdl base wr es A c) (hb : Below wr.heap.size wr w2) : zdl base w2 es A c :=
 h.keep hb.size fun k _ k2 => hb.block k k2
theorem zdl.capOk (h : zdl base wr es A c) : es.length <= c := by
 rcases h.row.2 with ⟨e, h0⟩ | ⟨g, cq, cur, e, hb, hgg, hn, _⟩
 ·injection e with _ _ e
  omega
 ·injection e with _ _ e
  omega
theorem zdl.form (h : zdl base wr es A c) (hn : 0 < es.length) : ∃ g, A = some ⟨g, 0, none⟩ /\ base <= g /\ g < wr.heap.size := by
 obtain ⟨g, cq, e, h1, h2⟩ := h.row.form hn
 injection e with e1 _ _
 exact ⟨g, e1, h1, h2⟩
theorem zdl.rules (h : zdl base wr es A c) : zaY wr base wr.heap.size (.slice A es.length c) (es.map (·.1)) := by
 have hcells := @World.ownsRow.cells wr base 66 3 (.slice A es.length c) es.length (zaf es) h.row
 have hlt := h.row.lt
 have hn := h.capOk
 have hml : (es.map (·.1)).length = es.length := by simp
 refine ⟨A, c, by rw [hml], by rw [hml]; exact hn, fun hpos => ?_⟩
 rcases h.row.2 with ⟨e, h0⟩ | ⟨g, cq, cur, e, hb, hgg, _⟩
 ·omega
 ·injection e with e1 _ e3
  subst e1
  refine ⟨g, 0, rfl, hb, (hlt g rfl).2, fun k hk => ⟨⟨by simp [World.frozen?, hgg], by simp [World.frozen?, hgg]⟩, ?_⟩⟩
  rw [hml] at hk
  obtain ⟨c0, c1, c2⟩ := zcu es k hk
  have d0 := hcells (g := g) rfl _ _ c0
  have d1 := hcells (g := g) rfl _ _ c1
  have d2 := hcells (g := g) rfl _ _ c2
  rw [Go.WideShapes.add_plain] at d0 d1 d2
  obtain ⟨lo1, hi1, lo2, hi2, h1, h2, h3, h4, _, _, h7, h8⟩ := h.own k hk
  refine ⟨_, _, _, d0, d1, d2, ?_⟩
  simp only [List.getElem_map]
  exact ⟨rfl, h7.mono h1 h3, h8.mono h2 h4⟩
theorem zdl.at_ (h : zdl base wr es (some ⟨g, 0, none⟩) c) (hi : i < es.length) : wr.cell? ⟨g, i * 3, none⟩ = some (.int .i64 es[i].1.1.1) /\ wr.cell? ⟨g, i * 3 + 1, none⟩ = some es[i].2.1 /\ wr.cell? ⟨g, i * 3 + 2, none⟩ = some es[i].2.2 := by
 have hcells := @World.ownsRow.cells wr base 66 3 (.slice (some ⟨g, 0, none⟩) es.length c) es.length (zaf es) h.row
 obtain ⟨c0, c1, c2⟩ := zcu es i hi
 have d0 := hcells (g := g) rfl _ _ c0
 have d1 := hcells (g := g) rfl _ _ c1
 have d2 := hcells (g := g) rfl _ _ c2
 rw [Go.WideShapes.add_plain, Nat.zero_add] at d0 d1 d2
 exact ⟨d0, d1, d2⟩
theorem zbF.longer {lo mid hi : Nat -> Nat} {v : Value} {xs : List Int} {x : Int} (hrow : wn.ownsRow base 66 3 (.slice (some ⟨g, 0, none⟩) es.length c) es.length (zaf es))
 (q1 : ∀ i (h : i < es.length), ze9 base wn (some g) es[i] (lo i) (mid i) (hi i)) (q2 : ∀ i j, i < j -> j < es.length -> hi i <= lo j) (hil : i < es.length) (hxs : xs = es[i].1.1.2 ++ [x])
 (hg2 : wn.grownBy w5 es[i].2.1.ownBlock) (hat : es[i].2.1.ownBlock = some g2 \/ wn.heap.size <= g2) (hv : v = .slice (some ⟨g2, 0, none⟩) xs.length cap)
 (hown : w5.ownsRow (lo i) 3 1 v xs.length (xs.map (Value.int .i64)))
 (hw : w6 = w5.setCell ⟨g, i * 3 + 1, none⟩ v) : zdl base w6 (es.set i (((es[i].1.1.1, xs), es[i].1.2), v, es[i].2.2)) (some ⟨g, 0, none⟩) c := by
 have hk6 : ∀ k, k ≠ g -> w6.heap[k]? = w5.heap[k]? := fun k hk => by rw [hw]; exact Below.heap_setCell _ _ _ k hk
 have hsz6 : w6.heap.size = w5.heap.size := by rw [hw]; simp
 have hsz5 := hg2.size
 have hl : (es.set i (((es[i].1.1.1, xs), es[i].1.2), v, es[i].2.2)).length = es.length := by simp
 have X := q1 i hil
 have hgg := (hrow.lt g rfl).2
 have hob : ∀ b, es[i].2.1.ownBlock = some b -> lo i <= b /\ b < mid i := fun b hb => ⟨(X.head.lt hb).1, (X.head.lt hb).2.1⟩
 have hgo := X.off g rfl
 have hmh := X.mh
 have hlm := X.lm
 have h5 : ∀ k, k < wn.heap.size -> (k < lo i \/ mid i <= k) -> w5.heap[k]? = wn.heap[k]? := fun k k1 k2 => hg2.block k k1 (fun e => by have := hob k e.symm; omega)
 have hvb : v.ownBlock = some g2 := by rw [hv]; rfl
 have hg2lt := (hown.lt g2 hvb).2
 refine ⟨fun i' hi' => ?_, ?_⟩
 ·by_cases e1 : i = i'
  ·subst e1
   rw [List.getElem_set_self]
   have hb6 : zW w6 (mid i) (hi i) es[i].2.2 es[i].1.2 := X.body.keep fun k k1 k2 => (hk6 k (by omega)).trans (h5 k (by have := X.high; omega) (.inr k1))
   have hng : g2 ≠ g := fun e => by
    rcases hat with hat | hat
    ·have := hob g2 hat; omega
    ·omega
   have hb1 : w6.ownsRow (lo i) 3 1 v xs.length (xs.map (Value.int .i64)) := zw hown fun b hb => hk6 b (by rw [hvb] at hb; injection hb with hb; omega)
   rcases hat with hat | hat
   ·have := hob g2 hat
    refine ⟨lo i, mid i, mid i, hi i, X.low, by have := X.low; omega, by have := X.high; omega, by have := X.high; omega, .inl (Nat.le_refl _), fun b hb => ?_, ⟨hb1, fun b hb => ?_⟩, hb6⟩
    ·have e : g = b := by simpa [Value.ownBlock] using hb
     omega
    ·rw [hvb] at hb
     injection hb with hb
     omega
   ·refine ⟨g2, g2 + 1, mid i, hi i, by have := X.low; have := X.high; omega, by have := X.low; omega, by omega, by have := X.high; omega, .inr (by have := X.high; omega), fun b hb => ?_, ⟨zl5 hb1 fun b hb => ?_, fun b hb => ?_⟩, hb6⟩
    ·have e : g = b := by simpa [Value.ownBlock] using hb
     omega
    ·rw [hvb] at hb
     injection hb with hb
     omega
    ·rw [hvb] at hb
     injection hb with hb
     omega
  ·rw [List.getElem_set_ne e1]
   have hi2 : i' < es.length := by omega
   have x := q1 i' hi2
   have hap : hi i' <= lo i \/ hi i <= lo i' := by
    rcases Nat.lt_or_ge i' i with h | h
    ·exact .inl (q2 i' i h hil)
    ·exact .inr (q2 i i' (by omega) hi2)
   have y1 := x.low
   have y2 := x.lm
   have y3 := x.mh
   have y4 := x.high
   have hk : ∀ k, lo i' <= k -> k < hi i' -> w6.heap[k]? = wn.heap[k]? := fun k k1 k2 => (hk6 k (fun e => by have := x.off g rfl; omega)).trans (h5 k (by omega) (by omega))
   exact ⟨lo i', mid i', mid i', hi i', y1, by omega, by omega, by omega, .inl (Nat.le_refl _), fun b hb => by
    have e : g = b := by simpa [Value.ownBlock] using hb
    have := x.off g rfl
    omega, x.head.keep fun k k1 k2 => hk k k1 (by omega), x.body.keep fun k k1 k2 => hk k (by omega) k2⟩
 ·rw [hl, <- zgS es i hil v xs, hw]
  exact ((zw hrow fun b hb => h5 b (hrow.lt b hb).2 (by have e : g = b := by simpa [Value.ownBlock] using hb
                                                        omega)).stored _ _).1
end
open Go.RowKit
structure Pg3 (w wr : World) (D B g : Nat) (bs : List Nat) (q : Nat) (A : Option Addr) (c : Nat) (ar : List Int) (Ar : Option Addr) (cr : Nat) (es : List Ent) : Prop where
 res : Blk wr w.heap.size 26 #[.slice none 0 0, .slice none 0 0]
 prg : Blk wr D 26 #[.slice A ar.length c, .slice Ar es.length cr]
 own : zg wr (w.heap.size + 1) B (.slice A ar.length c) ar
 rules : zbF B wr es Ar cr
 low : w.heap.size < B
 high : B <= D
 rdr : Rdr wr g bs q
 only : zl g (g + 1) w wr
section
variable {w wr w' w1 : World} {D g q B : Nat} {bs : List Nat} {A Ar : Option Addr} {c cr : Nat} {ar : List Int} {es : List Ent}
theorem Pg3.go (h : Pg3 w wr D B g bs q A c ar Ar cr es) (hg : g < w.heap.size) {q' : Nat} (hr : Rdr w' g bs q') (ho : zl g (g + 1) wr w') : Pg3 w w' D B g bs q' A c ar Ar cr es :=
 ⟨h.res.only ho (.inr (by omega)), h.prg.only ho (.inr (by have := h.low; have := h.high; omega)), h.own.only ho (.inr (by omega)), h.rules.only ho (by have := h.low; omega), h.low, h.high, hr, h.only.trans ho⟩
theorem Pg3.start (hg : g < w.heap.size) (hB : w.heap.size + 1 <= B) (hB2 : B <= w1.heap.size) (hw : w' = w1.alloc (.cells #[.slice A ar.length c, .slice Ar es.length cr] 26))
 (h1 : zg w1 (w.heap.size + 1) B (.slice A ar.length c) ar) (h2 : zbF B w1 es Ar cr) (h3 : Rdr w1 g bs q) (h4 : zl g (g + 1) (w.alloc (.cells #[.slice none 0 0, .slice none 0 0] 26)) w1) : Pg3 w w' w1.heap.size B g bs q A c ar Ar cr es := by
 have hb : Below w1.heap.size w1 w' := by rw [hw]; exact ze _ _
 refine ⟨((Blk.new w 26 #[.slice none 0 0, .slice none 0 0]).only h4 (.inr (by omega))).below hb (by omega), by rw [hw]; exact Blk.new _ _ _, h1.below hb hB2, h2.below hb, hB, hB2, h3.below hb h3.lt, ((zl.of_below (ze w _)).trans h4).trans (zl.of_below hb)⟩
theorem Pg3.row {gr j : Nat} {v : Value} {es' : List Ent} (h : Pg3 w wr D B g bs q A c ar (some ⟨gr, 0, none⟩) cr es) (hg : g < w.heap.size) (hl : es'.length = es.length) (hc : zbF B (wr.setCell ⟨gr, j, none⟩ v) es' (some ⟨gr, 0, none⟩) cr) :
 Pg3 w (wr.setCell ⟨gr, j, none⟩ v) D B g bs q A c ar (some ⟨gr, 0, none⟩) cr es' := by
 have hk : ∀ k, k ≠ gr -> (wr.setCell ⟨gr, j, none⟩ v).heap[k]? = wr.heap[k]? := fun k hk => Below.heap_setCell _ _ _ k hk
 have hb := (h.rules.row.lt gr rfl).1
 have hB := h.low
 have hne : gr ≠ D := fun e => zbL h.rules.row h.prg (by decide) (by simp [Value.ownBlock, e])
 refine ⟨(hk _ (by omega)).trans h.res, by rw [hl]; exact (hk _ (fun e => hne e.symm)).trans h.prg, h.own.keep fun k _ k2 => hk k (by omega), hc, hB, h.high, h.rdr.same fun k hk' => hk k (by omega), ⟨h.only.os, h.only.tape, h.only.output, by simpa using h.only.size, fun k hk' hn => (hk k (by omega)).trans (h.only.block k hk' hn)⟩⟩
theorem Pg3.arity {ga j : Nat} (h : Pg3 w wr D B g bs q (some ⟨ga, 0, none⟩) c ar Ar cr es) (hg : g < w.heap.size) (hj : j < ar.length) (x : Int) : Pg3 w (wr.setCell ⟨ga, j, none⟩ (.int .i64 x)) D B g bs q (some ⟨ga, 0, none⟩) c (ar.set j x) Ar cr es := by
 have hb1 := (h.own.lt (g := ga) rfl).1
 have hb2 := (h.own.lt (g := ga) rfl).2.1
 have hB := h.high
 have hk : ∀ k, k ≠ ga -> (wr.setCell ⟨ga, j, none⟩ (.int .i64 x)).heap[k]? = wr.heap[k]? := fun k hk => Below.heap_setCell _ _ _ k hk
 have hsz : (wr.setCell ⟨ga, j, none⟩ (.int .i64 x)).heap.size = wr.heap.size := by simp
 have hl : (ar.set j x).length = ar.length := by simp
 refine ⟨(hk _ (by omega)).trans h.res, ?_, ?_, h.rules.keep (by rw [hsz]; exact Nat.le_refl _) (fun k k1 _ => hk k (by omega)), h.low, h.high, h.rdr.same fun k hk' => hk k (by omega), ⟨h.only.os, h.only.tape, h.only.output, by rw [hsz]; exact h.only.size, fun k hk' hn => (hk k (by omega)).trans (h.only.block k hk' hn)⟩⟩
 ·rw [hl]
  exact (hk _ (by omega)).trans h.prg
 ·rw [hl]
  exact h.own.store rfl hj x
end
structure Pg4 (w wr : World) (D B g : Nat) (bs : List Nat) (q : Nat) (A : Option Addr) (c : Nat) (ar : List Int) (Ar : Option Addr) (cr : Nat) (es : List Ent) : Prop where
 res : Blk wr w.heap.size 26 #[.slice none 0 0, .slice none 0 0]
 prg : Blk wr D 26 #[.slice A ar.length c, .slice Ar es.length cr]
 own : zg wr (w.heap.size + 1) B (.slice A ar.length c) ar
 rules : zdl B wr es Ar cr
 low : w.heap.size < B
 high : B <= D
 rdr : Rdr wr g bs q
 only : zl g (g + 1) w wr
theorem Pg3.four {w wr : World} {D B g : Nat} {bs : List Nat} {q : Nat} {A : Option Addr} {c : Nat} {ar : List Int} {Ar : Option Addr} {cr : Nat} {es : List Ent} (h : Pg3 w wr D B g bs q A c ar Ar cr es) : Pg4 w wr D B g bs q A c ar Ar cr es :=
 ⟨h.res, h.prg, h.own, h.rules.out, h.low, h.high, h.rdr, h.only⟩
section
variable {w wr w' w1 : World} {D g q B : Nat} {bs : List Nat} {A Ar : Option Addr} {c cr : Nat} {ar : List Int} {es : List Ent}
theorem Pg4.done (h : Pg4 w wr D B g bs q A c ar Ar cr es) (hg : g < w.heap.size) (hw : w' = (wr.setCell ⟨w.heap.size, 0, none⟩ (.slice A ar.length c)).setCell ⟨w.heap.size, 1, none⟩ (.slice Ar es.length cr)) :
 w.heap.size <= B /\ B <= w'.heap.size /\ zg w' w.heap.size B (.slice A ar.length c) ar /\ zdl B w' es Ar cr /\ Rdr w' g bs q /\ zl g (g + 1) w w' /\ Blk w' w.heap.size 26 #[.slice A ar.length c, .slice Ar es.length cr] := by
 have hk : ∀ k, k ≠ w.heap.size -> w'.heap[k]? = wr.heap[k]? := fun k hk => by
  rw [hw]
  exact (Below.heap_setCell _ _ _ k hk).trans (Below.heap_setCell _ _ _ k hk)
 have hsz : w'.heap.size = wr.heap.size := by rw [hw]; simp
 have hB := h.low
 have hH := h.high
 have hD := h.prg.lt
 refine ⟨by omega, by omega, (h.own.keep fun k k1 _ => hk k (by omega)).mono (Nat.le_succ _) (Nat.le_refl _), h.rules.keep (by rw [hsz]; exact Nat.le_refl _) (fun k k1 _ => hk k (by omega)), h.rdr.same fun k hk' => hk k (by omega), ⟨?_, ?_, ?_, by rw [hsz]; exact h.only.size, fun k hk' hn => (hk k (by omega)).trans (h.only.block k hk' hn)⟩, ?_⟩
 ·rw [hw]; exact h.only.os
 ·rw [hw]; exact h.only.tape
 ·rw [hw]; exact h.only.output
 ·have := (h.res.set_ 0 (.slice A ar.length c)).set_ 1 (.slice Ar es.length cr)
  rw [hw]
  simpa using this
theorem Pg3.kept {wn w5 : World} {gr i : Nat} {o : Obj} {lo mid hi : Nat -> Nat} (h : Pg3 w wn D B g bs q A c ar (some ⟨gr, 0, none⟩) cr es)
 (q1 : ∀ i (h : i < es.length), ze9 B wn (some gr) es[i] (lo i) (mid i) (hi i)) (hi' : i < es.length)
 (hgr : (wn.alloc o).grownBy w5 es[i].2.1.ownBlock) : w5.heap[gr]? = wn.heap[gr]? /\ w5.heap[D]? = wn.heap[D]? := by
 have hg2 := zy hgr
 have X := q1 i hi'
 refine ⟨hg2.block gr (h.rules.row.lt gr rfl).2 (fun e => ?_), hg2.block D h.prg.lt (fun e => zbL X.head.1 h.prg (by decide) e.symm)⟩
 have h1 := X.head.lt e.symm
 have h2 := X.off gr rfl
 have h3 := X.mh
 omega
theorem Pg3.longer {wn w5 w6 : World} {gr g2 i cap : Nat} {o : Obj} {lo mid hi : Nat -> Nat} {xs : List Int} {x : Int} (h : Pg3 w wn D B g bs q A c ar (some ⟨gr, 0, none⟩) cr es) (hgl : g < w.heap.size)
 (q1 : ∀ i (h : i < es.length), ze9 B wn (some gr) es[i] (lo i) (mid i) (hi i)) (q2 : ∀ i j, i < j -> j < es.length -> hi i <= lo j) (hi' : i < es.length) (hxs : xs = es[i].1.1.2 ++ [x])
 (hgr : (wn.alloc o).grownBy w5 es[i].2.1.ownBlock) (hat : es[i].2.1.ownBlock = some g2 \/ g2 = (wn.alloc o).heap.size)
 (hown : w5.ownsRow (lo i) 3 1 (.slice (some ⟨g2, 0, none⟩) xs.length cap) xs.length (xs.map (Value.int .i64)))
 (hw : w6 = w5.setCell ⟨gr, i * 3 + 1, none⟩ (.slice (some ⟨g2, 0, none⟩) xs.length cap)) :
 Pg4 w w6 D B g bs q A c ar (some ⟨gr, 0, none⟩) cr (es.set i (((es[i].1.1.1, xs), es[i].1.2), .slice (some ⟨g2, 0, none⟩) xs.length cap, es[i].2.2)) := by
 have hg2 := zy hgr
 have hR := zbF.longer h.rules.row q1 q2 hi' hxs hg2 (hat.imp id fun e => by rw [e]; simp) rfl hown hw
 have X := q1 i hi'
 have hB := h.low
 have hH := h.high
 have hrow := h.rules.row.lt gr rfl
 have hob : ∀ b, es[i].2.1.ownBlock = some b -> B <= b := fun b hb => by have := (X.head.lt hb).1; have := X.low; omega
 have hk : ∀ k, k < wn.heap.size -> k ≠ gr -> es[i].2.1.ownBlock ≠ some k -> w6.heap[k]? = wn.heap[k]? := fun k h1 h2 h3 => by
  rw [hw]
  exact (Below.heap_setCell _ _ _ k h2).trans (hg2.block k h1 (fun e => h3 e.symm))
 have hlow : ∀ k, k < B -> w6.heap[k]? = wn.heap[k]? := fun k h1 => hk k (by omega) (by omega) (fun e => by have := hob k e; omega)
 have hsz : wn.heap.size <= w6.heap.size := by rw [hw]; simpa using hg2.size
 have hl : (es.set i (((es[i].1.1.1, xs), es[i].1.2), Value.slice (some ⟨g2, 0, none⟩) xs.length cap, es[i].2.2)).length = es.length := by simp
 refine ⟨(hlow _ (by omega)).trans h.res, ?_, h.own.keep fun k _ k2 => hlow k k2, hR, hB, hH, h.rdr.same fun k hk' => hlow k (by omega), ⟨?_, ?_, ?_, Nat.le_trans h.only.size hsz, fun k hk' hn => (hlow k (by omega)).trans (h.only.block k hk' hn)⟩⟩
 ·rw [hl]
  exact (hk D h.prg.lt (fun e => zbL h.rules.row h.prg (by decide) (by simp [Value.ownBlock, e])) (zbL X.head.1 h.prg (by decide))).trans h.prg
 ·rw [hw]; exact hg2.os.trans h.only.os
 ·rw [hw]; exact hg2.tape.trans h.only.tape
 ·rw [hw]; exact hg2.output.trans h.only.output
end
def zg9 (ar : List Int) (es : List Ent) : Prop := 4 <= ar.length /\ ar.length <= 5 /\ (∀ x ∈ ar, 0 <= x /\ x <= 3) /\ 1 <= es.length /\ es.length <= 4 /\ ∀ e ∈ es, e.1.1.2.length <= 3 /\ e.1.2.length <= 4 /\ zbB e.1.2 <= 8 /\ zaL e.1.2
set_option maxHeartbeats 4000000 in
theorem znt (g : Nat) (bs : List Nat) (p : Nat) (no : Int) (w : World) (h : Rdr w g bs p) (hp : p <= 900000) :
 Calls Tryz.prog 93 #[.pointer (some ⟨g, 0, none⟩), .int .i64 no] w fun e w' => ∃ (A Ar : Option Addr) (c cr B q : Nat) (ar : List Int) (es : List Ent), e = .returned (.agg #[.slice A ar.length c, .slice Ar es.length cr]) /\ zg9 ar es /\ q <= p + 1700 /\
  w.heap.size <= B /\ B <= w'.heap.size /\ zg w' w.heap.size B (.slice A ar.length c) ar /\ zdl B w' es Ar cr /\ Rdr w' g bs q /\ zl g (g + 1) w w' := by
 obtain ⟨i0, hi0, hz0, hz1, hz2⟩ := info_parts Tryz.infoInt
 have hgl := h.lt
 have H := Lib.hid h
 clear h
 go_enter Tryz.func93, Tryz.ntmps93
 go_wp2_with (fail)
 refine (zjs g bs p no _ (H.out.below (ze w (.cells #[.slice none 0 0, .slice none 0 0] 26)) H.out.lt) (by omega)).mono ?_
 rintro e w1 ⟨A, Ar, c, cr, B, q, ar, es, rfl, hl4, hl5, har, hes1, hes4, hes, hq, hB, hB2, h1, h2, h3, h4⟩
 have HES2 := Lib.hid (show ∀ e ∈ es, e.1.1.2.length <= 2 from fun e he => (hes e he).1)
 have HOK := Lib.hid (show zg9 ar es from ⟨hl4, hl5, fun x hx => by have := har x hx; omega, hes1, hes4, fun e he => ⟨by have := (hes e he).1; omega, (hes e he).2⟩⟩)
 simp only [World.size_alloc] at hB h1
 have HQ := Lib.hid (And.intro hB (And.intro hB2 (And.intro h1 (And.intro h2 (And.intro h3 h4)))))
 clear hB hB2 h1 h2 h3 h4 har hes
 go_upto_region 2 with (fail)
 obtain ⟨wS, hwS⟩ : ∃ wS, wS = w1.alloc (.cells #[.slice A ar.length c, .slice Ar es.length cr] 26) := ⟨_, rfl⟩
 have H1 := Lib.hid (Pg3.start hgl HQ.out.1 HQ.out.2.1 hwS HQ.out.2.2.1 HQ.out.2.2.2.1 HQ.out.2.2.2.2.1 HQ.out.2.2.2.2.2)
 rw [<- hwS]
 clear hwS HQ
 obtain ⟨D, hD⟩ : ∃ D, D = w1.heap.size := ⟨_, rfl⟩
 rw [<- hD] at H1 ⊢
 clear hD
 have hDw : w.heap.size < D := Nat.lt_of_lt_of_le H1.out.low H1.out.high
 go_wp2_with (fail)
 refine (zak g bs q 20 _ H1.out.rdr (by omega) (by omega)).mono ?_
 rintro e w3 ⟨⟨z, rfl, _⟩, hp3⟩
 have H3 := Lib.hid (H1.out.go hgl hp3.1 hp3.2)
 clear hp3
 by_cases hz : z = 0
 ·have hzb : (z == 0) = true := by simp [hz]
  clear hz
  have k0 : w3.cell? ⟨D, 0, none⟩ = some (.slice A ar.length c) := H3.out.prg.cell 0
  have k1 : w3.cell? ⟨D, 1, none⟩ = some (.slice Ar es.length cr) := H3.out.prg.cell 1
  go_wp2_with (fail)
  refine (zak g bs (q + 1) es.length _ H3.out.rdr (by omega) (by omega)).mono ?_
  rintro e w4 ⟨⟨i, rfl, hi⟩, hp4⟩
  have hir : 0 <= i /\ i < es.length := hi.1 (by omega)
  obtain ⟨i, rfl⟩ : ∃ j : Nat, i = (j : Int) := ⟨i.toNat, by omega⟩
  have H4 := Lib.hid (H3.out.go hgl hp4.1 hp4.2)
  clear hp4 hi k0 k1 H3 H1
  go_wp2_with (fail)
  refine (zak g bs (q + 1 + 1) 4 _ H4.out.rdr (by omega) (by omega)).mono ?_
  rintro e w5 ⟨⟨kk, rfl, hkk⟩, hp5⟩
  have hkr : 0 <= kk /\ kk < 4 := hkk.1 (by omega)
  have H5 := Lib.hid (H4.out.go hgl hp5.1 hp5.2)
  clear hp5 hkk H4
  obtain ⟨gr, hgr, hgr1, hgr2⟩ := H5.out.rules.form (by omega)
  subst hgr
  have k0 : w5.cell? ⟨D, 0, none⟩ = some (.slice A ar.length c) := H5.out.prg.cell 0
  have k1 : w5.cell? ⟨D, 1, none⟩ = some (.slice (some ⟨gr, 0, none⟩) es.length cr) := H5.out.prg.cell 1
  by_cases hk0 : kk = 0
  ·have hb0 : (kk == 0) = true := by simp [hk0]
   clear hk0
   have hi2 : i < es.length := by omega
   have hib : decide ((i : Int) < (es.length : Int)) = true := by simp; omega
   obtain ⟨SS, hSS⟩ : ∃ SS : World -> Prop, SS = (fun W => W.cell? ⟨D, 0, none⟩ = some (.slice A ar.length c) /\ W.cell? ⟨D, 1, none⟩ = some (.slice (some ⟨gr, 0, none⟩) es.length cr)) := ⟨_, rfl⟩
   have HB := Lib.hid (show ∀ W, SS W -> W.cell? ⟨D, 0, none⟩ = some (.slice A ar.length c) /\ W.cell? ⟨D, 1, none⟩ = some (.slice (some ⟨gr, 0, none⟩) es.length cr) from by rw [hSS]; exact fun W hW => hW)
   have HC := Lib.hid (show ∀ W (q : Nat), Pg3 w W D B g bs q A c ar (some ⟨gr, 0, none⟩) cr es -> SS W from by rw [hSS]; exact fun W q hW => ⟨hW.prg.cell 0, hW.prg.cell 1⟩)
   clear hSS
   go_upto_region 6 with (fail)
   have HRd := Lib.hid (H5.out.go hgl (H5.out.rdr.below (Below.refl _ _).drew H5.out.rdr.lt) (zl.of_below (Below.refl _ _).drew))
   have SB := HC.out _ _ HRd.out
   have HX7 := Lib.hid (HRd.out.go hgl (HRd.out.rdr.below (ze w5.drew (.cells #[.int .i64 (-1), .int .i64 (ar.length : Int)] 3)) HRd.out.rdr.lt) (zl.of_below (ze w5.drew (.cells #[.int .i64 (-1), .int .i64 (ar.length : Int)] 3))))
   refine zB SS 12 13 (by kernel_rfl) rfl ?_
   refine za (i := 0) (oi := _) ?v0 rfl rfl (by kernel_rfl) (by decide) (fun _ _ _ h => h) rfl ?hy0 (fun _ => SB) ?rest0
   case hy0 => (intro W; go_simp; (try with_reducible rfl))
   try simp only [zs.a, zs.b, zs.c]
   refine za (i := 2) (oi := _) ?v2 rfl rfl (by kernel_rfl) (by decide) (fun _ _ _ h => h) rfl ?hy2 (fun _ => SB) ?rest2
   case hy2 => (intro W; go_simp; (try with_reducible rfl))
   try simp only [zs.a, zs.b, zs.c]
   refine za (i := 3) (oi := _) ?v3 rfl rfl (by kernel_rfl) (by decide) (fun _ _ _ h => h) rfl ?hy3 (fun _ => SB) ?rest3
   case hy3 => (intro W; go_simp; (try with_reducible rfl))
   try simp only [zs.a, zs.b, zs.c]
   refine za (i := 4) (oi := _) ?v4 rfl rfl (by kernel_rfl) (by decide) (fun _ _ _ h => h) rfl ?hy4 (fun _ => SB) ?rest4
   case hy4 => (intro W; go_simp; (try with_reducible rfl))
   try simp only [zs.a, zs.b, zs.c]
   refine zm (i := 1) (oi := _) ?v1 rfl rfl (by kernel_rfl) (fun _ _ _ h => h) rfl ?hy1 SB ?rest1
   case hy1 => (intro W hW; obtain ⟨E0, E1⟩ := HB.out W hW; go_simp; (try with_reducible rfl))
   try simp only [zs.a, zs.b, zs.c]
   refine zm (i := 5) (oi := _) ?v5 rfl rfl (by kernel_rfl) (fun _ _ _ h => h) rfl ?hy5 SB ?rest5
   case hy5 => (intro W hW; obtain ⟨E0, E1⟩ := HB.out W hW; go_simp; (try with_reducible rfl))
   try simp only [zs.a, zs.b, zs.c]
   refine za (i := 6) (oi := _) ?v6 rfl rfl (by kernel_rfl) (by decide) (fun _ _ _ h => h) rfl ?hy6 (fun _ => SB) ?rest6
   case hy6 => (intro W; go_simp; (try with_reducible rfl))
   try simp only [zs.a, zs.b, zs.c]
   refine zh (i := 7) (by kernel_rfl) rfl (fun K hK => ?_)
   try rw [if_pos (show Region.wanted _ _ = true from rfl)]
   go_simp
   refine hK.out _ _ (fun _ => HC.out _ _ HX7.out) ?_
   clear hK K
   try simp only [zs.a, zs.b, zs.c, Act.put]
   refine zh (i := 8) (by kernel_rfl) rfl (fun K hK => ?_)
   try rw [if_pos (show Region.wanted _ _ = true from rfl)]
   go_simp
   refine (zeP g bs _ _ _ [-1, (ar.length : Int)] 2 _ HX7.out.rdr (by omega) (Blk.new _ _ _) rfl (by have := HX7.out.rdr.lt; have := H5.out.only.size; show w5.heap.size ≠ g; omega) rfl (by simp) (by simp)).mono ?_
   rintro e wn ⟨⟨x, rfl, _⟩, hpn⟩
   have Hn := Lib.hid (HX7.out.go hgl hpn.1 hpn.2)
   clear hpn
   obtain ⟨c0, c1, c2⟩ := zcu es i hi2
   have r2 := World.ownsRow.cells Hn.out.rules.row (g := gr) rfl _ _ c0
   rw [Go.WideShapes.add_plain, Nat.zero_add] at r2
   have r3 := Hn.out.rules.row.frozenAt (i * 3)
   clear c0 c1 c2
   refine hK.out _ _ (fun _ => HC.out _ _ Hn.out) ?_
   clear hK K
   try simp only [zs.a, zs.b, zs.c, Act.put]
   refine zh (i := 9) (by kernel_rfl) rfl (fun K hK => ?_)
   try rw [if_pos (show Region.wanted _ _ = true from rfl)]
   go_simp
   refine hK.out _ _ (fun _ => HC.out _ _ Hn.out) ?_
   clear hK K
   try simp only [zs.a, zs.b, zs.c, Act.put]
   refine za (i := 10) (oi := _) ?v10 rfl rfl (by kernel_rfl) (by decide) (fun _ _ _ h => h) rfl ?hy10 (fun _ => HC.out _ _ Hn.out) ?rest10
   case hy10 => (intro W; go_simp; (try with_reducible rfl))
   try simp only [zs.a, zs.b, zs.c]
   refine za (i := 11) (oi := _) ?v11 rfl rfl (by kernel_rfl) (by decide) (fun _ _ _ h => h) rfl ?hy11 (fun _ => HC.out _ _ Hn.out) ?rest11
   case hy11 => (intro W; go_simp; (try with_reducible rfl))
   try simp only [zs.a, zs.b, zs.c]
   refine zh (i := 12) (by kernel_rfl) rfl (fun K hK => ?_)
   go_simp
   refine hK.out _ _ (fun hf => absurd hf (by decide)) ?_
   clear hK K
   refine zL (by kernel_rfl) ?_
   obtain ⟨es2, hes2⟩ : ∃ es2, es2 = es.set i (((x, es[i].1.1.2), es[i].1.2), es[i].2) := ⟨_, rfl⟩
   obtain ⟨w6, hw6⟩ : ∃ w6, w6 = wn.setCell ⟨gr, i * 3, none⟩ (.int .i64 x) := ⟨_, rfl⟩
   have hl2 : es.length = es2.length := by rw [hes2]; simp
   have HC6 := Hn.out.rules.setPred hi2 x
   rw [<- hes2] at HC6
   have H6 := Lib.hid (Hn.out.row hgl hl2.symm HC6)
   have HO6 := Lib.hid (show zg9 ar es2 from by
    obtain ⟨a1, a2, a3, a4, a5, a6⟩ := HOK.out
    refine ⟨a1, a2, a3, by omega, by omega, fun e he => ?_⟩
    rw [hes2] at he
    rcases List.mem_or_eq_of_mem_set he with he | rfl
    ·exact a6 e he
    ·exact a6 es[i] (List.getElem_mem hi2))
   rw [<- hw6] at H6 ⊢
   rw [hl2] at k1 ⊢
   clear HC6 hw6 hes2 hl2 r2 r3 k0 k1
   have k0 : w6.cell? ⟨D, 0, none⟩ = some (.slice A ar.length c) := H6.out.prg.cell 0
   have k1 : w6.cell? ⟨D, 1, none⟩ = some (.slice (some ⟨gr, 0, none⟩) es2.length cr) := H6.out.prg.cell 1
   have j0 : w6.cell? ⟨w.heap.size, 0, none⟩ = some (.slice none 0 0) := H6.out.res.cell 0
   have j1 : w6.cell? ⟨w.heap.size, 1, none⟩ = some (.slice none 0 0) := H6.out.res.cell 1
   have l0 := H6.out.res.frozen 0
   have l1 := H6.out.res.frozen 1
   go_wp2_with (fail)
   obtain ⟨W, hW⟩ : ∃ W, W = (w6.setCell ⟨w.heap.size, 0, none⟩ (.slice A ar.length c)).setCell ⟨w.heap.size, 1, none⟩ (.slice (some ⟨gr, 0, none⟩) es2.length cr) := ⟨_, rfl⟩
   rw [<- hW]
   obtain ⟨f1, f2, f3, f4, f5, f6, f7⟩ := H6.out.four.done hgl hW
   have d0 := f7.cell 0
   have d1 := f7.cell 1
   refine bodyPost_ret (v := .agg #[.slice A ar.length c, .slice (some ⟨gr, 0, none⟩) es2.length cr]) (by simp [results, Tryz.results93, go_sem, d0, d1]) rfl ?_
   exact ⟨A, some ⟨gr, 0, none⟩, c, cr, B, q + 1 + 1 + 1 + 1, ar, es2, rfl, HO6.out, by omega, f1, f2, f3, f4, f5, f6⟩
  ·have hb0 : (kk == 0) = false := by simp [hk0]
   by_cases hk1 : kk = 1
   ·have hb1 : (kk == 1) = true := by simp [hk1]
    clear hk0 hk1
    have hib : decide ((i : Int) < (es.length : Int)) = true := by simp; omega
    have hi2 : i < es.length := by omega
    obtain ⟨c0, c1, c2⟩ := zcu es i hi2
    have r2 := World.ownsRow.cells H5.out.rules.row (g := gr) rfl _ _ c2
    rw [Go.WideShapes.add_plain, Nat.zero_add] at r2
    have r3 := H5.out.rules.row.frozenAt (i * 3 + 2)
    clear c0 c1 c2
    go_upto_region 12 with (fail)
    obtain ⟨es2, hes2⟩ : ∃ es2, es2 = es.set i ((es[i].1.1, []), es[i].2.1, .slice none 0 0) := ⟨_, rfl⟩
    obtain ⟨w6, hw6⟩ : ∃ w6, w6 = w5.setCell ⟨gr, i * 3 + 2, none⟩ (.slice none 0 0) := ⟨_, rfl⟩
    have hl2 : es.length = es2.length := by rw [hes2]; simp
    have HC6 := H5.out.rules.setBody hi2
    rw [<- hes2] at HC6
    have H6 := Lib.hid (H5.out.row hgl hl2.symm HC6)
    have HO6 := Lib.hid (show zg9 ar es2 from by
     obtain ⟨a1, a2, a3, a4, a5, a6⟩ := HOK.out
     refine ⟨a1, a2, a3, by omega, by omega, fun e he => ?_⟩
     rw [hes2] at he
     rcases List.mem_or_eq_of_mem_set he with he | rfl
     ·exact a6 e he
     ·exact ⟨(a6 _ (List.getElem_mem hi2)).1, by simp, by simp [zbB], zaL.nil⟩)
    rw [<- hw6] at H6 ⊢
    rw [hl2] at k1 ⊢
    clear HC6 hw6 hes2 hl2 r2 r3 k0 k1
    have k0 : w6.cell? ⟨D, 0, none⟩ = some (.slice A ar.length c) := H6.out.prg.cell 0
    have k1 : w6.cell? ⟨D, 1, none⟩ = some (.slice (some ⟨gr, 0, none⟩) es2.length cr) := H6.out.prg.cell 1
    have j0 : w6.cell? ⟨w.heap.size, 0, none⟩ = some (.slice none 0 0) := H6.out.res.cell 0
    have j1 : w6.cell? ⟨w.heap.size, 1, none⟩ = some (.slice none 0 0) := H6.out.res.cell 1
    have l0 := H6.out.res.frozen 0
    have l1 := H6.out.res.frozen 1
    go_wp2_with (fail)
    obtain ⟨W, hW⟩ : ∃ W, W = (w6.setCell ⟨w.heap.size, 0, none⟩ (.slice A ar.length c)).setCell ⟨w.heap.size, 1, none⟩ (.slice (some ⟨gr, 0, none⟩) es2.length cr) := ⟨_, rfl⟩
    rw [<- hW]
    obtain ⟨f1, f2, f3, f4, f5, f6, f7⟩ := H6.out.four.done hgl hW
    have d0 := f7.cell 0
    have d1 := f7.cell 1
    refine bodyPost_ret (v := .agg #[.slice A ar.length c, .slice (some ⟨gr, 0, none⟩) es2.length cr]) (by simp [results, Tryz.results93, go_sem, d0, d1]) rfl ?_
    exact ⟨A, some ⟨gr, 0, none⟩, c, cr, B, q + 1 + 1 + 1, ar, es2, rfl, HO6.out, by omega, f1, f2, f3, f4, f5, f6⟩
   ·have hb1 : (kk == 1) = false := by simp [hk1]
    by_cases hk2 : kk = 2
    ·have hb2 : (kk == 2) = true := by simp [hk2]
     clear hk0 hk1 hk2
     obtain ⟨ga, rfl⟩ : ∃ ga, A = some ⟨ga, 0, none⟩ := by
      obtain ⟨g2, cap, e, _⟩ := H5.out.own.1.form (by omega)
      injection e with e1 _ _
      exact ⟨g2, e1⟩
     obtain ⟨m, hm, hm2⟩ : ∃ m : Nat, IntKind.i64.wrap ((ar.length : Int) - 1) = (m : Int) /\ m < ar.length := ⟨ar.length - 1, by unfold IntKind.wrap; simp [IntKind.bits, IntKind.signed]; omega, by omega⟩
     have k0 : w5.cell? ⟨D, 0, none⟩ = some (.slice (some ⟨ga, 0, none⟩) ar.length c) := H5.out.prg.cell 0
     have a0 : w5.cell? ⟨ga, m, none⟩ = some (.int .i64 (ar[m]'hm2)) := by rw [H5.out.own.1.cellAt m (by omega)]; simp [hm2]
     have a1 := H5.out.own.1.frozenAt m
     have hmb : decide ((m : Int) < (ar.length : Int)) = true := by simp; omega
     go_upto_region 12 with (fail)
     obtain ⟨ar2, har2⟩ : ∃ ar2, ar2 = ar.set m (3 : Int) := ⟨_, rfl⟩
     obtain ⟨w6, hw6⟩ : ∃ w6, w6 = w5.setCell ⟨ga, m, none⟩ (.int .i64 3) := ⟨_, rfl⟩
     have H6 := Lib.hid (H5.out.arity hgl hm2 3)
     have HO6 := Lib.hid (show zg9 ar2 es from by
      obtain ⟨a1, a2, a3, a4, a5, a6⟩ := HOK.out
      refine ⟨by rw [har2]; simpa using a1, by rw [har2]; simpa using a2, fun x hx => ?_, a4, a5, a6⟩
      rw [har2] at hx
      rcases List.mem_or_eq_of_mem_set hx with hx | rfl
      ·exact a3 x hx
      ·omega)
     rw [<- hw6, <- har2] at H6
     rw [<- hw6]
     clear hw6 har2 a0 a1 k0 k1
     have k0 : w6.cell? ⟨D, 0, none⟩ = some (.slice (some ⟨ga, 0, none⟩) ar2.length c) := H6.out.prg.cell 0
     have k1 : w6.cell? ⟨D, 1, none⟩ = some (.slice (some ⟨gr, 0, none⟩) es.length cr) := H6.out.prg.cell 1
     have j0 : w6.cell? ⟨w.heap.size, 0, none⟩ = some (.slice none 0 0) := H6.out.res.cell 0
     have j1 : w6.cell? ⟨w.heap.size, 1, none⟩ = some (.slice none 0 0) := H6.out.res.cell 1
     have l0 := H6.out.res.frozen 0
     have l1 := H6.out.res.frozen 1
     go_wp2_with (fail)
     obtain ⟨W, hW⟩ : ∃ W, W = (w6.setCell ⟨w.heap.size, 0, none⟩ (.slice (some ⟨ga, 0, none⟩) ar2.length c)).setCell ⟨w.heap.size, 1, none⟩ (.slice (some ⟨gr, 0, none⟩) es.length cr) := ⟨_, rfl⟩
     rw [<- hW]
     obtain ⟨f1, f2, f3, f4, f5, f6, f7⟩ := H6.out.four.done hgl hW
     have d0 := f7.cell 0
     have d1 := f7.cell 1
     refine bodyPost_ret (v := .agg #[.slice (some ⟨ga, 0, none⟩) ar2.length c, .slice (some ⟨gr, 0, none⟩) es.length cr]) (by simp [results, Tryz.results93, go_sem, d0, d1]) rfl ?_
     exact ⟨some ⟨ga, 0, none⟩, some ⟨gr, 0, none⟩, c, cr, B, q + 1 + 1 + 1, ar2, es, rfl, HO6.out, by omega, f1, f2, f3, f4, f5, f6⟩
    ·have hk3 : kk = 3 := by omega
     have hb2 : (kk == 2) = false := by simp [hk3]
     clear hk0 hk1 hk2 hk3
     have hi2 : i < es.length := by omega
     have hib : decide ((i : Int) < (es.length : Int)) = true := by simp; omega
     have HRd := Lib.hid (H5.out.go hgl (H5.out.rdr.below (Below.refl _ _).drew H5.out.rdr.lt) (zl.of_below (Below.refl _ _).drew))
     obtain ⟨lo, mid, hi, q1, q2⟩ := HRd.out.rules.own
     have HQ := Lib.hid (And.intro q1 q2)
     obtain ⟨A1, c1, hv1⟩ := (q1 i hi2).head.form
     have HV1 := Lib.hid hv1
     have hl1 : es[i].1.1.2.length <= 2 := HES2.out _ (List.getElem_mem hi2)
     obtain ⟨xs, hxs⟩ : ∃ xs, xs = es[i].1.1.2 := ⟨_, rfl⟩
     have HXS := Lib.hid hxs
     rw [<- hxs] at hv1 hl1
     obtain ⟨c0, c1', c2⟩ := zcu es i hi2
     have r2 := World.ownsRow.cells HRd.out.rules.row (g := gr) rfl _ _ c1'
     rw [Go.WideShapes.add_plain, Nat.zero_add, hv1] at r2
     have r3 := HRd.out.rules.row.frozenAt (i * 3 + 1)
     obtain ⟨bl, hbl⟩ : ∃ bl, bl = lo i := ⟨_, rfl⟩
     have HBL := Lib.hid hbl
     have HOW := Lib.hid (show w5.drew.ownsRow bl 3 1 (.slice A1 xs.length c1) xs.length (xs.map (Value.int .i64)) by rw [hbl, <- hv1, hxs]; exact (q1 i hi2).head.1)
     have hblB : B <= bl := by rw [hbl]; exact (q1 i hi2).low
     have hblw : bl <= w5.heap.size := by rw [hbl]; have := (q1 i hi2).lm; have := (q1 i hi2).mh; have h9 := (q1 i hi2).high; rw [World.size_drew] at h9; omega
     clear q1 q2 hv1 hxs c0 c1' c2 hbl
     obtain ⟨SS, hSS⟩ : ∃ SS : World -> Prop, SS = (fun W => W.cell? ⟨D, 1, none⟩ = some (.slice (some ⟨gr, 0, none⟩) es.length cr) /\ W.cell? ⟨gr, i * 3 + 1, none⟩ = some (.slice A1 xs.length c1)) := ⟨_, rfl⟩
     have HB := Lib.hid (show ∀ W, SS W -> W.cell? ⟨D, 1, none⟩ = some (.slice (some ⟨gr, 0, none⟩) es.length cr) /\ W.cell? ⟨gr, i * 3 + 1, none⟩ = some (.slice A1 xs.length c1) from by rw [hSS]; exact fun W hW => hW)
     have HC := Lib.hid (show ∀ W, W.cell? ⟨D, 1, none⟩ = some (.slice (some ⟨gr, 0, none⟩) es.length cr) -> W.cell? ⟨gr, i * 3 + 1, none⟩ = some (.slice A1 xs.length c1) -> SS W from by rw [hSS]; exact fun W h1 h2 => ⟨h1, h2⟩)
     clear hSS
     go_upto_region 11 with (fail)
     have SB := HC.out w5.drew (HRd.out.prg.cell 1) r2
     have HX0 := Lib.hid (HRd.out.go hgl (HRd.out.rdr.below (ze w5.drew (.cells #[.int .i64 0] 3)) HRd.out.rdr.lt) (zl.of_below (ze w5.drew (.cells #[.int .i64 0] 3))))
     have r4 : (w5.drew.alloc (.cells #[.int .i64 0] 3)).cell? ⟨gr, i * 3 + 1, none⟩ = some (.slice A1 xs.length c1) := ((ze w5.drew _).cell (World.block_lt_of_cell? _ _ r2)).trans r2
     refine zB SS 15 16 (by kernel_rfl) rfl ?_
     refine za (i := 0) (oi := _) ?y0 rfl rfl (by kernel_rfl) (by decide) (fun _ _ _ h => h) rfl ?gy0 (fun _ => SB) ?rust0
     case gy0 => (intro W; go_simp; (try with_reducible rfl))
     try simp only [zs.a, zs.b, zs.c]
     refine za (i := 2) (oi := _) ?y2 rfl rfl (by kernel_rfl) (by decide) (fun _ _ _ h => h) rfl ?gy2 (fun _ => SB) ?rust2
     case gy2 => (intro W; go_simp; (try with_reducible rfl))
     try simp only [zs.a, zs.b, zs.c]
     refine za (i := 3) (oi := _) ?y3 rfl rfl (by kernel_rfl) (by decide) (fun _ _ _ h => h) rfl ?gy3 (fun _ => SB) ?rust3
     case gy3 => (intro W; go_simp; (try with_reducible rfl))
     try simp only [zs.a, zs.b, zs.c]
     refine za (i := 5) (oi := _) ?y5 rfl rfl (by kernel_rfl) (by decide) (fun _ _ _ h => h) rfl ?gy5 (fun _ => SB) ?rust5
     case gy5 => (intro W; go_simp; (try with_reducible rfl))
     try simp only [zs.a, zs.b, zs.c]
     refine zm (i := 1) (oi := _) ?y1 rfl rfl (by kernel_rfl) (fun _ _ _ h => h) rfl ?gy1 SB ?rust1
     case gy1 => (intro W hW; obtain ⟨E0, E1⟩ := HB.out W hW; go_simp; (try with_reducible rfl))
     try simp only [zs.a, zs.b, zs.c]
     refine zm (i := 4) (oi := _) ?y4 rfl rfl (by kernel_rfl) (fun _ _ _ h => h) rfl ?gy4 SB ?rust4
     case gy4 => (intro W hW; obtain ⟨E0, E1⟩ := HB.out W hW; go_simp; (try with_reducible rfl))
     try simp only [zs.a, zs.b, zs.c]
     refine za (i := 6) (oi := _) ?y6 rfl rfl (by kernel_rfl) (by decide) (fun _ _ _ h => h) rfl ?gy6 (fun _ => SB) ?rust6
     case gy6 => (intro W; go_simp; (try with_reducible rfl))
     try simp only [zs.a, zs.b, zs.c]
     refine za (i := 7) (oi := _) ?y7 rfl rfl (by kernel_rfl) (by decide) (fun _ _ _ h => h) rfl ?gy7 (fun _ => SB) ?rust7
     case gy7 => (intro W; go_simp; (try with_reducible rfl))
     try simp only [zs.a, zs.b, zs.c]
     refine za (i := 8) (oi := _) ?y8 rfl rfl (by kernel_rfl) (by decide) (fun _ _ _ h => h) rfl ?gy8 (fun _ => SB) ?rust8
     case gy8 => (intro W; go_simp; (try with_reducible rfl))
     try simp only [zs.a, zs.b, zs.c]
     refine zm (i := 9) (oi := _) ?y9 rfl rfl (by kernel_rfl) (fun _ _ _ h => h) rfl ?gy9 SB ?rust9
     case gy9 => (intro W hW; obtain ⟨E0, E1⟩ := HB.out W hW; go_simp; (try with_reducible rfl))
     try simp only [zs.a, zs.b, zs.c]
     refine zh (i := 10) (by kernel_rfl) rfl (fun K hK => ?_)
     try rw [if_pos (show Region.wanted _ _ = true from rfl)]
     go_simp
     refine hK.out _ _ (fun _ => HC.out _ (HX0.out.prg.cell 1) r4) ?_
     clear hK K
     try simp only [zs.a, zs.b, zs.c, Act.put]
     refine zh (i := 11) (by kernel_rfl) rfl (fun K hK => ?_)
     refine step_append_lies _ rfl (.tmp 60) (.tmp 61) 23 rfl bl 3 i0 (.int .i64 0) 1 8 Tryz.underlying23 hi0 hz0 hz1 hz2 rfl (by decide) (.slice A1 xs.length c1) xs.length (xs.map (Value.int .i64)) rfl ?c1 ⟨w5.heap.size, 0, none⟩ 1 1 [.int .i64 0] rfl rfl ?c4 ?c2 (by omega) (by unfold maxLen; omega) (by omega) ?c3 _ rfl ?c5
     case c1 => exact HOW.out.alloc _
     case c4 => exact cell_one_new _ _ _
     case c2 => intro u hu; simp at hu; subst hu; rfl
     case c3 => simp; omega
     case c5 =>
      intro g2 cap w7 hown hgr hat _
      obtain ⟨ys, hys⟩ : ∃ ys, ys = xs ++ [(0 : Int)] := ⟨_, rfl⟩
      have hyl : xs.length + 1 = ys.length := by rw [hys]; simp
      have hgr1' : (w5.drew.alloc (.cells #[.int .i64 0] 3)).grownBy w7 es[i].2.1.ownBlock := by rw [HV1.out, <- HXS.out]; exact hgr
      have hkf := HRd.out.kept HQ.out.1 hi2 hgr1'
      have e0 : w7.cell? ⟨D, 1, none⟩ = some (.slice (some ⟨gr, 0, none⟩) es.length cr) := Blk.cell (hkf.2.trans HRd.out.prg) 1
      have r5 : w7.cell? ⟨gr, i * 3 + 1, none⟩ = some (.slice A1 xs.length c1) := by rw [<- r2]; simp [World.cell?, hkf.1]
      have r6 : w7.frozen? ⟨gr, i * 3 + 1, none⟩ = false := by rw [<- r3]; simp [World.frozen?, hkf.1]
      have HST := Lib.hid (fun w6 (hw6 : w6 = w7.setCell ⟨gr, i * 3 + 1, none⟩ (.slice (some ⟨g2, 0, none⟩) ys.length cap)) => HRd.out.longer (x := 0) hgl HQ.out.1 HQ.out.2 hi2 (by rw [hys, HXS.out]) hgr1' (by rw [HV1.out, <- HXS.out]; exact hat) (by rw [<- HBL.out, <- hyl, hys, List.map_append]; exact hown) hw6)
      have HO6 := Lib.hid (show zg9 ar (es.set i (((es[i].1.1.1, ys), es[i].1.2), .slice (some ⟨g2, 0, none⟩) ys.length cap, es[i].2.2)) from by
       obtain ⟨a1, a2, a3, a4, a5, a6⟩ := HOK.out
       refine ⟨a1, a2, a3, by simpa using a4, by simpa using a5, fun e he => ?_⟩
       rcases List.mem_or_eq_of_mem_set he with he | rfl
       ·exact a6 e he
       ·exact ⟨by show ys.length <= 3; omega, (a6 es[i] (List.getElem_mem hi2)).2⟩)
      have hyl2 := Lib.hid hyl
      clear hkf hown hgr hgr1' hat hys
      refine hK.out _ _ (fun _ => HC.out _ e0 r5) ?_
      clear hK K
      try simp only [zs.a, zs.b, zs.c, Act.put]
      refine za (i := 12) (oi := _) ?y12 rfl rfl (by kernel_rfl) (by decide) (fun _ _ _ h => h) rfl ?gy12 (fun _ => HC.out _ e0 r5) ?rust12
      case gy12 => (intro W; go_simp; (try with_reducible rfl))
      try simp only [zs.a, zs.b, zs.c]
      refine za (i := 13) (oi := _) ?y13 rfl rfl (by kernel_rfl) (by decide) (fun _ _ _ h => h) rfl ?gy13 (fun _ => HC.out _ e0 r5) ?rust13
      case gy13 => (intro W; go_simp; (try with_reducible rfl))
      try simp only [zs.a, zs.b, zs.c]
      refine za (i := 14) (oi := _) ?y14 rfl rfl (by kernel_rfl) (by decide) (fun _ _ _ h => h) rfl ?gy14 (fun _ => HC.out _ e0 r5) ?rust14
      case gy14 => (intro W; go_simp; (try with_reducible rfl))
      try simp only [zs.a, zs.b, zs.c]
      refine zh (i := 15) (by kernel_rfl) rfl (fun K hK => ?_)
      go_simp
      refine hK.out _ _ (fun hf => absurd hf (by decide)) ?_
      clear hK K
      refine zL (by kernel_rfl) ?_
      obtain ⟨w6, hw6⟩ : ∃ w6, w6 = w7.setCell ⟨gr, i * 3 + 1, none⟩ (.slice (some ⟨g2, 0, none⟩) ys.length cap) := ⟨_, rfl⟩
      have H6 := Lib.hid (HST.out w6 hw6)
      rw [<- hw6]
      obtain ⟨es2, hes2⟩ : ∃ es2, es2 = es.set i (((es[i].1.1.1, ys), es[i].1.2), .slice (some ⟨g2, 0, none⟩) ys.length cap, es[i].2.2) := ⟨_, rfl⟩
      have hl2 : es.length = es2.length := by rw [hes2]; simp
      rw [<- hes2] at H6 HO6
      clear hw6 hes2 e0 r5 r6 r2 r3 r4 hyl HST k0 k1
      have k0 : w6.cell? ⟨D, 0, none⟩ = some (.slice A ar.length c) := H6.out.prg.cell 0
      have k1 : w6.cell? ⟨D, 1, none⟩ = some (.slice (some ⟨gr, 0, none⟩) es2.length cr) := H6.out.prg.cell 1
      have j0 : w6.cell? ⟨w.heap.size, 0, none⟩ = some (.slice none 0 0) := H6.out.res.cell 0
      have j1 : w6.cell? ⟨w.heap.size, 1, none⟩ = some (.slice none 0 0) := H6.out.res.cell 1
      have l0 := H6.out.res.frozen 0
      have l1 := H6.out.res.frozen 1
      clear hl2
      go_wp2_with (fail)
      obtain ⟨W, hW⟩ : ∃ W, W = (w6.setCell ⟨w.heap.size, 0, none⟩ (.slice A ar.length c)).setCell ⟨w.heap.size, 1, none⟩ (.slice (some ⟨gr, 0, none⟩) es2.length cr) := ⟨_, rfl⟩
      rw [<- hW]
      obtain ⟨f1, f2, f3, f4, f5, f6, f7⟩ := H6.out.done hgl hW
      have d0 := f7.cell 0
      have d1 := f7.cell 1
      refine bodyPost_ret (v := .agg #[.slice A ar.length c, .slice (some ⟨gr, 0, none⟩) es2.length cr]) (by simp [results, Tryz.results93, go_sem, d0, d1]) rfl ?_
      exact ⟨A, some ⟨gr, 0, none⟩, c, cr, B, q + 1 + 1 + 1, ar, es2, rfl, HO6.out, by omega, f1, f2, f3, f4, f5, f6⟩
 ·have hzb : (z == 0) = false := by simp [hz]
  clear hz
  have k0 : w3.cell? ⟨D, 0, none⟩ = some (.slice A ar.length c) := H3.out.prg.cell 0
  have k1 : w3.cell? ⟨D, 1, none⟩ = some (.slice Ar es.length cr) := H3.out.prg.cell 1
  have j0 : w3.cell? ⟨w.heap.size, 0, none⟩ = some (.slice none 0 0) := H3.out.res.cell 0
  have j1 : w3.cell? ⟨w.heap.size, 1, none⟩ = some (.slice none 0 0) := H3.out.res.cell 1
  have l0 := H3.out.res.frozen 0
  have l1 := H3.out.res.frozen 1
  go_wp2_with (fail)
  obtain ⟨W, hW⟩ : ∃ W, W = (w3.setCell ⟨w.heap.size, 0, none⟩ (.slice A ar.length c)).setCell ⟨w.heap.size, 1, none⟩ (.slice Ar es.length cr) := ⟨_, rfl⟩
  rw [<- hW]
  obtain ⟨f1, f2, f3, f4, f5, f6, f7⟩ := H3.out.four.done hgl hW
  have d0 := f7.cell 0
  have d1 := f7.cell 1
  refine bodyPost_ret (v := .agg #[.slice A ar.length c, .slice Ar es.length cr]) (by simp [results, Tryz.results93, go_sem, d0, d1]) rfl ?_
  exact ⟨A, Ar, c, cr, B, q + 1, ar, es, rfl, HOK.out, by omega, f1, f2, f3, f4, f5, f6⟩
open Go.RowKit
theorem Tryz.infoIntS : (Tryz.prog.info? 23).map (fun i => (i.zero, i.size, i.bytes)) = some (some (.slice none 0 0), 1, 24) := by kernel_rfl
def zdm (w : World) (B : Nat) (v : Value) (xss : List (List Int)) : Prop :=
 ∃ A c, v = .slice A xss.length c /\ xss.length <= c /\ (0 < xss.length -> ∃ b o, A = some ⟨b, o, none⟩ /\ b < B /\ ∀ k (h : k < xss.length), ∃ u, w.cell? ⟨b, o + k, none⟩ = some u /\ zv w B u xss[k])
def zax (w : World) (lo hi : Nat) (v : Value) (xss : List (List Int)) : Prop :=
 ∃ av : List Value, (av.length = xss.length /\ ∀ i (h : i < xss.length) (h' : i < av.length), zg w lo hi av[i] xss[i]) /\ w.ownsRow lo 23 1 v xss.length av /\ ∀ g, v.ownBlock = some g -> g < hi
section
variable {w w' : World} {lo hi lo' hi' B B' : Nat} {v : Value} {xss : List (List Int)}
theorem zdm.below (h : zdm w B v xss) (hb : Below B' w w') (hB : B <= B') : zdm w' B v xss := by
 obtain ⟨A, c, rfl, hc, h⟩ := h
 refine ⟨A, c, rfl, hc, fun hn => ?_⟩
 obtain ⟨b, o, rfl, hlt, hk⟩ := h hn
 refine ⟨b, o, rfl, hlt, fun k hkl => ?_⟩
 obtain ⟨u, h1, h2⟩ := hk k hkl
 exact ⟨u, (hb.cell (p := ⟨b, o + k, none⟩) (by show b < B'; omega)).trans h1, h2.below hb hB⟩
theorem zdm.more (h : zdm w B v xss) (hB : B <= B') : zdm w B' v xss := by
 obtain ⟨A, c, rfl, hc, h⟩ := h
 refine ⟨A, c, rfl, hc, fun hn => ?_⟩
 obtain ⟨b, o, rfl, hlt, hk⟩ := h hn
 refine ⟨b, o, rfl, by omega, fun k hkl => ?_⟩
 obtain ⟨u, h1, h2⟩ := hk k hkl
 exact ⟨u, h1, h2.more hB⟩
theorem zdm.on (h : zdm w w.heap.size v xss) (hb : Below w.heap.size w w') : zdm w' w'.heap.size v xss := (h.below hb (Nat.le_refl _)).more hb.size
theorem zdm.get {A : Option Addr} {c : Nat} (h : zdm w B (.slice A xss.length c) xss) {k : Nat} (hk : k < xss.length) :
 ∃ b o A2 c2, A = some ⟨b, o, none⟩ /\ b < B /\ w.cell? ⟨b, o + k, none⟩ = some (.slice A2 xss[k].length c2) /\ zv w B (.slice A2 xss[k].length c2) xss[k] := by
 obtain ⟨A', c', e, _, h⟩ := h
 injection e with e1 _ _
 subst e1
 obtain ⟨b, o, rfl, hb, hx⟩ := h (by omega)
 obtain ⟨u, h1, h2⟩ := hx k hk
 have h3 := h2
 obtain ⟨A2, c2, rfl, _⟩ := h2
 exact ⟨b, o, A2, c2, rfl, hb, h1, h3⟩
theorem zax.form (h : zax w lo hi v xss) : ∃ A c, v = .slice A xss.length c := by
 obtain ⟨_, _, h, _⟩ := h
 rcases h.2 with ⟨rfl, h0⟩ | ⟨g, cap, _, rfl, _⟩
 ·exact ⟨none, 0, by rw [h0]⟩
 ·exact ⟨_, _, rfl⟩
theorem zax.below (h : zax w lo hi v xss) (hb : Below B w w') (hB : hi <= B) : zax w' lo hi v xss := by
 obtain ⟨av, ⟨h0, h1⟩, h2, h3⟩ := h
 exact ⟨av, ⟨h0, fun i a b => (h1 i a b).below hb hB⟩, zaB h2 h3 hb hB, h3⟩
theorem zax.mono (h : zax w lo hi v xss) (h1 : lo' <= lo) (h2 : hi <= hi') : zax w lo' hi' v xss := by
 obtain ⟨av, ⟨h0, ha⟩, hr, hlt⟩ := h
 exact ⟨av, ⟨h0, fun i a b => (ha i a b).mono h1 h2⟩, zcI hr h1, fun g hg => by have := hlt g hg; omega⟩
theorem zax.only (h : zax w lo hi v xss) (ho : zl lo' hi' w w') (hd : hi <= lo' \/ hi' <= lo) : zax w' lo hi v xss := by
 obtain ⟨av, ⟨h0, ha⟩, hr, hlt⟩ := h
 exact ⟨av, ⟨h0, fun i a b => (ha i a b).only ho hd⟩, zw hr fun g hg => ho.block g (hr.lt g hg).2 (by have := hr.lt g hg; have := hlt g hg; omega), hlt⟩
theorem zax.rd (h : zax w lo hi v xss) : zdm w hi v xss := by
 obtain ⟨av, ⟨h0, ha⟩, hr, hlt⟩ := h
 have hcells := @World.ownsRow.cells w lo 23 1 v xss.length av hr
 obtain ⟨hlen, hr⟩ := hr
 rcases hr with ⟨rfl, e0⟩ | ⟨g, cap, cur, rfl, hb, hg, hn, hm, hs, ht⟩
 ·have : xss = [] := List.eq_nil_of_length_eq_zero e0
  subst this
  exact ⟨none, 0, rfl, by simp, fun h => absurd h (by simp)⟩
 ·refine ⟨_, cap, rfl, hn, fun _ => ⟨g, 0, rfl, hlt g rfl, fun k hk => ⟨av[k]'(by omega), ?_, (ha k hk (by omega)).rd⟩⟩⟩
  have := hcells (g := g) rfl k (av[k]'(by omega)) (by simp [show k < av.length by omega])
  rwa [Go.WideShapes.add_plain] at this
end
theorem znZ {w : World} {lo hi lo' g : Nat} {n : Nat} {v a : Value} {zs : List Value} {xs : List Int} (hr : w.ownsRow lo' 23 1 v n zs) (hv : v.ownBlock = some g) (ha : zg w lo hi a xs) : a.ownBlock ≠ some g := by
 rcases hr.2 with ⟨rfl, _⟩ | ⟨g1, c1, cur1, rfl, _, h1, _⟩
 ·cases hv
 ·have e : g1 = g := by simpa [Value.ownBlock] using hv
  subst e
  exact zcv ha.1 (show Blk w g1 23 cur1 from h1) (by decide)
theorem zax.get {w : World} {lo hi c : Nat} {A : Option Addr} {xss : List (List Int)} (h : zax w lo hi (.slice A xss.length c) xss) {k : Nat} (hk : k < xss.length) :
 ∃ g A2 c2, A = some ⟨g, 0, none⟩ /\ g < w.heap.size /\ w.cell? ⟨g, k, none⟩ = some (.slice A2 xss[k].length c2) /\ zg w lo hi (.slice A2 xss[k].length c2) xss[k] := by
 obtain ⟨av, ⟨h0, ha⟩, hr, hlt⟩ := h
 have hcells := @World.ownsRow.cells w lo 23 1 _ xss.length av hr
 obtain ⟨hlen, hr2⟩ := hr
 rcases hr2 with ⟨e, e0⟩ | ⟨g, cap, cur, e, hb, hg, _⟩
 ·omega
 ·injection e with e1 _ _
  subst e1
  have h1 := ha k hk (by omega)
  obtain ⟨A2, c2, e2⟩ := h1.form
  have := hcells (g := g) rfl k (av[k]'(by omega)) (by simp [show k < av.length by omega])
  rw [Go.WideShapes.add_plain, Nat.zero_add, e2] at this
  exact ⟨g, A2, c2, rfl, Blk.lt hg, this, e2 ▸ h1⟩
structure zfS (lo : Nat) (w wr : World) (xss : List (List Int)) (A : Option Addr) (c : Nat) (av : List Value) : Prop where
 below : Below w.heap.size w wr
 len : av.length = xss.length
 inn : ∀ i (h : i < xss.length) (h' : i < av.length), zg wr lo wr.heap.size av[i] xss[i]
 row : wr.ownsRow w.heap.size 23 1 (.slice A xss.length c) xss.length av
theorem zfS.empty {lo : Nat} {w wr : World} (hb : Below w.heap.size w wr) : zfS lo w (wr.alloc (.cells #[] 23)) [] (some ⟨wr.heap.size, 0, none⟩) 0 [] :=
 ⟨hb.alloc hb.size _, rfl, fun i h => absurd h (by simp), World.ownsRow_made wr #[] 0 hb.size (by decide) rfl⟩
theorem zfS.on {lo : Nat} {w wr w2 : World} {xss : List (List Int)} {A : Option Addr} {c : Nat} {av : List Value} (h : zfS lo w wr xss A c av) (hb : Below wr.heap.size wr w2) : zfS lo w w2 xss A c av :=
 ⟨zf h.below hb, h.len, fun i a b => ((h.inn i a b).below hb (Nat.le_refl _)).mono (Nat.le_refl _) hb.size, zaB h.row (fun g hg => (h.row.lt g hg).2) hb (Nat.le_refl _)⟩
theorem zfS.rows {lo : Nat} {w wr : World} {xss : List (List Int)} {A : Option Addr} {c : Nat} {av : List Value} (h : zfS lo w wr xss A c av) (hl : lo <= w.heap.size) : zax wr lo wr.heap.size (.slice A xss.length c) xss :=
 ⟨av, ⟨h.len, h.inn⟩, zcI h.row hl, fun g hg => (h.row.lt g hg).2⟩
theorem zfS.push {lo : Nat} {w wr w2 w4 : World} {xss xss' : List (List Int)} {A : Option Addr} {c g cap : Nat} {xs : List Int} {u : Value} {o : Obj} {av : List Value} (h : zfS lo w wr xss A c av) (e : xss' = xss ++ [xs]) (hb : Below wr.heap.size wr w2) (hu : zg w2 lo w2.heap.size u xs)
 (hg : (w2.alloc o).grownBy w4 (Value.slice A xss.length c).ownBlock) (hown : w4.ownsRow w.heap.size 23 1 (.slice (some ⟨g, 0, none⟩) (xss.length + 1) cap) (xss.length + 1) (av ++ [u])) :
 zfS lo w w4 xss' (some ⟨g, 0, none⟩) cap (av ++ [u]) /\ xss.length + 1 = xss'.length := by
 subst e
 have h2 := h.on hb
 have hg' := zy hg
 have hl : (xss ++ [xs]).length = xss.length + 1 := by simp
 refine ⟨⟨(h2.below.alloc h2.below.size _).grown hg (by have := h2.below.size; simp; omega) (fun k hk => (h2.row.lt k hk).1), by simp [h.len], fun i h1 h3 => ?_, by rw [hl]; exact hown⟩, hl.symm⟩
 have keep : ∀ {a : Value} {ys : List Int}, zg w2 lo w2.heap.size a ys -> zg w4 lo w4.heap.size a ys := fun {a ys} h0 =>
  (h0.kept fun b hbk => hg'.block b (h0.lt hbk).2.2 (fun e => znZ h2.row e.symm h0 hbk)).mono (Nat.le_refl _) hg'.size
 by_cases e : i < xss.length
 ·rw [List.getElem_append_left (by rw [h.len]; exact e), List.getElem_append_left e]
  exact keep (h2.inn i e (by rw [h.len]; exact e))
 ·have e2 : i = xss.length := by simp at h1; omega
  subst e2
  have := h.len
  simp [<- this]
  exact keep hu
open Go.RowKit
def zgJ (x : Int) : Bool := decide (-1 <= x /\ x <= 5)
def zp (bs : List Int) : Bool := decide (bs.length = 4) && bs.all zgJ
theorem zV {bs : List Int} (h : zp bs = true) : bs.length = 4 := by
 simp only [zp, Bool.and_eq_true, decide_eq_true_eq] at h
 exact h.1
theorem zdW {bs : List Int} (h : zp bs = true) : bs.all zgJ = true := by
 simp only [zp, Bool.and_eq_true] at h
 exact h.2
theorem zoQ {bs : List Int} (h : bs.all zgJ = true) {k : Nat} (hk : k < bs.length) : -1 <= bs[k] /\ bs[k] <= 5 := by
 have := List.all_eq_true.1 h bs[k] (List.getElem_mem hk)
 simpa [zgJ] using this
theorem zbD {bs : List Int} (h : zp bs = true) {k : Nat} (hk : k < bs.length) : -1 <= bs[k] /\ bs[k] <= 5 := zoQ (zdW h) hk
theorem zgj {bs : List Int} (hl : bs.length = 4) (h : bs.all zgJ = true) : zp bs = true := by simp [zp, hl, h]
def zn (bs : List Int) (t : Int) : Int := if 0 <= t then t else bs.getD (-1 - t).toNat (-1)
theorem za2 {bs : List Int} {t : Int} (h : 0 <= t) : zn bs t = t := if_pos h
theorem zcz {bs : List Int} {t : Int} (h : t < 0) : zn bs t = bs.getD (-1 - t).toNat (-1) := if_neg (by omega)
theorem zdA {t : Int} (ht : zz t = true) : -4 <= t /\ t <= 5 := by simpa [zz] using ht
theorem zdK {bs : List Int} (hb : zp bs = true) {t : Int} (ht : zz t = true) : -1 <= zn bs t /\ zn bs t <= 5 := by
 have ht' := zdA ht
 unfold zn
 split
 ·omega
 ·have hl := zV hb
  have hk : (-1 - t).toNat < bs.length := by omega
  rw [List.getD_eq_getElem?_getD, List.getElem?_eq_getElem hk]
  exact zbD hb hk
def encB (bs : List Int) : Nat := (((bs.getD 0 (-1) + 1).toNat * 16 + (bs.getD 1 (-1) + 1).toNat) * 16 + (bs.getD 2 (-1) + 1).toNat) * 16 + (bs.getD 3 (-1) + 1).toNat
def za8 : List Int := [-1, -1, -1, -1]
theorem zcl : zp za8 = true := by decide
theorem zho : encB za8 = 0 := by decide
theorem ziG {bs : List Int} (h : bs.length = 4) : ∃ a b c d, bs = [a, b, c, d] := by
 match bs, h with
 | [a, b, c, d], _ => exact ⟨a, b, c, d, rfl⟩
theorem znC {x : Int} (h : -1 <= x /\ x <= 5) : ∃ a : Fin 7, (x + 1).toNat = a.val /\ x = (a.val : Int) - 1 := ⟨⟨(x + 1).toNat, by omega⟩, rfl, by show x = (((x + 1).toNat : Nat) : Int) - 1; omega⟩
theorem or0 : ∀ a b c e : Fin 7, ((0 * 16 + a.val) * 16 + b.val) * 16 + c.val ||| e.val * 4096 = ((e.val * 16 + a.val) * 16 + b.val) * 16 + c.val := by decide +kernel
theorem or1 : ∀ a b c e : Fin 7, ((a.val * 16 + 0) * 16 + b.val) * 16 + c.val ||| e.val * 256 = ((a.val * 16 + e.val) * 16 + b.val) * 16 + c.val := by decide +kernel
theorem or2 : ∀ a b c e : Fin 7, ((a.val * 16 + b.val) * 16 + 0) * 16 + c.val ||| e.val * 16 = ((a.val * 16 + b.val) * 16 + e.val) * 16 + c.val := by decide +kernel
theorem or3 : ∀ a b c e : Fin 7, ((a.val * 16 + b.val) * 16 + c.val) * 16 + 0 ||| e.val = ((a.val * 16 + b.val) * 16 + c.val) * 16 + e.val := by decide +kernel
def shlB (v : Nat) (c : Int) : Nat := (c + 1).toNat * 2 ^ ((3 - v) * 4)
theorem zoo {bs : List Int} (h : zp bs = true) {v : Nat} (hv : v < 4) (hn : bs.getD v (-1) = -1) {c : Int} (hc : -1 <= c /\ c <= 5) : encB bs ||| shlB v c = encB (bs.set v c) := by
 obtain ⟨b0, b1, b2, b3, rfl⟩ := ziG (zV h)
 have ha := zdW h
 simp only [List.all_cons, List.all_nil, Bool.and_true, Bool.and_eq_true, zgJ, decide_eq_true_eq] at ha
 obtain ⟨h0, h1, h2, h3⟩ := ha
 obtain ⟨e, he, he'⟩ := znC hc
 obtain ⟨x0, e0, _⟩ := znC h0
 obtain ⟨x1, e1, _⟩ := znC h1
 obtain ⟨x2, e2, _⟩ := znC h2
 obtain ⟨x3, e3, _⟩ := znC h3
 match v, hv with
 | 0, _ =>
  simp only [List.getD_cons_zero] at hn
  subst hn
  simp only [encB, shlB, List.getD_cons_zero, List.getD_cons_succ, List.set_cons_zero, he, e1, e2, e3]
  exact or0 x1 x2 x3 e
 | 1, _ =>
  simp only [List.getD_cons_zero, List.getD_cons_succ] at hn
  subst hn
  simp only [encB, shlB, List.getD_cons_zero, List.getD_cons_succ, List.set_cons_zero, List.set_cons_succ, he, e0, e2, e3]
  exact or1 x0 x2 x3 e
 | 2, _ =>
  simp only [List.getD_cons_zero, List.getD_cons_succ] at hn
  subst hn
  simp only [encB, shlB, List.getD_cons_zero, List.getD_cons_succ, List.set_cons_zero, List.set_cons_succ, he, e0, e1, e3]
  exact or2 x0 x1 x3 e
 | 3, _ =>
  simp only [List.getD_cons_zero, List.getD_cons_succ] at hn
  subst hn
  simp only [encB, shlB, List.getD_cons_zero, List.getD_cons_succ, List.set_cons_zero, List.set_cons_succ, he, e0, e1, e2]
  simpa using or3 x0 x1 x2 e
theorem zcP {bs : List Int} (h : zp bs = true) : encB bs < 65536 := by
 obtain ⟨b0, b1, b2, b3, rfl⟩ := ziG (zV h)
 have ha := zdW h
 simp only [List.all_cons, List.all_nil, Bool.and_true, Bool.and_eq_true, zgJ, decide_eq_true_eq] at ha
 simp only [encB, List.getD_cons_zero, List.getD_cons_succ]
 omega
theorem zoE {v : Nat} (hv : v < 4) {c : Int} (hc : -1 <= c /\ c <= 5) : shlB v c < 65536 := by
 unfold shlB
 match v, hv with
 | 0, _ => show (c + 1).toNat * 4096 < 65536; omega
 | 1, _ => show (c + 1).toNat * 256 < 65536; omega
 | 2, _ => show (c + 1).toNat * 16 < 65536; omega
 | 3, _ => show (c + 1).toNat * 1 < 65536; omega
def fieldB (m v : Nat) : Nat := m / 2 ^ ((3 - v) * 4) % 16
theorem zgc {bs : List Int} (h : zp bs = true) {v : Nat} (hv : v < 4) : ((fieldB (encB bs) v : Nat) : Int) - 1 = bs.getD v (-1) := by
 obtain ⟨b0, b1, b2, b3, rfl⟩ := ziG (zV h)
 have ha := zdW h
 simp only [List.all_cons, List.all_nil, Bool.and_true, Bool.and_eq_true, zgJ, decide_eq_true_eq] at ha
 match v, hv with
 | 0, _ => simp only [fieldB, encB, List.getD_cons_zero, List.getD_cons_succ]; omega
 | 1, _ => simp only [fieldB, encB, List.getD_cons_zero, List.getD_cons_succ]; omega
 | 2, _ => simp only [fieldB, encB, List.getD_cons_zero, List.getD_cons_succ]; omega
 | 3, _ => simp only [fieldB, encB, List.getD_cons_zero, List.getD_cons_succ]; omega
theorem zfB {bs cs : List Int} (h : zp bs = true) (h2 : zp cs = true) (e : encB bs = encB cs) : bs = cs := by
 apply List.ext_getElem (by rw [zV h, zV h2])
 intro v h1 h3
 have hv : v < 4 := by rw [zV h] at h1; exact h1
 have a := zgc h hv
 have b := zgc h2 hv
 rw [e] at a
 have c := a.symm.trans b
 simpa [h1, h3] using c
theorem zcx {bs : List Int} (h : zp bs = true) {c : Int} (hc : -1 <= c /\ c <= 5) (v : Nat) : zp (bs.set v c) = true := by
 refine zgj (by rw [List.length_set]; exact zV h) (List.all_eq_true.2 fun x hx => ?_)
 rcases List.mem_or_eq_of_mem_set hx with hx | rfl
 ·exact List.all_eq_true.1 (zdW h) x hx
 ·simpa [zgJ] using hc
open Go.RowKit
def zt (x : Int) : Bool := decide (0 <= x /\ x <= 5)
def zE (ar : List Int) (f : zd) : Bool := decide (0 <= f.1 /\ f.1 < ar.length /\ (f.2.length : Int) = ar.getD f.1.toNat 0) && f.2.all zt
def zb4 (ar : List Int) (f : zd) : Bool := zr ar && zE ar f
def zcV (xs : List Int) (k : Nat) : Prop := ∀ j, j < k -> zt (xs.getD j 0) = true
theorem zcV.step {xs : List Int} {k : Nat} (h : zcV xs k) (e : zt (xs.getD k 0) = true) : zcV xs (k + 1) := fun j hj => by
 by_cases h2 : j = k
 ·subst h2; exact e
 ·exact h j (by omega)
theorem zcV.all {xs : List Int} (h : zcV xs xs.length) : xs.all zt = true := by
 rw [List.all_eq_true]
 intro x hx
 obtain ⟨j, hj, rfl⟩ := List.getElem_of_mem hx
 have := h j hj
 simpa [hj] using this
theorem zgd {xs : List Int} {k : Nat} (hk : k < xs.length) (e : zt xs[k] = false) : xs.all zt = false := by
 rw [List.all_eq_false]
 exact ⟨xs[k], List.getElem_mem hk, by simp [e]⟩
set_option maxHeartbeats 400000 in
theorem zhv (v : Value) (xs : List Int) (B : Nat) (w : World) (h : zv w B v xs) (hn : xs.length <= 1048576) :
 Calls Tryz.prog 73 #[v] w fun e w' => e = .returned (.bool (xs.all zt)) /\ w = w' := by
 obtain ⟨A, c, rfl, hc, h2⟩ := h
 go_enter Tryz.func73, Tryz.ntmps73
 go_wp2_with (fail)
 go_loop [4, 7] (fun _ i => ∃ k : Nat, k <= xs.length /\ i = .int .i64 k /\ zcV xs k) (fun _ i => xs.length - (intOf i).toNat)
 case atStart => exact ⟨0, Nat.zero_le _, rfl, fun j hj => absurd hj (by omega)⟩
 case round =>
  obtain ⟨k, hk, rfl, hs⟩ := hrel
  by_cases hlk : k < xs.length
  ·obtain ⟨b2, o2, rfl, hbB2, hx2⟩ := h2 (by omega)
   have hck2 : w.cell? ⟨b2, o2 + k, none⟩ = some (.int .i64 xs[k]) := hx2 k hlk
   clear hx2 h2
   by_cases h0 : xs[k] < 0
   ·have HE := Lib.hid (zgd hlk (by simp [zt]; omega))
    clear hs
    go_wp2_with (fail)
    go_ret
    exact ⟨zi HE.out.symm, rfl⟩
   ·have hd : decide (xs[k] < 0) = false := by simpa using h0
    by_cases h2 : 5 < xs[k]
    ·have HE := Lib.hid (zgd hlk (by simp [zt]; omega))
     clear hs
     go_wp2_with (fail)
     go_ret
     exact ⟨zi HE.out.symm, rfl⟩
    ·have HS := Lib.hid (hs.step (by simp [hlk, zt]; omega))
     clear hs
     go_wp2_with (fail)
     go_round
     case rel => exact ⟨k + 1, by omega, by go_num, HS.out⟩
     case measure => simp [intOf]; omega
  ·have hkn : k = xs.length := by omega
   have HE := Lib.hid (show xs.all zt = true from zcV.all (by rw [<- hkn]; exact hs))
   clear hkn hs h2
   go_wp2_with (fail)
   go_ret
   exact ⟨zi HE.out.symm, rfl⟩
set_option maxHeartbeats 400000 in
theorem zkv (v v2 : Value) (ar : List Int) (f : zd) (w : World) (h : zv w w.heap.size v ar) (h2 : zU w w.heap.size v2 f) (hn : f.2.length <= 1048576) :
 Calls Tryz.prog 39 #[v, v2] w fun e w' => e = .returned (.bool (zE ar f)) /\ Below w.heap.size w w' := by
 obtain ⟨pp, xs⟩ := f
 obtain ⟨A, c, rfl, hc, h⟩ := h
 obtain ⟨a, rfl, h2⟩ := h2
 have H2 := Lib.hid h2
 obtain ⟨A2, c2, rfl, hc2, _⟩ := h2
 by_cases h0 : pp < 0
 ·have hd : decide (pp < 0) = true := by simpa using h0
  have HE := Lib.hid (show zE ar (pp, xs) = false by simp [zE]; omega)
  go_enter Tryz.func39, Tryz.ntmps39
  go_wp2_with (fail)
  go_quiet (fail)
  go_wp2_with (fail)
  go_ret
  exact ⟨zi HE.out.symm, zX (ze _ _) _⟩
 ·have hd : decide (pp < 0) = false := by simpa using h0
  obtain ⟨p, rfl⟩ := Int.eq_ofNat_of_zero_le (Int.not_lt.1 h0)
  by_cases h1 : (ar.length : Int) <= p
  ·have hd1 : decide ((ar.length : Int) <= (p : Int)) = true := by simpa using h1
   have HE := Lib.hid (show zE ar ((p : Int), xs) = false by simp [zE]; omega)
   go_enter Tryz.func39, Tryz.ntmps39
   go_wp2_with (fail)
   go_quiet (fail)
   go_wp2_with (fail)
   go_ret
   exact ⟨zi HE.out.symm, zX (ze _ _) _⟩
  ·have hd1 : decide ((ar.length : Int) <= (p : Int)) = false := by simpa using h1
   have hlt : p < ar.length := by omega
   have hltI : (p : Int) < (ar.length : Int) := by omega
   obtain ⟨b, o, rfl, hbB, hx⟩ := h (by omega)
   have hck : ∀ O, (w.alloc O).cell? ⟨b, o + p, none⟩ = some (.int .i64 ar[p]) := fun O => (World.cell?_alloc_lt w O ⟨b, o + p, none⟩ hbB).trans (hx p hlt)
   by_cases h3 : (xs.length : Int) = ar[p]
   ·have hd3 : ((xs.length : Int) != ar[p]) = false := by simp [h3]
    have H3 := Lib.hid (show zE ar ((p : Int), xs) = xs.all zt by simp [zE, hlt, h3])
    clear h3 hx h
    go_enter Tryz.func39, Tryz.ntmps39
    go_wp2_with (fail)
    go_quiet (fail)
    go_wp2_with (fail)
    refine (zhv _ xs _ _ ((H2.out.below (ze w _) (Nat.le_refl _)).below (zX (Below.refl _ _) _) (Nat.le_refl _)) hn).mono ?_
    rintro e w1 ⟨rfl, rfl⟩
    go_wp2_with (fail)
    go_ret
    exact ⟨zi H3.out.symm, zX (ze _ _) _⟩
   ·have hd3 : ((xs.length : Int) != ar[p]) = true := by simp [h3]
    have HE := Lib.hid (show zE ar ((p : Int), xs) = false by simp [zE, hlt, h3])
    clear h3 hx h
    go_enter Tryz.func39, Tryz.ntmps39
    go_wp2_with (fail)
    go_quiet (fail)
    go_wp2_with (fail)
    go_ret
    exact ⟨zi HE.out.symm, zX (ze _ _) _⟩
open Go.RowKit
def zai (a : zd) (bs : List Int) : Bool := (zp bs && a.2.all zz) && (a.2.map (zn bs)).all zt
def zaM (a : zd) (bs : List Int) : zd := if zai a bs then (a.1, a.2.map (zn bs)) else (0, [])
theorem zhW {a : zd} {bs : List Int} (h : zp bs = false) : zai a bs = false := by unfold zai; rw [h]; rfl
theorem zgI {a : zd} {bs : List Int} (h : a.2.all zz = false) : zai a bs = false := by unfold zai; rw [h, Bool.and_false]; rfl
theorem zlk {a : zd} {bs : List Int} (h : (a.2.map (zn bs)).all zt = false) : zai a bs = false := by unfold zai; rw [h, Bool.and_false]
theorem zf9 {a : zd} {bs : List Int} (h1 : zp bs = true) (h2 : a.2.all zz = true) (h3 : (a.2.map (zn bs)).all zt = true) : zai a bs = true := by unfold zai; rw [h1, h2, h3]; rfl
theorem zhm {a : zd} {bs : List Int} (h : zai a bs = false) : zaM a bs = (0, []) := by unfold zaM; rw [h]; rfl
theorem zct {a : zd} {bs : List Int} (h : zai a bs = true) : zaM a bs = (a.1, a.2.map (zn bs)) := by unfold zaM; rw [h]; rfl
theorem zeo (a : zd) (bs : List Int) : (zaM a bs).2.length <= a.2.length := by
 unfold zaM
 split <;> simp
theorem Blk.grown {w w' : World} {g : Nat} {t : TypeId} {cs : Array Value} {row : Option Nat} (h : Blk w g t cs) (hg : w.grownBy w' row) (hne : row ≠ some g) : Blk w' g t cs := (hg.block g h.lt (fun e => hne e.symm)).trans h
theorem zg.apart {w : World} {lo hi : Nat} {v : Value} {xs : List Int} (h : zg w lo hi v xs) {g : Nat} (hg : g < lo) : v.ownBlock ≠ some g := fun e => by have := h.lt e; omega
open Go.RowKit
set_option maxHeartbeats 400000 in
theorem zmi (v : Value) (bs : List Int) (B : Nat) (w : World) (h : zv w B v bs) (hr : bs.length <= 1048576) :
 Calls Tryz.prog 145 #[v] w fun e w' => e = .returned (.bool (zp bs)) /\ w = w' := by
 obtain ⟨A, c, rfl, hc, ha⟩ := h
 go_enter Tryz.func145, Tryz.ntmps145
 go_wp2_with (fail)
 go_loop [3] (fun i => ∃ k : Nat, k <= bs.length /\ i = .int .i64 k /\ zbf zgJ bs k) (fun i => bs.length - (intOf i).toNat)
 case atStart => exact ⟨0, Nat.zero_le _, rfl, zbf.start⟩
 case round =>
  obtain ⟨k, hk, rfl, hs⟩ := hrel
  by_cases hlt : k < bs.length
  ·obtain ⟨b, o, rfl, hbB, hx⟩ := ha (by omega)
   have hck : w.cell? ⟨b, o + k, none⟩ = some (.int .i64 bs[k]) := hx k hlt
   clear hx ha
   by_cases he : -1 <= bs[k] /\ bs[k] <= 5
   ·have HS := Lib.hid (hs.step hlt (by simpa [zgJ] using he))
    have HK := Lib.hid (zb1 he)
    clear hs he
    go_wp2_with (go_at_call 96; refine (HK.out _).mono ?_; rintro e w' ⟨rfl, rfl⟩)
    go_round
    case rel => exact ⟨k + 1, by omega, by go_num, HS.out⟩
    case measure => simp [intOf]; omega
   ·have HE := Lib.hid (show zp bs = false by simp [zp, zcp hlt (show zgJ bs[k] = false by simpa [zgJ] using he)])
    have HK := Lib.hid (zeW he)
    clear hs he
    go_wp2_with (go_at_call 96; refine (HK.out _).mono ?_; rintro e w' ⟨rfl, rfl⟩)
    go_ret
    exact ⟨zi HE.out.symm, rfl⟩
  ·have HE := Lib.hid (hs.done (by omega))
   clear hs ha
   by_cases hl : bs.length = 4
   ·have hl1 : ((bs.length : Int) == 4) = true := by simp; omega
    have HB := Lib.hid (zgj hl HE.out)
    clear hl
    go_wp2_with (fail)
    go_ret
    exact ⟨zi HB.out.symm, rfl⟩
   ·have hl1 : ((bs.length : Int) == 4) = false := by simp; omega
    have HB := Lib.hid (show zp bs = false by simp [zp, hl])
    clear hl
    go_wp2_with (fail)
    go_ret
    exact ⟨zi HB.out.symm, rfl⟩
theorem zjK {bs : List Int} {ok : Bool} (hok : zp bs = ok) (v : Value) (B : Nat) (w : World) (h : zv w B v bs) (hr : bs.length <= 1048576) :
 Calls Tryz.prog 145 #[v] w fun e w' => e = .returned (.bool ok) /\ w = w' := hok ▸ zmi v bs B w h hr
set_option maxHeartbeats 400000 in
theorem zdR (v : Value) (bs : List Int) (t : Int) (B : Nat) (w : World) (h : zv w B v bs) (hb : bs.length = 4) (ht : zz t = true) :
 Calls Tryz.prog 146 #[.int .i64 t, v] w fun e w' => e = .returned (.int .i64 (zn bs t)) /\ w = w' := by
 obtain ⟨A, c, rfl, hc, ha⟩ := h
 have htb := zdA ht
 by_cases h0 : 0 <= t
 ·have hd : decide (0 <= t) = true := by simpa using h0
  have HE := Lib.hid (za2 (bs := bs) h0).symm
  go_enter Tryz.func146, Tryz.ntmps146
  go_wp2_with (fail)
  go_ret
  exact ⟨zT HE.out, rfl⟩
 ·have hd : decide (0 <= t) = false := by simpa using h0
  obtain ⟨j, hj4, rfl⟩ : ∃ j : Nat, j < bs.length /\ t = -1 - (j : Int) := ⟨(-1 - t).toNat, by omega, by omega⟩
  obtain ⟨b, o, rfl, hbB, hx⟩ := ha (by omega)
  have hck : w.cell? ⟨b, o + j, none⟩ = some (.int .i64 bs[j]) := hx j hj4
  have hjI : (j : Int) < (bs.length : Int) := by omega
  have HE := Lib.hid (show bs[j] = zn bs (-1 - (j : Int)) by
   rw [zcz (by omega), show (-1 - (-1 - (j : Int))).toNat = j by omega]
   simp [hj4])
  have hee : -1 - (-1 - (j : Int)) = (j : Int) := by omega
  clear hx ha hb
  go_enter Tryz.func146, Tryz.ntmps146
  go_wp2_with (fail)
  go_ret
  exact ⟨zT HE.out, rfl⟩
open Go.RowKit
theorem zdB (v : Int) (h0 : 0 <= v) (h1 : v <= 3) (w : World) : Calls Tryz.prog 168 #[.int .i64 v] w fun e w' => e = .returned (.int .i64 ((3 - v) * 4)) /\ w = w' := by
 go_enter Tryz.func168, Tryz.ntmps168
 go_wp2
 go_ret
 exact ⟨rfl, rfl⟩
theorem znW {v : Nat} (hv : v < 4) {c : Int} (hc : -1 <= c /\ c <= 5) : (c + 1) * 2 ^ ((3 - v) * 4) % 4294967296 = ((shlB v c : Nat) : Int) := by
 unfold shlB
 match v, hv with
 | 0, _ => show (c + 1) * 4096 % 4294967296 = (((c + 1).toNat * 4096 : Nat) : Int); omega
 | 1, _ => show (c + 1) * 256 % 4294967296 = (((c + 1).toNat * 256 : Nat) : Int); omega
 | 2, _ => show (c + 1) * 16 % 4294967296 = (((c + 1).toNat * 16 : Nat) : Int); omega
 | 3, _ => show (c + 1) * 1 % 4294967296 = (((c + 1).toNat * 1 : Nat) : Int); omega
theorem zhf {a b : Nat} (ha : a < 65536) (hb : b < 65536) : bits .or .u32 (a : Int) (b : Int) = ((a ||| b : Nat) : Int) := u32_or_nat a b (by omega) (by omega)
theorem zmw {m v : Nat} (hm : m < 65536) : bits .and .u32 ((m : Int) / 2 ^ ((3 - v) * 4)) 15 = ((fieldB m v : Nat) : Int) := by
 have h := u32_and_nat (m / 2 ^ ((3 - v) * 4)) 15 (Nat.lt_of_le_of_lt (Nat.div_le_self _ _) (by omega)) (by omega)
 have e : (15 : Nat) = 2 ^ 4 - 1 := rfl
 rw [e, Nat.and_two_pow_sub_one_eq_mod] at h
 simpa [fieldB] using h
theorem znD (m v : Nat) : fieldB m v < 16 := Nat.mod_lt _ (by omega)
theorem znO (m v : Nat) (c : Int) (hm : m < 65536) (hv : v < 4) (hc : -1 <= c /\ c <= 5) (w : World) :
 Calls Tryz.prog 193 #[.int .u32 (m : Nat), .int .i64 (v : Nat), .int .i64 c] w fun e w' => e = .returned (.int .u32 ((m ||| shlB v c : Nat) : Int)) /\ w = w' := by
 go_enter Tryz.func193, Tryz.ntmps193
 go_wp2_with (go_at_call 168; refine (zdB _ (by omega) (by omega) _).mono ?_; rintro e w' ⟨rfl, rfl⟩)
 go_ret
 exact ⟨zT (by rw [znW hv hc, zhf hm (zoE hv hc)]), rfl⟩
theorem zkz (m v : Nat) (hm : m < 65536) (hv : v < 4) (w : World) :
 Calls Tryz.prog 139 #[.int .u32 (m : Nat), .int .i64 (v : Nat)] w fun e w' => e = .returned (.int .i64 ((fieldB m v : Nat) - 1)) /\ w = w' := by
 go_enter Tryz.func139, Tryz.ntmps139
 go_wp2_with (go_at_call 168; refine (zdB _ (by omega) (by omega) _).mono ?_; rintro e w' ⟨rfl, rfl⟩)
 go_ret
 exact ⟨zT (by have := znD m v; rw [zmw hm, IntWalk.wrap64_in (fieldB m v : Nat) (by omega), IntWalk.wrap64_in _ (by omega)]), rfl⟩
theorem zev (bs : List Int) (hb : zp bs = true) (t : Int) (ht : zz t = true) (w : World) :
 Calls Tryz.prog 114 #[.int .u32 (encB bs : Nat), .int .i64 t] w fun e w' => e = .returned (.int .i64 (zn bs t)) /\ w = w' := by
 have htb := zdA ht
 by_cases h1 : zaC t = true
 ·have hv : -4 <= t /\ t <= -1 := by simpa [zaC] using h1
  obtain ⟨v, hv4, rfl⟩ : ∃ v : Nat, v < 4 /\ t = -1 - (v : Int) := ⟨(-1 - t).toNat, by omega, by omega⟩
  have HE := Lib.hid (show ((fieldB (encB bs) v : Nat) : Int) - 1 = zn bs (-1 - (v : Int)) by
   rw [zgc hb hv4, zcz (by omega)]
   congr 1
   omega)
  have HN := Lib.hid (show -1 - (-1 - (v : Int)) = (v : Int) by omega)
  have hlt := zcP hb
  generalize encB bs = m at HE hlt
  go_enter Tryz.func114, Tryz.ntmps114
  go_wp2_with (first | (go_at_call 138; refine (zdf h1 _).mono ?_; rintro e w' ⟨rfl, rfl⟩) | (go_at_call 140; refine (zei _ hv.1 hv.2 _).mono ?_; rintro e w' ⟨rfl, rfl⟩; rw [HN.out]) | (go_at_call 139; refine (zkz _ _ hlt hv4 _).mono ?_; rintro e w' ⟨rfl, rfl⟩))
  go_ret
  exact ⟨zT HE.out, rfl⟩
 ·have h2 : zaC t = false := by simpa using h1
  have h0 : 0 <= t := by simp [zaC] at h2; omega
  have HE := Lib.hid (za2 (bs := bs) h0).symm
  go_enter Tryz.func114, Tryz.ntmps114
  go_wp2_with (go_at_call 138; refine (zdf h2 _).mono ?_; rintro e w' ⟨rfl, rfl⟩)
  go_ret
  exact ⟨zT HE.out, rfl⟩
open Go.RowKit
set_option maxHeartbeats 400000 in
theorem zlQ (v : Value) (bs args : List Int) (hb : zp bs = true) (ht : args.all zz = true) (w : World) (h : zv w w.heap.size v args) (hr : args.length <= 1048576) :
 Calls Tryz.prog 125 #[.int .u32 (encB bs : Nat), v] w fun e w' => ∃ A' c', e = .returned (.slice A' args.length c') /\ zg w' w.heap.size w'.heap.size (.slice A' args.length c') (args.map (zn bs)) /\ Below w.heap.size w w' := by
 obtain ⟨A, c, rfl, hc, hcell⟩ := h
 have hmk := run_make_row' (P := Tryz.prog) 23 3 (.int .i64 0) 8 Tryz.underlying23 Tryz.infoInt rfl .i64 .i64 args.length (by omega) (by omega)
 have HV := Lib.hid (fun t ht => zev bs hb t ht)
 generalize encB bs = m at HV
 obtain ⟨ys, hys⟩ : ∃ ys, ys = args.map (zn bs) := ⟨_, rfl⟩
 have hyl : ys.length = args.length := by rw [hys]; simp
 have HY := Lib.hid hys
 have HYL := Lib.hid hyl
 clear hys hyl
 go_enter Tryz.func125, Tryz.ntmps125
 go_wp2_with (fail)
 go_loopw [6, 7, 13] (fun _ _ i wr => ∃ k : Nat, k <= args.length /\ i = .int .i64 k /\ wr.rowIs w.heap.size 3 args.length (fun j => if j < k then .int .i64 (ys.getD j 0) else .int .i64 0) /\ Below w.heap.size w wr)
  (fun _ _ i _ => args.length - (intOf i).toNat)
 case atStart => exact ⟨0, Nat.zero_le _, rfl, (World.rowIs_made w _ _ _).congr (fun j _ => by simp), (Below.refl _ _).alloc (Nat.le_refl _) _⟩
 case round =>
  obtain ⟨k, hk, rfl, hrow, hb⟩ := hrel
  by_cases hlt : k < args.length
  ·obtain ⟨b, o, rfl, hbB, hx⟩ := hcell (by omega)
   have hck : wr.cell? ⟨b, o + k, none⟩ = some (.int .i64 args[k]) := (hb.cell (p := ⟨b, o + k, none⟩) hbB).trans (hx k hlt)
   have hok : zz args[k] = true := List.all_eq_true.1 ht _ (List.getElem_mem hlt)
   have hc2 := hrow.cell hlt
   have hf2 := hrow.frozen k
   have HV2 := Lib.hid (HV.out _ hok)
   have HG := Lib.hid (show ys.getD k 0 = zn bs args[k] by rw [HY.out]; simp [hlt])
   clear hx
   have HR := Lib.hid hrow
   clear hrow hok
   go_wp2_with (go_at_call 114; refine (HV2.out _).mono ?_; rintro e w' ⟨rfl, rfl⟩)
   go_roundw
   case rel =>
    refine ⟨k + 1, by omega, by go_num, (HR.out.set k _).congr (fun j hj => ?_), hb.setCell (Nat.le_refl _) _⟩
    by_cases e : j = k
    ·subst e
     simp only [if_true]
     rw [if_pos (by omega), HG.out]
    ·rw [if_neg e]
     by_cases h2 : j < k
     ·rw [if_pos h2, if_pos (by omega)]
     ·rw [if_neg h2, if_neg (by omega)]
   case measure => simp [intOf]; omega
  ·have hkn : k = args.length := by omega
   have HO : zg wr w.heap.size wr.heap.size (.slice (some ⟨w.heap.size, 0, none⟩) ys.length ys.length) ys :=
    zg.of_rowIs (by rw [HYL.out]; exact hrow.congr (fun j hj => by rw [if_pos (by omega)])) (Nat.le_refl _) hrow.lt (by have := HYL.out; unfold maxLen; omega)
   rw [HYL.out, HY.out] at HO
   clear hrow hcell
   have HH := Lib.hid HO
   clear HO
   clear hkn
   go_wp2_with (fail)
   go_ret
   exact ⟨_, _, rfl, HH.out, hb⟩
open Go.RowKit
open Go.RowKit
def zgB (l : zC) : Bool := decide (0 <= l.1 /\ l.1 <= 3) && l.2.2.all zz
def zg2 (ls : List zC) : Bool := (ls.all zgB && decide (ls.length <= 4)) && zb0 ((0, []), ls)
theorem zlc {l : zC} (h : 0 <= l.1 /\ l.1 <= 3) (h2 : l.2.2.all zz = true) : zgB l = true := by unfold zgB; rw [h2, decide_eq_true h]; rfl
theorem zfY (ls : List zC) : ruleMask ((0, []), ls) = bodyMask ls := by simp [ruleMask, maskOf, zau]
theorem ziM {xs : List Int} {b : Bool} (e : xs.all zz = b) (v : Value) (B : Nat) (w : World) (h : zv w B v xs) (hr : xs.length <= 1048576) :
 Calls Tryz.prog 131 #[v] w fun e w' => e = .returned (.bool b) /\ w = w' := e ▸ zfu v xs B w h hr
open Go.RowKit
theorem zhz (w : World) (lo hi : Nat) : zg w lo hi (.slice none 0 0) [] := ⟨World.ownsRow_nil _ _ _ _, fun g hg => by cases hg⟩
set_option maxHeartbeats 2000000 in
theorem zfj (v v2 : Value) (a : zd) (bs : List Int) (w : World) (h : zU w w.heap.size v a) (h2 : zv w w.heap.size v2 bs) (hr : a.2.length <= 1048576) (hr2 : bs.length <= 1048576) :
 Calls Tryz.prog 117 #[v, v2] w fun e w' => ∃ A' c', e = .returned (.tuple #[.agg #[.int .i64 (zaM a bs).1, .slice A' (zaM a bs).2.length c'], .bool (zai a bs)]) /\ zg w' w.heap.size w'.heap.size (.slice A' (zaM a bs).2.length c') (zaM a bs).2 /\ Below w.heap.size w w' := by
 obtain ⟨i0, hi0, hz0, hz1, hz2⟩ := info_parts Tryz.infoInt
 obtain ⟨u, rfl, h⟩ := h
 have H := Lib.hid h
 have H2 := Lib.hid h2
 obtain ⟨A, c, rfl, hc, _⟩ := h
 obtain ⟨A2, c2, rfl, hc2, _⟩ := h2
 obtain ⟨F, hF⟩ : ∃ F, F = zaM a bs := ⟨_, rfl⟩
 obtain ⟨ok, hok⟩ : ∃ ok, ok = zai a bs := ⟨_, rfl⟩
 rw [<- hF, <- hok]
 have HF := Lib.hid hF
 have HK := Lib.hid hok
 clear hF hok
 -- the worlds ahead
 have X0 : ∀ T1 c1 T2 c2, Blk ((w.alloc (Obj.cells c1 T1)).alloc (Obj.cells c2 T2)) w.heap.size T1 c1 := fun T1 c1 T2 c2 => (Blk.new w T1 c1).alloc _
 have X1 : ∀ o T2 c2, Blk ((w.alloc o).alloc (Obj.cells c2 T2)) (w.heap.size + 1) T2 c2 := fun o T2 c2 => by simpa using Blk.new (w.alloc o) T2 c2
 by_cases hb : zp bs = true
 ·have L1 := Lib.hid (fun W (hW : Below w.heap.size w W) => zjK hb (.slice A2 bs.length c2) w.heap.size W (H2.out.below hW (Nat.le_refl _)) hr2)
  by_cases ht : a.2.all zz = true
  ·have L2 := Lib.hid (fun W (hW : Below w.heap.size w W) => ziM ht (.slice A a.2.length c) w.heap.size W (H.out.below hW (Nat.le_refl _)) hr)
   have HB4 := Lib.hid (zV hb)
   have HB := Lib.hid hb
   have HT := Lib.hid ht
   have HTK := Lib.hid (show ∀ k (hk : k < a.2.length), zz a.2[k] = true /\ -1 <= zn bs a.2[k] /\ zn bs a.2[k] <= 5 from fun k hk => by
    have := List.all_eq_true.1 ht _ (List.getElem_mem hk)
    exact ⟨this, zdK hb this⟩)
   obtain ⟨ys, hys⟩ : ∃ ys, ys = a.2.map (zn bs) := ⟨_, rfl⟩
   have HY := Lib.hid hys
   have HYL := Lib.hid (show ys.length = a.2.length by rw [hys]; simp)
   have HYK := Lib.hid (show ∀ k (hk : k < a.2.length), ys.take (k + 1) = ys.take k ++ [zn bs a.2[k]] from fun k hk => by
    rw [zH ys k (by rw [hys]; simpa using hk)]
    simp [hys])
   clear hb ht hys
   go_enter Tryz.func117, Tryz.ntmps117
   go_wp2_with (fail)
   have x0 := X0 63 #[.int .i64 a.1, .slice A a.2.length c] 39 #[.int .i64 0, .slice none 0 0]
   have x1 := X1 (Obj.cells #[.int .i64 a.1, .slice A a.2.length c] 63) 39 #[.int .i64 0, .slice none 0 0]
   obtain ⟨w2, hw2⟩ : ∃ w2, w2 = ((w.alloc (Obj.cells #[Value.int IntKind.i64 a.1, Value.slice A a.2.length c] 63)).alloc (Obj.cells #[Value.int IntKind.i64 0, Value.slice none 0 0] 39)) := ⟨_, rfl⟩
   have B2 : Below w.heap.size w w2 := by rw [hw2]; exact za0 _ _ _
   have hs2 : w.heap.size + 1 < w2.heap.size := by rw [hw2]; simp
   rw [<- hw2] at x0 x1 ⊢
   clear hw2 X0 X1
   have q00 : w2.cell? ⟨w.heap.size, 0, none⟩ = some (.int .i64 a.1) := x0.cell 0
   have q01 : w2.cell? ⟨w.heap.size, 1, none⟩ = some (.slice A a.2.length c) := x0.cell 1
   refine (L1.out _ B2).mono ?_
   rintro e w' ⟨rfl, rfl⟩
   go_wp2_with (fail)
   refine (L2.out _ B2).mono ?_
   rintro e w' ⟨rfl, rfl⟩
   go_wp2_with (fail)
   have x2 : Blk (w2.alloc (Obj.cells #[Value.int IntKind.i64 a.1, Value.slice none 0 0] 39)) w2.heap.size 39 #[.int .i64 a.1, .slice none 0 0] := Blk.new _ _ _
   have R0 : Below w.heap.size w (w2.alloc (Obj.cells #[Value.int IntKind.i64 a.1, Value.slice none 0 0] 39)) /\ Blk (w2.alloc (Obj.cells #[Value.int IntKind.i64 a.1, Value.slice none 0 0] 39)) w.heap.size 63 #[.int .i64 a.1, .slice A a.2.length c] /\ Blk (w2.alloc (Obj.cells #[Value.int IntKind.i64 a.1, Value.slice none 0 0] 39)) (w.heap.size + 1) 39 #[.int .i64 0, .slice none 0 0] := ⟨zf B2 (ze _ _), x0.alloc _, x1.alloc _⟩
   clear x0 x1 q00 q01
   go_loopw [7, 8] (fun i _ wr => ∃ (k : Nat) (A' : Option Addr) (c' : Nat), k <= a.2.length /\ i = .int .i64 k /\ (ys.take k).all zt = true /\ zg wr (w2.heap.size + 1) wr.heap.size (.slice A' (ys.take k).length c') (ys.take k) /\
    Blk wr w2.heap.size 39 #[.int .i64 a.1, .slice A' (ys.take k).length c'] /\ (Below w.heap.size w wr /\ Blk wr w.heap.size 63 #[.int .i64 a.1, .slice A a.2.length c] /\ Blk wr (w.heap.size + 1) 39 #[.int .i64 0, .slice none 0 0])) (fun i _ _ => a.2.length - (intOf i).toNat)
   case atStart => exact ⟨0, none, 0, Nat.zero_le _, rfl, rfl, zhz _ _ _, x2, R0⟩
   case round =>
    obtain ⟨k, A', c', hk, rfl, hs, ho, y2, hbe, y0, y1⟩ := hrel
    have hln : (ys.take k).length <= k := by simp; omega
    have q00 : wr.cell? ⟨w.heap.size, 0, none⟩ = some (.int .i64 a.1) := y0.cell 0
    have q01 : wr.cell? ⟨w.heap.size, 1, none⟩ = some (.slice A a.2.length c) := y0.cell 1
    by_cases hlt : k < a.2.length
    ·have hre := H.out.below hbe (Nat.le_refl _)
     obtain ⟨A3, c3, e3, _, hx⟩ := hre
     injection e3 with e3 _ e4
     subst e3 e4
     obtain ⟨b, o, rfl, hbB, hx⟩ := hx (by omega)
     have hck : wr.cell? ⟨b, o + k, none⟩ = some (.int .i64 a.2[k]) := hx k hlt
     obtain ⟨htk, htl, hth⟩ := HTK.out k hlt
     have T1 := Lib.hid (zdR (.slice A2 bs.length c2) bs a.2[k] w.heap.size wr (H2.out.below hbe (Nat.le_refl _)) HB4.out htk)
     have HS := Lib.hid (HYK.out k hlt)
     clear hx
     obtain ⟨zs, hzs⟩ : ∃ zs, zs = ys.take k := ⟨_, rfl⟩
     rw [<- hzs] at ho hln y2 hs
     have HZ := Lib.hid hzs
     clear hzs
     obtain ⟨t, htv⟩ : ∃ t, t = zn bs a.2[k] := ⟨_, rfl⟩
     rw [<- htv] at T1 HS htl hth
     have HTV := Lib.hid htv
     clear htv htk
     have HP := Lib.hid (And.intro ho (And.intro hbe (And.intro y0 (And.intro y1 y2))))
     have c20 : wr.cell? ⟨w2.heap.size, 0, none⟩ = some (.int .i64 a.1) := y2.cell 0
     have c21 : wr.cell? ⟨w2.heap.size, 1, none⟩ = some (.slice A' zs.length c') := y2.cell 1
     have c10 : wr.cell? ⟨w.heap.size + 1, 0, none⟩ = some (.int .i64 0) := y1.cell 0
     have c11 : wr.cell? ⟨w.heap.size + 1, 1, none⟩ = some (.slice none 0 0) := y1.cell 1
     have f10 := y1.frozen 0
     have f11 := y1.frozen 1
     clear ho y0 y1 y2
     by_cases h0 : t < 0
     ·have HN := Lib.hid (show ok = false /\ F = (0, []) by
       have hno : zai a bs = false := zlk (zcp (k := k) (by simpa using hlt) (by
        have := HTV.out
        simp [zt]
        omega))
       exact ⟨by rw [HK.out, hno], by rw [HF.out, zhm hno]⟩)
      clear hs
      go_wp2_with (go_at_call 146; refine T1.out.mono ?_; rintro e w' ⟨rfl, rfl⟩)
      refine bodyPost_ret (v := .tuple #[.agg #[.int .i64 0, .slice none 0 0], .bool false]) (by simp [results, Tryz.results117, go_sem, c10, c11]) rfl ?_
      rw [HN.out.1, HN.out.2]
      exact ⟨none, 0, rfl, zhz _ _ _, (hbe.setCell (by simp) _).setCell (by simp) _⟩
     ·have hd0 : decide (t < 0) = false := by simpa using h0
      have HCS := Lib.hid (show (zs ++ [t]).all zt = true by rw [List.all_append, hs]; simp [zt]; omega)
      clear hs
      go_wp2_with (first | (go_at_call 146; refine T1.out.mono ?_; rintro e w' ⟨rfl, rfl⟩) | (at_builtin; refine wpList_append_lies _ rfl (.tmp 40) (.tmp 42) 23 rfl (w2.heap.size + 1) 3 i0 (.int .i64 0) 1 8 Tryz.underlying23 hi0 hz0 hz1 hz2 rfl (by decide) (.slice A' zs.length c') zs.length (zs.map (Value.int .i64)) rfl ?c1 ⟨_, 0, none⟩ 1 1 [.int .i64 t] rfl rfl (zeR _ _ _ _ (by simp)) ?c2 (by omega) (by unfold maxLen; omega) (by omega) ?c3 _ rfl ?_))
      case c1 => exact HP.out.1.1.alloc _
      case c2 => intro u hu; simp at hu; subst hu; rfl
      case c3 => have := HP.out.2.2.2.2.lt; simp; omega
      intro g cap w4 hown hg _ _
      have hgr := zy hg
      obtain ⟨ho, hbe', y0, y1, y2⟩ := HP.out
      have z0 := y0.grown hgr (ho.apart (by omega))
      have z1 := y1.grown hgr (ho.apart (by omega))
      have z2 := y2.grown hgr (ho.apart (by omega))
      have hb4 : Below w.heap.size w w4 := hbe'.trans (Below.grown (Below.refl _ _) hgr hbe'.size (fun j hj => by have := ho.lt hj; omega))
      have z2f := z2.frozen 1
      have z2c : w4.cell? ⟨w2.heap.size, 1, none⟩ = some (.slice A' zs.length c') := z2.cell 1
      have z2s := z2.set_ 1 (.slice (some ⟨g, 0, none⟩) (zs.length + 1) cap)
      have hlen : zs.length + 1 = (zs ++ [t]).length := by simp
      have hoo : zg w4 (w2.heap.size + 1) w4.heap.size (.slice (some ⟨g, 0, none⟩) (zs.length + 1) cap) (zs ++ [t]) := by
       refine ⟨?_, fun b hb' => (hown.lt b hb').2⟩
       rw [<- hlen]
       simpa using hown
      have hos := hoo.set (p := ⟨w2.heap.size, 1, none⟩) (.inl (by show w2.heap.size < w2.heap.size + 1; omega)) (.slice (some ⟨g, 0, none⟩) (zs.length + 1) cap)
      have z0s := z0.far (p := ⟨w2.heap.size, 1, none⟩) (by show w.heap.size ≠ w2.heap.size; omega) (.slice (some ⟨g, 0, none⟩) (zs.length + 1) cap)
      have z1s := z1.far (p := ⟨w2.heap.size, 1, none⟩) (by show w.heap.size + 1 ≠ w2.heap.size; omega) (.slice (some ⟨g, 0, none⟩) (zs.length + 1) cap)
      have HQ := Lib.hid (And.intro hos (And.intro z2s (And.intro (hb4.setCell (p := ⟨w2.heap.size, 1, none⟩) (by show w.heap.size <= w2.heap.size; omega) (.slice (some ⟨g, 0, none⟩) (zs.length + 1) cap)) (And.intro z0s z1s))))
      have HSE := Lib.hid (show ys.take (k + 1) = zs ++ [t] by rw [HS.out, HZ.out])
      clear hown hg hgr ho hbe' y0 y1 y2 z0 z1 hb4 z2s hlen hoo hos z0s z1s
      go_wp2_with (fail)
      go_roundw
      case rel =>
       obtain ⟨a1, a2, a3, a4, a5⟩ := HQ.out
       refine ⟨k + 1, some ⟨g, 0, none⟩, cap, by omega, by go_num, by rw [HSE.out]; exact HCS.out, ?_, ?_, a3, a4, a5⟩
       ·rw [HSE.out]
        simpa using a1
       ·rw [HSE.out]
        simpa using a2
      case measure => simp [intOf]; omega
    ·have hkn : k = a.2.length := by omega
     have hall : ys.take k = ys := by rw [hkn, <- HYL.out, List.take_length]
     rw [hall] at hs ho y2
     have HN := Lib.hid (show ok = true /\ F = (a.1, ys) by
      have hyes : zai a bs = true := zf9 HB.out HT.out (by rw [<- HY.out]; exact hs)
      exact ⟨by rw [HK.out, hyes], by rw [HF.out, zct hyes, HY.out]⟩)
     have c20 : wr.cell? ⟨w2.heap.size, 0, none⟩ = some (.int .i64 a.1) := y2.cell 0
     have c21 : wr.cell? ⟨w2.heap.size, 1, none⟩ = some (.slice A' ys.length c') := y2.cell 1
     have c10 : wr.cell? ⟨w.heap.size + 1, 0, none⟩ = some (.int .i64 0) := y1.cell 0
     have c11 : wr.cell? ⟨w.heap.size + 1, 1, none⟩ = some (.slice none 0 0) := y1.cell 1
     have f10 := y1.frozen 0
     have f11 := y1.frozen 1
     have HP := Lib.hid (And.intro ho hbe)
     clear hs hall hkn ho y0 y1 y2
     go_wp2_with (fail)
     refine bodyPost_ret (v := .tuple #[.agg #[.int .i64 a.1, .slice A' ys.length c'], .bool true]) (by simp [results, Tryz.results117, go_sem, c10, c11]) rfl ?_
     rw [HN.out.1, HN.out.2]
     refine ⟨A', c', rfl, ?_, (HP.out.2.setCell (by simp) _).setCell (by simp) _⟩
     exact ((HP.out.1.set (p := ⟨w.heap.size + 1, 0, none⟩) (.inl (by show w.heap.size + 1 < w2.heap.size + 1; omega)) _).set (p := ⟨w.heap.size + 1, 1, none⟩) (.inl (by show w.heap.size + 1 < w2.heap.size + 1; omega)) _).mono (by omega) (by simp)
  ·have ht' : a.2.all zz = false := by simpa using ht
   have L2 := Lib.hid (fun W (hW : Below w.heap.size w W) => ziM ht' (.slice A a.2.length c) w.heap.size W (H.out.below hW (Nat.le_refl _)) hr)
   have HN := Lib.hid (show ok = false /\ F = (0, []) from ⟨by rw [HK.out, zgI ht'], by rw [HF.out, zhm (zgI ht')]⟩)
   clear hb ht ht'
   go_enter Tryz.func117, Tryz.ntmps117
   go_wp2_with (fail)
   have x0 := X0 63 #[.int .i64 a.1, .slice A a.2.length c] 39 #[.int .i64 0, .slice none 0 0]
   have x1 := X1 (Obj.cells #[.int .i64 a.1, .slice A a.2.length c] 63) 39 #[.int .i64 0, .slice none 0 0]
   obtain ⟨w2, hw2⟩ : ∃ w2, w2 = ((w.alloc (Obj.cells #[Value.int IntKind.i64 a.1, Value.slice A a.2.length c] 63)).alloc (Obj.cells #[Value.int IntKind.i64 0, Value.slice none 0 0] 39)) := ⟨_, rfl⟩
   have B2 : Below w.heap.size w w2 := by rw [hw2]; exact za0 _ _ _
   rw [<- hw2] at x0 x1 ⊢
   clear hw2 X0 X1
   have q00 : w2.cell? ⟨w.heap.size, 0, none⟩ = some (.int .i64 a.1) := x0.cell 0
   have q01 : w2.cell? ⟨w.heap.size, 1, none⟩ = some (.slice A a.2.length c) := x0.cell 1
   have c10 : w2.cell? ⟨w.heap.size + 1, 0, none⟩ = some (.int .i64 0) := x1.cell 0
   have c11 : w2.cell? ⟨w.heap.size + 1, 1, none⟩ = some (.slice none 0 0) := x1.cell 1
   have f10 := x1.frozen 0
   have f11 := x1.frozen 1
   refine (L1.out _ B2).mono ?_
   rintro e w' ⟨rfl, rfl⟩
   go_wp2_with (go_at_call 131; refine (L2.out _ B2).mono ?_; rintro e w' ⟨rfl, rfl⟩)
   refine bodyPost_ret (v := .tuple #[.agg #[.int .i64 0, .slice none 0 0], .bool false]) (by simp [results, Tryz.results117, go_sem, c10, c11]) rfl ?_
   rw [HN.out.1, HN.out.2]
   exact ⟨none, 0, rfl, zhz _ _ _, (B2.setCell (by simp) _).setCell (by simp) _⟩
 ·have hb' : zp bs = false := by simpa using hb
  have L1 := Lib.hid (fun W (hW : Below w.heap.size w W) => zjK hb' (.slice A2 bs.length c2) w.heap.size W (H2.out.below hW (Nat.le_refl _)) hr2)
  have HN := Lib.hid (show ok = false /\ F = (0, []) from ⟨by rw [HK.out, zhW hb'], by rw [HF.out, zhm (zhW hb')]⟩)
  clear hb hb'
  go_enter Tryz.func117, Tryz.ntmps117
  go_wp2_with (fail)
  have x1 := X1 (Obj.cells #[.int .i64 a.1, .slice A a.2.length c] 63) 39 #[.int .i64 0, .slice none 0 0]
  obtain ⟨w2, hw2⟩ : ∃ w2, w2 = ((w.alloc (Obj.cells #[Value.int IntKind.i64 a.1, Value.slice A a.2.length c] 63)).alloc (Obj.cells #[Value.int IntKind.i64 0, Value.slice none 0 0] 39)) := ⟨_, rfl⟩
  have B2 : Below w.heap.size w w2 := by rw [hw2]; exact za0 _ _ _
  rw [<- hw2] at x1 ⊢
  clear hw2 X0 X1
  have c10 : w2.cell? ⟨w.heap.size + 1, 0, none⟩ = some (.int .i64 0) := x1.cell 0
  have c11 : w2.cell? ⟨w.heap.size + 1, 1, none⟩ = some (.slice none 0 0) := x1.cell 1
  have f10 := x1.frozen 0
  have f11 := x1.frozen 1
  refine (L1.out _ B2).mono ?_
  rintro e w' ⟨rfl, rfl⟩
  go_wp2_with (fail)
  refine bodyPost_ret (v := .tuple #[.agg #[.int .i64 0, .slice none 0 0], .bool false]) (by simp [results, Tryz.results117, go_sem, c10, c11]) rfl ?_
  rw [HN.out.1, HN.out.2]
  exact ⟨none, 0, rfl, zhz _ _ _, (B2.setCell (by simp) _).setCell (by simp) _⟩
open Go.RowKit
open Go.RowKit
def ze3 (bs : List Int) (t c : Int) : Option (List Int) :=
 if zn bs t = c then some bs else if zn bs t = -1 then some (bs.set (-1 - t).toNat c) else none
def zaK (bs xs ys : List Int) : Nat -> Option (List Int)
 | 0 => some bs
 | k + 1 => (zaK bs xs ys k).bind fun b => ze3 b (xs.getD k 0) (ys.getD k 0)
def zan (a f : zd) (bs : List Int) : Option (List Int) :=
 if a.1 = f.1 /\ a.2.length = f.2.length then zaK bs a.2 f.2 a.2.length else none
theorem znS {bs b : List Int} (h : zp bs = true) {t c : Int} (hc : -1 <= c /\ c <= 5) (e : ze3 bs t c = some b) : zp b = true := by
 unfold ze3 at e
 split at e
 ·injection e with e
  rwa [<- e]
 ·split at e
  ·injection e with e
   rw [<- e]
   exact zcx h hc _
  ·cases e
theorem zca {bs xs ys b : List Int} {k : Nat} (h : zaK bs xs ys k = some b) (h1 : k < xs.length) (h2 : k < ys.length) : zaK bs xs ys (k + 1) = ze3 b xs[k] ys[k] := by
 show (zaK bs xs ys k).bind _ = _
 rw [h]
 simp [h1, h2]
theorem zdt {bs xs ys : List Int} {k : Nat} (h : zaK bs xs ys k = none) : ∀ n, k <= n -> zaK bs xs ys n = none
 | 0, hn => by
  have : k = 0 := by omega
  subst this
  exact h
 | n + 1, hn => by
  by_cases e : k = n + 1
  ·rw [<- e]; exact h
  ·show (zaK bs xs ys n).bind _ = none
   rw [zdt h n (by omega)]
   rfl
theorem zez {a f : zd} {bs : List Int} (h1 : a.1 = f.1) (h2 : a.2.length = f.2.length) : zan a f bs = zaK bs a.2 f.2 a.2.length := if_pos ⟨h1, h2⟩
theorem zed {a f : zd} {bs : List Int} (h : a.1 ≠ f.1) : zan a f bs = none := if_neg fun e => h e.1
theorem zeS {a f : zd} {bs : List Int} (h : a.2.length ≠ f.2.length) : zan a f bs = none := if_neg fun e => h e.2
theorem zhN {a f : zd} {bs : List Int} {k : Nat} (h1 : a.1 = f.1) (h2 : a.2.length = f.2.length) (hk : k < a.2.length) (e : zaK bs a.2 f.2 (k + 1) = none) : zan a f bs = none := by
 rw [zez h1 h2]
 exact zdt e _ hk
theorem zc1 {bs : List Int} {t c : Int} (h : zn bs t = c) : ze3 bs t c = some bs := if_pos h
theorem zfJ {bs : List Int} {t c : Int} (h : zn bs t = -1) (hc : c ≠ -1) : ze3 bs t c = some (bs.set (-1 - t).toNat c) := by
 unfold ze3
 rw [if_neg (by omega), if_pos h]
theorem zkR {bs : List Int} {t c : Int} (h : zn bs t ≠ c) (h2 : zn bs t ≠ -1) : ze3 bs t c = none := by
 unfold ze3
 rw [if_neg h, if_neg h2]
theorem zgn {bs : List Int} {t : Int} (ht : zz t = true) (h : zn bs t = -1) : -4 <= t /\ t <= -1 /\ bs.getD (-1 - t).toNat (-1) = -1 := by
 have htb := zdA ht
 have h0 : t < 0 := by
  rcases Int.lt_or_le t 0 with h1 | h1
  ·exact h1
  ·rw [za2 h1] at h
   omega
 rw [zcz h0] at h
 exact ⟨htb.1, by omega, h⟩
end Go.Proofs.YtofkcmihcgmmpaaGreatDoor
