/-
  Texts that the claim's last one imports, laid together: part 3 of 16. No condition of its own.
-/
import Derived.StillTailTactics
import Derived.Deep.QuietTactic
import Derived.BigQuiet
import Derived.Deep.DeepCutAuto
import Derived.Deep.RegionHeld3
import Derived.Test.YtofkcmihcgmmpaaGreatDoorMLr1
import Derived.Test.YtofkcmihcgmmpaaGreatDoorMLr2
namespace Go.Proofs.YtofkcmihcgmmpaaGreatDoor
set_option maxRecDepth 100000
open Go.RowKit
structure zaJ (w wr : World) (g : Nat) (bs : List Nat) (p : Nat) (A : Option Addr) (c : Nat) (f : zd) : Prop where
 res : Blk wr w.heap.size 63 #[.int .i64 0, .slice none 0 0]
 fact : Blk wr (w.heap.size + 1) 63 #[.int .i64 f.1, .slice A f.2.length c]
 own : wr.ownsRow (w.heap.size + 2) 3 1 (.slice A f.2.length c) f.2.length (f.2.map (Value.int .i64))
 rdr : Rdr wr g bs p
 only : zl g (g + 1) w wr
theorem zaJ.start {w : World} {g : Nat} {bs : List Nat} {p : Nat} (h : Rdr w g bs p) :
 zaJ w ((w.alloc (Obj.cells #[Value.int IntKind.i64 0, Value.slice none 0 0] 63)).alloc (Obj.cells #[Value.int IntKind.i64 0, Value.slice none 0 0] 63)) g bs p none 0 (0, []) :=
 ⟨(Blk.new w _ _).alloc _, by simpa using Blk.new (w.alloc (Obj.cells #[Value.int IntKind.i64 0, Value.slice none 0 0] 63)) 63 #[.int .i64 0, .slice none 0 0], World.ownsRow_nil _ _ _ _, h.below (za0 w _ _) h.lt, zl.of_below (za0 w _ _)⟩
theorem zaJ.pick {w wr w' : World} {g : Nat} {bs : List Nat} {p : Nat} {A : Option Addr} {c : Nat} {f : zd} (h : zaJ w wr g bs p A c f) (hg : g < w.heap.size) (hk : zdZ wr w' g bs p) : zaJ w w' g bs (p + 1) A c f :=
 ⟨h.res.only hk.2 (by omega), h.fact.only hk.2 (by omega), zw h.own (fun b hb => hk.2.block b (h.own.lt b hb).2 (by have := (h.own.lt b hb).1; omega)), hk.1, h.only.trans hk.2⟩
theorem zaJ.pred {w wr : World} {g : Nat} {bs : List Nat} {p : Nat} {A : Option Addr} {c : Nat} {f : zd} (h : zaJ w wr g bs p A c f) (hg : g < w.heap.size) (x : Int) : zaJ w (wr.setCell ⟨w.heap.size + 1, 0, none⟩ (.int .i64 x)) g bs p A c (x, f.2) :=
 ⟨h.res.far (by show w.heap.size ≠ w.heap.size + 1; omega) _, h.fact.set_ 0 _, zw h.own (fun b hb => Below.heap_setCell _ _ _ _ (by have := (h.own.lt b hb).1; show b ≠ w.heap.size + 1; omega)),
   h.rdr.same fun k hk => Below.heap_setCell _ _ _ _ (by show k ≠ w.heap.size + 1; omega),
   ⟨h.only.os, h.only.tape, h.only.output, by simpa using h.only.size, fun k hk hn => (Below.heap_setCell _ _ _ _ (by show k ≠ w.heap.size + 1; omega)).trans (h.only.block k hk hn)⟩⟩
theorem zaJ.alloc {w wr : World} {g : Nat} {bs : List Nat} {p : Nat} {A : Option Addr} {c : Nat} {f : zd} (h : zaJ w wr g bs p A c f) (o : Obj) : zaJ w (wr.alloc o) g bs p A c f :=
 ⟨h.res.alloc o, h.fact.alloc o, h.own.alloc o, h.rdr.below (ze wr o) h.rdr.lt, h.only.trans (zl.of_below (ze wr o))⟩
theorem zaJ.drewN {w wr : World} {g : Nat} {bs : List Nat} {p : Nat} {A : Option Addr} {c : Nat} {f : zd} (h : zaJ w wr g bs p A c f) (n : Nat) : zaJ w (wr.drewN n) g bs p A c f :=
 ⟨h.res, h.fact, h.own, h.rdr, ⟨h.only.os, h.only.tape, h.only.output, h.only.size, h.only.block⟩⟩
theorem zaJ.drew {w wr : World} {g : Nat} {bs : List Nat} {p : Nat} {A : Option Addr} {c : Nat} {f : zd} (h : zaJ w wr g bs p A c f) : zaJ w wr.drew g bs p A c f :=
 ⟨h.res, h.fact, h.own, h.rdr, ⟨h.only.os, h.only.tape, h.only.output, h.only.size, h.only.block⟩⟩
theorem zaJ.push {w wr w4 : World} {g : Nat} {bs : List Nat} {p : Nat} {A : Option Addr} {c : Nat} {P : Int} {xs : List Int} (h : zaJ w wr g bs p A c (P, xs)) (hg : g < w.heap.size)
 (hgr : wr.grownBy w4 (Value.slice A xs.length c).ownBlock) {g2 cap : Nat} {x : Int} (hown : w4.ownsRow (w.heap.size + 2) 3 1 (.slice (some ⟨g2, 0, none⟩) (xs.length + 1) cap) (xs.length + 1) (xs.map (Value.int .i64) ++ [.int .i64 x])) :
 zaJ w (w4.setCell ⟨w.heap.size + 1, 1, none⟩ (.slice (some ⟨g2, 0, none⟩) (xs.length + 1) cap)) g bs p (some ⟨g2, 0, none⟩) cap (P, xs ++ [x]) := by
 have hs := h.fact.lt
 have hlow : ∀ b, b < w.heap.size + 2 -> w4.heap[b]? = wr.heap[b]? := fun b hb => hgr.block b (by omega) (fun e => by have := (h.own.lt b e.symm).1; omega)
 have hlow2 : ∀ b, b < w.heap.size + 1 -> (w4.setCell ⟨w.heap.size + 1, 1, none⟩ (.slice (some ⟨g2, 0, none⟩) (xs.length + 1) cap)).heap[b]? = wr.heap[b]? := fun b hb =>
  (Below.heap_setCell _ _ _ _ (by show b ≠ w.heap.size + 1; omega)).trans (hlow b (by omega))
 refine ⟨(hlow2 _ (by omega)).trans h.res, ?_, ?_, h.rdr.same fun k hk => hlow2 k (by omega), ⟨hgr.os.trans h.only.os, hgr.tape.trans h.only.tape, hgr.output.trans h.only.output, Nat.le_trans h.only.size (Nat.le_trans hgr.size (by simp)), fun k hk hn => (hlow2 k (by omega)).trans (h.only.block k hk hn)⟩⟩
 ·have := (show Blk w4 (w.heap.size + 1) 63 _ from (hlow _ (by omega)).trans h.fact).set_ 1 (.slice (some ⟨g2, 0, none⟩) (xs.length + 1) cap)
  simpa using this
 ·simpa using zw hown (fun b hb => Below.heap_setCell _ _ _ _ (by have := (hown.lt b hb).1; show b ≠ w.heap.size + 1; omega))
theorem zaJ.keepFact {w wr w4 : World} {g : Nat} {bs : List Nat} {p : Nat} {A : Option Addr} {c : Nat} {f : zd} (h : zaJ w wr g bs p A c f) (hgr : wr.grownBy w4 (Value.slice A f.2.length c).ownBlock) : Blk w4 (w.heap.size + 1) 63 #[.int .i64 f.1, .slice A f.2.length c] :=
 (hgr.block _ h.fact.lt (fun e => by have := (h.own.lt _ e.symm).1; omega)).trans h.fact
theorem zaJ.form {w W : World} {g : Nat} {bs : List Nat} {q : Nat} {A : Option Addr} {c : Nat} {f : zd} (h : zaJ w W g bs q A c f) (hn : 0 < f.2.length) : ∃ g2, A = some ⟨g2, 0, none⟩ := by
 obtain ⟨g2, cap, e, _⟩ := h.own.form hn
 injection e with e1 _ _
 exact ⟨g2, e1⟩
theorem zaJ.head {w W : World} {g : Nat} {bs : List Nat} {q g2 c : Nat} {f : zd} (h : zaJ w W g bs q (some ⟨g2, 0, none⟩) c f) (hn : 0 < f.2.length) : W.cell? ⟨g2, 0, none⟩ = some (.int .i64 (f.2[0]'hn)) /\ W.frozen? ⟨g2, 0, none⟩ = false := by
 refine ⟨?_, h.own.frozenAt 0⟩
 rw [h.own.cellAt 0 (by omega)]
 simp [hn]
theorem zaJ.first {w W : World} {g : Nat} {bs : List Nat} {q g2 c : Nat} {f : zd} (h : zaJ w W g bs q (some ⟨g2, 0, none⟩) c f) (hg : g < w.heap.size) (x : Int) :
 zaJ w (W.setCell ⟨g2, 0, none⟩ (.int .i64 x)) g bs q (some ⟨g2, 0, none⟩) c (f.1, f.2.set 0 x) := by
 have hb := (h.own.lt g2 rfl).1
 have hs := h.own.stored 0 (.int .i64 x)
 refine ⟨h.res.far (by show w.heap.size ≠ g2; omega) _, ?_, ?_, h.rdr.same fun k hk => Below.heap_setCell _ _ _ _ (by show k ≠ g2; omega),
  ⟨h.only.os, h.only.tape, h.only.output, by simpa using h.only.size, fun k hk hn => (Below.heap_setCell _ _ _ _ (by show k ≠ g2; omega)).trans (h.only.block k hk hn)⟩⟩
 ·simpa using h.fact.far (p := ⟨g2, 0, none⟩) (by show w.heap.size + 1 ≠ g2; omega) (.int .i64 x)
 ·have := hs.1
  rw [<- List.map_set] at this
  simpa using this
theorem zaJ.done {w W : World} {g : Nat} {bs : List Nat} {q : Nat} {A : Option Addr} {c : Nat} {f : zd} (h : zaJ w W g bs q A c f) (hg : g < w.heap.size) :
 ((W.setCell ⟨w.heap.size, 0, none⟩ (.int .i64 f.1)).setCell ⟨w.heap.size, 1, none⟩ (.slice A f.2.length c)).ownsRow (w.heap.size + 2) 3 1 (.slice A f.2.length c) f.2.length (f.2.map (Value.int .i64)) /\
 Rdr ((W.setCell ⟨w.heap.size, 0, none⟩ (.int .i64 f.1)).setCell ⟨w.heap.size, 1, none⟩ (.slice A f.2.length c)) g bs q /\
 zl g (g + 1) w ((W.setCell ⟨w.heap.size, 0, none⟩ (.int .i64 f.1)).setCell ⟨w.heap.size, 1, none⟩ (.slice A f.2.length c)) /\
 Blk ((W.setCell ⟨w.heap.size, 0, none⟩ (.int .i64 f.1)).setCell ⟨w.heap.size, 1, none⟩ (.slice A f.2.length c)) w.heap.size 63 #[.int .i64 f.1, .slice A f.2.length c] := by
 have hb : ∀ k, k ≠ w.heap.size -> ((W.setCell ⟨w.heap.size, 0, none⟩ (.int .i64 f.1)).setCell ⟨w.heap.size, 1, none⟩ (.slice A f.2.length c)).heap[k]? = W.heap[k]? := fun k hk =>
  (Below.heap_setCell _ _ _ _ (by show k ≠ w.heap.size; exact hk)).trans (Below.heap_setCell _ _ _ _ (by show k ≠ w.heap.size; exact hk))
 refine ⟨zw h.own (fun b hb' => hb b (by have := (h.own.lt b hb').1; omega)), h.rdr.same fun k hk => hb k (by omega), ⟨h.only.os, h.only.tape, h.only.output, by simpa using h.only.size, fun k hk hn => (hb k (by omega)).trans (h.only.block k hk hn)⟩, ?_⟩
 have := (h.res.set_ 0 (.int .i64 f.1)).set_ 1 (.slice A f.2.length c)
 simpa using this
theorem zaJ.startAt {w : World} {g : Nat} {bs : List Nat} {p : Nat} (h : Rdr w g bs p) (x : Int) :
 zaJ w ((w.alloc (Obj.cells #[Value.int IntKind.i64 0, Value.slice none 0 0] 63)).alloc (Obj.cells #[Value.int IntKind.i64 x, Value.slice none 0 0] 63)) g bs p none 0 (x, []) :=
 ⟨(Blk.new w _ _).alloc _, by simpa using Blk.new (w.alloc (Obj.cells #[Value.int IntKind.i64 0, Value.slice none 0 0] 63)) 63 #[.int .i64 x, .slice none 0 0], World.ownsRow_nil _ _ _ _, h.below (za0 w _ _) h.lt, zl.of_below (za0 w _ _)⟩
set_option maxHeartbeats 4000000 in
theorem ziO (g : Nat) (bs : List Nat) (p lo hi j m n : Nat) (v : Value) (ar : List Int) (w : World) (h : Rdr w g bs p) (hp : p <= 1048576) (ha : zg w lo hi v ar) (hg : g < lo) (_hh : hi <= w.heap.size) (hj : j < ar.length) (hm : ar[j] = (m : Int)) (hm2 : m <= 2) (hl : ar.length <= 1048576) (hn : n <= 3) :
 Calls Tryz.prog 176 #[.pointer (some ⟨g, 0, none⟩), v, .int .i64 j, .int .i64 n] w fun e w' => ∃ (A : Option Addr) (c : Nat) (xs : List Int) (q : Nat), e = .returned (.agg #[.int .i64 j, .slice A xs.length c]) /\ (xs.length <= 2 /\ ∀ t ∈ xs, -4 <= t) /\ q <= p + 6 /\
  zg w' w.heap.size w'.heap.size (.slice A xs.length c) xs /\ Rdr w' g bs q /\ zl g (g + 1) w w' := by
 obtain ⟨i0, hi0, hz0, hz1, hz2⟩ := info_parts Tryz.infoInt
 have hgl := h.lt
 have HOW := Lib.hid ha
 have HM := Lib.hid hm
 have HS := Lib.hid (zaJ.startAt h (j : Int))
 obtain ⟨A0, c0, hv0⟩ := ha.form
 subst hv0
 clear h ha hm
 go_enter Tryz.func176, Tryz.ntmps176
 go_wp2_with (fail)
 go_loopw [10] (fun i wr => ∃ (k : Nat) (A : Option Addr) (c : Nat) (xs : List Int) (q : Nat), k <= m /\ i = .int .i64 k /\ (xs.length = k /\ ∀ t ∈ xs, -4 <= t) /\ q <= p + 3 * k /\ zaJ w wr g bs q A c ((j : Int), xs)) (fun i _ => m - (intOf i).toNat)
 case atStart => exact ⟨0, none, 0, [], p, Nat.zero_le _, rfl, ⟨rfl, fun t ht => absurd ht (by simp)⟩, by omega, HS.out⟩
 case round =>
  obtain ⟨k, A, c, xs, q, hk, rfl, ⟨hxl, hxt⟩, hq, hfr⟩ := hrel
  have HXT := Lib.hid hxt
  clear hxt
  have HXL := Lib.hid hxl
  have hxl2 : xs.length <= 2 := by omega
  have how := HOW.out.only hfr.only (.inr (by omega))
  obtain ⟨A', c', e0, hc', hcell⟩ := how.rd
  injection e0 with e1 e3 e2
  clear e3
  subst e1
  subst e2
  obtain ⟨b, o, rfl, hbB, hx⟩ := hcell (by omega)
  have k3 : wr.cell? ⟨b, o + j, none⟩ = some (.int .i64 (m : Int)) := by rw [hx j hj, HM.out]
  have HR := Lib.hid hfr
  clear hcell hx hfr how hxl
  by_cases hlt : k < m
  ·go_wp2_with (fail)
   refine (zak g bs q 3 _ HR.out.rdr (by omega) (by omega)).mono ?_
   rintro e w1 ⟨⟨x1, rfl, hx1⟩, hp1⟩
   have HX1 := Lib.hid (show ∀ t ∈ xs ++ [x1], -4 <= t from fun t ht => by
    rcases List.mem_append.1 ht with ht | ht
    ·exact HXT.out t ht
    ·have := hx1.1 (by omega)
     rw [List.mem_singleton.1 ht]
     omega)
   clear hx1
   have H1 := Lib.hid (HR.out.pick hgl hp1)
   clear hp1
   by_cases hn0 : 0 < n
   ·have hnb : decide ((0 : Int) < (n : Int)) = true := by simpa using hn0
    go_wp2_with (fail)
    refine (zak g bs (q + 1) 5 _ H1.out.rdr (by omega) (by omega)).mono ?_
    rintro e w2 ⟨⟨x2, rfl, _⟩, hp2⟩
    have H2 := Lib.hid (H1.out.pick hgl hp2)
    clear hp2
    by_cases hx2 : 0 < x2
    ·have hxb : decide (0 < x2) = true := by simpa using hx2
     go_wp2_with (fail)
     refine (zak g bs (q + 1 + 1) n _ H2.out.rdr (by omega) (by omega)).mono ?_
     rintro e w3 ⟨⟨x3, rfl, hx3⟩, hp3⟩
     have hx3r : 0 <= x3 /\ x3 < n := hx3.1 (by omega)
     obtain ⟨wS, rfl⟩ : ∃ wS, wS = w3 := ⟨_, rfl⟩
     have H3 := Lib.hid (H2.out.pick hgl hp3)
     have hw3 : IntKind.i64.wrap (-1 - x3) = -1 - x3 := by
      unfold IntKind.wrap
      simp [IntKind.bits, IntKind.signed] <;> omega
     have HX3 := Lib.hid (show ∀ t ∈ xs ++ [(-1 - x3)], -4 <= t from fun t ht => by
      rcases List.mem_append.1 ht with ht | ht
      ·exact HXT.out t ht
      ·rw [List.mem_singleton.1 ht]
       omega)
     clear hp3 hx3
     have a1 : wS.cell? ⟨w.heap.size + 1, 1, none⟩ = some (.slice A xs.length c) := H3.out.fact.cell 1
     go_wp2_with (at_builtin; refine wpList_append_lies _ rfl (.tmp 36) (.tmp 38) 23 rfl (w.heap.size + 2) 3 i0 (.int .i64 0) 1 8 Tryz.underlying23 hi0 hz0 hz1 hz2 rfl (by decide) (.slice A xs.length c) xs.length (xs.map (Value.int .i64)) rfl ?c1 ⟨wS.heap.size, 0, none⟩ 1 1 [.int .i64 (-1 - x3)] rfl rfl (cell_one_new _ _ _) ?c2 (by omega) (by unfold maxLen; omega) (by omega) ?c3 _ rfl ?_)
     case c1 => exact (H3.out.alloc _).own
     case c2 => intro u hu; simp at hu; subst hu; rfl
     case c3 => exact (H3.out.alloc _).fact.lt
     intro g2 cap w5 hown hgr _ _
     have HST := Lib.hid (zaJ.push (H3.out.alloc _) hgl hgr hown)
     have hkf := zaJ.keepFact (H3.out.alloc _) hgr
     have e1 : w5.cell? ⟨w.heap.size + 1, 1, none⟩ = some (.slice A xs.length c) := hkf.cell 1
     have e2 := hkf.frozen 1
     clear hkf hown hgr
     go_wp2_with (fail)
     go_roundw
     case rel => exact ⟨k + 1, _, _, xs ++ [(-1 - x3)], q + 1 + 1 + 1, by omega, by go_num, ⟨by simp; exact HXL.out, HX3.out⟩, by omega, by simpa using HST.out⟩
     case measure => simp [intOf]; omega
    ·have hxb : decide (0 < x2) = false := by simpa using hx2
     obtain ⟨wS, rfl⟩ : ∃ wS, wS = w2 := ⟨_, rfl⟩
     have a1 : wS.cell? ⟨w.heap.size + 1, 1, none⟩ = some (.slice A xs.length c) := H2.out.fact.cell 1
     go_wp2_with (at_builtin; refine wpList_append_lies _ rfl (.tmp 36) (.tmp 38) 23 rfl (w.heap.size + 2) 3 i0 (.int .i64 0) 1 8 Tryz.underlying23 hi0 hz0 hz1 hz2 rfl (by decide) (.slice A xs.length c) xs.length (xs.map (Value.int .i64)) rfl ?c1 ⟨wS.heap.size, 0, none⟩ 1 1 [.int .i64 x1] rfl rfl (cell_one_new _ _ _) ?c2 (by omega) (by unfold maxLen; omega) (by omega) ?c3 _ rfl ?_)
     case c1 => exact (H2.out.alloc _).own
     case c2 => intro u hu; simp at hu; subst hu; rfl
     case c3 => exact (H2.out.alloc _).fact.lt
     intro g2 cap w5 hown hgr _ _
     have HST := Lib.hid (zaJ.push (H2.out.alloc _) hgl hgr hown)
     have hkf := zaJ.keepFact (H2.out.alloc _) hgr
     have e1 : w5.cell? ⟨w.heap.size + 1, 1, none⟩ = some (.slice A xs.length c) := hkf.cell 1
     have e2 := hkf.frozen 1
     clear hkf hown hgr
     go_wp2_with (fail)
     go_roundw
     case rel => exact ⟨k + 1, _, _, xs ++ [x1], q + 1 + 1, by omega, by go_num, ⟨by simp; exact HXL.out, HX1.out⟩, by omega, by simpa using HST.out⟩
     case measure => simp [intOf]; omega
   ·have hnb : decide ((0 : Int) < (n : Int)) = false := by simpa using hn0
    obtain ⟨wS, rfl⟩ : ∃ wS, wS = w1 := ⟨_, rfl⟩
    have a1 : wS.cell? ⟨w.heap.size + 1, 1, none⟩ = some (.slice A xs.length c) := H1.out.fact.cell 1
    go_wp2_with (at_builtin; refine wpList_append_lies _ rfl (.tmp 36) (.tmp 38) 23 rfl (w.heap.size + 2) 3 i0 (.int .i64 0) 1 8 Tryz.underlying23 hi0 hz0 hz1 hz2 rfl (by decide) (.slice A xs.length c) xs.length (xs.map (Value.int .i64)) rfl ?c1 ⟨wS.heap.size, 0, none⟩ 1 1 [.int .i64 x1] rfl rfl (cell_one_new _ _ _) ?c2 (by omega) (by unfold maxLen; omega) (by omega) ?c3 _ rfl ?_)
    case c1 => exact (H1.out.alloc _).own
    case c2 => intro u hu; simp at hu; subst hu; rfl
    case c3 => exact (H1.out.alloc _).fact.lt
    intro g2 cap w5 hown hgr _ _
    have HST := Lib.hid (zaJ.push (H1.out.alloc _) hgl hgr hown)
    have hkf := zaJ.keepFact (H1.out.alloc _) hgr
    have e1 : w5.cell? ⟨w.heap.size + 1, 1, none⟩ = some (.slice A xs.length c) := hkf.cell 1
    have e2 := hkf.frozen 1
    clear hkf hown hgr
    go_wp2_with (fail)
    go_roundw
    case rel => exact ⟨k + 1, _, _, xs ++ [x1], q + 1, by omega, by go_num, ⟨by simp; exact HXL.out, HX1.out⟩, by omega, by simpa using HST.out⟩
    case measure => simp [intOf]; omega
  ·have hkn : xs.length = m := by have := HXL.out; omega
   have hf := HR.out
   have q0 : wr.cell? ⟨w.heap.size + 1, 0, none⟩ = some (.int .i64 (j : Int)) := hf.fact.cell 0
   have q1 : wr.cell? ⟨w.heap.size + 1, 1, none⟩ = some (.slice A xs.length c) := hf.fact.cell 1
   have j0 : wr.cell? ⟨w.heap.size, 0, none⟩ = some (.int .i64 0) := hf.res.cell 0
   have j1 : wr.cell? ⟨w.heap.size, 1, none⟩ = some (.slice none 0 0) := hf.res.cell 1
   have l0 := hf.res.frozen 0
   have l1 := hf.res.frozen 1
   obtain ⟨hd0, hd1, hd2, hd3⟩ := hf.done hgl
   have HD := Lib.hid (And.intro hd0 (And.intro hd1 hd2))
   obtain ⟨W, hW⟩ : ∃ W, W = (wr.setCell ⟨w.heap.size, 0, none⟩ (.int .i64 (j : Int))).setCell ⟨w.heap.size, 1, none⟩ (.slice A xs.length c) := ⟨_, rfl⟩
   have HD := Lib.hid (show W.ownsRow (w.heap.size + 2) 3 1 (.slice A xs.length c) xs.length (xs.map (Value.int .i64)) /\ Rdr W g bs q /\ zl g (g + 1) w W from by rw [hW]; exact HD.out)
   have d0 : W.cell? ⟨w.heap.size, 0, none⟩ = some (.int .i64 (j : Int)) := by rw [hW]; exact hd3.cell 0
   have d1 : W.cell? ⟨w.heap.size, 1, none⟩ = some (.slice A xs.length c) := by rw [hW]; exact hd3.cell 1
   have HW := Lib.hid hW
   clear hW hd0 hd1 hd2 hd3 hf hkn
   go_wp2_with (fail)
   rw [<- HW.out]
   refine bodyPost_ret (v := .agg #[.int .i64 (j : Int), .slice A xs.length c]) (by simp [results, Tryz.results176, go_sem, d0, d1]) rfl ?_
   obtain ⟨h1, h2, h3⟩ := HD.out
   exact ⟨A, c, xs, rfl, ⟨hxl2, HXT.out⟩, q, by omega, (show zg _ _ _ _ _ from ⟨h1, fun b hb => (h1.lt b hb).2⟩).mono (Nat.le_add_right _ 2) (Nat.le_refl _), h2, h3⟩
open Go.RowKit
theorem zmp (n : Int) (w : World) : Calls Tryz.prog 158 #[.int .i64 n] w fun e w' => e = .returned (.bool (zz n)) /\ w = w' := by
 by_cases h1 : zaC n = true
 ·have HE := Lib.hid (show zz n = true by simp [zaC] at h1; simp [zz]; omega)
  go_enter Tryz.func158, Tryz.ntmps158
  go_wp2_with (go_at_call 138; refine (zdf h1 _).mono ?_; rintro e w' ⟨rfl, rfl⟩)
  go_ret
  exact ⟨zi HE.out.symm, rfl⟩
 ·have h2 : zaC n = false := by simpa using h1
  by_cases h3 : 0 <= n
  ·have hd : decide (0 <= n) = true := by simpa using h3
   by_cases h4 : n <= 5
   ·have HE := Lib.hid (show zz n = true by simp [zz]; omega)
    go_enter Tryz.func158, Tryz.ntmps158
    go_wp2_with (go_at_call 138; refine (zdf h2 _).mono ?_; rintro e w' ⟨rfl, rfl⟩)
    go_ret
    exact ⟨zi HE.out.symm, rfl⟩
   ·have HE := Lib.hid (show zz n = false by simp [zz]; omega)
    go_enter Tryz.func158, Tryz.ntmps158
    go_wp2_with (go_at_call 138; refine (zdf h2 _).mono ?_; rintro e w' ⟨rfl, rfl⟩)
    go_ret
    exact ⟨zi (by rw [HE.out]; simp; omega), rfl⟩
  ·have hd : decide (0 <= n) = false := by simpa using h3
   have HE := Lib.hid (show zz n = false by simp [zaC] at h2; simp [zz]; omega)
   go_enter Tryz.func158, Tryz.ntmps158
   go_wp2_with (go_at_call 138; refine (zdf h2 _).mono ?_; rintro e w' ⟨rfl, rfl⟩)
   go_ret
   exact ⟨zi HE.out.symm, rfl⟩
theorem zjQ {n : Int} {b : Bool} (h : zz n = b) (w : World) : Calls Tryz.prog 158 #[.int .i64 n] w fun e w' => e = .returned (.bool b) /\ w = w' := h ▸ zmp n w
set_option maxHeartbeats 400000 in
theorem zg6 (v : Value) (xs : List Int) (B : Nat) (w : World) (h : zv w B v xs) (hr : xs.length <= 1048576) :
 Calls Tryz.prog 127 #[v] w fun e w' => e = .returned (.bool (xs.all zz)) /\ w = w' := by
 obtain ⟨A, c, rfl, hc, ha⟩ := h
 go_enter Tryz.func127, Tryz.ntmps127
 go_wp2_with (fail)
 go_loop [4, 7] (fun _ i => ∃ k : Nat, k <= xs.length /\ i = .int .i64 k /\ zbf zz xs k) (fun _ i => xs.length - (intOf i).toNat)
 case atStart => exact ⟨0, Nat.zero_le _, rfl, zbf.start⟩
 case round =>
  obtain ⟨k, hk, rfl, hs⟩ := hrel
  by_cases hlt : k < xs.length
  ·obtain ⟨b, o, rfl, hbB, hx⟩ := ha (by omega)
   have hck : w.cell? ⟨b, o + k, none⟩ = some (.int .i64 xs[k]) := hx k hlt
   clear hx ha
   by_cases he : zz xs[k] = true
   ·have HS := Lib.hid (hs.step hlt he)
    clear hs
    go_wp2_with (go_at_call 158; refine (zjQ he _).mono ?_; rintro e w' ⟨rfl, rfl⟩)
    go_round
    case rel => exact ⟨k + 1, by omega, by go_num, HS.out⟩
    case measure => simp [intOf]; omega
   ·have he' : zz xs[k] = false := by simpa using he
    have HE := Lib.hid (zcp hlt he')
    clear hs he
    go_wp2_with (go_at_call 158; refine (zjQ he' _).mono ?_; rintro e w' ⟨rfl, rfl⟩)
    go_ret
    exact ⟨zi HE.out.symm, rfl⟩
  ·have HE := Lib.hid (hs.done (by omega))
   clear hs ha
   go_wp2_with (fail)
   go_ret
   exact ⟨zi HE.out.symm, rfl⟩
set_option maxHeartbeats 400000 in
theorem zfu (v : Value) (xs : List Int) (B : Nat) (w : World) (h : zv w B v xs) (hr : xs.length <= 1048576) :
 Calls Tryz.prog 131 #[v] w fun e w' => e = .returned (.bool (xs.all zz)) /\ w = w' := by
 obtain ⟨A, c, rfl, hc, ha⟩ := h
 go_enter Tryz.func131, Tryz.ntmps131
 go_wp2_with (fail)
 go_loop [3] (fun i => ∃ k : Nat, k <= xs.length /\ i = .int .i64 k /\ zbf zz xs k) (fun i => xs.length - (intOf i).toNat)
 case atStart => exact ⟨0, Nat.zero_le _, rfl, zbf.start⟩
 case round =>
  obtain ⟨k, hk, rfl, hs⟩ := hrel
  by_cases hlt : k < xs.length
  ·obtain ⟨b, o, rfl, hbB, hx⟩ := ha (by omega)
   have hck : w.cell? ⟨b, o + k, none⟩ = some (.int .i64 xs[k]) := hx k hlt
   clear hx ha
   by_cases he : -4 <= xs[k] /\ xs[k] <= 5
   ·have HS := Lib.hid (hs.step hlt (by simpa [zz] using he))
    have HK := Lib.hid (zb1 he)
    clear hs he
    go_wp2_with (go_at_call 96; refine (HK.out _).mono ?_; rintro e w' ⟨rfl, rfl⟩)
    go_round
    case rel => exact ⟨k + 1, by omega, by go_num, HS.out⟩
    case measure => simp [intOf]; omega
   ·have HE := Lib.hid (zcp hlt (show zz xs[k] = false by simpa [zz] using he))
    have HK := Lib.hid (zeW he)
    clear hs he
    go_wp2_with (go_at_call 96; refine (HK.out _).mono ?_; rintro e w' ⟨rfl, rfl⟩)
    go_ret
    exact ⟨zi HE.out.symm, rfl⟩
  ·have HE := Lib.hid (hs.done (by omega))
   clear hs ha
   go_wp2_with (fail)
   go_ret
   exact ⟨zi HE.out.symm, rfl⟩
open Go.RowKit
def zah (ar : List Int) (f : zd) : Bool := decide (0 <= f.1 /\ f.1 < ar.length /\ (f.2.length : Int) = ar.getD f.1.toNat 0) && f.2.all zz
def zck (ar : List Int) (f : zd) : Bool := zr ar && zah ar f
set_option maxHeartbeats 1000000 in
theorem zg5 (v v2 : Value) (ar : List Int) (f : zd) (w : World) (h : zv w w.heap.size v ar) (h2 : zU w w.heap.size v2 f) (hn : f.2.length <= 1048576) :
 Calls Tryz.prog 106 #[v, v2] w fun e w' => e = .returned (.bool (zah ar f)) /\ Below w.heap.size w w' := by
 obtain ⟨pp, xs⟩ := f
 obtain ⟨A, c, rfl, hc, h⟩ := h
 obtain ⟨a, rfl, h2⟩ := h2
 have HT := Lib.hid (fun n (O : Obj) => zaH (zg6 a xs w.heap.size ((w.alloc O).drewN n) ((h2.below (ze w O) (Nat.le_refl _)).below (zX (Below.refl _ _) _) (Nat.le_refl _)) hn))
 obtain ⟨A2, c2, rfl, hc2, h2⟩ := h2
 by_cases h0 : pp < 0
 ·have hd : decide (0 <= pp) = false := by simpa using h0
  have HE := Lib.hid (show zah ar (pp, xs) = false by simp [zah]; omega)
  go_enter Tryz.func106, Tryz.ntmps106
  go_wp2_with (fail)
  go_quiet (fail)
  go_wp2_with (fail)
  go_ret
  exact ⟨zi HE.out.symm, zX (ze _ _) _⟩
 ·have hd : decide (0 <= pp) = true := by simpa using h0
  obtain ⟨p, rfl⟩ := Int.eq_ofNat_of_zero_le (Int.not_lt.1 h0)
  by_cases h1 : (ar.length : Int) <= p
  ·have hd1 : decide (p < ar.length) = false := by simp; omega
   have HE := Lib.hid (show zah ar ((p : Int), xs) = false by simp [zah]; omega)
   go_enter Tryz.func106, Tryz.ntmps106
   go_wp2_with (fail)
   go_quiet (fail)
   go_wp2_with (fail)
   go_ret
   exact ⟨zi HE.out.symm, zX (ze _ _) _⟩
  ·have hlt : p < ar.length := by omega
   have hltI : (p : Int) < (ar.length : Int) := by omega
   have hd1 : decide ((p : Int) < (ar.length : Int)) = true := by simpa using hltI
   obtain ⟨b, o, rfl, hbB, hx⟩ := h (by omega)
   have hck : ∀ O, (w.alloc O).cell? ⟨b, o + p, none⟩ = some (.int .i64 ar[p]) := fun O => (World.cell?_alloc_lt w O ⟨b, o + p, none⟩ hbB).trans (hx p hlt)
   by_cases h3 : (xs.length : Int) = ar[p]
   ·have hd3 : ((xs.length : Int) == ar[p]) = true := by simp [h3]
    have H3 := Lib.hid (show zah ar ((p : Int), xs) = xs.all zz by simp [zah, hlt, h3])
    clear h3 hx h
    go_enter Tryz.func106, Tryz.ntmps106
    go_wp2_with (fail)
    go_quiet ((go_at_call 127; exact HT.out _ _))
    go_wp2_with (fail)
    go_ret
    exact ⟨zi H3.out.symm, zX (ze _ _) _⟩
   ·have hd3 : ((xs.length : Int) == ar[p]) = false := by simp [h3]
    have HE := Lib.hid (show zah ar ((p : Int), xs) = false by simp [zah, hlt, h3])
    clear h3 hx h
    go_enter Tryz.func106, Tryz.ntmps106
    go_wp2_with (fail)
    go_quiet (fail)
    go_wp2_with (fail)
    go_ret
    exact ⟨zi HE.out.symm, zX (ze _ _) _⟩
set_option maxHeartbeats 1000000 in
theorem zfk (v v2 : Value) (ar : List Int) (f : zd) (w : World) (h : zv w w.heap.size v ar) (h2 : zU w w.heap.size v2 f) (hr : ar.length <= 1048576) (hn : f.2.length <= 1048576) :
 Calls Tryz.prog 110 #[v, v2] w fun e w' => e = .returned (.bool (zck ar f)) /\ Below w.heap.size w w' := by
 have H := Lib.hid h
 obtain ⟨pp, xs⟩ := f
 obtain ⟨A, c, rfl, hc, h⟩ := h
 obtain ⟨a, rfl, h2⟩ := h2
 have HT := Lib.hid (fun n (O : Obj) => zaH (zfu a xs w.heap.size ((w.alloc O).drewN n) ((h2.below (ze w O) (Nat.le_refl _)).below (zX (Below.refl _ _) _) (Nat.le_refl _)) hn))
 obtain ⟨A2, c2, rfl, hc2, h2⟩ := h2
 by_cases ha : zr ar = true
 ·have CA : ∀ W, Below w.heap.size w W -> Calls Tryz.prog 60 #[.slice A ar.length c] W fun e w' => e = .returned (.bool true) /\ w' = W := fun W hW =>
   (zaU _ ar W (H.out.on hW) (by omega)).mono fun e w' ⟨he, hw⟩ => ⟨by rw [he, ha], hw.symm⟩
  have HCA := Lib.hid CA
  have HA := Lib.hid ha
  clear CA ha
  by_cases hp : 0 <= pp /\ pp <= (ar.length : Int) - 1
  ·have HCL := Lib.hid (zb1 hp)
   obtain ⟨p, rfl⟩ := Int.eq_ofNat_of_zero_le hp.1
   have hlt : p < ar.length := by omega
   have hltI : (p : Int) < (ar.length : Int) := by omega
   obtain ⟨b, o, rfl, hbB, hx⟩ := h (by omega)
   have hck : ∀ O, (w.alloc O).cell? ⟨b, o + p, none⟩ = some (.int .i64 ar[p]) := fun O => (World.cell?_alloc_lt w O ⟨b, o + p, none⟩ hbB).trans (hx p hlt)
   clear hp
   by_cases h3 : (xs.length : Int) = ar[p]
   ·have hd3 : ((xs.length : Int) == ar[p]) = true := by simp [h3]
    have H3 := Lib.hid (show zck ar ((p : Int), xs) = xs.all zz by simp [zck, HA.out, zah, hlt, h3])
    clear h3 hx h
    go_enter Tryz.func110, Tryz.ntmps110
    go_wp2_with (fail)
    go_quiet (first | (go_at_call 60; exact Calls.quiet_of_same (HCA.out _ (zX (ze _ _) _))) | (go_at_call 96; exact zaH (HCL.out _)) | (go_at_call 131; exact HT.out _ _))
    go_wp2_with (fail)
    go_ret
    exact ⟨zi H3.out.symm, zX (ze _ _) _⟩
   ·have hd3 : ((xs.length : Int) == ar[p]) = false := by simp [h3]
    have HE := Lib.hid (show zck ar ((p : Int), xs) = false by simp [zck, zah, hlt, h3])
    clear h3 hx h
    go_enter Tryz.func110, Tryz.ntmps110
    go_wp2_with (fail)
    go_quiet (first | (go_at_call 60; exact Calls.quiet_of_same (HCA.out _ (zX (ze _ _) _))) | (go_at_call 96; exact zaH (HCL.out _)))
    go_wp2_with (fail)
    go_ret
    exact ⟨zi HE.out.symm, zX (ze _ _) _⟩
  ·have HCL := Lib.hid (zeW hp)
   have HE := Lib.hid (show zck ar (pp, xs) = false by simp [zck, zah]; omega)
   clear hp
   go_enter Tryz.func110, Tryz.ntmps110
   go_wp2_with (fail)
   go_quiet (first | (go_at_call 60; exact Calls.quiet_of_same (HCA.out _ (zX (ze _ _) _))) | (go_at_call 96; exact zaH (HCL.out _)))
   go_wp2_with (fail)
   go_ret
   exact ⟨zi HE.out.symm, zX (ze _ _) _⟩
 ·have CA : ∀ W, Below w.heap.size w W -> Calls Tryz.prog 60 #[.slice A ar.length c] W fun e w' => e = .returned (.bool false) /\ w' = W := fun W hW =>
   (zaU _ ar W (H.out.on hW) (by omega)).mono fun e w' ⟨he, hw⟩ => ⟨by rw [he, show zr ar = false by simpa using ha], hw.symm⟩
  have HCA := Lib.hid CA
  have HE := Lib.hid (show zck ar (pp, xs) = false by simp [zck, ha])
  clear CA ha
  go_enter Tryz.func110, Tryz.ntmps110
  go_wp2_with (fail)
  go_quiet (first | (go_at_call 60; exact Calls.quiet_of_same (HCA.out _ (zX (ze _ _) _))))
  go_wp2_with (fail)
  go_ret
  exact ⟨zi HE.out.symm, zX (ze _ _) _⟩
open Go.RowKit
abbrev Ren := List Int × Nat
open Go.RowKit
def zaO (ar : List Int) (l : zC) : Bool :=
 if l.1 = 0 \/ l.1 = 1 then zah ar l.2 else if l.1 = 2 \/ l.1 = 3 then (decide (l.2.1 = 0) && decide (l.2.2.length = 2) && l.2.2.all zz) else false
def zcX (ar : List Int) (l : zC) : Bool := zr ar && zaO ar l
def zcd (f : zd) : Bool := decide (f.1 = 0) && decide (f.2.length = 2) && f.2.all zz
set_option maxHeartbeats 1000000 in
theorem zgY (v : Value) (f : zd) (w : World) (h : zU w w.heap.size v f) (hn : f.2.length <= 1048576) :
 Calls Tryz.prog 128 #[v] w fun e w' => e = .returned (.bool (zcd f)) /\ Below w.heap.size w w' := by
 obtain ⟨pp, xs⟩ := f
 obtain ⟨a, rfl, h2⟩ := h
 have H2 := Lib.hid (h2.on (ze w (.cells #[.int .i64 pp, a] 63)))
 obtain ⟨A2, c2, rfl, hc2, _⟩ := h2
 have CT := Lib.hid (zg6 _ xs _ _ H2.out hn)
 by_cases hp : pp = 0
 ·subst hp
  by_cases hx : xs.length = 2
  ·have hx2 : ((xs.length : Int) == 2) = true := by simp; omega
   have HE2 := Lib.hid (show zcd (0, xs) = xs.all zz by simp [zcd, hx])
   clear hx
   go_enter Tryz.func128, Tryz.ntmps128
   go_wp2_with (go_at_call 127; refine CT.out.mono ?_; rintro e w5 ⟨rfl, rfl⟩)
   go_ret
   exact ⟨zi HE2.out.symm, ze _ _⟩
  ·have hx2 : ((xs.length : Int) == 2) = false := by simp; omega
   have HE2 := Lib.hid (show zcd (0, xs) = false by simp [zcd, hx])
   clear hx
   go_enter Tryz.func128, Tryz.ntmps128
   go_wp2_with (fail)
   go_ret
   exact ⟨zi HE2.out.symm, ze _ _⟩
 ·have hp2 : (pp == 0) = false := by simpa using hp
  have HE2 := Lib.hid (show zcd (pp, xs) = false by simp [zcd, hp])
  clear hp
  go_enter Tryz.func128, Tryz.ntmps128
  go_wp2_with (fail)
  go_ret
  exact ⟨zi HE2.out.symm, ze _ _⟩
set_option maxHeartbeats 1000000 in
theorem zlb (v v2 : Value) (ar : List Int) (l : zC) (w : World) (h : zv w w.heap.size v ar) (h2 : zf2 w w.heap.size v2 l) (hn : l.2.2.length <= 1048576) :
 Calls Tryz.prog 107 #[v, v2] w fun e w' => e = .returned (.bool (zaO ar l)) /\ Below w.heap.size w w' := by
 have H := Lib.hid h
 obtain ⟨kd, pp, xs⟩ := l
 obtain ⟨A, c, rfl, hc, _⟩ := h
 obtain ⟨a, rfl, h2⟩ := h2
 have H2 := Lib.hid (h2.on (ze w (.cells #[.int .i64 kd, .int .i64 pp, a] 68)))
 obtain ⟨A2, c2, rfl, hc2, _⟩ := h2
 by_cases ka : kd = 0 \/ kd = 1
 ·have HE := Lib.hid (show zaO ar (kd, pp, xs) = zah ar (pp, xs) by simp [zaO, ka])
  rcases ka with rfl | rfl
  all_goals
   go_enter Tryz.func107, Tryz.ntmps107
   go_wp2_with (go_at_call 106; refine (zg5 _ _ ar (pp, xs) _ (H.out.on (ze _ _)) ⟨_, rfl, H2.out⟩ hn).mono ?_; rintro e w5 ⟨rfl, hb5⟩)
   go_ret
   exact ⟨zi HE.out.symm, zf (ze _ _) hb5⟩
 ·have k0 : (kd == 0) = false := by simp; omega
  have k1 : (kd == 1) = false := by simp; omega
  by_cases kb : kd = 2 \/ kd = 3
  ·have HE := Lib.hid (show zaO ar (kd, pp, xs) = zcd (pp, xs) by simp [zaO, zcd, ka, kb])
   clear ka k0 k1
   rcases kb with rfl | rfl
   all_goals
    go_enter Tryz.func107, Tryz.ntmps107
    go_wp2_with (go_at_call 128; refine (zgY _ (pp, xs) _ ⟨_, rfl, H2.out⟩ hn).mono ?_; rintro e w5 ⟨rfl, hb5⟩)
    go_ret
    exact ⟨zi HE.out.symm, zf (ze _ _) hb5⟩
  ·have k2 : (kd == 2) = false := by simp; omega
   have k3 : (kd == 3) = false := by simp; omega
   have HE := Lib.hid (show zaO ar (kd, pp, xs) = false by simp [zaO, ka, kb])
   clear ka kb
   go_enter Tryz.func107, Tryz.ntmps107
   go_wp2_with (fail)
   go_ret
   exact ⟨zi HE.out.symm, ze _ _⟩
set_option maxHeartbeats 1000000 in
theorem zjk (v v2 : Value) (ar : List Int) (l : zC) (w : World) (h : zv w w.heap.size v ar) (h2 : zf2 w w.heap.size v2 l) (hr : ar.length <= 1048576) (hn : l.2.2.length <= 1048576) :
 Calls Tryz.prog 109 #[v, v2] w fun e w' => e = .returned (.bool (zcX ar l)) /\ Below w.heap.size w w' := by
 have H := Lib.hid h
 obtain ⟨kd, pp, xs⟩ := l
 obtain ⟨A, c, rfl, hc, _⟩ := h
 obtain ⟨a, rfl, h2⟩ := h2
 have H2 := Lib.hid (h2.on (ze w (.cells #[.int .i64 kd, .int .i64 pp, a] 68)))
 obtain ⟨A2, c2, rfl, hc2, _⟩ := h2
 by_cases ka : kd = 0 \/ kd = 1
 ·have HE := Lib.hid (show zcX ar (kd, pp, xs) = zck ar (pp, xs) by simp [zcX, zck, zaO, ka])
  rcases ka with rfl | rfl
  all_goals
   go_enter Tryz.func109, Tryz.ntmps109
   go_wp2_with (go_at_call 110; refine (zfk _ _ ar (pp, xs) _ (H.out.on (ze _ _)) ⟨_, rfl, H2.out⟩ hr hn).mono ?_; rintro e w5 ⟨rfl, hb5⟩)
   go_ret
   exact ⟨zi HE.out.symm, zf (ze _ _) hb5⟩
 ·have k0 : (kd == 0) = false := by simp; omega
  have k1 : (kd == 1) = false := by simp; omega
  by_cases ha : zr ar = true
  ·have CA := Lib.hid ((zaU _ ar _ (H.out.on (ze w (.cells #[.int .i64 kd, .int .i64 pp, .slice A2 xs.length c2] 68))) (by omega)).mono fun e w' (hh : e = .returned (.bool (zr ar)) /\ _ = w') => (⟨by rw [hh.1, ha], hh.2⟩ : e = .returned (.bool true) /\ _ = w'))
   have HA := Lib.hid ha
   clear ha
   by_cases kb : kd = 2 \/ kd = 3
   ·have HE := Lib.hid (show zcX ar (kd, pp, xs) = (decide (pp = 0) && decide (xs.length = 2) && xs.all zz) by simp [zcX, HA.out, zaO, ka, kb])
    clear ka k0 k1
    have CT := Lib.hid (zfu _ xs _ _ H2.out hn)
    by_cases hp : pp = 0
    ·subst hp
     by_cases hx : xs.length = 2
     ·have hx2 : ((xs.length : Int) == 2) = true := by simp; omega
      have HE2 := Lib.hid (show zcX ar (kd, 0, xs) = xs.all zz by rw [HE.out]; simp [hx])
      clear hx
      rcases kb with rfl | rfl
      all_goals
       go_enter Tryz.func109, Tryz.ntmps109
       go_wp2_with (first | (go_at_call 60; refine CA.out.mono ?_; rintro e w5 ⟨rfl, rfl⟩) | (go_at_call 131; refine CT.out.mono ?_; rintro e w5 ⟨rfl, rfl⟩))
       go_ret
       exact ⟨zi HE2.out.symm, ze _ _⟩
     ·have hx2 : ((xs.length : Int) == 2) = false := by simp; omega
      have HE2 := Lib.hid (show zcX ar (kd, 0, xs) = false by rw [HE.out]; simp [hx])
      clear hx
      rcases kb with rfl | rfl
      all_goals
       go_enter Tryz.func109, Tryz.ntmps109
       go_wp2_with (go_at_call 60; refine CA.out.mono ?_; rintro e w5 ⟨rfl, rfl⟩)
       go_ret
       exact ⟨zi HE2.out.symm, ze _ _⟩
    ·have hp2 : (pp == 0) = false := by simpa using hp
     have HE2 := Lib.hid (show zcX ar (kd, pp, xs) = false by rw [HE.out]; simp [hp])
     clear hp
     rcases kb with rfl | rfl
     all_goals
      go_enter Tryz.func109, Tryz.ntmps109
      go_wp2_with (go_at_call 60; refine CA.out.mono ?_; rintro e w5 ⟨rfl, rfl⟩)
      go_ret
      exact ⟨zi HE2.out.symm, ze _ _⟩
   ·have k2 : (kd == 2) = false := by simp; omega
    have k3 : (kd == 3) = false := by simp; omega
    have HE := Lib.hid (show zcX ar (kd, pp, xs) = false by simp [zcX, zaO, ka, kb])
    clear ka kb
    go_enter Tryz.func109, Tryz.ntmps109
    go_wp2_with (go_at_call 60; refine CA.out.mono ?_; rintro e w5 ⟨rfl, rfl⟩)
    go_ret
    exact ⟨zi HE.out.symm, ze _ _⟩
  ·have CA := Lib.hid ((zaU _ ar _ (H.out.on (ze w (.cells #[.int .i64 kd, .int .i64 pp, .slice A2 xs.length c2] 68))) (by omega)).mono fun e w' (hh : e = .returned (.bool (zr ar)) /\ _ = w') => (⟨by rw [hh.1, show zr ar = false by simpa using ha], hh.2⟩ : e = .returned (.bool false) /\ _ = w'))
   have HE := Lib.hid (show zcX ar (kd, pp, xs) = false by simp [zcX, ha])
   clear ha ka
   go_enter Tryz.func109, Tryz.ntmps109
   go_wp2_with (go_at_call 60; refine CA.out.mono ?_; rintro e w5 ⟨rfl, rfl⟩)
   go_ret
   exact ⟨zi HE.out.symm, ze _ _⟩
open Go.RowKit
set_option maxHeartbeats 400000 in
theorem zkL (v : Value) (ls : List zC) (w : World) (h : za6 w w.heap.size v ls) (hr : ls.length <= 1048576) (ht : zbB ls <= 1048576) :
 Calls Tryz.prog 130 #[v] w fun e w' => e = .returned (.int .u64 (yesMask ls : Nat)) /\ Below w.heap.size w w' := by
 have H := Lib.hid h
 obtain ⟨A, c, rfl, hc, _⟩ := h
 go_enter Tryz.func130, Tryz.ntmps130
 go_wp2_with (fail)
 go_loopw [3, 5, 8] (fun m _ i wr => ∃ (k : Nat) (z : Int), k <= ls.length /\ i = .int .i64 k /\ m = .int .u64 z /\ z = (yesMask (ls.take k) : Nat) /\ Below w.heap.size w wr) (fun _ _ i _ => ls.length - (intOf i).toNat)
 case atStart => exact ⟨0, 0, Nat.zero_le _, rfl, rfl, rfl, Below.refl _ _⟩
 case round =>
  obtain ⟨k, z, hk, rfl, rfl, hz, hbe⟩ := hrel
  by_cases hlt : k < ls.length
  ·obtain ⟨b, o, u0, u1, u2, rfl, hbB, k0, k1, k2, rfl, rfl, p3⟩ := (H.out.on hbe).get hlt
   have HA := Lib.hid p3
   obtain ⟨A3, c3, rfl, hc3, _⟩ := p3
   have hle := za3 ls k hlt
   have hml := zeJ k ls hk
   by_cases h0 : ls[k].1 = 0
   ·have hd : (ls[k].1 == 0) = true := by simpa using h0
    have HZ := Lib.hid (show bits .or .u64 z ((maskOf ls[k].2.2 : Nat) : Int) = (yesMask (ls.take (k + 1)) : Nat) by rw [hz, zgt hml (zbr _), zdq hlt, if_pos h0])
    clear hz hml h0
    go_wp2_with (go_at_call 136; refine (zcD _ ls[k].2.2 _ _ (HA.out.on (ze _ _)) (by omega)).mono ?_; rintro e w' ⟨rfl, rfl⟩)
    go_roundw
    case rel => exact ⟨k + 1, _, by omega, by go_num, rfl, HZ.out, zf hbe (ze _ _)⟩
    case measure => simp [intOf]; omega
   ·have hd : (ls[k].1 == 0) = false := by simpa using h0
    have HZ := Lib.hid (show z = (yesMask (ls.take (k + 1)) : Nat) by rw [hz, zdq hlt, if_neg h0])
    clear hz hml h0
    go_wp2_with (fail)
    go_roundw
    case rel => exact ⟨k + 1, _, by omega, by go_num, rfl, HZ.out, zf hbe (ze _ _)⟩
    case measure => simp [intOf]; omega
  ·have HE := Lib.hid (show z = (yesMask ls : Nat) by rw [hz, show k = ls.length by omega, List.take_length])
   clear hz
   go_wp2_with (fail)
   go_ret
   exact ⟨zT HE.out, hbe⟩
def zb0 (r : zJ) : Bool := bits .andNot .u64 ((ruleMask r : Nat) : Int) ((yesMask r.2 : Nat) : Int) == 0
open Go.RowKit
def za7 (w : World) (g m : Nat) : Prop := Blk w g 4 #[.bool (m.testBit 0), .bool (m.testBit 1), .bool (m.testBit 2), .bool (m.testBit 3)]
theorem za7.cell {w : World} {g m : Nat} (h : za7 w g m) {i : Nat} (hi : i < 4) : w.cell? ⟨g, i, none⟩ = some (.bool (m.testBit i)) := by
 rw [Blk.cell h i]
 match i, hi with
 | 0, _ => rfl
 | 1, _ => rfl
 | 2, _ => rfl
 | 3, _ => rfl
theorem za7.frozen {w : World} {g m : Nat} (h : za7 w g m) (i : Nat) : w.frozen? ⟨g, i, none⟩ = false := Blk.frozen h i
theorem za7.lt {w : World} {g m : Nat} (h : za7 w g m) : g < w.heap.size := Blk.lt h
theorem za7.below {B : Nat} {w w' : World} {g m : Nat} (h : za7 w g m) (hb : Below B w w') (hg : g < B) : za7 w' g m := Blk.below h hb hg
theorem za7.set {w : World} {g m : Nat} (h : za7 w g m) {j : Nat} (hj : j < 4) : za7 (w.setCell ⟨g, j, none⟩ (.bool true)) g (m ||| 2 ^ j) := by
 have h2 := Blk.set_ h j (.bool true)
 unfold za7
 match j, hj with
 | 0, _ => simpa [Nat.testBit_or, show Nat.testBit 1 1 = false from rfl, show Nat.testBit 1 2 = false from rfl, show Nat.testBit 1 3 = false from rfl] using h2
 | 1, _ => simpa [Nat.testBit_or, show Nat.testBit 2 1 = true from rfl, show Nat.testBit 2 2 = false from rfl, show Nat.testBit 2 3 = false from rfl] using h2
 | 2, _ => simpa [Nat.testBit_or, show Nat.testBit 4 1 = false from rfl, show Nat.testBit 4 2 = true from rfl, show Nat.testBit 4 3 = false from rfl] using h2
 | 3, _ => simpa [Nat.testBit_or, show Nat.testBit 8 1 = false from rfl, show Nat.testBit 8 2 = false from rfl, show Nat.testBit 8 3 = true from rfl] using h2
theorem zjr {xs : List Int} {m k : Nat} (h : k < xs.length) : zau m (xs.take (k + 1)) = orV (zau m (xs.take k)) xs[k] := by
 unfold zau
 rw [zH xs k h, List.foldl_append]
 rfl
theorem za7.var {w : World} {g m : Nat} (h : za7 w g m) {t : Int} {j : Nat} (hj : j < 4) (ht : t = -1 - (j : Int)) : za7 (w.setCell ⟨g, j, none⟩ (.bool true)) g (orV m t) := by
 have hv : zaC t = true := by simp [zaC]; omega
 have hn : (-1 - t).toNat = j := by omega
 unfold orV
 rw [if_pos hv, hn]
 exact h.set hj
set_option maxHeartbeats 400000 in
theorem zf7 (g m : Nat) (v : Value) (xs : List Int) (w : World) (hm : za7 w g m) (h : zv w g v xs) (hr : xs.length <= 1048576) :
 Calls Tryz.prog 132 #[.slice (some ⟨g, 0, none⟩) 4 4, v] w fun e w' => e = .returned (.tuple #[]) /\ za7 w' g (zau m xs) /\ zl g (g + 1) w w' := by
 have H := Lib.hid h
 have HM := Lib.hid hm
 clear hm
 obtain ⟨A, c, rfl, hc, _⟩ := h
 go_enter Tryz.func132, Tryz.ntmps132
 go_wp2_with (fail)
 go_loopw [4] (fun i wr => ∃ k : Nat, k <= xs.length /\ i = .int .i64 k /\ za7 wr g (zau m (xs.take k)) /\ zl g (g + 1) w wr) (fun i _ => xs.length - (intOf i).toNat)
 case atStart => exact ⟨0, Nat.zero_le _, rfl, HM.out, zl.refl _ _ _⟩
 case round =>
  obtain ⟨k, hk, rfl, hx, hon⟩ := hrel
  have hg := HM.out.lt
  by_cases hlt : k < xs.length
  ·obtain ⟨A', c', e, _, hr2⟩ := H.out.below (hon.below (Nat.le_refl g) (by omega)) (Nat.le_refl g)
   injection e with e1 _ e3
   subst e1
   subst e3
   obtain ⟨b, o, rfl, hbB, hr2⟩ := hr2 (by omega)
   have hck : wr.cell? ⟨b, o + k, none⟩ = some (.int .i64 xs[k]) := hr2 k hlt
   have htk := zjr (m := m) hlt
   clear hr2
   by_cases he : -4 <= xs[k] /\ xs[k] <= -1
   ·have hv : xs[k] = -1 - ((0 : Nat) : Int) \/ xs[k] = -1 - ((1 : Nat) : Int) \/ xs[k] = -1 - ((2 : Nat) : Int) \/ xs[k] = -1 - ((3 : Nat) : Int) := by omega
    have c0 := hx.cell (i := 0) (by omega)
    have c1 := hx.cell (i := 1) (by omega)
    have c2 := hx.cell (i := 2) (by omega)
    have c3 := hx.cell (i := 3) (by omega)
    have f0 := hx.frozen 0
    have f1 := hx.frozen 1
    have f2 := hx.frozen 2
    have f3 := hx.frozen 3
    have HK := Lib.hid (zb1 he)
    have HX := Lib.hid (And.intro hx (And.intro hon htk))
    clear he hx hon htk
    rcases hv with hv | hv | hv | hv
    all_goals
     have HV := Lib.hid hv
     rw [hv] at hck
     simp at hck
     clear hv
    ·go_wp2_with (go_at_call 96; refine (zb1 (by omega) _).mono ?_; rintro e w' ⟨rfl, rfl⟩)
     go_roundw
     case rel => exact ⟨k + 1, by omega, by go_num, by rw [HX.out.2.2]; exact HX.out.1.var (by omega) HV.out, HX.out.2.1.setCell (by simp) _⟩
     case measure => simp [intOf]; omega
    ·go_wp2_with (go_at_call 96; refine (zb1 (by omega) _).mono ?_; rintro e w' ⟨rfl, rfl⟩)
     go_roundw
     case rel => exact ⟨k + 1, by omega, by go_num, by rw [HX.out.2.2]; exact HX.out.1.var (by omega) HV.out, HX.out.2.1.setCell (by simp) _⟩
     case measure => simp [intOf]; omega
    ·go_wp2_with (go_at_call 96; refine (zb1 (by omega) _).mono ?_; rintro e w' ⟨rfl, rfl⟩)
     go_roundw
     case rel => exact ⟨k + 1, by omega, by go_num, by rw [HX.out.2.2]; exact HX.out.1.var (by omega) HV.out, HX.out.2.1.setCell (by simp) _⟩
     case measure => simp [intOf]; omega
    ·go_wp2_with (go_at_call 96; refine (zb1 (by omega) _).mono ?_; rintro e w' ⟨rfl, rfl⟩)
     go_roundw
     case rel => exact ⟨k + 1, by omega, by go_num, by rw [HX.out.2.2]; exact HX.out.1.var (by omega) HV.out, HX.out.2.1.setCell (by simp) _⟩
     case measure => simp [intOf]; omega
   ·have HK := Lib.hid (zeW he)
    have HX := Lib.hid (show za7 wr g (zau m (xs.take (k + 1))) by rw [htk]; unfold orV; rw [if_neg (by simp [zaC]; omega)]; exact hx)
    clear he hx htk
    go_wp2_with (go_at_call 96; refine (HK.out _).mono ?_; rintro e w' ⟨rfl, rfl⟩)
    go_roundw
    case rel => exact ⟨k + 1, by omega, by go_num, HX.out, hon⟩
    case measure => simp [intOf]; omega
  ·have HX := Lib.hid (show za7 wr g (zau m xs) by rw [show k = xs.length by omega, List.take_length] at hx; exact hx)
   clear hx
   go_wp2_with (fail)
   go_end0
   exact ⟨rfl, HX.out, hon⟩
theorem za7.only {lo hi : Nat} {w w' : World} {g m : Nat} (h : za7 w g m) (ho : zl lo hi w w') (hg : g < lo \/ hi <= g) : za7 w' g m := (ho.block g h.lt hg).trans h
theorem zpw : madeCells #[Value.bool false] 4 = #[.bool false, .bool false, .bool false, .bool false] := by
 apply Array.ext
 ·simp [madeCells]
 ·intro i h1 h2
  simp [madeCells]
  match i, h2 with
  | 0, _ => rfl
  | 1, _ => rfl
  | 2, _ => rfl
  | 3, _ => rfl
theorem za7.made (w : World) : za7 (w.alloc (.cells (madeCells #[.bool false] 4) 4)) w.heap.size 0 := by
 rw [zpw]
 exact Blk.new w _ _
theorem Tryz.infoBool : (Tryz.prog.info? 4).map (fun i => (i.zero, i.size, i.bytes)) = some (some (.bool false), 1, 1) := by kernel_rfl
theorem zo6 (W : World) : (Instr.makeSlice 150 (.int .i64 4) (.int .i64 4)).run Tryz.prog W = .ok (.slice (some ⟨W.heap.size, 0, none⟩) 4 4) (W.alloc (.cells (madeCells #[.bool false] 4) 4)) := by
 obtain ⟨i0, hi0, hz0, hz1, hz2⟩ := info_parts Tryz.infoBool
 have hmk := zby (P := Tryz.prog) 150 4 i0 (.bool false) Tryz.underlying150 hi0 hz0 .i64 .i64 4 4 (Nat.le_refl _) (by rw [hz2]; omega) (by omega) W
 rw [hz1] at hmk
 simp only [Value.cells, Nat.mul_one] at hmk
 exact hmk
set_option maxHeartbeats 1000000 in
theorem zlh (v : Value) (r : zJ) (w : World) (h : zdX w w.heap.size v r) (hr : szR r <= 1048576) :
 Calls Tryz.prog 133 #[v] w fun e w' => ∃ g, e = .returned (.slice (some ⟨g, 0, none⟩) 4 4) /\ za7 w' g (ruleMask r) /\ w.heap.size <= g /\ Below w.heap.size w w' := by
 have hmk := zo6
 obtain ⟨a, b, rfl, h, h2⟩ := h
 unfold szR at hr
 have H := Lib.hid h
 have H2 := Lib.hid h2
 obtain ⟨A, c, rfl, hc, _⟩ := h
 obtain ⟨A2, c2, rfl, hcc, _⟩ := h2
 go_enter Tryz.func133, Tryz.ntmps133
 go_wp2_with (fail)
 obtain ⟨w1, hw1⟩ : ∃ w1, w1 = w.alloc (Obj.cells #[Value.int IntKind.i64 r.1.1, Value.slice A r.1.2.length c, Value.slice A2 r.2.length c2] 66) := ⟨_, rfl⟩
 have B1 : Below w.heap.size w w1 := by rw [hw1]; exact ze _ _
 have s1 : w1.heap.size = w.heap.size + 1 := by rw [hw1]; simp
 have x1 : Blk w1 w.heap.size 66 #[.int .i64 r.1.1, .slice A r.1.2.length c, .slice A2 r.2.length c2] := by rw [hw1]; exact Blk.new w _ _
 obtain ⟨w2, hw2⟩ : ∃ w2, w2 = w1.alloc (Obj.cells (madeCells #[Value.bool false] 4) 4) := ⟨_, rfl⟩
 have m2 : za7 w2 (w.heap.size + 1) 0 := by rw [hw2, <- s1]; exact za7.made _
 have b2 : Below w1.heap.size w1 w2 := by rw [hw2]; exact ze _ _
 have x2 := x1.below b2 x1.lt
 have B2 := zf B1 b2
 rw [<- hw1, <- hw2]
 clear hw1 hw2
 refine (zf7 (w.heap.size + 1) 0 _ r.1.2 _ m2 ((H.out.below B2 (Nat.le_refl _)).more (by omega)) (by omega)).mono ?_
 rintro e w3 ⟨rfl, m3, on3⟩
 have x3 := x2.only on3 (.inl (by omega))
 have B3 : Below w.heap.size w w3 := zl.then_ B2 on3 (by omega)
 have q3 : w3.cell? ⟨w.heap.size, 2, none⟩ = some (.slice A2 r.2.length c2) := x3.cell 2
 rw [zft, Nat.zero_or] at m3
 clear x1 x2 m2
 go_wp2_with (fail)
 go_loopw [4] (fun i wr => ∃ k : Nat, k <= r.2.length /\ i = .int .i64 k /\ za7 wr (w.heap.size + 1) (maskOf r.1.2 ||| bodyMask (r.2.take k)) /\ zl (w.heap.size + 1) (w.heap.size + 2) w3 wr) (fun i _ => r.2.length - (intOf i).toNat)
 case atStart => exact ⟨0, Nat.zero_le _, rfl, by simpa [bodyMask] using m3, zl.refl _ _ _⟩
 case round =>
  obtain ⟨k, hk, rfl, hm, hon⟩ := hrel
  have BW : Below w.heap.size w wr := zl.then_ B3 hon (by omega)
  have xr := x3.only hon (.inl (by omega))
  have q2 : wr.cell? ⟨w.heap.size, 2, none⟩ = some (.slice A2 r.2.length c2) := xr.cell 2
  clear q3
  by_cases hlt : k < r.2.length
  ·obtain ⟨b, o, u0, u1, u2, rfl, hbB, k0, k1, k2, rfl, rfl, p3⟩ := (H2.out.below BW (Nat.le_refl _)).get hlt
   have HA := Lib.hid p3
   obtain ⟨A3, c3, rfl, hc3, _⟩ := p3
   have hle := za3 r.2 k hlt
   go_wp2_with (fail)
   refine (zf7 (w.heap.size + 1) _ _ r.2[k].2.2 _ hm (HA.out.more (by omega)) (by omega)).mono ?_
   rintro e w4 ⟨rfl, m4, on4⟩
   rw [zft, Nat.or_assoc, <- zes hlt] at m4
   go_wp2_with (fail)
   go_roundw
   case rel => exact ⟨k + 1, by omega, by go_num, m4, hon.trans on4⟩
   case measure => simp [intOf]; omega
  ·have HX := Lib.hid (show za7 wr (w.heap.size + 1) (ruleMask r) by rw [show k = r.2.length by omega, List.take_length] at hm; exact hm)
   clear hm
   go_wp2_with (fail)
   go_ret
   exact ⟨_, rfl, HX.out, by omega, BW⟩
open Go.RowKit
def zci (a b k : Nat) : Bool := (List.range k).all fun i => !(a.testBit i && !b.testBit i)
theorem zjF : ∀ a b : Fin 16, (bits .andNot .u64 ((a.val : Nat) : Int) ((b.val : Nat) : Int) == 0) = zci a.val b.val 4 := by decide +kernel
theorem zd8 (r : zJ) : zb0 r = zci (ruleMask r) (yesMask r.2) 4 := zjF ⟨ruleMask r, zkX r⟩ ⟨yesMask r.2, zkM r.2⟩
theorem zhG {a b k : Nat} (h : zci a b k = true) (e : (a.testBit k && !b.testBit k) = false) : zci a b (k + 1) = true := by
 unfold zci at h ⊢
 rw [List.range_succ, List.all_append, h, Bool.true_and]
 simp only [List.all_cons, List.all_nil, e]
 rfl
theorem zlZ {a b k : Nat} (hk : k < 4) (e : (a.testBit k && !b.testBit k) = true) : zci a b 4 = false := by
 unfold zci
 rw [List.all_eq_false]
 exact ⟨k, List.mem_range.2 hk, by simp [e]⟩
set_option maxHeartbeats 1000000 in
theorem zex (v : Value) (r : zJ) (w : World) (h : zdX w w.heap.size v r) (hr : szR r <= 1048576) :
 Calls Tryz.prog 111 #[v] w fun e w' => e = .returned (.bool (zb0 r)) /\ Below w.heap.size w w' := by
 have hmk := zo6
 obtain ⟨a, b, rfl, h, h2⟩ := h
 have hsz := hr
 unfold szR at hr
 have H := Lib.hid h
 have H2 := Lib.hid h2
 obtain ⟨A, c, rfl, hc, _⟩ := h
 obtain ⟨A2, c2, rfl, hcc, _⟩ := h2
 go_enter Tryz.func111, Tryz.ntmps111
 go_wp2_with (fail)
 obtain ⟨w1, hw1⟩ : ∃ w1, w1 = w.alloc (Obj.cells #[Value.int IntKind.i64 r.1.1, Value.slice A r.1.2.length c, Value.slice A2 r.2.length c2] 66) := ⟨_, rfl⟩
 have B1 : Below w.heap.size w w1 := by rw [hw1]; exact ze _ _
 have s1 : w1.heap.size = w.heap.size + 1 := by rw [hw1]; simp
 have x1 : Blk w1 w.heap.size 66 #[.int .i64 r.1.1, .slice A r.1.2.length c, .slice A2 r.2.length c2] := by rw [hw1]; exact Blk.new w _ _
 obtain ⟨w2, hw2⟩ : ∃ w2, w2 = w1.alloc (Obj.cells (madeCells #[Value.bool false] 4) 4) := ⟨_, rfl⟩
 have m2 : za7 w2 (w.heap.size + 1) 0 := by rw [hw2, <- s1]; exact za7.made _
 have b2 : Below w1.heap.size w1 w2 := by rw [hw2]; exact ze _ _
 have x2 := x1.below b2 x1.lt
 have B2 := zf B1 b2
 have s2 : w2.heap.size = w.heap.size + 2 := by rw [hw2]; simp [s1]
 rw [<- hw1, <- hw2]
 clear hw1 hw2
 go_loopw [4] (fun i wr => ∃ k : Nat, k <= r.2.length /\ i = .int .i64 k /\ za7 wr (w.heap.size + 1) (yesMask (r.2.take k)) /\ zl (w.heap.size + 1) (w.heap.size + 2) w2 wr) (fun i _ => r.2.length - (intOf i).toNat)
 case atStart => exact ⟨0, Nat.zero_le _, rfl, by simpa [yesMask] using m2, zl.refl _ _ _⟩
 case round =>
  obtain ⟨k, hk, rfl, hm, hon⟩ := hrel
  have BW : Below w.heap.size w wr := zl.then_ B2 hon (by omega)
  have xr := x2.only hon (.inl (by omega))
  have q0 : wr.cell? ⟨w.heap.size, 0, none⟩ = some (.int .i64 r.1.1) := xr.cell 0
  have q1 : wr.cell? ⟨w.heap.size, 1, none⟩ = some (.slice A r.1.2.length c) := xr.cell 1
  have q2 : wr.cell? ⟨w.heap.size, 2, none⟩ = some (.slice A2 r.2.length c2) := xr.cell 2
  by_cases hlt : k < r.2.length
  ·obtain ⟨b, o, u0, u1, u2, rfl, hbB, k0, k1, k2, rfl, rfl, p3⟩ := (H2.out.below BW (Nat.le_refl _)).get hlt
   have HA := Lib.hid p3
   obtain ⟨A3, c3, rfl, hc3, _⟩ := p3
   have hle := za3 r.2 k hlt
   have hty := zdq hlt
   by_cases h0 : r.2[k].1 = 0
   ·have hd : (r.2[k].1 == 0) = true := by simpa using h0
    rw [if_pos h0] at hty
    clear h0
    go_wp2_with (fail)
    refine (zf7 (w.heap.size + 1) _ _ r.2[k].2.2 _ hm (HA.out.more (by omega)) (by omega)).mono ?_
    rintro e w4 ⟨rfl, m4, on4⟩
    rw [zft, <- hty] at m4
    clear hty
    go_wp2_with (fail)
    go_roundw
    case rel => exact ⟨k + 1, by omega, by go_num, m4, hon.trans on4⟩
    case measure => simp [intOf]; omega
   ·have hd : (r.2[k].1 == 0) = false := by simpa using h0
    rw [if_neg h0] at hty
    rw [<- hty] at hm
    have HM := Lib.hid hm
    clear hty hm h0
    go_wp2_with (fail)
    go_roundw
    case rel => exact ⟨k + 1, by omega, by go_num, HM.out, hon⟩
    case measure => simp [intOf]; omega
  ·have HX := Lib.hid (show za7 wr (w.heap.size + 1) (yesMask r.2) by rw [show k = r.2.length by omega, List.take_length] at hm; exact hm)
   have hgs := hm.lt
   clear hm
   go_wp2_with (fail)
   refine (zlh _ r _ ⟨_, _, rfl, H.out.on BW, H2.out.on BW⟩ hsz).mono ?_
   rintro e w5 ⟨g2, rfl, m5, hg2, hb5⟩
   have B5 := zf BW hb5
   have y5 := HX.out.below hb5 hgs
   have HE := Lib.hid (zd8 r)
   go_wp2_with (fail)
   go_loop [6] (fun i => ∃ k : Nat, k <= 4 /\ i = .int .i64 k /\ zci (ruleMask r) (yesMask r.2) k = true) (fun i => 4 - (intOf i).toNat)
   case atStart => exact ⟨0, Nat.zero_le _, rfl, by simp [zci]⟩
   case round =>
    obtain ⟨j, hj, rfl, hs⟩ := hrel
    by_cases hjl : j < 4
    ·have c5 := m5.cell hjl
     have d5 := y5.cell hjl
     cases ha : (ruleMask r).testBit j
     ·rw [ha] at c5
      have HS := Lib.hid (zhG hs (by rw [ha]; rfl))
      clear hs ha
      go_wp2_with (fail)
      go_round
      case rel => exact ⟨j + 1, by omega, by go_num, HS.out⟩
      case measure => simp [intOf]; omega
     ·rw [ha] at c5
      cases hb : (yesMask r.2).testBit j
      ·rw [hb] at d5
       have HS := Lib.hid (zlZ hjl (show ((ruleMask r).testBit j && !(yesMask r.2).testBit j) = true by rw [ha, hb]; rfl))
       clear hs ha hb
       go_wp2_with (fail)
       go_ret
       exact ⟨zi (by rw [HE.out, HS.out]), B5⟩
      ·rw [hb] at d5
       have HS := Lib.hid (zhG hs (by rw [ha, hb]; rfl))
       clear hs ha hb
       go_wp2_with (fail)
       go_round
       case rel => exact ⟨j + 1, by omega, by go_num, HS.out⟩
       case measure => simp [intOf]; omega
    ·have HS := Lib.hid (show zci (ruleMask r) (yesMask r.2) 4 = true by rw [show j = 4 by omega] at hs; exact hs)
     clear hs
     go_wp2_with (fail)
     go_ret
     exact ⟨zi (by rw [HE.out, HS.out]), B5⟩
open Go.RowKit
set_option maxHeartbeats 400000 in
theorem zkb (v : Value) (r : zJ) (w : World) (h : zdX w w.heap.size v r) (hr : szR r <= 1048576) :
 Calls Tryz.prog 129 #[v] w fun e w' => e = .returned (.int .u64 (ruleMask r : Nat)) /\ Below w.heap.size w w' := by
 obtain ⟨a, b, rfl, h, h2⟩ := h
 unfold szR at hr
 have HW := Lib.hid (show bits .or .u64 ((maskOf r.1.2 : Nat) : Int) ((bodyMask r.2 : Nat) : Int) = (ruleMask r : Nat) from zgt (zbr _) (zg3 _))
 obtain ⟨w1, hw1⟩ : ∃ w1, w1 = w.alloc (Obj.cells #[Value.int IntKind.i64 r.1.1, a, b] 66) := ⟨_, rfl⟩
 have B1 : Below w.heap.size w w1 := by rw [hw1]; exact ze _ _
 have C1 := Lib.hid (fun x : zbG w1 => zeV (zcD a r.1.2 _ x.val ((h.on B1).on x.2) (by omega)))
 have C2 := Lib.hid (fun x : zbG w1 => zaq (zkE b r.2 x.val ((h2.on B1).on x.2) (by omega) (by omega)))
 obtain ⟨A, c, rfl, hc, _⟩ := h
 obtain ⟨A2, c2, rfl, hc2, _⟩ := h2
 have x1 : Blk w1 w.heap.size 66 #[.int .i64 r.1.1, .slice A r.1.2.length c, .slice A2 r.2.length c2] := by rw [hw1]; exact Blk.new w _ _
 have M1 := zx (x1.cell 1 : w1.cell? ⟨w.heap.size, 1, none⟩ = some (.slice A r.1.2.length c))
 have M2 := zx (x1.cell 2 : w1.cell? ⟨w.heap.size, 2, none⟩ = some (.slice A2 r.2.length c2))
 go_enter Tryz.func129, Tryz.ntmps129
 go_wp2_with (fail)
 rw [<- hw1]
 clear hw1
 refine zD (by kernel_rfl) (by kernel_rfl) ?_
 repeat (go_big_quiet_step (first | (go_at_call 136; exact C1.out _) | (go_at_call 159; exact C2.out _)))
 refine wpQuiet_nil ?_
 rintro _ ⟨xq, rfl⟩
 go_wp2_with (fail)
 go_ret
 exact ⟨zT HW.out, zf B1 xq.2⟩
open Go.RowKit
set_option maxHeartbeats 400000 in
theorem zhj (v : Value) (r : zJ) (w : World) (h : zdX w w.heap.size v r) (hr : szR r <= 1048576) :
 Calls Tryz.prog 108 #[v] w fun e w' => e = .returned (.bool (zb0 r)) /\ Below w.heap.size w w' := by
 obtain ⟨a, b, rfl, h, h2⟩ := h
 obtain ⟨w1, hw1⟩ : ∃ w1, w1 = w.alloc (Obj.cells #[Value.int IntKind.i64 r.1.1, a, b] 66) := ⟨_, rfl⟩
 have B1 : Below w.heap.size w w1 := by rw [hw1]; exact ze _ _
 have C1 := Lib.hid (fun x : zbG w1 => zaq (zkb _ r x.val ⟨a, b, rfl, (h.on B1).on x.2, (h2.on B1).on x.2⟩ hr))
 have C2 := Lib.hid (fun x : zbG w1 => zaq (zkL b r.2 x.val ((h2.on B1).on x.2) (by unfold szR at hr; omega) (by unfold szR at hr; omega)))
 obtain ⟨A, c, rfl, hc, _⟩ := h
 obtain ⟨A2, c2, rfl, hc2, _⟩ := h2
 have x1 : Blk w1 w.heap.size 66 #[.int .i64 r.1.1, .slice A r.1.2.length c, .slice A2 r.2.length c2] := by rw [hw1]; exact Blk.new w _ _
 have M0 := zx (x1.cell 0 : w1.cell? ⟨w.heap.size, 0, none⟩ = some (.int .i64 r.1.1))
 have M1 := zx (x1.cell 1 : w1.cell? ⟨w.heap.size, 1, none⟩ = some (.slice A r.1.2.length c))
 have M2 := zx (x1.cell 2 : w1.cell? ⟨w.heap.size, 2, none⟩ = some (.slice A2 r.2.length c2))
 go_enter Tryz.func108, Tryz.ntmps108
 go_wp2_with (fail)
 rw [<- hw1]
 clear hw1
 refine zD (by kernel_rfl) (by kernel_rfl) ?_
 repeat (go_big_quiet_step (first | (go_at_call 129; exact C1.out _) | (go_at_call 130; exact C2.out _)))
 refine wpQuiet_nil ?_
 rintro _ ⟨xq, rfl⟩
 go_wp2_with (fail)
 go_ret
 exact ⟨rfl, zf B1 xq.2⟩
open Go.RowKit
def zA (ar : List Int) (r : zJ) : Bool := zah ar r.1 && (decide (r.2.length <= 4) && (r.2.all (zaO ar) && zb0 r))
def zcj (ar : List Int) (r : zJ) : Bool := zr ar && zA ar r
set_option maxHeartbeats 1000000 in
theorem zkc (v v2 : Value) (ar : List Int) (r : zJ) (w : World) (h : zv w w.heap.size v ar) (h2 : zdX w w.heap.size v2 r) (hs : szR r <= 1048576) :
 Calls Tryz.prog 71 #[v, v2] w fun e w' => e = .returned (.bool (zA ar r)) /\ Below w.heap.size w w' := by
 have H := Lib.hid h
 have HR := Lib.hid h2
 have hsz := hs
 unfold szR at hs
 obtain ⟨A, c, rfl, hc, _⟩ := h
 obtain ⟨a, b, rfl, h2, h3⟩ := h2
 have H2 := Lib.hid h2
 have H3 := Lib.hid h3
 obtain ⟨A2, c2, rfl, hc2, _⟩ := h2
 obtain ⟨A3, c3, rfl, hc3, _⟩ := h3
 go_enter Tryz.func71, Tryz.ntmps71
 go_wp2_with (fail)
 refine (zg5 _ _ ar r.1 _ (H.out.on (ze _ _)) ⟨_, rfl, H2.out.on (ze _ _)⟩ (by omega)).mono ?_
 rintro e w2 ⟨rfl, hb2⟩
 have B2 := zf (ze _ _) hb2
 have x2 : Blk w2 w.heap.size 66 #[.int .i64 r.1.1, .slice A2 r.1.2.length c2, .slice A3 r.2.length c3] := (Blk.new w _ _).below hb2 (by simp)
 have q2 : w2.cell? ⟨w.heap.size, 2, none⟩ = some (.slice A3 r.2.length c3) := x2.cell 2
 by_cases hf : zah ar r.1 = true
 ·rw [hf]
  have HF := Lib.hid hf
  clear hf hb2
  by_cases hl : r.2.length <= 4
  ·have hd : decide ((4 : Int) < (r.2.length : Int)) = false := by simp; omega
   have HL := Lib.hid (show zA ar r = (r.2.all (zaO ar) && zb0 r) by simp [zA, HF.out, hl])
   go_wp2_with (fail)
   go_loopw [6, 21] (fun _ i wr => ∃ k : Nat, k <= r.2.length /\ i = .int .i64 k /\ zbf (zaO ar) r.2 k /\ Below w2.heap.size w2 wr) (fun _ i _ => r.2.length - (intOf i).toNat)
   case atStart => exact ⟨0, Nat.zero_le _, rfl, zbf.start, Below.refl _ _⟩
   case round =>
    obtain ⟨k, hk, rfl, hs, hbe⟩ := hrel
    have BW := zf B2 hbe
    have xr := x2.below hbe x2.lt
    have p0 : wr.cell? ⟨w.heap.size, 0, none⟩ = some (.int .i64 r.1.1) := xr.cell 0
    have p1 : wr.cell? ⟨w.heap.size, 1, none⟩ = some (.slice A2 r.1.2.length c2) := xr.cell 1
    have p2 : wr.cell? ⟨w.heap.size, 2, none⟩ = some (.slice A3 r.2.length c3) := xr.cell 2
    clear q2
    by_cases hlt : k < r.2.length
    ·obtain ⟨b, o, u0, u1, u2, rfl, hbB, k0, k1, k2, rfl, rfl, p3⟩ := (H3.out.on BW).get hlt
     have HA := Lib.hid p3
     obtain ⟨A4, c4, rfl, hc4, _⟩ := p3
     have hle := za3 r.2 k hlt
     go_wp2_with (fail)
     refine (zlb _ _ ar r.2[k] _ ((H.out.on BW).on (ze _ _)) ⟨_, rfl, HA.out.on (ze _ _)⟩ (by omega)).mono ?_
     rintro e w4 ⟨rfl, hb4⟩
     have B4 := zf hbe (zf (ze _ _) hb4)
     by_cases he : zaO ar r.2[k] = true
     ·rw [he]
      have HS := Lib.hid (hs.step hlt he)
      clear hs he
      go_wp2_with (fail)
      go_roundw
      case rel => exact ⟨k + 1, by omega, by go_num, HS.out, B4⟩
      case measure => simp [intOf]; omega
     ·have he' : zaO ar r.2[k] = false := by simpa using he
      rw [he']
      have HE := Lib.hid (show zA ar r = false by rw [HL.out, zcp hlt he']; rfl)
      clear hs he he'
      go_wp2_with (fail)
      go_ret
      exact ⟨zi HE.out.symm, zf B2 B4⟩
    ·have HE := Lib.hid (show zA ar r = zb0 r by rw [HL.out, hs.done (by omega), Bool.true_and])
     clear hs
     go_wp2_with (fail)
     refine (zhj _ r _ (HR.out.on BW) hsz).mono ?_
     rintro e w5 ⟨rfl, hb5⟩
     go_wp2_with (fail)
     go_ret
     exact ⟨zi HE.out.symm, zf BW hb5⟩
  ·have hd : decide ((4 : Int) < (r.2.length : Int)) = true := by simp; omega
   have HE := Lib.hid (show zA ar r = false by simp [zA, hl])
   go_wp2_with (fail)
   go_ret
   exact ⟨zi HE.out.symm, B2⟩
 ·have hf' : zah ar r.1 = false := by simpa using hf
  rw [hf']
  have HE := Lib.hid (show zA ar r = false by simp [zA, hf'])
  clear hf hf'
  go_wp2_with (fail)
  go_ret
  exact ⟨zi HE.out.symm, B2⟩
theorem zkW (ar : List Int) (r : zJ) : zcj ar r = (r.2.all (zcX ar) && (zck ar r.1 && (decide (r.2.length <= 4) && zb0 r))) := by
 unfold zcj zA zck
 by_cases ha : zr ar = true
 ·have : r.2.all (zcX ar) = r.2.all (zaO ar) := by
   congr 1
   funext l
   unfold zcX
   rw [ha, Bool.true_and]
  rw [this, ha]
  cases zah ar r.1 <;> cases r.2.all (zaO ar) <;> cases decide (r.2.length <= 4) <;> rfl
 ·have ha' : zr ar = false := by simpa using ha
  rw [ha']
  simp
set_option maxHeartbeats 1000000 in
theorem zfh (v v2 : Value) (ar : List Int) (r : zJ) (w : World) (h : zv w w.heap.size v ar) (h2 : zdX w w.heap.size v2 r) (hr : ar.length <= 1048576) (hs : szR r <= 1048576) :
 Calls Tryz.prog 72 #[v, v2] w fun e w' => e = .returned (.bool (zcj ar r)) /\ Below w.heap.size w w' := by
 have H := Lib.hid h
 have HR := Lib.hid h2
 have hsz := hs
 unfold szR at hs
 have HP := Lib.hid (zkW ar r)
 obtain ⟨A, c, rfl, hc, _⟩ := h
 obtain ⟨a, b, rfl, h2, h3⟩ := h2
 have H2 := Lib.hid h2
 have H3 := Lib.hid h3
 obtain ⟨A2, c2, rfl, hc2, _⟩ := h2
 obtain ⟨A3, c3, rfl, hc3, _⟩ := h3
 go_enter Tryz.func72, Tryz.ntmps72
 go_wp2_with (fail)
 obtain ⟨w2, hw2⟩ : ∃ w2, w2 = w.alloc (Obj.cells #[Value.int IntKind.i64 r.1.1, Value.slice A2 r.1.2.length c2, Value.slice A3 r.2.length c3] 66) := ⟨_, rfl⟩
 have B2 : Below w.heap.size w w2 := by rw [hw2]; exact ze _ _
 have x2 : Blk w2 w.heap.size 66 #[.int .i64 r.1.1, .slice A2 r.1.2.length c2, .slice A3 r.2.length c3] := by rw [hw2]; exact Blk.new _ _ _
 rw [<- hw2]
 clear hw2
 go_loopw [5] (fun i wr => ∃ k : Nat, k <= r.2.length /\ i = .int .i64 k /\ zbf (zcX ar) r.2 k /\ Below w2.heap.size w2 wr) (fun i _ => r.2.length - (intOf i).toNat)
 case atStart => exact ⟨0, Nat.zero_le _, rfl, zbf.start, Below.refl _ _⟩
 case round =>
  obtain ⟨k, hk, rfl, hs, hbe⟩ := hrel
  have BW := zf B2 hbe
  have xr := x2.below hbe x2.lt
  have p0 : wr.cell? ⟨w.heap.size, 0, none⟩ = some (.int .i64 r.1.1) := xr.cell 0
  have p1 : wr.cell? ⟨w.heap.size, 1, none⟩ = some (.slice A2 r.1.2.length c2) := xr.cell 1
  have p2 : wr.cell? ⟨w.heap.size, 2, none⟩ = some (.slice A3 r.2.length c3) := xr.cell 2
  by_cases hlt : k < r.2.length
  ·obtain ⟨b, o, u0, u1, u2, rfl, hbB, k0, k1, k2, rfl, rfl, p3⟩ := (H3.out.on BW).get hlt
   have HA := Lib.hid p3
   obtain ⟨A4, c4, rfl, hc4, _⟩ := p3
   have hle := za3 r.2 k hlt
   go_wp2_with (fail)
   refine (zjk _ _ ar r.2[k] _ (H.out.on BW) ⟨_, rfl, HA.out⟩ hr (by omega)).mono ?_
   rintro e w4 ⟨rfl, hb4⟩
   have B4 := zf hbe hb4
   by_cases he : zcX ar r.2[k] = true
   ·rw [he]
    have HS := Lib.hid (hs.step hlt he)
    clear hs he
    go_wp2_with (fail)
    go_roundw
    case rel => exact ⟨k + 1, by omega, by go_num, HS.out, B4⟩
    case measure => simp [intOf]; omega
   ·have he' : zcX ar r.2[k] = false := by simpa using he
    rw [he']
    have HE := Lib.hid (show zcj ar r = false by rw [HP.out, zcp hlt he']; rfl)
    clear hs he he'
    go_wp2_with (fail)
    go_ret
    exact ⟨zi HE.out.symm, zf B2 B4⟩
  ·have HE := Lib.hid (show zcj ar r = (zck ar r.1 && (decide (r.2.length <= 4) && zb0 r)) by rw [HP.out, hs.done (by omega), Bool.true_and])
   clear hs
   go_wp2_with (fail)
   refine (zfk _ _ ar r.1 _ (H.out.on BW) ⟨_, rfl, H2.out.on BW⟩ hr (by omega)).mono ?_
   rintro e w5 ⟨rfl, hb5⟩
   have B5 := zf BW hb5
   have x5 := xr.below hb5 xr.lt
   have p0 : w5.cell? ⟨w.heap.size, 0, none⟩ = some (.int .i64 r.1.1) := x5.cell 0
   have p1 : w5.cell? ⟨w.heap.size, 1, none⟩ = some (.slice A2 r.1.2.length c2) := x5.cell 1
   have p2 : w5.cell? ⟨w.heap.size, 2, none⟩ = some (.slice A3 r.2.length c3) := x5.cell 2
   by_cases hf : zck ar r.1 = true
   ·rw [hf]
    by_cases hl : r.2.length <= 4
    ·have hd : decide ((r.2.length : Int) <= 4) = true := by simp; omega
     have HE2 := Lib.hid (show zcj ar r = zb0 r by rw [HE.out, hf]; simp [hl])
     clear hf
     go_wp2_with (fail)
     refine (zex _ r _ (HR.out.on B5) hsz).mono ?_
     rintro e w6 ⟨rfl, hb6⟩
     go_wp2_with (fail)
     go_ret
     exact ⟨zi HE2.out.symm, zf B5 hb6⟩
    ·have hd : decide ((r.2.length : Int) <= 4) = false := by simp; omega
     have HE2 := Lib.hid (show zcj ar r = false by rw [HE.out]; simp [hl])
     clear hf
     go_wp2_with (fail)
     go_ret
     exact ⟨zi HE2.out.symm, B5⟩
   ·have hf' : zck ar r.1 = false := by simpa using hf
    rw [hf']
    have HE2 := Lib.hid (show zcj ar r = false by rw [HE.out, hf']; rfl)
    clear hf hf'
    go_wp2_with (fail)
    go_ret
    exact ⟨zi HE2.out.symm, B5⟩
open Go.RowKit
def zaW (p : zal) : Bool := zr p.1 && (decide (p.2.length <= 60) && p.2.all (zA p.1))
theorem zk2 (p : zal) : zaW p = (p.2.all (zcj p.1) && (zr p.1 && decide (p.2.length <= 60))) := by
 unfold zaW
 by_cases ha : zr p.1 = true
 ·have : p.2.all (zcj p.1) = p.2.all (zA p.1) := by
   congr 1
   funext r
   unfold zcj
   rw [ha, Bool.true_and]
  rw [this, ha]
  cases p.2.all (zA p.1) <;> cases decide (p.2.length <= 60) <;> rfl
 ·have ha' : zr p.1 = false := by simpa using ha
  rw [ha']
  simp
set_option maxHeartbeats 1000000 in
theorem zef (v : Value) (p : zal) (w : World) (h : zb7 w w.heap.size v p) (hs : szP p <= 1048576) :
 Calls Tryz.prog 35 #[v] w fun e w' => e = .returned (.bool (zaW p)) /\ Below w.heap.size w w' := by
 unfold szP at hs
 obtain ⟨a, b, rfl, h, h2⟩ := h
 have H := Lib.hid h
 have H2 := Lib.hid h2
 obtain ⟨A, c, rfl, hc, _⟩ := h
 obtain ⟨A2, c2, rfl, hc2, _⟩ := h2
 go_enter Tryz.func35, Tryz.ntmps35
 go_wp2_with (fail)
 refine (zh1 _ p.1 _ (H.out.on (ze _ _)) (by omega)).mono ?_
 rintro e w2 ⟨rfl, hb2⟩
 have B2 := zf (ze _ _) hb2
 have x2 : Blk w2 w.heap.size 26 #[.slice A p.1.length c, .slice A2 p.2.length c2] := (Blk.new w _ _).below hb2 (by simp)
 have q1 : w2.cell? ⟨w.heap.size, 1, none⟩ = some (.slice A2 p.2.length c2) := x2.cell 1
 by_cases hf : zr p.1 = true
 ·rw [hf]
  have HF := Lib.hid hf
  clear hf hb2
  by_cases hl : p.2.length <= 60
  ·have hd : decide ((60 : Int) < (p.2.length : Int)) = false := by simp; omega
   have HL := Lib.hid (show zaW p = p.2.all (zA p.1) by simp [zaW, HF.out, hl])
   go_wp2_with (fail)
   go_loopw [18] (fun i wr => ∃ k : Nat, k <= p.2.length /\ i = .int .i64 k /\ zbf (zA p.1) p.2 k /\ Below w2.heap.size w2 wr) (fun i _ => p.2.length - (intOf i).toNat)
   case atStart => exact ⟨0, Nat.zero_le _, rfl, zbf.start, Below.refl _ _⟩
   case round =>
    obtain ⟨k, hk, rfl, hs, hbe⟩ := hrel
    have BW := zf B2 hbe
    have xr := x2.below hbe x2.lt
    clear q1
    by_cases hlt : k < p.2.length
    ·obtain ⟨b, o, u0, u1, u2, rfl, hbB, k0, k1, k2, rfl, p3, p4⟩ := (H2.out.on BW).get hlt
     have HA := Lib.hid p3
     have HB := Lib.hid p4
     obtain ⟨A4, c4, rfl, hc4, _⟩ := p3
     obtain ⟨A5, c5, rfl, hc5, _⟩ := p4
     have hle := zbZ p.2 k hlt
     have q0 : ∀ O, (wr.alloc O).cell? ⟨w.heap.size, 0, none⟩ = some (.slice A p.1.length c) := fun O => (xr.alloc O).cell 0
     go_wp2_with (fail)
     refine (zkc _ _ p.1 p.2[k] _ ((H.out.on BW).on (ze _ _)) ⟨_, _, rfl, HA.out.on (ze _ _), HB.out.on (ze _ _)⟩ (by omega)).mono ?_
     rintro e w4 ⟨rfl, hb4⟩
     have B4 := zf hbe (zf (ze _ _) hb4)
     by_cases he : zA p.1 p.2[k] = true
     ·rw [he]
      have HS := Lib.hid (hs.step hlt he)
      clear hs he
      go_wp2_with (fail)
      go_roundw
      case rel => exact ⟨k + 1, by omega, by go_num, HS.out, B4⟩
      case measure => simp [intOf]; omega
     ·have he' : zA p.1 p.2[k] = false := by simpa using he
      rw [he']
      have HE := Lib.hid (show zaW p = false by rw [HL.out, zcp hlt he'])
      clear hs he he'
      go_wp2_with (fail)
      go_ret
      exact ⟨zi HE.out.symm, zf B2 B4⟩
    ·have HE := Lib.hid (show zaW p = true by rw [HL.out, hs.done (by omega)])
     clear hs
     go_wp2_with (fail)
     go_ret
     exact ⟨zi HE.out.symm, BW⟩
  ·have hd : decide ((60 : Int) < (p.2.length : Int)) = true := by simp; omega
   have HE := Lib.hid (show zaW p = false by simp [zaW, hl])
   go_wp2_with (fail)
   go_ret
   exact ⟨zi HE.out.symm, B2⟩
 ·have hf' : zr p.1 = false := by simpa using hf
  rw [hf']
  have HE := Lib.hid (show zaW p = false by simp [zaW, hf'])
  clear hf hf'
  go_wp2_with (fail)
  go_ret
  exact ⟨zi HE.out.symm, B2⟩
set_option maxHeartbeats 1000000 in
theorem zgq (v : Value) (p : zal) (w : World) (h : zb7 w w.heap.size v p) (hs : szP p <= 1048576) :
 Calls Tryz.prog 37 #[v] w fun e w' => e = .returned (.bool (zaW p)) /\ Below w.heap.size w w' := by
 unfold szP at hs
 obtain ⟨a, b, rfl, h, h2⟩ := h
 have H := Lib.hid h
 have H2 := Lib.hid h2
 have HP := Lib.hid (zk2 p)
 obtain ⟨A, c, rfl, hc, _⟩ := h
 obtain ⟨A2, c2, rfl, hc2, _⟩ := h2
 go_enter Tryz.func37, Tryz.ntmps37
 go_wp2_with (fail)
 obtain ⟨w2, hw2⟩ : ∃ w2, w2 = w.alloc (Obj.cells #[Value.slice A p.1.length c, Value.slice A2 p.2.length c2] 26) := ⟨_, rfl⟩
 have B2 : Below w.heap.size w w2 := by rw [hw2]; exact ze _ _
 have x2 : Blk w2 w.heap.size 26 #[.slice A p.1.length c, .slice A2 p.2.length c2] := by rw [hw2]; exact Blk.new _ _ _
 rw [<- hw2]
 clear hw2
 go_loopw [3] (fun i wr => ∃ k : Nat, k <= p.2.length /\ i = .int .i64 k /\ zbf (zcj p.1) p.2 k /\ Below w2.heap.size w2 wr) (fun i _ => p.2.length - (intOf i).toNat)
 case atStart => exact ⟨0, Nat.zero_le _, rfl, zbf.start, Below.refl _ _⟩
 case round =>
  obtain ⟨k, hk, rfl, hs, hbe⟩ := hrel
  have BW := zf B2 hbe
  have xr := x2.below hbe x2.lt
  have q0 : wr.cell? ⟨w.heap.size, 0, none⟩ = some (.slice A p.1.length c) := xr.cell 0
  have q1 : wr.cell? ⟨w.heap.size, 1, none⟩ = some (.slice A2 p.2.length c2) := xr.cell 1
  by_cases hlt : k < p.2.length
  ·obtain ⟨b, o, u0, u1, u2, rfl, hbB, k0, k1, k2, rfl, p3, p4⟩ := (H2.out.on BW).get hlt
   have HA := Lib.hid p3
   have HB := Lib.hid p4
   obtain ⟨A4, c4, rfl, hc4, _⟩ := p3
   obtain ⟨A5, c5, rfl, hc5, _⟩ := p4
   have hle := zbZ p.2 k hlt
   have L0 := zx k0
   have L1 := zx k1
   have L2 := zx k2
   have L3 := zx q0
   have L4 := zx q1
   by_cases he : zcj p.1 p.2[k] = true
   ·have CF := Lib.hid (fun x : zbG wr => (zfh (.slice A p.1.length c) (.agg #[.int .i64 p.2[k].1.1, .slice A4 p.2[k].1.2.length c4, .slice A5 p.2[k].2.length c5]) p.1 p.2[k] x.val ((H.out.on BW).on x.2) ⟨_, _, rfl, HA.out.on x.2, HB.out.on x.2⟩ (by omega) (by omega)).mono fun e w' (hh : e = .returned (.bool (zcj p.1 p.2[k])) /\ Below x.val.heap.size x.val w') => (⟨by rw [hh.1, he], hh.2⟩ : e = .returned (.bool true) /\ Below x.val.heap.size x.val w'))
    have HS := Lib.hid (hs.step hlt he)
    clear hs he
    go_wp2_with (fail)
    clear k0 k1 k2 q0 q1
    refine zD (by kernel_rfl) (by kernel_rfl) ?_
    repeat (go_big_quiet_step ((go_at_call 72; exact zaq (CF.out _))))
    refine wpQuiet_nil ?_
    rintro _ ⟨xq, rfl⟩
    go_wp2_with (fail)
    go_roundw
    case rel => exact ⟨k + 1, by omega, by go_num, HS.out, zf hbe xq.2⟩
    case measure => simp [intOf]; omega
   ·have he' : zcj p.1 p.2[k] = false := by simpa using he
    have CF := Lib.hid (fun x : zbG wr => (zfh (.slice A p.1.length c) (.agg #[.int .i64 p.2[k].1.1, .slice A4 p.2[k].1.2.length c4, .slice A5 p.2[k].2.length c5]) p.1 p.2[k] x.val ((H.out.on BW).on x.2) ⟨_, _, rfl, HA.out.on x.2, HB.out.on x.2⟩ (by omega) (by omega)).mono fun e w' (hh : e = .returned (.bool (zcj p.1 p.2[k])) /\ Below x.val.heap.size x.val w') => (⟨by rw [hh.1, he'], hh.2⟩ : e = .returned (.bool false) /\ Below x.val.heap.size x.val w'))
    have HE := Lib.hid (show zaW p = false by rw [HP.out, zcp hlt he']; rfl)
    clear hs he he'
    go_wp2_with (fail)
    clear k0 k1 k2 q0 q1
    refine zD (by kernel_rfl) (by kernel_rfl) ?_
    repeat (go_big_quiet_step ((go_at_call 72; exact zaq (CF.out _))))
    refine wpQuiet_nil ?_
    rintro _ ⟨xq, rfl⟩
    go_wp2_with (fail)
    go_ret
    exact ⟨zi HE.out.symm, zf BW xq.2⟩
  ·have HE := Lib.hid (show zaW p = (zr p.1 && decide (p.2.length <= 60)) by rw [HP.out, hs.done (by omega), Bool.true_and])
   clear hs
   go_wp2_with (fail)
   refine (zaU _ p.1 _ (H.out.on BW) (by omega)).mono ?_
   rintro e w' ⟨rfl, rfl⟩
   by_cases hf : zr p.1 = true
   ·rw [hf]
    by_cases hl : p.2.length <= 60
    ·have hd : decide ((p.2.length : Int) <= 60) = true := by simp; omega
     have HE2 := Lib.hid (show zaW p = true by rw [HE.out, hf]; simp [hl])
     clear hf
     go_wp2_with (fail)
     go_ret
     exact ⟨zi (by rw [HE2.out]), BW⟩
    ·have hd : decide ((p.2.length : Int) <= 60) = false := by simp; omega
     have HE2 := Lib.hid (show zaW p = false by rw [HE.out]; simp [hl])
     clear hf
     go_wp2_with (fail)
     go_ret
     exact ⟨zi (by rw [HE2.out]), BW⟩
   ·have hf' : zr p.1 = false := by simpa using hf
    rw [hf']
    have HE2 := Lib.hid (show zaW p = false by rw [HE.out, hf']; rfl)
    clear hf hf'
    go_wp2_with (fail)
    go_ret
    exact ⟨zi HE2.out.symm, BW⟩
open Go.RowKit
open Go.RowKit
theorem zbL {w : World} {base n size g : Nat} {e t : TypeId} {v : Value} {xs : List Value} {cs : Array Value} (h : w.ownsRow base e size v n xs) (hb : Blk w g t cs) (hne : e ≠ t) : v.ownBlock ≠ some g := by
 rcases h.2 with ⟨rfl, _⟩ | ⟨g', cap, cur, rfl, _, hh, _⟩
 ·simp [Value.ownBlock]
 ·intro he
  have : g' = g := by simpa [Value.ownBlock] using he
  subst this
  unfold Blk at hb
  rw [hh] at hb
  injection hb with hb
  injection hb with _ hb
  exact hne hb
open Go.RowKit
def zap (w : World) (k : Int) (ps : List Addr) : Prop := ∀ i (h : i < ps.length), w.cell? ps[i] = some (.int .i64 (k + (i : Int)))
section
variable {lo hi : Nat} {w w1 w' : World} {k : Int} {ps qs : List Addr}
theorem zap.nil : zap w k [] := fun i h => absurd h (by simp)
theorem zap.left (h : zap w k (ps ++ qs)) : zap w k ps := fun i hi => by
 have := h i (by simp; omega)
 rwa [List.getElem_append_left hi] at this
theorem zap.right (h : zap w k (ps ++ qs)) : zap w (k + (ps.length : Int)) qs := fun i hi => by
 have := h (ps.length + i) (by simp; omega)
 rw [List.getElem_append_right (by omega)] at this
 simp only [Nat.add_sub_cancel_left] at this
 rw [this]
 congr 2
 omega
theorem zap.append (h : zap w k ps) (h2 : zap w (k + (ps.length : Int)) qs) : zap w k (ps ++ qs) := fun i hi => by
 by_cases hl : i < ps.length
 ·rw [List.getElem_append_left hl]
  exact h i hl
 ·rw [List.getElem_append_right (by omega)]
  simp at hi
  rw [h2 (i - ps.length) (by omega)]
  congr 2
  omega
theorem zap.lt (h : zap w k ps) {p : Addr} (hp : p ∈ ps) : p.block < w.heap.size := by
 obtain ⟨i, hi, rfl⟩ := List.getElem_of_mem hp
 exact World.block_lt_of_cell? _ _ (h i hi)
theorem zap.kept (h : zap w k ps) (hc : ∀ p ∈ ps, w'.cell? p = w.cell? p) : zap w' k ps := fun i hi => (hc _ (List.getElem_mem hi)).trans (h i hi)
theorem zap.below (h : zap w k ps) (hb : Below w.heap.size w w') : zap w' k ps := h.kept fun _ hp => hb.cell (h.lt hp)
end
def zet (w : World) (lo hi : Nat) (v : Value) (n : Nat) (ps : List Addr) : Prop :=
 ∃ A c, v = .slice A n c /\ n <= c /\ ps.length = n /\ (0 < n -> ∃ b o, A = some ⟨b, o, none⟩ /\ lo <= b /\ b < hi /\ ps = (List.range n).map (fun k => ⟨b, o + k, none⟩) /\
  ∀ k, k < n -> w.frozen? ⟨b, o + k, none⟩ = false /\ ∃ x, w.cell? ⟨b, o + k, none⟩ = some (.int .i64 x))
theorem zet.mono {w : World} {lo hi lo' hi' n : Nat} {v : Value} {ps : List Addr} (h : zet w lo hi v n ps) (h1 : lo' <= lo) (h2 : hi <= hi') : zet w lo' hi' v n ps := by
 obtain ⟨A, c, rfl, hcc, hl, h⟩ := h
 refine ⟨A, c, rfl, hcc, hl, fun hn => ?_⟩
 obtain ⟨b, o, rfl, h3, h4, hp, hx⟩ := h hn
 exact ⟨b, o, rfl, by omega, by omega, hp, hx⟩
theorem zet.block {w : World} {lo hi n : Nat} {v : Value} {ps : List Addr} (h : zet w lo hi v n ps) {p : Addr} (hp : p ∈ ps) : lo <= p.block /\ p.block < hi := by
 obtain ⟨A, c, rfl, _, hl, h⟩ := h
 have hn : 0 < n := by rw [<- hl]; exact List.length_pos_of_mem hp
 obtain ⟨b, o, rfl, h1, h2, rfl, _⟩ := h hn
 simp only [List.mem_map, List.mem_range] at hp
 obtain ⟨k, _, rfl⟩ := hp
 exact ⟨h1, h2⟩
theorem zet.nodup {w : World} {lo hi n : Nat} {v : Value} {ps : List Addr} (h : zet w lo hi v n ps) : ps.Nodup := by
 obtain ⟨A, c, rfl, _, hl, h⟩ := h
 rcases Nat.eq_zero_or_pos n with h0 | hn
 ·rw [h0] at hl
  rw [List.eq_nil_of_length_eq_zero hl]
  exact List.nodup_nil
 ·obtain ⟨b, o, rfl, h1, h2, rfl, _⟩ := h hn
  rw [List.nodup_iff_pairwise_ne, List.pairwise_map]
  exact List.Pairwise.imp (fun {a b} hab e => by injection e with _ e2 _; omega) List.pairwise_lt_range
theorem zg.leaves {w : World} {lo hi : Nat} {v : Value} {xs : List Int} (h : zg w lo hi v xs) : ∃ ps, zet w lo hi v xs.length ps := by
 obtain ⟨A2, c2, e2, hcc, _⟩ := h.rd
 obtain ⟨A, c, rfl, hx⟩ := h.wr
 injection e2 with _ _ e2
 subst e2
 rcases Nat.eq_zero_or_pos xs.length with h0 | hn
 ·exact ⟨[], A, c, rfl, hcc, by simp [h0], fun hn => absurd hn (by omega)⟩
 ·obtain ⟨b, o, rfl, h1, h2, hx⟩ := hx hn
  exact ⟨(List.range xs.length).map (fun k => ⟨b, o + k, none⟩), _, c, rfl, hcc, by simp, fun _ => ⟨b, o, rfl, h1, h2, rfl, hx⟩⟩
theorem zet.rd {w : World} {lo hi n : Nat} {v : Value} {ps : List Addr} {k : Int} (h : zet w lo hi v n ps) (hh : zap w k ps) : zv w w.heap.size v (zna k n) := by
 obtain ⟨A, c, rfl, hcc, hl, h⟩ := h
 refine ⟨A, c, by rw [zd6], by rw [zd6]; exact hcc, fun hn => ?_⟩
 rw [zd6] at hn
 obtain ⟨b, o, rfl, h1, h2, hp, hx⟩ := h hn
 have hat : ∀ j (hj : j < n), w.cell? ⟨b, o + j, none⟩ = some (.int .i64 (k + (j : Int))) := fun j hj => by
  have := hh j (by omega)
  simpa [hp] using this
 refine ⟨b, o, rfl, World.block_lt_of_cell? _ _ (hat 0 hn), fun j hj => ?_⟩
 rw [zoG]
 exact hat j (by rwa [zd6] at hj)
open Go.RowKit
open Go.RowKit
theorem zv.only {w w' : World} {lo hi B : Nat} {v : Value} {xs : List Int} (h : zv w B v xs) (ho : zl lo hi w w') (hB : B <= lo) : zv w' B v xs := by
 obtain ⟨A, c, rfl, hc, h⟩ := h
 refine ⟨A, c, rfl, hc, fun hn => ?_⟩
 obtain ⟨b, o, rfl, hlt, hk⟩ := h hn
 refine ⟨b, o, rfl, hlt, fun k hkl => ?_⟩
 have hc := hk k hkl
 rw [<- hc]
 exact World.cell?_of_block (by exact ho.block b (World.block_lt_of_cell? _ _ hc) (.inl (by omega)))
structure zfH (g r : Nat) (w w' : World) : Prop where
 os : w'.os = w.os
 tape : w'.tape = w.tape
 output : w'.output = w.output
 size : w.heap.size <= w'.heap.size
 block : ∀ k, k < w.heap.size -> k ≠ g -> k ≠ r -> w'.heap[k]? = w.heap[k]?
theorem zfH.refl (g r : Nat) (w : World) : zfH g r w w := ⟨rfl, rfl, rfl, Nat.le_refl _, fun _ _ _ _ => rfl⟩
theorem zfH.only {g r : Nat} {w w1 w' : World} (h : zfH g r w w1) (ho : zl g (g + 1) w1 w') : zfH g r w w' :=
 ⟨ho.os.trans h.os, ho.tape.trans h.tape, ho.output.trans h.output, Nat.le_trans h.size ho.size, fun k hk h1 h2 => (ho.block k (Nat.lt_of_lt_of_le hk h.size) (by omega)).trans (h.block k hk h1 h2)⟩
theorem zfH.set {g r j : Nat} {w w1 : World} (h : zfH g r w w1) (u : Value) : zfH g r w (w1.setCell ⟨r, j, none⟩ u) :=
 ⟨h.os, h.tape, h.output, by simpa using h.size, fun k hk h1 h2 => (Below.heap_setCell _ _ _ _ h2).trans (h.block k hk h1 h2)⟩
theorem Blk.but {g r b : Nat} {w w' : World} {t : TypeId} {cs : Array Value} (h : Blk w b t cs) (hb : zfH g r w w') (h1 : b ≠ g) (h2 : b ≠ r) : Blk w' b t cs := (hb.block b h.lt h1 h2).trans h
open Go.RowKit
end Go.Proofs.YtofkcmihcgmmpaaGreatDoor
