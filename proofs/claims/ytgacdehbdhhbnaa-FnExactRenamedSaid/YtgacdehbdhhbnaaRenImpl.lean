/-
  The program's renaming: the walks of ruleHasTerms and Renamed.
-/
import Derived.Test.YtgacdehbdhhbnaaRenAtom
import Derived.Test.YtgacdehbdhhbnaaBits
import Derived.Test.YtgacdehbdhhbnaaLeafLits
import Derived.Test.YtgacdehbdhhbnaaSafe
import Derived.Test.YtgacdehbdhhbnaaFill
namespace Go.Proofs.Ytgacdehbdhhbnaa
open Go.RowKit

set_option maxHeartbeats 400000 in
theorem ruleHasTerms_any (v : Value) (r : LRule) (w : World) (h : RdRule w w.heap.size v r) (hr : szR r ≤ 1048576) :
    Calls Try.prog 91 #[v] w fun e w' => e = .returned (.bool (termsOk r)) ∧ Below w.heap.size w w' := by
  obtain ⟨a, b, rfl, h, h2⟩ := h
  unfold szR at hr
  have H := Lib.hid h
  have H2 := Lib.hid h2
  obtain ⟨A, c, rfl, hc, _⟩ := h
  obtain ⟨A2, c2, rfl, hcc, _⟩ := h2
  go_enter Try.func91, Try.ntmps91
  go_wp2_with (fail)
  obtain ⟨w1, hw1⟩ : ∃ w1, w1 = w.alloc (Obj.cells #[Value.int IntKind.i64 r.1.1, Value.slice A r.1.2.length c, Value.slice A2 r.2.length c2] 63) := ⟨_, rfl⟩
  have B1 : Below w.heap.size w w1 := by rw [hw1]; exact below1 _ _
  have x1 : Blk w1 w.heap.size 63 #[.int .i64 r.1.1, .slice A r.1.2.length c, .slice A2 r.2.length c2] := by rw [hw1]; exact Blk.new w _ _
  rw [← hw1]
  clear hw1
  go_loopw [4, 8] (fun _ i wr => ∃ k : Nat, k ≤ r.2.length ∧ i = .int .i64 k ∧ AllTo (fun l : LLit => l.2.2.all termOk) r.2 k ∧ Below w1.heap.size w1 wr) (fun _ i _ => r.2.length - (intOf i).toNat)
  case atStart => exact ⟨0, Nat.zero_le _, rfl, AllTo.start, Below.refl _ _⟩
  case round =>
    obtain ⟨k, hk, rfl, hs, hbe⟩ := hrel
    have BW := bthen B1 hbe
    have xr := x1.below hbe x1.lt
    have q1 : wr.cell? ⟨w.heap.size, 1, none⟩ = some (.slice A r.1.2.length c) := xr.cell 1
    by_cases hlt : k < r.2.length
    · obtain ⟨b, o, u0, u1, u2, rfl, hbB, k0, k1, k2, rfl, rfl, p3⟩ := (H2.out.on BW).get hlt
      have HA := Lib.hid p3
      obtain ⟨A3, c3, rfl, hc3, _⟩ := p3
      have hle := len_le_totL r.2 k hlt
      cases ht : r.2[k].2.2.all termOk
      · have HF := Lib.hid (show termsOk r = false by
          have : (r.2.all fun l => l.2.2.all termOk) = false := by
            rw [List.all_eq_false]
            exact ⟨r.2[k], List.getElem_mem _, by rw [ht]; decide⟩
          unfold termsOk
          rw [this]
          rfl)
        have HT := Lib.hid ht
        clear hs ht
        go_wp2_with (go_at_call 98; refine (areTerms_any _ r.2[k].2.2 _ _ (HA.out.on (below1 _ _)) (by omega)).mono ?_; rw [HT.out]; rintro e w' ⟨rfl, rfl⟩)
        go_ret
        exact ⟨ret_bool HF.out.symm, bthen BW (below1 _ _)⟩
      · have HS := Lib.hid (hs.step hlt ht)
        have HT := Lib.hid ht
        clear hs ht
        go_wp2_with (go_at_call 98; refine (areTerms_any _ r.2[k].2.2 _ _ (HA.out.on (below1 _ _)) (by omega)).mono ?_; rw [HT.out]; rintro e w' ⟨rfl, rfl⟩)
        go_roundw
        case rel => exact ⟨k + 1, by omega, by go_num, HS.out, bthen hbe (below1 _ _)⟩
        case measure => simp [intOf]; omega
    · have HS := Lib.hid (show termsOk r = r.1.2.all termOk by
        have : (r.2.all fun l => l.2.2.all termOk) = true := AllTo.done hs (by omega)
        unfold termsOk
        rw [this, Bool.true_and])
      clear hs
      go_wp2_with (go_at_call 98; refine (areTerms_any _ r.1.2 _ _ (H.out.on BW) (by omega)).mono ?_; rintro e w' ⟨rfl, rfl⟩)
      go_ret
      exact ⟨ret_bool HS.out.symm, BW⟩

theorem Blk.last (w : World) (o : Obj) (t : TypeId) (cs : Array Value) : Blk ((w.alloc o).alloc (.cells cs t)).drew (w.heap.size + 1) t cs := by
  have := Blk.new (w.alloc o) t cs
  rw [World.size_alloc] at this
  exact this
theorem Only.al {lo hi : Nat} {w W : World} (h : Only lo hi w W) (o : Obj) : Only lo hi w (W.alloc o) := h.trans (Only.of_below (below1 _ _))
theorem Only.setNew {lo hi : Nat} {w W : World} (h : Only lo hi w W) {p : Addr} (hp : w.heap.size ≤ p.block) (u : Value) : Only lo hi w (W.setCell p u) :=
  ⟨h.os, h.tape, h.output, by simpa using h.size, fun k hk ho => (Below.heap_setCell _ _ _ _ (by omega)).trans (h.block k hk ho)⟩

/-- What holds behind the region that begins a renamed rule: the new rule's block gO, its body's row gB, its head's row, the names. -/
def RenMid (w2 : World) (g : Nat) (p : Int) (s0 : Ren) (xs : List Int) (m : Nat) (ptr : Value) (wx : World) : Prop :=
  ∃ gO gB A c la ha, ptr = .pointer (some ⟨gO, 0, none⟩) ∧ Blk wx gO 63 #[.int .i64 p, .slice A xs.length c, .slice (some ⟨gB, 0, none⟩) m m] ∧ Blk wx gB 52 (madeCells #[.int .i64 0, .int .i64 0, .slice none 0 0] (m * 3)) ∧
    OwnInts wx la ha (.slice A xs.length c) (renOut s0 xs) ∧ NamesAt wx g (renList s0 xs) ∧ Only g (g + 1) w2 wx ∧ (w2.heap.size ≤ la ∧ w2.heap.size ≤ gO ∧ w2.heap.size ≤ gB) ∧ ((gO < la ∨ ha ≤ gO) ∧ (gB < la ∨ ha ≤ gB) ∧ gO ≠ gB) ∧ ha ≤ wx.heap.size

section
variable {w2 W3 : World} {g m la : Nat} {p : Int} {s0 : Ren} {xs : List Int} {A : Option Addr} {c : Nat}
/-- The row of a new body, before it is filled. -/
abbrev litRow (m : Nat) : Obj := Obj.cells (madeCells #[Value.int IntKind.i64 0, Value.int IntKind.i64 0, Value.slice none 0 0] (m * 3)) 52
abbrev outRow (p : Int) (A : Option Addr) (n c gB m : Nat) : Obj := Obj.cells #[Value.int IntKind.i64 p, Value.slice A n c, Value.slice (some ⟨gB, 0, none⟩) m m] 63
theorem OwnInts.al {w : World} {lo hi : Nat} {v : Value} {ys : List Int} (h : OwnInts w lo hi v ys) (hh : hi ≤ w.heap.size) (o : Obj) : OwnInts (w.alloc o) lo hi v ys := h.below (below1 _ _) hh
theorem RenMid.o1 (hK : Only g (g + 1) w2 W3) (ho : OwnInts W3 la W3.heap.size (.slice A xs.length c) (renOut s0 xs)) (hn : NamesAt W3 g (renList s0 xs)) (hla : w2.heap.size ≤ la) :
    RenMid w2 g p s0 xs m (.pointer (some ⟨W3.heap.size + 1, 0, none⟩)) ((W3.alloc (litRow m)).alloc (outRow p A xs.length c W3.heap.size m)) := by
  have hs := hK.size
  refine ⟨W3.heap.size + 1, W3.heap.size, A, c, la, W3.heap.size, rfl, ?_, (Blk.new W3 _ _).alloc _, (ho.al (Nat.le_refl _) _).al (by simp) _, hn.below (below2 _ _ _) hn.lt, (hK.al _).al _, ⟨hla, by omega, by omega⟩, ⟨.inr (by omega), .inr (Nat.le_refl _), by omega⟩, by simp; omega⟩
  have := Blk.new (W3.alloc (litRow m)) 63 #[Value.int IntKind.i64 p, Value.slice A xs.length c, Value.slice (some ⟨W3.heap.size, 0, none⟩) m m]
  rw [World.size_alloc] at this
  exact this
theorem RenMid.o2 (hK : Only g (g + 1) w2 W3) (ho : OwnInts W3 la W3.heap.size (.slice A xs.length c) (renOut s0 xs)) (hn : NamesAt W3 g (renList s0 xs)) (hla : w2.heap.size ≤ la) :
    RenMid w2 g p s0 xs m (.pointer (some ⟨W3.heap.size, 0, none⟩)) ((W3.alloc (outRow p A xs.length c (W3.heap.size + 1) m)).alloc (litRow m)) := by
  have hs := hK.size
  refine ⟨W3.heap.size, W3.heap.size + 1, A, c, la, W3.heap.size, rfl, (Blk.new W3 _ _).alloc _, ?_, (ho.al (Nat.le_refl _) _).al (by simp) _, hn.below (below2 _ _ _) hn.lt, (hK.al _).al _, ⟨hla, by omega, by omega⟩, ⟨.inr (Nat.le_refl _), .inr (by omega), by omega⟩, by simp; omega⟩
  have := Blk.new (W3.alloc (outRow p A xs.length c (W3.heap.size + 1) m)) 52 (madeCells #[Value.int IntKind.i64 0, Value.int IntKind.i64 0, Value.slice none 0 0] (m * 3))
  rw [World.size_alloc] at this
  exact this
theorem RenMid.o3 (hg : g < w2.heap.size) (hb : Only g (g + 1) (w2.alloc (litRow m)).drew W3) (ho : OwnInts W3 (w2.alloc (litRow m)).drew.heap.size W3.heap.size (.slice A xs.length c) (renOut s0 xs)) (hn : NamesAt W3 g (renList s0 xs)) :
    RenMid w2 g p s0 xs m (.pointer (some ⟨W3.heap.size, 0, none⟩)) (W3.alloc (outRow p A xs.length c w2.heap.size m)) := by
  have hs := hb.size
  simp at hs
  have hK : Only g (g + 1) w2 W3 := (Only.of_below (below1 w2 (litRow m)).drew).trans hb
  have z : Blk W3 w2.heap.size 52 (madeCells #[.int .i64 0, .int .i64 0, .slice none 0 0] (m * 3)) := (show Blk (w2.alloc (litRow m)).drew _ _ _ from Blk.new w2 _ _).only hb (.inr (by omega))
  exact ⟨W3.heap.size, w2.heap.size, A, c, _, W3.heap.size, rfl, Blk.new W3 _ _, z.alloc _, ho.al (Nat.le_refl _) _, hn.below (below1 _ _) hn.lt, hK.al _, ⟨by simp, by omega, Nat.le_refl _⟩, ⟨.inr (Nat.le_refl _), .inl (by simp), by omega⟩, by simp⟩
theorem OwnInts.set3 {w : World} {lo hi gO : Nat} {v : Value} {ys : List Int} (h : OwnInts w lo hi v ys) (hp : gO < lo) (u0 u1 u2 : Value) : OwnInts (((w.setCell ⟨gO, 0, none⟩ u0).setCell ⟨gO, 1, none⟩ u1).setCell ⟨gO, 2, none⟩ u2) lo hi v ys :=
  ((h.set (p := ⟨gO, 0, none⟩) (.inl hp) _).set (p := ⟨gO, 1, none⟩) (.inl hp) _).set (p := ⟨gO, 2, none⟩) (.inl hp) _
theorem NamesAt.set3 {w : World} {g gO : Nat} {s : Ren} (h : NamesAt w g s) (hp : g ≠ gO) (u0 u1 u2 : Value) : NamesAt (((w.setCell ⟨gO, 0, none⟩ u0).setCell ⟨gO, 1, none⟩ u1).setCell ⟨gO, 2, none⟩ u2) g s :=
  ((h.far (p := ⟨gO, 0, none⟩) hp _).far (p := ⟨gO, 1, none⟩) hp _).far (p := ⟨gO, 2, none⟩) hp _
theorem Only.set3 {w W : World} {lo hi gO : Nat} (h : Only lo hi w W) (hp : w.heap.size ≤ gO) (u0 u1 u2 : Value) : Only lo hi w (((W.setCell ⟨gO, 0, none⟩ u0).setCell ⟨gO, 1, none⟩ u1).setCell ⟨gO, 2, none⟩ u2) :=
  ((h.setNew (p := ⟨gO, 0, none⟩) hp _).setNew (p := ⟨gO, 1, none⟩) hp _).setNew (p := ⟨gO, 2, none⟩) hp _
theorem Blk.set3 {w : World} {gO : Nat} {t : TypeId} {v0 v1 v2 : Value} (h : Blk w gO t #[v0, v1, v2]) (u0 u1 u2 : Value) : Blk (((w.setCell ⟨gO, 0, none⟩ u0).setCell ⟨gO, 1, none⟩ u1).setCell ⟨gO, 2, none⟩ u2) gO t #[u0, u1, u2] := by
  simpa using ((h.set_ 0 u0).set_ 1 u1).set_ 2 u2
theorem Blk.far3 {w : World} {g gO : Nat} {t : TypeId} {cs : Array Value} (h : Blk w g t cs) (hp : g ≠ gO) (u0 u1 u2 : Value) : Blk (((w.setCell ⟨gO, 0, none⟩ u0).setCell ⟨gO, 1, none⟩ u1).setCell ⟨gO, 2, none⟩ u2) g t cs :=
  ((h.far (p := ⟨gO, 0, none⟩) hp _).far (p := ⟨gO, 1, none⟩) hp _).far (p := ⟨gO, 2, none⟩) hp _
theorem size_set3 (w : World) (gO : Nat) (u0 u1 u2 : Value) : (((w.setCell ⟨gO, 0, none⟩ u0).setCell ⟨gO, 1, none⟩ u1).setCell ⟨gO, 2, none⟩ u2).heap.size = w.heap.size := by simp
theorem NamesAt.set3' {w : World} {g gO a b c : Nat} {s : Ren} (h : NamesAt w g s) (hp : g ≠ gO) (u0 u1 u2 : Value) : NamesAt (((w.setCell ⟨gO, a, none⟩ u0).setCell ⟨gO, b, none⟩ u1).setCell ⟨gO, c, none⟩ u2) g s :=
  ((h.far (p := ⟨gO, a, none⟩) hp _).far (p := ⟨gO, b, none⟩) hp _).far (p := ⟨gO, c, none⟩) hp _
/-- The new rule before it is filled. -/
abbrev ruleRow : Obj := Obj.cells #[Value.int IntKind.i64 0, Value.slice none 0 0, Value.slice none 0 0] 63
theorem RenMid.o4 (hg : g < w2.heap.size) (hb : Only g (g + 1) ((w2.alloc (litRow m)).alloc ruleRow).drew W3) (ho : OwnInts W3 ((w2.alloc (litRow m)).alloc ruleRow).drew.heap.size W3.heap.size (.slice A xs.length c) (renOut s0 xs)) (hn : NamesAt W3 g (renList s0 xs)) :
    RenMid w2 g p s0 xs m (.pointer (some ⟨w2.heap.size + 1, 0, none⟩)) (((W3.setCell ⟨w2.heap.size + 1, 0, none⟩ (.int .i64 p)).setCell ⟨w2.heap.size + 1, 1, none⟩ (.slice A xs.length c)).setCell ⟨w2.heap.size + 1, 2, none⟩ (.slice (some ⟨w2.heap.size, 0, none⟩) m m)) := by
  have hs := hb.size
  simp at hs
  have hK : Only g (g + 1) w2 W3 := (Only.of_below (below2 w2 (litRow m) ruleRow).drew).trans hb
  have z : Blk W3 w2.heap.size 52 (madeCells #[.int .i64 0, .int .i64 0, .slice none 0 0] (m * 3)) := (show Blk ((w2.alloc (litRow m)).alloc ruleRow).drew _ _ _ from (Blk.new w2 _ _).alloc _).only hb (.inr (by omega))
  have y := (Blk.last w2 (litRow m) 63 #[Value.int IntKind.i64 0, Value.slice none 0 0, Value.slice none 0 0]).only hb (.inr (by omega))
  exact ⟨w2.heap.size + 1, w2.heap.size, A, c, _, W3.heap.size, rfl, y.set3 _ _ _, z.far3 (by omega) _ _ _, ho.set3 (by simp) _ _ _, hn.set3 (by omega) _ _ _, hK.set3 (by omega) _ _ _, ⟨by simp; omega, by omega, Nat.le_refl _⟩, ⟨.inl (by simp), .inl (by simp; omega), by omega⟩, by rw [size_set3]; exact Nat.le_refl _⟩
theorem RenMid.o5 (hg : g < w2.heap.size) (hb : Only g (g + 1) (w2.alloc ruleRow).drew W3) (ho : OwnInts W3 (w2.alloc ruleRow).drew.heap.size W3.heap.size (.slice A xs.length c) (renOut s0 xs)) (hn : NamesAt W3 g (renList s0 xs)) :
    RenMid w2 g p s0 xs m (.pointer (some ⟨w2.heap.size, 0, none⟩)) ((((W3.setCell ⟨w2.heap.size, 0, none⟩ (.int .i64 p)).setCell ⟨w2.heap.size, 1, none⟩ (.slice A xs.length c)).setCell ⟨w2.heap.size, 2, none⟩ (.slice (some ⟨W3.heap.size, 0, none⟩) m m)).alloc (litRow m)) := by
  have hs := hb.size
  simp at hs
  have hK : Only g (g + 1) w2 W3 := (Only.of_below (below1 w2 ruleRow).drew).trans hb
  have y : Blk W3 w2.heap.size 63 #[Value.int IntKind.i64 0, Value.slice none 0 0, Value.slice none 0 0] := (show Blk (w2.alloc ruleRow).drew _ _ _ from Blk.new w2 _ _).only hb (.inr (by omega))
  have hsz := size_set3 W3 w2.heap.size (.int .i64 p) (.slice A xs.length c) (.slice (some ⟨W3.heap.size, 0, none⟩) m m)
  have hN := hn.set3 (gO := w2.heap.size) (by omega) (.int .i64 p) (.slice A xs.length c) (.slice (some ⟨W3.heap.size, 0, none⟩) m m)
  refine ⟨w2.heap.size, W3.heap.size, A, c, _, W3.heap.size, rfl, (y.set3 _ _ _).alloc _, ?_, (ho.set3 (by simp) _ _ _).al (by rw [hsz]; exact Nat.le_refl _) _, hN.below (below1 _ _) hN.lt, (hK.set3 (Nat.le_refl _) _ _ _).al _, ⟨by simp, Nat.le_refl _, by omega⟩, ⟨.inl (by simp), .inr (Nat.le_refl _), by omega⟩, by simp⟩
  have hz := Blk.new (((W3.setCell ⟨w2.heap.size, 0, none⟩ (.int .i64 p)).setCell ⟨w2.heap.size, 1, none⟩ (.slice A xs.length c)).setCell ⟨w2.heap.size, 2, none⟩ (.slice (some ⟨W3.heap.size, 0, none⟩) m m)) 52 (madeCells #[Value.int IntKind.i64 0, Value.int IntKind.i64 0, Value.slice none 0 0] (m * 3))
  rw [hsz] at hz
  exact hz
theorem RenMid.o6 (hg : g < w2.heap.size) (hb : Only g (g + 1) ((w2.alloc ruleRow).alloc (litRow m)).drew W3) (ho : OwnInts W3 ((w2.alloc ruleRow).alloc (litRow m)).drew.heap.size W3.heap.size (.slice A xs.length c) (renOut s0 xs)) (hn : NamesAt W3 g (renList s0 xs)) :
    RenMid w2 g p s0 xs m (.pointer (some ⟨w2.heap.size, 0, none⟩)) (((W3.setCell ⟨w2.heap.size, 0, none⟩ (.int .i64 p)).setCell ⟨w2.heap.size, 1, none⟩ (.slice A xs.length c)).setCell ⟨w2.heap.size, 2, none⟩ (.slice (some ⟨w2.heap.size + 1, 0, none⟩) m m)) := by
  have hs := hb.size
  simp at hs
  have hK : Only g (g + 1) w2 W3 := (Only.of_below (below2 w2 ruleRow (litRow m)).drew).trans hb
  have y : Blk W3 w2.heap.size 63 #[Value.int IntKind.i64 0, Value.slice none 0 0, Value.slice none 0 0] := (show Blk ((w2.alloc ruleRow).alloc (litRow m)).drew _ _ _ from (Blk.new w2 _ _).alloc _).only hb (.inr (by omega))
  have z := (Blk.last w2 ruleRow 52 (madeCells #[Value.int IntKind.i64 0, Value.int IntKind.i64 0, Value.slice none 0 0] (m * 3))).only hb (.inr (by omega))
  exact ⟨w2.heap.size, w2.heap.size + 1, A, c, _, W3.heap.size, rfl, y.set3 _ _ _, z.far3 (by omega) _ _ _, ho.set3 (by simp; omega) _ _ _, hn.set3 (by omega) _ _ _, hK.set3 (Nat.le_refl _) _ _ _, ⟨by simp; omega, Nat.le_refl _, by omega⟩, ⟨.inl (by simp; omega), .inl (by simp), by omega⟩, by rw [size_set3]; exact Nat.le_refl _⟩
end

theorem But2.then_ {w wc wr : World} {g r : Nat} (hb : Below w.heap.size w wc) (h : But2 g r wc wr) (h1 : w.heap.size ≤ g) (h2 : w.heap.size ≤ r) : Below w.heap.size w wr :=
  hb.trans ⟨h.os, h.tape, h.output, h.size, fun k hk => h.block k (Nat.lt_of_lt_of_le hk hb.size) (by omega) (by omega)⟩
theorem But2.trans {w wc wr : World} {g r : Nat} (h : But2 g r w wc) (k : But2 g r wc wr) : But2 g r w wr :=
  ⟨k.os.trans h.os, k.tape.trans h.tape, k.output.trans h.output, Nat.le_trans h.size k.size, fun b hb h1 h2 => (k.block b (Nat.lt_of_lt_of_le hb h.size) h1 h2).trans (h.block b hb h1 h2)⟩
theorem But2.of_below {w w' : World} {g r : Nat} (h : Below w.heap.size w w') : But2 g r w w' := ⟨h.os, h.tape, h.output, h.size, fun k hk _ _ => h.block k hk⟩
theorem But2.set3 {g r a b c : Nat} {w w1 : World} (h : But2 g r w w1) (u0 u1 u2 : Value) : But2 g r w (((w1.setCell ⟨r, a, none⟩ u0).setCell ⟨r, b, none⟩ u1).setCell ⟨r, c, none⟩ u2) := ((h.set u0).set u1).set u2
theorem renBody_count : ∀ (ls : List LLit) (s : Ren), (renBody s ls).2 ≤ s.2 + totL ls
  | [], s => by simp [renBody]
  | l :: ls, s => by
    have h1 := renBody_count ls (renList s l.2.2)
    have h2 := renList_count l.2.2 s
    show (renBody (renList s l.2.2) ls).2 ≤ _
    simp only [totL, List.map_cons, List.sum_cons] at h1 ⊢
    omega
theorem totL_take_le (ls : List LLit) (k : Nat) : totL (ls.take k) ≤ totL ls := by
  have := congrArg (fun l => (l.map fun l : LLit => l.2.2.length).sum) (List.take_append_drop k ls)
  simp only [List.map_append, List.sum_append] at this
  unfold totL
  omega
theorem renLits_at {s : Ren} {ls xs : List LLit} (hxs : xs = renLits s ls) {k : Nat} (h : k < ls.length) (h' : k < xs.length) : xs[k] = (ls[k].1, ls[k].2.1, renOut (renBody s (ls.take k)) ls[k].2.2) := by
  subst hxs
  have e1 : ls.getD k (0, (0, [])) = ls[k] := by simp [h]
  simp [renLits, h]

set_option maxHeartbeats 4000000 in
set_option maxRecDepth 100000 in
theorem implRenamed_yes (v : Value) (r : LRule) (w : World) (h : RdRule w w.heap.size v r) (hr : szR r ≤ 1048576) (hok : termsOk r = true) :
    Calls Try.prog 54 #[v] w fun e w' => ∃ A c A2 c2 lo hi ps, e = .returned (.agg #[.int .i64 (renamed r).1.1, .slice A (renamed r).1.2.length c, .slice A2 (renamed r).2.length c2]) ∧
      (OwnInts w' lo hi (.slice A (renamed r).1.2.length c) (renamed r).1.2 ∧ OwnLits w' lo hi (.slice A2 (renamed r).2.length c2) (renamed r).2) ∧
      LvRule w' lo hi (.agg #[.int .i64 (renamed r).1.1, .slice A (renamed r).1.2.length c, .slice A2 (renamed r).2.length c2]) (renamed r) ps ∧ ps.Nodup ∧ w.heap.size ≤ lo ∧ hi ≤ w'.heap.size ∧ Below w.heap.size w w' := by
  obtain ⟨a, b, rfl, h, h2⟩ := h
  have HRR := Lib.hid (show RdRule w w.heap.size (.agg #[.int .i64 r.1.1, a, b]) r from ⟨a, b, rfl, h, h2⟩)
  have hsz := hr
  unfold szR at hr
  have H := Lib.hid h
  have H2 := Lib.hid h2
  obtain ⟨A, c, rfl, hc, _⟩ := h
  obtain ⟨A2, c2, rfl, hcc, _⟩ := h2
  obtain ⟨i0, hi0, hz0, hz1, hz2⟩ := info_parts Try.infoLit
  have hmk := run_make_rowN (P := Try.prog) 61 52 i0 (.agg #[.int .i64 0, .int .i64 0, .slice none 0 0]) Try.underlying61 hi0 hz0 .i64 .i64 r.2.length r.2.length (Nat.le_refl _) (by rw [hz2]; omega) (by omega)
  rw [hz1] at hmk
  go_enter Try.func54, Try.ntmps54
  go_wp2_with (fail)
  refine (ruleHasTerms_any _ r _ (HRR.out.on (below2 _ _ _)) hsz).mono ?_
  rintro e w1 ⟨rfl, hb1⟩
  rw [hok]
  have B1 := bthen (below2 _ _ _) hb1
  have x1 : Blk w1 w.heap.size 63 #[.int .i64 r.1.1, .slice A r.1.2.length c, .slice A2 r.2.length c2] := ((Blk.new w _ _).alloc _).below hb1 (by simp; omega)
  have y1 : Blk w1 (w.heap.size + 1) 63 #[.int .i64 0, .slice none 0 0, .slice none 0 0] := by
    have := (Blk.new (w.alloc (Obj.cells #[Value.int IntKind.i64 r.1.1, Value.slice A r.1.2.length c, Value.slice A2 r.2.length c2] 63)) 63 #[.int .i64 0, .slice none 0 0, .slice none 0 0]).below hb1 (by simp)
    simpa using this
  have s1 : w.heap.size + 2 ≤ w1.heap.size := by have := hb1.size; simp at this; exact this
  clear hb1
  go_wp2_with (fail)
  obtain ⟨w2, hw2⟩ : ∃ w2, w2 = w1.alloc (Obj.cells #[Value.int IntKind.i64 0, Value.int IntKind.i64 0, Value.int IntKind.i64 0, Value.int IntKind.i64 0, Value.int IntKind.i64 0] 117) := ⟨_, rfl⟩
  have b2 : Below w1.heap.size w1 w2 := by rw [hw2]; exact below1 _ _
  have s2 : w2.heap.size = w1.heap.size + 1 := by rw [hw2]; simp
  have n2 : NamesAt w2 w1.heap.size ren0 := by rw [hw2]; exact ⟨0, 0, 0, 0, rfl, Blk.new _ _ _⟩
  have hlt2 := n2.lt
  have B2 := bthen B1 b2
  have x2 := x1.below b2 x1.lt
  have y2 := y1.below b2 y1.lt
  have q0 : w2.cell? ⟨w.heap.size, 0, none⟩ = some (.int .i64 r.1.1) := x2.cell 0
  have q1 : w2.cell? ⟨w.heap.size, 1, none⟩ = some (.slice A r.1.2.length c) := x2.cell 1
  have q2 : w2.cell? ⟨w.heap.size, 2, none⟩ = some (.slice A2 r.2.length c2) := x2.cell 2
  rw [← hw2]
  clear hw2
  have HS := Lib.hid (show ∀ W, Only w1.heap.size (w1.heap.size + 1) w2 W → (Only w1.heap.size (w1.heap.size + 1) w2 W ∧ W.cell? ⟨w.heap.size, 0, none⟩ = some (.int .i64 r.1.1) ∧ W.cell? ⟨w.heap.size, 1, none⟩ = some (.slice A r.1.2.length c) ∧ W.cell? ⟨w.heap.size, 2, none⟩ = some (.slice A2 r.2.length c2)) from
    fun W hW => ⟨hW, (x2.only hW (.inl (by omega))).cell 0, (x2.only hW (.inl (by omega))).cell 1, (x2.only hW (.inl (by omega))).cell 2⟩)
  have HN := Lib.hid (show ∀ W, Below w2.heap.size w2 W → NamesAt W w1.heap.size ren0 from fun W hW => n2.below hW n2.lt)
  have HV := Lib.hid (show ∀ W, Only w1.heap.size (w1.heap.size + 1) w2 W → RdInts W w1.heap.size (.slice A r.1.2.length c) r.1.2 from fun W hW => (((H.out.below B2 (Nat.le_refl _)).more (by omega)).only hW (Nat.le_refl _)))
  have S2 := Lib.hid s2
  clear s2
  go_upto_region 4 with fail
  go_cut [4] (fun ptr wx => RenMid w2 w1.heap.size r.1.1 ren0 r.1.2 r.2.length ptr wx)
  case first =>
   go_region_held3 (fun W => Only w1.heap.size (w1.heap.size + 1) w2 W ∧ W.cell? ⟨w.heap.size, 0, none⟩ = some (.int .i64 r.1.1) ∧ W.cell? ⟨w.heap.size, 1, none⟩ = some (.slice A r.1.2.length c) ∧ W.cell? ⟨w.heap.size, 2, none⟩ = some (.slice A2 r.2.length c2))
    (first | with_reducible exact HS.out _ (Only.of_below (Below.refl _ _).drew) | with_reducible exact HS.out _ (Only.of_below (below1 _ _).drew) | with_reducible exact HS.out _ (Only.of_below (below2 _ _ _).drew) | with_reducible exact HS.out _ (Only.of_below (below3 _ _ _ _).drew) | with_reducible exact HS.out _ K3 | with_reducible exact HS.out _ (K3.al _) | with_reducible exact HS.out _ ((K3.al _).al _) | ((with_reducible refine HS.out _ (((K3.setNew ?_ _).setNew ?_ _).setNew ?_ _)) <;> (first | omega | (simp; done) | (simp; omega))) | ((with_reducible refine HS.out _ ((((K3.al _).setNew ?_ _).setNew ?_ _).setNew ?_ _)) <;> (first | omega | (simp; done) | (simp; omega))) | ((with_reducible refine HS.out _ ((((K3.setNew ?_ _).setNew ?_ _).setNew ?_ _).al _)) <;> (first | omega | (simp; done) | (simp; omega))))
    (first | (go_at_call 92; refine (renAtom_any w1.heap.size ren0 r.1.1 _ r.1.2 _ ?_ ?_ (by omega) (by decide)).mono ?_; (first | exact HN.out _ (Below.refl _ _).drew | exact HN.out _ (below1 _ _).drew | exact HN.out _ (below2 _ _ _).drew | exact HN.out _ (below3 _ _ _ _).drew); exact HV.out _ (And.left (by assumption)); rintro e W3 ⟨A3, c3, rfl, ho3, hn3, hb3⟩; have K3 : Only w1.heap.size (w1.heap.size + 1) w2 W3 := (And.left (by assumption) : Only w1.heap.size (w1.heap.size + 1) w2 _).trans hb3; have K3s := K3.size; (first
      | (have z : Blk W3 w2.heap.size 63 #[.int .i64 0, .slice none 0 0, .slice none 0 0] := (show Blk (w2.alloc (Obj.cells #[Value.int IntKind.i64 0, Value.slice none 0 0, Value.slice none 0 0] 63)).drew w2.heap.size 63 #[.int .i64 0, .slice none 0 0, .slice none 0 0] from Blk.new w2 _ _).only hb3 (.inr (by omega)); have z0 : W3.cell? ⟨w2.heap.size, 0, none⟩ = some (.int .i64 0) := z.cell 0; have z1 : W3.cell? ⟨w2.heap.size, 1, none⟩ = some (.slice none 0 0) := z.cell 1; have z2 : W3.cell? ⟨w2.heap.size, 2, none⟩ = some (.slice none 0 0) := z.cell 2; have z3 := z.frozen 0; have z4 := z.frozen 1; have z5 := z.frozen 2; have z6 := z.lt)
      | (have z : Blk W3 w2.heap.size 63 #[.int .i64 0, .slice none 0 0, .slice none 0 0] := (show Blk ((w2.alloc (Obj.cells #[Value.int IntKind.i64 0, Value.slice none 0 0, Value.slice none 0 0] 63)).alloc (Obj.cells (madeCells #[Value.int IntKind.i64 0, Value.int IntKind.i64 0, Value.slice none 0 0] (r.2.length * 3)) 52)).drew w2.heap.size 63 #[.int .i64 0, .slice none 0 0, .slice none 0 0] from (Blk.new w2 _ _).alloc _).only hb3 (.inr (by omega)); have z0 : W3.cell? ⟨w2.heap.size, 0, none⟩ = some (.int .i64 0) := z.cell 0; have z1 : W3.cell? ⟨w2.heap.size, 1, none⟩ = some (.slice none 0 0) := z.cell 1; have z2 : W3.cell? ⟨w2.heap.size, 2, none⟩ = some (.slice none 0 0) := z.cell 2; have z3 := z.frozen 0; have z4 := z.frozen 1; have z5 := z.frozen 2; have z6 := z.lt)
      | (have z : Blk W3 (w2.heap.size + 1) 63 #[.int .i64 0, .slice none 0 0, .slice none 0 0] := (Blk.last w2 _ _ _).only hb3 (.inr (by omega)); have z0 : W3.cell? ⟨(w2.heap.size + 1), 0, none⟩ = some (.int .i64 0) := z.cell 0; have z1 : W3.cell? ⟨(w2.heap.size + 1), 1, none⟩ = some (.slice none 0 0) := z.cell 1; have z2 : W3.cell? ⟨(w2.heap.size + 1), 2, none⟩ = some (.slice none 0 0) := z.cell 2; have z3 := z.frozen 0; have z4 := z.frozen 1; have z5 := z.frozen 2; have z6 := z.lt)
      | skip)))
   all_goals (go_wp2_with (fail); go_meet; clear HS HN HV)
   all_goals (first
     | with_reducible exact RenMid.o1 K3 ho3 hn3 (by first | exact Nat.le_refl _ | (simp; done) | (simp; omega))
     | with_reducible exact RenMid.o2 K3 ho3 hn3 (by first | exact Nat.le_refl _ | (simp; done) | (simp; omega))
     | with_reducible exact RenMid.o3 hlt2 hb3 ho3 hn3
     | with_reducible exact RenMid.o4 hlt2 hb3 ho3 hn3
     | with_reducible exact RenMid.o5 hlt2 hb3 ho3 hn3
     | with_reducible exact RenMid.o6 hlt2 hb3 ho3 hn3
     | go_goals)
  case rest =>
    obtain ⟨gO, gB, A3, c3, la, ha, rfl, xO, xB, ho3, hn3, hK, ⟨l1, l2, l3⟩, ⟨d1, d2, d3⟩, hha⟩ := hcut
    clear HS HN HV q0 q1 q2 hmk
    have xp := x2.only hK (.inl (by omega))
    have yp := y2.only hK (.inl (by omega))
    have BC : Below w.heap.size w wc := Only.then_ B2 hK (by omega)
    have q2 : wc.cell? ⟨w.heap.size, 2, none⟩ = some (.slice A2 r.2.length c2) := xp.cell 2
    have hgc := hn3.lt
    have hBc := xB.lt
    have hOc := xO.lt
    obtain ⟨xs, hxs⟩ : ∃ xs, xs = renLits (renList ren0 r.1.2) r.2 := ⟨_, rfl⟩
    have hxl : xs.length = r.2.length := by rw [hxs]; simp [renLits]
    have F0 : Fill 52 (.int .i64 0) (.int .i64 0) (.slice none 0 0) OLit gB wc xs 0 (fun _ => wc.heap.size) := Fill.start (by rw [hxl]; exact xB) _ hBc (Nat.le_refl _)
    have HXL := Lib.hid hxl
    have HXS := Lib.hid hxs
    have HC := Lib.hid (renList_count r.1.2 ren0)
    clear hxl hxs
    go_wp2_with (fail)
    go_loopw [5, 6, 22] (fun _ _ i wr => ∃ (k : Nat) (f : Nat → Nat), k ≤ r.2.length ∧ i = .int .i64 k ∧ Fill 52 (.int .i64 0) (.int .i64 0) (.slice none 0 0) OLit gB wr xs k f ∧ f 0 = wc.heap.size ∧ NamesAt wr w1.heap.size (renBody (renList ren0 r.1.2) (r.2.take k)) ∧ But2 w1.heap.size gB wc wr)
      (fun _ _ i _ => r.2.length - (intOf i).toNat)
    case atStart => exact ⟨0, _, Nat.zero_le _, rfl, F0, rfl, by simpa [renBody] using hn3, But2.refl _ _ _⟩
    case round =>
      obtain ⟨k, f, hk, rfl, hF, hf0, hn, hbt⟩ := hrel
      have BW := But2.then_ BC hbt (by omega) (by omega)
      have xw := xp.but hbt (by omega) (by omega)
      have yw := yp.but hbt (by omega) (by omega)
      have ow := xO.but hbt (by omega) (by omega)
      have hgw := hn.lt
      have hsw := hbt.size
      by_cases hlt : k < r.2.length
      · obtain ⟨b, o, u0, u1, u2, rfl, hbB, k0, k1, k2, rfl, rfl, p3⟩ := (H2.out.below BW (Nat.le_refl _)).get hlt
        have HP := Lib.hid p3
        obtain ⟨A4, c4, rfl, hc4, _⟩ := p3
        have hle := len_le_totL r.2 k hlt
        have hcn := renBody_count (r.2.take k) (renList ren0 r.1.2)
        have htk := totL_take_le r.2 k
        have hcn0 := HC.out
        have hcn1 : (renBody (renList ren0 r.1.2) (r.2.take k)).2 ≤ 4611686014132420000 := by
          have : ren0.2 = 0 := rfl
          omega
        obtain ⟨w5, hw5⟩ : ∃ w5, w5 = wr.alloc (Obj.cells #[Value.int IntKind.i64 r.2[k].1, Value.int IntKind.i64 r.2[k].2.1, Value.slice A4 r.2[k].2.2.length c4] 52) := ⟨_, rfl⟩
        have b5 : Below wr.heap.size wr w5 := by rw [hw5]; exact below1 _ _
        have x5 : Blk w5 wr.heap.size 52 #[.int .i64 r.2[k].1, .int .i64 r.2[k].2.1, .slice A4 r.2[k].2.2.length c4] := by rw [hw5]; exact Blk.new _ _ _
        have s5 : wr.heap.size < w5.heap.size := x5.lt
        have hBw := hF.hi
        have hgB : gB < wr.heap.size := Nat.lt_of_lt_of_le hBc hsw
        have o5 := ow.below b5 ow.lt
        have HF := Lib.hid hF
        have HQ := Lib.hid (show ∀ W4, Only w1.heap.size (w1.heap.size + 1) w5 W4 → (W4.heap[gB]? = wr.heap[gB]?) ∧ (∀ b, f 0 ≤ b → b < f k → W4.heap[b]? = wr.heap[b]?) ∧ wr.heap.size ≤ W4.heap.size ∧ wr.heap.size ≤ w5.heap.size ∧ w1.heap.size ≠ gB from fun W4 ho =>
          ⟨(ho.block gB (by omega) (by omega)).trans (b5.block gB hgB), fun b h1 h2 => (ho.block b (by omega) (by omega)).trans (b5.block b (by omega)), Nat.le_trans (by omega) ho.size, by omega, by omega⟩)
        have HN := Lib.hid (show ∀ W, Below w5.heap.size w5 W → NamesAt W w1.heap.size (renBody (renList ren0 r.1.2) (r.2.take k)) from fun W hW => (hn.below b5 hgw).below hW (by omega))
        have HV := Lib.hid (show ∀ W, Below w5.heap.size w5 W → RdInts W w1.heap.size (.slice A4 r.2[k].2.2.length c4) r.2[k].2.2 from fun W hW => ((HP.out.below (b5.mono (by omega)) (Nat.le_refl _)).below (hW.mono (by omega)) (Nat.le_refl _)).more (by omega))
        have HS := Lib.hid (show ∀ W, But2 w1.heap.size gB w5 W → (But2 w1.heap.size gB w5 W ∧ W.cell? ⟨gO, 2, none⟩ = some (.slice (some ⟨gB, 0, none⟩) r.2.length r.2.length) ∧ W.cell? ⟨wr.heap.size, 0, none⟩ = some (.int .i64 r.2[k].1) ∧ W.cell? ⟨wr.heap.size, 1, none⟩ = some (.int .i64 r.2[k].2.1) ∧ W.cell? ⟨wr.heap.size, 2, none⟩ = some (.slice A4 r.2[k].2.2.length c4)) from
          fun W hW => ⟨hW, (o5.but hW (by omega) d3).cell 2, (x5.but hW (by omega) (by omega)).cell 0, (x5.but hW (by omega) (by omega)).cell 1, (x5.but hW (by omega) (by omega)).cell 2⟩)
        have hkz : (0 : Int) ≤ (k : Int) := by omega
        have hkl : (k : Int) < (r.2.length : Int) := by omega
        go_upto_region 8 with fail
        rw [← hw5]
        clear hw5 hF hn
        go_region_held3 (fun W => But2 w1.heap.size gB w5 W ∧ W.cell? ⟨gO, 2, none⟩ = some (.slice (some ⟨gB, 0, none⟩) r.2.length r.2.length) ∧ W.cell? ⟨wr.heap.size, 0, none⟩ = some (.int .i64 r.2[k].1) ∧ W.cell? ⟨wr.heap.size, 1, none⟩ = some (.int .i64 r.2[k].2.1) ∧ W.cell? ⟨wr.heap.size, 2, none⟩ = some (.slice A4 r.2[k].2.2.length c4))
            (first | with_reducible exact HS.out _ (But2.of_below (Below.refl _ _).drew) | with_reducible exact HS.out _ K4 | with_reducible exact HS.out _ (K4.set3 _ _ _) | fail)
            (first | (go_at_call 92; refine (renAtom_any w1.heap.size _ r.2[k].2.1 _ r.2[k].2.2 _ (HN.out _ (Below.refl _ _).drew) (HV.out _ (Below.refl _ _).drew) (by omega) hcn1).mono ?_; rintro e W4 ⟨A6, c6, rfl, ho6, hn6, hb6⟩; have K4 : But2 w1.heap.size gB w5 W4 := (But2.of_below (Below.refl _ _).drew).only hb6; obtain ⟨e0, e1, e2, e3, e4, e5⟩ := HF.out.room (w4 := W4) (by rw [HXL.out]; exact hlt) ((hb6.block gB (show gB < w5.heap.size by omega) (by omega)).trans (b5.block gB hgB))))
        have HO := Lib.hid (And.intro ho6 (And.intro hn6 (show Only w1.heap.size (w1.heap.size + 1) w5 W4 from (Only.of_below (Below.refl _ _).drew).trans hb6)))
        clear ho6 hn6 hb6 HS HN HV e0 e1 e2 e3 e4 e5 k0 k1 k2
        go_wp2_with (fail)
        go_roundw
        case rel =>
          obtain ⟨hq1, hq2, hq3, hq4, hq5⟩ := HQ.out W4 HO.out.2.2
          have hxk : k < xs.length := by rw [HXL.out]; exact hlt
          refine ⟨k + 1, _, hlt, by go_num, HF.out.step (fun h hk => h.keep hk) (fun h h1 h2 => h.mono h1 h2) hxk hq1 hq2 hq3 ?_, ?_, ?_, ?_⟩
          · rw [renLits_at HXS.out hlt hxk]
            exact ⟨rfl, rfl, HO.out.1.mono hq4 (Nat.le_refl _)⟩
          · simpa using hf0
          · rw [renBody_take _ hlt]
            exact HO.out.2.1.set3' hq5 _ _ _
          · exact (((hbt.trans (But2.of_below b5)).only HO.out.2.2).set3 _ _ _)
        case measure => simp [intOf]; omega
      · have hkn : k = r.2.length := by omega
        have hxn : xs.length = k := by rw [HXL.out, hkn]
        have hF2 : Fill 52 (.int .i64 0) (.int .i64 0) (.slice none 0 0) OLit gB wr xs xs.length f := by rw [hxn]; exact hF
        have hoh : OwnInts wr la ha (.slice A3 r.1.2.length c3) (renOut ren0 r.1.2) := ho3.kept fun g hg => by
          have hl := ho3.lt hg
          exact hbt.block g (by omega) (fun e => by omega) (fun e => by omega)
        obtain ⟨W, hW⟩ : ∃ W, W = ((wr.setCell ⟨w.heap.size + 1, 0, none⟩ (.int .i64 r.1.1)).setCell ⟨w.heap.size + 1, 1, none⟩ (.slice A3 r.1.2.length c3)).setCell ⟨w.heap.size + 1, 2, none⟩ (.slice (some ⟨gB, 0, none⟩) r.2.length r.2.length) := ⟨_, rfl⟩
        have hfar : ∀ b, b ≠ w.heap.size + 1 → W.heap[b]? = wr.heap[b]? := fun b hne => by
          rw [hW, Below.heap_setCell _ _ _ _ hne, Below.heap_setCell _ _ _ _ hne, Below.heap_setCell _ _ _ _ hne]
        have hsW : W.heap.size = wr.heap.size := by rw [hW]; simp
        have hF3 := hF2.kept (w4 := W) (fun h hk => h.keep hk) (hfar gB (by omega)) (fun b h1 _ => hfar b (by omega)) (by omega)
        obtain ⟨hRd, ps, hLv, hnd, hps⟩ := hF3.lits (c := r.2.length) (lo := w.heap.size) (hi := W.heap.size) (by rw [HXL.out]; exact Nat.le_refl _) (by omega) (Nat.le_refl _)
        rw [HXL.out] at hRd hLv
        have hohW : OwnInts W la ha (.slice A3 r.1.2.length c3) (renOut ren0 r.1.2) := hoh.kept fun g hg => hfar g (by have := hoh.lt hg; omega)
        obtain ⟨qs, hLq⟩ := hohW.leaves
        rw [renOut_length] at hLq
        have hyes := renamed_yes hok
        rw [← HXS.out] at hyes
        have HFIN := Lib.hid (show ∃ A c A2 c2 lo hi ps, (.agg #[.int .i64 r.1.1, .slice A3 r.1.2.length c3, .slice (some ⟨gB, 0, none⟩) r.2.length r.2.length] : Value) = (.agg #[.int .i64 (renamed r).1.1, .slice A (renamed r).1.2.length c, .slice A2 (renamed r).2.length c2]) ∧
            (OwnInts W lo hi (.slice A (renamed r).1.2.length c) (renamed r).1.2 ∧ OwnLits W lo hi (.slice A2 (renamed r).2.length c2) (renamed r).2) ∧
            LvRule W lo hi (.agg #[.int .i64 (renamed r).1.1, .slice A (renamed r).1.2.length c, .slice A2 (renamed r).2.length c2]) (renamed r) ps ∧ ps.Nodup ∧ w.heap.size ≤ lo ∧ hi ≤ W.heap.size ∧ Below w.heap.size w W from by
          rw [hyes]
          refine ⟨A3, c3, some ⟨gB, 0, none⟩, r.2.length, w.heap.size, W.heap.size, qs ++ ps, ?_, ⟨?_, ?_⟩, ⟨r.1.1, _, _, qs, ps, rfl, rfl, ?_, ?_⟩, ?_, Nat.le_refl _, Nat.le_refl _, ?_⟩
          · simp [renOut_length, HXL.out]
          · simp only [renOut_length]
            exact hohW.mono (by omega) (by omega)
          · simp only [HXL.out]
            exact hRd
          · simp only [renOut_length]
            exact hLq.mono (by omega) (by omega)
          · simp only [HXL.out]
            exact hLv
          · rw [List.nodup_append]
            refine ⟨hLq.nodup, hnd, fun p hp q hq e => ?_⟩
            subst e
            have hb1 := hLq.block hp
            rcases hps p hq with e | e <;> omega
          · have hB0 := But2.then_ BC hbt (by omega) (by omega)
            rw [hW]
            exact (((hB0.setCell (by simp) _).setCell (by simp) _).setCell (by simp) _))
        have k0 : wr.cell? ⟨w.heap.size + 1, 0, none⟩ = some (.int .i64 0) := yw.cell 0
        have k1 : wr.cell? ⟨w.heap.size + 1, 1, none⟩ = some (.slice none 0 0) := yw.cell 1
        have k2 : wr.cell? ⟨w.heap.size + 1, 2, none⟩ = some (.slice none 0 0) := yw.cell 2
        have j0 := yw.frozen 0
        have j1 := yw.frozen 1
        have j2 := yw.frozen 2
        have n0 : wr.cell? ⟨gO, 0, none⟩ = some (.int .i64 r.1.1) := ow.cell 0
        have n1 : wr.cell? ⟨gO, 1, none⟩ = some (.slice A3 r.1.2.length c3) := ow.cell 1
        have n2 : wr.cell? ⟨gO, 2, none⟩ = some (.slice (some ⟨gB, 0, none⟩) r.2.length r.2.length) := ow.cell 2
        have HY := Lib.hid (show Blk W (w.heap.size + 1) 63 #[.int .i64 r.1.1, .slice A3 r.1.2.length c3, .slice (some ⟨gB, 0, none⟩) r.2.length r.2.length] by rw [hW]; exact yw.set3 _ _ _)
        have HWW := Lib.hid hW
        have hko : gO ≠ w.heap.size + 1 := by omega
        clear hW hfar hsW hF3 hRd hLv hnd hps hohW hLq hyes hF2 hF hn hxn hkn hoh ho3 hf0
        go_wp2_with (fail)
        rw [← HWW.out]
        have d0 : W.cell? ⟨w.heap.size + 1, 0, none⟩ = some (.int .i64 r.1.1) := HY.out.cell 0
        have d1 : W.cell? ⟨w.heap.size + 1, 1, none⟩ = some (.slice A3 r.1.2.length c3) := HY.out.cell 1
        have d2 : W.cell? ⟨w.heap.size + 1, 2, none⟩ = some (.slice (some ⟨gB, 0, none⟩) r.2.length r.2.length) := HY.out.cell 2
        refine bodyPost_ret (v := .agg #[.int .i64 r.1.1, .slice A3 r.1.2.length c3, .slice (some ⟨gB, 0, none⟩) r.2.length r.2.length]) (by simp [results, Try.results54, go_sem, d0, d1, d2]) rfl ?_
        obtain ⟨A7, c7, A8, c8, lo, hi, ps, hv, h1, h2, h3, h4, h5, h6⟩ := HFIN.out
        exact ⟨A7, c7, A8, c8, lo, hi, ps, by rw [hv], h1, h2, h3, h4, h5, h6⟩

set_option maxHeartbeats 1000000 in
set_option maxRecDepth 100000 in
theorem implRenamed_no (v : Value) (r : LRule) (w : World) (h : RdRule w w.heap.size v r) (hr : szR r ≤ 1048576) (hok : termsOk r = false) :
    Calls Try.prog 54 #[v] w fun e w' => e = .returned (.agg #[.int .i64 0, .slice none 0 0, .slice none 0 0]) ∧ Below w.heap.size w w' := by
  obtain ⟨a, b, rfl, h, h2⟩ := h
  have HRR := Lib.hid (show RdRule w w.heap.size (.agg #[.int .i64 r.1.1, a, b]) r from ⟨a, b, rfl, h, h2⟩)
  obtain ⟨A, c, rfl, hc, _⟩ := h
  obtain ⟨A2, c2, rfl, hcc, _⟩ := h2
  go_enter Try.func54, Try.ntmps54
  go_wp2_with (fail)
  refine (ruleHasTerms_any _ r _ (HRR.out.on (below2 _ _ _)) hr).mono ?_
  rintro e w1 ⟨rfl, hb1⟩
  rw [hok]
  have B1 := bthen (below2 _ _ _) hb1
  have y1 : Blk w1 (w.heap.size + 1) 63 #[.int .i64 0, .slice none 0 0, .slice none 0 0] := by
    have := (Blk.new (w.alloc (Obj.cells #[Value.int IntKind.i64 r.1.1, Value.slice A r.1.2.length c, Value.slice A2 r.2.length c2] 63)) 63 #[.int .i64 0, .slice none 0 0, .slice none 0 0]).below hb1 (by simp)
    simpa using this
  have k0 : w1.cell? ⟨w.heap.size + 1, 0, none⟩ = some (.int .i64 0) := y1.cell 0
  have k1 : w1.cell? ⟨w.heap.size + 1, 1, none⟩ = some (.slice none 0 0) := y1.cell 1
  have k2 : w1.cell? ⟨w.heap.size + 1, 2, none⟩ = some (.slice none 0 0) := y1.cell 2
  have j0 := y1.frozen 0
  have j1 := y1.frozen 1
  have j2 := y1.frozen 2
  clear hb1
  go_wp2_with (fail)
  obtain ⟨W, hW⟩ : ∃ W, W = ((w1.setCell ⟨w.heap.size + 1, 0, none⟩ (.int .i64 0)).setCell ⟨w.heap.size + 1, 1, none⟩ (.slice none 0 0)).setCell ⟨w.heap.size + 1, 2, none⟩ (.slice none 0 0) := ⟨_, rfl⟩
  have HY : Blk W (w.heap.size + 1) 63 #[.int .i64 0, .slice none 0 0, .slice none 0 0] := by rw [hW]; exact y1.set3 _ _ _
  have BW : Below w.heap.size w W := by
    rw [hW]
    exact (((B1.setCell (by simp) _).setCell (by simp) _).setCell (by simp) _)
  rw [← hW]
  clear hW
  have d0 : W.cell? ⟨w.heap.size + 1, 0, none⟩ = some (.int .i64 0) := HY.cell 0
  have d1 : W.cell? ⟨w.heap.size + 1, 1, none⟩ = some (.slice none 0 0) := HY.cell 1
  have d2 : W.cell? ⟨w.heap.size + 1, 2, none⟩ = some (.slice none 0 0) := HY.cell 2
  exact bodyPost_ret (v := .agg #[.int .i64 0, .slice none 0 0, .slice none 0 0]) (by simp [results, Try.results54, go_sem, d0, d1, d2]) rfl ⟨rfl, BW⟩

theorem LvLits.length {w : World} {lo hi : Nat} {v : Value} {ls : List LLit} {ps : List Addr} (h : LvLits w lo hi v ls ps) : ps.length = 2 * ls.length + totL ls := by
  obtain ⟨A, c, rfl, hc, h0, h⟩ := h
  rcases Nat.eq_zero_or_pos ls.length with hz | hp
  · rw [h0 hz, List.eq_nil_of_length_eq_zero hz]
    simp [totL]
  · obtain ⟨b, o, qs, rfl, h1, h2, rfl, hx⟩ := h hp
    have : ∀ j, j ≤ ls.length → (preL (litEl b o qs) j).length = 2 * j + totL (ls.take j) := by
      intro j
      induction j with
      | zero => intro _; simp [preL_zero, totL]
      | succ j ih =>
        intro hj
        obtain ⟨_, x, y, u2, _, _, _, hI⟩ := hx j (by omega)
        rw [preL_succ, List.length_append, ih (by omega), litEl_len hI, totL_take ls j (by omega)]
        omega
    have := this ls.length (Nat.le_refl _)
    rwa [List.take_length] at this
theorem LvRule.length {w : World} {lo hi : Nat} {v : Value} {r : LRule} {ps : List Addr} (h : LvRule w lo hi v r ps) : ps.length ≤ 2 * szR r := by
  obtain ⟨p, a, b, qs, rs, rfl, rfl, ⟨_, _, _, _, hl, _⟩, h2⟩ := h
  rw [List.length_append, hl, h2.length]
  unfold szR
  omega

theorem implRenamed_any (v : Value) (r : LRule) (w : World) (h : RdRule w w.heap.size v r) (hr : szR r ≤ 1048576) :
    Calls Try.prog 54 #[v] w fun e w' => ∃ A c A2 c2 lo hi ps, e = .returned (.agg #[.int .i64 (renamed r).1.1, .slice A (renamed r).1.2.length c, .slice A2 (renamed r).2.length c2]) ∧
      (OwnInts w' lo hi (.slice A (renamed r).1.2.length c) (renamed r).1.2 ∧ OwnLits w' lo hi (.slice A2 (renamed r).2.length c2) (renamed r).2) ∧
      LvRule w' lo hi (.agg #[.int .i64 (renamed r).1.1, .slice A (renamed r).1.2.length c, .slice A2 (renamed r).2.length c2]) (renamed r) ps ∧ ps.Nodup ∧ w.heap.size ≤ lo ∧ hi ≤ w'.heap.size ∧ Below w.heap.size w w' := by
  cases hok : termsOk r
  · refine (implRenamed_no v r w h hr hok).mono ?_
    rintro e w' ⟨rfl, hb⟩
    rw [renamed_no hok]
    exact ⟨none, 0, none, 0, w.heap.size, w'.heap.size, [], rfl, ⟨⟨World.ownsRow_nil _ _ _ _, fun g hg => by cases hg⟩, ⟨none, 0, rfl, Nat.le_refl _, fun hn => absurd hn (by simp)⟩⟩,
      ⟨0, _, _, [], [], rfl, rfl, ⟨none, 0, rfl, Nat.le_refl _, rfl, fun hn => absurd hn (by simp)⟩, ⟨none, 0, rfl, Nat.le_refl _, fun _ => rfl, fun hn => absurd hn (by simp)⟩⟩, List.nodup_nil, Nat.le_refl _, Nat.le_refl _, hb⟩
  · exact implRenamed_yes v r w h hr hok

end Go.Proofs.Ytgacdehbdhhbnaa
