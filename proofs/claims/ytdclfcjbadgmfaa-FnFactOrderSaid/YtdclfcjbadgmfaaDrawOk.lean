/-
  The arguments of FactOk and of FactOrder drawn.
-/
import Derived.Test.YtdclfcjbadgmfaaDrawOwn
import Derived.Test.YtdclfcjbadgmfaaDrawAll
import Derived.Test.YtdclfcjbadgmfaaSpecCopy
namespace Go.Proofs.Ytdclfcjbadgmfaa
open Go.RowKit

/-- The two cells of a result's block set, of blocks behind it. -/
theorem keepTwo {w w3 : World} {lo hi lo2 hi2 : Nat} {v v2 : Value} {xs ys : List Int} {t : TypeId} {a b : Value} (h : Blk w3 w.heap.size t #[a, b]) (hv : OwnInts w3 lo hi v xs) (hv2 : OwnInts w3 lo2 hi2 v2 ys) (h1 : w.heap.size < lo) (h2 : w.heap.size < lo2) (hb : Below w.heap.size w w3) (x : Int) (u : Value) :
    Blk ((w3.setCell ⟨w.heap.size, 0, none⟩ (.int .i64 x)).setCell ⟨w.heap.size, 1, none⟩ u) w.heap.size t #[.int .i64 x, u] ∧ OwnInts ((w3.setCell ⟨w.heap.size, 0, none⟩ (.int .i64 x)).setCell ⟨w.heap.size, 1, none⟩ u) lo hi v xs ∧
    OwnInts ((w3.setCell ⟨w.heap.size, 0, none⟩ (.int .i64 x)).setCell ⟨w.heap.size, 1, none⟩ u) lo2 hi2 v2 ys ∧ Below w.heap.size w ((w3.setCell ⟨w.heap.size, 0, none⟩ (.int .i64 x)).setCell ⟨w.heap.size, 1, none⟩ u) :=
  ⟨by simpa using (h.set_ 0 (.int .i64 x)).set_ 1 u, (hv.set (.inl h1) _).set (.inl h1) _, (hv2.set (.inl h2) _).set (.inl h2) _, (hb.setCell (Nat.le_refl _) _).setCell (Nat.le_refl _) _⟩

theorem RdBytes.on {w w' : World} {v : Value} {bs : List Nat} (h : RdBytes w w.heap.size v bs) (hb : Below w.heap.size w w') : RdBytes w' w'.heap.size v bs := by
  obtain ⟨A, c, rfl, hc, hx⟩ := h.off (w' := w') (fun k hk => hb.block k hk)
  refine ⟨A, c, rfl, hc, fun hn => ?_⟩
  obtain ⟨b, o, rfl, hlt, hk⟩ := hx hn
  exact ⟨b, o, rfl, by have := hb.size; omega, hk⟩

set_option maxHeartbeats 1000000 in
set_option maxRecDepth 100000 in
theorem drawFactOk_any (v : Value) (bs : List Nat) (w : World) (h : RdBytes w w.heap.size v bs) (hby : ∀ b ∈ bs, b < 256) (hn : bs.length ≤ 1073741824) :
    Calls Try.prog 15 #[v] w fun e w' => ∃ (A2 : Option Addr) (c2 : Nat) (ar : List Int) (A : Option Addr) (c : Nat) (f : LFact), e = .returned (.tuple #[.slice A2 4 c2, .agg #[.int .i64 f.1, .slice A f.2.length c]]) ∧ ar.length = 4 ∧ f.2.length ≤ 3 ∧
      OwnInts w' w.heap.size w'.heap.size (.slice A2 4 c2) ar ∧ OwnInts w' w.heap.size w'.heap.size (.slice A f.2.length c) f.2 ∧ Below w.heap.size w w' := by
  have H := Lib.hid h
  clear h
  go_enter Try.func15, Try.ntmps15
  go_wp2_with (fail)
  refine (l40Open_any v bs _ (H.out.on (below1 _ _)) hby hn).mono ?_
  rintro e w1 ⟨rfl, hr1, hb1⟩
  have B1 := bthen (below1 _ _) hb1
  have R1 : Blk w1 w.heap.size 25 #[.int .i64 0, .slice none 0 0] := (Blk.new w _ _).below hb1 (by simp)
  have HR := Lib.hid hr1
  have hz1 := hr1.lt
  simp only [World.size_alloc] at hz1
  clear hr1 hb1
  go_wp2_with (fail)
  refine (l1Arity_any (w.heap.size + 1) (bs.take 2000) 0 4 _ (by simpa using HR.out) (by omega) (by omega)).mono ?_
  rintro e w2 ⟨A2, c2, ar, rfl, hd⟩
  have HI := Lib.hid hd.ints
  have HD := Lib.hid hd.rdr
  have hlen := hd.len
  have hrng := Lib.hid hd.range
  have B2 := B1.trans (hd.only.below (Nat.le_refl _) (by have := hz1; omega) |>.mono (by omega))
  have R2 := R1.only hd.only (.inl (by omega))
  have hz2 := hd.only.size
  clear hd
  go_wp2_with (fail)
  refine (l1Fact_own (w.heap.size + 1) (bs.take 2000) 4 w1.heap.size w2.heap.size _ ar _ HD.out (by omega) HI.out (by omega) (Nat.le_refl _) hrng.out (by omega)).mono ?_
  rintro e w3 ⟨A, c, f, q, rfl, hf, hq, ho, hR, hO⟩
  have R3 := R2.only hO (.inl (by omega))
  have hz3 := hO.size
  have I3 := (HI.out.offG hO (by omega)).mono (show w.heap.size ≤ w1.heap.size by omega) (show w2.heap.size ≤ w3.heap.size from hz3)
  have O3 := ho.mono (show w.heap.size ≤ w2.heap.size by omega) (Nat.le_refl _)
  have B3 := B2.trans (hO.below (Nat.le_refl _) (by omega) |>.mono (by omega))
  have Q3 := Lib.hid (keepTwo R3 (HI.out.offG hO (by omega)) ho (show w.heap.size < w1.heap.size by omega) (show w.heap.size < w2.heap.size by omega) B3 f.1 (.slice A f.2.length c))
  have j0 : w3.cell? ⟨w.heap.size, 0, none⟩ = some (.int .i64 0) := R3.cell 0
  have j1 : w3.cell? ⟨w.heap.size, 1, none⟩ = some (.slice none 0 0) := R3.cell 1
  have l0 := R3.frozen 0
  have l1 := R3.frozen 1
  clear I3 O3 B3 ho hR hO R3 R2 R1 B1 B2
  obtain ⟨W, hW⟩ : ∃ W, W = (w3.setCell ⟨w.heap.size, 0, none⟩ (.int .i64 f.1)).setCell ⟨w.heap.size, 1, none⟩ (.slice A f.2.length c) := ⟨_, rfl⟩
  rw [← hW] at Q3
  have d0 : W.cell? ⟨w.heap.size, 0, none⟩ = some (.int .i64 f.1) := Q3.out.1.cell 0
  have d1 : W.cell? ⟨w.heap.size, 1, none⟩ = some (.slice A f.2.length c) := Q3.out.1.cell 1
  have hs : W.heap.size = w3.heap.size := by rw [hW]; simp
  have HW := Lib.hid hW
  clear hW
  go_wp2_with (fail)
  rw [← HW.out]
  refine bodyPost_ret (v := .tuple #[.slice A2 4 c2, .agg #[.int .i64 f.1, .slice A f.2.length c]]) (by simp [results, Try.results15, go_sem, d0, d1]) rfl ?_
  obtain ⟨_, h1, h2, h3⟩ := Q3.out
  exact ⟨A2, c2, ar, A, c, f, rfl, hlen, hf, h1.mono (by omega) (by omega), h2.mono (by omega) (by omega), h3⟩

end Go.Proofs.Ytdclfcjbadgmfaa
