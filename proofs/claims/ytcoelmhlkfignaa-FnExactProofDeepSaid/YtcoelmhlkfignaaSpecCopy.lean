/-
  The walk of the specification's l1Copy.
-/
import Derived.Test.YtcoelmhlkfignaaCopy
namespace Go.Proofs.Ytcoelmhlkfignaa
open Go.RowKit

/-- What holds at l1Copy's loop: k integers are copied. -/
structure CpRel (w wr : World) (f : LFact) (A : Option Addr) (c k : Nat) (A' : Option Addr) (c' : Nat) : Prop where
  below : Below w.heap.size w wr
  src : Blk wr w.heap.size 44 #[.int .i64 f.1, .slice A f.2.length c]
  res : Blk wr (w.heap.size + 1) 44 #[.int .i64 0, .slice none 0 0]
  out : Blk wr (w.heap.size + 2) 44 #[.int .i64 f.1, .slice A' k c']
  own : wr.ownsRow (w.heap.size + 3) 3 1 (.slice A' k c') k ((f.2.take k).map (Value.int .i64))

theorem blk_ne_row {w : World} {base n size g : Nat} {e t : TypeId} {v : Value} {xs : List Value} {cs : Array Value} (h : w.ownsRow base e size v n xs) (hb : Blk w g t cs) (hne : e ≠ t) : v.ownBlock ≠ some g := by
  rcases h.2 with ⟨rfl, _⟩ | ⟨g', cap, cur, rfl, _, hh, _⟩
  · simp [Value.ownBlock]
  · intro he
    have : g' = g := by simpa [Value.ownBlock] using he
    subst this
    unfold Blk at hb
    rw [hh] at hb
    injection hb with hb
    injection hb with _ hb
    exact hne hb
theorem grown_from_alloc_drew {w w' : World} {o : Obj} {row : Option Nat} (hg : ((w.alloc o).drew).grownBy w' row) : w.grownBy w' row :=
  ⟨hg.os, hg.tape, hg.output, Nat.le_trans (by show w.heap.size ≤ (w.alloc o).heap.size; simp) hg.size, fun i hi hne => (hg.block i (Nat.lt_of_lt_of_le hi (by show w.heap.size ≤ (w.alloc o).heap.size; simp)) hne).trans (Below.heap_alloc _ _ _ hi)⟩
theorem own_alloc_drew {w : World} {base size n : Nat} {e : TypeId} {v : Value} {xs : List Value} (h : w.ownsRow base e size v n xs) (o : Obj) : ((w.alloc o).drew).ownsRow base e size v n xs := h.alloc o
theorem news_alloc_drew (w : World) (x : Value) (t : TypeId) : ∀ j u, [x][j]? = some u → ((w.alloc (.cells #[x] t)).drew).cell? ((⟨w.heap.size, 0, none⟩ : Addr).add j) = some u := cell_one_new w x t

theorem CpRel.start (w : World) (f : LFact) (A : Option Addr) (c : Nat) : CpRel w (((w.alloc (Obj.cells #[Value.int IntKind.i64 f.1, Value.slice A f.2.length c] 44)).alloc (Obj.cells #[Value.int IntKind.i64 0, Value.slice none 0 0] 44)).alloc (Obj.cells #[Value.int IntKind.i64 f.1, Value.slice none 0 0] 44)) f A c 0 none 0 :=
  ⟨below3 _ _ _ _, ((Blk.new w _ _).alloc _).alloc _, by simpa using (Blk.new (w.alloc (Obj.cells #[Value.int IntKind.i64 f.1, Value.slice A f.2.length c] 44)) 44 #[.int .i64 0, .slice none 0 0]).alloc (Obj.cells #[Value.int IntKind.i64 f.1, Value.slice none 0 0] 44),
    by simpa using Blk.new ((w.alloc (Obj.cells #[Value.int IntKind.i64 f.1, Value.slice A f.2.length c] 44)).alloc (Obj.cells #[Value.int IntKind.i64 0, Value.slice none 0 0] 44)) 44 #[.int .i64 f.1, .slice none 0 0],
    by simpa using World.ownsRow_nil _ _ _ _⟩

theorem CpRel.step {w wr w2 : World} {f : LFact} {A A' : Option Addr} {c k c' g cap : Nat} (hr : CpRel w wr f A c k A' c') (hlt : k < f.2.length) (hg : wr.grownBy w2 (Value.slice A' k c').ownBlock)
    (hown : w2.ownsRow (w.heap.size + 3) 3 1 (.slice (some ⟨g, 0, none⟩) (k + 1) cap) (k + 1) ((f.2.take k).map (Value.int .i64) ++ [.int .i64 f.2[k]])) :
    CpRel w (w2.setCell ⟨w.heap.size + 2, 1, none⟩ (.slice (some ⟨g, 0, none⟩) (k + 1) cap)) f A c (k + 1) (some ⟨g, 0, none⟩) cap := by
  obtain ⟨h1, h2, h3, h4, h5⟩ := hr
  have keep : ∀ {b : Nat} {cs : Array Value}, Blk wr b 44 cs → Blk w2 b 44 cs := fun hb => (hg.block _ hb.lt (fun e => blk_ne_row h5 hb (by decide) e.symm)).trans hb
  have hs := h4.lt
  refine ⟨(h1.grown hg h1.size (fun b hb => by have := (h5.lt b hb).1; omega)).setCell (by show w.heap.size ≤ w.heap.size + 2; omega) _, (keep h2).far (by show w.heap.size ≠ w.heap.size + 2; omega) _, (keep h3).far (by show w.heap.size + 1 ≠ w.heap.size + 2; omega) _, (keep h4).set_ 1 _, ?_⟩
  rw [take_snoc f.2 k hlt, List.map_append]
  exact ownsRow_only hown (fun b hb => Below.heap_setCell _ _ _ _ (fun e => blk_ne_row hown (keep h4) (by decide) (by rw [hb, e])))

set_option maxHeartbeats 1000000 in
set_option maxRecDepth 100000 in
theorem l1Copy_any (v : Value) (f : LFact) (w : World) (h : RdFact w w.heap.size v f) (hn : f.2.length ≤ 1073741824) :
    Calls Try.prog 33 #[v] w fun e w' => ∃ A' c', e = .returned (.agg #[.int .i64 f.1, .slice A' f.2.length c']) ∧ OwnInts w' w.heap.size w'.heap.size (.slice A' f.2.length c') f.2 ∧ Below w.heap.size w w' := by
  obtain ⟨i0, hi0, hz0, hz1, hz2⟩ := info_parts Try.infoInt
  obtain ⟨a, rfl, h⟩ := h
  obtain ⟨A, c, rfl, hc, hcell⟩ := h
  go_enter Try.func33, Try.ntmps33
  go_wp2_with (fail)
  go_loopw [4] (fun i wr => ∃ (k : Nat) (A' : Option Addr) (c' : Nat), k ≤ f.2.length ∧ i = .int .i64 k ∧ CpRel w wr f A c k A' c') (fun i _ => f.2.length - (intOf i).toNat)
  case atStart => exact ⟨0, none, 0, Nat.zero_le _, rfl, CpRel.start w f A c⟩
  case round =>
    obtain ⟨k, A', c', hk, rfl, hr⟩ := hrel
    have q0 : wr.cell? ⟨w.heap.size, 1, none⟩ = some (.slice A f.2.length c) := hr.src.cell 1
    by_cases hlt : k < f.2.length
    · obtain ⟨b, o, rfl, hbB, hx⟩ := hcell (by omega)
      have q1 : wr.cell? ⟨w.heap.size + 2, 1, none⟩ = some (.slice A' k c') := hr.out.cell 1
      have q2 : wr.cell? ⟨b, o + k, none⟩ = some (.int .i64 f.2[k]) := (hr.below.cell (p := ⟨b, o + k, none⟩) hbB).trans (hx k hlt)
      have hbs := hr.out.lt
      clear hx hcell
      go_wp2_with (fail)
      have hf1 := hr.out.frozen 1
      have HR := Lib.hid hr
      go_region_law (first
        | (refine step_append_lies _ rfl (.tmp 16) (.tmp 22) 38 rfl (w.heap.size + 3) 3 i0 (.int .i64 0) 1 8 Try.underlying38 hi0 hz0 hz1 hz2 rfl (by decide) (.slice A' k c') k ((f.2.take k).map (Value.int .i64)) rfl ?_ ⟨_, 0, none⟩ 1 1 [.int .i64 f.2[k]] rfl rfl ?_ ?_ (by omega) (by unfold maxLen; omega) (by omega) ?_ _ rfl ?_
           · exact own_alloc_drew HR.out.own _
           · exact news_alloc_drew wr _ _
           · intro u hu; simp at hu; subst hu; rfl
           · simp; omega
           intro g cap w2 hown hgr hat hlt2
           have hst := HR.out.step hlt (grown_from_alloc_drew (w := wr) hgr) hown
           have hgg := grown_from_alloc_drew (w := wr) hgr
           have e1 : w2.cell? ⟨w.heap.size + 2, 1, none⟩ = some (.slice A' k c') := hgg.cell q1 (fun e => blk_ne_row HR.out.own HR.out.out (by decide) e.symm)
           have e2 : w2.frozen? ⟨w.heap.size + 2, 1, none⟩ = false := (hgg.frozen_far _ hbs (fun e => blk_ne_row HR.out.own HR.out.out (by decide) e.symm)).trans hf1
           have HS := Lib.hid hst
           clear hst hgg hown hgr hat))
      all_goals
        go_wp2_with (fail)
        go_roundw
        case rel => exact ⟨k + 1, _, _, by omega, by go_num, HS.out⟩
        case measure => simp [intOf]; omega
    · have hkn : f.2.length = k := by omega
      subst hkn
      have c0 : wr.cell? ⟨w.heap.size + 2, 0, none⟩ = some (.int .i64 f.1) := hr.out.cell 0
      have c1 : wr.cell? ⟨w.heap.size + 2, 1, none⟩ = some (.slice A' f.2.length c') := hr.out.cell 1
      have d0 : wr.cell? ⟨w.heap.size + 1, 0, none⟩ = some (.int .i64 0) := hr.res.cell 0
      have d1 : wr.cell? ⟨w.heap.size + 1, 1, none⟩ = some (.slice none 0 0) := hr.res.cell 1
      have f0 := hr.res.frozen 0
      have f1 := hr.res.frozen 1
      have HO : OwnInts wr (w.heap.size + 3) wr.heap.size (.slice A' f.2.length c') f.2 := ⟨by have := hr.own; rwa [List.take_length] at this, fun g hg' => (hr.own.lt g hg').2⟩
      have hbe := hr.below
      clear hr hcell
      go_wp2_with (fail)
      refine bodyPost_ret (v := .agg #[.int .i64 f.1, .slice A' f.2.length c']) (by simp [results, Try.results33, go_sem, d0, d1]) rfl ⟨_, _, rfl, ?_, ?_⟩
      · exact ((HO.set (.inl (by show w.heap.size + 1 < w.heap.size + 3; omega)) _).set (.inl (by show w.heap.size + 1 < w.heap.size + 3; omega)) _).mono (by omega) (by simp)
      · exact (hbe.setCell (by show w.heap.size ≤ w.heap.size + 1; omega) _).setCell (by show w.heap.size ≤ w.heap.size + 1; omega) _

end Go.Proofs.Ytcoelmhlkfignaa
