/-
  Texts that the claim's last one imports, laid together: part 7 of 9. No condition of its own.
-/
import Derived.BigRegion
import Derived.Deep.RegionHeld3
import Derived.Deep.RegionWith
import Derived.Deep.RegionLaw
import Derived.Deep.DeepCutAuto
import Derived.Test.YtokmmloakahkhaaDoorMLk1
import Derived.Test.YtokmmloakahkhaaDoorMLk2
import Derived.Test.YtokmmloakahkhaaDoorMLk5
import Derived.Test.YtokmmloakahkhaaDoorMLk6
/-
  The walk over groups in memory: a block of 101 cells, and two rows of words.
-/
namespace Go.Proofs.YtokmmloakahkhaaDoor
open Go.RowKit

def wd64 (x : Nat) : Value := .int .u64 ((x : Nat) : Int)
/-- The cells of the walk. -/
def gwList (Y N : List Nat) (n : Nat) (met done : Nat) (vp vg : Value) (gr re : List Nat) : List Value :=
  (Y ++ N).map wd64 ++ (.int .i64 (n : Int) :: wd64 met :: wd64 done :: vp :: vg :: (gr.map wd64 ++ re.map wd64))
structure GwLen (Y N gr re : List Nat) : Prop where
  y : Y.length = 24
  n : N.length = 24
  g : gr.length = 24
  r : re.length = 24
section
variable {Y N gr re : List Nat} {n met done p x : Nat} {vp vg u : Value}
theorem gw_ask (h : GwLen Y N gr re) : ((Y ++ N).map wd64).length = 48 := by simp [h.y, h.n]
theorem gwList_yes (h : GwLen Y N gr re) (hp : p < 24) : (gwList Y N n met done vp vg gr re)[p]? = some (wd64 (Y.getD p 0)) := by
  have hp' : p < Y.length := by rw [h.y]; exact hp
  unfold gwList
  rw [List.getElem?_append_left (by rw [gw_ask h]; omega), List.getElem?_map, List.getElem?_append_left hp']
  simp [hp']
theorem gwList_no (h : GwLen Y N gr re) (hp : p < 24) : (gwList Y N n met done vp vg gr re)[24 + p]? = some (wd64 (N.getD p 0)) := by
  have hp' : p < N.length := by rw [h.n]; exact hp
  unfold gwList
  rw [List.getElem?_append_left (by rw [gw_ask h]; omega), List.getElem?_map, List.getElem?_append_right (by rw [h.y]; omega), show 24 + p - Y.length = p by rw [h.y]; omega]
  simp [hp']
theorem gwList_tail (h : GwLen Y N gr re) (j : Nat) : (gwList Y N n met done vp vg gr re)[48 + j]? = (.int .i64 (n : Int) :: wd64 met :: wd64 done :: vp :: vg :: (gr.map wd64 ++ re.map wd64))[j]? := by
  unfold gwList
  rw [List.getElem?_append_right (by rw [gw_ask h]; omega), gw_ask h, show 48 + j - 48 = j by omega]
theorem gwList_group (h : GwLen Y N gr re) (hp : p < 24) : (gwList Y N n met done vp vg gr re)[53 + p]? = some (wd64 (gr.getD p 0)) := by
  have hp' : p < gr.length := by rw [h.g]; exact hp
  rw [show 53 + p = 48 + (p + 1 + 1 + 1 + 1 + 1) by omega, gwList_tail h]
  simp only [List.getElem?_cons_succ]
  rw [List.getElem?_append_left (by simpa using hp'), List.getElem?_map]
  simp [hp']
theorem gwList_reach (h : GwLen Y N gr re) (hp : p < 24) : (gwList Y N n met done vp vg gr re)[77 + p]? = some (wd64 (re.getD p 0)) := by
  have hp' : p < re.length := by rw [h.r]; exact hp
  rw [show 77 + p = 48 + (24 + p + 1 + 1 + 1 + 1 + 1) by omega, gwList_tail h]
  simp only [List.getElem?_cons_succ]
  rw [List.getElem?_append_right (by simp [h.g]), List.length_map, h.g, show 24 + p - 24 = p by omega, List.getElem?_map]
  simp [hp']
theorem gwList_set (h : GwLen Y N gr re) (j : Nat) (u : Value) : (gwList Y N n met done vp vg gr re).set (48 + j) u = (Y ++ N).map wd64 ++ (.int .i64 (n : Int) :: wd64 met :: wd64 done :: vp :: vg :: (gr.map wd64 ++ re.map wd64)).set j u := by
  unfold gwList
  rw [List.set_append_right _ _ (by rw [gw_ask h]; omega), gw_ask h, show 48 + j - 48 = j by omega]
theorem gwList_setMet (h : GwLen Y N gr re) : (gwList Y N n met done vp vg gr re).set 49 (wd64 x) = gwList Y N n x done vp vg gr re := gwList_set h 1 _
theorem gwList_setDone (h : GwLen Y N gr re) : (gwList Y N n met done vp vg gr re).set 50 (wd64 x) = gwList Y N n met x vp vg gr re := gwList_set h 2 _
theorem gwList_setPath (h : GwLen Y N gr re) : (gwList Y N n met done vp vg gr re).set 51 u = gwList Y N n met done u vg gr re := gwList_set h 3 _
theorem gwList_setGroups (h : GwLen Y N gr re) : (gwList Y N n met done vp vg gr re).set 52 u = gwList Y N n met done vp u gr re := gwList_set h 4 _
theorem gwList_setGroup (h : GwLen Y N gr re) (hp : p < 24) : (gwList Y N n met done vp vg gr re).set (53 + p) (wd64 x) = gwList Y N n met done vp vg (gr.set p x) re := by
  rw [show 53 + p = 48 + (p + 1 + 1 + 1 + 1 + 1) by omega, gwList_set h]
  simp only [List.set_cons_succ]
  rw [List.set_append_left _ _ (by simpa [h.g] using hp), ← List.map_set]
  rfl
theorem gwList_setReach (h : GwLen Y N gr re) : (gwList Y N n met done vp vg gr re).set (77 + p) (wd64 x) = gwList Y N n met done vp vg gr (re.set p x) := by
  rw [show 77 + p = 48 + (24 + p + 1 + 1 + 1 + 1 + 1) by omega, gwList_set h]
  simp only [List.set_cons_succ]
  rw [List.set_append_right _ _ (by simp [h.g]), List.length_map, h.g, show 24 + p - 24 = p by omega, ← List.map_set]
  rfl
end

/-- All words stay below 2^24. -/
structure GwLim (s : GW) : Prop where
  met : s.met < 16777216
  done : s.done < 16777216
  stk : ∀ x ∈ s.stk, x < 16777216
  groups : ∀ x ∈ s.groups, x < 16777216
  reach : ∀ x ∈ s.reach, x < 16777216
  stkN : s.stk.length ≤ 24
  groupsN : s.groups.length ≤ 24
/-- The walk in memory: block g, the path's row and the groups' row behind it, apart. -/
structure GWAt (w : World) (g : Nat) (Y N : List Nat) (n : Nat) (s : GW) (Ap : Option Addr) (cp : Nat) (Ag : Option Addr) (cg : Nat) : Prop where
  len : GwLen Y N s.group s.reach
  blk : Blk w g 73 (gwList Y N n s.met s.done (.slice Ap s.stk.length cp) (.slice Ag s.groups.length cg) s.group s.reach).toArray
  path : w.ownsRow (g + 1) 67 1 (.slice Ap s.stk.length cp) s.stk.length (s.stk.reverse.map wd64)
  groups : w.ownsRow (g + 1) 67 1 (.slice Ag s.groups.length cg) s.groups.length (s.groups.map wd64)
  apart : ∀ b, (Value.slice Ap s.stk.length cp).ownBlock = some b → (Value.slice Ag s.groups.length cg).ownBlock ≠ some b
  lim : GwLim s
section
variable {w w' : World} {g : Nat} {Y N : List Nat} {n p x : Nat} {s : GW} {Ap Ag : Option Addr} {cp cg : Nat}
theorem GWAt.lt (h : GWAt w g Y N n s Ap cp Ag cg) : g < w.heap.size := h.blk.lt
theorem GWAt.cellYes (h : GWAt w g Y N n s Ap cp Ag cg) (hp : p < 24) : w.cell? ⟨g, p, none⟩ = some (wd64 (Y.getD p 0)) := by
  rw [h.blk.cell p, List.getElem?_toArray]; exact gwList_yes h.len hp
theorem GWAt.cellNo (h : GWAt w g Y N n s Ap cp Ag cg) (hp : p < 24) : w.cell? ⟨g, 24 + p, none⟩ = some (wd64 (N.getD p 0)) := by
  rw [h.blk.cell (24 + p), List.getElem?_toArray]; exact gwList_no h.len hp
theorem GWAt.cellN (h : GWAt w g Y N n s Ap cp Ag cg) : w.cell? ⟨g, 48, none⟩ = some (.int .i64 (n : Int)) := by
  rw [h.blk.cell 48, List.getElem?_toArray]; exact gwList_tail h.len 0
theorem GWAt.cellMet (h : GWAt w g Y N n s Ap cp Ag cg) : w.cell? ⟨g, 49, none⟩ = some (wd64 s.met) := by
  rw [h.blk.cell 49, List.getElem?_toArray]; exact gwList_tail h.len 1
theorem GWAt.cellDone (h : GWAt w g Y N n s Ap cp Ag cg) : w.cell? ⟨g, 50, none⟩ = some (wd64 s.done) := by
  rw [h.blk.cell 50, List.getElem?_toArray]; exact gwList_tail h.len 2
theorem GWAt.cellPath (h : GWAt w g Y N n s Ap cp Ag cg) : w.cell? ⟨g, 51, none⟩ = some (.slice Ap s.stk.length cp) := by
  rw [h.blk.cell 51, List.getElem?_toArray]; exact gwList_tail h.len 3
theorem GWAt.cellGroups (h : GWAt w g Y N n s Ap cp Ag cg) : w.cell? ⟨g, 52, none⟩ = some (.slice Ag s.groups.length cg) := by
  rw [h.blk.cell 52, List.getElem?_toArray]; exact gwList_tail h.len 4
theorem GWAt.cellGroup (h : GWAt w g Y N n s Ap cp Ag cg) (hp : p < 24) : w.cell? ⟨g, 53 + p, none⟩ = some (wd64 (s.group.getD p 0)) := by
  rw [h.blk.cell (53 + p), List.getElem?_toArray]; exact gwList_group h.len hp
theorem GWAt.cellReach (h : GWAt w g Y N n s Ap cp Ag cg) (hp : p < 24) : w.cell? ⟨g, 77 + p, none⟩ = some (wd64 (s.reach.getD p 0)) := by
  rw [h.blk.cell (77 + p), List.getElem?_toArray]; exact gwList_reach h.len hp
theorem GWAt.on (h : GWAt w g Y N n s Ap cp Ag cg) (hb : Below w.heap.size w w') : GWAt w' g Y N n s Ap cp Ag cg :=
  ⟨h.len, h.blk.below hb h.lt, ownsRow_only h.path fun b hb' => hb.block b (h.path.lt b hb').2, ownsRow_only h.groups fun b hb' => hb.block b (h.groups.lt b hb').2, h.apart, h.lim⟩
/-- A cell of the block is set anew. -/
theorem GWAt.store {s' : GW} {i : Nat} {u : Value} (h : GWAt w g Y N n s Ap cp Ag cg) (hs : s'.stk = s.stk) (hg : s'.groups = s.groups) (hlen : GwLen Y N s'.group s'.reach) (hl : GwLim s')
    (he : (gwList Y N n s.met s.done (.slice Ap s.stk.length cp) (.slice Ag s.groups.length cg) s.group s.reach).set i u = gwList Y N n s'.met s'.done (.slice Ap s.stk.length cp) (.slice Ag s.groups.length cg) s'.group s'.reach) :
    GWAt (w.setCell ⟨g, i, none⟩ u) g Y N n s' Ap cp Ag cg := by
  have hk : ∀ k, k ≠ g → (w.setCell ⟨g, i, none⟩ u).heap[k]? = w.heap[k]? := fun k hk => Below.heap_setCell _ _ _ k hk
  refine ⟨hlen, ?_, ?_, ?_, ?_, hl⟩
  · rw [hs, hg, ← he]
    have := h.blk.set_ i u
    simpa using this
  · rw [hs]
    exact ownsRow_only h.path fun b hb => hk b (by have := (h.path.lt b hb).1; omega)
  · rw [hg]
    exact ownsRow_only h.groups fun b hb => hk b (by have := (h.groups.lt b hb).1; omega)
  · rw [hs, hg]
    exact h.apart
theorem GWAt.setMet (h : GWAt w g Y N n s Ap cp Ag cg) (hx : x < 16777216) : GWAt (w.setCell ⟨g, 49, none⟩ (wd64 x)) g Y N n { s with met := x } Ap cp Ag cg :=
  h.store rfl rfl h.len { h.lim with met := hx } (gwList_setMet h.len)
theorem GWAt.setDone (h : GWAt w g Y N n s Ap cp Ag cg) (hx : x < 16777216) : GWAt (w.setCell ⟨g, 50, none⟩ (wd64 x)) g Y N n { s with done := x } Ap cp Ag cg :=
  h.store rfl rfl h.len { h.lim with done := hx } (gwList_setDone h.len)
theorem GWAt.setGroup (h : GWAt w g Y N n s Ap cp Ag cg) (hp : p < 24) : GWAt (w.setCell ⟨g, 53 + p, none⟩ (wd64 x)) g Y N n { s with group := s.group.set p x } Ap cp Ag cg :=
  h.store rfl rfl ⟨h.len.y, h.len.n, by simpa using h.len.g, h.len.r⟩ ⟨h.lim.met, h.lim.done, h.lim.stk, h.lim.groups, h.lim.reach, h.lim.stkN, h.lim.groupsN⟩ (gwList_setGroup h.len hp)
theorem GWAt.setReach (h : GWAt w g Y N n s Ap cp Ag cg) (hx : x < 16777216) : GWAt (w.setCell ⟨g, 77 + p, none⟩ (wd64 x)) g Y N n { s with reach := s.reach.set p x } Ap cp Ag cg :=
  h.store rfl rfl ⟨h.len.y, h.len.n, h.len.g, by simpa using h.len.r⟩ ⟨h.lim.met, h.lim.done, h.lim.stk, h.lim.groups, (fun y hy => (List.mem_or_eq_of_mem_set hy).elim (h.lim.reach y) fun e => e ▸ hx), h.lim.stkN, h.lim.groupsN⟩ (gwList_setReach h.len)
end

set_option maxHeartbeats 1000000 in
/-- (*asking).all, wherever its words stand. -/
theorem askAll_at (g p y z : Nat) (w : World) (c0 : w.cell? ⟨g, p, none⟩ = some (wd64 y)) (c1 : w.cell? ⟨g, 24 + p, none⟩ = some (wd64 z)) (hp : p < 24) (hy : y < 18446744073709551616) (hn : z < 18446744073709551616) :
    Calls Tryd.prog 47 #[.pointer (some ⟨g, 0, none⟩), .int .i64 p] w fun e w' => e = .returned (wd64 (y ||| z)) ∧ Below w.heap.size w w' := by
  unfold wd64 at c0 c1 ⊢
  have ho : bits .or .u64 (y : Int) (z : Int) = ((y ||| z : Nat) : Int) := u64_or_nat y z hy hn
  go_enter Tryd.func47, Tryd.ntmps47
  go_wp2_with (fail)
  go_big_region
  go_wp2_with (fail)
  go_ret
  exact ⟨rfl, (Below.refl _ _).drew⟩

end Go.Proofs.YtokmmloakahkhaaDoor
/-
  The walk over groups in memory: its two rows grow.
-/
namespace Go.Proofs.YtokmmloakahkhaaDoor
open Go.RowKit

/-- The block of a row. -/
def bl (A : Option Addr) : Option Nat := A.map (·.block)
theorem bl_own (A : Option Addr) (n c : Nat) : (Value.slice A n c).ownBlock = bl A := by cases A <;> rfl
/-- What a step of the walk keeps: all but its block and its two rows; a row that moves, moves to new memory. -/
structure Keeps (g : Nat) (w : World) (Ap Ag : Option Addr) (w' : World) (Ap' Ag' : Option Addr) : Prop where
  below : Below g w w'
  keep : ∀ k, k < w.heap.size → k ≠ g → bl Ap ≠ some k → bl Ag ≠ some k → w'.heap[k]? = w.heap[k]?
  pa : ∀ b, bl Ap' = some b → bl Ap = some b ∨ w.heap.size ≤ b
  ga : ∀ b, bl Ag' = some b → bl Ag = some b ∨ w.heap.size ≤ b
theorem Keeps.refl (g : Nat) (w : World) (Ap Ag : Option Addr) : Keeps g w Ap Ag w Ap Ag := ⟨Below.refl _ _, fun _ _ _ _ _ => rfl, fun _ h => .inl h, fun _ h => .inl h⟩
theorem Keeps.trans {g : Nat} {w w1 w2 : World} {Ap Ag Ap1 Ag1 Ap2 Ag2 : Option Addr} (h : Keeps g w Ap Ag w1 Ap1 Ag1) (k : Keeps g w1 Ap1 Ag1 w2 Ap2 Ag2) : Keeps g w Ap Ag w2 Ap2 Ag2 := by
  have hs := h.below.size
  refine ⟨h.below.trans k.below, fun j h1 h2 h3 h4 => (k.keep j (by omega) h2 (fun e => ?_) (fun e => ?_)).trans (h.keep j h1 h2 h3 h4), fun b hb => ?_, fun b hb => ?_⟩
  · rcases h.pa j e with e2 | e2
    · exact h3 e2
    · omega
  · rcases h.ga j e with e2 | e2
    · exact h4 e2
    · omega
  · rcases k.pa b hb with e | e
    · exact h.pa b e
    · exact .inr (by omega)
  · rcases k.ga b hb with e | e
    · exact h.ga b e
    · exact .inr (by omega)
theorem Keeps.of_below {g : Nat} {w w' : World} {Ap Ag : Option Addr} (h : Below w.heap.size w w') (hg : g ≤ w.heap.size) : Keeps g w Ap Ag w' Ap Ag :=
  ⟨h.mono hg, fun k h1 _ _ _ => h.block k h1, fun _ h => .inl h, fun _ h => .inl h⟩
theorem Keeps.setG {g : Nat} {w w' : World} {Ap Ag Ap' Ag' : Option Addr} (h : Keeps g w Ap Ag w' Ap' Ag') (i : Nat) (u : Value) : Keeps g w Ap Ag (w'.setCell ⟨g, i, none⟩ u) Ap' Ag' :=
  ⟨h.below.setCell (Nat.le_refl _) _, fun k h1 h2 h3 h4 => (Below.heap_setCell _ _ _ k h2).trans (h.keep k h1 h2 h3 h4), h.pa, h.ga⟩

section
variable {w w' w4 : World} {g g2 cap : Nat} {Y N : List Nat} {n p x : Nat} {s : GW} {Ap Ag : Option Addr} {cp cg : Nat} {o : Obj}
theorem GWAt.keptG (h : GWAt w g Y N n s Ap cp Ag cg) (hgr : (w.alloc o).grownBy w4 (Value.slice Ag s.groups.length cg).ownBlock) : (∀ k, k < g + 1 → w4.heap[k]? = w.heap[k]?) ∧ (∀ b, (Value.slice Ap s.stk.length cp).ownBlock = some b → w4.heap[b]? = w.heap[b]?) := by
  have hg2 := grown_from_alloc hgr
  have hl := h.lt
  exact ⟨fun k hk => hg2.block k (by omega) (fun e => by have := (h.groups.lt k e.symm).1; omega), fun b hb => hg2.block b (h.path.lt b hb).2 (fun e => h.apart b hb e.symm)⟩
theorem GWAt.keptP (h : GWAt w g Y N n s Ap cp Ag cg) (hgr : (w.alloc o).grownBy w4 (Value.slice Ap s.stk.length cp).ownBlock) : (∀ k, k < g + 1 → w4.heap[k]? = w.heap[k]?) ∧ (∀ b, (Value.slice Ag s.groups.length cg).ownBlock = some b → w4.heap[b]? = w.heap[b]?) := by
  have hg2 := grown_from_alloc hgr
  have hl := h.lt
  exact ⟨fun k hk => hg2.block k (by omega) (fun e => by have := (h.path.lt k e.symm).1; omega), fun b hb => hg2.block b (h.groups.lt b hb).2 (fun e => h.apart b e.symm hb)⟩
theorem GWAt.pushGroups (h : GWAt w g Y N n s Ap cp Ag cg) (hx : x < 16777216) (hn : s.groups.length < 24) (hgr : (w.alloc o).grownBy w4 (Value.slice Ag s.groups.length cg).ownBlock) (hat : (Value.slice Ag s.groups.length cg).ownBlock = some g2 ∨ g2 = (w.alloc o).heap.size)
    (hown : w4.ownsRow (g + 1) 67 1 (.slice (some ⟨g2, 0, none⟩) (s.groups.length + 1) cap) (s.groups.length + 1) (s.groups.map wd64 ++ [wd64 x])) (hw : w' = w4.setCell ⟨g, 52, none⟩ (.slice (some ⟨g2, 0, none⟩) (s.groups.length + 1) cap)) :
    GWAt w' g Y N n { s with groups := s.groups ++ [x] } Ap cp (some ⟨g2, 0, none⟩) cap ∧ Keeps g w Ap Ag w' Ap (some ⟨g2, 0, none⟩) := by
  subst hw
  obtain ⟨k1, k2⟩ := h.keptG hgr
  have hg2 := grown_from_alloc hgr
  have hl : (s.groups ++ [x]).length = s.groups.length + 1 := by simp
  have hset : ∀ k, k ≠ g → (w4.setCell ⟨g, 52, none⟩ (.slice (some ⟨g2, 0, none⟩) (s.groups.length + 1) cap)).heap[k]? = w4.heap[k]? := fun k hk => Below.heap_setCell _ _ _ k hk
  refine ⟨⟨h.len, ?_, ?_, ?_, ?_, ?_⟩, ⟨⟨hg2.os, hg2.tape, hg2.output, by simpa using hg2.size, fun k hk => (hset k (by omega)).trans (k1 k (by omega))⟩, fun k h1 h2 _ h4 => (hset k h2).trans (hg2.block k h1 (fun e => h4 (by rw [← bl_own Ag s.groups.length cg]; exact e.symm))), fun b h => .inl h, fun b hb => ?_⟩⟩
  · show Blk _ g 73 (gwList Y N n s.met s.done (.slice Ap s.stk.length cp) (.slice (some ⟨g2, 0, none⟩) (s.groups ++ [x]).length cap) s.group s.reach).toArray
    rw [hl]
    have h1 := (show Blk w4 g 73 _ from (k1 g (Nat.lt_succ_self _)).trans h.blk).set_ 52 (.slice (some ⟨g2, 0, none⟩) (s.groups.length + 1) cap)
    have h2 := gwList_setGroups (n := n) (met := s.met) (done := s.done) (vp := .slice Ap s.stk.length cp) (vg := .slice Ag s.groups.length cg) (u := .slice (some ⟨g2, 0, none⟩) (s.groups.length + 1) cap) h.len
    simp only [List.setIfInBounds_toArray, h2] at h1
    exact h1
  · exact ownsRow_only h.path fun b hb => (hset b (by have := (h.path.lt b hb).1; omega)).trans (k2 b hb)
  · show World.ownsRow _ (g + 1) 67 1 (.slice (some ⟨g2, 0, none⟩) (s.groups ++ [x]).length cap) (s.groups ++ [x]).length ((s.groups ++ [x]).map wd64)
    rw [hl, List.map_append]
    exact ownsRow_only hown fun b hb => hset b (by have := (hown.lt b hb).1; omega)
  · intro b hb e
    have e1 : g2 = b := by simpa [Value.ownBlock] using e
    have := (h.path.lt b hb).2
    rcases hat with hat | hat
    · exact h.apart b hb (by rw [hat, e1])
    · simp at hat
      omega
  · exact ⟨h.lim.met, h.lim.done, h.lim.stk, fun y hy => (List.mem_append.1 hy).elim (h.lim.groups y) fun e => by rw [List.mem_singleton.1 e]; exact hx, h.lim.reach, h.lim.stkN, by show (s.groups ++ [x]).length ≤ 24; omega⟩
  · have e1 : g2 = b := by simpa [bl] using hb
    rcases hat with hat | hat
    · exact .inl (by rw [← e1, ← hat, bl_own])
    · simp at hat
      exact .inr (by omega)
theorem GWAt.pushPath (h : GWAt w g Y N n s Ap cp Ag cg) (hx : x < 16777216) (hn : s.stk.length < 24) (hgr : (w.alloc o).grownBy w4 (Value.slice Ap s.stk.length cp).ownBlock) (hat : (Value.slice Ap s.stk.length cp).ownBlock = some g2 ∨ g2 = (w.alloc o).heap.size)
    (hown : w4.ownsRow (g + 1) 67 1 (.slice (some ⟨g2, 0, none⟩) (s.stk.length + 1) cap) (s.stk.length + 1) (s.stk.reverse.map wd64 ++ [wd64 x])) (hw : w' = w4.setCell ⟨g, 51, none⟩ (.slice (some ⟨g2, 0, none⟩) (s.stk.length + 1) cap)) :
    GWAt w' g Y N n { s with stk := x :: s.stk } (some ⟨g2, 0, none⟩) cap Ag cg ∧ Keeps g w Ap Ag w' (some ⟨g2, 0, none⟩) Ag := by
  subst hw
  obtain ⟨k1, k2⟩ := h.keptP hgr
  have hg2 := grown_from_alloc hgr
  have hset : ∀ k, k ≠ g → (w4.setCell ⟨g, 51, none⟩ (.slice (some ⟨g2, 0, none⟩) (s.stk.length + 1) cap)).heap[k]? = w4.heap[k]? := fun k hk => Below.heap_setCell _ _ _ k hk
  refine ⟨⟨h.len, ?_, ?_, ?_, ?_, ?_⟩, ⟨⟨hg2.os, hg2.tape, hg2.output, by simpa using hg2.size, fun k hk => (hset k (by omega)).trans (k1 k (by omega))⟩, fun k h1 h2 h3 _ => (hset k h2).trans (hg2.block k h1 (fun e => h3 (by rw [← bl_own Ap s.stk.length cp]; exact e.symm))), fun b hb => ?_, fun b h => .inl h⟩⟩
  · show Blk _ g 73 (gwList Y N n s.met s.done (.slice (some ⟨g2, 0, none⟩) (s.stk.length + 1) cap) (.slice Ag s.groups.length cg) s.group s.reach).toArray
    have h1 := (show Blk w4 g 73 _ from (k1 g (Nat.lt_succ_self _)).trans h.blk).set_ 51 (.slice (some ⟨g2, 0, none⟩) (s.stk.length + 1) cap)
    have h2 := gwList_setPath (n := n) (met := s.met) (done := s.done) (vp := .slice Ap s.stk.length cp) (vg := .slice Ag s.groups.length cg) (u := .slice (some ⟨g2, 0, none⟩) (s.stk.length + 1) cap) h.len
    simp only [List.setIfInBounds_toArray, h2] at h1
    exact h1
  · show World.ownsRow _ (g + 1) 67 1 (.slice (some ⟨g2, 0, none⟩) (s.stk.length + 1) cap) (s.stk.length + 1) ((x :: s.stk).reverse.map wd64)
    rw [List.reverse_cons, List.map_append]
    exact ownsRow_only hown fun b hb => hset b (by have := (hown.lt b hb).1; omega)
  · exact ownsRow_only h.groups fun b hb => (hset b (by have := (h.groups.lt b hb).1; omega)).trans (k2 b hb)
  · intro b hb e
    have e1 : g2 = b := by simpa [Value.ownBlock] using hb
    have := (h.groups.lt b e).2
    rcases hat with hat | hat
    · exact h.apart b (by rw [hat, e1]) e
    · simp at hat
      omega
  · exact ⟨h.lim.met, h.lim.done, fun y hy => (List.mem_cons.1 hy).elim (fun e => e ▸ hx) (h.lim.stk y), h.lim.groups, h.lim.reach, by show s.stk.length + 1 ≤ 24; omega, h.lim.groupsN⟩
  · have e1 : g2 = b := by simpa [bl] using hb
    rcases hat with hat | hat
    · exact .inl (by rw [← e1, ← hat, bl_own])
    · simp at hat
      exact .inr (by omega)
/-- The path is cut back. -/
theorem GWAt.popPath {t : Nat} {r : List Nat} {gp : Nat} (h : GWAt w g Y N n s (some ⟨gp, 0, none⟩) cp Ag cg) (hs : s.stk = t :: r) (hw : w' = w.setCell ⟨g, 51, none⟩ (.slice (some ⟨gp, 0, none⟩) r.length cp)) :
    GWAt w' g Y N n { s with stk := r } (some ⟨gp, 0, none⟩) cp Ag cg ∧ Keeps g w (some ⟨gp, 0, none⟩) Ag w' (some ⟨gp, 0, none⟩) Ag := by
  subst hw
  have hset : ∀ k, k ≠ g → (w.setCell ⟨g, 51, none⟩ (.slice (some ⟨gp, 0, none⟩) r.length cp)).heap[k]? = w.heap[k]? := fun k hk => Below.heap_setCell _ _ _ k hk
  refine ⟨⟨h.len, ?_, ?_, ?_, ?_, ?_⟩, (Keeps.refl g w _ _).setG _ _⟩
  · show Blk _ g 73 (gwList Y N n s.met s.done (.slice (some ⟨gp, 0, none⟩) r.length cp) (.slice Ag s.groups.length cg) s.group s.reach).toArray
    have h1 := h.blk.set_ 51 (.slice (some ⟨gp, 0, none⟩) r.length cp)
    have h2 := gwList_setPath (n := n) (met := s.met) (done := s.done) (vp := .slice (some ⟨gp, 0, none⟩) s.stk.length cp) (vg := .slice Ag s.groups.length cg) (u := .slice (some ⟨gp, 0, none⟩) r.length cp) h.len
    simp only [List.setIfInBounds_toArray, h2] at h1
    exact h1
  · have hp := ownsRow_only (w' := w.setCell ⟨g, 51, none⟩ (.slice (some ⟨gp, 0, none⟩) r.length cp)) h.path fun b hb => hset b (by have := (h.path.lt b hb).1; omega)
    rw [hs] at hp
    obtain ⟨hl, hr⟩ := hp
    rcases hr with ⟨e1, _⟩ | ⟨g', cap, cur, e1, hb, hg, h1, h2, h3, h4⟩
    · cases e1
    · injection e1 with e1 e2 e3
      subst e3
      refine ⟨by simp, .inr ⟨g', cp, cur, by rw [e1], hb, hg, by simp at h1; show r.length ≤ cp; omega, h2, h3, ?_⟩⟩
      have h5 := congrArg (fun l => l.take r.length) h4
      simp only [List.take_take, List.length_cons] at h5
      show cur.toList.take (r.length * 1) = r.reverse.map wd64
      rw [show min r.length ((r.length + 1) * 1) = r.length * 1 by omega] at h5
      rw [h5, List.reverse_cons, List.map_append, List.take_append_of_le_length (by simp), List.take_of_length_le (by simp)]
  · exact ownsRow_only h.groups fun b hb => hset b (by have := (h.groups.lt b hb).1; omega)
  · exact fun b hb => h.apart b hb
  · have h24 := h.lim.stkN
    rw [hs] at h24
    exact ⟨h.lim.met, h.lim.done, fun y hy => h.lim.stk y (by rw [hs]; exact List.mem_cons_of_mem _ hy), h.lim.groups, h.lim.reach, by show r.length ≤ 24; simp at h24; omega, h.lim.groupsN⟩
end

theorem Tryd.infoUint : (Tryd.prog.info? 67).map (fun i => (i.zero, i.size, i.bytes)) = some (some (.int .u64 0), 1, 8) := by kernel_rfl
theorem bits_cast (x : Nat) : bitsOf x = (bitsN x).map fun j : Nat => (j : Int) := rfl
theorem andNot_less {a b : Nat} (ha : a < 18446744073709551616) (hb : b < 18446744073709551616) : bits .andNot .u64 (a : Int) (b : Int) = ((lessN a b : Nat) : Int) := by
  have hb' : b < 2 ^ 64 := hb
  rw [u64_andNot_nat a b ha hb, show (18446744073709551615 - b : Nat) = 2 ^ 64 - (b + 1) by omega]
  congr 1
  apply Nat.eq_of_testBit_eq
  intro k
  unfold lessN
  rw [Nat.testBit_and, Nat.testBit_two_pow_sub_succ hb', Nat.testBit_xor, Nat.testBit_and]
  by_cases hk : k < 64
  · simp only [hk, decide_true, Bool.true_and]
    cases a.testBit k <;> cases b.testBit k <;> rfl
  · have h0 : a.testBit k = false := Nat.testBit_lt_two_pow (Nat.lt_of_lt_of_le ha (by
      have : (2 : Nat) ^ 64 ≤ 2 ^ k := Nat.pow_le_pow_right (by decide) (by omega)
      omega))
    simp [h0]

end Go.Proofs.YtokmmloakahkhaaDoor
/-
  The walk of the plain laws' wrInts.
-/
namespace Go.Proofs.YtokmmloakahkhaaDoor
open Go.RowKit

theorem RdInts.at_ {w : World} {B c : Nat} {A : Option Addr} {xs : List Int} (h : RdInts w B (.slice A xs.length c) xs) {k : Nat} (hk : k < xs.length) : ∃ b o, A = some ⟨b, o, none⟩ ∧ b < B ∧ w.cell? ⟨b, o + k, none⟩ = some (.int .i64 xs[k]) := by
  obtain ⟨A', c', e, _, hx⟩ := h
  injection e with e1 _ _
  subst e1
  obtain ⟨b, o, rfl, hb, hx⟩ := hx (by omega)
  exact ⟨b, o, rfl, hb, hx k hk⟩

set_option maxHeartbeats 1000000 in
set_option maxRecDepth 100000 in
theorem wrInts_any (va vb : Value) (xs ys : List Int) (w : World) (ha : RdInts w w.heap.size va xs) (hb : RdInts w w.heap.size vb ys) (hx : xs.length ≤ 1048576) (hy : ys.length ≤ 1048576) :
    Calls Tryd.prog 11 #[va, vb] w fun e w' => e = .returned (.bool (decide (xs = ys))) ∧ Below w.heap.size w w' := by
  have HX := Lib.hid ha
  have HY := Lib.hid hb
  obtain ⟨A, c, rfl, hc, _⟩ := ha
  obtain ⟨A2, c2, rfl, hc2, _⟩ := hb
  by_cases hl : xs.length = ys.length
  · have hl1 : ((xs.length : Int) != (ys.length : Int)) = false := by simp [hl]
    have HL := Lib.hid hl
    clear hl
    go_enter Tryd.func11, Tryd.ntmps11
    go_wp2_with (fail)
    go_loopw [13] (fun i wr => ∃ k : Nat, k ≤ xs.length ∧ i = .int .i64 k ∧ (∀ j, j < k → xs[j]? = ys[j]?) ∧ Below w.heap.size w wr) (fun i _ => xs.length - (intOf i).toNat)
    case atStart => exact ⟨0, Nat.zero_le _, rfl, fun j h => absurd h (Nat.not_lt_zero _), Below.refl _ _⟩
    case round =>
      obtain ⟨k, hk, rfl, hs, hbe⟩ := hrel
      by_cases hlt : k < xs.length
      · have hlt2 : k < ys.length := by have := HL.out; omega
        obtain ⟨b, o, rfl, hbB, k0⟩ := (HX.out.on hbe).at_ hlt
        obtain ⟨b2, o2, rfl, hbB2, m0⟩ := (HY.out.on hbe).at_ hlt2
        have d0 : wr.drew.cell? ⟨b, o + k, none⟩ = some (.int .i64 xs[k]) := k0
        have d1 : wr.drew.cell? ⟨b2, o2 + k, none⟩ = some (.int .i64 ys[k]) := m0
        have HBE := Lib.hid hbe
        by_cases he : xs[k] = ys[k]
        · have hdb : (xs[k] != ys[k]) = false := by simp [he]
          have HS2 := Lib.hid (show ∀ j, j < k + 1 → xs[j]? = ys[j]? from fun j hj => by
            by_cases e : j = k
            · subst e; rw [List.getElem?_eq_getElem hlt, List.getElem?_eq_getElem hlt2, he]
            · exact hs j (by omega))
          clear he hs hbe
          go_upto_region 6 with fail
          go_big_region
          go_wp2_with (fail)
          go_roundw
          case rel => exact ⟨k + 1, by omega, by go_num, HS2.out, HBE.out.drew⟩
          case measure => simp [intOf]; omega
        · have hdb : (xs[k] != ys[k]) = true := by simpa using he
          have HE := Lib.hid (show decide (xs = ys) = false from decide_eq_false fun e => he (by subst e; rfl))
          clear he hs hbe
          go_upto_region 6 with fail
          go_big_region
          go_wp2_with (fail)
          go_ret
          exact ⟨ret_bool HE.out.symm, HBE.out.drew⟩
      · have HE := Lib.hid (show decide (xs = ys) = true from decide_eq_true (List.ext_getElem? fun j => by
          by_cases e : j < k
          · exact hs j e
          · have := HL.out
            rw [List.getElem?_eq_none (by omega), List.getElem?_eq_none (by omega)]))
        clear hs
        go_wp2_with (fail)
        go_ret
        exact ⟨ret_bool HE.out.symm, hbe⟩
  · have hl1 : ((xs.length : Int) != (ys.length : Int)) = true := by simp; omega
    have HE := Lib.hid (show decide (xs = ys) = false from decide_eq_false fun e => hl (by rw [e]))
    clear hl
    go_enter Tryd.func11, Tryd.ntmps11
    go_wp2_with (fail)
    go_ret
    exact ⟨ret_bool HE.out.symm, Below.refl _ _⟩

end Go.Proofs.YtokmmloakahkhaaDoor
/-
  The walk of finish.
-/
namespace Go.Proofs.YtokmmloakahkhaaDoor
open Go.RowKit

def askF (Y N : List Nat) (p : Nat) : Nat := Y.getD p 0 ||| N.getD p 0
/-- The words of what is asked at once, all of few bits. -/
structure AskLim (Y N : List Nat) : Prop where
  y : ∀ p, p < 24 → Y.getD p 0 < 16777216
  n : ∀ p, p < 24 → N.getD p 0 < 16777216
theorem bitsN_lt {x p : Nat} (hx : x < 16777216) (hp : p ∈ bitsN x) : p < 24 := by
  have h := (bitsN_mem.1 hp).2
  unfold has at h
  apply Classical.byContradiction
  intro hn
  have h2 := Nat.ge_two_pow_of_testBit h
  have h3 : (2 : Nat) ^ 24 ≤ 2 ^ p := Nat.pow_le_pow_right (by decide) (by omega)
  omega
theorem or24 {a b : Nat} (ha : a < 16777216) (hb : b < 16777216) : a ||| b < 16777216 := Nat.or_lt_two_pow (n := 24) ha hb
theorem less24 {a b : Nat} (ha : a < 16777216) : lessN a b < 16777216 := by
  unfold lessN
  have h := Nat.and_le_left (n := a) (m := b)
  exact Nat.xor_lt_two_pow (n := 24) ha (by omega)
def foldO (f : Nat → Nat) (r : Nat) (l : List Nat) : Nat := l.foldl (fun r p => r ||| f p) r
theorem foldO_snoc (f : Nat → Nat) (r : Nat) (l : List Nat) (k : Nat) (h : k < l.length) : foldO f r (l.take (k + 1)) = foldO f r (l.take k) ||| f l[k] := by
  unfold foldO
  rw [take_snoc l k h, List.foldl_append]
  rfl
theorem setAll_snoc (l ps : List Nat) (x k : Nat) (h : k < ps.length) : setAll l (ps.take (k + 1)) x = (setAll l (ps.take k) x).set ps[k] x := by
  unfold setAll
  rw [take_snoc ps k h, List.foldl_append]
  rfl

set_option maxHeartbeats 4000000 in
set_option maxRecDepth 100000 in
theorem finish_any (g n x : Nat) (Y N : List Nat) (s : GW) (Ap : Option Addr) (cp : Nat) (Ag : Option Addr) (cg : Nat) (w : World) (h : GWAt w g Y N n s Ap cp Ag cg) (hx : x < 16777216) (hn : s.groups.length < 24) (hA : AskLim Y N) (hT : Tab w) :
    Calls Tryd.prog 93 #[.pointer (some ⟨g, 0, none⟩), .int .u64 x] w fun e w' => e = .returned (.tuple #[]) ∧ ∃ Ag' cg', GWAt w' g Y N n (finishF (askF Y N) x s) Ap cp Ag' cg' ∧ Keeps g w Ap Ag w' Ap Ag' := by
  obtain ⟨i0, hi0, hz0, hz1, hz2⟩ := info_parts Tryd.infoUint
  have HG := Lib.hid h
  have HA := Lib.hid hA
  have HT := Lib.hid hT
  have hgl := h.lt
  obtain ⟨ms, hms⟩ : ∃ ms, ms = bitsOf x := ⟨_, rfl⟩
  obtain ⟨B, hB⟩ : ∃ B, B = bitsN x := ⟨_, rfl⟩
  have HB := Lib.hid hB
  have HMS := Lib.hid (show ms = B.map fun j : Nat => (j : Int) by rw [hms, hB]; rfl)
  have HML := Lib.hid (show ms.length = B.length by rw [HMS.out]; simp)
  have hmsl : ms.length ≤ 64 := by rw [hms]; exact bitsOf_length _
  have HB24 := Lib.hid (show ∀ p ∈ B, p < 24 from fun p hp => bitsN_lt hx (by rw [← hB]; exact hp))
  have CB := Lib.hid (bitNumbers_any x (by omega) w HT.out)
  rw [← hms] at CB
  clear h hA hT hms hB
  go_enter Tryd.func93, Tryd.ntmps93
  go_wp2_with (go_at_call 39; refine CB.out.mono ?_; rintro e w1 ⟨A1, c1, rfl, o1, b1⟩; have HO1 := Lib.hid o1; have B1 := Lib.hid b1; clear o1 b1)
  go_loopw [5, 16] (fun m i wr => ∃ (k z : Nat), k ≤ ms.length ∧ i = .int .i64 k ∧ m = .int .u64 z ∧ z = foldO (askF Y N) 0 (B.take k) ∧ z < 16777216 ∧ Below w1.heap.size w1 wr) (fun _ i _ => ms.length - (intOf i).toNat)
  case atStart => exact ⟨0, 0, Nat.zero_le _, rfl, rfl, rfl, by omega, Below.refl _ _⟩
  case round =>
    obtain ⟨k, z, hk, rfl, rfl, hz, hz24, hbe⟩ := hrel
    have HZ := Lib.hid hz
    have HBE := Lib.hid hbe
    have BW := Lib.hid (bthen B1.out hbe)
    have HGW := Lib.hid (HG.out.on BW.out)
    clear hz hbe
    by_cases hlt : k < ms.length
    · have hkB : k < B.length := by rw [← HML.out]; exact hlt
      obtain ⟨bb, oo, e0, hbb, k0⟩ := (HO1.out.rd.on HBE.out).at_ hlt
      subst e0
      obtain ⟨p, hp⟩ : ∃ p, p = B[k] := ⟨_, rfl⟩
      have hpk : ms[k] = (p : Int) := by rw [hp]; simp [HMS.out]
      rw [hpk] at k0
      have HP := Lib.hid hp
      have hp24 : p < 24 := by rw [hp]; exact HB24.out _ (List.getElem_mem hkB)
      have hy := HA.out.y p hp24
      have hnn := HA.out.n p hp24
      have CA := Lib.hid (askAll_at g p (Y.getD p 0) (N.getD p 0) wr (HGW.out.cellYes hp24) (HGW.out.cellNo hp24) hp24 (by omega) (by omega))
      obtain ⟨u, hu⟩ : ∃ u, u = Y.getD p 0 ||| N.getD p 0 := ⟨_, rfl⟩
      have hu24 : u < 16777216 := by rw [hu]; exact or24 hy hnn
      rw [← hu] at CA
      unfold wd64 at CA
      have hor : bits .or .u64 (z : Int) (u : Int) = ((z ||| u : Nat) : Int) := u64_or_nat z u (by omega) (by omega)
      have HU := Lib.hid hu
      clear hp hpk hu hy hnn
      go_wp2_with (go_at_call 47; refine CA.out.mono ?_; rintro e w2 ⟨rfl, b2⟩; have B2 := Lib.hid (bthen HBE.out b2); clear b2)
      go_roundw
      case rel => exact ⟨k + 1, z ||| u, by omega, by go_num, rfl, by rw [foldO_snoc _ _ _ _ hkB, ← HZ.out, ← HP.out, HU.out]; rfl, or24 hz24 hu24, B2.out⟩
      case measure => simp [intOf]; omega
    · have HZA := Lib.hid (show z = foldO (askF Y N) 0 B by rw [HZ.out, show k = B.length by have := HML.out; omega, List.take_length])
      obtain ⟨w2, rfl⟩ : ∃ w2, w2 = wr := ⟨_, rfl⟩
      have han : bits .andNot .u64 (z : Int) (x : Int) = ((lessN z x : Nat) : Int) := andNot_less (by omega) (by omega)
      obtain ⟨d, hd⟩ : ∃ d, d = lessN z x := ⟨_, rfl⟩
      have hd24 : d < 16777216 := by rw [hd]; exact less24 hz24
      rw [← hd] at han
      have HD := Lib.hid hd
      obtain ⟨qs, hqs⟩ : ∃ qs, qs = bitsOf d := ⟨_, rfl⟩
      obtain ⟨Q, hQ⟩ : ∃ Q, Q = bitsN d := ⟨_, rfl⟩
      have HQ := Lib.hid hQ
      have HQS := Lib.hid (show qs = Q.map fun j : Nat => (j : Int) by rw [hqs, hQ]; rfl)
      have HQL := Lib.hid (show qs.length = Q.length by rw [HQS.out]; simp)
      have hqsl : qs.length ≤ 64 := by rw [hqs]; exact bitsOf_length _
      have HQ24 := Lib.hid (show ∀ p ∈ Q, p < 24 from fun p hp => bitsN_lt hd24 (by rw [← hQ]; exact hp))
      have CQ := Lib.hid (bitNumbers_any d (by omega) w2 (HT.out.below BW.out))
      rw [← hqs] at CQ
      clear hqs hQ hd
      go_wp2_with (go_at_call 39; refine CQ.out.mono ?_; rintro e w3 ⟨A3, c3, rfl, o3, b3⟩; have HO3 := Lib.hid o3; have B3 := Lib.hid (bthen BW.out b3); have B13 := Lib.hid (bthen HBE.out b3); clear o3 b3)
      have HG3 := Lib.hid (HG.out.on B3.out)
      go_loopw [5, 33] (fun m i wr => ∃ (k y : Nat), k ≤ qs.length ∧ i = .int .i64 k ∧ m = .int .u64 y ∧ y = foldO (fun t => s.reach.getD t 0) z (Q.take k) ∧ y < 16777216 ∧ wr = w3) (fun _ i _ => qs.length - (intOf i).toNat)
      case atStart => exact ⟨0, z, Nat.zero_le _, rfl, rfl, rfl, hz24, by first | rfl | trivial⟩
      case round =>
        obtain ⟨k, y, hk, rfl, rfl, hy, hy24, rfl⟩ := hrel
        have HY := Lib.hid hy
        clear hy
        by_cases hlt : k < qs.length
        · have hkB : k < Q.length := by rw [← HQL.out]; exact hlt
          obtain ⟨bb, oo, e0, hbb, k0⟩ := HO3.out.rd.at_ hlt
          subst e0
          obtain ⟨p, hp⟩ : ∃ p, p = Q[k] := ⟨_, rfl⟩
          have hpk : qs[k] = (p : Int) := by rw [hp]; simp [HQS.out]
          rw [hpk] at k0
          have HP := Lib.hid hp
          have hp24 : p < 24 := by rw [hp]; exact HQ24.out _ (List.getElem_mem hkB)
          have hpi : (p : Int) < 24 := by omega
          obtain ⟨u, hu⟩ : ∃ u, u = s.reach.getD p 0 := ⟨_, rfl⟩
          have k1 : wr.cell? ⟨g, 77 + p, none⟩ = some (.int .u64 ((u : Nat) : Int)) := by rw [hu]; exact HG3.out.cellReach hp24
          have hu24 : u < 16777216 := by
            rw [hu]
            have hl : p < s.reach.length := by rw [HG3.out.len.r]; exact hp24
            rw [List.getD_eq_getElem?_getD, List.getElem?_eq_getElem hl]
            exact HG3.out.lim.reach _ (List.getElem_mem hl)
          have hor : bits .or .u64 (y : Int) (u : Int) = ((y ||| u : Nat) : Int) := u64_or_nat y u (by omega) (by omega)
          have HU := Lib.hid hu
          clear hp hpk hu
          go_wp2_with (fail)
          go_roundw
          case rel => exact ⟨k + 1, y ||| u, by omega, by go_num, rfl, by rw [foldO_snoc _ _ _ _ hkB, ← HY.out, ← HP.out, HU.out], or24 hy24 hu24, by first | rfl | trivial⟩
          case measure => simp [intOf]; omega
        · have HYA := Lib.hid (show y = reachF (askF Y N) s.reach x by
            rw [HY.out, show k = Q.length by have := HQL.out; omega, List.take_length, HQ.out, HD.out, HZA.out, HB.out]
            rfl)
          obtain ⟨w4, rfl⟩ : ∃ w4, w4 = wr := ⟨_, rfl⟩
          have HGo := Lib.hid (HO1.out.below B13.out (Nat.le_refl _))
          have hg1 : g < w1.heap.size := Nat.lt_of_lt_of_le hgl B1.out.size
          go_wp2_with (fail)
          go_loopw [48] (fun i wr => ∃ k : Nat, k ≤ ms.length ∧ i = .int .i64 k ∧ GWAt wr g Y N n { s with group := setAll s.group (B.take k) x, reach := setAll s.reach (B.take k) y } Ap cp Ag cg ∧ Keeps g w Ap Ag wr Ap Ag ∧ OwnInts wr w.heap.size w1.heap.size (.slice A1 ms.length c1) ms) (fun i _ => ms.length - (intOf i).toNat)
          case atStart => exact ⟨0, Nat.zero_le _, rfl, HG3.out, Keeps.of_below B3.out (Nat.le_of_lt hgl), HGo.out⟩
          case round =>
            obtain ⟨k, hk, rfl, hgw, hbw, hom⟩ := hrel
            have HGW := Lib.hid hgw
            have HBW := Lib.hid hbw
            have HOM := Lib.hid hom
            clear hgw hbw hom
            by_cases hlt : k < ms.length
            · have hkB : k < B.length := by rw [← HML.out]; exact hlt
              obtain ⟨bb, oo, e0, hbb, k0⟩ := HOM.out.rd.at_ hlt
              subst e0
              obtain ⟨p, hp⟩ : ∃ p, p = B[k] := ⟨_, rfl⟩
              have hpk : ms[k] = (p : Int) := by rw [hp]; simp [HMS.out]
              rw [hpk] at k0
              have HP := Lib.hid hp
              have hp24 : p < 24 := by rw [hp]; exact HB24.out _ (List.getElem_mem hkB)
              have hpi : (p : Int) < 24 := by omega
              have q1 := HGW.out.cellGroup hp24
              have q2 := HGW.out.cellReach hp24
              unfold wd64 at q1 q2
              have f1 : wr.frozen? ⟨g, 53 + p, none⟩ = false := HGW.out.blk.frozen _
              have f2 : wr.frozen? ⟨g, 77 + p, none⟩ = false := HGW.out.blk.frozen _
              have HG1 := Lib.hid (HGW.out.setGroup (x := x) hp24)
              have HG2 := Lib.hid (HG1.out.setReach (p := p) hy24)
              have hbe : bb ≠ g := fun e => by
                have := HOM.out.lt (g := bb) rfl
                omega
              clear hp hpk
              go_wp2_with (fail)
              go_roundw
              case rel =>
                refine ⟨k + 1, by omega, by go_num, ?_, (HBW.out.setG _ _).setG _ _, (HOM.out.set (p := ⟨g, 53 + p, none⟩) (.inl hgl) _).set (p := ⟨g, 77 + p, none⟩) (.inl hgl) _⟩
                rw [setAll_snoc _ _ _ _ hkB, setAll_snoc _ _ _ _ hkB, ← HP.out]
                exact HG2.out
              case measure => simp [intOf]; omega
            · have HGE := Lib.hid (show GWAt wr g Y N n { s with group := setAll s.group B x, reach := setAll s.reach B y } Ap cp Ag cg from by
                have := HGW.out
                rw [show k = B.length by have := HML.out; omega, List.take_length] at this
                exact this)
              obtain ⟨w5, rfl⟩ : ∃ w5, w5 = wr := ⟨_, rfl⟩
              obtain ⟨S, hS⟩ : ∃ S : GW, S = { s with group := setAll s.group B x, reach := setAll s.reach B y } := ⟨_, rfl⟩
              have hSn : S.groups.length < 24 := by rw [hS]; exact hn
              have HS := Lib.hid hS
              rw [← hS] at HGE
              have k52 : w5.cell? ⟨g, 52, none⟩ = some (.slice Ag S.groups.length cg) := HGE.out.cellGroups
              have hg5 : g < w5.heap.size := HGE.out.lt
              clear hS
              go_wp2_with (at_builtin; refine wpList_append_lies _ rfl (.tmp 69) (.tmp 71) 71 rfl (g + 1) 67 i0 (.int .u64 0) 1 8 Tryd.underlying71 hi0 hz0 hz1 hz2 rfl (by decide) (.slice Ag S.groups.length cg) S.groups.length (S.groups.map wd64) rfl ?c1 ⟨w5.heap.size, 0, none⟩ 1 1 [.int .u64 (x : Int)] rfl rfl (cell_one_new _ _ _) ?c2 (by omega) (by unfold maxLen; omega) (by omega) ?c3 _ rfl ?_)
              case c1 => exact HGE.out.groups.alloc _
              case c2 => intro u hu; simp at hu; subst hu; rfl
              case c3 => simp; omega
              intro g2 cap w6 hown hgr hat _
              have hkg := (HGE.out.keptG hgr).1 g (Nat.lt_succ_self _)
              have c52 : w6.cell? ⟨g, 52, none⟩ = some (.slice Ag S.groups.length cg) := by rw [← k52]; simp [World.cell?, hkg]
              have f52 : w6.frozen? ⟨g, 52, none⟩ = false := by
                have := HGE.out.blk.frozen 52
                rw [← this]
                simp [World.frozen?, hkg]
              have HPG := Lib.hid (fun W (hW : W = w6.setCell ⟨g, 52, none⟩ (.slice (some ⟨g2, 0, none⟩) (S.groups.length + 1) cap)) => HGE.out.pushGroups hx hSn hgr (by simpa using hat) hown hW)
              clear hown hgr hat hkg
              go_upto_region 19 with fail
              obtain ⟨w7, hw7⟩ : ∃ w7, w7 = w6.setCell ⟨g, 52, none⟩ (.slice (some ⟨g2, 0, none⟩) (S.groups.length + 1) cap) := ⟨_, rfl⟩
              have H7 := Lib.hid (HPG.out w7 hw7)
              rw [← hw7]
              have k50 : w7.cell? ⟨g, 50, none⟩ = some (.int .u64 ((S.done : Nat) : Int)) := H7.out.1.cellDone
              have f50 : w7.frozen? ⟨g, 50, none⟩ = false := H7.out.1.blk.frozen 50
              have hd24 : S.done < 16777216 := HGE.out.lim.done
              have hor : bits .or .u64 (S.done : Int) (x : Int) = ((S.done ||| x : Nat) : Int) := u64_or_nat S.done x (by omega) (by omega)
              have H8 := Lib.hid (H7.out.1.setDone (or24 hd24 hx))
              clear hw7 c52 f52
              go_wp2_with fail
              go_end0
              refine ⟨rfl, some ⟨g2, 0, none⟩, ⟨cap, ?_⟩, (HBW.out.trans H7.out.2).setG _ _⟩
              have h8 := H8.out
              have e : ({ S with groups := S.groups ++ [x], done := S.done ||| x } : GW) = finishF (askF Y N) x s := by
                rw [HS.out]
                unfold finishF
                rw [← HB.out, ← HYA.out]
              rw [← e]
              exact h8

end Go.Proofs.YtokmmloakahkhaaDoor
/-
  The walk of joinBack.
-/
namespace Go.Proofs.YtokmmloakahkhaaDoor
open Go.RowKit

/-- While parts are joined: T is the path as it is joined so far, its top first; st lies stale behind it. -/
structure JAt (w0 wr : World) (g : Nat) (Y N : List Nat) (n : Nat) (s : GW) (Ap : Option Addr) (cp : Nat) (Ag : Option Addr) (cg : Nat) (tq : Nat) (T st : List Nat) : Prop where
  len : GwLen Y N s.group s.reach
  blk : Blk wr g 73 (gwList Y N n s.met s.done (.slice Ap s.stk.length cp) (.slice Ag s.groups.length cg) s.group s.reach).toArray
  path : wr.ownsRow (g + 1) 67 1 (.slice Ap s.stk.length cp) s.stk.length ((T.reverse ++ st).map wd64)
  groups : wr.ownsRow (g + 1) 67 1 (.slice Ag s.groups.length cg) s.groups.length (s.groups.map wd64)
  apart : ∀ b, (Value.slice Ap s.stk.length cp).ownBlock = some b → (Value.slice Ag s.groups.length cg).ownBlock ≠ some b
  lims : GwLim s
  eq : joinR tq T = joinR tq s.stk
  hasT : ∃ x ∈ T, has x tq
  lim : ∀ x ∈ T, x < 16777216
  cnt : T.length + st.length = s.stk.length
  keeps : Keeps g w0 Ap Ag wr Ap Ag
section
variable {w0 wr : World} {g gp : Nat} {Y N T st : List Nat} {n tq a b : Nat} {r : List Nat} {s : GW} {Ap Ag : Option Addr} {cp cg : Nat}
theorem JAt.start (h : GWAt wr g Y N n s Ap cp Ag cg) (hto : ∃ x ∈ s.stk, has x tq) : JAt wr wr g Y N n s Ap cp Ag cg tq s.stk [] :=
  ⟨h.len, h.blk, by rw [List.append_nil]; exact h.path, h.groups, h.apart, h.lim, rfl, hto, h.lim.stk, rfl, Keeps.refl _ _ _ _⟩
theorem JAt.cellPath (h : JAt w0 wr g Y N n s Ap cp Ag cg tq T st) : wr.cell? ⟨g, 51, none⟩ = some (.slice Ap s.stk.length cp) := by
  rw [h.blk.cell 51, List.getElem?_toArray]; exact gwList_tail h.len 3
theorem JAt.at_ (h : JAt w0 wr g Y N n s (some ⟨gp, 0, none⟩) cp Ag cg tq T st) {j x : Nat} (hj : (T.reverse ++ st)[j]? = some x) : wr.cell? ⟨gp, j, none⟩ = some (.int .u64 ((x : Nat) : Int)) := by
  have hl : j < (T.reverse ++ st).length := by
    rcases Nat.lt_or_ge j (T.reverse ++ st).length with h | h
    · exact h
    · rw [List.getElem?_eq_none h] at hj; cases hj
  have h1 := h.path.cellAt j (by have := h.cnt; simp at hl; omega)
  rw [h1, List.getElem?_map, hj]
  rfl
theorem JAt.step (h : JAt w0 wr g Y N n s (some ⟨gp, 0, none⟩) cp Ag cg tq (a :: b :: r) st) (hn : a.testBit tq = false) : JAt w0 (wr.setCell ⟨gp, r.length, none⟩ (wd64 (b ||| a))) g Y N n s (some ⟨gp, 0, none⟩) cp Ag cg tq ((b ||| a) :: r) (a :: st) := by
  have hgp := h.path.lt gp rfl
  have hk : ∀ k, k ≠ gp → (wr.setCell ⟨gp, r.length, none⟩ (wd64 (b ||| a))).heap[k]? = wr.heap[k]? := fun k hk => Below.heap_setCell _ _ _ k hk
  have hne : ∀ k, (Value.slice Ag s.groups.length cg).ownBlock = some k → k ≠ gp := fun k hk' e => h.apart gp rfl (by rw [hk', e])
  refine ⟨h.len, (hk g (by omega)).trans h.blk, ?_, ownsRow_only h.groups fun k hk' => hk k (hne k hk'), h.apart, h.lims, ?_, ?_, fun x hx => ?_, ?_, ⟨h.keeps.below.setCell (by show g ≤ gp; omega) _, fun k h1 h2 h3 h4 => (hk k (fun e => h3 (by rw [e]; rfl))).trans (h.keeps.keep k h1 h2 h3 h4), h.keeps.pa, h.keeps.ga⟩⟩
  · have h1 := (h.path.stored r.length (wd64 (b ||| a))).1
    have e : (((a :: b :: r).reverse ++ st).map wd64).set r.length (wd64 (b ||| a)) = ((((b ||| a) :: r).reverse ++ a :: st).map wd64) := by
      rw [← List.map_set]
      congr 1
      simp only [List.reverse_cons, List.append_assoc]
      rw [List.set_append_right _ _ (by simp)]
      simp
    rw [e] at h1
    exact h1
  · rw [← h.eq]
    conv => rhs; rw [joinR, if_neg (by rw [hn]; exact Bool.false_ne_true)]
  · obtain ⟨x, hx, hx2⟩ := h.hasT
    rcases List.mem_cons.1 hx with rfl | hx
    · unfold has at hx2
      rw [hn] at hx2
      cases hx2
    · rcases List.mem_cons.1 hx with rfl | hx
      · exact ⟨_, List.mem_cons_self .., has_or.2 (.inl hx2)⟩
      · exact ⟨x, List.mem_cons_of_mem _ hx, hx2⟩
  · rcases List.mem_cons.1 hx with rfl | hx
    · exact Nat.or_lt_two_pow (n := 24) (h.lim b (by simp)) (h.lim a (by simp))
    · exact h.lim x (by simp [hx])
  · have := h.cnt
    simp only [List.length_cons] at this ⊢
    omega
theorem joinR_stop {tq a : Nat} {r : List Nat} (h : a.testBit tq = true) : joinR tq (a :: r) = a :: r := by
  cases r with
  | nil => simp [joinR]
  | cons b r => rw [joinR, if_pos h]
theorem JAt.done (h : JAt w0 wr g Y N n s (some ⟨gp, 0, none⟩) cp Ag cg tq (a :: r) st) (ha : a.testBit tq = true) :
    GWAt (wr.setCell ⟨g, 51, none⟩ (.slice (some ⟨gp, 0, none⟩) (r.length + 1) cp)) g Y N n { s with stk := joinR tq s.stk } (some ⟨gp, 0, none⟩) cp Ag cg ∧ Keeps g w0 (some ⟨gp, 0, none⟩) Ag (wr.setCell ⟨g, 51, none⟩ (.slice (some ⟨gp, 0, none⟩) (r.length + 1) cp)) (some ⟨gp, 0, none⟩) Ag := by
  have e : joinR tq s.stk = a :: r := by rw [← h.eq, joinR_stop ha]
  have hcnt := h.cnt
  simp only [List.length_cons] at hcnt
  have hgp := h.path.lt gp rfl
  have hk : ∀ k, k ≠ g → (wr.setCell ⟨g, 51, none⟩ (.slice (some ⟨gp, 0, none⟩) (r.length + 1) cp)).heap[k]? = wr.heap[k]? := fun k hk => Below.heap_setCell _ _ _ k hk
  refine ⟨⟨h.len, ?_, ?_, ownsRow_only h.groups fun k hk' => hk k (by have := (h.groups.lt k hk').1; omega), ?_, ?_⟩, h.keeps.setG _ _⟩
  · show Blk _ g 73 (gwList Y N n s.met s.done (.slice (some ⟨gp, 0, none⟩) (joinR tq s.stk).length cp) (.slice Ag s.groups.length cg) s.group s.reach).toArray
    rw [e]
    have h1 := h.blk.set_ 51 (.slice (some ⟨gp, 0, none⟩) (r.length + 1) cp)
    have h2 := gwList_setPath (n := n) (met := s.met) (done := s.done) (vp := .slice (some ⟨gp, 0, none⟩) s.stk.length cp) (vg := .slice Ag s.groups.length cg) (u := .slice (some ⟨gp, 0, none⟩) (r.length + 1) cp) h.len
    simp only [List.setIfInBounds_toArray, h2] at h1
    exact h1
  · show World.ownsRow _ (g + 1) 67 1 (.slice (some ⟨gp, 0, none⟩) (joinR tq s.stk).length cp) (joinR tq s.stk).length ((joinR tq s.stk).reverse.map wd64)
    rw [e]
    obtain ⟨hl, hr⟩ := ownsRow_only (w' := wr.setCell ⟨g, 51, none⟩ (.slice (some ⟨gp, 0, none⟩) (r.length + 1) cp)) h.path fun k hk' => hk k (by have := (h.path.lt k hk').1; omega)
    rcases hr with ⟨e1, _⟩ | ⟨g', cap, cur, e1, hb, hg, h1, h2, h3, h4⟩
    · cases e1
    · injection e1 with e1 e2 e3
      subst e3
      refine ⟨by simp, .inr ⟨g', cp, cur, by rw [e1], hb, hg, by simp; omega, h2, h3, ?_⟩⟩
      have h5 := congrArg (fun l => l.take (a :: r).length) h4
      simp only [List.take_take] at h5
      rw [show min (a :: r).length (s.stk.length * 1) = (a :: r).length * 1 by simp; omega] at h5
      rw [h5, List.map_append, List.take_append_of_le_length (by simp), List.take_of_length_le (by simp)]
  · show ∀ b, (Value.slice (some ⟨gp, 0, none⟩) (joinR tq s.stk).length cp).ownBlock = some b → _
    intro b hb
    exact h.apart b hb
  · exact ⟨h.lims.met, h.lims.done, by show ∀ x ∈ joinR tq s.stk, _; rw [e]; exact h.lim, h.lims.groups, h.lims.reach, by show (joinR tq s.stk).length ≤ 24; rw [e]; have := h.lims.stkN; simp; omega, h.lims.groupsN⟩
end

set_option maxHeartbeats 4000000 in
set_option maxRecDepth 100000 in
theorem joinBack_any (g n tq : Nat) (Y N : List Nat) (s : GW) (Ap : Option Addr) (cp : Nat) (Ag : Option Addr) (cg : Nat) (w : World) (h : GWAt w g Y N n s Ap cp Ag cg) (hto : ∃ x ∈ s.stk, has x tq) (hto24 : tq < 24) :
    Calls Tryd.prog 92 #[.pointer (some ⟨g, 0, none⟩), .int .i64 tq] w fun e w' => e = .returned (.tuple #[]) ∧ GWAt w' g Y N n { s with stk := joinR tq s.stk } Ap cp Ag cg ∧ Keeps g w Ap Ag w' Ap Ag := by
  have hpos : 0 < s.stk.length := by
    obtain ⟨x, hx, _⟩ := hto
    exact List.length_pos_of_mem hx
  have hsn := h.lim.stkN
  obtain ⟨gp, rfl⟩ : ∃ gp, Ap = some ⟨gp, 0, none⟩ := by
    obtain ⟨g2, cap, e, _⟩ := h.path.form hpos
    injection e with e1 _ _
    exact ⟨g2, e1⟩
  have HS := Lib.hid (JAt.start h hto)
  have k51 := h.cellPath
  obtain ⟨m, hm, hm2⟩ : ∃ m : Nat, IntKind.i64.wrap ((s.stk.length : Int) - 1) = (m : Int) ∧ m + 1 = s.stk.length := ⟨s.stk.length - 1, by unfold IntKind.wrap; simp [IntKind.bits, IntKind.signed]; omega, by omega⟩
  have HM := Lib.hid hm2
  obtain ⟨n0, hn0⟩ : ∃ n0, n0 = s.stk.length := ⟨_, rfl⟩
  have HN := Lib.hid hn0
  rw [← hn0] at k51 hm hsn
  clear h hto hm2 hpos hn0
  go_enter Tryd.func92, Tryd.ntmps92
  go_wp2_with (fail)
  go_loopw [4] (fun i wr => ∃ (T st : List Nat) (l : Nat), i = .int .i64 l ∧ l + 1 = T.length ∧ JAt w wr g Y N n s (some ⟨gp, 0, none⟩) cp Ag cg tq T st) (fun i _ => (intOf i).toNat)
  case atStart => exact ⟨s.stk, [], m, rfl, HM.out, HS.out⟩
  case round =>
    obtain ⟨T, st, l, rfl, hl, hj⟩ := hrel
    have HJ := Lib.hid hj
    have hcnt := hj.cnt
    rw [← HN.out] at hcnt
    have hgl : g < wr.heap.size := Blk.lt hj.blk
    have k51 : wr.cell? ⟨g, 51, none⟩ = some (.slice (some ⟨gp, 0, none⟩) n0 cp) := by rw [HN.out]; exact hj.cellPath
    have hgp : gp < wr.heap.size := (hj.path.lt gp rfl).2
    cases T with
    | nil => simp at hl
    | cons a r =>
      have hla : l = r.length := by simpa using hl
      have ha24 := hj.lim a (by simp)
      have q1 : wr.cell? ⟨gp, l, none⟩ = some (.int .u64 ((a : Nat) : Int)) := hj.at_ (by rw [hla]; simp)
      have hli : decide ((l : Int) < (n0 : Int)) = true := by rw [decide_eq_true_eq]; simp at hcnt; omega
      have hln : l < n0 := by simp at hcnt; omega
      obtain ⟨hb, hhb⟩ : ∃ hb, hb = a.testBit tq := ⟨_, rfl⟩
      have HHB := Lib.hid hhb
      have CB := Lib.hid ((hasBit_any a tq (by omega) (by omega) wr).mono fun e w' (hh : e = .returned (.bool (a.testBit tq)) ∧ wr = w') => (⟨by rw [hh.1, hhb], hh.2⟩ : e = .returned (.bool hb) ∧ wr = w'))
      have HLA := Lib.hid hla
      have HCN := Lib.hid hcnt
      clear hj hhb hl hcnt
      cases hb
      · cases r with
        | nil =>
          obtain ⟨x, hx, hx2⟩ := HJ.out.hasT
          have e : x = a := by simpa using hx
          subst e
          unfold has at hx2
          rw [← HHB.out] at hx2
          cases hx2
        | cons b r =>
        have hb24 := HJ.out.lim b (by simp)
        obtain ⟨l', rfl⟩ : ∃ l', l = l' + 1 := ⟨r.length, by simpa using hla⟩
        have hlr : l' = r.length := by simpa using hla
        have HLR := Lib.hid hlr
        have q2 : wr.cell? ⟨gp, l', none⟩ = some (.int .u64 ((b : Nat) : Int)) := HJ.out.at_ (by rw [hlr]; simp [List.getElem?_append_right])
        have hor : bits .or .u64 (b : Int) (a : Int) = ((b ||| a : Nat) : Int) := u64_or_nat b a (by omega) (by omega)
        have hwl : IntKind.i64.wrap (((l' + 1 : Nat) : Int) - 1) = (l' : Int) := by
          unfold IntKind.wrap
          simp [IntKind.bits, IntKind.signed]
          omega
        have hwl2 : IntKind.i64.wrap (l' : Int) = (l' : Int) := by
          unfold IntKind.wrap
          simp [IntKind.bits, IntKind.signed]
          omega
        have hln2 : l' < n0 := by omega
        have hge3 : (0 : Int) ≤ (l' : Int) + 1 := by omega
        have hlt3 : (l' : Int) + 1 < (n0 : Int) := by omega
        have hli' : decide ((l' : Int) < (n0 : Int)) = true := by rw [decide_eq_true_eq]; omega
        have HST := Lib.hid (show JAt w (wr.drew.setCell ⟨gp, l', none⟩ (.int .u64 ((b ||| a : Nat) : Int))) g Y N n s (some ⟨gp, 0, none⟩) cp Ag cg tq ((b ||| a) :: r) (a :: st) from by
          have hd : JAt w wr.drew g Y N n s (some ⟨gp, 0, none⟩) cp Ag cg tq (a :: b :: r) st := ⟨HJ.out.len, HJ.out.blk, HJ.out.path, HJ.out.groups, HJ.out.apart, HJ.out.lims, HJ.out.eq, HJ.out.hasT, HJ.out.lim, HJ.out.cnt, HJ.out.keeps.trans (Keeps.of_below (Below.refl _ _).drew (Nat.le_of_lt hgl))⟩
          rw [hlr]
          exact hd.step HHB.out.symm)
        clear hla hlr
        obtain ⟨SS, hSS⟩ : ∃ SS : World → Prop, SS = (fun W => W.cell? ⟨g, 51, none⟩ = some (.slice (some ⟨gp, 0, none⟩) n0 cp) ∧ W.cell? ⟨gp, l', none⟩ = some (.int .u64 ((b : Nat) : Int)) ∧ W.cell? ⟨gp, l' + 1, none⟩ = some (.int .u64 ((a : Nat) : Int))) := ⟨_, rfl⟩
        have HB := Lib.hid (show ∀ W, SS W → W.cell? ⟨g, 51, none⟩ = some (.slice (some ⟨gp, 0, none⟩) n0 cp) ∧ W.cell? ⟨gp, l', none⟩ = some (.int .u64 ((b : Nat) : Int)) ∧ W.cell? ⟨gp, l' + 1, none⟩ = some (.int .u64 ((a : Nat) : Int)) from by rw [hSS]; exact fun W hW => hW)
        have SB : SS wr.drew := by rw [hSS]; exact ⟨k51, q2, q1⟩
        have q3 : wr.drew.cell? ⟨gp, l', none⟩ = some (.int .u64 ((b : Nat) : Int)) := q2
        have q4 : wr.drew.frozen? ⟨gp, l', none⟩ = false := HJ.out.path.frozenAt l'
        have q5 : wr.frozen? ⟨gp, l', none⟩ = false := HJ.out.path.frozenAt l'
        clear hSS
        go_upto_region 2 with (go_at_call 48; refine CB.out.mono ?_; rintro e w' ⟨rfl, rfl⟩)
        refine wp_region_rel SS 17 18 (by kernel_rfl) rfl ?_
        refine wpAnyR_pure (i := 0) (oi := _) ?v0 rfl rfl (by kernel_rfl) (by decide) (fun _ _ _ h => h) rfl ?hy0 (fun _ => SB) ?rest0
        case hy0 => (intro W; go_simp; (try with_reducible rfl))
        try simp only [List.setIfInBounds_toArray, List.set_cons_zero, List.set_cons_succ]
        refine wpAnyR_pure (i := 1) (oi := _) ?v1 rfl rfl (by kernel_rfl) (by decide) (fun _ _ _ h => h) rfl ?hy1 (fun _ => SB) ?rest1
        case hy1 => (intro W; go_simp; (try with_reducible rfl))
        try simp only [List.setIfInBounds_toArray, List.set_cons_zero, List.set_cons_succ]
        refine wpAnyR_pure (i := 2) (oi := _) ?v2 rfl rfl (by kernel_rfl) (by decide) (fun _ _ _ h => h) rfl ?hy2 (fun _ => SB) ?rest2
        case hy2 => (intro W; go_simp; (try with_reducible rfl))
        try simp only [List.setIfInBounds_toArray, List.set_cons_zero, List.set_cons_succ]
        refine wpAnyR_pure (i := 4) (oi := _) ?v4 rfl rfl (by kernel_rfl) (by decide) (fun _ _ _ h => h) rfl ?hy4 (fun _ => SB) ?rest4
        case hy4 => (intro W; go_simp; (try with_reducible rfl))
        try simp only [List.setIfInBounds_toArray, List.set_cons_zero, List.set_cons_succ]
        refine wpAnyR_pure (i := 5) (oi := _) ?v5 rfl rfl (by kernel_rfl) (by decide) (fun _ _ _ h => h) rfl ?hy5 (fun _ => SB) ?rest5
        case hy5 => (intro W; go_simp; (try with_reducible rfl))
        try simp only [List.setIfInBounds_toArray, List.set_cons_zero, List.set_cons_succ]
        refine wpAnyR_pure (i := 8) (oi := _) ?v8 rfl rfl (by kernel_rfl) (by decide) (fun _ _ _ h => h) rfl ?hy8 (fun _ => SB) ?rest8
        case hy8 => (intro W; go_simp; (try with_reducible rfl))
        try simp only [List.setIfInBounds_toArray, List.set_cons_zero, List.set_cons_succ]
        refine wpAnyR_pure (i := 9) (oi := _) ?v9 rfl rfl (by kernel_rfl) (by decide) (fun _ _ _ h => h) rfl ?hy9 (fun _ => SB) ?rest9
        case hy9 => (intro W; go_simp; (try with_reducible rfl))
        try simp only [List.setIfInBounds_toArray, List.set_cons_zero, List.set_cons_succ]
        refine wpAnyR_pure (i := 10) (oi := _) ?v10 rfl rfl (by kernel_rfl) (by decide) (fun _ _ _ h => h) rfl ?hy10 (fun _ => SB) ?rest10
        case hy10 => (intro W; go_simp; (try with_reducible rfl))
        try simp only [List.setIfInBounds_toArray, List.set_cons_zero, List.set_cons_succ]
        refine wpAnyR_pure (i := 12) (oi := _) ?v12 rfl rfl (by kernel_rfl) (by decide) (fun _ _ _ h => h) rfl ?hy12 (fun _ => SB) ?rest12
        case hy12 => (intro W; go_simp; (try with_reducible rfl))
        try simp only [List.setIfInBounds_toArray, List.set_cons_zero, List.set_cons_succ]
        refine wpAnyR_take (i := 3) (oi := _) ?v3 rfl rfl (by kernel_rfl) (fun _ _ _ h => h) rfl ?hy3 SB ?rest3
        case hy3 => (intro W hW; obtain ⟨E0, E1, E2⟩ := HB.out W hW; go_simp; (try with_reducible rfl))
        try simp only [List.setIfInBounds_toArray, List.set_cons_zero, List.set_cons_succ]
        refine wpAnyR_take (i := 11) (oi := _) ?v11 rfl rfl (by kernel_rfl) (fun _ _ _ h => h) rfl ?hy11 SB ?rest11
        case hy11 => (intro W hW; obtain ⟨E0, E1, E2⟩ := HB.out W hW; go_simp; (try with_reducible rfl))
        try simp only [List.setIfInBounds_toArray, List.set_cons_zero, List.set_cons_succ]
        refine wpAnyR_pure (i := 6) (oi := _) ?v6 rfl rfl (by kernel_rfl) (by decide) (fun _ _ _ h => h) rfl ?hy6 (fun _ => SB) ?rest6
        case hy6 => (intro W; go_simp; (try with_reducible rfl))
        try simp only [List.setIfInBounds_toArray, List.set_cons_zero, List.set_cons_succ]
        refine wpAnyR_pure (i := 13) (oi := _) ?v13 rfl rfl (by kernel_rfl) (by decide) (fun _ _ _ h => h) rfl ?hy13 (fun _ => SB) ?rest13
        case hy13 => (intro W; go_simp; (try with_reducible rfl))
        try simp only [List.setIfInBounds_toArray, List.set_cons_zero, List.set_cons_succ]
        refine wpAnyR_take (i := 7) (oi := _) ?v7 rfl rfl (by kernel_rfl) (fun _ _ _ h => h) rfl ?hy7 SB ?rest7
        case hy7 => (intro W hW; obtain ⟨E0, E1, E2⟩ := HB.out W hW; go_simp; (try with_reducible rfl))
        try simp only [List.setIfInBounds_toArray, List.set_cons_zero, List.set_cons_succ]
        refine wpAnyR_take (i := 14) (oi := _) ?v14 rfl rfl (by kernel_rfl) (fun _ _ _ h => h) rfl ?hy14 SB ?rest14
        case hy14 => (intro W hW; obtain ⟨E0, E1, E2⟩ := HB.out W hW; go_simp; (try with_reducible rfl))
        try simp only [List.setIfInBounds_toArray, List.set_cons_zero, List.set_cons_succ]
        refine wpAnyR_pure (i := 15) (oi := _) (.int .u64 (((b ||| a : Nat)) : Int)) rfl rfl (by kernel_rfl) (by decide) (fun _ _ _ h => h) rfl ?hy15 (fun _ => SB) ?rest15
        case hy15 => (intro W; go_simp; (try simp))
        try simp only [List.setIfInBounds_toArray, List.set_cons_zero, List.set_cons_succ]
        refine wpAnyR_pure (i := 16) (oi := _) ?v16 rfl rfl (by kernel_rfl) (by decide) (fun _ _ _ h => h) rfl ?hy16 (fun _ => SB) ?rest16
        case hy16 => (intro W; go_simp; (try with_reducible rfl))
        try simp only [List.setIfInBounds_toArray, List.set_cons_zero, List.set_cons_succ]
        refine wpAnyR_one (i := 17) (by kernel_rfl) rfl (fun K hK => ?_)
        go_simp
        refine hK.out _ _ (fun hf => absurd hf (by decide)) ?_
        clear hK K
        refine wpAnyR_done (by kernel_rfl) ?_
        go_wp2_with (fail)
        go_roundw
        case rel => exact ⟨(b ||| a) :: r, a :: st, l', by first | rfl | go_num, by simp [HLR.out], HST.out⟩
        case measure => simp [intOf]
      · have HD := Lib.hid (HJ.out.done HHB.out.symm)
        have hcp : n0 ≤ cp := by
          rcases HJ.out.path.2 with ⟨e, _⟩ | ⟨g', cap, cur, e, _, _, h1, _⟩
          · cases e
          · injection e with _ _ e3
            rw [HN.out, e3]
            exact h1
        have hwl : IntKind.i64.wrap ((l : Int) + 1) = ((l + 1 : Nat) : Int) := by
          unfold IntKind.wrap
          simp [IntKind.bits, IntKind.signed]
          omega
        have f51 : wr.frozen? ⟨g, 51, none⟩ = false := HJ.out.blk.frozen 51
        have hlc : l + 1 ≤ cp := by omega
        have hlr : r.length + 1 = l + 1 := by omega
        rw [hlr] at HD
        clear hlr hla
        go_wp2_with (go_at_call 48; refine CB.out.mono ?_; rintro e w' ⟨rfl, rfl⟩)
        go_end0
        exact ⟨rfl, HD.out⟩

end Go.Proofs.YtokmmloakahkhaaDoor
/-
  What the walk over groups keeps, for its walk in memory: plain mathematics.
-/
namespace Go.Proofs.YtokmmloakahkhaaDoor
open Go.RowKit

theorem apart_cnt {n : Nat} : ∀ (l : List Nat) (m : Nat), l.Pairwise Apart → (∀ g ∈ l, ∃ q, has g q) → (∀ g ∈ l, ∀ q, has g q → q < n) → (∀ g ∈ l, Apart m g) → l.length ≤ cntU n m
  | [], m, _, _, _, _ => Nat.zero_le _
  | a :: l, m, h1, h2, h3, h4 => by
    rw [List.pairwise_cons] at h1
    obtain ⟨q, hq⟩ := h2 a (List.mem_cons_self ..)
    have hlt := cntU_less (n := n) (v := q) (a := m) (b := m ||| a) (fun x hx => has_or.2 (.inl hx)) (h3 a (List.mem_cons_self ..) q hq) (fun hm => h4 a (List.mem_cons_self ..) q hm hq) (has_or.2 (.inr hq))
    have ih := apart_cnt l (m ||| a) h1.2 (fun g hg => h2 g (List.mem_cons_of_mem _ hg)) (fun g hg => h3 g (List.mem_cons_of_mem _ hg)) (fun g hg x hx hgx => (has_or.1 hx).elim (fun h => h4 g (List.mem_cons_of_mem _ hg) x h hgx) fun h => h1.1 g hg x h hgx)
    simp only [List.length_cons]
    omega
theorem cntU_le (n m : Nat) : cntU n m ≤ n := by
  unfold cntU
  exact Nat.le_trans (List.length_filter_le _ _) (by simp)
section
variable {ask : Nat → Nat} {n v tq : Nat} {s S : GW} {X : List Nat}
theorem Inv.stkN (h : Inv ask n s) : s.stk.length ≤ n :=
  Nat.le_trans (apart_cnt s.stk s.done h.apart h.some (fun g hg q hq => h.lim q ((h.sub q).2 (.inr ⟨g, hg, hq⟩))) h.off) (cntU_le _ _)
theorem Inv.groupsN (h : Inv ask n s) : s.groups.length ≤ n :=
  Nat.le_trans (apart_cnt s.groups 0 h.apartG (fun g hg => (h.own g hg).1) (fun g hg q hq => h.lim q ((h.sub q).2 (.inl ((h.told q).2 ⟨g, hg, hq⟩)))) (fun _ _ x hx _ => not_has_zero x hx)) (cntU_le _ _)
theorem Mid.lead (h : Mid ask n v s S X) (hto : has (ask v) tq) : ∀ g ∈ S.stk, ∀ u, has g u → Rch ask u tq := by
  obtain ⟨t, pre, rest, e1, e2, e3, e4, e5⟩ := h.stk
  exact fun g hg u hu => (h.inv.toStk.up e2 hg u v hu e3).rch (.one hto)
theorem Mid.top (h : Mid ask n v s S X) (hl : s.stk.length < S.stk.length) : ∃ t, S.stk = t :: s.stk := by
  obtain ⟨t, pre, rest, e1, e2, e3, e4, e5⟩ := h.stk
  cases pre with
  | nil => exact ⟨t, by rw [e2, e1]; rfl⟩
  | cons a pre =>
    rw [e1, e2] at hl
    simp at hl
    omega
end
theorem lim24 {n x : Nat} (h : n ≤ 24) (hx : ∀ q, has x q → q < n) : x < 16777216 := by
  apply Nat.lt_of_not_le
  intro hge
  obtain ⟨i, hi, hb⟩ := Nat.exists_ge_and_testBit_of_ge_two_pow (n := 24) (by simpa using hge)
  have := hx i hb
  omega
theorem pow24 {v : Nat} (hv : v < 24) : (2 : Nat) ^ v < 16777216 := by
  have : (2 : Nat) ^ v < 2 ^ 24 := Nat.pow_lt_pow_right (by decide) hv
  simpa using this
theorem askF_limit {Y N : List Nat} (h : AskLim Y N) (hy : Y.length = 24) (hn : N.length = 24) (p : Nat) : askF Y N p < 16777216 := by
  unfold askF
  by_cases hp : p < 24
  · exact or24 (h.y p hp) (h.n p hp)
  · rw [List.getD_eq_getElem?_getD, List.getD_eq_getElem?_getD, List.getElem?_eq_none (by omega), List.getElem?_eq_none (by omega)]
    decide

theorem Tab.keeps {w w' : World} {g : Nat} {Ap Ag Ap' Ag' : Option Addr} (h : Tab w) (hg : 1 < g) (k : Keeps g w Ap Ag w' Ap' Ag') : Tab w' :=
  ⟨fun j hj => (k.below.cell (p := ⟨1, j, none⟩) hg).trans (h.1 j hj), Nat.lt_of_lt_of_le h.2 k.below.size⟩
theorem GWAt.drew {w : World} {g : Nat} {Y N : List Nat} {n : Nat} {s : GW} {Ap Ag : Option Addr} {cp cg : Nat} (h : GWAt w g Y N n s Ap cp Ag cg) : GWAt w.drew g Y N n s Ap cp Ag cg := h.on (Below.refl _ _).drew
theorem Keeps.drew {w w1 : World} {g : Nat} {Ap Ag Ap1 Ag1 : Option Addr} (h : Keeps g w Ap Ag w1 Ap1 Ag1) : Keeps g w Ap Ag w1.drew Ap1 Ag1 := ⟨h.below.drew, h.keep, h.pa, h.ga⟩

end Go.Proofs.YtokmmloakahkhaaDoor
/-
  The walk of visit.
-/
namespace Go.Proofs.YtokmmloakahkhaaDoor
open Go.RowKit

set_option maxHeartbeats 4000000 in
set_option maxRecDepth 100000 in
theorem visit_any (g n : Nat) (Y N : List Nat) (hn : n ≤ 24) (hask : ∀ u x, has (askF Y N u) x → x < n) (hA : AskLim Y N) (hG : 1 < g) : ∀ (f v : Nat) (s : GW) (Ap : Option Addr) (cp : Nat) (Ag : Option Addr) (cg : Nat) (w : World), GWAt w g Y N n s Ap cp Ag cg → Inv (askF Y N) n s → v < n → ¬ has s.met v → (∀ x ∈ s.stk, ∀ u, has x u → Rch (askF Y N) u v) → cntU n s.met ≤ f → Tab w →
    Calls Tryd.prog 71 #[.pointer (some ⟨g, 0, none⟩), .int .i64 v] w fun e w' => e = .returned (.tuple #[]) ∧ ∃ Ap' cp' Ag' cg', GWAt w' g Y N n (visitF (askF Y N) f v s) Ap' cp' Ag' cg' ∧ Keeps g w Ap Ag w' Ap' Ag' := by
  intro f
  induction f with
  | zero =>
    intro v s Ap cp Ag cg w h hi hv hm hl hc hT
    have := cntU_less (n := n) (v := v) (a := s.met) (b := s.met ||| 2 ^ v) (fun q hq => has_or.2 (.inl hq)) hv hm (has_or.2 (.inr (has_pow.2 rfl)))
    omega
  | succ f ih =>
  intro v s Ap cp Ag cg w h hi hv hm hl hc hT
  obtain ⟨i0, hi0, hz0, hz1, hz2⟩ := info_parts Tryd.infoUint
  have IH := Lib.hid ih
  have HI := Lib.hid hi
  have HMV := Lib.hid hm
  have HL := Lib.hid hl
  have HC := Lib.hid hc
  have HT := Lib.hid hT
  have HA := Lib.hid hA
  have HASK := Lib.hid hask
  have HGT := Lib.hid hG
  have hv24 : v < 24 := by omega
  have hgl := h.lt
  have HB0 := Lib.hid (Mid.begin hi hv hm hl)
  have hlen : s.stk.length < 24 := by
    have := HB0.out.inv.stkN
    have e : (beginF v s).stk.length = s.stk.length + 1 := rfl
    omega
  obtain ⟨n0, hn0⟩ : ∃ n0, n0 = s.stk.length := ⟨_, rfl⟩
  have HN := Lib.hid hn0
  rw [← hn0] at hlen
  obtain ⟨m1, hm1⟩ : ∃ m1, m1 = s.met ||| 2 ^ v := ⟨_, rfl⟩
  have hpv := pow24 hv24
  have hmet := h.lim.met
  have hm24 : m1 < 16777216 := by rw [hm1]; exact or24 hmet hpv
  have hcast : ((2 : Int) ^ v) = ((2 ^ v : Nat) : Int) := by simp
  have hor : bits .or .u64 (s.met : Int) ((2 : Int) ^ v) = (m1 : Int) := by
    rw [hm1, hcast]
    exact u64_or_nat _ _ (by omega) (by omega)
  have hwv : IntKind.u64.wrap ((2 : Int) ^ v) = (2 : Int) ^ v := by
    rw [hcast]
    generalize (2 ^ v : Nat) = z at hpv
    unfold IntKind.wrap
    simp [IntKind.bits, IntKind.signed]
    omega
  have HM1 := Lib.hid hm1
  obtain ⟨x0, hx0⟩ : ∃ x0, x0 = s.met := ⟨_, rfl⟩
  rw [← hx0] at hor
  have k49 : w.cell? ⟨g, 49, none⟩ = some (.int .u64 ((x0 : Nat) : Int)) := by rw [hx0]; exact h.cellMet
  have f49 : w.drew.frozen? ⟨g, 49, none⟩ = false := h.blk.frozen 49
  have HW := Lib.hid h
  clear h hi hm hl hc hT hA hask hG hm1 hx0 hn0 ih hmet hcast
  go_enter Tryd.func71, Tryd.ntmps71
  go_upto_region 0 with fail
  obtain ⟨SS, hSS⟩ : ∃ SS : World → Prop, SS = (fun W => W.cell? ⟨g, 49, none⟩ = some (.int .u64 ((x0 : Nat) : Int))) := ⟨_, rfl⟩
  have HB := Lib.hid (show ∀ W, SS W → W.cell? ⟨g, 49, none⟩ = some (.int .u64 ((x0 : Nat) : Int)) from by rw [hSS]; exact fun W hW => hW)
  have SB : SS w.drew := by rw [hSS]; exact k49
  have d49 : w.drew.cell? ⟨g, 49, none⟩ = some (.int .u64 ((x0 : Nat) : Int)) := k49
  clear hSS
  refine wp_region_rel SS 9 10 (by kernel_rfl) rfl ?_
  refine wpAnyR_pure (i := 0) (oi := _) ?va0 rfl rfl (by kernel_rfl) (by decide) (fun _ _ _ h => h) rfl ?hya0 (fun _ => SB) ?resta0
  case hya0 => (intro W; go_simp; (try with_reducible rfl))
  try simp only [List.setIfInBounds_toArray, List.set_cons_zero, List.set_cons_succ]
  refine wpAnyR_pure (i := 1) (oi := _) ?va1 rfl rfl (by kernel_rfl) (by decide) (fun _ _ _ h => h) rfl ?hya1 (fun _ => SB) ?resta1
  case hya1 => (intro W; go_simp; (try with_reducible rfl))
  try simp only [List.setIfInBounds_toArray, List.set_cons_zero, List.set_cons_succ]
  refine wpAnyR_pure (i := 2) (oi := _) ?va2 rfl rfl (by kernel_rfl) (by decide) (fun _ _ _ h => h) rfl ?hya2 (fun _ => SB) ?resta2
  case hya2 => (intro W; go_simp; (try with_reducible rfl))
  try simp only [List.setIfInBounds_toArray, List.set_cons_zero, List.set_cons_succ]
  refine wpAnyR_pure (i := 4) (oi := _) ?va4 rfl rfl (by kernel_rfl) (by decide) (fun _ _ _ h => h) rfl ?hya4 (fun _ => SB) ?resta4
  case hya4 => (intro W; go_simp; (try with_reducible rfl))
  try simp only [List.setIfInBounds_toArray, List.set_cons_zero, List.set_cons_succ]
  refine wpAnyR_pure (i := 5) (oi := _) ?va5 rfl rfl (by kernel_rfl) (by decide) (fun _ _ _ h => h) rfl ?hya5 (fun _ => SB) ?resta5
  case hya5 => (intro W; go_simp; (try with_reducible rfl))
  try simp only [List.setIfInBounds_toArray, List.set_cons_zero, List.set_cons_succ]
  refine wpAnyR_take (i := 3) (oi := _) ?va3 rfl rfl (by kernel_rfl) (fun _ _ _ h => h) rfl ?hya3 SB ?resta3
  case hya3 => (intro W hW; obtain E0 := HB.out W hW; go_simp; (try with_reducible rfl))
  try simp only [List.setIfInBounds_toArray, List.set_cons_zero, List.set_cons_succ]
  refine wpAnyR_pure (i := 6) (oi := _) (.int .u64 (m1 : Int)) rfl rfl (by kernel_rfl) (by decide) (fun _ _ _ h => h) rfl ?hya6 (fun _ => SB) ?resta6
  case hya6 => (intro W; go_simp; (try simp))
  try simp only [List.setIfInBounds_toArray, List.set_cons_zero, List.set_cons_succ]
  refine wpAnyR_pure (i := 7) (oi := _) ?va7 rfl rfl (by kernel_rfl) (by decide) (fun _ _ _ h => h) rfl ?hya7 (fun _ => SB) ?resta7
  case hya7 => (intro W; go_simp; (try with_reducible rfl))
  try simp only [List.setIfInBounds_toArray, List.set_cons_zero, List.set_cons_succ]
  refine wpAnyR_pure (i := 8) (oi := _) ?va8 rfl rfl (by kernel_rfl) (by decide) (fun _ _ _ h => h) rfl ?hya8 (fun _ => SB) ?resta8
  case hya8 => (intro W; go_simp; (try with_reducible rfl))
  try simp only [List.setIfInBounds_toArray, List.set_cons_zero, List.set_cons_succ]
  refine wpAnyR_one (i := 9) (by kernel_rfl) rfl (fun K hK => ?_)
  go_simp
  refine hK.out _ _ (fun hf => absurd hf (by decide)) ?_
  clear hK K
  refine wpAnyR_done (by kernel_rfl) ?_
  obtain ⟨w1, hw1⟩ : ∃ w1, w1 = (w.setCell ⟨g, 49, none⟩ (.int .u64 (m1 : Int))).drew := ⟨_, rfl⟩
  have H1 := Lib.hid (show GWAt w1 g Y N n { s with met := m1 } Ap cp Ag cg ∧ Keeps g w Ap Ag w1 Ap Ag from by
    rw [hw1]
    exact ⟨(HW.out.setMet hm24).drew, ((Keeps.refl g w Ap Ag).setG _ _).drew⟩)
  rw [← hw1]
  clear hw1
  have hg1 : g < w1.heap.size := H1.out.1.lt
  have k51 : w1.cell? ⟨g, 51, none⟩ = some (.slice Ap n0 cp) := by rw [HN.out]; exact H1.out.1.cellPath
  go_upto_region 2 with fail
  have HR1 := Lib.hid (show w1.drew.ownsRow (g + 1) 67 1 (.slice Ap n0 cp) n0 (s.stk.reverse.map wd64) from by rw [HN.out]; exact H1.out.1.drew.path)
  have HG1 := Lib.hid H1.out.1.drew
  have d51 : w1.drew.cell? ⟨g, 51, none⟩ = some (.slice Ap n0 cp) := k51
  obtain ⟨SS, hSS⟩ : ∃ SS : World → Prop, SS = (fun W => W.cell? ⟨g, 51, none⟩ = some (.slice Ap n0 cp)) := ⟨_, rfl⟩
  have HB := Lib.hid (show ∀ W, SS W → W.cell? ⟨g, 51, none⟩ = some (.slice Ap n0 cp) from by rw [hSS]; exact fun W hW => hW)
  have HCC := Lib.hid (show ∀ W, W.cell? ⟨g, 51, none⟩ = some (.slice Ap n0 cp) → SS W from by rw [hSS]; exact fun W hW => hW)
  have SB : SS w1.drew := HCC.out _ d51
  clear hSS
  refine wp_region_rel SS 11 12 (by kernel_rfl) rfl ?_
  refine wpAnyR_pure (i := 0) (oi := _) ?vb0 rfl rfl (by kernel_rfl) (by decide) (fun _ _ _ h => h) rfl ?hyb0 (fun _ => SB) ?restb0
  case hyb0 => (intro W; go_simp; (try with_reducible rfl))
  try simp only [List.setIfInBounds_toArray, List.set_cons_zero, List.set_cons_succ]
  refine wpAnyR_pure (i := 1) (oi := _) ?vb1 rfl rfl (by kernel_rfl) (by decide) (fun _ _ _ h => h) rfl ?hyb1 (fun _ => SB) ?restb1
  case hyb1 => (intro W; go_simp; (try with_reducible rfl))
  try simp only [List.setIfInBounds_toArray, List.set_cons_zero, List.set_cons_succ]
  refine wpAnyR_pure (i := 2) (oi := _) ?vb2 rfl rfl (by kernel_rfl) (by decide) (fun _ _ _ h => h) rfl ?hyb2 (fun _ => SB) ?restb2
  case hyb2 => (intro W; go_simp; (try with_reducible rfl))
  try simp only [List.setIfInBounds_toArray, List.set_cons_zero, List.set_cons_succ]
  refine wpAnyR_pure (i := 3) (oi := _) ?vb3 rfl rfl (by kernel_rfl) (by decide) (fun _ _ _ h => h) rfl ?hyb3 (fun _ => SB) ?restb3
  case hyb3 => (intro W; go_simp; (try with_reducible rfl))
  try simp only [List.setIfInBounds_toArray, List.set_cons_zero, List.set_cons_succ]
  refine wpAnyR_take (i := 4) (oi := _) ?vb4 rfl rfl (by kernel_rfl) (fun _ _ _ h => h) rfl ?hyb4 SB ?restb4
  case hyb4 => (intro W hW; obtain E0 := HB.out W hW; go_simp; (try with_reducible rfl))
  try simp only [List.setIfInBounds_toArray, List.set_cons_zero, List.set_cons_succ]
  refine wpAnyR_pure (i := 5) (oi := _) ?vb5 rfl rfl (by kernel_rfl) (by decide) (fun _ _ _ h => h) rfl ?hyb5 (fun _ => SB) ?restb5
  case hyb5 => (intro W; go_simp; (try with_reducible rfl))
  try simp only [List.setIfInBounds_toArray, List.set_cons_zero, List.set_cons_succ]
  refine wpAnyR_pure (i := 6) (oi := _) (.int .u64 ((2 ^ v : Nat) : Int)) rfl rfl (by kernel_rfl) (by decide) (fun _ _ _ h => h) rfl ?hyb6 (fun _ => SB) ?restb6
  case hyb6 => (intro W; go_simp; (try simp))
  try simp only [List.setIfInBounds_toArray, List.set_cons_zero, List.set_cons_succ]
  refine wpAnyR_one (i := 7) (by kernel_rfl) rfl (fun K hK => ?_)
  try rw [if_pos (show Region.wanted _ _ = true from rfl)]
  go_simp
  have k7 := (HG1.out.on (below1 w1.drew (Obj.cells #[Value.int .u64 ((2 ^ v : Nat) : Int)] 67))).cellPath
  rw [show ({ s with met := m1 } : GW).stk.length = n0 from HN.out.symm] at k7
  have S7 : SS _ := HCC.out _ k7
  refine hK.out _ _ (fun _ => S7) ?_
  clear hK K
  try simp only [List.setIfInBounds_toArray, List.set_cons_zero, List.set_cons_succ, Act.put]
  refine wpAnyR_one (i := 8) (by kernel_rfl) rfl (fun K hK => ?_)
  refine step_append_lies _ rfl (.tmp 25) (.tmp 28) 71 rfl (g + 1) 67 i0 (.int .u64 0) 1 8 Tryd.underlying71 hi0 hz0 hz1 hz2 rfl (by decide) (.slice Ap n0 cp) n0 (s.stk.reverse.map wd64) rfl ?c1 ⟨w1.heap.size, 0, none⟩ 1 1 [.int .u64 ((2 ^ v : Nat) : Int)] rfl rfl ?c4 ?c2 (by omega) (by unfold maxLen; omega) (by omega) ?c3 _ rfl ?c5
  case c1 => exact HR1.out.alloc _
  case c4 => exact cell_one_new _ _ _
  case c2 => intro u hu; simp at hu; subst hu; rfl
  case c3 => simp; omega
  case c5 =>
  intro g2 cap w5 hown hgr hat _
  have hkg := (HG1.out.keptP (by rw [show ({ s with met := m1 } : GW).stk.length = n0 from HN.out.symm]; exact hgr)).1 g (Nat.lt_succ_self _)
  have c51 : w5.cell? ⟨g, 51, none⟩ = some (.slice Ap n0 cp) := by rw [← d51]; simp [World.cell?, hkg]
  have f51 : w5.frozen? ⟨g, 51, none⟩ = false := by
    have := HG1.out.blk.frozen 51
    rw [← this]
    simp [World.frozen?, hkg]
  have HPG := Lib.hid (fun W (hW : W = w5.setCell ⟨g, 51, none⟩ (.slice (some ⟨g2, 0, none⟩) (n0 + 1) cap)) => HG1.out.pushPath (x := 2 ^ v) hpv (by rw [show ({ s with met := m1 } : GW).stk.length = n0 from HN.out.symm]; exact hlen) (by rw [show ({ s with met := m1 } : GW).stk.length = n0 from HN.out.symm]; exact hgr) (by rw [show ({ s with met := m1 } : GW).stk.length = n0 from HN.out.symm]; simpa using hat) (by rw [show ({ s with met := m1 } : GW).stk.length = n0 from HN.out.symm]; exact hown) (w' := W) (by rw [show ({ s with met := m1 } : GW).stk.length = n0 from HN.out.symm]; exact hW))
  have S5 : SS w5 := HCC.out _ c51
  clear hown hgr hat hkg
  refine hK.out _ _ (fun _ => S5) ?_
  clear hK K
  try simp only [List.setIfInBounds_toArray, List.set_cons_zero, List.set_cons_succ, Act.put]
  refine wpAnyR_pure (i := 9) (oi := _) ?vb9 rfl rfl (by kernel_rfl) (by decide) (fun _ _ _ h => h) rfl ?hyb9 (fun _ => S5) ?restb9
  case hyb9 => (intro W; go_simp; (try with_reducible rfl))
  try simp only [List.setIfInBounds_toArray, List.set_cons_zero, List.set_cons_succ]
  refine wpAnyR_pure (i := 10) (oi := _) ?vb10 rfl rfl (by kernel_rfl) (by decide) (fun _ _ _ h => h) rfl ?hyb10 (fun _ => S5) ?restb10
  case hyb10 => (intro W; go_simp; (try with_reducible rfl))
  try simp only [List.setIfInBounds_toArray, List.set_cons_zero, List.set_cons_succ]
  refine wpAnyR_one (i := 11) (by kernel_rfl) rfl (fun K hK => ?_)
  go_simp
  refine hK.out _ _ (fun hf => absurd hf (by decide)) ?_
  clear hK K
  refine wpAnyR_done (by kernel_rfl) ?_
  obtain ⟨w3, hw3⟩ : ∃ w3, w3 = w5.setCell ⟨g, 51, none⟩ (.slice (some ⟨g2, 0, none⟩) (n0 + 1) cap) := ⟨_, rfl⟩
  have H3 := Lib.hid (show GWAt w3 g Y N n (beginF v s) (some ⟨g2, 0, none⟩) cap Ag cg ∧ Keeps g w Ap Ag w3 (some ⟨g2, 0, none⟩) Ag from by
    obtain ⟨q1, q2⟩ := HPG.out w3 hw3
    refine ⟨?_, H1.out.2.drew.trans q2⟩
    have e : beginF v s = { { s with met := m1 } with stk := 2 ^ v :: s.stk } := by rw [HM1.out]; rfl
    rw [e]
    exact q1)
  rw [← hw3]
  clear hw3 c51 f51 S5 d51 k51
  have hg3 : g < w3.heap.size := H3.out.1.lt
  have HT3 := Lib.hid (HT.out.keeps HGT.out H3.out.2)
  obtain ⟨u, hu⟩ : ∃ u, u = askF Y N v := ⟨_, rfl⟩
  have hu24 : u < 16777216 := by rw [hu]; exact askF_limit HA.out HW.out.len.y HW.out.len.n v
  have CA := Lib.hid (askAll_at g v (Y.getD v 0) (N.getD v 0) w3 (H3.out.1.cellYes hv24) (H3.out.1.cellNo hv24) hv24 (by have := HA.out.y v hv24; omega) (by have := HA.out.n v hv24; omega))
  rw [show Y.getD v 0 ||| N.getD v 0 = u from hu.symm] at CA
  unfold wd64 at CA
  obtain ⟨ts, hts⟩ : ∃ ts, ts = bitsOf u := ⟨_, rfl⟩
  obtain ⟨B, hB⟩ : ∃ B, B = bitsN u := ⟨_, rfl⟩
  have HTS := Lib.hid (show ts = B.map fun j : Nat => (j : Int) by rw [hts, hB]; rfl)
  have HTL := Lib.hid (show ts.length = B.length by rw [HTS.out]; simp)
  have htl : ts.length ≤ 64 := by rw [hts]; exact bitsOf_length _
  have HB24 := Lib.hid (show ∀ p ∈ B, p < 24 from fun p hp => bitsN_lt hu24 (by rw [← hB]; exact hp))
  have HBA := Lib.hid (show ∀ p ∈ B, has (askF Y N v) p from fun p hp => by rw [hB, hu] at hp; exact (bitsN_mem.1 hp).2)
  have HBE := Lib.hid (show B = bitsN (askF Y N v) by rw [hB, hu])
  have CB := Lib.hid (fun W (hW : Below w3.heap.size w3 W) => bitNumbers_any u (by omega) W (HT3.out.below hW))
  rw [← hts] at CB
  clear hts hB hu
  go_wp2_with (first | (go_at_call 47; refine CA.out.mono ?_; rintro e w4 ⟨rfl, b4⟩; have B4 := Lib.hid b4; clear b4) | (go_at_call 39; refine (CB.out _ B4.out).mono ?_; rintro e w6 ⟨A6, c6, rfl, o6, b6⟩; have HO6 := Lib.hid o6; have B6 := Lib.hid (bthen B4.out b6); clear o6 b6))
  have H6 := Lib.hid (show GWAt w6 g Y N n (beginF v s) (some ⟨g2, 0, none⟩) cap Ag cg ∧ Keeps g w Ap Ag w6 (some ⟨g2, 0, none⟩) Ag from ⟨H3.out.1.on B6.out, H3.out.2.trans (Keeps.of_below B6.out (Nat.le_of_lt hg3))⟩)
  have HT6 := Lib.hid (HT3.out.below B6.out)
  go_loopw [39] (fun i wr => ∃ (k : Nat) (S : GW) (Ar : Option Addr) (cr : Nat) (Gr : Option Addr) (dr : Nat), k ≤ ts.length ∧ i = .int .i64 k ∧ S = (B.take k).foldl (stepF (visitF (askF Y N) f)) (beginF v s) ∧ GWAt wr g Y N n S Ar cr Gr dr ∧ Keeps g w6 (some ⟨g2, 0, none⟩) Ag wr Ar Gr) (fun i _ => ts.length - (intOf i).toNat)
  case atStart => exact ⟨0, beginF v s, _, _, _, _, Nat.zero_le _, rfl, rfl, H6.out.1, Keeps.refl _ _ _ _⟩
  case round =>
    obtain ⟨k, S, Ar, cr, Gr, dr, hk, rfl, hS, hgw, hkw⟩ := hrel
    have HGW := Lib.hid hgw
    have HKW := Lib.hid hkw
    have HS := Lib.hid hS
    have HMID := Lib.hid (show Mid (askF Y N) n v s S ((B.take k).reverse ++ []) from by
      rw [hS]
      exact Mid.fold HASK.out (fun tq s2 => visit_post hn HASK.out f tq s2) hv HMV.out HC.out _ _ _ (fun x hx => HBA.out x (List.mem_of_mem_take hx)) HB0.out)
    have HTR := Lib.hid (HT6.out.keeps HGT.out hkw)
    have hgr : g < wr.heap.size := hgw.lt
    clear hS hgw hkw
    by_cases hlt : k < ts.length
    · have hkB : k < B.length := by rw [← HTL.out]; exact hlt
      have HOW := Lib.hid (HO6.out.kept fun b hb => HKW.out.keep b (HO6.out.lt hb).2.2 (fun e => by have := (HO6.out.lt hb).1; have := B4.out.size; omega) (fun e => by
        have h1 := (HO6.out.lt hb).1
        have h2 := (H3.out.1.path.lt b (by rw [bl_own]; exact e)).2
        have := B4.out.size
        omega) (fun e => by
        have h1 := (HO6.out.lt hb).1
        have h2 := (H3.out.1.groups.lt b (by rw [bl_own]; exact e)).2
        have := B4.out.size
        omega))
      obtain ⟨bb, oo, e0, hbb, k0⟩ := HOW.out.rd.at_ hlt
      subst e0
      obtain ⟨p, hp⟩ : ∃ p, p = B[k] := ⟨_, rfl⟩
      have hpk : ts[k] = (p : Int) := by rw [hp]; simp [HTS.out]
      rw [hpk] at k0
      have HP := Lib.hid hp
      have hp24 : p < 24 := by rw [hp]; exact HB24.out _ (List.getElem_mem hkB)
      have HPA := Lib.hid (show has (askF Y N v) p by rw [hp]; exact HBA.out _ (List.getElem_mem hkB))
      have HNX := Lib.hid (show (B.take (k + 1)).foldl (stepF (visitF (askF Y N) f)) (beginF v s) = stepF (visitF (askF Y N) f) S p from by
        rw [take_snoc B k hkB, List.foldl_append, ← HS.out, ← hp]
        rfl)
      obtain ⟨x0', hx0'⟩ : ∃ x, x = S.met := ⟨_, rfl⟩
      obtain ⟨y0, hy0⟩ : ∃ y, y = S.done := ⟨_, rfl⟩
      have hx24 : x0' < 16777216 := by rw [hx0']; exact HGW.out.lim.met
      have hy24 : y0 < 16777216 := by rw [hy0]; exact HGW.out.lim.done
      have k49 : wr.cell? ⟨g, 49, none⟩ = some (.int .u64 ((x0' : Nat) : Int)) := by rw [hx0']; exact HGW.out.cellMet
      have k50 : wr.cell? ⟨g, 50, none⟩ = some (.int .u64 ((y0 : Nat) : Int)) := by rw [hy0]; exact HGW.out.cellDone
      obtain ⟨b1, hb1⟩ : ∃ b, b = x0'.testBit p := ⟨_, rfl⟩
      obtain ⟨b2, hb2⟩ : ∃ b, b = y0.testBit p := ⟨_, rfl⟩
      have C1 := Lib.hid ((hasBit_any x0' p (by omega) (by omega) wr).mono fun e w' (hh : e = .returned (.bool (x0'.testBit p)) ∧ wr = w') => (⟨by rw [hh.1, hb1], hh.2⟩ : e = .returned (.bool b1) ∧ wr = w'))
      have C2 := Lib.hid ((hasBit_any y0 p (by omega) (by omega) wr).mono fun e w' (hh : e = .returned (.bool (y0.testBit p)) ∧ wr = w') => (⟨by rw [hh.1, hb2], hh.2⟩ : e = .returned (.bool b2) ∧ wr = w'))
      have HB1 := Lib.hid (show b1 = S.met.testBit p by rw [hb1, hx0'])
      have HB2 := Lib.hid (show b2 = S.done.testBit p by rw [hb2, hy0])
      clear hp hpk hx0' hy0 hb1 hb2
      cases b1
      · have hnm : ¬ has S.met p := by unfold has; rw [← HB1.out]; exact Bool.false_ne_true
        have CV := Lib.hid (IH.out p S Ar cr Gr dr wr HGW.out HMID.out.inv (HASK.out v p HPA.out) hnm (HMID.out.lead HPA.out) (by have := cntU_less HMID.out.met hv HMV.out HMID.out.me; have := HC.out; omega) HTR.out)
        have HNM := Lib.hid hnm
        clear hnm
        go_wp2_with (first | (go_at_call 48; refine C1.out.mono ?_; rintro e w' ⟨rfl, rfl⟩) | (go_at_call 71; refine CV.out.mono ?_; rintro e w7 ⟨rfl, A7, c7, G7, d7, g7, n7⟩; have H7 := Lib.hid (And.intro g7 n7); clear g7 n7))
        go_roundw
        case rel =>
          refine ⟨k + 1, stepF (visitF (askF Y N) f) S p, A7, c7, G7, d7, by omega, by go_num, HNX.out.symm, ?_, HKW.out.trans H7.out.2⟩
          unfold stepF
          rw [if_neg (by rw [← HB1.out]; exact Bool.false_ne_true)]
          exact H7.out.1
        case measure => simp [intOf]; omega
      · go_upto_region 8 with (go_at_call 48; refine C1.out.mono ?_; rintro e w' ⟨rfl, rfl⟩)
        cases b2
        · have hst : ∃ x ∈ S.stk, has x p := by
            rcases (HMID.out.inv.sub p).1 HB1.out.symm with h1 | h1
            · exact absurd h1 (by unfold has; rw [← HB2.out]; exact Bool.false_ne_true)
            · exact h1
          have CJ := Lib.hid (joinBack_any g n p Y N S Ar cr Gr dr wr HGW.out hst hp24)
          clear hst
          go_wp2_with (first | (go_at_call 48; refine C2.out.mono ?_; rintro e w' ⟨rfl, rfl⟩) | (go_at_call 92; refine CJ.out.mono ?_; rintro e w7 ⟨rfl, g7, n7⟩; have H7 := Lib.hid (And.intro g7 n7); clear g7 n7))
          go_roundw
          case rel =>
            refine ⟨k + 1, stepF (visitF (askF Y N) f) S p, Ar, cr, Gr, dr, by omega, by go_num, HNX.out.symm, ?_, HKW.out.trans H7.out.2⟩
            unfold stepF
            rw [if_pos HB1.out.symm, if_neg (by rw [← HB2.out]; exact Bool.false_ne_true)]
            exact H7.out.1
          case measure => simp [intOf]; omega
        · go_wp2_with (go_at_call 48; refine C2.out.mono ?_; rintro e w' ⟨rfl, rfl⟩)
          go_roundw
          case rel =>
            refine ⟨k + 1, stepF (visitF (askF Y N) f) S p, Ar, cr, Gr, dr, by omega, by go_num, HNX.out.symm, ?_, HKW.out⟩
            unfold stepF
            rw [if_pos HB1.out.symm, if_pos HB2.out.symm]
            exact HGW.out
          case measure => simp [intOf]; omega
    · have HSA := Lib.hid (show S = B.foldl (stepF (visitF (askF Y N) f)) (beginF v s) by
        rw [HS.out, show k = B.length by have := HTL.out; omega, List.take_length])
      have HVF := Lib.hid (show visitF (askF Y N) (f + 1) v s = leaveF (askF Y N) s.stk.length S from by
        rw [HSA.out, HBE.out]
        rfl)
      have HPOST := Lib.hid (visit_post hn HASK.out (f + 1) v s HI.out hv HMV.out HL.out HC.out)
      have HKA := Lib.hid (H6.out.2.trans HKW.out)
      obtain ⟨m0, hm0⟩ : ∃ m, m = S.stk.length := ⟨_, rfl⟩
      have k51 : wr.cell? ⟨g, 51, none⟩ = some (.slice Ar m0 cr) := by rw [hm0]; exact HGW.out.cellPath
      have HM0 := Lib.hid hm0
      obtain ⟨w8, rfl⟩ : ∃ w8, w8 = wr := ⟨_, rfl⟩
      by_cases hgt : n0 < m0
      · obtain ⟨t, ht⟩ := HMID.out.top (by rw [← HN.out, ← HM0.out]; exact hgt)
        have hmn : m0 = n0 + 1 := by rw [HM0.out, ht, HN.out]; rfl
        have HTP := Lib.hid ht
        have ht24 : t < 16777216 := HGW.out.lim.stk t (by rw [ht]; simp)
        have hrow : w8.ownsRow (g + 1) 67 1 (.slice Ar m0 cr) m0 ((s.stk.reverse ++ [t]).map wd64) := by
          have := HGW.out.path
          rw [← HM0.out, ht, List.reverse_cons] at this
          exact this
        obtain ⟨gp, rfl, hcr⟩ : ∃ gp, Ar = some ⟨gp, 0, none⟩ ∧ m0 ≤ cr := by
          rcases hrow.2 with ⟨_, h0⟩ | ⟨g', cap', cur, e1, hb, hg', h1, h2, h3, h4⟩
          · omega
          · injection e1 with e1 e2 e3
            exact ⟨g', e1, by subst e3; omega⟩
        have hcr2 : n0 ≤ cr := by omega
        have q1 : w8.cell? ⟨gp, n0, none⟩ = some (.int .u64 ((t : Nat) : Int)) := by
          rw [hrow.cellAt n0 (by omega), List.getElem?_map, List.getElem?_append_right (by simp; have := HN.out; omega)]
          simp [HN.out, wd64]
        have HFE := Lib.hid (show visitF (askF Y N) (f + 1) v s = { finishF (askF Y N) t S with stk := s.stk } from by
          rw [HVF.out]
          unfold leaveF
          rw [if_pos (by rw [← HN.out, ← HM0.out]; exact hgt), ht]
          rfl)
        have hgn : S.groups.length < 24 := by
          have h1 := HPOST.out.inv.groupsN
          rw [HFE.out] at h1
          have e : ({ finishF (askF Y N) t S with stk := s.stk } : GW).groups = S.groups ++ [t] := rfl
          rw [e, List.length_append, List.length_singleton] at h1
          omega
        have CF := Lib.hid (finish_any g n t Y N S (some ⟨gp, 0, none⟩) cr Gr dr w8 HGW.out ht24 hgn HA.out HTR.out)
        have hgp : gp < w8.heap.size := (hrow.lt gp rfl).2
        have HMN := Lib.hid hmn
        clear ht hrow hgn hmn hm0
        go_wp2_with (go_at_call 93; refine CF.out.mono ?_; rintro e w9 ⟨rfl, G9, d9, g9, n9⟩; have H9 := Lib.hid (And.intro g9 n9); have c51 : w9.cell? ⟨g, 51, none⟩ = some (.slice (some ⟨gp, 0, none⟩) m0 cr) := (by rw [HM0.out]; exact g9.cellPath); have f51 : w9.frozen? ⟨g, 51, none⟩ = false := g9.blk.frozen 51; clear g9 n9)
        go_end0
        have HPP := H9.out.1.popPath (r := s.stk) (t := t) (w' := w9.setCell ⟨g, 51, none⟩ (.slice (some ⟨gp, 0, none⟩) n0 cr)) HTP.out (by rw [HN.out])
        refine ⟨rfl, some ⟨gp, 0, none⟩, cr, G9, d9, ?_, (HKA.out.trans H9.out.2).trans HPP.2⟩
        rw [HFE.out]
        exact HPP.1
      · have HFE := Lib.hid (show visitF (askF Y N) (f + 1) v s = S from by
          rw [HVF.out]
          unfold leaveF
          rw [if_neg (by rw [← HN.out, ← HM0.out]; exact hgt)])
        clear hm0
        go_wp2_with (fail)
        go_end0
        refine ⟨rfl, Ar, cr, Gr, dr, ?_, HKA.out⟩
        rw [HFE.out]
        exact HGW.out

end Go.Proofs.YtokmmloakahkhaaDoor
/-
  The walk over groups is built.
-/
namespace Go.Proofs.YtokmmloakahkhaaDoor
open Go.RowKit

theorem fill_list : ∀ (l pre old : List Value), l.length ≤ old.length → (l.zipIdx pre.length).foldl (fun (cs : Array Value) x => cs.setIfInBounds (0 + x.2) x.1) (pre ++ old).toArray = (pre ++ l ++ old.drop l.length).toArray
  | [], pre, old, _ => by simp
  | a :: l, pre, [], h => by simp at h
  | a :: l, pre, b :: old, h => by
    rw [List.zipIdx_cons, List.foldl_cons]
    have e : (pre ++ b :: old).toArray.setIfInBounds (0 + pre.length) a = ((pre ++ [a]) ++ old).toArray := by
      simp
    show List.foldl _ ((pre ++ b :: old).toArray.setIfInBounds (0 + pre.length) a) _ = _
    rw [e]
    have ih := fill_list l (pre ++ [a]) old (by simpa using h)
    rw [List.length_append, List.length_singleton] at ih
    rw [ih]
    simp
def nilS : Value := .slice none 0 0
theorem Tryd.gwZero : (Tryd.prog.info? 73).bind (fun i => i.zero.map (·.cells)) = some (gwList zeroA zeroA 0 0 0 nilS nilS zeroA zeroA).toArray := by kernel_rfl
def gwPlaces : List (Nat × Nat) := [(0, 48), (48, 1), (49, 1), (50, 1), (51, 1), (52, 1), (53, 24), (77, 24)]
theorem Tryd.gwPlace : (match Tryd.prog.underlying 73 with | some (.struct fields) => fields.toList.mapM (fun f => (Tryd.prog.info? f.type).map fun i => (f.offset, i.size)) | _ => none) = some gwPlaces := by kernel_rfl

theorem gw_built (Y N : List Nat) (n : Nat) (hY : Y.length = 24) (hN : N.length = 24) : Tryd.prog.built 73 [(0, .agg (askCells Y N)), (1, .int .i64 (n : Int))] = some (gwList Y N n 0 0 nilS nilS zeroA zeroA).toArray := by
  have hz := Tryd.gwZero
  have hp := Tryd.gwPlace
  unfold Program.built
  cases hi : Tryd.prog.info? 73 with
  | none => rw [hi] at hz; cases hz
  | some it =>
    cases hu : Tryd.prog.underlying 73 with
    | none => rw [hu] at hp; cases hp
    | some d =>
      rw [hu] at hp
      cases d <;> try (cases hp; done)
      rename_i fields
      rw [hi] at hz
      cases hzz : it.zero with
      | none => simp [hzz] at hz
      | some z =>
        have hzc : z.cells = (gwList zeroA zeroA 0 0 0 nilS nilS zeroA zeroA).toArray := by simpa [hzz] using hz
        simp only at hp ⊢
        rw [hp, hzz]
        simp only [Instr.fill]
        have e0 : gwPlaces.toArray[0]? = some (0, 48) := rfl
        have e1 : gwPlaces.toArray[1]? = some (48, 1) := rfl
        have hsz : (askCells Y N).size = 48 := by simp [askCells, hY, hN]
        have hl : ((Y ++ N).map fun x => Value.int .u64 ((x : Nat) : Int)).length = 48 := by simp [hY, hN]
        have hfull : z.cells.size = 101 := by rw [hzc]; rfl
        have hf := fill_list ((Y ++ N).map fun x => Value.int .u64 ((x : Nat) : Int)) [] (gwList zeroA zeroA 0 0 0 nilS nilS zeroA zeroA) (by rw [hl]; decide)
        have hfa : (Value.agg (askCells Y N)).cells.zipIdx.foldl (fun (cs : Array Value) x => cs.setIfInBounds (0 + x.2) x.1) z.cells = (((Y ++ N).map fun x => Value.int .u64 ((x : Nat) : Int)) ++ (gwList zeroA zeroA 0 0 0 nilS nilS zeroA zeroA).drop 48).toArray := by
          rw [hzc]
          show (askCells Y N).zipIdx.foldl _ _ = _
          unfold askCells
          rw [hl] at hf
          simpa using hf
        have hv0 : (Value.agg (askCells Y N)).cells.size = 48 := hsz
        have hv1 : (Value.int .i64 (n : Int)).cells = #[Value.int .i64 (n : Int)] := rfl
        simp only [e0]
        rw [if_neg (by rw [hv0, hfull]; decide)]
        simp only [e1]
        rw [hfa, hv1]
        have hl2 : ((((Y ++ N).map fun x => Value.int .u64 ((x : Nat) : Int)) ++ (gwList zeroA zeroA 0 0 0 nilS nilS zeroA zeroA).drop 48).toArray).size = 101 := by
          rw [List.size_toArray, List.length_append, hl]
          rfl
        rw [if_neg (by rw [hl2, show (#[Value.int .i64 (n : Int)] : Array Value).size = 1 from rfl]; decide)]
        show some (Array.setIfInBounds _ (48 + 0) (Value.int .i64 (n : Int))) = _
        rw [List.setIfInBounds_toArray, List.set_append_right _ _ (by rw [hl]; omega), hl]
        rfl

end Go.Proofs.YtokmmloakahkhaaDoor
/-
  The walk of walkOf.
-/
namespace Go.Proofs.YtokmmloakahkhaaDoor
open Go.RowKit

theorem exec_build {P : Program} {o : Oper} {ev : Operand → Value} (t : TypeId) (parts : Array (Nat × Operand)) (ho : o.op = .build t parts) (cells : Array Value) (h : P.built t (parts.map fun (i, x) => (i, ev x)).toList = some cells) (w : World) : (execOp ev o).run P w = .ok (.value (.agg cells)) w := by
  unfold execOp
  simp only [ho, Sem.run_bind, run_build w t _ cells h, Result.andThen_ok]
  rfl
/-- Whom a program's predicates ask at once. -/
def askP (p : LProg) : Nat → Nat := askF (askWords 0 (asksOf p.2)) (askWords 1 (asksOf p.2))
theorem askP_lim {p : LProg} (hn : p.1.length ≤ 24) (hf : ∀ x ∈ asksOf p.2, AskFits p.1.length x) : AskLim (askWords 0 (asksOf p.2)) (askWords 1 (asksOf p.2)) :=
  ⟨fun i hi => by rw [askWords_at hi]; exact askMask_lt hn (.inl rfl) hf, fun i hi => by rw [askWords_at hi]; exact askMask_lt hn (.inr rfl) hf⟩
theorem askP_has {p : LProg} (hf : ∀ x ∈ asksOf p.2, AskFits p.1.length x) {i : Nat} (hi : i < 24) (k : Nat) : has (askP p i) k ↔ asked 0 (asksOf p.2) i k = true ∨ asked 1 (asksOf p.2) i k = true := by
  unfold askP askF
  rw [has_or, askWords_at hi, askWords_at hi, has_mask (.inl rfl) i k _ hf, has_mask (.inr rfl) i k _ hf]
theorem askP_lt {p : LProg} (hf : ∀ x ∈ asksOf p.2, AskFits p.1.length x) (u x : Nat) (h : has (askP p u) x) : x < p.1.length := by
  by_cases hu : u < 24
  · rcases (askP_has hf hu x).1 h with h | h
    · exact (asked_lt (.inl rfl) hf h).2
    · exact (asked_lt (.inr rfl) hf h).2
  · unfold askP askF at h
    rw [List.getD_eq_getElem?_getD, List.getD_eq_getElem?_getD, List.getElem?_eq_none (by rw [askWords_len]; omega), List.getElem?_eq_none (by rw [askWords_len]; omega)] at h
    exact absurd h (not_has_zero x)
theorem walkF_succ (ask : Nat → Nat) (n k : Nat) : walkF ask n (k + 1) = if (walkF ask n k).met.testBit k then walkF ask n k else visitF ask n k (walkF ask n k) := by
  unfold walkF
  rw [List.range_succ, List.foldl_append]
  rfl

set_option maxHeartbeats 4000000 in
set_option maxRecDepth 100000 in
theorem walkOf_no (v : Value) (p : LProg) (w : World) (hpo : progOk p = false) (h : RdProg w w.heap.size v p) (hs : szP p ≤ 1048576) :
    Calls Tryd.prog 38 #[v] w fun e w' => e = .returned (.tuple #[.pointer none, .bool false]) ∧ Below w.heap.size w w' := by
  have HP := Lib.hid h
  have hs' := hs
  unfold szP at hs'
  obtain ⟨a, b, rfl, hA, hR⟩ := h
  have HR := Lib.hid hR
  obtain ⟨A, c, rfl, hcA, _⟩ := hA
  obtain ⟨A2, c2, rfl, hcR, _⟩ := hR
  have HPO := Lib.hid hpo
  clear hpo
  obtain ⟨n, hn⟩ : ∃ n, n = p.1.length := ⟨_, rfl⟩
  have HNE := Lib.hid hn
  rw [← hn] at hcA ⊢
  clear hn
  go_enter Tryd.func38, Tryd.ntmps38
  go_upto_region 1 with fail
  obtain ⟨w1, hw1⟩ : ∃ w1, w1 = w.alloc (Obj.cells #[Value.slice A n c, Value.slice A2 p.2.length c2] 26) := ⟨_, rfl⟩
  have X1 : Blk w1 w.heap.size 26 #[.slice A n c, .slice A2 p.2.length c2] := by rw [hw1]; exact Blk.new _ _ _
  have B1 : Below w.heap.size w w1 := by rw [hw1]; exact below1 _ _
  rw [← hw1]
  clear hw1
  have CP := Lib.hid ((implProgramOk_any _ p w1 (HP.out.on B1) hs).mono fun e w' (hh : e = .returned (.bool (progOk p)) ∧ Below w1.heap.size w1 w') => (⟨by rw [hh.1, HPO.out], hh.2⟩ : e = .returned (.bool false) ∧ Below w1.heap.size w1 w'))
  try rw [← HNE.out] at CP
  have x0 : w1.cell? ⟨w.heap.size, 0, none⟩ = some (.slice A n c) := X1.cell 0
  have x1 : w1.cell? ⟨w.heap.size, 1, none⟩ = some (.slice A2 p.2.length c2) := X1.cell 1
  have HX1 := Lib.hid X1
  clear X1
  go_wp2_with (go_at_call 12; refine CP.out.mono ?_; rintro e w2 ⟨rfl, b2⟩; have B2 := Lib.hid (bthen B1 b2); clear b2)
  go_ret2
  exact ⟨rfl, B2.out⟩

set_option maxHeartbeats 4000000 in
set_option maxRecDepth 100000 in
theorem walkOf_yes (v : Value) (p : LProg) (w : World) (hpo : progOk p = true) (h : RdProg w w.heap.size v p) (hs : szP p ≤ 1048576) (hT : Tab w) :
    Calls Tryd.prog 38 #[v] w fun e w' => ∃ g Ap cp Ag cg, e = .returned (.tuple #[.pointer (some ⟨g, 0, none⟩), .bool true]) ∧ w.heap.size ≤ g ∧ GWAt w' g (askWords 0 (asksOf p.2)) (askWords 1 (asksOf p.2)) p.1.length (walkF (askP p) p.1.length p.1.length) Ap cp Ag cg ∧ Below w.heap.size w w' := by
  have HP := Lib.hid h
  have HT := Lib.hid hT
  have hs' := hs
  unfold szP at hs'
  obtain ⟨a, b, rfl, hA, hR⟩ := h
  have HR := Lib.hid hR
  obtain ⟨A, c, rfl, hcA, _⟩ := hA
  obtain ⟨A2, c2, rfl, hcR, _⟩ := hR
  clear hT
  have HPO := Lib.hid hpo
  obtain ⟨hn24, hfit⟩ := asksOf_fits hpo
  have HRL := Lib.hid (show ∀ r ∈ p.2, r.2.length ≤ 1048576 from fun r hr => by
    obtain ⟨k, hk, rfl⟩ := List.getElem_of_mem hr
    have := sz_le_totR p.2 k hk
    unfold szR at this
    omega)
  have CA := Lib.hid (fun W (hW : Below w.heap.size w W) => askingOf_any (.slice A2 p.2.length c2) p.2 p.1.length W (HR.out.on hW) hn24 hfit (by omega) HRL.out)
  have HLIM := Lib.hid (askP_lim hn24 hfit)
  have HASK := Lib.hid (askP_lt hfit)
  obtain ⟨Y, hY⟩ : ∃ Y, Y = askWords 0 (asksOf p.2) := ⟨_, rfl⟩
  obtain ⟨N, hN⟩ : ∃ N, N = askWords 1 (asksOf p.2) := ⟨_, rfl⟩
  have hYl : Y.length = 24 := by rw [hY]; exact askWords_len _ _
  have hNl : N.length = 24 := by rw [hN]; exact askWords_len _ _
  obtain ⟨n, hn⟩ : ∃ n, n = p.1.length := ⟨_, rfl⟩
  obtain ⟨ask, hask⟩ : ∃ ask, ask = askP p := ⟨_, rfl⟩
  have HAF := Lib.hid (show ask = askF Y N by rw [hask, hY, hN]; rfl)
  have HBU := Lib.hid (gw_built Y N n hYl hNl)
  have HNE := Lib.hid hn
  rw [← hY, ← hN] at CA HLIM ⊢
  rw [← hn] at HASK hn24 hcA ⊢
  rw [← hask] at HASK ⊢
  have HYL := Lib.hid (And.intro hYl hNl)
  clear hY hN hn hask hfit hYl hNl hpo
  go_enter Tryd.func38, Tryd.ntmps38
  go_upto_region 1 with fail
  obtain ⟨w1, hw1⟩ : ∃ w1, w1 = w.alloc (Obj.cells #[Value.slice A n c, Value.slice A2 p.2.length c2] 26) := ⟨_, rfl⟩
  have X1 : Blk w1 w.heap.size 26 #[.slice A n c, .slice A2 p.2.length c2] := by rw [hw1]; exact Blk.new _ _ _
  have B1 : Below w.heap.size w w1 := by rw [hw1]; exact below1 _ _
  rw [← hw1]
  clear hw1
  have CP := Lib.hid ((implProgramOk_any _ p w1 (HP.out.on B1) hs).mono fun e w' (hh : e = .returned (.bool (progOk p)) ∧ Below w1.heap.size w1 w') => (⟨by rw [hh.1, HPO.out], hh.2⟩ : e = .returned (.bool true) ∧ Below w1.heap.size w1 w'))
  try rw [← HNE.out] at CP
  have x0 : w1.cell? ⟨w.heap.size, 0, none⟩ = some (.slice A n c) := X1.cell 0
  have x1 : w1.cell? ⟨w.heap.size, 1, none⟩ = some (.slice A2 p.2.length c2) := X1.cell 1
  have HX1 := Lib.hid X1
  clear X1
  go_upto_region 3 with (go_at_call 12; refine CP.out.mono ?_; rintro e w2 ⟨rfl, b2⟩; have B2 := Lib.hid (bthen B1 b2); have HX2 := Lib.hid (HX1.out.below b2 HX1.out.lt); clear b2)
  have y0 : w2.drew.cell? ⟨w.heap.size, 0, none⟩ = some (.slice A n c) := HX2.out.cell 0
  have y1 : w2.drew.cell? ⟨w.heap.size, 1, none⟩ = some (.slice A2 p.2.length c2) := HX2.out.cell 1
  obtain ⟨SS, hSS⟩ : ∃ SS : World → Prop, SS = (fun W => W.cell? ⟨w.heap.size, 0, none⟩ = some (.slice A n c) ∧ W.cell? ⟨w.heap.size, 1, none⟩ = some (.slice A2 p.2.length c2)) := ⟨_, rfl⟩
  have HB := Lib.hid (show ∀ W, SS W → W.cell? ⟨w.heap.size, 0, none⟩ = some (.slice A n c) ∧ W.cell? ⟨w.heap.size, 1, none⟩ = some (.slice A2 p.2.length c2) from by rw [hSS]; exact fun W hW => hW)
  have HCC := Lib.hid (show ∀ W, W.cell? ⟨w.heap.size, 0, none⟩ = some (.slice A n c) → W.cell? ⟨w.heap.size, 1, none⟩ = some (.slice A2 p.2.length c2) → SS W from by rw [hSS]; exact fun W h1 h2 => ⟨h1, h2⟩)
  have SB : SS w2.drew := HCC.out _ y0 y1
  clear hSS
  refine wp_region_rel SS 8 9 (by kernel_rfl) rfl ?_
  refine wpAnyR_pure (i := 0) (oi := _) ?va0 rfl rfl (by kernel_rfl) (by decide) (fun _ _ _ h => h) rfl ?hya0 (fun _ => SB) ?resta0
  case hya0 => (intro W; go_simp; (try with_reducible rfl))
  try simp only [List.setIfInBounds_toArray, List.set_cons_zero, List.set_cons_succ]
  refine wpAnyR_pure (i := 3) (oi := _) ?va3 rfl rfl (by kernel_rfl) (by decide) (fun _ _ _ h => h) rfl ?hya3 (fun _ => SB) ?resta3
  case hya3 => (intro W; go_simp; (try with_reducible rfl))
  try simp only [List.setIfInBounds_toArray, List.set_cons_zero, List.set_cons_succ]
  refine wpAnyR_take (i := 1) (oi := _) ?va1 rfl rfl (by kernel_rfl) (fun _ _ _ h => h) rfl ?hya1 SB ?resta1
  case hya1 => (intro W hW; obtain ⟨E0, E1⟩ := HB.out W hW; go_simp; (try with_reducible rfl))
  try simp only [List.setIfInBounds_toArray, List.set_cons_zero, List.set_cons_succ]
  refine wpAnyR_take (i := 4) (oi := _) ?va4 rfl rfl (by kernel_rfl) (fun _ _ _ h => h) rfl ?hya4 SB ?resta4
  case hya4 => (intro W hW; obtain ⟨E0, E1⟩ := HB.out W hW; go_simp; (try with_reducible rfl))
  try simp only [List.setIfInBounds_toArray, List.set_cons_zero, List.set_cons_succ]
  refine wpAnyR_pure (i := 5) (oi := _) ?va5 rfl rfl (by kernel_rfl) (by decide) (fun _ _ _ h => h) rfl ?hya5 (fun _ => SB) ?resta5
  case hya5 => (intro W; go_simp; (try with_reducible rfl))
  try simp only [List.setIfInBounds_toArray, List.set_cons_zero, List.set_cons_succ]
  refine wpAnyR_one (i := 2) (by kernel_rfl) rfl (fun K hK => ?_)
  try rw [if_pos (show Region.wanted _ _ = true from rfl)]
  go_simp
  refine (CA.out _ B2.out.drew).mono ?_
  rintro e wn ⟨rfl, bn⟩
  have HXN := Lib.hid (Blk.below (w := w2.drew) HX2.out bn HX2.out.lt)
  have BN := Lib.hid (bthen B2.out.drew bn)
  have SN : SS wn := HCC.out _ (HXN.out.cell 0) (HXN.out.cell 1)
  clear bn
  refine hK.out _ _ (fun _ => SN) ?_
  clear hK K
  try simp only [List.setIfInBounds_toArray, List.set_cons_zero, List.set_cons_succ, Act.put]
  refine wpAnyR_pure (i := 6) (oi := _) (.agg (gwList Y N n 0 0 nilS nilS zeroA zeroA).toArray) rfl rfl (by kernel_rfl) (by decide) (fun _ _ _ h => h) rfl ?hya6 (fun _ => SN) ?resta6
  case hya6 => (intro W; refine exec_build 73 _ rfl _ ?_ W; go_simp; exact HBU.out)
  try simp only [List.setIfInBounds_toArray, List.set_cons_zero, List.set_cons_succ]
  refine wpAnyR_one (i := 7) (by kernel_rfl) rfl (fun K hK => ?_)
  try rw [if_pos (show Region.wanted _ _ = true from rfl)]
  go_simp
  have SA : SS (wn.alloc (Obj.cells (gwList Y N n 0 0 nilS nilS zeroA zeroA).toArray 73)) := HCC.out _ ((HXN.out.alloc _).cell 0) ((HXN.out.alloc _).cell 1)
  refine hK.out _ _ (fun _ => SA) ?_
  clear hK K
  try simp only [List.setIfInBounds_toArray, List.set_cons_zero, List.set_cons_succ, Act.put]
  refine wpAnyR_one (i := 8) (by kernel_rfl) rfl (fun K hK => ?_)
  go_simp
  refine hK.out _ _ (fun hf => absurd hf (by decide)) ?_
  clear hK K
  refine wpAnyR_done (by kernel_rfl) ?_
  obtain ⟨g, hg⟩ : ∃ g, g = wn.heap.size := ⟨_, rfl⟩
  obtain ⟨w3, hw3⟩ : ∃ w3, w3 = wn.alloc (Obj.cells (gwList Y N n 0 0 nilS nilS zeroA zeroA).toArray 73) := ⟨_, rfl⟩
  have HG3 := Lib.hid (show GWAt w3 g Y N n startW none 0 none 0 from by
    rw [hw3, hg]
    refine ⟨⟨HYL.out.1, HYL.out.2, by decide, by decide⟩, Blk.new _ _ _, World.ownsRow_nil _ _ _ _, World.ownsRow_nil _ _ _ _, fun b hb => (by cases hb), ⟨by decide, by decide, fun x hx => (by cases hx), fun x hx => (by cases hx), fun x hx => ?_, by decide, by decide⟩⟩
    have := List.eq_of_mem_replicate hx
    subst this
    decide)
  have B3 := Lib.hid (show Below w.heap.size w w3 by rw [hw3]; exact bthen BN.out (below1 _ _))
  have hgw : w.heap.size ≤ g := by rw [hg]; exact BN.out.size
  have hg3 : g < w3.heap.size := HG3.out.lt
  rw [← hw3, ← hg]
  have HT3 := Lib.hid (HT.out.below B3.out)
  have HGT := Lib.hid (show 1 < g from Nat.lt_of_lt_of_le HT.out.2 hgw)
  have k48 : w3.cell? ⟨g, 48, none⟩ = some (.int .i64 (n : Int)) := HG3.out.cellN
  clear hw3 hg y0 y1 SN SA SB x0 x1
  go_wp2_with (fail)
  go_loopw [21] (fun i wr => ∃ (k : Nat) (Ar : Option Addr) (cr : Nat) (Gr : Option Addr) (dr : Nat), k ≤ n ∧ i = .int .i64 k ∧ GWAt wr g Y N n (walkF ask n k) Ar cr Gr dr ∧ Below g w3 wr) (fun i _ => n - (intOf i).toNat)
  case atStart => exact ⟨0, none, 0, none, 0, Nat.zero_le _, rfl, HG3.out, Below.refl _ _⟩
  case round =>
    obtain ⟨k, Ar, cr, Gr, dr, hk, rfl, hgw3, hbe⟩ := hrel
    have HGW := Lib.hid hgw3
    have HBE := Lib.hid hbe
    have BW := Lib.hid (show Below w.heap.size w wr from B3.out.trans (hbe.mono hgw))
    obtain ⟨S, hS⟩ : ∃ S, S = walkF ask n k := ⟨_, rfl⟩
    rw [← hS] at HGW
    have HS := Lib.hid hS
    clear hgw3 hbe hS
    by_cases hlt : k < n
    · have hk24 : k < 24 := by omega
      obtain ⟨w1', w2', w3'⟩ := walk_inv hn24 HASK.out k (by omega)
      rw [← HS.out] at w1' w2'
      have HIN := Lib.hid w1'
      have HST := Lib.hid w2'
      clear w1' w2' w3'
      obtain ⟨x0', hx0'⟩ : ∃ x, x = S.met := ⟨_, rfl⟩
      have hx24 : x0' < 16777216 := by rw [hx0']; exact HGW.out.lim.met
      have k49 : wr.cell? ⟨g, 49, none⟩ = some (.int .u64 ((x0' : Nat) : Int)) := by rw [hx0']; exact HGW.out.cellMet
      obtain ⟨b1, hb1⟩ : ∃ b, b = x0'.testBit k := ⟨_, rfl⟩
      have C1 := Lib.hid ((hasBit_any x0' k (by omega) (by omega) wr).mono fun e w' (hh : e = .returned (.bool (x0'.testBit k)) ∧ wr = w') => (⟨by rw [hh.1, hb1], hh.2⟩ : e = .returned (.bool b1) ∧ wr = w'))
      have HB1 := Lib.hid (show b1 = S.met.testBit k by rw [hb1, hx0'])
      have HNX := Lib.hid (show walkF ask n (k + 1) = if S.met.testBit k then S else visitF ask n k S by rw [walkF_succ, ← HS.out])
      clear hx0' hb1
      cases b1
      · have CV := Lib.hid (visit_any g n Y N hn24 (by rw [← HAF.out]; exact HASK.out) HLIM.out HGT.out n k S Ar cr Gr dr wr HGW.out (by rw [← HAF.out]; exact HIN.out) hlt (by unfold has; rw [← HB1.out]; exact Bool.false_ne_true) (fun x hx => by rw [HST.out] at hx; cases hx) (cntU_le _ _) (HT.out.below BW.out))
        go_wp2_with (first | (go_at_call 48; refine C1.out.mono ?_; rintro e w' ⟨rfl, rfl⟩) | (go_at_call 71; refine CV.out.mono ?_; rintro e w7 ⟨rfl, A7, c7, G7, d7, g7, n7⟩; have H7 := Lib.hid (And.intro g7 n7); clear g7 n7))
        go_roundw
        case rel =>
          refine ⟨k + 1, A7, c7, G7, d7, by omega, by go_num, ?_, HBE.out.trans H7.out.2.below⟩
          rw [HNX.out, if_neg (by rw [← HB1.out]; exact Bool.false_ne_true), HAF.out]
          exact H7.out.1
        case measure => simp [intOf]; omega
      · go_wp2_with (go_at_call 48; refine C1.out.mono ?_; rintro e w' ⟨rfl, rfl⟩)
        go_roundw
        case rel =>
          refine ⟨k + 1, Ar, cr, Gr, dr, by omega, by go_num, ?_, HBE.out⟩
          rw [HNX.out, if_pos HB1.out.symm]
          exact HGW.out
        case measure => simp [intOf]; omega
    · have hkn : k = n := by omega
      go_wp2_with (fail)
      go_ret2
      refine ⟨g, Ar, cr, Gr, dr, rfl, hgw, ?_, BW.out⟩
      have e : S = walkF ask n n := by rw [HS.out, hkn]
      rw [← e]
      exact HGW.out

end Go.Proofs.YtokmmloakahkhaaDoor
/-
  The walk of the program's Recursive.
-/
namespace Go.Proofs.YtokmmloakahkhaaDoor
open Go.RowKit

/-- What a program's predicates reach, as its walk finds it. -/
def reachP (p : LProg) (i : Nat) : Nat := (walkF (askP p) p.1.length p.1.length).reach.getD i 0
def recL (p : LProg) (x : Int) : Bool := progOk p && (decide (0 ≤ x) && (decide (x < (p.1.length : Int)) && (reachP p x.toNat).testBit x.toNat))

set_option maxHeartbeats 4000000 in
set_option maxRecDepth 100000 in
theorem implRecursive_any (v : Value) (p : LProg) (x : Int) (w : World) (h : RdProg w w.heap.size v p) (hs : szP p ≤ 1048576) (hT : Tab w) :
    Calls Tryd.prog 25 #[v, .int .i64 x] w fun e w' => e = .returned (.bool (recL p x)) ∧ Below w.heap.size w w' := by
  have HP := Lib.hid h
  have HT := Lib.hid hT
  obtain ⟨a, b, rfl, hA, hR⟩ := h
  obtain ⟨A, c, rfl, hcA, _⟩ := hA
  obtain ⟨A2, c2, rfl, hcR, _⟩ := hR
  clear hT
  obtain ⟨R, hRR⟩ : ∃ R, R = recL p x := ⟨_, rfl⟩
  have HRR := Lib.hid hRR
  rw [← hRR]
  clear hRR
  obtain ⟨po, hpo⟩ : ∃ po, po = progOk p := ⟨_, rfl⟩
  have HPO := Lib.hid hpo
  obtain ⟨n, hn⟩ : ∃ n, n = p.1.length := ⟨_, rfl⟩
  have HNE := Lib.hid hn
  rw [← hn] at hcA ⊢
  clear hpo hn
  go_enter Tryd.func25, Tryd.ntmps25
  go_upto_region 1 with fail
  obtain ⟨w1, hw1⟩ : ∃ w1, w1 = w.alloc (Obj.cells #[Value.slice A n c, Value.slice A2 p.2.length c2] 26) := ⟨_, rfl⟩
  have X1 : Blk w1 w.heap.size 26 #[.slice A n c, .slice A2 p.2.length c2] := by rw [hw1]; exact Blk.new _ _ _
  have B1 : Below w.heap.size w w1 := by rw [hw1]; exact below1 _ _
  rw [← hw1]
  clear hw1
  have x0 : w1.cell? ⟨w.heap.size, 0, none⟩ = some (.slice A n c) := X1.cell 0
  have x1 : w1.cell? ⟨w.heap.size, 1, none⟩ = some (.slice A2 p.2.length c2) := X1.cell 1
  have HX1 := Lib.hid X1
  clear X1
  cases po
  · have CW := Lib.hid (walkOf_no _ p w1 HPO.out.symm (HP.out.on B1) hs)
    rw [← HNE.out] at CW
    go_wp2_with (go_at_call 38; refine CW.out.mono ?_; rintro e w2 ⟨rfl, b2⟩; have B2 := Lib.hid (bthen B1 b2); clear b2)
    go_ret
    exact ⟨ret_bool (by rw [HRR.out]; unfold recL; rw [← HPO.out]; rfl), B2.out⟩
  · obtain ⟨hn24, _⟩ := asksOf_fits HPO.out.symm
    have CW := Lib.hid (walkOf_yes _ p w1 HPO.out.symm (HP.out.on B1) hs (HT.out.below B1))
    rw [← HNE.out] at CW hn24
    have HR2 := Lib.hid (show R = (decide (0 ≤ x) && (decide (x < (n : Int)) && (reachP p x.toNat).testBit x.toNat)) by rw [HRR.out, HNE.out]; unfold recL; rw [← HPO.out]; rfl)
    by_cases h0 : 0 ≤ x
    · by_cases h1 : x < (n : Int)
      · obtain ⟨q, rfl⟩ : ∃ q : Nat, x = (q : Int) := ⟨x.toNat, by omega⟩
        have hq24 : q < 24 := by omega
        have hqi : (q : Int) < 24 := by omega
        go_wp2_with (first
          | (go_at_call 38; refine CW.out.mono ?_; rintro e w2 ⟨g, Ap, cp, Ag, cg, rfl, hgg, hgw, b2⟩; have B2 := Lib.hid (bthen B1 b2)
             have HG2 := Lib.hid hgw
             have hg2 : g < w2.heap.size := hgw.lt
             have HX2 := Lib.hid (HX1.out.below b2 HX1.out.lt)
             have x20 : w2.cell? ⟨w.heap.size, 0, none⟩ = some (.slice A n c) := HX2.out.cell 0
             obtain ⟨u, hu⟩ : ∃ u, u = reachP p q := ⟨_, rfl⟩
             have kr : w2.cell? ⟨g, 77 + q, none⟩ = some (.int .u64 ((u : Nat) : Int)) := (by rw [hu]; unfold reachP; rw [← HNE.out]; exact hgw.cellReach hq24)
             have hu24 : u < 16777216 := (by
               rw [hu]
               unfold reachP
               rw [← HNE.out]
               have hl : q < (walkF (askP p) n n).reach.length := by rw [hgw.len.r]; exact hq24
               rw [List.getD_eq_getElem?_getD, List.getElem?_eq_getElem hl]
               exact hgw.lim.reach _ (List.getElem_mem hl))
             have HU := Lib.hid hu
             have CB := Lib.hid (hasBit_any u q (by omega) (by omega) w2)
             clear b2 hgw hu)
          | (go_at_call 48; refine CB.out.mono ?_; rintro e w3 ⟨rfl, rfl⟩))
        go_ret
        refine ⟨ret_bool ?_, B2.out⟩
        rw [HR2.out, HU.out]
        simp [h1]
      · go_wp2_with (go_at_call 38; refine CW.out.mono ?_; rintro e w2 ⟨g, Ap, cp, Ag, cg, rfl, hgg, hgw, b2⟩; have B2 := Lib.hid (bthen B1 b2); have HX2 := Lib.hid (HX1.out.below b2 HX1.out.lt); have x20 : w2.cell? ⟨w.heap.size, 0, none⟩ = some (.slice A n c) := HX2.out.cell 0; clear b2 hgw)
        go_ret
        refine ⟨ret_bool ?_, B2.out⟩
        rw [HR2.out]
        simp
        intro _ h2
        omega
    · go_wp2_with (go_at_call 38; refine CW.out.mono ?_; rintro e w2 ⟨g, Ap, cp, Ag, cg, rfl, hgg, hgw, b2⟩; have B2 := Lib.hid (bthen B1 b2); have HX2 := Lib.hid (HX1.out.below b2 HX1.out.lt); have x20 : w2.cell? ⟨w.heap.size, 0, none⟩ = some (.slice A n c) := HX2.out.cell 0; clear b2 hgw)
      go_ret
      refine ⟨ret_bool ?_, B2.out⟩
      rw [HR2.out]
      simp
      intro h2
      omega

end Go.Proofs.YtokmmloakahkhaaDoor
/-
  Floyd and Warshall's table: plain mathematics.
-/
namespace Go.Proofs.YtokmmloakahkhaaDoor
open Go.RowKit

/-- The table after m rounds. -/
def fwM (T : Nat → Nat → Bool) : Nat → Nat → Nat → Bool
  | 0 => T
  | m + 1 => fun a b => fwM T m a b || (fwM T m a m && fwM T m m b)
/-- The table within a round. -/
def fwU (T : Nat → Nat → Bool) (m i k : Nat) : Nat → Nat → Bool := fun a b => if a < i ∨ (a = i ∧ b < k) then T a b || (T a m && T m b) else T a b
section
variable {T : Nat → Nat → Bool} {m i k n : Nat}
theorem fwU_zero : fwU T m 0 0 = T := by
  funext a b
  unfold fwU
  rw [if_neg (by omega)]
theorem fwU_left (a : Nat) : fwU T m i k a m = T a m := by
  unfold fwU
  split
  · cases T a m <;> simp
  · rfl
theorem fwU_right (b : Nat) : fwU T m i k m b = T m b := by
  unfold fwU
  split
  · cases T m b <;> simp
  · rfl
theorem fwU_at : fwU T m i k i k = T i k := by
  unfold fwU
  rw [if_neg (by omega)]
theorem fwU_step (a b : Nat) : fwU T m i (k + 1) a b = if a = i ∧ b = k then T i k || (T i m && T m k) else fwU T m i k a b := by
  unfold fwU
  by_cases e : a = i ∧ b = k
  · obtain ⟨rfl, rfl⟩ := e
    rw [if_pos (by omega), if_pos ⟨rfl, rfl⟩]
  · rw [if_neg e]
    by_cases h : a < i ∨ (a = i ∧ b < k)
    · rw [if_pos h, if_pos (by omega)]
    · rw [if_neg h, if_neg (by omega)]
theorem fwU_skip (h : (T i m && T m k) = false) : fwU T m i (k + 1) = fwU T m i k := by
  funext a b
  rw [fwU_step]
  split
  · rename_i e
    rw [e.1, e.2, h, Bool.or_false, fwU_at]
  · rfl
theorem fwU_row (a b : Nat) (hb : b < n) : fwU T m i n a b = fwU T m (i + 1) 0 a b := by
  unfold fwU
  by_cases h : a < i ∨ (a = i ∧ b < n)
  · rw [if_pos h, if_pos (by omega)]
  · rw [if_neg h, if_neg (by omega)]
theorem fwU_all (a b : Nat) (ha : a < n) : fwU (fwM T m) m n 0 a b = fwM T (m + 1) a b := by
  unfold fwU
  rw [if_pos (.inl ha)]
  rfl
theorem fwM_mono (a b : Nat) : ∀ m, T a b = true → fwM T m a b = true
  | 0, h => h
  | m + 1, h => by
    show (fwM T m a b || _) = true
    rw [fwM_mono a b m h]
    rfl
theorem fwM_trans : ∀ m j a b, j < m → fwM T m a j = true → fwM T m j b = true → fwM T m a b = true
  | 0, j, a, b, h, _, _ => absurd h (Nat.not_lt_zero _)
  | m + 1, j, a, b, h, h1, h2 => by
    have e : ∀ x y, fwM T (m + 1) x y = true ↔ fwM T m x y = true ∨ (fwM T m x m = true ∧ fwM T m m y = true) := fun x y => by
      show (fwM T m x y || (fwM T m x m && fwM T m m y)) = true ↔ _
      rw [Bool.or_eq_true, Bool.and_eq_true]
    rw [e] at h1 h2 ⊢
    by_cases hj : j = m
    · subst hj
      have l1 : fwM T j a j = true := h1.elim id fun h => h.1
      have l2 : fwM T j j b = true := h2.elim id fun h => h.2
      exact .inr ⟨l1, l2⟩
    · have hjm : j < m := by omega
      have tr := fun x y => fwM_trans m j x y hjm
      rcases h1 with h1 | ⟨h1, h3⟩
      · rcases h2 with h2 | ⟨h2, h4⟩
        · exact .inl (tr _ _ h1 h2)
        · exact .inr ⟨tr _ _ h1 h2, h4⟩
      · rcases h2 with h2 | ⟨h2, h4⟩
        · exact .inr ⟨h1, tr _ _ h3 h2⟩
        · exact .inr ⟨h1, h4⟩
theorem fwM_sound {ask : Nat → Nat} (hT : ∀ a b, T a b = true → has (ask a) b) : ∀ m a b, fwM T m a b = true → Rch ask a b
  | 0, a, b, h => .one (hT a b h)
  | m + 1, a, b, h => by
    have e : fwM T m a b = true ∨ (fwM T m a m = true ∧ fwM T m m b = true) := by
      have h' : (fwM T m a b || (fwM T m a m && fwM T m m b)) = true := h
      rwa [Bool.or_eq_true, Bool.and_eq_true] at h'
    rcases e with e | ⟨e1, e2⟩
    · exact fwM_sound hT m a b e
    · exact (fwM_sound hT m a m e1).trans (fwM_sound hT m m b e2)
theorem fwM_all {ask : Nat → Nat} (hT : ∀ a b, a < n → has (ask a) b → T a b = true) (hask : ∀ u x, has (ask u) x → x < n) {a b : Nat} (ha : a < n) (h : Rch ask a b) : fwM T n a b = true := by
  induction h with
  | one e => exact fwM_mono _ _ n (hT _ _ ha e)
  | step e _ ih =>
    have hv := hask _ _ e
    exact fwM_trans n _ _ _ hv (fwM_mono _ _ n (hT _ _ ha e)) (ih hv)
end
/-- Whom a program's predicates ask at once, by the specification's table. -/
def askT (p : LProg) (i k : Nat) : Bool := decide (0 < cellV (asksOf p.2) i k)
theorem askT_iff {p : LProg} (hf : ∀ x ∈ asksOf p.2, AskFits p.1.length x) {i : Nat} (hi : i < 24) (k : Nat) : askT p i k = true ↔ has (askP p i) k := by
  rw [askP_has hf hi]
  unfold askT cellV
  rw [decide_eq_true_eq]
  cases asked 0 (asksOf p.2) i k <;> cases asked 1 (asksOf p.2) i k <;> simp
theorem reach_fw {p : LProg} (h : progOk p = true) {i : Nat} (hi : i < p.1.length) (k : Nat) : (reachP p i).testBit k = fwM (askT p) p.1.length i k := by
  obtain ⟨hn24, hf⟩ := asksOf_fits h
  obtain ⟨h1, h2, _⟩ := walk_all hn24 (askP_lt hf)
  have h3 := h1.rch i k (h2 i hi)
  have hT1 : ∀ a b, askT p a b = true → has (askP p a) b := fun a b hab => by
    by_cases ha : a < 24
    · exact (askT_iff hf ha b).1 hab
    · exfalso
      unfold askT cellV at hab
      rw [decide_eq_true_eq] at hab
      have n0 : asked 0 (asksOf p.2) a b = false := by
        cases e : asked 0 (asksOf p.2) a b
        · rfl
        · have := (asked_lt (.inl rfl) hf e).1; omega
      have n1 : asked 1 (asksOf p.2) a b = false := by
        cases e : asked 1 (asksOf p.2) a b
        · rfl
        · have := (asked_lt (.inr rfl) hf e).1; omega
      rw [n0, n1] at hab
      simp at hab
  rw [Bool.eq_iff_iff]
  exact h3.trans ⟨fun hr => fwM_all (fun a b ha hab => (askT_iff hf (show a < 24 by omega) b).2 hab) (askP_lt hf) hi hr, fun hf2 => fwM_sound hT1 _ _ _ hf2⟩

end Go.Proofs.YtokmmloakahkhaaDoor
