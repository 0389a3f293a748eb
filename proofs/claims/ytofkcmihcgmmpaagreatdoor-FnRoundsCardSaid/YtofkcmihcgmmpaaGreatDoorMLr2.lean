/-
  Texts that the claim's last one imports, laid together: part 2 of 16. No condition of its own.
-/
import Derived.Deep.RegionHeld3
import Derived.Deep.DeepCutAuto
import Derived.OrdersHeld
import Derived.Test.YtofkcmihcgmmpaaGreatDoorMLr1
namespace Go.Proofs.YtofkcmihcgmmpaaGreatDoor
set_option maxRecDepth 100000
open Go.RowKit
theorem zs.a {α : Type _} (l : List α) (i : Nat) (a : α) : l.toArray.setIfInBounds i a = (l.set i a).toArray := by simp
theorem zs.b {α : Type _} (l : List α) (a b : α) : (a :: l).set 0 b = b :: l := rfl
theorem zs.c {α : Type _} (l : List α) (n : Nat) (a b : α) : (a :: l).set (n + 1) b = a :: l.set n b := rfl
structure zjg (w wr : World) (f : zd) (A : Option Addr) (c k : Nat) (A' : Option Addr) (c' : Nat) : Prop where
 below : Below w.heap.size w wr
 src : Blk wr w.heap.size 39 #[.int .i64 f.1, .slice A f.2.length c]
 res : Blk wr (w.heap.size + 1) 39 #[.int .i64 0, .slice none 0 0]
 out : Blk wr (w.heap.size + 2) 39 #[.int .i64 f.1, .slice A' k c']
 own : wr.ownsRow (w.heap.size + 3) 3 1 (.slice A' k c') k ((f.2.take k).map (Value.int .i64))
theorem zcv {w : World} {base n size g : Nat} {e t : TypeId} {v : Value} {xs : List Value} {cs : Array Value} (h : w.ownsRow base e size v n xs) (hb : Blk w g t cs) (hne : e ≠ t) : v.ownBlock ≠ some g := by
 rcases h.2 with ⟨rfl, _⟩ | ⟨g', cap, cur, rfl, _, hh, _⟩
 ·simp [Value.ownBlock]
 ·intro he
  have : g' = g := by simpa [Value.ownBlock] using he
  subst this
  unfold Blk at hb
  rw [hh] at hb
  injection hb with hb
  injection hb with _ hb
  exact hne hb
theorem zcY {w w' : World} {o : Obj} {row : Option Nat} (hg : ((w.alloc o).drew).grownBy w' row) : w.grownBy w' row :=
 ⟨hg.os, hg.tape, hg.output, Nat.le_trans (by show w.heap.size <= (w.alloc o).heap.size; simp) hg.size, fun i hi hne => (hg.block i (Nat.lt_of_lt_of_le hi (by show w.heap.size <= (w.alloc o).heap.size; simp)) hne).trans (Below.heap_alloc _ _ _ hi)⟩
theorem ziA {w : World} {base size n : Nat} {e : TypeId} {v : Value} {xs : List Value} (h : w.ownsRow base e size v n xs) (o : Obj) : ((w.alloc o).drew).ownsRow base e size v n xs := h.alloc o
theorem zh9 (w : World) (x : Value) (t : TypeId) : ∀ j u, [x][j]? = some u -> ((w.alloc (.cells #[x] t)).drew).cell? ((⟨w.heap.size, 0, none⟩ : Addr).add j) = some u := cell_one_new w x t
theorem zjg.start (w : World) (f : zd) (A : Option Addr) (c : Nat) : zjg w (((w.alloc (Obj.cells #[Value.int IntKind.i64 f.1, Value.slice A f.2.length c] 39)).alloc (Obj.cells #[Value.int IntKind.i64 0, Value.slice none 0 0] 39)).alloc (Obj.cells #[Value.int IntKind.i64 f.1, Value.slice none 0 0] 39)) f A c 0 none 0 :=
 ⟨zpq _ _ _ _, ((Blk.new w _ _).alloc _).alloc _, by simpa using (Blk.new (w.alloc (Obj.cells #[Value.int IntKind.i64 f.1, Value.slice A f.2.length c] 39)) 39 #[.int .i64 0, .slice none 0 0]).alloc (Obj.cells #[Value.int IntKind.i64 f.1, Value.slice none 0 0] 39),
   by simpa using Blk.new ((w.alloc (Obj.cells #[Value.int IntKind.i64 f.1, Value.slice A f.2.length c] 39)).alloc (Obj.cells #[Value.int IntKind.i64 0, Value.slice none 0 0] 39)) 39 #[.int .i64 f.1, .slice none 0 0],
   by simpa using World.ownsRow_nil _ _ _ _⟩
theorem zjg.step {w wr w2 : World} {f : zd} {A A' : Option Addr} {c k c' g cap : Nat} (hr : zjg w wr f A c k A' c') (hlt : k < f.2.length) (hg : wr.grownBy w2 (Value.slice A' k c').ownBlock)
 (hown : w2.ownsRow (w.heap.size + 3) 3 1 (.slice (some ⟨g, 0, none⟩) (k + 1) cap) (k + 1) ((f.2.take k).map (Value.int .i64) ++ [.int .i64 f.2[k]])) :
 zjg w (w2.setCell ⟨w.heap.size + 2, 1, none⟩ (.slice (some ⟨g, 0, none⟩) (k + 1) cap)) f A c (k + 1) (some ⟨g, 0, none⟩) cap := by
 obtain ⟨h1, h2, h3, h4, h5⟩ := hr
 have keep : ∀ {b : Nat} {cs : Array Value}, Blk wr b 39 cs -> Blk w2 b 39 cs := fun hb => (hg.block _ hb.lt (fun e => zcv h5 hb (by decide) e.symm)).trans hb
 have hs := h4.lt
 refine ⟨(h1.grown hg h1.size (fun b hb => by have := (h5.lt b hb).1; omega)).setCell (by show w.heap.size <= w.heap.size + 2; omega) _, (keep h2).far (by show w.heap.size ≠ w.heap.size + 2; omega) _, (keep h3).far (by show w.heap.size + 1 ≠ w.heap.size + 2; omega) _, (keep h4).set_ 1 _, ?_⟩
 rw [zH f.2 k hlt, List.map_append]
 exact zw hown (fun b hb => Below.heap_setCell _ _ _ _ (fun e => zcv hown (keep h4) (by decide) (by rw [hb, e])))
set_option maxHeartbeats 1000000 in
theorem zcs (v : Value) (f : zd) (w : World) (h : zU w w.heap.size v f) (hn : f.2.length <= 1073741824) :
 Calls Tryz.prog 54 #[v] w fun e w' => ∃ A' c', e = .returned (.agg #[.int .i64 f.1, .slice A' f.2.length c']) /\ zg w' w.heap.size w'.heap.size (.slice A' f.2.length c') f.2 /\ Below w.heap.size w w' := by
 obtain ⟨i0, hi0, hz0, hz1, hz2⟩ := info_parts Tryz.infoInt
 obtain ⟨a, rfl, h⟩ := h
 obtain ⟨A, c, rfl, hc, hcell⟩ := h
 go_enter Tryz.func54, Tryz.ntmps54
 go_wp2_with (fail)
 go_loopw [4] (fun i wr => ∃ (k : Nat) (A' : Option Addr) (c' : Nat), k <= f.2.length /\ i = .int .i64 k /\ zjg w wr f A c k A' c') (fun i _ => f.2.length - (intOf i).toNat)
 case atStart => exact ⟨0, none, 0, Nat.zero_le _, rfl, zjg.start w f A c⟩
 case round =>
  obtain ⟨k, A', c', hk, rfl, hr⟩ := hrel
  have q0 : wr.cell? ⟨w.heap.size, 1, none⟩ = some (.slice A f.2.length c) := hr.src.cell 1
  by_cases hlt : k < f.2.length
  ·obtain ⟨b, o, rfl, hbB, hx⟩ := hcell (by omega)
   have q1 : wr.cell? ⟨w.heap.size + 2, 1, none⟩ = some (.slice A' k c') := hr.out.cell 1
   have q2 : wr.cell? ⟨b, o + k, none⟩ = some (.int .i64 f.2[k]) := (hr.below.cell (p := ⟨b, o + k, none⟩) hbB).trans (hx k hlt)
   have hbs := hr.out.lt
   clear hx hcell
   go_wp2_with (fail)
   have hf1 := hr.out.frozen 1
   have HR := Lib.hid hr
   go_region_law (first
    | (refine step_append_lies _ rfl (.tmp 16) (.tmp 22) 23 rfl (w.heap.size + 3) 3 i0 (.int .i64 0) 1 8 Tryz.underlying23 hi0 hz0 hz1 hz2 rfl (by decide) (.slice A' k c') k ((f.2.take k).map (Value.int .i64)) rfl ?_ ⟨_, 0, none⟩ 1 1 [.int .i64 f.2[k]] rfl rfl ?_ ?_ (by omega) (by unfold maxLen; omega) (by omega) ?_ _ rfl ?_
       ·exact ziA HR.out.own _
       ·exact zh9 wr _ _
       ·intro u hu; simp at hu; subst hu; rfl
       ·simp; omega
       intro g cap w2 hown hgr hat hlt2
       have hst := HR.out.step hlt (zcY (w := wr) hgr) hown
       have hgg := zcY (w := wr) hgr
       have e1 : w2.cell? ⟨w.heap.size + 2, 1, none⟩ = some (.slice A' k c') := hgg.cell q1 (fun e => zcv HR.out.own HR.out.out (by decide) e.symm)
       have e2 : w2.frozen? ⟨w.heap.size + 2, 1, none⟩ = false := (hgg.frozen_far _ hbs (fun e => zcv HR.out.own HR.out.out (by decide) e.symm)).trans hf1
       have HS := Lib.hid hst
       clear hst hgg hown hgr hat))
   all_goals
    go_wp2_with (fail)
    go_roundw
    case rel => exact ⟨k + 1, _, _, by omega, by go_num, HS.out⟩
    case measure => simp [intOf]; omega
  ·have hkn : f.2.length = k := by omega
   subst hkn
   have c0 : wr.cell? ⟨w.heap.size + 2, 0, none⟩ = some (.int .i64 f.1) := hr.out.cell 0
   have c1 : wr.cell? ⟨w.heap.size + 2, 1, none⟩ = some (.slice A' f.2.length c') := hr.out.cell 1
   have d0 : wr.cell? ⟨w.heap.size + 1, 0, none⟩ = some (.int .i64 0) := hr.res.cell 0
   have d1 : wr.cell? ⟨w.heap.size + 1, 1, none⟩ = some (.slice none 0 0) := hr.res.cell 1
   have f0 := hr.res.frozen 0
   have f1 := hr.res.frozen 1
   have HO : zg wr (w.heap.size + 3) wr.heap.size (.slice A' f.2.length c') f.2 := ⟨by have := hr.own; rwa [List.take_length] at this, fun g hg' => (hr.own.lt g hg').2⟩
   have hbe := hr.below
   clear hr hcell
   go_wp2_with (fail)
   refine bodyPost_ret (v := .agg #[.int .i64 f.1, .slice A' f.2.length c']) (by simp [results, Tryz.results54, go_sem, d0, d1]) rfl ⟨_, _, rfl, ?_, ?_⟩
   ·exact ((HO.set (.inl (by show w.heap.size + 1 < w.heap.size + 3; omega)) _).set (.inl (by show w.heap.size + 1 < w.heap.size + 3; omega)) _).mono (by omega) (by simp)
   ·exact (hbe.setCell (by show w.heap.size <= w.heap.size + 1; omega) _).setCell (by show w.heap.size <= w.heap.size + 1; omega) _
open Go.RowKit
theorem zgE (n lo hi : Int) (w : World) : Calls Tryz.prog 96 #[.int .i64 n, .int .i64 lo, .int .i64 hi] w fun e w' => e = .returned (.bool (decide (lo <= n /\ n <= hi))) /\ w = w' := by
 by_cases h1 : lo <= n
 ·by_cases h2 : n <= hi
  all_goals
   go_enter Tryz.func96, Tryz.ntmps96
   go_wp2
   go_ret
   exact ⟨zi (by simp [*]), rfl⟩
 ·have hd : decide (lo <= n) = false := by simpa using h1
  go_enter Tryz.func96, Tryz.ntmps96
  go_wp2
  go_ret
  exact ⟨zi (by simp [*]), rfl⟩
theorem zb1 {n lo hi : Int} (h : lo <= n /\ n <= hi) (w : World) : Calls Tryz.prog 96 #[.int .i64 n, .int .i64 lo, .int .i64 hi] w fun e w' => e = .returned (.bool true) /\ w = w' :=
 (zgE n lo hi w).mono fun _ _ ⟨he, hw⟩ => ⟨by rw [he, decide_eq_true h], hw⟩
theorem zeW {n lo hi : Int} (h : ¬ (lo <= n /\ n <= hi)) (w : World) : Calls Tryz.prog 96 #[.int .i64 n, .int .i64 lo, .int .i64 hi] w fun e w' => e = .returned (.bool false) /\ w = w' :=
 (zgE n lo hi w).mono fun _ _ ⟨he, hw⟩ => ⟨by rw [he, decide_eq_false h], hw⟩
open Go.RowKit
def zbo (x : Int) : Bool := decide (0 <= x /\ x <= 2)
def zr (xs : List Int) : Bool := decide (xs.length <= 24) && xs.all zbo
def zcT (xs : List Int) (k : Nat) : Prop := ∀ j, j < k -> zbo (xs.getD j 0) = true
theorem zcT.step {xs : List Int} {k : Nat} (h : zcT xs k) (e : zbo (xs.getD k 0) = true) : zcT xs (k + 1) := fun j hj => by
 by_cases h2 : j = k
 ·subst h2; exact e
 ·exact h j (by omega)
theorem zcT.all {xs : List Int} (h : zcT xs xs.length) : xs.all zbo = true := by
 rw [List.all_eq_true]
 intro x hx
 obtain ⟨j, hj, rfl⟩ := List.getElem_of_mem hx
 have := h j hj
 simpa [hj] using this
theorem zf5 {xs : List Int} {k : Nat} (hk : k < xs.length) (e : zbo xs[k] = false) : xs.all zbo = false := by
 rw [List.all_eq_false]
 exact ⟨xs[k], List.getElem_mem hk, by simp [e]⟩
set_option maxHeartbeats 400000 in
theorem zaU (v : Value) (xs : List Int) (w : World) (h : zv w w.heap.size v xs) (hr : xs.length * 8 <= 140737488351232) :
 Calls Tryz.prog 60 #[v] w fun e w' => e = .returned (.bool (zr xs)) /\ w = w' := by
 obtain ⟨A, c, rfl, hc, ha⟩ := h
 go_enter Tryz.func60, Tryz.ntmps60
 go_wp2_with (fail)
 go_loop [3] (fun i => ∃ k : Nat, k <= xs.length /\ i = .int .i64 k /\ zcT xs k) (fun i => xs.length - (intOf i).toNat)
 case atStart => exact ⟨0, Nat.zero_le _, rfl, fun j hj => absurd hj (by omega)⟩
 case round =>
  obtain ⟨k, hk, rfl, hs⟩ := hrel
  by_cases hlt : k < xs.length
  ·obtain ⟨b, o, rfl, hbB, hx⟩ := ha (by omega)
   have hck : w.cell? ⟨b, o + k, none⟩ = some (.int .i64 xs[k]) := hx k hlt
   clear hx ha
   by_cases he : 0 <= xs[k] /\ xs[k] <= 2
   ·have HS := Lib.hid (hs.step (by simpa [hlt, zbo] using he))
    clear hs
    go_wp2_with (go_at_call 96; refine (zgE _ _ _ _).mono ?_; rintro e w' ⟨rfl, rfl⟩)
    go_round
    case rel => exact ⟨k + 1, by omega, by go_num, HS.out⟩
    case measure => simp [intOf]; omega
   ·have hd : decide (0 <= xs[k] /\ xs[k] <= 2) = false := by simpa using he
    have HE := Lib.hid (zf5 hlt (by simpa [zbo] using he))
    clear hs he
    go_wp2_with (go_at_call 96; refine (zgE _ _ _ _).mono ?_; rintro e w' ⟨rfl, rfl⟩)
    go_ret
    exact ⟨zi (by simp [zr, HE.out]), rfl⟩
  ·have hkn : k = xs.length := by omega
   have HE := Lib.hid (show xs.all zbo = true from zcT.all (by rw [<- hkn]; exact hs))
   clear hkn hs ha
   go_wp2_with (fail)
   go_ret
   exact ⟨zi (by unfold zr; rw [HE.out]; simp; try omega), rfl⟩
set_option maxHeartbeats 400000 in
theorem zh1 (v : Value) (xs : List Int) (w : World) (h : zv w w.heap.size v xs) (hr : xs.length * 8 <= 140737488351232) :
 Calls Tryz.prog 38 #[v] w fun e w' => e = .returned (.bool (zr xs)) /\ Below w.heap.size w w' := by
 obtain ⟨A, c, rfl, hc, ha⟩ := h
 by_cases hl : xs.length <= 24
 ·go_enter Tryz.func38, Tryz.ntmps38
  go_wp2
  go_loopw [4, 10] (fun _ i wr => ∃ k : Nat, k <= xs.length /\ i = .int .i64 k /\ zcT xs k /\ Below w.heap.size w wr) (fun _ i _ => xs.length - (intOf i).toNat)
  case atStart => exact ⟨0, Nat.zero_le _, rfl, fun j hj => absurd hj (by omega), Below.refl _ _⟩
  case round =>
   obtain ⟨k, hk, rfl, hs, hbe⟩ := hrel
   by_cases hlt : k < xs.length
   ·obtain ⟨b, o, rfl, hbB, hx⟩ := ha (by omega)
    have hck : wr.cell? ⟨b, o + k, none⟩ = some (.int .i64 xs[k]) := (hbe.cell (p := ⟨b, o + k, none⟩) hbB).trans (hx k hlt)
    clear hx ha
    by_cases h0 : xs[k] < 0
    ·have HE := Lib.hid (zf5 hlt (by simp [zbo]; omega))
     clear hs
     go_wp2
     go_ret
     exact ⟨zi (by simp [zr, HE.out]), hbe⟩
    ·have hd : decide (xs[k] < 0) = false := by simpa using h0
     by_cases h2 : 2 < xs[k]
     ·have HE := Lib.hid (zf5 hlt (by simp [zbo]; omega))
      clear hs
      go_wp2
      go_ret
      exact ⟨zi (by simp [zr, HE.out]), hbe⟩
     ·have HS := Lib.hid (hs.step (by simp [hlt, zbo]; omega))
      clear hs
      go_wp2
      go_roundw
      case rel => exact ⟨k + 1, by omega, by go_num, HS.out, hbe⟩
      case measure => simp [intOf]; omega
   ·have hkn : k = xs.length := by omega
    have HE := Lib.hid (show xs.all zbo = true from zcT.all (by rw [<- hkn]; exact hs))
    have HL := Lib.hid hl
    clear hkn hs ha
    go_wp2
    go_ret
    exact ⟨zi (by unfold zr; rw [HE.out]; simp [HL.out]), hbe⟩
 ·have HL := Lib.hid hl
  have hg : (24 : Int) < xs.length := by omega
  clear ha
  go_enter Tryz.func38, Tryz.ntmps38
  go_wp2
  go_ret
  exact ⟨zi (by simp [zr, HL.out]), Below.refl _ _⟩
open Go.RowKit
def zbl (a b : Int) : Int := if a < b then -1 else if b < a then 1 else 0
def zar : List Int -> List Int -> Int
 | [], [] => 0
 | [], _ :: _ => -1
 | _ :: _, [] => 1
 | x :: xs, y :: ys => if x = y then zar xs ys else zbl x y
def zk (f g : zd) : Int := if f.1 = g.1 then zar f.2 g.2 else zbl f.1 g.1
theorem zfP {xs ys : List Int} {k : Nat} (h1 : k < xs.length) (h2 : k < ys.length) : zar (xs.drop k) (ys.drop k) = if xs[k] = ys[k] then zar (xs.drop (k + 1)) (ys.drop (k + 1)) else zbl xs[k] ys[k] := by
 rw [List.drop_eq_getElem_cons h1, List.drop_eq_getElem_cons h2]
 rfl
theorem zhr {xs ys : List Int} {k : Nat} (h1 : k < xs.length) (h2 : ys.length <= k) : zar (xs.drop k) (ys.drop k) = 1 := by
 rw [List.drop_eq_getElem_cons h1, List.drop_eq_nil_of_le h2]
 rfl
theorem zgg {xs ys : List Int} {k : Nat} (h1 : xs.length <= k) (h2 : k < ys.length) : zar (xs.drop k) (ys.drop k) = -1 := by
 rw [List.drop_eq_nil_of_le h1, List.drop_eq_getElem_cons h2]
 rfl
theorem zg0 {xs ys : List Int} {k : Nat} (h1 : xs.length <= k) (h2 : ys.length <= k) : zar (xs.drop k) (ys.drop k) = 0 := by
 rw [List.drop_eq_nil_of_le h1, List.drop_eq_nil_of_le h2]
 rfl
theorem zmY {a b : Int} (h : a ≠ b) : zbl a b ≠ 0 := by
 unfold zbl
 split
 ·omega
 ·split <;> omega
theorem zjX {a b : Int} (h : zbl a b = 0) : a = b := by
 unfold zbl at h
 split at h
 ·omega
 ·split at h <;> omega
theorem zjY (a : Int) : zbl a a = 0 := by simp [zbl]
def zcW (xs ys : List Int) (k : Nat) : Prop := zar xs ys = zar (xs.drop k) (ys.drop k)
theorem zhi (a : Int) (w : World) : Calls Tryz.prog 105 #[.int .i64 a] w fun e w' => e = .returned (.bool false) /\ w = w' := by
 have h : (a != a) = false := by simp
 go_enter Tryz.func105, Tryz.ntmps105
 go_wp2_with (fail)
 go_ret
 exact ⟨rfl, rfl⟩
set_option maxHeartbeats 400000 in
theorem zcQ (a b : Int) (w : World) : Calls Tryz.prog 69 #[.int .i64 a, .int .i64 b] w fun e w' => e = .returned (.int .i64 (zbl a b)) /\ w = w' := by
 by_cases h1 : a < b
 ·have HE := Lib.hid (show zbl a b = -1 by simp [zbl, h1])
  go_enter Tryz.func69, Tryz.ntmps69
  go_wp2_with (go_at_call 105; refine (zhi _ _).mono ?_; rintro e w' ⟨rfl, rfl⟩)
  go_ret
  exact ⟨zT HE.out.symm, rfl⟩
 ·by_cases h2 : b < a
  ·have HE := Lib.hid (show zbl a b = 1 by simp [zbl, h1, h2])
   go_enter Tryz.func69, Tryz.ntmps69
   go_wp2_with (go_at_call 105; refine (zhi _ _).mono ?_; rintro e w' ⟨rfl, rfl⟩)
   go_ret
   exact ⟨zT HE.out.symm, rfl⟩
  ·have HE := Lib.hid (show zbl a b = 0 by simp [zbl, h1, h2])
   go_enter Tryz.func69, Tryz.ntmps69
   go_wp2_with (go_at_call 105; refine (zhi _ _).mono ?_; rintro e w' ⟨rfl, rfl⟩)
   go_ret
   exact ⟨zT HE.out.symm, rfl⟩
theorem zc3 (a b : Int) (w : World) : Calls Tryz.prog 115 #[.int .i64 a, .int .i64 b] w fun e w' => e = .returned (.int .i64 (zbl a b)) /\ w = w' := by
 by_cases h1 : a < b
 ·have HE := Lib.hid (show zbl a b = -1 by simp [zbl, h1])
  go_enter Tryz.func115, Tryz.ntmps115
  go_wp2_with (fail)
  go_ret
  exact ⟨zT HE.out.symm, rfl⟩
 ·by_cases h2 : b < a
  ·have HE := Lib.hid (show zbl a b = 1 by simp [zbl, h1, h2])
   go_enter Tryz.func115, Tryz.ntmps115
   go_wp2_with (fail)
   go_ret
   exact ⟨zT HE.out.symm, rfl⟩
  ·have HE := Lib.hid (show zbl a b = 0 by simp [zbl, h1, h2])
   go_enter Tryz.func115, Tryz.ntmps115
   go_wp2_with (fail)
   go_ret
   exact ⟨zT HE.out.symm, rfl⟩
set_option maxHeartbeats 400000 in
theorem zd5 (va vb : Value) (xs ys : List Int) (w : World) (ha : zv w w.heap.size va xs) (hb : zv w w.heap.size vb ys) (hr : xs.length * 8 <= 140737488351232) (hr2 : ys.length * 8 <= 140737488351232) :
 Calls Tryz.prog 70 #[va, vb] w fun e w' => e = .returned (.int .i64 (zar xs ys)) /\ w = w' := by
 obtain ⟨A, c, rfl, hc, ha⟩ := ha
 obtain ⟨A2, c2, rfl, hc2, hb⟩ := hb
 go_enter Tryz.func70, Tryz.ntmps70
 go_wp2_with (fail)
 go_loop [5, 6, 7, 8, 11] (fun _ _ _ _ i => ∃ k : Nat, k <= xs.length /\ i = .int .i64 k /\ (0 < k -> k <= ys.length) /\ zcW xs ys k) (fun _ _ _ _ i => xs.length - (intOf i).toNat)
 case atStart => exact ⟨0, Nat.zero_le _, rfl, fun h => absurd h (by omega), rfl⟩
 case round =>
  obtain ⟨k, hk, rfl, hky, hs⟩ := hrel
  by_cases hlt : k < xs.length
  ·obtain ⟨b, o, rfl, hbB, hx⟩ := ha (by omega)
   have hck := hx k hlt
   by_cases hlt2 : k < ys.length
   ·obtain ⟨b2, o2, rfl, hbB2, hx2⟩ := hb (by omega)
    have hck2 := hx2 k hlt2
    have hge : ¬ ys.length <= k := by omega
    clear hx hx2 ha hb
    by_cases he : xs[k] = ys[k]
    ·have HS := Lib.hid (show zcW xs ys (k + 1) by unfold zcW at hs ⊢; rw [hs, zfP hlt hlt2, if_pos he])
     have h0 : (zbl xs[k] ys[k] != 0) = false := by rw [he, zjY]; rfl
     clear he hs hky
     go_wp2_with (go_at_call 69; refine (zcQ _ _ _).mono ?_; rintro e w' ⟨rfl, rfl⟩)
     go_round
     case rel => exact ⟨k + 1, by omega, by go_num, fun _ => by omega, HS.out⟩
     case measure => simp [intOf]; omega
    ·have HS := Lib.hid (show zar xs ys = zbl xs[k] ys[k] by unfold zcW at hs; rw [hs, zfP hlt hlt2, if_neg he])
     have h0 : (zbl xs[k] ys[k] != 0) = true := by simp [zmY he]
     clear he hs hky
     go_wp2_with (go_at_call 69; refine (zcQ _ _ _).mono ?_; rintro e w' ⟨rfl, rfl⟩)
     go_ret
     exact ⟨zT HS.out.symm, rfl⟩
   ·have HS := Lib.hid (show zar xs ys = 1 by unfold zcW at hs; rw [hs, zhr hlt (by omega)])
    have hge : ys.length <= k := by omega
    clear hs hky hx ha hb
    go_wp2_with (fail)
    go_ret
    exact ⟨zT HS.out.symm, rfl⟩
  ·have hkn : xs.length = k := by omega
   by_cases hlt2 : xs.length < ys.length
   ·have HS := Lib.hid (show zar xs ys = -1 by unfold zcW at hs; rw [hs, zgg (by omega) (by omega)])
    clear hs hky hkn ha hb
    go_wp2_with (fail)
    go_ret
    exact ⟨zT HS.out.symm, rfl⟩
   ·have HS := Lib.hid (show zar xs ys = 0 by
     unfold zcW at hs
     rcases Nat.eq_zero_or_pos k with h0 | h0
     ·rw [hs, zg0 (by omega) (by omega)]
     ·rw [hs, zg0 (by omega) (by have := hky h0; omega)])
    clear hs hky hkn ha hb
    go_wp2_with (fail)
    go_ret
    exact ⟨zT HS.out.symm, rfl⟩
open Go.RowKit
def orI (a b : Int) : Int := if a = 0 then b else a
set_option maxHeartbeats 400000 in
theorem zjW (v : Value) (a b : Int) (w : World) (h : zv w w.heap.size v [a, b]) :
 Calls Tryz.prog 68 #[v] w fun e w' => e = .returned (.int .i64 (orI a b)) /\ w = w' := by
 obtain ⟨A, c, rfl, hc, ha⟩ := h
 obtain ⟨bb, o, rfl, hbB, hx⟩ := ha (by simp)
 have h0 : w.cell? ⟨bb, o, none⟩ = some (.int .i64 a) := by simpa using hx 0 (by simp)
 have h1 : w.cell? ⟨bb, o + 1, none⟩ = some (.int .i64 b) := by simpa using hx 1 (by simp)
 clear hx ha
 have hll : ([a, b] : List Int).length = 2 := rfl
 rw [hll]
 go_enter Tryz.func68, Tryz.ntmps68
 go_wp2_with (fail)
 go_loop [5, 8] (fun _ i => ∃ k : Nat, k <= 2 /\ i = .int .i64 k /\ (0 < k -> a = 0) /\ (1 < k -> b = 0)) (fun _ i => 2 - (intOf i).toNat)
 case atStart => exact ⟨0, by omega, rfl, fun h => absurd h (by omega), fun h => absurd h (by omega)⟩
 case round =>
  obtain ⟨k, hk, rfl, hk0, hk1⟩ := hrel
  match k, hk with
  | 0, _ =>
   clear hk0 hk1
   by_cases ha0 : a = 0
   ·subst ha0
    go_wp2_with (fail)
    go_round
    case rel => exact ⟨1, by omega, rfl, by simp, fun h => absurd h (by omega)⟩
    case measure => simp [intOf]
   ·have hb : (a != 0) = true := by simpa using ha0
    have HE := Lib.hid (show orI a b = a by simp [orI, ha0])
    clear ha0
    go_wp2_with (fail)
    go_ret
    exact ⟨zT HE.out.symm, rfl⟩
  | 1, _ =>
   have ha0 := hk0 (by omega)
   clear hk0 hk1
   subst ha0
   by_cases hb0 : b = 0
   ·subst hb0
    go_wp2_with (fail)
    go_round
    case rel => exact ⟨2, by omega, rfl, by simp, by simp⟩
    case measure => simp [intOf]
   ·have hb : (b != 0) = true := by simpa using hb0
    have HE := Lib.hid (show orI 0 b = b by simp [orI])
    clear hb0
    go_wp2_with (fail)
    go_ret
    exact ⟨zT HE.out.symm, rfl⟩
  | 2, _ =>
   have ha0 := hk0 (by omega)
   have hb0 := hk1 (by omega)
   clear hk0 hk1
   subst ha0
   subst hb0
   go_wp2_with (fail)
   go_ret
   exact ⟨zT rfl, rfl⟩
theorem zgW (f g : zd) : orI (zbl f.1 g.1) (zar f.2 g.2) = zk f g := by
 unfold orI zk
 by_cases h : f.1 = g.1
 ·rw [if_pos h, h, zjY, if_pos rfl]
 ·rw [if_neg h, if_neg (zmY h)]
set_option maxHeartbeats 400000 in
theorem zcK (v v2 : Value) (f g : zd) (w : World) (h : zU w w.heap.size v f) (h2 : zU w w.heap.size v2 g) (hn : f.2.length <= 1048576) (hn2 : g.2.length <= 1048576) :
 Calls Tryz.prog 32 #[v, v2] w fun e w' => e = .returned (.int .i64 (zk f g)) /\ Below w.heap.size w w' := by
 obtain ⟨a, rfl, h⟩ := h
 have H := Lib.hid h
 obtain ⟨A, c, rfl, hc, _⟩ := h
 obtain ⟨a, rfl, h2⟩ := h2
 have H2 := Lib.hid h2
 obtain ⟨A2, c2, rfl, hc2, _⟩ := h2
 have HF := Lib.hid (zgW f g)
 go_enter Tryz.func32, Tryz.ntmps32
 go_wp2_with (fail)
 obtain ⟨w1, hw1⟩ : ∃ w1, w1 = ((w.alloc (Obj.cells #[Value.int IntKind.i64 f.1, Value.slice A f.2.length c] 39)).alloc (Obj.cells #[Value.int IntKind.i64 g.1, Value.slice A2 g.2.length c2] 39)) := ⟨_, rfl⟩
 have B1 : Below w.heap.size w w1 := by rw [hw1]; exact za0 _ _ _
 have k0 : Blk w1 w.heap.size 39 #[.int .i64 f.1, .slice A f.2.length c] := by rw [hw1]; exact (Blk.new w _ _).alloc _
 have k1 : Blk w1 (w.heap.size + 1) 39 #[.int .i64 g.1, .slice A2 g.2.length c2] := by rw [hw1]; simpa using Blk.new (w.alloc (Obj.cells #[Value.int IntKind.i64 f.1, Value.slice A f.2.length c] 39)) 39 #[.int .i64 g.1, .slice A2 g.2.length c2]
 rw [<- hw1]
 clear hw1
 have HS0 := Lib.hid (show ∀ W, Below w1.heap.size w1 W -> (Below w1.heap.size w1 W /\ W.cell? ⟨w.heap.size, 0, none⟩ = some (.int .i64 f.1) /\ W.cell? ⟨w.heap.size, 1, none⟩ = some (.slice A f.2.length c) /\ W.cell? ⟨w.heap.size + 1, 0, none⟩ = some (.int .i64 g.1) /\ W.cell? ⟨w.heap.size + 1, 1, none⟩ = some (.slice A2 g.2.length c2)) from
  fun W hW => ⟨hW, (k0.below hW k0.lt).cell 0, (k0.below hW k0.lt).cell 1, (k1.below hW k1.lt).cell 0, (k1.below hW k1.lt).cell 1⟩)
 go_region_held3 (fun W => Below w1.heap.size w1 W /\ W.cell? ⟨w.heap.size, 0, none⟩ = some (.int .i64 f.1) /\ W.cell? ⟨w.heap.size, 1, none⟩ = some (.slice A f.2.length c) /\ W.cell? ⟨w.heap.size + 1, 0, none⟩ = some (.int .i64 g.1) /\ W.cell? ⟨w.heap.size + 1, 1, none⟩ = some (.slice A2 g.2.length c2))
  (first | assumption | exact HS0.out _ (Below.refl _ _) | exact HS0.out _ (ze _ _).drew | exact HS0.out _ (Below.refl _ _).drew | exact HS0.out _ (zf (And.left (by assumption)) (by assumption)) | (refine HS0.out _ ?_; go_goals; fail))
  (first
    | (go_at_call 69; refine (zcQ _ _ _).mono ?_; rintro e w' ⟨rfl, rfl⟩)
    | (go_at_call 70; refine (zd5 _ _ f.2 g.2 _ ?_ ?_ (by omega) (by omega)).mono ?_; exact H.out.on (zf B1 (And.left (by assumption))); exact H2.out.on (zf B1 (And.left (by assumption))); rintro e w' ⟨rfl, rfl⟩)
    | (go_at_call 68; refine (zjW _ (zbl f.1 g.1) (zar f.2 g.2) _ ?_).mono ?_; exact zhK _ _ _; rintro e w' ⟨rfl, rfl⟩))
 all_goals
  go_wp2_with (fail)
  go_ret
  exact ⟨zT HF.out, zf B1 (And.left (by assumption))⟩
open Go.RowKit
set_option maxHeartbeats 1000000 in
theorem zcF (v v2 : Value) (f g : zd) (w : World) (h : zU w w.heap.size v f) (h2 : zU w w.heap.size v2 g) (hn : f.2.length <= 1048576) (hn2 : g.2.length <= 1048576) :
 Calls Tryz.prog 80 #[v, v2] w fun e w' => e = .returned (.int .i64 (zk f g)) /\ Below w.heap.size w w' := by
 obtain ⟨p, xs⟩ := f
 obtain ⟨q, ys⟩ := g
 obtain ⟨a, rfl, A, c, rfl, hc, ha⟩ := h
 obtain ⟨a, rfl, A2, c2, rfl, hc2, hb⟩ := h2
 simp only at ha hb hn hn2 hc hc2
 by_cases hp : p = q
 ·subst hp
  have hpb : (p != p) = false := by simp
  have HE := Lib.hid (show zk (p, xs) (p, ys) = zar xs ys by simp [zk])
  go_enter Tryz.func80, Tryz.ntmps80
  go_wp2_with (fail)
  obtain ⟨w1, hw1⟩ : ∃ w1, w1 = ((w.alloc (Obj.cells #[Value.int IntKind.i64 p, Value.slice A xs.length c] 39)).alloc (Obj.cells #[Value.int IntKind.i64 p, Value.slice A2 ys.length c2] 39)) := ⟨_, rfl⟩
  have B1 : Below w.heap.size w w1 := by rw [hw1]; exact za0 _ _ _
  have k0 : Blk w1 w.heap.size 39 #[.int .i64 p, .slice A xs.length c] := by rw [hw1]; exact (Blk.new w _ _).alloc _
  have k1 : Blk w1 (w.heap.size + 1) 39 #[.int .i64 p, .slice A2 ys.length c2] := by rw [hw1]; simpa using Blk.new (w.alloc (Obj.cells #[Value.int IntKind.i64 p, Value.slice A xs.length c] 39)) 39 #[.int .i64 p, .slice A2 ys.length c2]
  rw [<- hw1]
  clear hw1
  go_loopw [5] (fun i wr => ∃ k : Nat, k <= xs.length /\ k <= ys.length /\ i = .int .i64 k /\ zcW xs ys k /\ Below w1.heap.size w1 wr) (fun i _ => xs.length - (intOf i).toNat)
  case atStart => exact ⟨0, Nat.zero_le _, Nat.zero_le _, rfl, rfl, Below.refl _ _⟩
  case round =>
   obtain ⟨k, hk, hk2, rfl, hs, hbe⟩ := hrel
   have c0 : wr.cell? ⟨w.heap.size, 1, none⟩ = some (.slice A xs.length c) := (k0.below hbe k0.lt).cell 1
   have c1 : wr.cell? ⟨w.heap.size + 1, 1, none⟩ = some (.slice A2 ys.length c2) := (k1.below hbe k1.lt).cell 1
   by_cases hlt : k < xs.length
   ·have hd : decide ((k : Int) < (xs.length : Int)) = true := by simp; omega
    by_cases hlt2 : k < ys.length
    ·obtain ⟨b, o, rfl, hbB, hx⟩ := ha (by omega)
     obtain ⟨b2, o2, rfl, hbB2, hx2⟩ := hb (by omega)
     have hB := zf B1 hbe
     have hck : wr.cell? ⟨b, o + k, none⟩ = some (.int .i64 xs[k]) := (hB.cell (p := ⟨b, o + k, none⟩) hbB).trans (hx k hlt)
     have hck2 : wr.cell? ⟨b2, o2 + k, none⟩ = some (.int .i64 ys[k]) := (hB.cell (p := ⟨b2, o2 + k, none⟩) hbB2).trans (hx2 k hlt2)
     clear hx hx2 ha hb hB
     by_cases he : xs[k] = ys[k]
     ·have HS := Lib.hid (show zcW xs ys (k + 1) by unfold zcW at hs ⊢; rw [hs, zfP hlt hlt2, if_pos he])
      have h0 : (xs[k] != ys[k]) = false := by simp [he]
      clear he hs
      go_wp2_with (fail)
      go_quiet (fail)
      go_wp2_with (fail)
      go_roundw
      case rel => exact ⟨k + 1, by omega, by omega, by go_num, HS.out, zX hbe _⟩
      case measure => simp [intOf]; omega
     ·have HS := Lib.hid (show zar xs ys = zbl xs[k] ys[k] by unfold zcW at hs; rw [hs, zfP hlt hlt2, if_neg he])
      have h0 : (xs[k] != ys[k]) = true := by simp [he]
      clear he hs
      go_wp2_with (fail)
      go_quiet (fail)
      go_wp2_with (fail)
      go_quiet ((go_at_call 115; exact zfq (zc3 _ _ _)))
      go_wp2_with (fail)
      go_ret
      exact ⟨zT (by rw [HE.out, HS.out]), zf B1 (zX (zX hbe _) _)⟩
    ·have HS := Lib.hid (show zar xs ys = zbl xs.length ys.length by
      unfold zcW at hs
      rw [hs, zhr hlt (by omega), zbl, if_neg (by omega), if_pos (by omega)])
     clear hs ha hb
     go_wp2_with (go_at_call 115; refine (zc3 _ _ _).mono ?_; rintro e w' ⟨rfl, rfl⟩)
     go_ret
     exact ⟨zT (by rw [HE.out, HS.out]), zf B1 hbe⟩
   ·have hd : decide ((k : Int) < (xs.length : Int)) = false := by simp; omega
    have HS := Lib.hid (show zar xs ys = zbl xs.length ys.length by
     unfold zcW at hs
     by_cases h3 : xs.length < ys.length
     ·rw [hs, zgg (by omega) (by omega), zbl, if_pos (by omega)]
     ·rw [hs, zg0 (by omega) (by omega), zbl, if_neg (by omega), if_neg (by omega)])
    clear hs ha hb
    go_wp2_with (go_at_call 115; refine (zc3 _ _ _).mono ?_; rintro e w' ⟨rfl, rfl⟩)
    go_ret
    exact ⟨zT (by rw [HE.out, HS.out]), zf B1 hbe⟩
 ·have hpb : (p != q) = true := by simp [hp]
  have HE := Lib.hid (show zk (p, xs) (q, ys) = zbl p q by simp [zk, hp])
  clear hp ha hb
  go_enter Tryz.func80, Tryz.ntmps80
  go_wp2_with (go_at_call 115; refine (zc3 _ _ _).mono ?_; rintro e w' ⟨rfl, rfl⟩)
  go_ret
  exact ⟨zT HE.out.symm, za0 _ _ _⟩
open Go.RowKit
theorem zu.get {w : World} {B c : Nat} {A : Option Addr} {fs : List zd} (h : zu w B (.slice A fs.length c) fs) {k : Nat} (hk : k < fs.length) : ∃ b o A3 c3, A = some ⟨b, o, none⟩ /\ b < B /\
 w.cell? ⟨b, o + k * 2, none⟩ = some (.int .i64 fs[k].1) /\ w.cell? ⟨b, o + k * 2 + 1, none⟩ = some (.slice A3 fs[k].2.length c3) /\ zv w B (.slice A3 fs[k].2.length c3) fs[k].2 := by
 obtain ⟨A', c', e, hc, h⟩ := h
 injection e with e1 e2 e3
 subst e1
 obtain ⟨b, o, rfl, hb, hx⟩ := h (by omega)
 obtain ⟨a, h1, h2, h3⟩ := hx k hk
 have h4 := h3
 obtain ⟨A3, c3, rfl, _⟩ := h3
 exact ⟨b, o, A3, c3, rfl, hb, h1, h2, h4⟩
def zaQ (fs : List zd) (f : zd) : Bool := fs.any fun g => zk g f == 0
def zc8 (fs : List zd) (f : zd) (k : Nat) : Prop := zaQ (fs.take k) f = false
theorem zc8.step {fs : List zd} {f : zd} {k : Nat} (h : zc8 fs f k) (hk : k < fs.length) (e : zk fs[k] f ≠ 0) : zc8 fs f (k + 1) := by
 unfold zc8 zaQ at h ⊢
 rw [zH fs k hk, List.any_append, h]
 simp [e]
theorem zc8.done {fs : List zd} {f : zd} (h : zc8 fs f fs.length) : zaQ fs f = false := by
 unfold zc8 at h
 rwa [List.take_length] at h
theorem zmX {fs : List zd} {f : zd} {k : Nat} (hk : k < fs.length) (e : zk fs[k] f = 0) : zaQ fs f = true := by
 unfold zaQ
 rw [List.any_eq_true]
 exact ⟨fs[k], List.getElem_mem hk, by simp [e]⟩
set_option maxHeartbeats 1000000 in
theorem zey (v v2 : Value) (fs : List zd) (f : zd) (w : World) (h : zu w w.heap.size v fs) (h2 : zU w w.heap.size v2 f) (hn : fs.length <= 1048576) (ht : tot fs <= 1048576) (hf : f.2.length <= 1048576) :
 Calls Tryz.prog 58 #[v, v2] w fun e w' => e = .returned (.bool (zaQ fs f)) /\ Below w.heap.size w w' := by
 have H := Lib.hid h
 have H2 := Lib.hid h2
 obtain ⟨A, c, rfl, hc, _⟩ := h
 obtain ⟨a, rfl, A2, c2, rfl, hc2, _⟩ := h2
 go_enter Tryz.func58, Tryz.ntmps58
 go_wp2_with (fail)
 obtain ⟨w1, hw1⟩ : ∃ w1, w1 = (w.alloc (Obj.cells #[Value.int IntKind.i64 f.1, Value.slice A2 f.2.length c2] 39)) := ⟨_, rfl⟩
 have B1 : Below w.heap.size w w1 := by rw [hw1]; exact ze _ _
 have k0 : Blk w1 w.heap.size 39 #[.int .i64 f.1, .slice A2 f.2.length c2] := by rw [hw1]; exact Blk.new w _ _
 rw [<- hw1]
 clear hw1
 go_loopw [5] (fun i wr => ∃ k : Nat, k <= fs.length /\ i = .int .i64 k /\ zc8 fs f k /\ Below w1.heap.size w1 wr) (fun i _ => fs.length - (intOf i).toNat)
 case atStart => exact ⟨0, Nat.zero_le _, rfl, by simp [zc8, zaQ], Below.refl _ _⟩
 case round =>
  obtain ⟨k, hk, rfl, hs, hbe⟩ := hrel
  by_cases hlt : k < fs.length
  ·have hB := zf B1 hbe
   obtain ⟨b, o, A3, c3, rfl, hbB, k1, k2, k3⟩ := (H.out.on hB).get hlt
   have q0 : wr.cell? ⟨w.heap.size, 0, none⟩ = some (.int .i64 f.1) := (k0.below hbe k0.lt).cell 0
   have q1 : wr.cell? ⟨w.heap.size, 1, none⟩ = some (.slice A2 f.2.length c2) := (k0.below hbe k0.lt).cell 1
   have K3 := Lib.hid k3
   have hln := zaz fs k hlt
   clear k3
   go_wp2_with (fail)
   go_still_tail 5, (by kernel_rfl)
   change wpList _ _ _ _ _ wr.drew
   obtain ⟨w2, hw2⟩ : ∃ w2, w2 = wr.drew := ⟨_, rfl⟩
   rw [<- hw2]
   have hb2 : Below wr.heap.size wr w2 := by rw [hw2]; exact (Below.refl _ _).drew
   clear hw2
   go_wp2_with (fail)
   refine (zcF _ _ fs[k] f _ ⟨_, rfl, K3.out.on hb2⟩ (H2.out.on (zf hB hb2)) (by omega) hf).mono ?_
   rintro e w3 ⟨rfl, hb3⟩
   have hB3 := zf (zf hbe hb2) hb3
   by_cases he : zk fs[k] f = 0
   ·have hz : (zk fs[k] f == 0) = true := by simp [he]
    have HS := Lib.hid (zmX hlt he)
    clear he hs
    go_wp2_with (fail)
    go_ret
    exact ⟨zi HS.out.symm, zf B1 hB3⟩
   ·have hz : (zk fs[k] f == 0) = false := by simp [he]
    have HS := Lib.hid (hs.step hlt he)
    clear he hs
    go_wp2_with (fail)
    go_roundw
    case rel => exact ⟨k + 1, by omega, by go_num, HS.out, hB3⟩
    case measure => simp [intOf]; omega
  ·have hkn : k = fs.length := by omega
   have HS := Lib.hid (show zaQ fs f = false from zc8.done (by rw [<- hkn]; exact hs))
   clear hkn hs
   go_wp2_with (fail)
   go_ret
   exact ⟨zi HS.out.symm, zf B1 hbe⟩
set_option maxHeartbeats 1000000 in
theorem zhl (v v2 : Value) (fs : List zd) (f : zd) (w : World) (h : zu w w.heap.size v fs) (h2 : zU w w.heap.size v2 f) (hn : fs.length <= 1048576) (ht : tot fs <= 1048576) (hf : f.2.length <= 1048576) :
 Calls Tryz.prog 25 #[v, v2] w fun e w' => e = .returned (.bool (zaQ fs f)) /\ Below w.heap.size w w' := by
 have H := Lib.hid h
 have H2 := Lib.hid h2
 obtain ⟨A, c, rfl, hc, _⟩ := h
 obtain ⟨a, rfl, A2, c2, rfl, hc2, _⟩ := h2
 go_enter Tryz.func25, Tryz.ntmps25
 go_wp2_with (fail)
 obtain ⟨w1, hw1⟩ : ∃ w1, w1 = (w.alloc (Obj.cells #[Value.int IntKind.i64 f.1, Value.slice A2 f.2.length c2] 39)) := ⟨_, rfl⟩
 have B1 : Below w.heap.size w w1 := by rw [hw1]; exact ze _ _
 have k0 : Blk w1 w.heap.size 39 #[.int .i64 f.1, .slice A2 f.2.length c2] := by rw [hw1]; exact Blk.new w _ _
 rw [<- hw1]
 clear hw1
 go_loopw [6, 9] (fun _ i wr => ∃ k : Nat, k <= fs.length /\ i = .int .i64 k /\ zc8 fs f k /\ Below w1.heap.size w1 wr) (fun _ i _ => fs.length - (intOf i).toNat)
 case atStart => exact ⟨0, Nat.zero_le _, rfl, by simp [zc8, zaQ], Below.refl _ _⟩
 case round =>
  obtain ⟨k, hk, rfl, hs, hbe⟩ := hrel
  by_cases hlt : k < fs.length
  ·have hB := zf B1 hbe
   obtain ⟨b, o, A3, c3, rfl, hbB, k1, k2, k3⟩ := (H.out.on hB).get hlt
   have q0 : ∀ O, (wr.alloc O).cell? ⟨w.heap.size, 0, none⟩ = some (.int .i64 f.1) := fun O => ((k0.below hbe k0.lt).alloc O).cell 0
   have q1 : ∀ O, (wr.alloc O).cell? ⟨w.heap.size, 1, none⟩ = some (.slice A2 f.2.length c2) := fun O => ((k0.below hbe k0.lt).alloc O).cell 1
   have K3 := Lib.hid k3
   have hln := zaz fs k hlt
   clear k3
   go_wp2_with (fail)
   refine (zcK _ _ fs[k] f _ ⟨_, rfl, K3.out.on (ze _ _)⟩ (H2.out.on (zf hB (ze _ _))) (by omega) hf).mono ?_
   rintro e w3 ⟨rfl, hb3⟩
   have hB3 := zf hbe (zf (ze _ _) hb3)
   by_cases he : zk fs[k] f = 0
   ·have hz : (zk fs[k] f == 0) = true := by simp [he]
    have HS := Lib.hid (zmX hlt he)
    clear he hs q0 q1
    go_wp2_with (fail)
    go_ret
    exact ⟨zi HS.out.symm, zf B1 hB3⟩
   ·have hz : (zk fs[k] f == 0) = false := by simp [he]
    have HS := Lib.hid (hs.step hlt he)
    clear he hs q0 q1
    go_wp2_with (fail)
    go_roundw
    case rel => exact ⟨k + 1, by omega, by go_num, HS.out, hB3⟩
    case measure => simp [intOf]; omega
  ·have hkn : k = fs.length := by omega
   have HS := Lib.hid (show zaQ fs f = false from zc8.done (by rw [<- hkn]; exact hs))
   clear hkn hs
   go_wp2_with (fail)
   go_ret
   exact ⟨zi HS.out.symm, zf B1 hbe⟩
open Go.RowKit
theorem zdc (f : zd) (fs : List zd) : tot (f :: fs) = f.2.length + tot fs := by simp [tot]
theorem zdJ (xs ys : List zd) : tot (xs ++ ys) = tot xs + tot ys := by simp [tot]
theorem zhD (fs : List zd) (j : Nat) : tot (fs.take j) <= tot fs := by
 have := zdJ (fs.take j) (fs.drop j)
 rw [List.take_append_drop] at this
 omega
structure zeG (w : World) (lo hi : Nat) (v : Value) (fs : List zd) (av : List Value) : Prop where
 args : zbd w lo hi av (fs.map (·.2))
 row : w.ownsRow lo 39 2 v fs.length (zaP fs av)
 lt : ∀ g, v.ownBlock = some g -> g < hi
theorem zeG.own {w : World} {lo hi : Nat} {v : Value} {fs : List zd} {av : List Value} (h : zeG w lo hi v fs av) : zq w lo hi v fs := ⟨av, h.args, h.row, h.lt⟩
theorem zgO : ∀ (fs : List zd) (av : List Value) (j : Nat) (f : zd), av.length = fs.length -> zaP (fs.set j f) av = (zaP fs av).set (j * 2) (.int .i64 f.1)
 | [], [], _, _, _ => rfl
 | [], a :: av, _, _, h => by simp at h
 | g :: fs, [], _, _, h => by simp at h
 | g :: fs, a :: av, 0, f, _ => by simp [zaP]
 | g :: fs, a :: av, j + 1, f, h => by
  have := zgO fs av j f (by simpa using h)
  simp [zaP, Nat.add_mul, this]
theorem zik {w : World} {lo hi lo' g : Nat} {n : Nat} {v a : Value} {zs : List Value} {xs : List Int} (hr : w.ownsRow lo' 39 2 v n zs) (hv : v.ownBlock = some g) (ha : zg w lo hi a xs) : a.ownBlock ≠ some g := by
 rcases hr.2 with ⟨rfl, _⟩ | ⟨g1, c1, cur1, rfl, _, h1, _⟩
 ·cases hv
 ·have e : g1 = g := by simpa [Value.ownBlock] using hv
  subst e
  rcases ha.1.2 with ⟨rfl, _⟩ | ⟨g2, c2, cur2, rfl, _, h2, _⟩
  ·simp [Value.ownBlock]
  ·intro e
   have e : g2 = g1 := by simpa [Value.ownBlock] using e
   subst e
   rw [h1] at h2
   injection h2 with h2
   injection h2 with _ h2
   exact absurd h2 (by decide)
theorem zeG.step {w w3 : World} {lo hi g j c : Nat} {fs : List zd} {av : List Value} {p : Int} {ys : List Int} (h : zeG w lo hi (.slice (some ⟨g, 0, none⟩) fs.length c) fs av) (hj : j < fs.length) (hja : j < av.length)
 (hI : zg w3 lo hi av[j] ys) (hg : (w.setCell ⟨g, j * 2, none⟩ (.int .i64 p)).grownBy w3 av[j].ownBlock) : zeG w3 lo hi (.slice (some ⟨g, 0, none⟩) fs.length c) (fs.set j (p, ys)) av := by
 obtain ⟨ha, hr, hlt⟩ := h
 have hlen : av.length = fs.length := by simpa using ha.len
 have hapart : ∀ i i' (hi' : i < av.length) (hi'' : i' < av.length), i ≠ i' -> ∀ b, av[i].ownBlock = some b -> av[i'].ownBlock ≠ some b := by
  intro i i' h1 h2 hne b hb hb'
  have hp := List.pairwise_iff_getElem.1 ha.apart
  rcases Nat.lt_or_gt_of_ne hne with hl | hl
  ·exact hp i i' h1 h2 hl b hb hb'
  ·exact hp i' i h2 h1 hl b hb' hb
 have hown : ∀ i (h1 : i < (fs.map (·.2)).length) (h2 : i < av.length), zg w lo hi av[i] (fs.map (·.2))[i] := ha.own
 refine ⟨⟨by simp [hlen], fun i h1 h2 => ?_, ha.apart⟩, ?_, hlt⟩
 ·by_cases e : i = j
  ·subst e
   simpa using hI
  ·have h0 := hown i (by simpa using h1) h2
   have hz : ((fs.set j (p, ys)).map (·.2))[i] = (fs.map (·.2))[i]'(by simpa using h1) := by
    simp [Ne.symm e]
   rw [hz]
   refine h0.kept fun b hb => ?_
   have hbg := zik hr rfl h0
   have hne : b ≠ g := fun e => hbg (by rw [hb, e])
   have hbl := h0.lt hb
   rw [hg.block b (by simpa using hbl.2.2) (fun e2 => hapart i j h2 hja e b hb e2.symm)]
   exact Below.heap_setCell _ _ _ _ hne
 ·obtain ⟨hfl, hr2⟩ := hr
  have hgj := zik ⟨hfl, hr2⟩ rfl (hown j (by simpa using hj) hja)
  rcases hr2 with ⟨e, _⟩ | ⟨g', cap, cur, e, hbg, hgg, hn, hm, hs, ht⟩
  ·cases e
  ·injection e with e1 e2 e3
   injection e1 with e1
   injection e1 with e1 _ _
   subst e1
   subst e3
   have hgs := (Array.getElem?_eq_some_iff.1 hgg).1
   refine ⟨by rw [zgO _ _ _ _ hlen]; simpa using hfl, .inr ⟨g, c, cur.setIfInBounds (j * 2) (.int .i64 p), by simp, hbg, ?_, by simpa using hn, hm, by simpa using hs, ?_⟩⟩
   ·rw [hg.block g (by simpa using hgs) (fun e2 => hgj e2.symm)]
    simp [World.setCell, Array.getElem?_modify, hgg]
   ·rw [zgO _ _ _ _ hlen, List.length_set, Array.toList_setIfInBounds, List.take_set, ht]
theorem zeG.form {w : World} {lo hi : Nat} {v : Value} {fs : List zd} {av : List Value} (h : zeG w lo hi v fs av) : ∃ A c, v = .slice A fs.length c /\ (0 < fs.length -> ∃ g, A = some ⟨g, 0, none⟩ /\ lo <= g /\ g < hi) := by
 rcases h.row.2 with ⟨rfl, h0⟩ | ⟨g, cap, _, rfl, hb, _⟩
 ·exact ⟨none, 0, by rw [h0], fun hn => by omega⟩
 ·exact ⟨_, _, rfl, fun _ => ⟨g, rfl, hb, h.lt g rfl⟩⟩
theorem zq.form {w : World} {lo hi : Nat} {v : Value} {fs : List zd} (h : zq w lo hi v fs) : ∃ A c, v = .slice A fs.length c := by
 obtain ⟨av, h1, h2, h3⟩ := h
 obtain ⟨A, c, e, _⟩ := (zeG.mk h1 h2 h3).form
 exact ⟨A, c, e⟩
theorem zeG.get {w : World} {lo hi g c j : Nat} {fs : List zd} {av : List Value} (h : zeG w lo hi (.slice (some ⟨g, 0, none⟩) fs.length c) fs av) (hj : j < fs.length) (hja : j < av.length) :
 w.cell? ⟨g, j * 2, none⟩ = some (.int .i64 fs[j].1) /\ w.frozen? ⟨g, j * 2, none⟩ = false /\ w.cell? ⟨g, j * 2 + 1, none⟩ = some av[j] := by
 have hl : av.length = fs.length := by simpa using h.args.len
 have hcells := @World.ownsRow.cells w lo 39 2 _ fs.length (zaP fs av) h.row g rfl
 have h1 := hcells _ _ (zcM fs av hl j hj hja).1
 have h2 := hcells _ _ (zcM fs av hl j hj hja).2
 rw [Go.WideShapes.add_plain, Nat.zero_add] at h1 h2
 refine ⟨h1, ?_, h2⟩
 rcases h.row.2 with ⟨e, _⟩ | ⟨g', cap, cur, e, _, hgg, _⟩
 ·cases e
 ·injection e with e1 _ _
  injection e1 with e1
  injection e1 with e1 _ _
  subst e1
  simp [World.frozen?, hgg]
open Go.RowKit
theorem zeG.push {wr w2 w4 : World} {lo hi : Nat} {v v' a : Value} {gs : List zd} {av : List Value} {f : zd} {o : Obj} (h : zeG wr lo hi v gs av) (hhi : hi <= wr.heap.size) (hlo : lo <= hi) (hb : Below wr.heap.size wr w2)
 (ha : zg w2 wr.heap.size w2.heap.size a f.2) (hg : (w2.alloc o).grownBy w4 v.ownBlock) (hown : w4.ownsRow lo 39 2 v' (gs.length + 1) (zaP gs av ++ [.int .i64 f.1, a])) : zq w4 lo w4.heap.size v' (gs ++ [f]) := by
 have hg' := zy hg
 have hlen : av.length = gs.length := by simpa using h.args.len
 have hrow2 := zaB h.row h.lt hb hhi
 have hargs2 : zbd w2 lo w2.heap.size (av ++ [a]) (gs.map (·.2) ++ [f.2]) := ((h.args.below hb hhi).mono (Nat.le_refl _) hhi).snoc ha (by omega) hb.size
 refine ⟨av ++ [a], ⟨by simp [hlen], fun i h1 h2 => ?_, hargs2.apart⟩, ?_, fun g hg2 => (hown.lt g hg2).2⟩
 ·have h0 := hargs2.own i (by simpa using h1) h2
  have hz : ((gs ++ [f]).map (·.2))[i] = (gs.map (·.2) ++ [f.2])[i]'(by simpa using h1) := by simp
  rw [hz]
  refine (h0.kept fun b hbk => hg'.block b (h0.lt hbk).2.2 (fun e => zik hrow2 e.symm h0 hbk)).mono (Nat.le_refl _) ?_
  exact hg'.size
 ·rw [zhn _ _ hlen, List.length_append, List.length_singleton]
  exact hown
structure zbq (w wr : World) (gs : List zd) (A : Option Addr) (c : Nat) (av : List Value) : Prop where
 below : Below w.heap.size w wr
 own : zeG wr w.heap.size wr.heap.size (.slice A gs.length c) gs av
theorem zbq.nil (w : World) : zbq w w [] none 0 [] := ⟨Below.refl _ _, ⟨.nil, World.ownsRow_nil _ _ _ _, fun g hg => by cases hg⟩⟩
theorem zbq.empty (w : World) : zbq w (w.alloc (.cells #[] 39)) [] (some ⟨w.heap.size, 0, none⟩) 0 [] :=
 ⟨ze _ _, ⟨.nil, World.ownsRow_made w #[] 0 (Nat.le_refl _) (by decide) rfl, fun g hg => by simp [Value.ownBlock] at hg; subst hg; simp⟩⟩
theorem zmS (w : World) (x y : Value) (t : TypeId) : ∀ j u, [x, y][j]? = some u -> (w.alloc (.cells #[x, y] t)).cell? ((⟨w.heap.size, 0, none⟩ : Addr).add j) = some u := World.news_of_block (cs := #[x, y]) (heap_alloc_new w _)
theorem zbq.push {w wr w2 w4 : World} {gs gs' : List zd} {A : Option Addr} {c g cap : Nat} {av : List Value} {f : zd} {a : Value} {o : Obj} (h : zbq w wr gs A c av) (e : gs' = gs ++ [f]) (hb : Below wr.heap.size wr w2)
 (ha : zg w2 wr.heap.size w2.heap.size a f.2) (hg : (w2.alloc o).grownBy w4 (Value.slice A gs.length c).ownBlock) (hown : w4.ownsRow w.heap.size 39 2 (.slice (some ⟨g, 0, none⟩) (gs.length + 1) cap) (gs.length + 1) (zaP gs av ++ [.int .i64 f.1, a])) :
 ∃ av', zbq w w4 gs' (some ⟨g, 0, none⟩) cap av' /\ gs.length + 1 = gs'.length := by
 subst e
 obtain ⟨av', h1, h2, h3⟩ := h.own.push (Nat.le_refl _) h.below.size hb ha hg hown
 have hl : gs.length + 1 = (gs ++ [f]).length := by simp
 refine ⟨av', ⟨((zf h.below hb).alloc (zf h.below hb).size _).grown hg (by have := (zf h.below hb).size; simp; omega) (fun k hk => (h.own.row.lt k hk).1), ?_⟩, hl⟩
 rw [<- hl]
 exact ⟨h1, h2, h3⟩
theorem zbq.on {w wr w2 : World} {gs : List zd} {A : Option Addr} {c : Nat} {av : List Value} (h : zbq w wr gs A c av) (hb : Below wr.heap.size wr w2) : zbq w w2 gs A c av :=
 ⟨zf h.below hb, ⟨(h.own.args.below hb (Nat.le_refl _)).mono (Nat.le_refl _) hb.size, zaB h.own.row h.own.lt hb (Nat.le_refl _), fun g hg => Nat.lt_of_lt_of_le (h.own.lt g hg) hb.size⟩⟩
open Go.RowKit
theorem zdZ.size {w w' : World} {g : Nat} {bs : List Nat} {p : Nat} (h : zdZ w w' g bs p) : w.heap.size <= w'.heap.size := h.2.size
set_option maxHeartbeats 400000 in
theorem zeP (g : Nat) (bs : List Nat) (p b : Nat) (cs : Array Value) (xs : List Int) (n : Nat) (w : World) (h : Rdr w g bs p) (hp : p <= 1073741824) (hb : Blk w b 3 cs) (hcs : cs = (xs.map (Value.int .i64)).toArray) (hne : b ≠ g) (hn : n = xs.length) (hx : 0 < xs.length) (hl : xs.length <= 1073741824) :
 Calls Tryz.prog 124 #[.pointer (some ⟨g, 0, none⟩), .slice (some ⟨b, 0, none⟩) n n] w fun e w' => (∃ x, e = .returned (.int .i64 x) /\ x ∈ xs) /\ zdZ w w' g bs p := by
 subst hcs
 subst hn
 have H := Lib.hid h
 have HB := Lib.hid hb
 clear h hb
 go_enter Tryz.func124, Tryz.ntmps124
 go_wp2_with (fail)
 refine (zak g bs p _ _ H.out hp (by omega)).mono ?_
 rintro e w' ⟨⟨x, rfl, hx1⟩, hpk⟩
 obtain ⟨k, rfl⟩ : ∃ k : Nat, x = (k : Int) := ⟨x.toNat, by have := hx1.1 (by omega); omega⟩
 have hk : k < xs.length := by have := hx1.1 (by omega); omega
 have hck : w'.cell? ⟨b, k, none⟩ = some (.int .i64 xs[k]) := by
  rw [(HB.out.only hpk.2 (by omega)).cell k]
  simp [hk]
 have HM := Lib.hid (List.getElem_mem hk)
 have HK := Lib.hid hpk
 clear hpk hx1
 go_wp2_with (fail)
 go_ret
 exact ⟨⟨_, rfl, HM.out⟩, HK.out⟩
set_option maxHeartbeats 400000 in
theorem zhR (v : Value) (bs : List Nat) (w : World) (h : zbN w w.heap.size v bs) (hby : ∀ b ∈ bs, b < 256) (hn : bs.length <= 1073741824) :
 Calls Tryz.prog 52 #[v] w fun e w' => e = .returned (.pointer (some ⟨w.heap.size, 0, none⟩)) /\ Rdr w' w.heap.size (bs.take 2000) 0 /\ Below w.heap.size w w' := by
 obtain ⟨A, c, rfl, hc, ha⟩ := h
 by_cases hl : 2000 < bs.length
 ·obtain ⟨b, o, rfl, hbB, hx⟩ := ha (by omega)
  have HR := Lib.hid (show zbN w w.heap.size (.slice (some ⟨b, o, none⟩) 2000 c) (bs.take 2000) from
   ⟨some ⟨b, o, none⟩, c, by rw [List.length_take]; congr 1; omega, by rw [List.length_take]; omega, fun _ => ⟨b, o, rfl, hbB, fun k hk => by
     rw [List.length_take] at hk
     rw [hx k (by omega), List.getElem_take]⟩⟩)
  have hd : decide ((2000 : Int) < bs.length) = true := by simp; omega
  clear hx ha
  go_enter Tryz.func52, Tryz.ntmps52
  go_wp2_with (fail)
  go_ret
  exact ⟨rfl, ⟨⟨_, Blk.new _ _ _, HR.out.off fun k hk => Below.heap_alloc _ _ _ hk⟩, by rw [List.length_take]; omega, fun x hx => hby x (List.mem_of_mem_take hx)⟩, ze _ _⟩
 ·have HR := Lib.hid (show zbN w w.heap.size (.slice A bs.length c) bs from ⟨A, c, rfl, hc, ha⟩)
  have HT := Lib.hid (show bs.take 2000 = bs from List.take_of_length_le (by omega))
  have hd : decide ((2000 : Int) < bs.length) = false := by simp; omega
  clear ha
  go_enter Tryz.func52, Tryz.ntmps52
  go_wp2_with (fail)
  go_ret
  exact ⟨rfl, by rw [HT.out]; exact ⟨⟨_, Blk.new _ _ _, HR.out.off fun k hk => Below.heap_alloc _ _ _ hk⟩, by omega, hby⟩, ze _ _⟩
theorem Rdr.same {w w' : World} {g : Nat} {bs : List Nat} {p : Nat} (h : Rdr w g bs p) (hb : ∀ k, k <= g -> w'.heap[k]? = w.heap[k]?) : Rdr w' g bs p := by
 obtain ⟨⟨v, hv, hr⟩, h1, h2⟩ := h
 exact ⟨⟨v, (hb g (Nat.le_refl g)).trans hv, hr.off fun k hk => hb k (Nat.le_of_lt hk)⟩, h1, h2⟩
open Go
section
variable {P : Program} {ops : Array Oper} {Q : Exit -> Act -> World -> Prop} {md : Region.Mode} {S : World -> Prop} {t : Nat}
def zbI (P : Program) (md : Region.Mode) (ops : Array Oper) (Q : Exit -> Act -> World -> Prop) (S : World -> Prop) (t : Nat) : Nat -> Array Bool -> Act -> World -> Prop
 | 0, listed, a, w => Region.ready md ops listed = [] /\ Q .normal a w
 | fuel + 1, listed, a, w =>
  (Region.ready md ops listed = [] -> Q .normal a w) /\
  ∀ i ∈ Region.ready md ops listed, wpOp P ops Q i (fun a' w' => ((listed.setIfInBounds i true).getD t true = false -> S w') /\ zbI P md ops Q S t fuel (listed.setIfInBounds i true) a' w') a w
theorem zgk : ∀ (fuel : Nat) (listed : Array Bool) (a : Act) (w : World), zbI P md ops Q S t fuel listed a w -> wpAny P md ops Q fuel listed a w
 | 0, _, _, _, h => h
 | fuel + 1, _, _, _, h => ⟨h.1, fun i hi => wpOp_mono (fun a' w' h' => zgk fuel _ a' w' h'.2) (h.2 i hi)⟩
def zcR (md : Region.Mode) (ops : Array Oper) (listed : Array Bool) (i : Nat) (D : List Nat) : Bool :=
 !D.contains i && D.all fun d => !listed.getD d true && ((ops[d]?).map fun o => o.after.any fun e => Region.binds md e && (e.on == i || D.contains e.on)).getD false
theorem zfr {listed : Array Bool} {i : Nat} {D : List Nat} (h : zcR md ops listed i D = true) (hi : listed.getD i true = false) {d : Nat} (hd : d ∈ D) : d ∉ Region.ready md ops listed := by
 intro hr
 obtain ⟨_, o, ho, hall⟩ := mem_ready.1 hr
 simp only [zcR, Bool.and_eq_true, List.all_eq_true] at h
 have h2 := (h.2 d hd).2
 rw [ho] at h2
 simp only [Option.map_some, Option.getD_some, Array.any_eq_true', Bool.and_eq_true, Bool.or_eq_true, beq_iff_eq] at h2
 obtain ⟨e, he, hb, hon⟩ := h2
 have hl := hall e he hb
 have un : ∀ k : Nat, listed.getD k true = false -> listed.getD k false = true -> False := by
  intro k h1 h2
  rcases Nat.lt_or_ge k listed.size with h' | h'
  ·simp [h'] at h1 h2
   rw [h1] at h2
   cases h2
  ·simp [Array.getElem?_eq_none h'] at h1
 rcases hon with e1 | e1
 ·rw [e1] at hl
  exact un i hi hl
 ·have h3 := (h.2 e.on (by simpa using e1)).1
  exact un _ (by simpa using h3) hl
theorem zlF {listed : Array Bool} {i j : Nat} {D : List Nat} (h : zcR md ops listed i D = true) (hj : j ∉ D) : zcR md ops (listed.setIfInBounds j true) i D = true := by
 simp only [zcR, Bool.and_eq_true, List.all_eq_true] at h ⊢
 refine ⟨h.1, fun d hd => ?_⟩
 have := h.2 d hd
 refine ⟨?_, this.2⟩
 rw [getD_set_ne true (show j ≠ d from fun e => hj (by rw [e]; exact hd))]
 exact this.1
theorem zj3 {i : Nat} {oi : Oper} {v : Value} {D : List Nat} (hi : ops[i]? = some oi) (hsel : ∀ (j : Nat) (o : Oper) cs b, ops[j]? = some o -> o.op ≠ .select cs b)
 (hQ : ∀ c a w, Q (.panic c) (a.put oi.dst v) w -> Q (.panic c) a w) (ht : t ∈ D) :
 ∀ (fuel : Nat) (listed : Array Bool) (a : Act) (w : World),
  (∀ j oj, ops[j]? = some oj -> j ≠ i -> listed.getD j true = false -> (∀ e ∈ oj.after, Region.binds md e = true -> e.on ≠ i) -> oi.apart ops oj = true) ->
  i ∈ Region.ready md ops listed -> zcR md ops listed i D = true -> YieldsIf P ops S oi v a -> S w ->
  zbI P md ops Q S t fuel (listed.setIfInBounds i true) (a.put oi.dst v) w -> zbI P md ops Q S t (fuel + 1) listed a w := by
 intro fuel
 induction fuel with
 | zero =>
  intro listed a w _ hr hbl hy hS H
  refine ⟨fun h => (by rw [h] at hr; cases hr), fun j hj => ?_⟩
  by_cases hji : j = i
  ·subst hji; exact hy.wpOp hi hS ⟨fun _ => hS, H⟩
  ·have := ready_mono hj hji
   rw [H.1] at this
   cases this
 | succ fuel ih =>
  intro listed a w hfree hr hbl hy hS H
  refine ⟨fun h => (by rw [h] at hr; cases hr), fun j hj => ?_⟩
  by_cases hji : j = i
  ·subst hji; exact hy.wpOp hi hS ⟨fun _ => hS, H⟩
  ·have h1 := H.2 j (ready_mono hj hji)
   have hjD : j ∉ D := fun hd => zfr hbl (mem_ready.1 hr).1 hd hj
   have hiD : i ∉ D := by
    simp only [zcR, Bool.and_eq_true] at hbl
    simpa using hbl.1
   have htl : listed.getD t true = false := by
    simp only [zcR, Bool.and_eq_true, List.all_eq_true] at hbl
    simpa using (hbl.2 t ht).1
   have htl2 : ((listed.setIfInBounds i true).setIfInBounds j true).getD t true = false := by
    rw [getD_set_ne true (show j ≠ t from fun e => hjD (by rw [e]; exact ht)), getD_set_ne true (show i ≠ t from fun e => hiD (by rw [e]; exact ht))]
    exact htl
   obtain ⟨hjun, oj, hoj, hall⟩ := mem_ready.1 hj
   have hnot : ∀ e ∈ oj.after, Region.binds md e = true -> e.on ≠ i := fun e he hb heq => by
    have h1 := hall e he hb
    have h0 := (mem_ready.1 hr).1
    rw [heq] at h1
    rcases Nat.lt_or_ge i listed.size with h' | h'
    ·simp [h'] at h0 h1; rw [h0] at h1; cases h1
    ·simp [Array.getElem?_eq_none h'] at h1
   have h2 := wpOp_putIf hoj (hfree j oj hoj hji hjun hnot) (fun cs b => hsel i oi cs b hi) (fun cs b => hsel j oj cs b hoj) hQ hy h1
   have hfree' : ∀ k ok, ops[k]? = some ok -> k ≠ i -> (listed.setIfInBounds j true).getD k true = false ->
    (∀ e ∈ ok.after, Region.binds md e = true -> e.on ≠ i) -> oi.apart ops ok = true := fun k ok hk hki hun hno => by
    refine hfree k ok hk hki ?_ hno
    by_cases hjk : j = k
    ·subst hjk; exact hjun
    ·rw [getD_set_ne true hjk] at hun; exact hun
   refine wpOp_mono (fun a' w' h3 => ⟨fun _ => h3.2.1 htl2, ih (listed.setIfInBounds j true) a' w' hfree' (ready_mono hr (Ne.symm hji)) (zlF hbl hjD) h3.1 (h3.2.1 htl2) ?_⟩) h2
   rw [Array.setIfInBounds_comm _ _ hji]
   exact h3.2.2
def zop (md : Region.Mode) (ops : Array Oper) (i : Nat) : List Nat :=
 (List.range ops.size).foldl (fun D k => if ((ops[k]?).map fun o => o.after.any fun e => Region.binds md e && (e.on == i || D.contains e.on)).getD false then D ++ [k] else D) []
def znQ (md : Region.Mode) (ops : Array Oper) (listed : Array Bool) (i t : Nat) : Bool :=
 Region.noSelect ops && Region.free md ops listed i && (Region.ready md ops listed).contains i && zcR md ops listed i (zop md ops i) && (zop md ops i).contains t
def zn3 (md : Region.Mode) (ops : Array Oper) (listed : Array Bool) (i : Nat) : Bool :=
 Region.noSelect ops && Region.free md ops listed i && (Region.ready md ops listed).contains i
theorem zm {i d : Nat} {oi : Oper} (v : Value) {fuel : Nat} {listed : Array Bool} {a : Act} {w : World} (hi : ops[i]? = some oi) (hd : oi.dst = some d)
 (hok : znQ md ops listed i t = true)
 (hQ : ∀ c a w, Q (.panic c) (a.put oi.dst v) w -> Q (.panic c) a w) (hw : Region.wanted oi (yielded ops a.tmps) = true) (hy : ∀ w, S w -> (execOp a.eval oi).run P w = .ok (.value v) w) (hS : S w)
 (h : zbI P md ops Q S t fuel (listed.setIfInBounds i true) { a with tmps := a.tmps.setIfInBounds d v } w) : zbI P md ops Q S t (fuel + 1) listed a w := by
 have h : zbI P md ops Q S t fuel (listed.setIfInBounds i true) (a.put oi.dst v) w := by rw [hd]; exact h
 simp only [znQ, Bool.and_eq_true] at hok
 obtain ⟨⟨⟨⟨h1, h2⟩, h3⟩, h4⟩, h5⟩ := hok
 exact zj3 hi (Region.noSelect_spec h1) hQ (by simpa using h5) fuel listed a w (Region.free_spec hi h2) (by simpa using h3) h4 (.inl ⟨hw, hy⟩) hS h
theorem zji {i : Nat} {oi : Oper} {v : Value} (hi : ops[i]? = some oi) (hsel : ∀ (j : Nat) (o : Oper) cs b, ops[j]? = some o -> o.op ≠ .select cs b)
 (hQ : ∀ c a w, Q (.panic c) (a.put oi.dst v) w -> Q (.panic c) a w) :
 ∀ (fuel : Nat) (listed : Array Bool) (a : Act) (w : World),
  (∀ j oj, ops[j]? = some oj -> j ≠ i -> listed.getD j true = false -> (∀ e ∈ oj.after, Region.binds md e = true -> e.on ≠ i) -> oi.apart ops oj = true) ->
  i ∈ Region.ready md ops listed -> YieldsIf P ops (fun _ => True) oi v a -> (listed.getD t true = false -> S w) -> t ≠ i ->
  zbI P md ops Q S t fuel (listed.setIfInBounds i true) (a.put oi.dst v) w -> zbI P md ops Q S t (fuel + 1) listed a w := by
 intro fuel
 induction fuel with
 | zero =>
  intro listed a w _ hr hy hS hti H
  refine ⟨fun h => (by rw [h] at hr; cases hr), fun j hj => ?_⟩
  by_cases hji : j = i
  ·subst hji; exact hy.wpOp hi trivial ⟨fun h => hS (by rwa [getD_set_ne true (Ne.symm hti)] at h), H⟩
  ·have := ready_mono hj hji
   rw [H.1] at this
   cases this
 | succ fuel ih =>
  intro listed a w hfree hr hy hS hti H
  refine ⟨fun h => (by rw [h] at hr; cases hr), fun j hj => ?_⟩
  by_cases hji : j = i
  ·subst hji; exact hy.wpOp hi trivial ⟨fun h => hS (by rwa [getD_set_ne true (Ne.symm hti)] at h), H⟩
  ·have h1 := H.2 j (ready_mono hj hji)
   obtain ⟨hjun, oj, hoj, hall⟩ := mem_ready.1 hj
   have hnot : ∀ e ∈ oj.after, Region.binds md e = true -> e.on ≠ i := fun e he hb heq => by
    have h1 := hall e he hb
    have h0 := (mem_ready.1 hr).1
    rw [heq] at h1
    rcases Nat.lt_or_ge i listed.size with h' | h'
    ·simp [h'] at h0 h1; rw [h0] at h1; cases h1
    ·simp [Array.getElem?_eq_none h'] at h1
   have h2 := wpOp_putIf hoj (hfree j oj hoj hji hjun hnot) (fun cs b => hsel i oi cs b hi) (fun cs b => hsel j oj cs b hoj) hQ hy h1
   have hfree' : ∀ k ok, ops[k]? = some ok -> k ≠ i -> (listed.setIfInBounds j true).getD k true = false ->
    (∀ e ∈ ok.after, Region.binds md e = true -> e.on ≠ i) -> oi.apart ops ok = true := fun k ok hk hki hun hno => by
    refine hfree k ok hk hki ?_ hno
    by_cases hjk : j = k
    ·subst hjk; exact hjun
    ·rw [getD_set_ne true hjk] at hun; exact hun
   have hback : ∀ {W : World}, (((listed.setIfInBounds i true).setIfInBounds j true).getD t true = false -> S W) -> ((listed.setIfInBounds j true).getD t true = false -> S W) := fun h hl => h (by
    rw [Array.setIfInBounds_comm _ _ (Ne.symm hji), getD_set_ne true (Ne.symm hti)]
    exact hl)
   refine wpOp_mono (fun a' w' h3 => ⟨hback h3.2.1, ih (listed.setIfInBounds j true) a' w' hfree' (ready_mono hr (Ne.symm hji)) h3.1 (hback h3.2.1) hti ?_⟩) h2
   rw [Array.setIfInBounds_comm _ _ hji]
   exact h3.2.2
theorem za {i d : Nat} {oi : Oper} (v : Value) {fuel : Nat} {listed : Array Bool} {a : Act} {w : World} (hi : ops[i]? = some oi) (hd : oi.dst = some d)
 (hok : zn3 md ops listed i = true) (hti : t ≠ i)
 (hQ : ∀ c a w, Q (.panic c) (a.put oi.dst v) w -> Q (.panic c) a w) (hw : Region.wanted oi (yielded ops a.tmps) = true) (hy : ∀ w, (execOp a.eval oi).run P w = .ok (.value v) w) (hS : listed.getD t true = false -> S w)
 (h : zbI P md ops Q S t fuel (listed.setIfInBounds i true) { a with tmps := a.tmps.setIfInBounds d v } w) : zbI P md ops Q S t (fuel + 1) listed a w := by
 have h : zbI P md ops Q S t fuel (listed.setIfInBounds i true) (a.put oi.dst v) w := by rw [hd]; exact h
 simp only [zn3, Bool.and_eq_true] at hok
 obtain ⟨⟨h1, h2⟩, h3⟩ := hok
 exact zji hi (Region.noSelect_spec h1) hQ fuel listed a w (Region.free_spec hi h2) (by simpa using h3) (.inl ⟨hw, fun w _ => hy w⟩) hS hti h
theorem zh {i : Nat} {o : Oper} {fuel : Nat} {listed : Array Bool} {a : Act} {w : World} (hr : Region.ready md ops listed = [i]) (ho : ops[i]? = some o)
 (h : ∀ K' : Act -> World -> Prop, Shut (∀ a w, ((listed.setIfInBounds i true).getD t true = false -> S w) -> zbI P md ops Q S t fuel (listed.setIfInBounds i true) a w -> K' a w) -> if Region.wanted o (yielded ops a.tmps) = true then Oper.wp P o a w K' Q else K' (a.put o.dst undef) w) :
 zbI P md ops Q S t (fuel + 1) listed a w := by
 refine ⟨fun h0 => (by rw [hr] at h0; cases h0), fun j hj => ?_⟩
 rw [hr] at hj
 obtain rfl : j = i := by simpa using hj
 exact wpOp_step ho (fun K' hK => h K' (fun a w hS hW => hK a w ⟨hS, hW⟩))
theorem zlP {i j : Nat} {oi oj : Oper} {fuel : Nat} {listed : Array Bool} {a : Act} {w : World} (hr : Region.ready md ops listed = [i, j]) (hi : ops[i]? = some oi) (hj : ops[j]? = some oj)
 (h1 : ∀ K' : Act -> World -> Prop, Shut (∀ a w, ((listed.setIfInBounds i true).getD t true = false -> S w) -> zbI P md ops Q S t fuel (listed.setIfInBounds i true) a w -> K' a w) -> if Region.wanted oi (yielded ops a.tmps) = true then Oper.wp P oi a w K' Q else K' (a.put oi.dst undef) w)
 (h2 : ∀ K' : Act -> World -> Prop, Shut (∀ a w, ((listed.setIfInBounds j true).getD t true = false -> S w) -> zbI P md ops Q S t fuel (listed.setIfInBounds j true) a w -> K' a w) -> if Region.wanted oj (yielded ops a.tmps) = true then Oper.wp P oj a w K' Q else K' (a.put oj.dst undef) w) :
 zbI P md ops Q S t (fuel + 1) listed a w := by
 refine ⟨fun h0 => (by rw [hr] at h0; cases h0), fun k hk => ?_⟩
 rw [hr] at hk
 rcases List.mem_cons.1 hk with rfl | hk
 ·exact wpOp_step hi (fun K' hK => h1 K' (fun a w hS hW => hK a w ⟨hS, hW⟩))
 ·obtain rfl : k = j := by simpa using hk
  exact wpOp_step hj (fun K' hK => h2 K' (fun a w hS hW => hK a w ⟨hS, hW⟩))
theorem zL {fuel : Nat} {listed : Array Bool} {a : Act} {w : World} (hr : Region.ready md ops listed = []) (h : Q .normal a w) : zbI P md ops Q S t fuel listed a w := by
 cases fuel with
 | zero => exact ⟨hr, h⟩
 | succ fuel => exact ⟨fun _ => h, fun j hj => (by rw [hr] at hj; cases hj)⟩
theorem zB (S : World -> Prop) (t n : Nat) {id : Nat} {a : Act} {w : World} (hm : P.follows .mixedOrders = true) (hn : ops.size = n)
 (h : zbI P .any ops Q S t n (Array.replicate n false) a w.drew) : (Code.region id ops true).wp P Q a w :=
 wp_region_any hm (zgk _ _ _ _ (hn ▸ h))
end
open Go.RowKit
structure zam (w wr : World) (g : Nat) (bs : List Nat) (p : Nat) (A : Option Addr) (c : Nat) (f : zd) : Prop where
 res : Blk wr w.heap.size 39 #[.int .i64 0, .slice none 0 0]
 fact : Blk wr (w.heap.size + 1) 39 #[.int .i64 f.1, .slice A f.2.length c]
 own : wr.ownsRow (w.heap.size + 2) 3 1 (.slice A f.2.length c) f.2.length (f.2.map (Value.int .i64))
 rdr : Rdr wr g bs p
 only : zl g (g + 1) w wr
theorem zam.start {w : World} {g : Nat} {bs : List Nat} {p : Nat} (h : Rdr w g bs p) :
 zam w ((w.alloc (Obj.cells #[Value.int IntKind.i64 0, Value.slice none 0 0] 39)).alloc (Obj.cells #[Value.int IntKind.i64 0, Value.slice none 0 0] 39)) g bs p none 0 (0, []) :=
 ⟨(Blk.new w _ _).alloc _, by simpa using Blk.new (w.alloc (Obj.cells #[Value.int IntKind.i64 0, Value.slice none 0 0] 39)) 39 #[.int .i64 0, .slice none 0 0], World.ownsRow_nil _ _ _ _, h.below (za0 w _ _) h.lt, zl.of_below (za0 w _ _)⟩
theorem zam.pick {w wr w' : World} {g : Nat} {bs : List Nat} {p : Nat} {A : Option Addr} {c : Nat} {f : zd} (h : zam w wr g bs p A c f) (hg : g < w.heap.size) (hk : zdZ wr w' g bs p) : zam w w' g bs (p + 1) A c f :=
 ⟨h.res.only hk.2 (by omega), h.fact.only hk.2 (by omega), zw h.own (fun b hb => hk.2.block b (h.own.lt b hb).2 (by have := (h.own.lt b hb).1; omega)), hk.1, h.only.trans hk.2⟩
theorem zam.pred {w wr : World} {g : Nat} {bs : List Nat} {p : Nat} {A : Option Addr} {c : Nat} {f : zd} (h : zam w wr g bs p A c f) (hg : g < w.heap.size) (x : Int) : zam w (wr.setCell ⟨w.heap.size + 1, 0, none⟩ (.int .i64 x)) g bs p A c (x, f.2) :=
 ⟨h.res.far (by show w.heap.size ≠ w.heap.size + 1; omega) _, h.fact.set_ 0 _, zw h.own (fun b hb => Below.heap_setCell _ _ _ _ (by have := (h.own.lt b hb).1; show b ≠ w.heap.size + 1; omega)),
   h.rdr.same fun k hk => Below.heap_setCell _ _ _ _ (by show k ≠ w.heap.size + 1; omega),
   ⟨h.only.os, h.only.tape, h.only.output, by simpa using h.only.size, fun k hk hn => (Below.heap_setCell _ _ _ _ (by show k ≠ w.heap.size + 1; omega)).trans (h.only.block k hk hn)⟩⟩
theorem zam.alloc {w wr : World} {g : Nat} {bs : List Nat} {p : Nat} {A : Option Addr} {c : Nat} {f : zd} (h : zam w wr g bs p A c f) (o : Obj) : zam w (wr.alloc o) g bs p A c f :=
 ⟨h.res.alloc o, h.fact.alloc o, h.own.alloc o, h.rdr.below (ze wr o) h.rdr.lt, h.only.trans (zl.of_below (ze wr o))⟩
theorem zam.drewN {w wr : World} {g : Nat} {bs : List Nat} {p : Nat} {A : Option Addr} {c : Nat} {f : zd} (h : zam w wr g bs p A c f) (n : Nat) : zam w (wr.drewN n) g bs p A c f :=
 ⟨h.res, h.fact, h.own, h.rdr, ⟨h.only.os, h.only.tape, h.only.output, h.only.size, h.only.block⟩⟩
theorem zam.drew {w wr : World} {g : Nat} {bs : List Nat} {p : Nat} {A : Option Addr} {c : Nat} {f : zd} (h : zam w wr g bs p A c f) : zam w wr.drew g bs p A c f :=
 ⟨h.res, h.fact, h.own, h.rdr, ⟨h.only.os, h.only.tape, h.only.output, h.only.size, h.only.block⟩⟩
theorem zam.push {w wr w4 : World} {g : Nat} {bs : List Nat} {p : Nat} {A : Option Addr} {c : Nat} {P : Int} {xs : List Int} (h : zam w wr g bs p A c (P, xs)) (hg : g < w.heap.size)
 (hgr : wr.grownBy w4 (Value.slice A xs.length c).ownBlock) {g2 cap : Nat} {x : Int} (hown : w4.ownsRow (w.heap.size + 2) 3 1 (.slice (some ⟨g2, 0, none⟩) (xs.length + 1) cap) (xs.length + 1) (xs.map (Value.int .i64) ++ [.int .i64 x])) :
 zam w (w4.setCell ⟨w.heap.size + 1, 1, none⟩ (.slice (some ⟨g2, 0, none⟩) (xs.length + 1) cap)) g bs p (some ⟨g2, 0, none⟩) cap (P, xs ++ [x]) := by
 have hs := h.fact.lt
 have hlow : ∀ b, b < w.heap.size + 2 -> w4.heap[b]? = wr.heap[b]? := fun b hb => hgr.block b (by omega) (fun e => by have := (h.own.lt b e.symm).1; omega)
 have hlow2 : ∀ b, b < w.heap.size + 1 -> (w4.setCell ⟨w.heap.size + 1, 1, none⟩ (.slice (some ⟨g2, 0, none⟩) (xs.length + 1) cap)).heap[b]? = wr.heap[b]? := fun b hb =>
  (Below.heap_setCell _ _ _ _ (by show b ≠ w.heap.size + 1; omega)).trans (hlow b (by omega))
 refine ⟨(hlow2 _ (by omega)).trans h.res, ?_, ?_, h.rdr.same fun k hk => hlow2 k (by omega), ⟨hgr.os.trans h.only.os, hgr.tape.trans h.only.tape, hgr.output.trans h.only.output, Nat.le_trans h.only.size (Nat.le_trans hgr.size (by simp)), fun k hk hn => (hlow2 k (by omega)).trans (h.only.block k hk hn)⟩⟩
 ·have := (show Blk w4 (w.heap.size + 1) 39 _ from (hlow _ (by omega)).trans h.fact).set_ 1 (.slice (some ⟨g2, 0, none⟩) (xs.length + 1) cap)
  simpa using this
 ·simpa using zw hown (fun b hb => Below.heap_setCell _ _ _ _ (by have := (hown.lt b hb).1; show b ≠ w.heap.size + 1; omega))
theorem zam.keepFact {w wr w4 : World} {g : Nat} {bs : List Nat} {p : Nat} {A : Option Addr} {c : Nat} {f : zd} (h : zam w wr g bs p A c f) (hgr : wr.grownBy w4 (Value.slice A f.2.length c).ownBlock) : Blk w4 (w.heap.size + 1) 39 #[.int .i64 f.1, .slice A f.2.length c] :=
 (hgr.block _ h.fact.lt (fun e => by have := (h.own.lt _ e.symm).1; omega)).trans h.fact
theorem zoa (g : Nat) (bs : List Nat) (p b : Nat) (x y z : Int) (w : World) (h : Rdr w g bs p) (hp : p <= 1073741824) (hb : Blk w b 3 #[.int .i64 x, .int .i64 y, .int .i64 z]) (hne : b ≠ g) :
 Calls Tryz.prog 124 #[.pointer (some ⟨g, 0, none⟩), .slice (some ⟨b, 0, none⟩) 3 3] w fun e w' => (∃ x, e = .returned (.int .i64 x)) /\ zdZ w w' g bs p :=
 (zeP g bs p b _ [x, y, z] 3 w h hp hb rfl hne rfl (by simp) (by simp)).mono fun _ _ ⟨⟨u, he, _⟩, hk⟩ => ⟨⟨u, he⟩, hk⟩
theorem zam.pick_calls {w W : World} {g : Nat} {bs : List Nat} {q : Nat} {A : Option Addr} {c : Nat} {f : zd} (h : zam w W g bs q A c f) (hg : g < w.heap.size) (hq : q <= 1073741824) (n : Int) (hn : n <= 1073741824) :
 Calls Tryz.prog 53 #[.pointer (some ⟨g, 0, none⟩), .int .i64 n] W fun e w' => ∃ v, e = .returned v /\ (∃ x, v = .int .i64 x) /\ zam w w' g bs (q + 1) A c f :=
 (zak g bs q n W h.rdr hq hn).mono fun _ _ ⟨⟨x, he, _⟩, hk⟩ => ⟨_, he, ⟨x, rfl⟩, h.pick hg hk⟩
theorem zam.num_calls {w W : World} {g : Nat} {bs : List Nat} {q : Nat} {A : Option Addr} {c : Nat} {f : zd} (h : zam w W g bs q A c f) (hg : g < w.heap.size) (hq : q <= 1073741824) (x y z : Int) :
 Calls Tryz.prog 124 #[.pointer (some ⟨g, 0, none⟩), .slice (some ⟨W.heap.size, 0, none⟩) 3 3] (W.alloc (.cells #[.int .i64 x, .int .i64 y, .int .i64 z] 3)) fun e w' => ∃ v, e = .returned v /\ (∃ x, v = .int .i64 x) /\ zam w w' g bs (q + 1) A c f :=
 (zoa g bs q W.heap.size x y z _ (h.alloc _).rdr hq (Blk.new _ _ _) (Nat.ne_of_gt h.rdr.lt)).mono fun _ _ ⟨⟨u, he⟩, hk⟩ => ⟨_, he, ⟨u, rfl⟩, (h.alloc _).pick hg hk⟩
def zpa (w wx : World) (g : Nat) (bs : List Nat) (p m q0 : Nat) : Prop := ∃ (A : Option Addr) (c : Nat) (f : zd) (q : Nat), f.2.length <= m /\ q <= p + q0 /\ zam w wx g bs q A c f
theorem zam.form {w W : World} {g : Nat} {bs : List Nat} {q : Nat} {A : Option Addr} {c : Nat} {f : zd} (h : zam w W g bs q A c f) (hn : 0 < f.2.length) : ∃ g2, A = some ⟨g2, 0, none⟩ := by
 obtain ⟨g2, cap, e, _⟩ := h.own.form hn
 injection e with e1 _ _
 exact ⟨g2, e1⟩
theorem zam.head {w W : World} {g : Nat} {bs : List Nat} {q g2 c : Nat} {f : zd} (h : zam w W g bs q (some ⟨g2, 0, none⟩) c f) (hn : 0 < f.2.length) : W.cell? ⟨g2, 0, none⟩ = some (.int .i64 (f.2[0]'hn)) /\ W.frozen? ⟨g2, 0, none⟩ = false := by
 refine ⟨?_, h.own.frozenAt 0⟩
 rw [h.own.cellAt 0 (by omega)]
 simp [hn]
theorem zam.first {w W : World} {g : Nat} {bs : List Nat} {q g2 c : Nat} {f : zd} (h : zam w W g bs q (some ⟨g2, 0, none⟩) c f) (hg : g < w.heap.size) (x : Int) :
 zam w (W.setCell ⟨g2, 0, none⟩ (.int .i64 x)) g bs q (some ⟨g2, 0, none⟩) c (f.1, f.2.set 0 x) := by
 have hb := (h.own.lt g2 rfl).1
 have hs := h.own.stored 0 (.int .i64 x)
 refine ⟨h.res.far (by show w.heap.size ≠ g2; omega) _, ?_, ?_, h.rdr.same fun k hk => Below.heap_setCell _ _ _ _ (by show k ≠ g2; omega),
  ⟨h.only.os, h.only.tape, h.only.output, by simpa using h.only.size, fun k hk hn => (Below.heap_setCell _ _ _ _ (by show k ≠ g2; omega)).trans (h.only.block k hk hn)⟩⟩
 ·simpa using h.fact.far (p := ⟨g2, 0, none⟩) (by show w.heap.size + 1 ≠ g2; omega) (.int .i64 x)
 ·have := hs.1
  rw [<- List.map_set] at this
  simpa using this
theorem zam.done {w W : World} {g : Nat} {bs : List Nat} {q : Nat} {A : Option Addr} {c : Nat} {f : zd} (h : zam w W g bs q A c f) (hg : g < w.heap.size) :
 ((W.setCell ⟨w.heap.size, 0, none⟩ (.int .i64 f.1)).setCell ⟨w.heap.size, 1, none⟩ (.slice A f.2.length c)).ownsRow (w.heap.size + 2) 3 1 (.slice A f.2.length c) f.2.length (f.2.map (Value.int .i64)) /\
 Rdr ((W.setCell ⟨w.heap.size, 0, none⟩ (.int .i64 f.1)).setCell ⟨w.heap.size, 1, none⟩ (.slice A f.2.length c)) g bs q /\
 zl g (g + 1) w ((W.setCell ⟨w.heap.size, 0, none⟩ (.int .i64 f.1)).setCell ⟨w.heap.size, 1, none⟩ (.slice A f.2.length c)) /\
 Blk ((W.setCell ⟨w.heap.size, 0, none⟩ (.int .i64 f.1)).setCell ⟨w.heap.size, 1, none⟩ (.slice A f.2.length c)) w.heap.size 39 #[.int .i64 f.1, .slice A f.2.length c] := by
 have hb : ∀ k, k ≠ w.heap.size -> ((W.setCell ⟨w.heap.size, 0, none⟩ (.int .i64 f.1)).setCell ⟨w.heap.size, 1, none⟩ (.slice A f.2.length c)).heap[k]? = W.heap[k]? := fun k hk =>
  (Below.heap_setCell _ _ _ _ (by show k ≠ w.heap.size; exact hk)).trans (Below.heap_setCell _ _ _ _ (by show k ≠ w.heap.size; exact hk))
 refine ⟨zw h.own (fun b hb' => hb b (by have := (h.own.lt b hb').1; omega)), h.rdr.same fun k hk => hb k (by omega), ⟨h.only.os, h.only.tape, h.only.output, by simpa using h.only.size, fun k hk hn => (hb k (by omega)).trans (h.only.block k hk hn)⟩, ?_⟩
 have := (h.res.set_ 0 (.int .i64 f.1)).set_ 1 (.slice A f.2.length c)
 simpa using this
set_option maxHeartbeats 8000000 in
theorem zmn (g : Nat) (bs : List Nat) (p : Nat) (v : Value) (ar : List Int) (w : World) (h : Rdr w g bs p) (hp : p <= 1048576) (ha : zv w w.heap.size v ar) (hv : ∀ w', zl g (g + 1) w w' -> zv w' w'.heap.size v ar) (hr : ∀ x ∈ ar, 0 <= x /\ x <= 2) (hl : ar.length <= 1048576) :
 Calls Tryz.prog 97 #[.pointer (some ⟨g, 0, none⟩), v] w fun e w' => ∃ (A : Option Addr) (c : Nat) (f : zd) (q : Nat), e = .returned (.agg #[.int .i64 f.1, .slice A f.2.length c]) /\ f.2.length <= 3 /\ q <= p + 20 /\
  w'.ownsRow (w.heap.size + 2) 3 1 (.slice A f.2.length c) f.2.length (f.2.map (Value.int .i64)) /\ Rdr w' g bs q /\ zl g (g + 1) w w' := by
 obtain ⟨i0, hi0, hz0, hz1, hz2⟩ := info_parts Tryz.infoInt
 have H := Lib.hid h
 have hgl := h.lt
 have HV := Lib.hid hv
 have HS := Lib.hid (zam.start h)
 obtain ⟨A0, c0, rfl, hc, hx⟩ := ha
 clear h hv hx
 go_enter Tryz.func97, Tryz.ntmps97
 go_upto_if 11 with (fail)
 go_cut [] (fun wx => zpa w wx g bs p 2 9)
 case first =>
  by_cases h0 : 0 < ar.length
  ·have hd : decide ((0 : Int) < ar.length) = true := by simpa using h0
   go_wp2_with (fail)
   refine (zak g bs p _ _ HS.out.rdr (by omega) (by omega)).mono ?_
   rintro e w1 ⟨⟨x, rfl, hx1⟩, hpk⟩
   obtain ⟨j, rfl⟩ : ∃ j : Nat, x = (j : Int) := ⟨x.toNat, by have := hx1.1 (by omega); omega⟩
   have hj : j < ar.length := by have := hx1.1 (by omega); omega
   have hf := HS.out.pick hgl hpk
   have HF := Lib.hid (hf.pred hgl (j : Int))
   have k0 : w1.cell? ⟨w.heap.size + 1, 0, none⟩ = some (.int .i64 0) := hf.fact.cell 0
   have k1 : w1.frozen? ⟨w.heap.size + 1, 0, none⟩ = false := hf.fact.frozen 0
   clear hf hpk hx1
   have hjr := hr _ (List.getElem_mem hj)
   obtain ⟨m, hm⟩ : ∃ m : Nat, ar[j] = (m : Int) := ⟨ar[j].toNat, by omega⟩
   have hm2 : m <= 2 := by omega
   clear hjr
   go_wp2_with (fail)
   go_loopw [6] (fun i wr => ∃ (k : Nat) (A : Option Addr) (c : Nat) (xs : List Int) (q : Nat), k <= m /\ i = .int .i64 k /\ xs.length = k /\ q <= p + 1 + 4 * k /\ zam w wr g bs q A c ((j : Int), xs)) (fun i _ => m - (intOf i).toNat)
   case atStart => exact ⟨0, none, 0, [], p + 1, Nat.zero_le _, rfl, rfl, by omega, HF.out⟩
   case round =>
    obtain ⟨k, A, c, xs, q, hk, rfl, hxl, hq, hfr⟩ := hrel
    have k2 : wr.cell? ⟨w.heap.size + 1, 0, none⟩ = some (.int .i64 (j : Int)) := hfr.fact.cell 0
    obtain ⟨A', c', e0, hc', hcell⟩ := HV.out wr hfr.only
    injection e0 with e1 _ e2
    subst e1
    subst e2
    obtain ⟨b, o, rfl, hbB, hx⟩ := hcell (by omega)
    have k3 : wr.cell? ⟨b, o + j, none⟩ = some (.int .i64 (m : Int)) := by rw [hx j hj, hm]
    have HR := Lib.hid hfr
    clear hcell hx hfr
    subst hxl
    by_cases hlt : xs.length < m
    ·go_upto_region 7 with (fail)
     obtain ⟨SS, hSS⟩ : ∃ SS : World -> Prop, SS = (fun W => W.cell? ⟨w.heap.size + 1, 1, none⟩ = some (.slice A xs.length c)) := ⟨_, rfl⟩
     have HS1 := Lib.hid (show ∀ W, W.cell? ⟨w.heap.size + 1, 1, none⟩ = some (.slice A xs.length c) -> SS W from by rw [hSS]; exact fun _ h => h)
     have HS2 := Lib.hid (show ∀ W, SS W -> W.cell? ⟨w.heap.size + 1, 1, none⟩ = some (.slice A xs.length c) from by rw [hSS]; exact fun _ h => h)
     clear hSS
     have F0 := Lib.hid HR.out.drew
     have S0 := Lib.hid (HS1.out _ (F0.out.fact.cell 1))
     refine zB SS 14 15 (by kernel_rfl) rfl ?_
     refine za (i := 0) (oi := _) ?v0 rfl rfl (by kernel_rfl) (by decide) (fun _ _ _ h => h) rfl ?hy0 (fun _ => S0.out) ?rest0
     case hy0 => (intro W; go_simp; (try with_reducible rfl))
     simp only [zs.a, zs.b, zs.c]
     refine zm (i := 1) (oi := _) ?v1 rfl rfl (by kernel_rfl) (fun _ _ _ h => h) rfl ?hy1 S0.out ?rest1
     case hy1 => (intro W hW; have e1 := HS2.out W hW; go_simp; (try with_reducible rfl))
     simp only [zs.a, zs.b, zs.c]
     refine za (i := 2) (oi := _) ?v2 rfl rfl (by kernel_rfl) (by decide) (fun _ _ _ h => h) rfl ?hy2 (fun _ => S0.out) ?rest2
     case hy2 => (intro W; go_simp; (try with_reducible rfl))
     simp only [zs.a, zs.b, zs.c]
     refine za (i := 3) (oi := _) ?v3 rfl rfl (by kernel_rfl) (by decide) (fun _ _ _ h => h) rfl ?hy3 (fun _ => S0.out) ?rest3
     case hy3 => (intro W; go_simp; (try with_reducible rfl))
     simp only [zs.a, zs.b, zs.c]
     refine za (i := 5) (oi := _) ?v5 rfl rfl (by kernel_rfl) (by decide) (fun _ _ _ h => h) rfl ?hy5 (fun _ => S0.out) ?rest5
     case hy5 => (intro W; go_simp; (try with_reducible rfl))
     simp only [zs.a, zs.b, zs.c]
     refine za (i := 7) (oi := _) ?v7 rfl rfl (by kernel_rfl) (by decide) (fun _ _ _ h => h) rfl ?hy7 (fun _ => S0.out) ?rest7
     case hy7 => (intro W; go_simp; (try with_reducible rfl))
     simp only [zs.a, zs.b, zs.c]
     refine zh (i := 4) (by kernel_rfl) rfl (fun K hK => ?_)
     go_simp
     refine (zam.pick_calls F0.out hgl (by omega) 3 (by omega)).mono ?_
     rintro e w4 ⟨v4, rfl, ⟨x4, rfl⟩, hf4⟩
     have F4 := Lib.hid hf4
     have S4 := Lib.hid (HS1.out _ (hf4.fact.cell 1))
     clear hf4
     refine hK.out _ _ (fun _ => S4.out) ?_
     clear hK K
     try simp only [zs.a, zs.b, zs.c, Act.put]
     refine zh (i := 6) (by kernel_rfl) rfl (fun K hK => ?_)
     go_simp
     refine (zam.pick_calls F4.out hgl (by omega) 3 (by omega)).mono ?_
     rintro e w6 ⟨v6, rfl, ⟨x6, rfl⟩, hf6⟩
     have F6 := Lib.hid hf6
     have S6 := Lib.hid (HS1.out _ (hf6.fact.cell 1))
     clear hf6
     refine hK.out _ _ (fun _ => S6.out) ?_
     clear hK K
     try simp only [zs.a, zs.b, zs.c, Act.put]
     refine zh (i := 8) (by kernel_rfl) rfl (fun K hK => ?_)
     go_simp
     refine (zam.pick_calls F6.out hgl (by omega) 6 (by omega)).mono ?_
     rintro e w8 ⟨v8, rfl, ⟨x8, rfl⟩, hf8⟩
     have F8 := Lib.hid hf8
     have S8 := Lib.hid (HS1.out _ ((hf8.alloc (.cells #[.int .i64 x4, .int .i64 x6, .int .i64 x8] 3)).fact.cell 1))
     clear hf8
     refine hK.out _ _ (fun _ => HS1.out _ (F8.out.fact.cell 1)) ?_
     clear hK K
     try simp only [zs.a, zs.b, zs.c, Act.put]
     refine zh (i := 9) (by kernel_rfl) rfl (fun K hK => ?_)
     go_simp
     refine hK.out _ _ (fun _ => S8.out) ?_
     clear hK K
     try simp only [zs.a, zs.b, zs.c, Act.put]
     refine zh (i := 10) (by kernel_rfl) rfl (fun K hK => ?_)
     go_simp
     refine (zam.num_calls F8.out hgl (by omega) x4 x6 x8).mono ?_
     rintro e w9 ⟨v9, rfl, ⟨x9, rfl⟩, hf9⟩
     have F9 := Lib.hid hf9
     clear hf9
     refine hK.out _ _ (fun _ => HS1.out _ (F9.out.fact.cell 1)) ?_
     clear hK K
     try simp only [zs.a, zs.b, zs.c, Act.put]
     refine zh (i := 11) (by kernel_rfl) rfl (fun K hK => ?_)
     go_simp
     refine hK.out _ _ (fun _ => HS1.out _ ((F9.out.alloc _).fact.cell 1)) ?_
     clear hK K
     try simp only [zs.a, zs.b, zs.c, Act.put]
     refine zh (i := 12) (by kernel_rfl) rfl (fun K hK => ?_)
     refine step_append_lies _ rfl (.tmp 27) (.tmp 37) 23 rfl (w.heap.size + 2) 3 i0 (.int .i64 0) 1 8 Tryz.underlying23 hi0 hz0 hz1 hz2 rfl (by decide) (.slice A xs.length c) xs.length (xs.map (Value.int .i64)) rfl ?c1 ⟨w9.heap.size, 0, none⟩ 1 1 [.int .i64 x9] rfl rfl ?c4 ?c2 (by omega) (by unfold maxLen; omega) (by omega) ?c3 _ rfl ?c5
     case c1 => exact (F9.out.alloc _).own
     case c4 => exact cell_one_new _ _ _
     case c2 => intro u hu; simp at hu; subst hu; rfl
     case c3 => exact (F9.out.alloc _).fact.lt
     case c5 =>
      intro g2 cap w5 hown hgr _ _
      have HST := Lib.hid (zam.push (F9.out.alloc _) hgl hgr hown)
      have hkf := zam.keepFact (F9.out.alloc _) hgr
      have e1 : w5.cell? ⟨w.heap.size + 1, 1, none⟩ = some (.slice A xs.length c) := hkf.cell 1
      have e2 := hkf.frozen 1
      clear hkf hown hgr
      refine hK.out _ _ (fun _ => HS1.out _ e1) ?_
      clear hK K
      try simp only [List.setIfInBounds_toArray, Act.put]
      refine za (i := 13) (oi := _) ?v13 rfl rfl (by kernel_rfl) (by decide) (fun _ _ _ h => h) rfl ?hy13 (fun _ => HS1.out _ e1) ?rest13
      case hy13 => (intro W; go_simp; (try with_reducible rfl))
      try simp only [zs.a, zs.b, zs.c]
      refine zh (i := 14) (by kernel_rfl) rfl (fun K hK => ?_)
      go_simp
      refine hK.out _ _ (fun hf => absurd hf (by decide)) ?_
      clear hK K
      refine zL (by kernel_rfl) ?_
      go_wp2_with (fail)
      go_roundw
      case rel => exact ⟨xs.length + 1, _, _, _, _, by omega, by go_num, by simp, by omega, HST.out⟩
      case measure => simp [intOf]; omega
    ·have hkn : xs.length = m := by omega
     have hdk : decide ((xs.length : Int) < (m : Int)) = false := by simp; omega
     go_wp2_with (fail)
     go_meet
     exact ⟨A, c, ((j : Int), xs), q, by show xs.length <= 2; omega, by omega, HR.out⟩
  ·have hd : decide ((0 : Int) < ar.length) = false := by simpa using h0
   go_wp2_with (fail)
   go_meet
   exact ⟨none, 0, (0, []), p, by simp, by omega, HS.out⟩
 case rest =>
  obtain ⟨A, c, f, q, hfl, hq, hf⟩ := hcut
  have F0' := Lib.hid hf
  clear hf HS HV
  go_wp2_with (fail)
  refine (zam.pick_calls F0'.out hgl (by omega) 40 (by omega)).mono ?_
  rintro e w1 ⟨v1, rfl, ⟨x1, rfl⟩, hf1⟩
  have F1 := Lib.hid hf1
  clear hf1
  go_upto_if 42 with (fail)
  go_cut [] (fun wx => zpa w wx g bs p 3 20)
  case first =>
   by_cases h1 : x1 = 0
   ·subst h1
    go_wp2_with (fail)
    refine (zam.pick_calls F1.out hgl (by omega) 3 (by omega)).mono ?_
    rintro e w2 ⟨v2, rfl, ⟨x2, rfl⟩, hf2⟩
    have F2 := Lib.hid hf2
    clear hf2
    by_cases h2 : x2 = 0
    ·subst h2
     go_wp2_with (fail)
     refine (zam.num_calls F2.out hgl (by omega) (-1) (ar.length : Int) 30).mono ?_
     rintro e w3 ⟨v3, rfl, ⟨x3, rfl⟩, hf3⟩
     have HF := Lib.hid (hf3.pred hgl x3)
     have k0 : w3.cell? ⟨w.heap.size + 1, 0, none⟩ = some (.int .i64 f.1) := hf3.fact.cell 0
     have k1 : w3.frozen? ⟨w.heap.size + 1, 0, none⟩ = false := hf3.fact.frozen 0
     clear hf3
     go_wp2_with (fail)
     go_meet
     exact ⟨A, c, (x3, f.2), _, by show f.2.length <= 3; omega, by omega, HF.out⟩
    ·have hd2 : (x2 == 0) = false := by simpa using h2
     by_cases h3 : x2 = 1
     ·subst h3
      go_upto_region 13 with (fail)
      obtain ⟨SS, hSS⟩ : ∃ SS : World -> Prop, SS = (fun W => W.cell? ⟨w.heap.size + 1, 1, none⟩ = some (.slice A f.2.length c)) := ⟨_, rfl⟩
      have HS1 := Lib.hid (show ∀ W, W.cell? ⟨w.heap.size + 1, 1, none⟩ = some (.slice A f.2.length c) -> SS W from by rw [hSS]; exact fun _ h => h)
      have HS2 := Lib.hid (show ∀ W, SS W -> W.cell? ⟨w.heap.size + 1, 1, none⟩ = some (.slice A f.2.length c) from by rw [hSS]; exact fun _ h => h)
      clear hSS
      have F0 := Lib.hid F2.out.drew
      have S0 := Lib.hid (HS1.out _ (F0.out.fact.cell 1))
      refine zB SS 8 9 (by kernel_rfl) rfl ?_
      refine za (i := 0) (oi := _) ?v0b rfl rfl (by kernel_rfl) (by decide) (fun _ _ _ h => h) rfl ?hy0b (fun _ => S0.out) ?rest0b
      case hy0b => (intro W; go_simp; (try with_reducible rfl))
      try simp only [zs.a, zs.b, zs.c]
      refine zm (i := 1) (oi := _) ?v1b rfl rfl (by kernel_rfl) (fun _ _ _ h => h) rfl ?hy1b S0.out ?rest1b
      case hy1b => (intro W hW; have e1 := HS2.out W hW; go_simp; (try with_reducible rfl))
      try simp only [zs.a, zs.b, zs.c]
      refine za (i := 2) (oi := _) ?v2b rfl rfl (by kernel_rfl) (by decide) (fun _ _ _ h => h) rfl ?hy2b (fun _ => S0.out) ?rest2b
      case hy2b => (intro W; go_simp; (try with_reducible rfl))
      try simp only [zs.a, zs.b, zs.c]
      refine zh (i := 3) (by kernel_rfl) rfl (fun K hK => ?_)
      go_simp
      refine hK.out _ _ (fun _ => HS1.out _ ((F0.out.alloc _).fact.cell 1)) ?_
      clear hK K
      try simp only [zs.a, zs.b, zs.c, Act.put]
      refine zh (i := 4) (by kernel_rfl) rfl (fun K hK => ?_)
      go_simp
      refine (zam.num_calls F0.out hgl (by omega) 0 6 (-1)).mono ?_
      rintro e w9 ⟨v9, rfl, ⟨x9, rfl⟩, hf9⟩
      have F9 := Lib.hid hf9
      clear hf9
      refine hK.out _ _ (fun _ => HS1.out _ (F9.out.fact.cell 1)) ?_
      clear hK K
      try simp only [zs.a, zs.b, zs.c, Act.put]
      refine zh (i := 5) (by kernel_rfl) rfl (fun K hK => ?_)
      go_simp
      refine hK.out _ _ (fun _ => HS1.out _ ((F9.out.alloc _).fact.cell 1)) ?_
      clear hK K
      try simp only [zs.a, zs.b, zs.c, Act.put]
      refine zh (i := 6) (by kernel_rfl) rfl (fun K hK => ?_)
      refine step_append_lies _ rfl (.tmp 56) (.tmp 60) 23 rfl (w.heap.size + 2) 3 i0 (.int .i64 0) 1 8 Tryz.underlying23 hi0 hz0 hz1 hz2 rfl (by decide) (.slice A f.2.length c) f.2.length (f.2.map (Value.int .i64)) rfl ?c1b ⟨w9.heap.size, 0, none⟩ 1 1 [.int .i64 x9] rfl rfl ?c4b ?c2b (by omega) (by unfold maxLen; omega) (by omega) ?c3b _ rfl ?c5b
      case c1b => exact (F9.out.alloc _).own
      case c4b => exact cell_one_new _ _ _
      case c2b => intro u hu; simp at hu; subst hu; rfl
      case c3b => exact (F9.out.alloc _).fact.lt
      case c5b =>
       intro g2 cap w5 hown hgr _ _
       have HST := Lib.hid (zam.push (P := f.1) (xs := f.2) (F9.out.alloc _) hgl hgr hown)
       have hkf := zam.keepFact (F9.out.alloc _) hgr
       have e1 : w5.cell? ⟨w.heap.size + 1, 1, none⟩ = some (.slice A f.2.length c) := hkf.cell 1
       have e2 := hkf.frozen 1
       clear hkf hown hgr
       refine hK.out _ _ (fun _ => HS1.out _ e1) ?_
       clear hK K
       try simp only [List.setIfInBounds_toArray, Act.put]
       refine za (i := 7) (oi := _) ?v7b rfl rfl (by kernel_rfl) (by decide) (fun _ _ _ h => h) rfl ?hy7b (fun _ => HS1.out _ e1) ?rest7b
       case hy7b => (intro W; go_simp; (try with_reducible rfl))
       try simp only [zs.a, zs.b, zs.c]
       refine zh (i := 8) (by kernel_rfl) rfl (fun K hK => ?_)
       go_simp
       refine hK.out _ _ (fun hf => absurd hf (by decide)) ?_
       clear hK K
       refine zL (by kernel_rfl) ?_
       go_wp2_with (fail)
       go_meet
       exact ⟨_, _, (f.1, f.2 ++ [x9]), _, by simp; omega, by omega, HST.out⟩
     ·have hd3 : (x2 == 1) = false := by simpa using h3
      have k1 : w2.cell? ⟨w.heap.size + 1, 1, none⟩ = some (.slice A f.2.length c) := F2.out.fact.cell 1
      by_cases hn0 : 0 < f.2.length
      ·have hdn : decide ((0 : Int) < f.2.length) = true := by simpa using hn0
       obtain ⟨g2, rfl⟩ := F2.out.form hn0
       go_upto_region 15 with (fail)
       obtain ⟨SS, hSS⟩ : ∃ SS : World -> Prop, SS = (fun W => W.cell? ⟨w.heap.size + 1, 1, none⟩ = some (.slice (some ⟨g2, 0, none⟩) f.2.length c)) := ⟨_, rfl⟩
       have HS1 := Lib.hid (show ∀ W, W.cell? ⟨w.heap.size + 1, 1, none⟩ = some (.slice (some ⟨g2, 0, none⟩) f.2.length c) -> SS W from by rw [hSS]; exact fun _ h => h)
       have HS2 := Lib.hid (show ∀ W, SS W -> W.cell? ⟨w.heap.size + 1, 1, none⟩ = some (.slice (some ⟨g2, 0, none⟩) f.2.length c) from by rw [hSS]; exact fun _ h => h)
       clear hSS
       have F0 := Lib.hid F2.out.drew
       have S0 := Lib.hid (HS1.out _ (F0.out.fact.cell 1))
       have hpos : (0 : Int) < (f.2.length : Int) := by omega
       refine zB SS 6 7 (by kernel_rfl) rfl ?_
       refine za (i := 0) (oi := _) ?v0d rfl rfl (by kernel_rfl) (by decide) (fun _ _ _ h => h) rfl ?hy0d (fun _ => S0.out) ?rest0d
       case hy0d => (intro W; go_simp; (try with_reducible rfl))
       try simp only [zs.a, zs.b, zs.c]
       refine zm (i := 1) (oi := _) ?v1d rfl rfl (by kernel_rfl) (fun _ _ _ h => h) rfl ?hy1d S0.out ?rest1d
       case hy1d => (intro W hW; have e1 := HS2.out W hW; go_simp; (try with_reducible rfl))
       try simp only [zs.a, zs.b, zs.c]
       refine za (i := 2) (oi := _) ?v2d rfl rfl (by kernel_rfl) (by decide) (fun _ _ _ h => h) rfl ?hy2d (fun _ => S0.out) ?rest2d
       case hy2d => (intro W; go_simp; (try with_reducible rfl))
       try simp only [zs.a, zs.b, zs.c]
       refine zh (i := 3) (by kernel_rfl) rfl (fun K hK => ?_)
       go_simp
       refine hK.out _ _ (fun _ => HS1.out _ ((F0.out.alloc _).fact.cell 1)) ?_
       clear hK K
       try simp only [zs.a, zs.b, zs.c, Act.put]
       refine zh (i := 4) (by kernel_rfl) rfl (fun K hK => ?_)
       go_simp
       refine (zam.num_calls F0.out hgl (by omega) 6 (-1) 5).mono ?_
       rintro e w9 ⟨v9, rfl, ⟨x9, rfl⟩, hf9⟩
       have F9 := Lib.hid hf9
       have HST := Lib.hid (hf9.first hgl x9)
       obtain ⟨e1, e2⟩ := hf9.head hn0
       clear hf9
       refine hK.out _ _ (fun _ => HS1.out _ (F9.out.fact.cell 1)) ?_
       clear hK K
       try simp only [zs.a, zs.b, zs.c, Act.put]
       refine za (i := 5) (oi := _) (.pointer (some ⟨g2, 0, none⟩)) rfl rfl (by kernel_rfl) (by decide) (fun _ _ _ h => h) rfl ?hy5d (fun _ => HS1.out _ (F9.out.fact.cell 1)) ?rest5d
       case hy5d => (intro W; go_simp; (try with_reducible rfl))
       try simp only [zs.a, zs.b, zs.c]
       refine zh (i := 6) (by kernel_rfl) rfl (fun K hK => ?_)
       go_simp
       refine hK.out _ _ (fun hf => absurd hf (by decide)) ?_
       clear hK K
       refine zL (by kernel_rfl) ?_
       go_wp2_with (fail)
       go_meet
       exact ⟨_, _, (f.1, f.2.set 0 x9), _, by simp; omega, by omega, HST.out⟩
      ·have hdn : decide ((0 : Int) < f.2.length) = false := by simpa using hn0
       go_wp2_with (fail)
       go_meet
       exact ⟨A, c, f, _, by omega, by omega, F2.out⟩
   ·have hd1 : (x1 == 0) = false := by simpa using h1
    go_wp2_with (fail)
    go_meet
    exact ⟨A, c, f, _, by omega, by omega, F1.out⟩
  case rest =>
   obtain ⟨A, c, f, q, hfl, hq, hf⟩ := hcut
   have k0 : wc.cell? ⟨w.heap.size + 1, 0, none⟩ = some (.int .i64 f.1) := hf.fact.cell 0
   have k1 : wc.cell? ⟨w.heap.size + 1, 1, none⟩ = some (.slice A f.2.length c) := hf.fact.cell 1
   have j0 : wc.cell? ⟨w.heap.size, 0, none⟩ = some (.int .i64 0) := hf.res.cell 0
   have j1 : wc.cell? ⟨w.heap.size, 1, none⟩ = some (.slice none 0 0) := hf.res.cell 1
   have l0 := hf.res.frozen 0
   have l1 := hf.res.frozen 1
   obtain ⟨hd0, hd1, hd2, hd3⟩ := hf.done hgl
   have HD := Lib.hid (And.intro hd0 (And.intro hd1 hd2))
   obtain ⟨W, hW⟩ : ∃ W, W = (wc.setCell ⟨w.heap.size, 0, none⟩ (.int .i64 f.1)).setCell ⟨w.heap.size, 1, none⟩ (.slice A f.2.length c) := ⟨_, rfl⟩
   rw [<- hW] at HD
   have d0 : W.cell? ⟨w.heap.size, 0, none⟩ = some (.int .i64 f.1) := by rw [hW, hd3.cell 0]; rfl
   have d1 : W.cell? ⟨w.heap.size, 1, none⟩ = some (.slice A f.2.length c) := by rw [hW, hd3.cell 1]; rfl
   have HW := Lib.hid hW
   clear hW hd0 hd1 hd2 hd3 hf
   go_wp2_with (fail)
   rw [<- HW.out]
   refine bodyPost_ret (v := .agg #[.int .i64 f.1, .slice A f.2.length c]) (by simp [results, Tryz.results97, go_sem, d0, d1]) rfl ?_
   obtain ⟨h1, h2, h3⟩ := HD.out
   exact ⟨A, c, f, q, rfl, hfl, by omega, h1, h2, h3⟩
open Go.RowKit
theorem zg.offG {w W : World} {lo hi g : Nat} {v : Value} {xs : List Int} (h : zg w lo hi v xs) (k : zl g (g + 1) w W) (hg : g < lo) : zg W lo hi v xs :=
 h.kept fun b hb => k.block b (h.1.lt b hb).2 (.inr (by have := (h.1.lt b hb).1; omega))
theorem zmm (g : Nat) (bs : List Nat) (p lo hi : Nat) (v : Value) (ar : List Int) (w : World) (h : Rdr w g bs p) (hp : p <= 1048576) (ha : zg w lo hi v ar) (hg : g < lo) (hh : hi <= w.heap.size) (hr : ∀ x ∈ ar, 0 <= x /\ x <= 2) (hl : ar.length <= 1048576) :
 Calls Tryz.prog 97 #[.pointer (some ⟨g, 0, none⟩), v] w fun e w' => ∃ (A : Option Addr) (c : Nat) (f : zd) (q : Nat), e = .returned (.agg #[.int .i64 f.1, .slice A f.2.length c]) /\ f.2.length <= 3 /\ q <= p + 20 /\
  zg w' w.heap.size w'.heap.size (.slice A f.2.length c) f.2 /\ Rdr w' g bs q /\ zl g (g + 1) w w' :=
 (zmn g bs p v ar w h hp (ha.rd.more hh) (fun _ k => (ha.offG k hg).rd.more (Nat.le_trans hh k.size)) hr hl).mono fun _ _ ⟨A, c, f, q, he, hf, hq, ho, hR, hO⟩ =>
   ⟨A, c, f, q, he, hf, hq, (show zg _ _ _ _ _ from ⟨ho, fun b hb => (ho.lt b hb).2⟩).mono (Nat.le_add_right _ 2) (Nat.le_refl _), hR, hO⟩
open Go.RowKit
section
variable {w wr w' w4 : World} {g q : Nat} {bs : List Nat} {A : Option Addr} {c : Nat} {xs : List Int}
end
end Go.Proofs.YtofkcmihcgmmpaaGreatDoor
