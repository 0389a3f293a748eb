/-
  Texts that the claim's last one imports, laid together: part 7 of 16. No condition of its own.
-/
import Derived.Laws.IdiomCopy
import Derived.Deep.LoopGhost
import Derived.Sort.LotA
import Derived.Sort.LotB
import Derived.Sort.LotC
import Derived.Sort.LotD3
import Derived.Test.YtofkcmihcgmmpaaGreatDoorChecked
import Derived.CellFam
import Derived.WalkKit
import Derived.RegionTactic
import Derived.Deep.Draws
import Derived.Deep.QuietTactic
import Derived.BigCall
import Derived.BigGuard
import Derived.BigQuiet
import Derived.Deep.Cut
import Derived.Test.YtofkcmihcgmmpaaGreatDoorMLr1
import Derived.Test.YtofkcmihcgmmpaaGreatDoorMLr2
import Derived.Test.YtofkcmihcgmmpaaGreatDoorMLr5
import Derived.Test.YtofkcmihcgmmpaaGreatDoorMLr6
namespace Go.Proofs.YtofkcmihcgmmpaaGreatDoor
set_option maxRecDepth 100000
open Go.RowKit Go.Sort
def El (w : World) (g : Nat) : Type := { x : zd × Value // zv w g x.2 x.1.2 /\ x.1.2.length <= 1048576 }
instance (w : World) (g : Nat) : Inhabited (El w g) := ⟨⟨((0, []), .slice none 0 0), ⟨none, 0, rfl, by simp, fun h => absurd h (by simp)⟩, by simp⟩⟩
def zfb {w : World} {g : Nat} (x : El w g) : List Value := [.int .i64 x.1.1.1, x.1.2]
def cfE {w : World} {g : Nat} (x y : El w g) : Int := zk x.1.1 y.1.1
section
variable {w : World} {g : Nat}
theorem ltE (x y : El w g) : ltOf cfE x y = decide (zk x.1.1 y.1.1 < 0) := rfl
theorem zpF : SWO (ltOf (cfE (w := w) (g := g))) where
 irrefl x := by rw [ltE, zaZ]; rfl
 trans x y z h1 h2 := by
  rw [ltE] at *
  exact decide_eq_true (zcr (of_decide_eq_true h1) (of_decide_eq_true h2))
 ntrans x y z h1 h2 := by
  rw [ltE] at *
  refine decide_eq_false fun h3 => ?_
  have h1 := of_decide_eq_false h1
  have h2 := of_decide_eq_false h2
  rcases zhL x.1.1 y.1.1 with h | h | h
  ·exact h1 h
  ·rw [h] at h3
   exact h2 h3
  ·exact h2 (zcr h h3)
theorem ze7 {α : Type} [Inhabited α] (enc : α -> List Value) (m : Nat) (dk : Array α) (os : Array Obj) : zl g (g + 1) w (sortWorldK enc 2 w g 0 m dk os) := by
 refine ⟨rfl, rfl, rfl, ?_, fun k hk ho => ?_⟩
 ·simp [sortWorldK, putRowK, putRow, mapBlock, Sort.grow, Sort.ahead]
 ·have hne : ¬ g = k := by omega
  simp only [sortWorldK, putRowK, putRow, mapBlock, Sort.grow, Sort.ahead, Array.getElem?_append, Array.size_modify, Array.getElem?_modify, hne, if_false]
  rw [if_pos hk]
theorem zo7 : ∀ (l : List (El w g)), (flatK zfb 2 l.toArray).toList = zaP (l.map (·.1.1)) (l.map (·.1.2)) := by
 intro l
 have hl : (l.map fun x : El w g => x.1.2).length = (l.map fun x : El w g => x.1.1).length := by simp
 have hfl := za4 (l.map fun x : El w g => x.1.1) (l.map fun x : El w g => x.1.2) hl
 simp only [List.length_map] at hfl
 have hsz : (flatK zfb 2 l.toArray).size = l.length * 2 := by simp
 apply List.ext_getElem
 ·rw [Array.length_toList, hsz, hfl]
 ·intro t h1 h2
  rw [Array.length_toList, hsz] at h1
  have hk : t / 2 < l.length := by omega
  obtain ⟨c0, c1⟩ := zcM (l.map fun x : El w g => x.1.1) (l.map fun x : El w g => x.1.2) hl (t / 2) (by simpa using hk) (by simpa using hk)
  have hget : (flatK zfb 2 l.toArray)[t]'(by rw [hsz]; exact h1) = (zfb l[t / 2])[t % 2]! := by
   have := get_flatK (zfb (w := w) (g := g)) 2 l.toArray t (by simpa using h1)
   rw [getElem!_pos _ _ (by rw [hsz]; exact h1)] at this
   rw [this]
   congr 2
   rw [getElem!_pos _ _ (by simpa using hk)]
   simp
  rw [Array.getElem_toList, hget]
  apply Option.some.inj
  rw [<- List.getElem?_eq_getElem h2]
  rcases (show t % 2 = 0 \/ t % 2 = 1 by omega) with e | e
  ·have et : t = t / 2 * 2 := by omega
   rw [e]
   conv => rhs; rw [et, c0]
   simp [zfb]
  ·have et : t = t / 2 * 2 + 1 := by omega
   rw [e]
   conv => rhs; rw [et, c1]
   simp [zfb]
theorem zpA {fs : List zd} {av : List Value} (h : zay w g av fs) (hl : ∀ k (hk : k < fs.length), fs[k].2.length <= 1048576) : ∃ l : List (El w g), l.map (·.1.1) = fs /\ l.map (·.1.2) = av := by
 let F : Fin fs.length -> El w g := fun i => ⟨(fs[i.1], av[i.1]'(by have := i.2; have := h.1; omega)), h.2 i.1 i.2 _ i.2, hl i.1 i.2⟩
 refine ⟨List.ofFn F, ?_, ?_⟩
 ·apply List.ext_getElem
  ·rw [List.length_map, List.length_ofFn]
  ·intro k k1 k2
   rw [List.getElem_map, List.getElem_ofFn]
 ·apply List.ext_getElem
  ·rw [List.length_map, List.length_ofFn, h.1]
  ·intro k k1 k2
   rw [List.getElem_map, List.getElem_ofFn]
theorem rdE (l : List (El w g)) : zay w g (l.map (·.1.2)) (l.map (·.1.1)) := ⟨by simp, fun k _ h2 h3 => by simpa using (l[k]'(by simpa using h3)).2.1⟩
end
theorem zay.below {w w' : World} {B B' : Nat} {av : List Value} {fs : List zd} (h : zay w B av fs) (hb : Below B' w w') (hB : B <= B') : zay w' B av fs := ⟨h.1, fun k h1 h2 h3 => (h.2 k h1 h2 h3).below hb hB⟩
theorem zay.more {w : World} {B B' : Nat} {av : List Value} {fs : List zd} (h : zay w B av fs) (hB : B <= B') : zay w B' av fs := ⟨h.1, fun k h1 h2 h3 => (h.2 k h1 h2 h3).more hB⟩
def za1 (w : World) (g cap : Nat) (fs : List zd) (av : List Value) : Prop :=
 ∃ cur, w.heap[g]? = some (.cells cur 39 (0, 0)) /\ fs.length <= cap /\ cap <= maxLen /\ cur.size = cap * 2 /\ cur.toList.take (fs.length * 2) = zaP fs av
theorem za1.lt {w : World} {g cap : Nat} {fs : List zd} {av : List Value} (h : za1 w g cap fs av) : g < w.heap.size := by
 obtain ⟨cur, hg, _⟩ := h
 exact Blk.lt hg
theorem zfd.at_ {w : World} {base c : Nat} {A : Option Addr} {fs : List zd} {av : List Value} (h : zfd w base A c fs av) (hn : 0 < fs.length) : ∃ g, A = some ⟨g, 0, none⟩ /\ base <= g /\ za1 w g c fs av := by
 rcases h.row.2 with ⟨_, h0⟩ | ⟨g, cap, cur, e, hb, hgg, r1, r2, r3, r4⟩
 ·omega
 ·injection e with e1 _ e3
  subst e1
  subst e3
  exact ⟨g, rfl, hb, cur, hgg, r1, r2, r3, r4⟩
theorem za1.row {w : World} {base g c : Nat} {fs : List zd} {av : List Value} (h : za1 w g c fs av) (hl : av.length = fs.length) (hb : base <= g) : w.ownsRow base 39 2 (.slice (some ⟨g, 0, none⟩) fs.length c) fs.length (zaP fs av) := by
 obtain ⟨cur, hg, h1, h2, h3, h4⟩ := h
 exact ⟨za4 _ _ hl, .inr ⟨g, c, cur, rfl, hb, hg, h1, h2, h3, h4⟩⟩
theorem za1.cell {w : World} {g c : Nat} {fs : List zd} {av : List Value} (h : za1 w g c fs av) {j : Nat} (hj : j < fs.length * 2) : w.cell? ⟨g, j, none⟩ = (zaP fs av)[j]? := by
 obtain ⟨cur, hg, h1, h2, h3, h4⟩ := h
 rw [Blk.cell hg, <- h4, List.getElem?_take_of_lt hj, Array.getElem?_toList]
theorem za1.frozen {w : World} {g c : Nat} {fs : List zd} {av : List Value} (h : za1 w g c fs av) (j : Nat) : w.frozen? ⟨g, j, none⟩ = false := by
 obtain ⟨cur, hg, _⟩ := h
 exact Blk.frozen hg j
set_option maxHeartbeats 1000000 in
theorem zm7 (g c : Nat) (fs : List zd) (av : List Value) (w : World) (hrow : za1 w g c fs av) (hrd : zay w g av fs) (hn : fs.length <= 4194304) (hl : ∀ k (hk : k < fs.length), fs[k].2.length <= 1048576) :
 Calls Tryz.prog 85 #[.slice (some ⟨g, 0, none⟩) fs.length c, .func (.func 32) #[] #[]] w fun e w' =>
  e = .returned (.tuple #[]) /\ ∃ fs' av', fs'.Perm fs /\ Up fs' /\ za1 w' g c fs' av' /\ zay w' g av' fs' /\ zl g (g + 1) w w' := by
 obtain ⟨l, rfl, rfl⟩ := zpA hrd hl
 have hg := hrow.lt
 have eg : ∀ args w, (callFunc 32 args).run Tryz.prog w = .ok (.enter 32 args) w := enters_of Tryz.func32 (by kernel_rfl) rfl
 have hcmp : CmpLays Tryz.prog 32 #[] (zfb (w := w) (g := g)) 2 cfE g 0 l.toArray.size w := fun m os dk _ x y => by
  have ho := ze7 (w := w) (g := g) (zfb (w := w) (g := g)) m dk os
  have hb : Below g w (sortWorldK zfb 2 w g 0 m dk os) := ho.below (Nat.le_refl _) (Nat.le_of_lt hg)
  exact zdS _ _ x.1.1 y.1.1 _ ⟨_, rfl, (x.2.1.below hb (Nat.le_refl _)).more (Nat.le_trans (Nat.le_of_lt hg) ho.size)⟩ ⟨_, rfl, (y.2.1.below hb (Nat.le_refl _)).more (Nat.le_trans (Nat.le_of_lt hg) ho.size)⟩ x.2.2 y.2.2
 have hH : HoldsK (zfb (w := w) (g := g)) 2 w g 0 l.toArray := fun j hj => by
  have hj2 : j < l.length * 2 := by simpa using hj
  refine ⟨?_, hrow.frozen _⟩
  rw [Nat.zero_add, hrow.cell (by simpa using hj2), <- zo7 l, Array.getElem?_toList, Array.getElem?_eq_getElem hj]
  rw [getElem!_pos (flatK zfb 2 l.toArray) j hj]
  rfl
 have hcon := AnyQ.slices_SortFunc Tryz.sortFact 2 Tryz.isAgg39 Tryz.sizeOf39 (zfb (w := w) (g := g)) (fun _ => rfl) (fun x v hv => by
  simp only [zfb, List.mem_cons, List.not_mem_nil, or_false] at hv
  rcases hv with rfl | rfl
  ·rfl
  ·obtain ⟨A, c, e, _⟩ := x.2.1
   rw [e]
   rfl) cfE zpF 32 #[] g 0 c l.toArray w eg hcmp hH hg (by simp at hn ⊢; omega)
 rw [show (List.map (fun x : El w g => x.1.1) l).length = l.toArray.size by simp]
 refine Calls.mono hcon ?_
 rintro e w' ⟨rfl, d', n, os, ⟨hsz, _, hperm⟩, hsort, rfl⟩
 have hp : d'.toList.Perm l := by
  have e1 : d'.extract 0 l.toArray.size = d' := by rw [<- hsz]; simp
  have e2 : l.toArray.extract 0 l.toArray.size = l.toArray := by simp
  rw [e1, e2] at hperm
  simpa using hperm
 have ho := ze7 (w := w) (g := g) (zfb (w := w) (g := g)) n d' os
 have hszl : d'.toList.length = l.length := by rw [Array.length_toList, hsz]; simp
 refine ⟨rfl, d'.toList.map (·.1.1), d'.toList.map (·.1.2), hp.map _, ?_, ?_, (rdE d'.toList).below (ho.below (Nat.le_refl _) (Nat.le_of_lt hg)) (Nat.le_refl _), ho⟩
 ·refine List.pairwise_map.2 (List.pairwise_iff_getElem.2 fun i j hi hj hij => ?_)
  rw [Array.length_toList] at hi hj
  have h := hsort i j (Nat.zero_le _) hij (by rw [<- hsz]; exact hj)
  rw [ltE, getElem!_pos d' i hi, getElem!_pos d' j hj] at h
  have h := of_decide_eq_false h
  have h2 := @ziB d'[j].1.1 d'[i].1.1
  simp only [Array.getElem_toList]
  omega
 ·obtain ⟨cur, hgg, h1, h2, h3, h4⟩ := hrow
  have hlen : (d'.toList.map fun x : El w g => x.1.1).length = l.length := by rw [List.length_map, hszl]
  refine ⟨putCells id 0 (flatK zfb 2 d') cur, ?_, by rw [hlen]; simpa using h1, h2, by simp [putCells, h3], ?_⟩
  ·simp only [sortWorldK, putRowK, putRow, mapBlock, Sort.grow, Sort.ahead]
   rw [Array.getElem?_append, Array.size_modify, if_pos hg, Array.getElem?_modify, if_pos rfl, hgg]
   rfl
  ·have hfe := zo7 d'.toList
   rw [Array.toArray_toList] at hfe
   rw [<- hfe, hlen]
   have hfs : (flatK zfb 2 d').size = l.length * 2 := by rw [size_flatK, hsz]; simp
   have hcl : l.length * 2 <= cur.size := by rw [h3]; simp at h1; omega
   apply List.ext_getElem
   ·simp [putCells, hfs]
    omega
   ·intro t t1 t2
    rw [Array.length_toList, hfs] at t2
    rw [List.getElem_take, Array.getElem_toList, Array.getElem_toList]
    simp only [putCells, Array.getElem_mapIdx, id]
    rw [if_pos ⟨Nat.zero_le _, by rw [hfs]; omega⟩, Nat.sub_zero, getElem!_pos (flatK zfb 2 d') t (by rw [hfs]; exact t2)]
open Go.RowKit Go.Sort
set_option maxHeartbeats 400000 in
theorem zfX (v v2 : Value) (f g : zd) (w : World) (h : zU w w.heap.size v f) (h2 : zU w w.heap.size v2 g) (hn : f.2.length <= 1048576) (hn2 : g.2.length <= 1048576) :
 Calls Tryz.prog 87 #[v, v2] w fun e w' => e = .returned (.bool (zk f g == 0)) /\ Gr w w' := by
 obtain ⟨a, rfl, h⟩ := h
 have H := Lib.hid h
 obtain ⟨A, c, rfl, hc, _⟩ := h
 obtain ⟨a, rfl, h2⟩ := h2
 have H2 := Lib.hid h2
 obtain ⟨A2, c2, rfl, hc2, _⟩ := h2
 go_enter Tryz.func87, Tryz.ntmps87
 go_wp2_with (fail)
 refine (zdS _ _ f g _ ⟨_, rfl, H.out.on (za0 _ _ _)⟩ ⟨_, rfl, H2.out.on (za0 _ _ _)⟩ hn hn2).mono ?_
 rintro e w1 ⟨rfl, hg1⟩
 have HG := Lib.hid ((((Gr.refl w).alloc _).alloc _).trans hg1)
 clear hg1
 go_wp2_with (fail)
 go_ret
 exact ⟨rfl, HG.out⟩
open Go.RowKit Go.Sort
theorem znY (f g : zd) : (zk f g == 0) = decide (f = g) := by
 by_cases h : f = g
 ·subst h
  simp [zaZ]
 ·rw [decide_eq_false h]
  simpa using fun e => h (zbO e)
theorem zer : ∀ (l : List zd) (a b : zd), zI (l ++ [a, b]) = if a = b then zI (l ++ [a]) else zI (l ++ [a]) ++ [b]
 | [], a, b => by
  by_cases h : a = b
  ·subst h
   simp [zI, zaZ]
  ·have : zk a b ≠ 0 := fun e => h (zbO e)
   simp [zI, this, h]
 | [x], a, b => by
  have ih := zer [] a b
  simp only [List.nil_append] at ih
  show zI (x :: a :: [b]) = _
  by_cases hx : zk x a = 0
  ·rw [zI, if_pos hx]
   show zI [a, b] = _
   rw [ih, show zI ([x] ++ [a]) = zI [a] by simp [zI, hx]]
  ·rw [zI, if_neg hx]
   show x :: zI [a, b] = _
   rw [ih, show zI ([x] ++ [a]) = x :: zI [a] by simp [zI, hx]]
   split <;> rfl
 | x :: y :: l, a, b => by
  have ih := zer (y :: l) a b
  have e1 : x :: y :: l ++ [a, b] = x :: (y :: (l ++ [a, b])) := rfl
  have e2 : x :: y :: l ++ [a] = x :: (y :: (l ++ [a])) := rfl
  have e3 : y :: l ++ [a, b] = y :: (l ++ [a, b]) := rfl
  have e4 : y :: l ++ [a] = y :: (l ++ [a]) := rfl
  rw [e3, e4] at ih
  rw [e1, e2]
  by_cases hx : zk x y = 0
  ·rw [zI, if_pos hx, ih, zI, if_pos hx]
  ·rw [zI, if_neg hx, ih, zI, if_neg hx]
   split <;> rfl
theorem zgZ {fs : List zd} {j : Nat} (h : j + 1 < fs.length) : zI (fs.take (j + 2)) = if fs[j] = fs[j + 1] then zI (fs.take (j + 1)) else zI (fs.take (j + 1)) ++ [fs[j + 1]] := by
 have e1 : fs.take (j + 2) = fs.take j ++ [fs[j], fs[j + 1]] := by
  rw [zH fs (j + 1) h, zH fs j (by omega), List.append_assoc]
  rfl
 have e2 : fs.take (j + 1) = fs.take j ++ [fs[j]] := zH fs j (by omega)
 rw [e1, e2]
 exact zer _ _ _
theorem ziV : ∀ (fs : List zd) (av : List Value) (j : Nat) (a : Value), av.length = fs.length -> j < fs.length -> zaP fs (av.set j a) = (zaP fs av).set (j * 2 + 1) a
 | [], _, j, _, _, h => absurd h (by simp)
 | _ :: _, [], _, _, h, _ => by simp at h
 | f :: fs, b :: av, 0, a, _, _ => by simp [zaP]
 | f :: fs, b :: av, j + 1, a, h, hj => by
  have := ziV fs av j a (by simpa using h) (by simpa using hj)
  rw [show (j + 1) * 2 + 1 = j * 2 + 1 + 1 + 1 by omega]
  simp [zaP, this]
section
variable {w w' : World} {g c : Nat} {fs : List zd} {av : List Value}
theorem za1.keep (h : za1 w g c fs av) (hk : w'.heap[g]? = w.heap[g]?) : za1 w' g c fs av := by
 obtain ⟨cur, hg, r⟩ := h
 exact ⟨cur, hk.trans hg, r⟩
theorem za1.below {B : Nat} (h : za1 w g c fs av) (hb : Below B w w') (hB : g < B) : za1 w' g c fs av := h.keep (hb.block g hB)
theorem za1.len (h : za1 w g c fs av) : fs.length <= c := by
 obtain ⟨cur, _, h1, _⟩ := h
 exact h1
theorem za1.set (h : za1 w g c fs av) (hl : av.length = fs.length) {k : Nat} (hk : k < fs.length) (f : zd) (a : Value) : za1 ((w.setCell ⟨g, k * 2, none⟩ (.int .i64 f.1)).setCell ⟨g, k * 2 + 1, none⟩ a) g c (fs.set k f) (av.set k a) := by
 obtain ⟨cur, hg, h1, h2, h3, h4⟩ := h
 have s1 := Blk.set_ (show Blk w g 39 cur from hg) (k * 2) (.int .i64 f.1)
 have s2 := s1.set_ (k * 2 + 1) a
 refine ⟨_, s2, by simpa using h1, h2, by simpa using h3, ?_⟩
 rw [ziV (fs.set k f) av k a (by simpa using hl) (by simpa using hk), zgO fs av k f hl, <- h4]
 apply List.ext_getElem?
 intro j
 simp only [List.length_set, List.getElem?_take, Array.getElem?_toList, Array.getElem?_setIfInBounds, List.getElem?_set, Array.size_setIfInBounds, List.length_take, Array.length_toList]
 have hb : fs.length * 2 <= cur.size := by omega
 by_cases e1 : k * 2 + 1 = j
 ·subst e1
  have : k * 2 + 1 < fs.length * 2 := by omega
  have h5 : k * 2 + 1 < cur.size := by omega
  simp [this, h5]
  omega
 ·by_cases e2 : k * 2 = j
  ·subst e2
   have : k * 2 < fs.length * 2 := by omega
   have h5 : k * 2 < cur.size := by omega
   simp [this, h5]
   omega
  ·by_cases h6 : j < fs.length * 2
   ·simp [e1, e2, h6]
   ·simp [e1, e2, h6]
theorem za1.take (h : za1 w g c fs av) (hl : av.length = fs.length) {m : Nat} (hm : m <= fs.length) : za1 w g c (fs.take m) (av.take m) := by
 obtain ⟨cur, hg, h1, h2, h3, h4⟩ := h
 refine ⟨cur, hg, by simp; omega, h2, h3, ?_⟩
 have hlm : (fs.take m).length = m := by simp; omega
 rw [hlm]
 have e : zaP fs av = zaP (fs.take m) (av.take m) ++ zaP (fs.drop m) (av.drop m) := by
  rw [<- zfz _ _ (by simp [hl]), List.take_append_drop, List.take_append_drop]
 have hfl := za4 (fs.take m) (av.take m) (by simp [hl])
 rw [hlm] at hfl
 rw [e] at h4
 have := congrArg (List.take (m * 2)) h4
 rw [List.take_take, show min (m * 2) (fs.length * 2) = m * 2 by omega, List.take_append_of_le_length (by omega), <- hfl, List.take_length] at this
 rw [<- hfl]
 exact this
end
theorem zfW (g : Nat) : ∀ (vs : List Value) (o : Nat) (w : World) (cur : Array Value) (t : TypeId), w.heap[g]? = some (.cells cur t (0, 0)) ->
 ∃ cur', (w.setCells g o vs).heap[g]? = some (.cells cur' t (0, 0)) /\ cur'.size = cur.size /\ (∀ j, j < o -> cur'[j]? = cur[j]?) /\ zl g (g + 1) w (w.setCells g o vs)
 | [], _, w, cur, t, h => ⟨cur, h, rfl, fun _ _ => rfl, zl.refl _ _ _⟩
 | v :: vs, o, w, cur, t, h => by
  obtain ⟨cur', h1, h2, h3, h4⟩ := zfW g vs (o + 1) (w.setCell ⟨g, o, none⟩ v) _ t (Blk.set_ (show Blk w g t cur from h) o v)
  refine ⟨cur', h1, by simpa using h2, fun j hj => ?_, (zl.setCell (p := ⟨g, o, none⟩) (zl.refl g (g + 1) w) ⟨Nat.le_refl g, Nat.lt_succ_self g⟩ v).trans h4⟩
  rw [h3 j (by omega), Array.getElem?_setIfInBounds]
  rw [if_neg (by omega)]
theorem zh7 {w : World} {g c : Nat} {fs : List zd} {av : List Value} (h : za1 w g c fs av) {k : Nat} (hk : k < fs.length) (d : Nat) :
 ∃ W, (∀ ty, (Builtin.clear_ #[27] ty #[.slice (some ⟨g, k * 2, none⟩) (fs.length - k) d]).run Tryz.prog w = .ok (.tuple #[]) W) /\ zl g (g + 1) w W /\ ((av.length = fs.length) -> za1 W g c (fs.take k) (av.take k)) := by
 obtain ⟨cur, hg, h1, h2, h3, h4⟩ := h
 have hz : ∀ W, (zeroValue 39).run Tryz.prog W = .ok (.agg #[.int .i64 0, .slice none 0 0]) W := Tryz.zeroValue39
 obtain ⟨zc, hzc⟩ : ∃ zc, zc = (Builtin.zeroCells #[Value.int IntKind.i64 0, Value.slice none 0 0] (fs.length - k)).toList := ⟨_, rfl⟩
 have hzl : zc.length = (fs.length - k) * 2 := by rw [hzc, Array.length_toList, zdN]
 have hz1 : ∀ v ∈ zc, v.oneCell' = true := by
  intro v hv
  rw [hzc] at hv
  simp [Builtin.zeroCells] at hv
  obtain ⟨i, _, hi⟩ := hv
  rcases (show i % 2 = 0 \/ i % 2 = 1 by omega) with e | e
  ·rw [e] at hi
   simp at hi
   rw [<- hi]
   rfl
  ·rw [e] at hi
   simp at hi
   rw [<- hi]
   rfl
 have hst := run_storeCells_cells (P := Tryz.prog) g (k * 2) zc 0 w (fun j hj => by
  rw [Blk.cell hg, Array.getElem?_eq_getElem (by omega)]
  rfl) (fun j _ => Blk.frozen hg _) hz1
 rw [Nat.add_zero] at hst
 obtain ⟨cur', g1, g2, g3, g4⟩ := zfW g zc (k * 2) w cur _ hg
 refine ⟨w.setCells g (k * 2) zc, fun ty => ?_, g4, fun hl => ?_⟩
 ·obtain ⟨m, hm⟩ : ∃ m, fs.length - k = m + 1 := ⟨fs.length - k - 1, by omega⟩
  rw [hm] at hzc ⊢
  simp only [Builtin.clear_]
  simp [run_underlying Tryz.underlying27, hz, Value.cells, <- hzc, hst]
 ·have hA : za1 w g c fs av := ⟨cur, hg, h1, h2, h3, h4⟩
  obtain ⟨_, hg', _, _, _, h4'⟩ := hA.take hl (Nat.le_of_lt hk)
  rw [hg] at hg'
  injection hg' with hg'
  injection hg' with hg' _ _
  subst hg'
  refine ⟨cur', g1, by simp; omega, h2, by rw [g2]; exact h3, ?_⟩
  rw [<- h4']
  have hlk : (fs.take k).length = k := by simp; omega
  rw [hlk]
  apply List.ext_getElem?
  intro j
  rw [List.getElem?_take, List.getElem?_take]
  split
  ·rw [Array.getElem?_toList, Array.getElem?_toList]
   exact g3 j (by omega)
  ·rfl
open Go.RowKit
theorem zq.offG {w W : World} {lo hi g : Nat} {v : Value} {fs : List zd} (h : zq w lo hi v fs) (k : zl g (g + 1) w W) (hg : g < lo) : zq W lo hi v fs := h.only k (.inr (by omega))
theorem zq.swap {w : World} {lo hi : Nat} {v : Value} {f0 f1 : zd} {fs : List zd} (h : zq w lo hi v (f0 :: f1 :: fs)) (hh : hi <= w.heap.size) :
 ∃ (g c : Nat) (A0 : Option Addr) (c0 : Nat) (A1 : Option Addr) (c1 : Nat), v = .slice (some ⟨g, 0, none⟩) (fs.length + 2) c /\ lo <= g /\ g < hi /\
  w.cell? ⟨g, 0, none⟩ = some (.int .i64 f0.1) /\ w.cell? ⟨g, 1, none⟩ = some (.slice A0 f0.2.length c0) /\ w.cell? ⟨g, 2, none⟩ = some (.int .i64 f1.1) /\ w.cell? ⟨g, 3, none⟩ = some (.slice A1 f1.2.length c1) /\ (∀ k, w.frozen? ⟨g, k, none⟩ = false) /\
  ∀ W, Below w.heap.size w W -> zq ((((W.setCell ⟨g, 0, none⟩ (.int .i64 f1.1)).setCell ⟨g, 1, none⟩ (.slice A1 f1.2.length c1)).setCell ⟨g, 2, none⟩ (.int .i64 f0.1)).setCell ⟨g, 3, none⟩ (.slice A0 f0.2.length c0)) lo hi v (f1 :: f0 :: fs) := by
 obtain ⟨av, ⟨hlen, hown, hap⟩, hr, hlt⟩ := h
 rcases av with _ | ⟨a0, _ | ⟨a1, av⟩⟩
 ·simp at hlen
 ·simp at hlen
 have o0 : zg w lo hi a0 f0.2 := hown 0 (by simp) (by simp)
 have o1 : zg w lo hi a1 f1.2 := hown 1 (by simp) (by simp)
 obtain ⟨A0, c0, rfl⟩ := o0.form
 obtain ⟨A1, c1, rfl⟩ := o1.form
 rcases hr.2 with ⟨_, h0⟩ | ⟨g, cap, cur, rfl, hbg, hgg, r1, r2, r3, r4⟩
 ·simp at h0
 have hat : za1 w g cap (f0 :: f1 :: fs) (.slice A0 f0.2.length c0 :: .slice A1 f1.2.length c1 :: av) := ⟨cur, hgg, r1, r2, r3, r4⟩
 have hl : av.length = fs.length := by simpa using hlen
 have hgh := hlt g rfl
 refine ⟨g, cap, A0, c0, A1, c1, rfl, hbg, hgh, ?_, ?_, ?_, ?_, fun k => hat.frozen k, fun W hW => ?_⟩
 ·rw [hat.cell (by simp only [List.length_cons]; omega)]; rfl
 ·rw [hat.cell (by simp only [List.length_cons]; omega)]; rfl
 ·rw [hat.cell (by simp only [List.length_cons]; omega)]; rfl
 ·rw [hat.cell (by simp only [List.length_cons]; omega)]; rfl
 ·have K : ∀ (x : Value) (xs : List Int), zg w lo hi x xs -> zg ((((W.setCell ⟨g, 0, none⟩ (.int .i64 f1.1)).setCell ⟨g, 1, none⟩ (.slice A1 f1.2.length c1)).setCell ⟨g, 2, none⟩ (.int .i64 f0.1)).setCell ⟨g, 3, none⟩ (.slice A0 f0.2.length c0)) lo hi x xs := fun x xs hx => by
   refine (hx.below hW hh).kept fun b hb => ?_
   have hne : b ≠ g := fun e => zcv hx.1 (show Blk w g 39 cur from hgg) (by decide) (by rw [hb, e])
   exact (Below.heap_setCell _ ⟨g, 3, none⟩ _ _ hne).trans ((Below.heap_setCell _ ⟨g, 2, none⟩ _ _ hne).trans ((Below.heap_setCell _ ⟨g, 1, none⟩ _ _ hne).trans (Below.heap_setCell _ ⟨g, 0, none⟩ _ _ hne)))
  have S := ((hat.below hW (by omega)).set (by simp [hl]) (k := 0) (by simp) f1 (.slice A1 f1.2.length c1)).set (by simp [hl]) (k := 1) (by simp) f0 (.slice A0 f0.2.length c0)
  have T := S.row (base := lo) (by simp [hl]) hbg
  refine ⟨.slice A1 f1.2.length c1 :: .slice A0 f0.2.length c0 :: av, ⟨by simp [hl], fun i h1 h2 => ?_, ?_⟩, T, hlt⟩
  ·rcases i with _ | _ | i
   ·exact K _ _ o1
   ·exact K _ _ o0
   ·exact K _ _ (hown (i + 2) (by simpa using h1) (by simpa using h2))
  ·rw [List.pairwise_cons, List.pairwise_cons] at hap
   obtain ⟨p0, p1, p2⟩ := hap
   rw [List.pairwise_cons, List.pairwise_cons]
   refine ⟨fun b hb => ?_, fun b hb => p0 b (by simp [hb]), p2⟩
   rcases List.mem_cons.1 hb with rfl | hb
   ·exact fun x hx hx' => p0 _ (by simp) x hx' hx
   ·exact p1 b hb
set_option maxHeartbeats 2000000 in
theorem zml (g : Nat) (bs : List Nat) (p m lo hi : Nat) (v : Value) (ar : List Int) (w : World) (h : Rdr w g bs p) (hp : p <= 65536) (ha : zg w lo hi v ar) (hg : g < lo) (hh : hi <= w.heap.size) (hr : ∀ x ∈ ar, 0 <= x /\ x <= 2) (hl : ar.length <= 1048576) (hm : m <= 64) :
 Calls Tryz.prog 61 #[.pointer (some ⟨g, 0, none⟩), v, .int .i64 m] w fun e w' => ∃ (A : Option Addr) (c : Nat) (fs : List zd) (q : Nat), e = .returned (.slice A fs.length c) /\ fs.length <= m /\ tot fs <= 3 * m /\ q <= p + 2 + 24 * m /\
  zq w' w.heap.size w'.heap.size (.slice A fs.length c) fs /\ Rdr w' g bs q /\ zl g (g + 1) w w' := by
 obtain ⟨A0, c0, rfl⟩ := ha.form
 have hgl := h.lt
 have H := Lib.hid h
 have HA := Lib.hid ha
 have HR0 := Lib.hid hr
 clear h ha hr
 go_enter Tryz.func61, Tryz.ntmps61
 go_wp2_with (fail)
 refine (zak g bs p _ _ (H.out.below (ze _ _) hgl) (by omega) (by omega)).mono ?_
 rintro e w1 ⟨⟨x, rfl, hx⟩, hpk⟩
 obtain ⟨j, rfl⟩ : ∃ j : Nat, x = (j : Int) := ⟨x.toNat, by have := hx.1 (by omega); omega⟩
 have hj : j <= m := by have := hx.1 (by omega); omega
 have HS := Lib.hid (show zq w1 w.heap.size w1.heap.size (.slice (some ⟨w.heap.size, 0, none⟩) 0 0) [] from (((zbq.empty w).own.own.mono (Nat.le_refl _) (Nat.le_refl _)).offG hpk.2 hgl).mono (Nat.le_refl _) hpk.2.size)
 have HR1 := Lib.hid hpk.1
 have HO1 := Lib.hid ((zl.of_below (ze w _)).trans hpk.2)
 clear hpk hx
 go_wp2_with (fail)
 go_loopw [7, 8] (fun o i wr => ∃ (k : Nat) (fs : List zd) (A : Option Addr) (c q : Nat), i = .int .i64 k /\ fs.length + k <= m /\ tot fs + 3 * k <= 3 * m /\ q + 24 * k <= p + 1 + 24 * m /\ o = .slice A fs.length c /\ zq wr w.heap.size wr.heap.size (.slice A fs.length c) fs /\ Rdr wr g bs q /\ zl g (g + 1) w wr) (fun _ i _ => (intOf i).toNat)
 case atStart => exact ⟨j, [], _, 0, p + 1, rfl, by simpa using hj, by have : tot [] = 0 := rfl; omega, by omega, rfl, HS.out, HR1.out, HO1.out⟩
 case round =>
  obtain ⟨k, fs, A, c, q, rfl, hk, htk, hqk, rfl, ho, hrd, hon⟩ := hrel
  have HO := Lib.hid ho
  have HRD := Lib.hid hrd
  have hsz := hon.size
  have HN := Lib.hid hon
  have hfl : fs.length <= m := by omega
  clear ho hrd hon
  by_cases hlt : 0 < k
  ·obtain ⟨k, rfl⟩ : ∃ k', k = k' + 1 := ⟨k - 1, by omega⟩
   have hd : decide ((0 : Int) < ((k + 1 : Nat) : Int)) = true := by simp
   go_wp2_with (fail)
   refine (zmm g bs q lo hi _ ar wr HRD.out (by omega) (HA.out.offG HN.out hg) hg (Nat.le_trans hh hsz) HR0.out hl).mono ?_
   rintro e w2 ⟨A3, c3, f, q3, rfl, hf, hq3, ho, hR, hO⟩
   have HF := Lib.hid ho
   have HR2 := Lib.hid hR
   have HO2 := Lib.hid hO
   have hs2 := hO.size
   clear ho hR hO
   go_wp2_with (fail)
   have RA := Lib.hid (show zv (w2.alloc (Obj.cells #[Value.int IntKind.i64 f.fst, Value.slice A3 f.snd.length c3] 39)) (w2.alloc (Obj.cells #[Value.int IntKind.i64 f.fst, Value.slice A3 f.snd.length c3] 39)).heap.size (.slice A0 ar.length c0) ar from
    (((HA.out.offG HN.out hg).offG HO2.out hg).rd.more (by omega)).on (ze w2 _))
   have RB := Lib.hid (show zU (w2.alloc (Obj.cells #[Value.int IntKind.i64 f.fst, Value.slice A3 f.snd.length c3] 39)) (w2.alloc (Obj.cells #[Value.int IntKind.i64 f.fst, Value.slice A3 f.snd.length c3] 39)).heap.size (.agg #[.int .i64 f.1, .slice A3 f.2.length c3]) f from
    zU.on ⟨_, rfl, HF.out.rd⟩ (ze w2 _))
   refine (zdM _ _ ar f _ RA.out RB.out hl (by omega)).mono ?_
   rintro e w3 ⟨rfl, hb3⟩
   have B3 := zf (ze w2 _) hb3
   have hs3 := B3.size
   have K3 : Blk w3 w2.heap.size 39 #[.int .i64 f.1, .slice A3 f.2.length c3] := (Blk.new w2 _ _).below hb3 (by simp)
   have O3 : zq w3 w.heap.size wr.heap.size (.slice A fs.length c) fs := (HO.out.offG HO2.out (by omega)).below B3 hs2
   have F3 : zg w3 wr.heap.size w2.heap.size (.slice A3 f.2.length c3) f.2 := HF.out.below B3 (Nat.le_refl _)
   have R3 := HR2.out.below B3 HR2.out.lt
   have N3 := HN.out.trans (HO2.out.trans (zl.of_below (lo := g) (hi := g + 1) B3))
   have hbd := zdk fs f
   have hgr : g < w3.heap.size := R3.lt
   clear hb3 B3 HRD HR2 HO2 HO HF RA RB HN
   cases hok : zb4 ar f
   ·have HX3 := Lib.hid (And.intro O3 (And.intro F3 (And.intro R3 N3)))
    have HK3 := Lib.hid K3
    clear O3 F3 N3 K3
    have HR3 := Lib.hid R3
    clear R3
    go_wp2_with (fail)
    refine (zak g bs q3 _ _ HR3.out (by omega) (by omega)).mono ?_
    rintro e w4 ⟨⟨x, rfl, _⟩, hpk⟩
    have hs4 := hpk.2.size
    have K4 := HK3.out.only hpk.2 (.inr (by omega))
    obtain ⟨O3, F3, _, N3⟩ := HX3.out
    have O4 := (O3.offG hpk.2 (by omega)).mono (Nat.le_refl _) (show wr.heap.size <= w4.heap.size by omega)
    have F4 := (F3.offG hpk.2 (by omega)).rd.more (show w2.heap.size <= w4.heap.size by omega)
    have R4 := hpk.1
    have N4 := N3.trans hpk.2
    have k0 : w4.cell? ⟨w2.heap.size, 0, none⟩ = some (.int .i64 f.1) := K4.cell 0
    have k1 : w4.cell? ⟨w2.heap.size, 1, none⟩ = some (.slice A3 f.2.length c3) := K4.cell 1
    clear hpk O3 F3 N3 K4 HX3 HK3 HR3
    have HX4 := Lib.hid (And.intro O4 (And.intro F4 (And.intro R4 N4)))
    clear O4 F4 R4 N4
    by_cases hx0 : x = 0
    ·subst hx0
     go_wp2_with (fail)
     refine (zbu _ _ fs f _ HX4.out.1.rd ⟨_, rfl, HX4.out.2.1⟩ (by omega) (by omega) (by omega)).mono ?_
     rintro e w5 ⟨A5, c5, rfl, ho5, hb5⟩
     have HE := Lib.hid (show zq w5 w.heap.size w5.heap.size _ _ from ho5.mono (by omega) (Nat.le_refl _))
     have HR5 := Lib.hid (HX4.out.2.2.1.below hb5 (by omega))
     have HN5 := Lib.hid (HX4.out.2.2.2.trans (zl.of_below (lo := g) (hi := g + 1) hb5))
     clear ho5 hb5
     go_wp2_with (fail)
     go_roundw
     case rel => exact ⟨k, zQ fs f, A5, c5, q3 + 1, by go_num, by omega, by omega, by omega, rfl, HE.out, HR5.out, HN5.out⟩
     case measure => simp [intOf]
    ·have hd0 : (x == 0) = false := by simpa using hx0
     go_wp2_with (fail)
     go_roundw
     case rel => exact ⟨k, fs, A, c, q3 + 1, by go_num, by omega, by omega, by omega, rfl, HX4.out.1, HX4.out.2.2.1, HX4.out.2.2.2⟩
     case measure => simp [intOf]
   ·have k0 : w3.cell? ⟨w2.heap.size, 0, none⟩ = some (.int .i64 f.1) := K3.cell 0
    have k1 : w3.cell? ⟨w2.heap.size, 1, none⟩ = some (.slice A3 f.2.length c3) := K3.cell 1
    have HX3 := Lib.hid (And.intro O3 (And.intro F3 (And.intro R3 N3)))
    clear O3 F3 R3 N3 K3
    go_wp2_with (fail)
    refine (zbu _ _ fs f _ (HX3.out.1.rd.more (by omega)) ⟨_, rfl, HX3.out.2.1.rd.more (by omega)⟩ (by omega) (by omega) (by omega)).mono ?_
    rintro e w5 ⟨A5, c5, rfl, ho5, hb5⟩
    have HE := Lib.hid (show zq w5 w.heap.size w5.heap.size _ _ from ho5.mono (by omega) (Nat.le_refl _))
    have HR5 := Lib.hid (HX3.out.2.2.1.below hb5 (by omega))
    have HN5 := Lib.hid (HX3.out.2.2.2.trans (zl.of_below (lo := g) (hi := g + 1) hb5))
    clear ho5 hb5
    go_wp2_with (fail)
    go_roundw
    case rel => exact ⟨k, zQ fs f, A5, c5, q3, by go_num, by omega, by omega, by omega, rfl, HE.out, HR5.out, HN5.out⟩
    case measure => simp [intOf]
  ·have hk0 : k = 0 := by omega
   subst hk0
   by_cases h1 : 1 < fs.length
   ·obtain ⟨f0, f1, fs, rfl⟩ : ∃ f0 f1 fs', fs = f0 :: f1 :: fs' := by
     rcases fs with _ | ⟨f0, _ | ⟨f1, fs⟩⟩
     ·simp at h1
     ·simp at h1
     ·exact ⟨f0, f1, fs, rfl⟩
    have hd1 : decide ((1 : Int) < ((f0 :: f1 :: fs).length : Int)) = true := by simp only [List.length_cons]; simp; omega
    go_wp2_with (fail)
    refine (zak g bs q _ _ HRD.out (by omega) (by omega)).mono ?_
    rintro e w3 ⟨⟨x, rfl, _⟩, hpk⟩
    have O3 := (HO.out.offG hpk.2 hgl).mono (Nat.le_refl _) hpk.2.size
    have HN3 := Lib.hid (HN.out.trans hpk.2)
    have HR3 := Lib.hid hpk.1
    have hs3 := hpk.2.size
    clear hpk
    by_cases hx0 : x = 0
    ·subst hx0
     obtain ⟨g2, cp, B0, d0, B1, d1, e0, hlo, hhi, k0, k1, k2, k3, kf, hsw⟩ := O3.swap (Nat.le_refl _)
     injection e0 with e1 _ e3
     subst e1
     subst e3
     have f0' := kf 0
     have f1' := kf 1
     have f2' := kf 2
     have f3' := kf 3
     have HSW := Lib.hid hsw
     clear hsw kf
     go_wp2_with (fail)
     go_ret
     refine ⟨some ⟨g2, 0, none⟩, _, f1 :: f0 :: fs, q + 1, rfl, by simpa using hk, by simp only [zdc] at htk ⊢; omega, by omega, ?_⟩
     have hso := HSW.out w3 (Below.refl _ _)
     have hkb : ∀ b, b ≠ g2 -> ((((w3.setCell ⟨g2, 0, none⟩ (.int .i64 f1.1)).setCell ⟨g2, 1, none⟩ (.slice B1 f1.2.length d1)).setCell ⟨g2, 2, none⟩ (.int .i64 f0.1)).setCell ⟨g2, 3, none⟩ (.slice B0 f0.2.length d0)).heap[b]? = w3.heap[b]? := fun b hne =>
      (Below.heap_setCell _ ⟨g2, 3, none⟩ _ _ hne).trans ((Below.heap_setCell _ ⟨g2, 2, none⟩ _ _ hne).trans ((Below.heap_setCell _ ⟨g2, 1, none⟩ _ _ hne).trans (Below.heap_setCell _ ⟨g2, 0, none⟩ _ _ hne)))
     have hN3 := HN3.out
     have hR3 := HR3.out
     have ho : zl g (g + 1) w ((((w3.setCell ⟨g2, 0, none⟩ (.int .i64 f1.1)).setCell ⟨g2, 1, none⟩ (.slice B1 f1.2.length d1)).setCell ⟨g2, 2, none⟩ (.int .i64 f0.1)).setCell ⟨g2, 3, none⟩ (.slice B0 f0.2.length d0)) :=
      ⟨hN3.os, hN3.tape, hN3.output, by simpa using hN3.size, fun k hk hn => (hkb k (by omega)).trans (hN3.block k hk hn)⟩
     have hsz4 : ((((w3.setCell ⟨g2, 0, none⟩ (.int .i64 f1.1)).setCell ⟨g2, 1, none⟩ (.slice B1 f1.2.length d1)).setCell ⟨g2, 2, none⟩ (.int .i64 f0.1)).setCell ⟨g2, 3, none⟩ (.slice B0 f0.2.length d0)).heap.size = w3.heap.size := by simp
     have hr4 := hR3.same (w' := ((((w3.setCell ⟨g2, 0, none⟩ (.int .i64 f1.1)).setCell ⟨g2, 1, none⟩ (.slice B1 f1.2.length d1)).setCell ⟨g2, 2, none⟩ (.int .i64 f0.1)).setCell ⟨g2, 3, none⟩ (.slice B0 f0.2.length d0))) fun k hk => hkb k (by omega)
     exact ⟨(hso.below (ze _ _) (by omega)).mono (Nat.le_refl _) (by rw [World.size_alloc]; omega), hr4.below (ze _ _) (by omega), ho.trans (zl.of_below (ze _ _))⟩
    ·have hd0 : (x == 0) = false := by simpa using hx0
     have HO3 := Lib.hid O3
     clear O3
     go_wp2_with (fail)
     go_ret
     exact ⟨A, c, f0 :: f1 :: fs, q + 1, rfl, by simpa using hk, by simpa using htk, by omega, HO3.out, HR3.out, HN3.out⟩
   ·have hd1 : decide ((1 : Int) < (fs.length : Int)) = false := by simp; omega
    go_wp2_with (fail)
    go_ret
    exact ⟨A, c, fs, q, rfl, by simpa using hk, by simpa using htk, by omega, HO.out, HRD.out, HN.out⟩
open Go.RowKit
theorem zld (a b : Int) (w : World) : Calls Tryz.prog 95 #[.int .i64 a, .int .i64 b] w fun e w' => e = .returned (.int .i64 (if b < a then b else a)) /\ w = w' := by
 go_enter Tryz.func95, Tryz.ntmps95
 by_cases h : b < a
 ·have hb : decide (b < a) = true := by simpa using h
  go_wp2_with (fail)
  go_ret
  exact ⟨zT rfl, rfl⟩
 ·have hb : decide (b < a) = false := by simpa using h
  go_wp2_with (fail)
  go_ret
  exact ⟨zT rfl, rfl⟩
section
variable {w wr w' w1 : World} {D g q B : Nat} {bs : List Nat} {A Ar : Option Addr} {c cr : Nat} {ar : List Int} {es : List Ent}
theorem Pg4.go (h : Pg4 w wr D B g bs q A c ar Ar cr es) (hg : g < w.heap.size) {q' : Nat} (hr : Rdr w' g bs q') (ho : zl g (g + 1) wr w') : Pg4 w w' D B g bs q' A c ar Ar cr es :=
 ⟨h.res.only ho (.inr (by omega)), h.prg.only ho (.inr (by have := h.low; have := h.high; omega)), h.own.only ho (.inr (by omega)), h.rules.only ho (by have := h.low; omega), h.low, h.high, hr, h.only.trans ho⟩
theorem Pg4.start (hg : g < w.heap.size) (hB : w.heap.size + 1 <= B) (hB2 : B <= w1.heap.size) (hw : w' = w1.alloc (.cells #[.slice A ar.length c, .slice Ar es.length cr] 26))
 (h1 : zg w1 (w.heap.size + 1) B (.slice A ar.length c) ar) (h2 : zdl B w1 es Ar cr) (h3 : Rdr w1 g bs q) (h4 : zl g (g + 1) (w.alloc (.cells #[.slice none 0 0, .slice none 0 0] 26)) w1) : Pg4 w w' w1.heap.size B g bs q A c ar Ar cr es := by
 have hb : Below w1.heap.size w1 w' := by rw [hw]; exact ze _ _
 refine ⟨((Blk.new w 26 #[.slice none 0 0, .slice none 0 0]).only h4 (.inr (by omega))).below hb (by omega), by rw [hw]; exact Blk.new _ _ _, h1.below hb hB2, h2.below hb, hB, hB2, h3.below hb h3.lt, ((zl.of_below (ze w _)).trans h4).trans (zl.of_below hb)⟩
end
theorem zg.capLe {w : World} {lo hi c : Nat} {A : Option Addr} {xs : List Int} (h : zg w lo hi (.slice A xs.length c) xs) : xs.length <= c := by
 rcases h.1.2 with ⟨e, h0⟩ | ⟨g, cq, cur, e, hb, hgg, hn, _⟩
 ·injection e with _ _ e
  omega
 ·injection e with _ _ e
  omega
theorem zg.front {w : World} {lo hi c n : Nat} {A : Option Addr} {xs : List Int} (h : zg w lo hi (.slice A xs.length c) xs) (hn : n <= xs.length) (h0 : 0 < xs.length) : zg w lo hi (.slice A n c) (xs.take n) := by
 obtain ⟨⟨hl, h⟩, hlt⟩ := h
 rcases h with ⟨e, h1⟩ | ⟨g, cap, cur, e, hb, hg, h1, h2, h3, h4⟩
 ·omega
 ·injection e with e1 e2 e3
  subst e1 e3
  have hlen : (xs.take n).length = n := by simp; omega
  refine ⟨⟨by rw [List.length_map, hlen]; omega, .inr ⟨g, c, cur, by rw [hlen], hb, hg, by omega, h2, h3, ?_⟩⟩, fun g' hg' => hlt g' hg'⟩
  rw [hlen, List.map_take, <- h4, List.take_take]
  congr 1
  omega
def zpD (wc wx : World) (g : Nat) (bs : List Nat) (q : Nat) (lo hi : Nat) (s : Value) : Prop :=
 ∃ (A4 : Option Addr) (c4 : Nat) (zs : List Int), s = .slice A4 zs.length c4 /\ zs.length <= 5 /\ (∀ x ∈ zs, 0 <= x /\ x <= 2) /\ zg wx lo hi (.slice A4 zs.length c4) zs /\ hi <= wx.heap.size /\ Rdr wx g bs q /\ zl g (g + 1) wc wx
def zpJ (wc wx : World) (g : Nat) (bs : List Nat) (q : Nat) (lo hi : Nat) (A4 : Option Addr) (c4 : Nat) (zs : List Int) (s : Value) : Prop :=
 ∃ fl : Bool, s = .bool fl /\ zg wx lo hi (.slice A4 zs.length c4) zs /\ hi <= wx.heap.size /\ Rdr wx g bs q /\ zl g (g + 1) wc wx
set_option maxHeartbeats 4000000 in
theorem zmh (g : Nat) (bs : List Nat) (p most : Nat) (no : Int) (w : World) (h : Rdr w g bs p) (hp : p <= 50000) (hm : most <= 64) :
 Calls Tryz.prog 59 #[.pointer (some ⟨g, 0, none⟩), .int .i64 no, .int .i64 most] w fun e w' => ∃ (A Ar Af : Option Addr) (c cr cf B q : Nat) (ar : List Int) (es : List Ent) (fs : List zd), e = .returned (.tuple #[.agg #[.slice A ar.length c, .slice Ar es.length cr], .slice Af fs.length cf]) /\ zg9 ar es /\ fs.length <= most /\ tot fs <= 3 * most /\ q <= p + 1710 + 24 * most /\
  w.heap.size <= B /\ B <= w'.heap.size /\ zg w' w.heap.size B (.slice A ar.length c) ar /\ zdl B w' es Ar cr /\ zq w' B w'.heap.size (.slice Af fs.length cf) fs /\ Rdr w' g bs q /\ zl g (g + 1) w w' := by
 have hgl := h.lt
 have H := Lib.hid h
 clear h
 go_enter Tryz.func59, Tryz.ntmps59
 go_wp2_with (fail)
 refine (znt g bs p no _ (H.out.below (ze w (.cells #[.slice none 0 0, .slice none 0 0] 26)) H.out.lt) (by omega)).mono ?_
 rintro e w1 ⟨A, Ar, c, cr, B, q, ar, es, rfl, hok, hq, hB, hB2, h1, h2, h3, h4⟩
 have HOK := Lib.hid hok
 simp only [World.size_alloc] at hB h1
 have HQ := Lib.hid (And.intro hB (And.intro hB2 (And.intro h1 (And.intro h2 (And.intro h3 h4)))))
 have hal4 := hok.1
 have hal5 := hok.2.1
 clear hok hB hB2 h1 h2 h3 h4
 go_upto_region 2 with (fail)
 obtain ⟨wc, hwc⟩ : ∃ wS, wS = w1.alloc (.cells #[.slice A ar.length c, .slice Ar es.length cr] 26) := ⟨_, rfl⟩
 have H1 := Lib.hid (Pg4.start hgl HQ.out.1 HQ.out.2.1 hwc HQ.out.2.2.1 HQ.out.2.2.2.1 HQ.out.2.2.2.2.1 HQ.out.2.2.2.2.2)
 rw [<- hwc]
 clear hwc HQ
 obtain ⟨D, hD⟩ : ∃ D, D = w1.heap.size := ⟨_, rfl⟩
 rw [<- hD] at H1 ⊢
 clear hD
 have k0 : wc.cell? ⟨D, 0, none⟩ = some (.slice A ar.length c) := H1.out.prg.cell 0
 have hgc : g < wc.heap.size := H1.out.rdr.lt
 have HSZ := Lib.hid H1.out.only.size
 have hDc := H1.out.prg.lt
 go_wp2_with (fail)
 refine (ziL (.slice A ar.length c) ar wc (H1.out.own.rd.more (by have := H1.out.high; omega)) (by omega)).mono ?_
 rintro e w2 ⟨A4, c4, rfl, o4, b4⟩
 have HI := Lib.hid o4
 have HO2 := Lib.hid (zl.of_below (lo := g) (hi := g + 1) b4)
 have HR2 := Lib.hid (H1.out.rdr.below b4 hgc)
 have hs2 := b4.size
 clear o4 b4 k0
 go_wp2_with (fail)
 go_loopw [10] (fun i wr => ∃ (k : Nat) (zs : List Int), k <= ar.length /\ i = .int .i64 k /\ zs.length = ar.length /\ (∀ x ∈ zs, 0 <= x /\ x <= 3) /\ (∀ j (h : j < zs.length), j < k -> zs[j] <= 2) /\ zg wr wc.heap.size w2.heap.size (.slice A4 ar.length c4) zs /\ Rdr wr g bs q /\ zl g (g + 1) wc wr /\ wr.heap.size = w2.heap.size) (fun i _ => ar.length - (intOf i).toNat)
 case atStart => exact ⟨0, ar, Nat.zero_le _, rfl, rfl, HOK.out.2.2.1, fun j _ h => absurd h (Nat.not_lt_zero _), HI.out, HR2.out, HO2.out, rfl⟩
 case round =>
  obtain ⟨k, zs, hk, rfl, hzl, hz3, hz2, hzo, hrr, hor, hsr⟩ := hrel
  have HZL := Lib.hid hzl
  have HZ := Lib.hid (And.intro hz3 (And.intro hz2 (And.intro hzo (And.intro hrr (And.intro hor hsr)))))
  by_cases hlt : k < ar.length
  ·have hlz : k < zs.length := by omega
   obtain ⟨g4, hg4⟩ : ∃ g4, A4 = some ⟨g4, 0, none⟩ := by
    obtain ⟨g2, cap, e, _⟩ := hzo.1.form (by omega)
    injection e with e1 _ _
    exact ⟨g2, e1⟩
   subst hg4
   rw [<- hzl] at hzo
   have HST := Lib.hid (fun x => hzo.store (j := k) rfl hlz x)
   have r0 := hzo.1.cellAt k (by omega)
   have r1 := hzo.1.frozenAt k
   have hg4l := hzo.lt (g := g4) rfl
   have hg4w : wc.heap.size <= g4 := hg4l.1
   rw [show (zs.map (Value.int .i64))[k]? = some (.int .i64 zs[k]) by simp [hlz]] at r0
   have hkb : decide ((k : Int) < (ar.length : Int)) = true := by rw [decide_eq_true_eq]; omega
   clear hzl hz3 hz2 hzo hrr hor hsr hg4l
   go_wp2_with (go_at_call 95; refine (zld zs[k] 2 wr).mono ?_; rintro e wn ⟨rfl, rfl⟩)
   go_roundw
   case rel =>
    obtain ⟨z3, z2, zo, rr, orr, sr⟩ := HZ.out
    obtain ⟨x, hx⟩ : ∃ x, x = (if (2 : Int) < zs[k] then 2 else zs[k]) := ⟨_, rfl⟩
    have hxr : 0 <= x /\ x <= 2 := by
     have := z3 _ (List.getElem_mem hlz)
     rw [hx]
     split <;> omega
    rw [<- hx]
    refine ⟨k + 1, zs.set k x, by omega, by go_num, by rw [List.length_set]; exact HZL.out, fun y hy => ?_, fun j hj hjk => ?_, ?_, rr.same fun k' hk' => Below.heap_setCell _ _ _ k' (by show k' ≠ g4; omega), orr.setNew (p := ⟨g4, k, none⟩) hg4w _, by simpa using sr⟩
    ·rcases List.mem_or_eq_of_mem_set hy with h | h
     ·exact z3 y h
     ·omega
    ·by_cases e : k = j
     ·subst e
      rw [List.getElem_set_self]
      exact hxr.2
     ·rw [List.getElem_set_ne e]
      exact z2 j (by simpa using hj) (by omega)
    ·have := HST.out x
     rw [HZL.out] at this
     exact this
   case measure => simp [intOf]; omega
  ·have hkb : decide ((k : Int) < (ar.length : Int)) = false := by rw [decide_eq_false_iff_not]; omega
   have hz2' : ∀ x ∈ zs, 0 <= x /\ x <= 2 := fun x hx => by
    obtain ⟨j, hj, rfl⟩ := List.getElem_of_mem hx
    exact ⟨(hz3 _ (List.getElem_mem hj)).1, hz2 j hj (by omega)⟩
   have HZ2 := Lib.hid (And.intro hz2' (And.intro hzo (And.intro hrr (And.intro hor hsr))))
   have hgr : g < wr.heap.size := hrr.lt
   clear hzl hz3 hz2 hz2' hzo hrr hor hsr HZ HI HR2 HO2
   go_upto_region 7 with (fail)
   obtain ⟨wl, rfl⟩ : ∃ wl, wl = wr := ⟨_, rfl⟩
   go_cut [38] (fun s38 wx => zpJ wc wx g bs (q + 1) wc.heap.size w2.heap.size A4 c4 zs s38)
   case first =>
    go_wp2_with (fail)
    refine (zak g bs q 5 _ HZ2.out.2.2.1 (by omega) (by omega)).mono ?_
    rintro e w4 ⟨⟨x, rfl, _⟩, hp4⟩
    have H4 := Lib.hid (show zg w4 wc.heap.size w2.heap.size (.slice A4 zs.length c4) zs /\ w2.heap.size <= w4.heap.size /\ Rdr w4 g bs (q + 1) /\ zl g (g + 1) wc w4 from ⟨by rw [HZL.out]; exact HZ2.out.2.1.only hp4.2 (.inr hgc), by have := hp4.2.size; have := HZ2.out.2.2.2.2; omega, hp4.1, HZ2.out.2.2.2.1.trans hp4.2⟩)
    clear hp4
    by_cases hx : 0 < x
    ·have hxb : decide (0 < x) = true := by simpa using hx
     have hlb : decide (2 < (ar.length : Int)) = true := by rw [decide_eq_true_eq]; omega
     go_wp2_with (fail)
     go_meet
     exact ⟨true, rfl, H4.out⟩
    ·have hxb : decide (0 < x) = false := by simpa using hx
     go_wp2_with (fail)
     go_meet
     exact ⟨false, rfl, H4.out⟩
   case rest =>
   obtain ⟨fl, rfl, hcf⟩ := hcut
   rename World => w4
   have H4 := Lib.hid hcf
   clear hcf
   go_upto_if 38 with (fail)
   go_cut [9] (fun s9 wx => zpD wc wx g bs (q + 1) wc.heap.size w2.heap.size s9)
   case first =>
    cases fl
    ·go_wp2_with (fail)
     go_meet
     exact ⟨A4, c4, zs, by rw [HZL.out], by rw [HZL.out]; exact hal5, HZ2.out.1, H4.out⟩
    ·have HFR := Lib.hid (H4.out.1.front (n := 2) (by rw [HZL.out]; omega) (by rw [HZL.out]; omega))
     obtain ⟨g4, hg4⟩ : ∃ g4, A4 = some ⟨g4, 0, none⟩ := by
      obtain ⟨g2, cap, e, _⟩ := H4.out.1.1.form (by rw [HZL.out]; omega)
      injection e with e1 _ _
      exact ⟨g2, e1⟩
     subst hg4
     have hc4 : ar.length <= c4 := by rw [<- HZL.out]; exact H4.out.1.capLe
     go_wp2_with (fail)
     go_meet
     exact ⟨some ⟨g4, 0, none⟩, c4, zs.take 2, by simp [HZL.out]; omega, by simp; omega, fun x hx => HZ2.out.1 x (List.mem_of_mem_take hx), by
      have e : (zs.take 2).length = 2 := by simp [HZL.out]; omega
      rw [e]
      exact HFR.out, H4.out.2⟩
   case rest =>
   obtain ⟨A9, c9, zs9, rfl, hz9, hz9r, ho9, hh9, hr9, hO9⟩ := hcut
   rename World => w5
   have HZ9 := Lib.hid hz9r
   have H5 := Lib.hid (And.intro ho9 (And.intro hh9 (And.intro hr9 hO9)))
   clear ho9 hh9 hr9 hO9 hz9r H4
   obtain ⟨wy, hwy⟩ : ∃ wy, wy = w5.drew := ⟨_, rfl⟩
   have Hy := Lib.hid (show zg wy wc.heap.size w2.heap.size (.slice A9 zs9.length c9) zs9 /\ w2.heap.size <= wy.heap.size /\ Rdr wy g bs (q + 1) /\ zl g (g + 1) wc wy by rw [hwy]; exact ⟨H5.out.1.below (Below.refl _ _).drew H5.out.2.1, H5.out.2.1, H5.out.2.2.1.below (Below.refl _ _).drew H5.out.2.2.1.lt, H5.out.2.2.2.trans (zl.of_below (Below.refl _ _).drew)⟩)
   have HPy := Lib.hid (H1.out.go hgl Hy.out.2.2.1 Hy.out.2.2.2)
   obtain ⟨SS, hSS⟩ : ∃ SS : World -> Prop, SS = (fun W => W.cell? ⟨D, 0, none⟩ = some (.slice A ar.length c) /\ W.cell? ⟨D, 1, none⟩ = some (.slice Ar es.length cr)) := ⟨_, rfl⟩
   have HB := Lib.hid (show ∀ W, SS W -> W.cell? ⟨D, 0, none⟩ = some (.slice A ar.length c) /\ W.cell? ⟨D, 1, none⟩ = some (.slice Ar es.length cr) from by rw [hSS]; exact fun W hW => hW)
   have HC := Lib.hid (show ∀ W, W.cell? ⟨D, 0, none⟩ = some (.slice A ar.length c) -> W.cell? ⟨D, 1, none⟩ = some (.slice Ar es.length cr) -> SS W from by rw [hSS]; exact fun W h1 h2 => ⟨h1, h2⟩)
   clear hSS
   have SB := HC.out _ (HPy.out.prg.cell 0) (HPy.out.prg.cell 1)
   go_upto_region 9 with (fail)
   refine zB SS 5 7 (by kernel_rfl) rfl ?_
   rw [<- hwy]
   clear hwy
   refine za (i := 1) (oi := _) ?vk1 rfl rfl (by kernel_rfl) (by decide) (fun _ _ _ h => h) rfl ?hyk1 (fun _ => SB) ?restk1
   case hyk1 => (intro W; go_simp; (try with_reducible rfl))
   try simp only [zs.a, zs.b, zs.c]
   refine za (i := 2) (oi := _) ?vk2 rfl rfl (by kernel_rfl) (by decide) (fun _ _ _ h => h) rfl ?hyk2 (fun _ => SB) ?restk2
   case hyk2 => (intro W; go_simp; (try with_reducible rfl))
   try simp only [zs.a, zs.b, zs.c]
   refine za (i := 3) (oi := _) ?vk3 rfl rfl (by kernel_rfl) (by decide) (fun _ _ _ h => h) rfl ?hyk3 (fun _ => SB) ?restk3
   case hyk3 => (intro W; go_simp; (try with_reducible rfl))
   try simp only [zs.a, zs.b, zs.c]
   refine zm (i := 0) (oi := _) ?vk0 rfl rfl (by kernel_rfl) (fun _ _ _ h => h) rfl ?hyk0 SB ?restk0
   case hyk0 => (intro W hW; obtain ⟨E0, E1⟩ := HB.out W hW; go_simp; (try with_reducible rfl))
   try simp only [zs.a, zs.b, zs.c]
   refine zh (i := 4) (by kernel_rfl) rfl (fun K hK => ?_)
   try rw [if_pos (show Region.wanted _ _ = true from rfl)]
   go_simp
   refine (zml g bs (q + 1) most wc.heap.size w2.heap.size (.slice A9 zs9.length c9) zs9 wy Hy.out.2.2.1 (by omega) Hy.out.1 hgc Hy.out.2.1 HZ9.out (by omega) hm).mono ?_
   rintro e wn ⟨Af, cf, fs, qn, rfl, hfl, hft, hqn, ofs, hrn, hon⟩
   have HN := Lib.hid (And.intro ofs (And.intro hrn (Hy.out.2.2.2.trans hon)))
   have hsn := hon.size
   have H4n := Lib.hid (H1.out.go hgl hrn (Hy.out.2.2.2.trans hon))
   have j0 : wn.cell? ⟨w.heap.size, 0, none⟩ = some (.slice none 0 0) := H4n.out.res.cell 0
   have j1 : wn.cell? ⟨w.heap.size, 1, none⟩ = some (.slice none 0 0) := H4n.out.res.cell 1
   have l0 := H4n.out.res.frozen 0
   have l1 := H4n.out.res.frozen 1
   have SN := HC.out _ (H4n.out.prg.cell 0) (H4n.out.prg.cell 1)
   clear ofs hrn hon
   refine hK.out _ _ (fun _ => SN) ?_
   clear hK K
   try simp only [zs.a, zs.b, zs.c, Act.put]
   refine zh (i := 5) (by kernel_rfl) rfl (fun K hK => ?_)
   try rw [if_pos (show Region.wanted _ _ = true from rfl)]
   go_simp
   refine hK.out _ _ (fun hf => absurd hf (by decide)) ?_
   clear hK K
   try simp only [zs.a, zs.b, zs.c, Act.put]
   refine zh (i := 6) (by kernel_rfl) rfl (fun K hK => ?_)
   go_simp
   refine hK.out _ _ (fun hf => absurd hf (by decide)) ?_
   clear hK K
   refine zL (by kernel_rfl) ?_
   go_wp2_with (fail)
   obtain ⟨W, hW⟩ : ∃ W, W = (wn.setCell ⟨w.heap.size, 0, none⟩ (.slice A ar.length c)).setCell ⟨w.heap.size, 1, none⟩ (.slice Ar es.length cr) := ⟨_, rfl⟩
   rw [<- hW]
   have hbk := (H4n.out.res.set_ 0 (.slice A ar.length c)).set_ 1 (.slice Ar es.length cr)
   rw [<- hW] at hbk
   have d0 : W.cell? ⟨w.heap.size, 0, none⟩ = some (.slice A ar.length c) := by rw [hbk.cell 0]; simp
   have d1 : W.cell? ⟨w.heap.size, 1, none⟩ = some (.slice Ar es.length cr) := by rw [hbk.cell 1]; simp
   have hB := H4n.out.low
   have hH := H4n.out.high
   have hyB := HPy.out.prg.lt
   have hDn := H4n.out.prg.lt
   have hk : ∀ k, k ≠ w.heap.size -> W.heap[k]? = wn.heap[k]? := fun k hk => by
    rw [hW]
    exact (Below.heap_setCell _ _ _ k hk).trans (Below.heap_setCell _ _ _ k hk)
   have hsz : W.heap.size = wn.heap.size := by rw [hW]; simp
   have hO := H4n.out.only
   refine bodyPost_ret (v := .tuple #[.agg #[.slice A ar.length c, .slice Ar es.length cr], .slice Af fs.length cf]) (by simp [results, Tryz.results59, go_sem, d0, d1]) rfl ?_
   refine ⟨A, Ar, Af, c, cr, cf, B, qn, ar, es, fs, rfl, HOK.out, hfl, hft, by omega, by omega, by omega, (H4n.out.own.keep fun k k1 k2 => hk k (by omega)).mono (by omega) (Nat.le_refl _), H4n.out.rules.keep (by rw [hsz]; exact Nat.le_refl _) (fun k k1 _ => hk k (by omega)), ?_, H4n.out.rdr.same fun k hk' => hk k (by omega), ⟨?_, ?_, ?_, by rw [hsz]; exact hO.size, fun k hk' hn => (hk k (by omega)).trans (hO.block k hk' hn)⟩⟩
   ·rw [hsz]
    have ho2 : zl w.heap.size (w.heap.size + 1) wn W := by
     rw [hW]
     exact ((zl.refl w.heap.size (w.heap.size + 1) wn).setCell (p := ⟨w.heap.size, 0, none⟩) ⟨Nat.le_refl _, Nat.lt_succ_self _⟩ _).setCell (p := ⟨w.heap.size, 1, none⟩) ⟨Nat.le_refl _, Nat.lt_succ_self _⟩ _
    exact (HN.out.1.only ho2 (.inr (by omega))).mono (by omega) (Nat.le_refl _)
   ·rw [hW]; exact hO.os
   ·rw [hW]; exact hO.tape
   ·rw [hW]; exact hO.output
open Go.RowKit
set_option maxHeartbeats 4000000 in
theorem ziI (v : Value) (code : List Nat) (no : Int) (w : World) (h : zbN w w.heap.size v code) (hby : ∀ b ∈ code, b < 256) (hn : code.length <= 1073741824) :
 Calls Tryz.prog 40 #[v, .int .i64 no] w fun e w' => ∃ (u : Value) (p : zal) (Af : Option Addr) (cf : Nat) (fs : List zd), e = .returned (.tuple #[u, .slice Af fs.length cf]) /\ zaE w.heap.size w' u p /\ zq w' w.heap.size w'.heap.size (.slice Af fs.length cf) fs /\ fs.length <= 8 /\ tot fs <= 24 /\ Below w.heap.size w w' := by
 have HV := Lib.hid h
 clear h
 go_enter Tryz.func40, Tryz.ntmps40
 go_upto_region 1 with fail
 obtain ⟨w0, hw0⟩ : ∃ w0, w0 = w.alloc (Obj.cells #[Value.slice none 0 0, Value.slice none 0 0] 26) := ⟨_, rfl⟩
 have HRA := Lib.hid (show Blk w0 w.heap.size 26 #[.slice none 0 0, .slice none 0 0] by rw [hw0]; exact Blk.new _ _ _)
 have HB0 := Lib.hid (show Below w.heap.size w w0 by rw [hw0]; exact ze _ _)
 have HS0 := Lib.hid (show w0.heap.size = w.heap.size + 1 by rw [hw0]; simp)
 rw [<- hw0]
 clear hw0
 obtain ⟨g, hg⟩ : ∃ g, g = w0.heap.size := ⟨_, rfl⟩
 go_wp2_with (first
  | (go_at_call 52; refine (zhR v code w0 (HV.out.onM HB0.out) hby hn).mono ?_
     rintro e w1 ⟨rfl, hr1, hb1⟩
     rw [<- hg] at hr1 ⊢
     have hg1 : g < w1.heap.size := hr1.lt
     have HG := Lib.hid (show w.heap.size < g by rw [hg, HS0.out]; omega)
     have HB1 := Lib.hid (zf HB0.out hb1)
     have HR1 := Lib.hid hr1
     have HRA1 := Lib.hid (HRA.out.below hb1 HRA.out.lt)
     obtain ⟨bs, hbs⟩ : ∃ bs, bs = code.take 2000 := ⟨_, rfl⟩
     rw [<- hbs] at HR1
     clear hb1 hr1 hbs hg)
  | (go_at_call 59; refine (zmh g bs 0 8 no w1 HR1.out (by omega) (by omega)).mono ?_
     rintro e w2 ⟨A, Ar, Af, c, cr, cf, B, q, ar, es, fs, rfl, hok, hf1, hf2, hq, hB, hB2, h1, h2, h3, h4, h5⟩
     have HOK := Lib.hid hok
     have HQ := Lib.hid (And.intro hB (And.intro hB2 (And.intro h1 (And.intro h2 (And.intro h3 h5)))))
     have HF := Lib.hid (And.intro hf1 hf2)
     have HRA2 := Lib.hid (HRA1.out.only h5 (.inl HG.out))
     have j0 : w2.cell? ⟨w.heap.size, 0, none⟩ = some (.slice none 0 0) := HRA2.out.cell 0
     have j1 : w2.cell? ⟨w.heap.size, 1, none⟩ = some (.slice none 0 0) := HRA2.out.cell 1
     have l0 := HRA2.out.frozen 0
     have l1 := HRA2.out.frozen 1
     clear hok hB hB2 h1 h2 h3 h4 h5 hf1 hf2))
 obtain ⟨W, hW⟩ : ∃ W, W = (w2.setCell ⟨w.heap.size, 0, none⟩ (.slice A ar.length c)).setCell ⟨w.heap.size, 1, none⟩ (.slice Ar es.length cr) := ⟨_, rfl⟩
 rw [<- hW]
 have hbk := (HRA2.out.set_ 0 (.slice A ar.length c)).set_ 1 (.slice Ar es.length cr)
 rw [<- hW] at hbk
 have d0 : W.cell? ⟨w.heap.size, 0, none⟩ = some (.slice A ar.length c) := by rw [hbk.cell 0]; simp
 have d1 : W.cell? ⟨w.heap.size, 1, none⟩ = some (.slice Ar es.length cr) := by rw [hbk.cell 1]; simp
 have hgg := HG.out
 obtain ⟨hB, hB2, h1, h2, h3, h5⟩ := HQ.out
 have hoW : zl w.heap.size (w.heap.size + 1) w2 W := by
  rw [hW]
  exact ((zl.refl _ _ _).setCell (p := ⟨w.heap.size, 0, none⟩) ⟨Nat.le_refl _, Nat.lt_succ_self _⟩ _).setCell (p := ⟨w.heap.size, 1, none⟩) ⟨Nat.le_refl _, Nat.lt_succ_self _⟩ _
 have hsz : w2.heap.size = W.heap.size := by rw [hW]; simp
 have hBW : Below w.heap.size w W := by rw [hW]; exact ((zl.then_ HB1.out h5 (by omega)).setCell (Nat.le_refl _) _).setCell (Nat.le_refl _) _
 refine bodyPost_ret (v := .tuple #[.agg #[.slice A ar.length c, .slice Ar es.length cr], .slice Af fs.length cf]) (by simp [results, Tryz.results40, go_sem, d0, d1]) rfl ?_
 refine ⟨_, (ar, es.map (·.1)), Af, cf, fs, rfl, ?_, ?_, HF.out.1, HF.out.2, hBW⟩
 ·refine zaE.keep (w := w2) ?_ (Nat.le_of_eq hsz) ?_ |>.mono (lo := w1.heap.size) (by omega)
  ·exact ⟨A, Ar, c, cr, B, es, rfl, rfl, HOK.out, hB, hB2, h1, h2⟩
  ·exact fun k k1 k2 => hoW.block k k2 (.inr (by omega))
 ·exact (h3.only hoW (.inr (by omega))).mono (by omega) (Nat.le_of_eq hsz)
open Go.RowKit
theorem Tryz.infoFactS : (Tryz.prog.info? 27).map (fun i => (i.zero, i.size, i.bytes)) = some (some (.slice none 0 0), 1, 24) := by kernel_rfl
structure zbY (w : World) (lo hi : Nat) (v : Value) (hv : List Value) (FF : List (List zd)) (P Q : Nat -> Nat) : Prop where
 row : w.ownsRow lo 27 1 v FF.length hv
 lt : ∀ g, v.ownBlock = some g -> g < hi
 own : ∀ i (h : i < FF.length) (h' : i < hv.length), lo <= P i /\ (P i <= Q i /\ Q i <= hi) /\ zq w (P i) (Q i) hv[i] FF[i] /\ ∀ g, v.ownBlock = some g -> g < P i \/ Q i <= g
 ord : ∀ i j, i < j -> j < FF.length -> Q i <= P j
def zcf (w : World) (lo hi : Nat) (v : Value) (FF : List (List zd)) : Prop := ∃ hv P Q, zbY w lo hi v hv FF P Q
section
variable {w w' : World} {lo hi lo' hi' B : Nat} {v v' : Value} {hv : List Value} {FF : List (List zd)} {F : List zd} {P Q : Nat -> Nat}
theorem zbY.len (h : zbY w lo hi v hv FF P Q) : hv.length = FF.length := by have := h.row.1; omega
theorem zbY.form (h : zbY w lo hi v hv FF P Q) : ∃ A c, v = .slice A FF.length c := by
 rcases h.row.2 with ⟨rfl, h0⟩ | ⟨g, cap, _, rfl, _⟩
 ·exact ⟨none, 0, by rw [h0]⟩
 ·exact ⟨_, _, rfl⟩
theorem zbY.below (h : zbY w lo hi v hv FF P Q) (hb : Below B w w') (hB : hi <= B) : zbY w' lo hi v hv FF P Q :=
 ⟨zaB h.row h.lt hb hB, h.lt, fun i a b => by
   obtain ⟨h1, h2, h3, h4⟩ := h.own i a b
   exact ⟨h1, h2, h3.below hb (by omega), h4⟩, h.ord⟩
theorem zbY.mono (h : zbY w lo hi v hv FF P Q) (h1 : lo' <= lo) (h2 : hi <= hi') : zbY w lo' hi' v hv FF P Q :=
 ⟨zcI h.row h1, fun g hg => by have := h.lt g hg; omega, fun i a b => by
   obtain ⟨g1, g2, g3, g4⟩ := h.own i a b
   exact ⟨by omega, ⟨g2.1, by omega⟩, g3, g4⟩, h.ord⟩
theorem zcf.form (h : zcf w lo hi v FF) : ∃ A c, v = .slice A FF.length c := by
 obtain ⟨_, _, _, h⟩ := h
 exact h.form
theorem zcf.below (h : zcf w lo hi v FF) (hb : Below B w w') (hB : hi <= B) : zcf w' lo hi v FF := by
 obtain ⟨hv, P, Q, h⟩ := h
 exact ⟨hv, P, Q, h.below hb hB⟩
theorem zcf.mono (h : zcf w lo hi v FF) (h1 : lo' <= lo) (h2 : hi <= hi') : zcf w lo' hi' v FF := by
 obtain ⟨hv, P, Q, h⟩ := h
 exact ⟨hv, P, Q, h.mono h1 h2⟩
theorem zq.rdS {w : World} {lo hi : Nat} {v : Value} {fs : List zd} (h : zq w lo hi v fs) : zu w w.heap.size v fs := by
 obtain ⟨av, ha, hr, hlt⟩ := h
 exact (show zq w lo w.heap.size v fs from ⟨av, ⟨ha.len, fun i a b => ⟨(ha.own i a b).1, fun g hg => ((ha.own i a b).1.lt g hg).2⟩, ha.apart⟩, hr, fun g hg => (hr.lt g hg).2⟩).rd
theorem zbY.get {A : Option Addr} {c : Nat} (h : zbY w lo hi (.slice A FF.length c) hv FF P Q) {k : Nat} (hk : k < FF.length) :
 ∃ g A2 c2, A = some ⟨g, 0, none⟩ /\ g < w.heap.size /\ lo <= g /\ w.cell? ⟨g, k, none⟩ = some (.slice A2 FF[k].length c2) /\ zq w (P k) (Q k) (.slice A2 FF[k].length c2) FF[k] /\ (g < P k \/ Q k <= g) /\ hv[k]? = some (.slice A2 FF[k].length c2) := by
 have hl := h.len
 have hcells := @World.ownsRow.cells w lo 27 1 _ FF.length hv h.row
 obtain ⟨hlen, hr2⟩ := h.row
 rcases hr2 with ⟨e, e0⟩ | ⟨g, cap, cur, e, hb, hg, _⟩
 ·omega
 ·injection e with e1 _ _
  subst e1
  obtain ⟨h1, h2, h3, h4⟩ := h.own k hk (by omega)
  obtain ⟨A2, c2, e2⟩ := h3.form
  have := hcells (g := g) rfl k (hv[k]'(by omega)) (by simp [show k < hv.length by omega])
  rw [Go.WideShapes.add_plain, Nat.zero_add, e2] at this
  exact ⟨g, A2, c2, rfl, Blk.lt hg, hb, this, e2 ▸ h3, h4 g rfl, by rw [<- e2]; simp [show k < hv.length by omega]⟩
theorem zbY.push {w2 w4 : World} {a m : Nat} {u : Value} {o : Obj} (h : zbY w2 lo hi v hv FF P Q) (hu : zq w2 a m u F) (ha : hi <= a) (hla : lo <= a) (ham : a <= m) (hm : m <= w2.heap.size)
 (hg : (w2.alloc o).grownBy w4 v.ownBlock) (hown : w4.ownsRow lo 27 1 v' (FF.length + 1) (hv ++ [u])) (hat : v'.ownBlock = v.ownBlock \/ ∀ b, v'.ownBlock = some b -> w2.heap.size <= b) :
 (∃ P' Q', zbY w4 lo w4.heap.size v' (hv ++ [u]) (FF ++ [F]) P' Q') /\ zq w4 a m u F := by
 have hg' := zy hg
 have hlen := h.len
 have hs4 := hg'.size
 have keep : ∀ {p q : Nat} {x : Value} {G : List zd}, zq w2 p q x G -> (∀ b, v.ownBlock = some b -> b < p \/ q <= b) -> zq w4 p q x G := fun {p q x G} h0 hne => by
  obtain ⟨av, g1, g2, g3⟩ := h0
  refine ⟨av, ⟨g1.len, fun i a b => ?_, g1.apart⟩, zw g2 fun b hb' => hg'.block b (g2.lt b hb').2 (fun e => by have := hne b e.symm; have := (g2.lt b hb').1; have := g3 b hb'; omega), g3⟩
  have h1 := g1.own i a b
  exact h1.kept fun b hb' => hg'.block b (h1.lt hb').2.2 (fun e => by have := hne b e.symm; have := h1.lt hb'; omega)
 have hvb : ∀ b, v.ownBlock = some b -> b < a := fun b hb' => by have := h.lt b hb'; omega
 have hnew : zq w4 a m u F := keep hu fun b hb' => .inl (hvb b hb')
 refine ⟨⟨fun i => if i < FF.length then P i else a, fun i => if i < FF.length then Q i else m, ⟨by rw [List.length_append]; exact hown, fun g hg2 => (hown.lt g hg2).2, fun i h1 h2 => ?_, fun i j hij hj => ?_⟩⟩, hnew⟩
 ·by_cases e : i < FF.length
  ·rw [if_pos e, if_pos e, List.getElem_append_left (by omega), List.getElem_append_left e]
   obtain ⟨g1, g2, g3, g4⟩ := h.own i e (by omega)
   refine ⟨g1, ⟨g2.1, by omega⟩, keep g3 fun b hb' => g4 b hb', fun b hb' => ?_⟩
   rcases hat with hat | hat
   ·exact g4 b (by rw [<- hat]; exact hb')
   ·have := hat b hb'
    omega
  ·have e2 : i = FF.length := by simp at h1; omega
   subst e2
   rw [if_neg e, if_neg e]
   have e3 : (hv ++ [u])[FF.length]'h2 = u := by simp [<- hlen]
   have e4 : (FF ++ [F])[FF.length]'h1 = F := by simp
   rw [e3, e4]
   refine ⟨hla, ⟨ham, by omega⟩, hnew, fun b hb' => ?_⟩
   rcases hat with hat | hat
   ·exact .inl (hvb b (by rw [<- hat]; exact hb'))
   ·have := hat b hb'
    omega
 ·simp at hj
  by_cases e : j < FF.length
  ·rw [if_pos (by omega), if_pos e]
   exact h.ord i j hij e
  ·rw [if_pos (by omega), if_neg e]
   have hi1 : i < FF.length := by omega
   obtain ⟨g1, g2, g3, g4⟩ := h.own i hi1 (by omega)
   omega
end
open Go.RowKit
theorem zl9 {x y a b : Nat} (ha : a < 16) (hb : b < 16) : (x * 16 + a) ||| (y * 16 + b) = (x ||| y) * 16 + (a ||| b) := by
 apply Nat.eq_of_testBit_eq
 intro i
 have h := fun (p q : Nat) (hq : q < 16) => Nat.testBit_two_pow_mul_add p (i := 4) (b := q) (by omega) i
 rw [Nat.testBit_or, Nat.mul_comm x, Nat.mul_comm y, Nat.mul_comm (x ||| y)]
 rw [show (16 : Nat) = 2 ^ 4 from rfl, h x a ha, h y b hb, h (x ||| y) (a ||| b) (Nat.or_lt_two_pow (n := 4) ha hb), Nat.testBit_or, Nat.testBit_or]
 split <;> rfl
theorem zfM {x y a b : Nat} (ha : a < 16) (hb : b < 16) : (x * 16 + a) &&& (y * 16 + b) = (x &&& y) * 16 + (a &&& b) := by
 apply Nat.eq_of_testBit_eq
 intro i
 have h := fun (p q : Nat) (hq : q < 16) => Nat.testBit_two_pow_mul_add p (i := 4) (b := q) (by omega) i
 rw [Nat.testBit_and, Nat.mul_comm x, Nat.mul_comm y, Nat.mul_comm (x &&& y)]
 rw [show (16 : Nat) = 2 ^ 4 from rfl, h x a ha, h y b hb, h (x &&& y) (a &&& b) (Nat.and_lt_two_pow (n := 4) a hb), Nat.testBit_and, Nat.testBit_and]
 split <;> rfl
def zbj (V : Nat) (b : List Int) : List Int := [if V.testBit 0 then b.getD 0 (-1) else -1, if V.testBit 1 then b.getD 1 (-1) else -1, if V.testBit 2 then b.getD 2 (-1) else -1, if V.testBit 3 then b.getD 3 (-1) else -1]
def zeb (x y : Int) : Int := if x = -1 then y else x
def zfa (a b : List Int) : List Int := [zeb (a.getD 0 (-1)) (b.getD 0 (-1)), zeb (a.getD 1 (-1)) (b.getD 1 (-1)), zeb (a.getD 2 (-1)) (b.getD 2 (-1)), zeb (a.getD 3 (-1)) (b.getD 3 (-1))]
def zfF (b : Bool) : Nat := if b then 15 else 0
def maskW (V : Nat) : Nat := ((zfF (V.testBit 0) * 16 + zfF (V.testBit 1)) * 16 + zfF (V.testBit 2)) * 16 + zfF (V.testBit 3)
theorem zbC (b : Bool) : zfF b < 16 := by cases b <;> decide
theorem zcJ (V : Nat) : maskW V < 65536 := by
 have := zbC (V.testBit 0); have := zbC (V.testBit 1); have := zbC (V.testBit 2); have := zbC (V.testBit 3)
 unfold maskW
 omega
theorem zbM {b : List Int} (h : zp b = true) {v : Nat} (hv : v < 4) : -1 <= b.getD v (-1) /\ b.getD v (-1) <= 5 := by
 have hl := zV h
 have hk : v < b.length := by omega
 rw [List.getD_eq_getElem?_getD, List.getElem?_eq_getElem hk]
 exact zbD h hk
theorem zh0 {a b c d : Int} (h0 : -1 <= a /\ a <= 5) (h1 : -1 <= b /\ b <= 5) (h2 : -1 <= c /\ c <= 5) (h3 : -1 <= d /\ d <= 5) : zp [a, b, c, d] = true := by
 refine zgj rfl ?_
 simp only [List.all_cons, List.all_nil, Bool.and_true, Bool.and_eq_true, zgJ, decide_eq_true_eq]
 exact ⟨h0, h1, h2, h3⟩
theorem zY {b : List Int} (h : zp b = true) (V : Nat) : zp (zbj V b) = true := by
 have key : ∀ v, v < 4 -> -1 <= (if V.testBit v then b.getD v (-1) else -1) /\ (if V.testBit v then b.getD v (-1) else -1) <= 5 := fun v hv => by
  have := zbM h hv
  split <;> omega
 exact zh0 (key 0 (by omega)) (key 1 (by omega)) (key 2 (by omega)) (key 3 (by omega))
theorem zif {a b : List Int} (h : zp a = true) (h2 : zp b = true) : zp (zfa a b) = true := by
 have key : ∀ v, v < 4 -> -1 <= zeb (a.getD v (-1)) (b.getD v (-1)) /\ zeb (a.getD v (-1)) (b.getD v (-1)) <= 5 := fun v hv => by
  have := zbM h hv
  have := zbM h2 hv
  unfold zeb
  split <;> omega
 exact zh0 (key 0 (by omega)) (key 1 (by omega)) (key 2 (by omega)) (key 3 (by omega))
theorem zZ {V : Nat} {b : List Int} {v : Nat} (hv : v < 4) : (zbj V b).getD v (-1) = if V.testBit v then b.getD v (-1) else -1 := by
 match v, hv with
 | 0, _ => rfl
 | 1, _ => rfl
 | 2, _ => rfl
 | 3, _ => rfl
theorem zig {a b : List Int} {v : Nat} (hv : v < 4) : (zfa a b).getD v (-1) = zeb (a.getD v (-1)) (b.getD v (-1)) := by
 match v, hv with
 | 0, _ => rfl
 | 1, _ => rfl
 | 2, _ => rfl
 | 3, _ => rfl
theorem zb6 {a b : List Int} (h : zp a = true) (h2 : zp b = true) (e : ∀ v, v < 4 -> a.getD v (-1) = b.getD v (-1)) : a = b := by
 obtain ⟨a0, a1, a2, a3, rfl⟩ := ziG (zV h)
 obtain ⟨b0, b1, b2, b3, rfl⟩ := ziG (zV h2)
 have e0 := e 0 (by omega)
 have e1 := e 1 (by omega)
 have e2 := e 2 (by omega)
 have e3 := e 3 (by omega)
 simp only [List.getD_cons_zero, List.getD_cons_succ] at e0 e1 e2 e3
 rw [e0, e1, e2, e3]
theorem zpB : ∀ a : Fin 7, ∀ t : Bool, (a.val &&& zfF t) = if t then a.val else 0 := by decide
theorem zgx {x : Int} (h : -1 <= x /\ x <= 5) (t : Bool) : ((x + 1).toNat &&& zfF t) = ((if t then x else -1) + 1).toNat := by
 obtain ⟨a, e, rfl⟩ := znC h
 rw [e, zpB]
 cases t <;> simp
theorem zgw {x y : Int} (h : -1 <= x /\ x <= 5) (h2 : -1 <= y /\ y <= 5) (hc : x = -1 \/ y = -1 \/ x = y) : ((x + 1).toNat ||| (y + 1).toNat) = (zeb x y + 1).toNat := by
 unfold zeb
 rcases hc with rfl | rfl | rfl
 ·simp
 ·by_cases e : x = -1
  ·simp [e]
  ·simp [e]
 ·simp
theorem zeQ {x : Int} (h : -1 <= x /\ x <= 5) : (x + 1).toNat < 16 := by omega
theorem zeB {b : List Int} (h : zp b = true) (V : Nat) : encB b &&& maskW V = encB (zbj V b) := by
 have k0 := zbM h (v := 0) (by omega)
 have k1 := zbM h (v := 1) (by omega)
 have k2 := zbM h (v := 2) (by omega)
 have k3 := zbM h (v := 3) (by omega)
 unfold encB maskW
 rw [zfM (zeQ k3) (zbC _), zfM (zeQ k2) (zbC _), zfM (zeQ k1) (zbC _), zgx k0, zgx k1, zgx k2, zgx k3]
 rfl
theorem zom {a b : List Int} (h : zp a = true) (h2 : zp b = true) (hc : ∀ v, v < 4 -> a.getD v (-1) = -1 \/ b.getD v (-1) = -1 \/ a.getD v (-1) = b.getD v (-1)) : encB a ||| encB b = encB (zfa a b) := by
 have k0 := zbM h (v := 0) (by omega)
 have k1 := zbM h (v := 1) (by omega)
 have k2 := zbM h (v := 2) (by omega)
 have k3 := zbM h (v := 3) (by omega)
 have l0 := zbM h2 (v := 0) (by omega)
 have l1 := zbM h2 (v := 1) (by omega)
 have l2 := zbM h2 (v := 2) (by omega)
 have l3 := zbM h2 (v := 3) (by omega)
 unfold encB
 rw [zl9 (zeQ k3) (zeQ l3), zl9 (zeQ k2) (zeQ l2), zl9 (zeQ k1) (zeQ l1), zgw k0 l0 (hc 0 (by omega)), zgw k1 l1 (hc 1 (by omega)), zgw k2 l2 (hc 2 (by omega)), zgw k3 l3 (hc 3 (by omega))]
 rfl
theorem zc7 {a b : Nat} (ha : a < 65536) (hb : b < 65536) : bits .and .u32 (a : Int) (b : Int) = ((a &&& b : Nat) : Int) := u32_and_nat a b (by omega) (by omega)
theorem zk9 : ∀ V : Fin 16, ∀ k : Fin 4, (bits .and .u64 ((V.val : Nat) : Int) (((2 ^ k.val : Nat) : Nat) : Int) != 0) = V.val.testBit k.val := by decide +kernel
def maskTo (V k : Nat) : Nat := maskW (V &&& (2 ^ k - 1))
theorem zmd : ∀ V : Fin 16, maskTo V.val 4 = maskW V.val := by decide +kernel
theorem zla (V : Nat) : maskTo V 0 = 0 := by simp [maskTo, maskW, zfF]
theorem zhO : ∀ V : Fin 16, ∀ k : Fin 4, maskTo V.val (k.val + 1) = if V.val.testBit k.val then maskTo V.val k.val ||| (15 * 2 ^ ((3 - k.val) * 4)) else maskTo V.val k.val := by decide +kernel
theorem zmT (V : Nat) (hV : V < 16) {k : Nat} (hk : k < 4) (h : (bits .and .u64 ((V : Nat) : Int) (((2 ^ k : Nat) : Nat) : Int) != 0) = true) : bits .or .u32 ((maskTo V k : Nat) : Int) ((15 * 2 ^ ((3 - k) * 4) : Nat) : Int) = ((maskTo V (k + 1) : Nat) : Int) := by
 have hb := zk9 ⟨V, hV⟩ ⟨k, hk⟩
 have hs := zhO ⟨V, hV⟩ ⟨k, hk⟩
 simp only at hb hs
 rw [hb] at h
 rw [h, if_pos rfl] at hs
 have hlt : maskTo V k < 65536 := zcJ (V &&& (2 ^ k - 1))
 have h2 : 15 * 2 ^ ((3 - k) * 4) < 65536 := by
  rcases (show k = 0 \/ k = 1 \/ k = 2 \/ k = 3 by omega) with rfl | rfl | rfl | rfl <;> decide
 rw [hs]
 exact zhf hlt h2
theorem zmU (V : Nat) (hV : V < 16) {k : Nat} (hk : k < 4) (h : (bits .and .u64 ((V : Nat) : Int) (((2 ^ k : Nat) : Nat) : Int) != 0) = false) : ((maskTo V k : Nat) : Int) = ((maskTo V (k + 1) : Nat) : Int) := by
 have hb := zk9 ⟨V, hV⟩ ⟨k, hk⟩
 have hs := zhO ⟨V, hV⟩ ⟨k, hk⟩
 simp only at hb hs
 rw [hb] at h
 rw [h] at hs
 rw [hs]
 rfl
set_option maxHeartbeats 1000000 in
theorem ze6 (V : Nat) (hV : V < 16) (w : World) :
 Calls Tryz.prog 162 #[.int .u64 (V : Nat)] w fun e w' => e = .returned (.int .u32 ((maskW V : Nat) : Int)) /\ w = w' := by
 go_enter Tryz.func162, Tryz.ntmps162
 go_wp2_with (fail)
 go_loopg [3, 4, 5] 4 (fun q m _ i wr => ∃ k : Nat, k <= 4 /\ q = 4 - k /\ i = .int .i64 k /\ m = .int .u32 ((maskTo V k : Nat) : Int) /\ wr = w)
 case atStart => exact ⟨0, by omega, by omega, rfl, by rw [zla]; rfl, rfl⟩
 case round =>
  obtain ⟨k, hk, hq, rfl, rfl, rfl⟩ := hrel
  have hlt := zcJ (V &&& (2 ^ k - 1))
  by_cases h4 : k < 4
  ·rcases (show k = 0 \/ k = 1 \/ k = 2 \/ k = 3 by omega) with rfl | rfl | rfl | rfl
   ·have HT := Lib.hid (fun h => zmT V hV (k := 0) (by omega) h)
    have HF := Lib.hid (fun h => zmU V hV (k := 0) (by omega) h)
    clear hlt
    go_wp2_with (go_at_call 168; refine (zdB _ (by omega) (by omega) _).mono ?_; rintro e w' ⟨rfl, rfl⟩)
    ·have ht : (bits .and .u64 ((V : Nat) : Int) (1 : Int) != 0) = true := by assumption
     go_roundg 3
     case measure => omega
     case rel => exact ⟨1, by omega, by omega, rfl, congrArg (Value.int .u32) (HT.out ht), rfl⟩
    ·have ht : (bits .and .u64 ((V : Nat) : Int) (1 : Int) != 0) = false := by assumption
     go_roundg 3
     case measure => omega
     case rel => exact ⟨1, by omega, by omega, rfl, congrArg (Value.int .u32) (HF.out ht), rfl⟩
   ·have HT := Lib.hid (fun h => zmT V hV (k := 1) (by omega) h)
    have HF := Lib.hid (fun h => zmU V hV (k := 1) (by omega) h)
    clear hlt
    go_wp2_with (go_at_call 168; refine (zdB _ (by omega) (by omega) _).mono ?_; rintro e w' ⟨rfl, rfl⟩)
    ·have ht : (bits .and .u64 ((V : Nat) : Int) (2 : Int) != 0) = true := by assumption
     go_roundg 2
     case measure => omega
     case rel => exact ⟨2, by omega, by omega, rfl, congrArg (Value.int .u32) (HT.out ht), rfl⟩
    ·have ht : (bits .and .u64 ((V : Nat) : Int) (2 : Int) != 0) = false := by assumption
     go_roundg 2
     case measure => omega
     case rel => exact ⟨2, by omega, by omega, rfl, congrArg (Value.int .u32) (HF.out ht), rfl⟩
   ·have HT := Lib.hid (fun h => zmT V hV (k := 2) (by omega) h)
    have HF := Lib.hid (fun h => zmU V hV (k := 2) (by omega) h)
    clear hlt
    go_wp2_with (go_at_call 168; refine (zdB _ (by omega) (by omega) _).mono ?_; rintro e w' ⟨rfl, rfl⟩)
    ·have ht : (bits .and .u64 ((V : Nat) : Int) (4 : Int) != 0) = true := by assumption
     go_roundg 1
     case measure => omega
     case rel => exact ⟨3, by omega, by omega, rfl, congrArg (Value.int .u32) (HT.out ht), rfl⟩
    ·have ht : (bits .and .u64 ((V : Nat) : Int) (4 : Int) != 0) = false := by assumption
     go_roundg 1
     case measure => omega
     case rel => exact ⟨3, by omega, by omega, rfl, congrArg (Value.int .u32) (HF.out ht), rfl⟩
   ·have HT := Lib.hid (fun h => zmT V hV (k := 3) (by omega) h)
    have HF := Lib.hid (fun h => zmU V hV (k := 3) (by omega) h)
    clear hlt
    go_wp2_with (go_at_call 168; refine (zdB _ (by omega) (by omega) _).mono ?_; rintro e w' ⟨rfl, rfl⟩)
    ·have ht : (bits .and .u64 ((V : Nat) : Int) (8 : Int) != 0) = true := by assumption
     go_roundg 0
     case measure => omega
     case rel => exact ⟨4, by omega, by omega, rfl, congrArg (Value.int .u32) (HT.out ht), rfl⟩
    ·have ht : (bits .and .u64 ((V : Nat) : Int) (8 : Int) != 0) = false := by assumption
     go_roundg 0
     case measure => omega
     case rel => exact ⟨4, by omega, by omega, rfl, congrArg (Value.int .u32) (HF.out ht), rfl⟩
  ·obtain rfl : k = 4 := by omega
   have HM := Lib.hid (zmd ⟨V, hV⟩)
   go_wp2_with (fail)
   go_ret
   exact ⟨zT (by rw [show maskTo V 4 = maskW V from HM.out]), rfl⟩
open Go.RowKit
theorem ziE {bs xs ys : List Int} (hb : zp bs = true) (hy : ys.all zt = true) : ∀ {k : Nat} {b : List Int}, k <= ys.length -> zaK bs xs ys k = some b -> zp b = true
 | 0, b, _, e => by
  injection e with e
  rwa [<- e]
 | k + 1, b, hk, e => by
  have e' : (zaK bs xs ys k).bind (fun b => ze3 b (xs.getD k 0) (ys.getD k 0)) = some b := e
  obtain ⟨c, h1, h2⟩ := Option.bind_eq_some_iff.1 e'
  refine znS (ziE hb hy (by omega) h1) ?_ h2
  have hlt : k < ys.length := by omega
  have := List.all_eq_true.1 hy _ (List.getElem_mem hlt)
  simp [zt] at this
  simp [hlt]
  omega
theorem znl {a f : zd} {bs b : List Int} (hb : zp bs = true) (hy : f.2.all zt = true) (e : zan a f bs = some b) : zp b = true := by
 unfold zan at e
 split at e
 ·rename_i h
  exact ziE hb hy (by omega) e
 ·cases e
open Go.RowKit
def zdn (b : List Int) (K : Nat) : Prop := ∀ v, v < 4 -> (b.getD v (-1) ≠ -1 <-> K.testBit v = true)
theorem zeU {v : Nat} (hv : v < 4) : ∀ (xs : List Int) (m : Nat), (zau m xs).testBit v = true <-> m.testBit v = true \/ (-1 - (v : Int)) ∈ xs
 | [], m => by simp [zau]
 | t :: xs, m => by
  have e : zau m (t :: xs) = zau (orV m t) xs := rfl
  rw [e, zeU hv xs]
  unfold orV
  by_cases ht : zaC t = true
  ·have hb : -4 <= t /\ t <= -1 := by simpa [zaC] using ht
   rw [if_pos ht, Nat.testBit_or, Nat.testBit_two_pow]
   simp only [Bool.or_eq_true, decide_eq_true_eq, List.mem_cons]
   constructor
   ·rintro ((h | h) | h)
    ·exact .inl h
    ·exact .inr (.inl (by omega))
    ·exact .inr (.inr h)
   ·rintro (h | h | h)
    ·exact .inl (.inl h)
    ·exact .inl (.inr (by omega))
    ·exact .inr h
  ·have hb : ¬ (-4 <= t /\ t <= -1) := by simpa [zaC] using ht
   rw [if_neg ht, List.mem_cons]
   constructor
   ·rintro (h | h)
    ·exact .inl h
    ·exact .inr (.inr h)
   ·rintro (h | h | h)
    ·exact .inl h
    ·omega
    ·exact .inr h
theorem zeT {v : Nat} (hv : v < 4) (xs : List Int) : (maskOf xs).testBit v = true <-> (-1 - (v : Int)) ∈ xs := by
 unfold maskOf
 rw [zeU hv]
 simp
theorem zbi {t : Int} (h : zz t = true) : (0 <= t /\ t <= 5) \/ ∃ v : Nat, v < 4 /\ t = -1 - (v : Int) := by
 have := zdA h
 rcases Int.lt_or_le t 0 with h0 | h0
 ·exact .inr ⟨(-1 - t).toNat, by omega, by omega⟩
 ·exact .inl ⟨h0, this.2⟩
theorem zaS (b : List Int) (v : Nat) : zn b (-1 - (v : Int)) = b.getD v (-1) := by
 rw [zcz (by omega)]
 congr 1
 omega
theorem zcE {b c : List Int} {t : Int} (h : zz t = true) (e : ∀ v : Nat, v < 4 -> t = -1 - (v : Int) -> b.getD v (-1) = c.getD v (-1)) : zn b t = zn c t := by
 rcases zbi h with h0 | ⟨v, hv, rfl⟩
 ·rw [za2 h0.1, za2 h0.1]
 ·rw [zaS, zaS]
  exact e v hv rfl
theorem zdE {m : Nat} {t : Int} (h : 0 <= t) : orV m t = m := by
 unfold orV
 rw [if_neg]
 simp [zaC]
 omega
theorem zec {m v : Nat} (hv : v < 4) : orV m (-1 - (v : Int)) = m ||| 2 ^ v := by
 unfold orV
 rw [if_pos (by simp [zaC]; omega)]
 congr 2
 omega
theorem zek (m v u : Nat) : (m ||| 2 ^ v).testBit u = true <-> m.testBit u = true \/ v = u := by
 rw [Nat.testBit_or, Nat.testBit_two_pow]
 simp
theorem zdC {b : List Int} {K M : Nat} (h : zdn b K) (hs : ∀ v, v < 4 -> M.testBit v = true -> K.testBit v = true) : zdn (zbj M b) M := fun v hv => by
 rw [zZ hv]
 by_cases e : M.testBit v = true
 ·rw [if_pos e]
  exact ⟨fun _ => e, fun _ => (h v hv).2 (hs v hv e)⟩
 ·rw [if_neg e]
  exact ⟨fun h => absurd rfl h, fun h => absurd h e⟩
theorem zdD {b : List Int} {K : Nat} (hb : zp b = true) (h : zdn b K) : zbj K b = b := by
 refine zb6 (zY hb K) hb fun v hv => ?_
 rw [zZ hv]
 by_cases e : K.testBit v = true
 ·rw [if_pos e]
 ·rw [if_neg e]
  rcases Decidable.em (b.getD v (-1) = -1) with h2 | h2
  ·exact h2.symm
  ·exact absurd ((h v hv).1 h2) e
theorem zhM {xs ys : List Int} (hl : xs.length = ys.length) (hx : xs.all zz = true) (hy : ys.all zt = true) : ∀ (k : Nat) (_hk : k <= xs.length) (b : List Int), zaK za8 xs ys k = some b <->
 (zp b = true /\ zdn b (maskOf (xs.take k)) /\ ∀ i (h : i < xs.length) (h2 : i < ys.length), i < k -> zn b xs[i] = ys[i])
 | 0, hk, b => by
  constructor
  ·intro h
   injection h with h
   subst h
   refine ⟨zcl, fun v hv => ?_, fun i _ _ h => absurd h (by omega)⟩
   have : (maskOf (xs.take 0)).testBit v = false := by simp [maskOf, zau]
   rw [this]
   match v, hv with
   | 0, _ => simp [za8]
   | 1, _ => simp [za8]
   | 2, _ => simp [za8]
   | 3, _ => simp [za8]
  ·rintro ⟨hb, hd, _⟩
   show some za8 = some b
   congr 1
   refine zb6 zcl hb fun v hv => ?_
   have h0 : (maskOf (xs.take 0)).testBit v = false := by simp [maskOf, zau]
   have := hd v hv
   rw [h0] at this
   have hbv : b.getD v (-1) = -1 := by
    rcases Decidable.em (b.getD v (-1) = -1) with h2 | h2
    ·exact h2
    ·exact absurd (this.1 h2) (by simp)
   rw [hbv]
   match v, hv with
   | 0, _ => rfl
   | 1, _ => rfl
   | 2, _ => rfl
   | 3, _ => rfl
 | k + 1, hk, b => by
  have hkx : k < xs.length := by omega
  have hky : k < ys.length := by omega
  have ih := zhM hl hx hy k (by omega)
  have hM := zee hkx
  have hxk : zz xs[k] = true := List.all_eq_true.1 hx _ (List.getElem_mem hkx)
  have hyk : 0 <= ys[k] /\ ys[k] <= 5 := by simpa [zt] using List.all_eq_true.1 hy _ (List.getElem_mem hky)
  obtain ⟨M, hMM⟩ : ∃ M, M = maskOf (xs.take k) := ⟨_, rfl⟩
  rw [<- hMM] at hM ih
  rw [hM]
  have hin : ∀ (i : Nat) (h : i < xs.length) (v : Nat), i < k -> v < 4 -> xs[i] = -1 - (v : Int) -> M.testBit v = true := fun i h v hik hv e => by
   rw [hMM, zeT hv, <- e]
   exact List.mem_take_iff_getElem.2 ⟨i, by omega, rfl⟩
  constructor
  ·intro h
   cases h0 : zaK za8 xs ys k with
   | none => rw [zdt h0 (k + 1) (by omega)] at h; cases h
   | some b0 =>
    rw [zca h0 hkx hky] at h
    obtain ⟨hb0, hd0, hv0⟩ := (ih b0).1 h0
    unfold ze3 at h
    split at h
    ·rename_i e
     injection h with h
     subst h
     refine ⟨hb0, ?_, fun i h1 h2 hik => ?_⟩
     ·rcases zbi hxk with h0 | ⟨v, hv, hxv⟩
      ·rw [zdE h0.1]
       exact hd0
      ·rw [hxv, zec hv]
       intro u hu
       rw [zek, hd0 u hu]
       constructor
       ·exact fun h => .inl h
       ·rintro (h | rfl)
        ·exact h
        ·refine (hd0 v hv).1 ?_
         rw [hxv, zaS] at e
         omega
     ·by_cases ei : i = k
      ·subst ei
       exact e
      ·exact hv0 i h1 h2 (by omega)
    ·split at h
     ·rename_i e1 e2
      injection h with h
      rcases zbi hxk with h0 | ⟨v, hv, hxv⟩
      ·rw [za2 h0.1] at e2
       omega
      ·rw [hxv, zaS] at e2
       have hj : (-1 - xs[k]).toNat = v := by omega
       rw [hj] at h
       have hl4 := zV hb0
       have hset : ∀ u, u < 4 -> b.getD u (-1) = if u = v then ys[k] else b0.getD u (-1) := fun u hu => by
        rw [<- h]
        simp only [List.getD_eq_getElem?_getD, List.getElem?_set]
        by_cases euv : v = u
        ·subst euv
         simp [hl4, hv]
        ·rw [if_neg euv, if_neg (fun e => euv e.symm)]
       refine ⟨by rw [<- h]; exact zcx hb0 (by omega) _, fun u hu => ?_, fun i h1 h2 hik => ?_⟩
       ·rw [hxv, zec hv, zek, hset u hu]
        by_cases euv : u = v
        ·subst euv
         simp
         omega
        ·rw [if_neg euv, hd0 u hu]
         constructor
         ·exact fun h => .inl h
         ·rintro (h | h)
          ·exact h
          ·exact absurd h.symm euv
       ·by_cases ei : i = k
        ·subst ei
         rw [hxv, zaS, hset v hv, if_pos rfl]
        ·have hik' : i < k := by omega
         rw [<- hv0 i h1 h2 hik']
         refine zcE (List.all_eq_true.1 hx _ (List.getElem_mem h1)) fun u hu eu => ?_
         rw [hset u hu, if_neg]
         rintro rfl
         have := (hd0 u hu).2 (hin i h1 u hik' hu eu)
         exact this e2
     ·cases h
  ·rintro ⟨hb, hd, hv⟩
   have hMK : ∀ v, v < 4 -> M.testBit v = true -> (orV M xs[k]).testBit v = true := fun v hv h => by
    rcases zbi hxk with h0 | ⟨u, hu, hxu⟩
    ·rw [zdE h0.1]; exact h
    ·rw [hxu, zec hu, zek]; exact .inl h
   have h0 : zaK za8 xs ys k = some (zbj M b) := by
    refine (ih _).2 ⟨zY hb M, zdC hd hMK, fun i h1 h2 hik => ?_⟩
    rw [<- hv i h1 h2 (by omega)]
    refine zcE (List.all_eq_true.1 hx _ (List.getElem_mem h1)) fun u hu eu => ?_
    rw [zZ hu, if_pos (hin i h1 u hik hu eu)]
   rw [zca h0 hkx hky]
   have hvk := hv k hkx hky (by omega)
   rcases zbi hxk with h0c | ⟨v, hv4, hxv⟩
   ·rw [zdE h0c.1] at hd
    rw [zdD hb hd]
    exact zc1 hvk
   ·rw [hxv, zec hv4] at hd
    rw [hxv, zaS] at hvk
    rw [hxv]
    by_cases hMv : M.testBit v = true
    ·have hd2 : zdn b M := fun u hu => by
      rw [hd u hu, zek]
      constructor
      ·rintro (h | rfl)
       ·exact h
       ·exact hMv
      ·exact fun h => .inl h
     rw [zdD hb hd2]
     exact zc1 (by rw [zaS]; exact hvk)
    ·have hr : zn (zbj M b) (-1 - (v : Int)) = -1 := by rw [zaS, zZ hv4, if_neg hMv]
     rw [zfJ hr (by omega), show (-1 - (-1 - (v : Int))).toNat = v by omega]
     congr 1
     refine zb6 (zcx (zY hb M) (by omega) _) hb fun u hu => ?_
     have hl4 := zV (zY hb M)
     simp only [List.getD_eq_getElem?_getD, List.getElem?_set]
     by_cases euv : v = u
     ·subst euv
      simp only [List.getD_eq_getElem?_getD] at hvk
      simp [hl4, hv4, hvk]
     ·rw [if_neg euv, <- List.getD_eq_getElem?_getD, <- List.getD_eq_getElem?_getD, zZ hu]
      by_cases hMu : M.testBit u = true
      ·rw [if_pos hMu]
      ·rw [if_neg hMu]
       rcases Decidable.em (b.getD u (-1) = -1) with h2 | h2
       ·exact h2.symm
       ·have := (hd u hu).1 h2
        rw [zek] at this
        rcases this with h | h
        ·exact absurd h hMu
        ·exact absurd h euv
theorem ziF {a f : zd} (ha : a.2.all zz = true) (hf : f.2.all zt = true) (b : List Int) : zan a f za8 = some b <-> zp b = true /\ zdn b (maskOf a.2) /\ f = (a.1, a.2.map (zn b)) := by
 by_cases h1 : a.1 = f.1
 ·by_cases h2 : a.2.length = f.2.length
  ·rw [zez h1 h2, zhM h2 ha hf a.2.length (Nat.le_refl _) b, List.take_length]
   refine and_congr_right fun _ => and_congr_right fun _ => ?_
   constructor
   ·intro h
    refine Prod.ext h1.symm (List.ext_getElem (by simp [h2]) fun i i1 i2 => ?_)
    simp at i2
    simpa using (h i i2 i1 i2).symm
   ·intro h i i1 i2 _
    have e : f.2 = a.2.map (zn b) := by rw [h]
    have := List.getElem_of_eq e i2
    simpa using this.symm
  ·rw [zeS h2]
   constructor
   ·intro h; cases h
   ·rintro ⟨_, _, e⟩
    exact absurd (by rw [e]; simp) h2
 ·rw [zed h1]
  constructor
  ·intro h; cases h
  ·rintro ⟨_, _, e⟩
   exact absurd (by rw [e]) h1
open Go.Sort
section
variable {α : Type} [Inhabited α] (lt : α -> α -> Bool)
theorem zoM {a j : Nat} {d : Array α} (hj : a < j) (hl : lt d[j]! d[j - 1]! = true) : insInner lt a j d = insInner lt a (j - 1) (Sort.swp d j (j - 1)) := by
 cases j with
 | zero => omega
 | succ k =>
  simp only [Nat.add_sub_cancel] at hl ⊢
  rw [insInner, if_pos (by simp [hj, hl])]
theorem zmW {a j : Nat} {d : Array α} (h : a < j -> lt d[j]! d[j - 1]! = false) : insInner lt a j d = d := by
 cases j with
 | zero => rw [insInner]
 | succ k =>
  rw [insInner]
  by_cases hj : a < k + 1
  ·have := h hj
   simp only [Nat.add_sub_cancel] at this
   rw [if_neg (by simp [this])]
  ·rw [if_neg (by simp; omega)]
def kid (d : Array α) (hi first root : Nat) : Nat := if (decide (2 * root + 2 < hi) && lt d[first + (2 * root + 1)]! d[first + (2 * root + 2)]!) = true then 2 * root + 2 else 2 * root + 1
theorem zpn {d : Array α} {hi first root : Nat} (h : 2 * root + 1 < hi) : kid lt d hi first root < hi /\ root < kid lt d hi first root := by
 unfold kid
 split
 ·rename_i e
  simp at e
  omega
 ·omega
theorem zoD {d : Array α} {hi first root : Nat} (h : ¬ 2 * root + 1 < hi) : siftDown lt hi first root d = d := by
 rw [siftDown, dif_pos (by omega)]
theorem znU {d : Array α} {hi first root : Nat} (h : 2 * root + 1 < hi) (hl : lt d[first + root]! d[first + kid lt d hi first root]! = false) : siftDown lt hi first root d = d := by
 unfold kid at hl
 rw [siftDown, dif_neg (by omega)]
 split at hl
 ·rename_i e
  rw [if_pos (by exact e), if_pos (by rw [hl]; rfl)]
 ·rename_i e
  rw [if_neg (by exact e), if_pos (by rw [hl]; rfl)]
theorem znV {d : Array α} {hi first root : Nat} (h : 2 * root + 1 < hi) (hl : lt d[first + root]! d[first + kid lt d hi first root]! = true) :
 siftDown lt hi first root d = siftDown lt hi first (kid lt d hi first root) (Sort.swp d (first + root) (first + kid lt d hi first root)) := by
 unfold kid at hl ⊢
 rw [siftDown, dif_neg (by omega)]
 split at hl
 ·rename_i e
  have e2 : 2 * root + 2 < hi := by simp at e; omega
  rw [if_pos (by exact e), if_neg (by rw [hl]; decide), dif_pos e2, if_pos e]
 ·rename_i e
  rw [if_neg (by exact e), if_neg (by rw [hl]; decide), if_neg e]
theorem zlR {p : α -> Bool} {d : Array α} {j i : Nat} (h : i <= j) (hp : p d[i]! = true) : scanUp p d j i = scanUp p d j (i + 1) := by rw [scanUp, if_pos (by simp [h, hp])]
theorem zlS {p : α -> Bool} {d : Array α} {j i : Nat} (h : i <= j -> p d[i]! = false) : scanUp p d j i = i := by
 rw [scanUp, if_neg]
 intro hc
 simp at hc
 rw [h hc.1] at hc
 exact absurd hc.2 (by simp)
theorem zi4 {p : α -> Bool} {d : Array α} {j i : Nat} (h : i <= j) (h0 : 0 < j) (hp : p d[j]! = true) : scanDown p d i j = scanDown p d i (j - 1) := by
 cases j with
 | zero => omega
 | succ k => rw [scanDown, if_pos (by simp [h, hp]), Nat.add_sub_cancel]
theorem zi5 {p : α -> Bool} {d : Array α} {j i : Nat} (h : i <= j -> p d[j]! = false) : scanDown p d i j = j := by
 cases j with
 | zero => rfl
 | succ k =>
  rw [scanDown, if_neg]
  intro hc
  simp at hc
  rw [h hc.1] at hc
  exact absurd hc.2 (by simp)
theorem zfn (p q : α -> Bool) (hq : ∀ x, q x = !p x) {d : Array α} {i j i2 j2 : Nat} (hi2 : scanUp p d j i = i2) (hj2 : scanDown q d i2 j = j2) (h : i2 <= j2) (h0 : 0 < i2) : i2 < j2 := by
 obtain ⟨u1, u2, u3, u4⟩ := scanUp_spec p d j _ i rfl
 obtain ⟨v1, v2, v3, v4⟩ := scanDown_spec q d i2 j
 rw [hi2] at u4
 rw [hj2] at v1 v4
 rcases Nat.lt_or_ge i2 j2 with hlt | hge
 ·exact hlt
 ·exfalso
  have e : j2 = i2 := by omega
  have f1 := u4 (by omega)
  have f2 := v4 h (by omega)
  rw [e, hq, f1] at f2
  cases f2
end
open Go.RowKit Go.Sort
def zbx (w : World) (g o c : Nat) (d : Array Int) : Prop :=
 ∃ cur, w.heap[g]? = some (.cells cur 102 (0, 0)) /\ cur.size = c /\ ∀ j, j < d.size -> cur[o + j]? = some (.int .u32 d[j]!)
section
variable {w w' : World} {g o c lo hi : Nat} {d : Array Int}
theorem zbx.lt (h : zbx w g o c d) : g < w.heap.size := by
 obtain ⟨cur, hg, _⟩ := h
 exact Blk.lt hg
theorem zbx.cell (h : zbx w g o c d) {j : Nat} (hj : j < d.size) : w.cell? ⟨g, o + j, none⟩ = some (.int .u32 d[j]!) := by
 obtain ⟨cur, hg, _, hc⟩ := h
 rw [Blk.cell hg, hc j hj]
theorem zbx.frozen (h : zbx w g o c d) (j : Nat) : w.frozen? ⟨g, j, none⟩ = false := by
 obtain ⟨cur, hg, _⟩ := h
 exact Blk.frozen hg j
theorem zbx.set (h : zbx w g o c d) {i : Nat} (hi : i < d.size) (x : Int) : zbx (w.setCell ⟨g, o + i, none⟩ (.int .u32 x)) g o c (d.setIfInBounds i x) := by
 obtain ⟨cur, hg, h1, hc⟩ := h
 refine ⟨cur.setIfInBounds (o + i) (.int .u32 x), Blk.set_ hg (o + i) _, by simpa using h1, fun j hj => ?_⟩
 have hj' : j < d.size := by simpa using hj
 by_cases e : i = j
 ·subst e
  have hin : o + i < cur.size := by
   rcases Nat.lt_or_ge (o + i) cur.size with h | h
   ·exact h
   ·have := hc i hi
    rw [Array.getElem?_eq_none h] at this
    cases this
  rw [Array.getElem?_setIfInBounds, if_pos rfl, if_pos hin, getElem!_pos (d.setIfInBounds i x) i hj]
  simp
 ·rw [Array.getElem?_setIfInBounds, if_neg (by omega), hc j hj', getElem!_pos (d.setIfInBounds i x) j hj, getElem!_pos d j hj', Array.getElem_setIfInBounds, if_neg e]
theorem zbx.swp (h : zbx w g o c d) {i j : Nat} (hi : i < d.size) (hj : j < d.size) : zbx ((w.setCell ⟨g, o + i, none⟩ (.int .u32 d[j]!)).setCell ⟨g, o + j, none⟩ (.int .u32 d[i]!)) g o c (Sort.swp d i j) :=
 (h.set hi _).set (by simpa using hj) _
theorem zbx.only (h : zbx w g o c d) (ho : zl lo hi w w') (hd : g < lo \/ hi <= g) : zbx w' g o c d := by
 obtain ⟨cur, hg, r⟩ := h
 exact ⟨cur, (ho.block g (Blk.lt hg) hd).trans hg, r⟩
theorem zbx.below {B : Nat} (h : zbx w g o c d) (hb : Below B w w') (hg : g < B) : zbx w' g o c d := by
 obtain ⟨cur, e, r⟩ := h
 exact ⟨cur, (hb.block g hg).trans e, r⟩
theorem zl.drew' (h : zl lo hi w w') : zl lo hi w w'.drew := ⟨h.os, h.tape, h.output, h.size, h.block⟩
theorem zl.drewN' (h : zl lo hi w w') (n : Nat) : zl lo hi w (w'.drewN n) := ⟨h.os, h.tape, h.output, h.size, h.block⟩
end
structure At (w : World) (g o c n : Nat) (wr : World) (dk : Array Int) : Prop where
 row : zbx wr g o c dk
 size : dk.size = n
 only : zl g (g + 1) w wr
section
variable {w wr wr2 : World} {g o c n i j : Nat} {d dk : Array Int}
theorem At.start (h : zbx w g o c d) (hn : d.size = n) : At w g o c n w d := ⟨h, hn, zl.refl _ _ _⟩
theorem At.drewN (h : At w g o c n wr dk) (m : Nat) : At w g o c n (wr.drewN m) dk := ⟨h.row, h.size, h.only.drewN' m⟩
theorem At.drew (h : At w g o c n wr dk) : At w g o c n wr.drew dk := ⟨h.row, h.size, h.only.drew'⟩
theorem At.then_ {d2 : Array Int} (h : At w g o c n wr dk) (k : At wr g o c n wr2 d2) : At w g o c n wr2 d2 := ⟨k.row, k.size, h.only.trans k.only⟩
theorem At.aside {lo hi : Nat} (h : At w g o c n wr dk) (k : zl lo hi wr wr2) (hlo : w.heap.size <= lo) (hg : g < lo) : At w g o c n wr2 dk :=
 ⟨h.row.only k (.inl hg), h.size, k.os.trans h.only.os, k.tape.trans h.only.tape, k.output.trans h.only.output, Nat.le_trans h.only.size k.size,
   fun i hi' ho => (k.block i (Nat.lt_of_lt_of_le hi' h.only.size) (.inl (by omega))).trans (h.only.block i hi' ho)⟩
theorem At.lt (h : At w g o c n wr dk) : g < wr.heap.size := h.row.lt
theorem At.swp (h : At w g o c n wr dk) (hi : i < n) (hj : j < n) {x y : Value} (hx : x = .int .u32 dk[j]!) (hy : y = .int .u32 dk[i]!) :
 At w g o c n ((wr.setCell ⟨g, o + i, none⟩ x).setCell ⟨g, o + j, none⟩ y) (Sort.swp dk i j) := by
 subst hx hy
 exact ⟨h.row.swp (by have := h.size; omega) (by have := h.size; omega), by rw [Sort.size_swp]; exact h.size,
  zl.setCell (p := ⟨g, o + j, none⟩) (zl.setCell (p := ⟨g, o + i, none⟩) h.only ⟨Nat.le_refl _, Nat.lt_succ_self _⟩ _) ⟨Nat.le_refl _, Nat.lt_succ_self _⟩ _⟩
theorem At.fam (h : At w g o c n wr dk) : ∃ G : Nat -> Int, Hid (∀ t, G t = dk[t]!) /\ (∀ t, t < n -> wr.cell? ⟨g, o + t, none⟩ = some (.int .u32 (G t))) /\ (∀ t, t < n -> wr.frozen? ⟨g, o + t, none⟩ = false) :=
 ⟨fun t => dk[t]!, Lib.hid (fun _ => rfl), fun t ht => h.row.cell (by have := h.size; omega), fun t _ => h.row.frozen _⟩
theorem At.still (h : At w g o c n wr dk) (hj : j < n) (p : Addr) (x : Value) : ∃ v, (wr.setCell p x).cell? ⟨g, o + j, none⟩ = some v :=
 cell?_setCell_some (h.row.cell (by have := h.size; omega))
end
theorem zS (x y : Int) (w : World) :
 Calls Tryz.prog 196 #[.int .u32 x, .int .u32 y] w fun e w' => e = .returned (.bool (ltInt x y)) /\ w' = w := by
 go_enter Tryz.func196, Tryz.ntmps196
 go_wp2
 go_ret
 simp [ltInt]
open Go.RowKit Go.Sort
set_option maxHeartbeats 8000000 in
theorem zoL (g o c cap n a b : Nat) (d : Array Int) (w : World) (hu : zbx w g o c d) (hn : d.size = n) (hab : a <= b) (hb : b <= n) (hsz : n < 4611686018427387904) :
 Calls Tryz.prog 206 #[.slice (some ⟨g, o, none⟩) n cap, .int .i64 a, .int .i64 b] w fun e w' =>
  e = .returned (.tuple #[]) /\ At w g o c n w' (insertionSort ltInt d a b) := by
 have A0 := At.start hu hn
 have HA := Lib.hid A0
 clear hu A0 hn
 go_enter Tryz.func206, Tryz.ntmps206
 go_wp2
 go_loopw [6] (fun vi wr => ∃ (i : Nat) (dk : Array Int), vi = .int .i64 i /\ a < i /\ At w g o c n wr dk /\ Hid (insOuter ltInt a b i dk = insertionSort ltInt d a b)) (fun vi _ => b - (intOf vi).toNat)
 case atStart => exact ⟨a + 1, d, by go_num, by omega, HA.out, Lib.hid rfl⟩
 case round =>
  obtain ⟨i, dk, rfl, hai, K, HE⟩ := hrel
  by_cases hib : i < b
  ·go_wp2
   go_loopw [7] (fun vj wr2 => ∃ (j : Nat) (dj : Array Int), vj = .int .i64 j /\ j <= i /\ At w g o c n wr2 dj /\ Hid (insInner ltInt a j dj = insInner ltInt a i dk)) (fun vj _ => (intOf vj).toNat)
   case atStart => exact ⟨i, dk, rfl, Nat.le_refl _, K, Lib.hid rfl⟩
   case round =>
    obtain ⟨j, dj, rfl, hji, KJ, HJ⟩ := hrel
    obtain ⟨G, HG, hc, hf⟩ := KJ.fam
    have HN := Lib.hid (show insInner ltInt a j dj = dj -> insOuter ltInt a b (i + 1) dj = insertionSort ltInt d a b from fun e => by
     rw [<- HE.out, insOuter.eq_def ltInt a b i dk, if_pos hib, <- HJ.out, e])
    by_cases hja : a < j
    ·go_wp2_with (fail)
     go_big_quiet (first | (go_at_call 196; refine Calls.quiet_of_same (zS _ _ _)))
     go_wp2
     ·have hl : ltInt (G j) (G (j - 1)) = true := by assumption
      have KQ := Lib.hid (KJ.drewN nq)
      obtain ⟨v', hy'⟩ := KQ.out.still (j := j - 1) (by omega) ⟨g, o + j, none⟩ (.int .u32 (G (j - 1)))
      go_region
      all_goals go_wp2
      go_roundw
      case rel => exact ⟨j - 1, Sort.swp dj j (j - 1), by congr 1; omega, by omega, (KQ.out.swp (by omega) (by omega) (by rw [HG.out]) (by rw [HG.out])).drew, Lib.hid (by rw [<- HJ.out, zoM ltInt hja (by rw [<- HG.out, <- HG.out]; exact hl)])⟩
      case measure => simp [intOf]; omega
     ·have hl : ltInt (G j) (G (j - 1)) = false := by assumption
      have hnext := HN.out (zmW ltInt (fun _ => by rw [<- HG.out, <- HG.out]; exact hl))
      have HX := Lib.hid hnext
      clear hnext
      go_roundw
      case rel => exact ⟨i + 1, dj, by go_num, by omega, KJ.drewN nq, HX⟩
      case measure => simp [intOf]; omega
    ·have HX := Lib.hid (HN.out (zmW ltInt (fun e => absurd e hja)))
     go_wp2_with (fail)
     go_big_quiet (fail)
     go_wp2
     go_roundw
     case rel => exact ⟨i + 1, dj, by go_num, by omega, KJ.drewN nq, HX⟩
     case measure => simp [intOf]; omega
  ·go_wp2
   go_end0
   refine ⟨rfl, ?_⟩
   rw [<- HE.out, insOuter.eq_def, if_neg hib]
   exact K
open Go.RowKit Go.Sort
set_option maxHeartbeats 8000000 in
theorem zo5 (g o c cap n lo hi first : Nat) (d : Array Int) (w : World) (hu : zbx w g o c d) (hn : d.size = n) (hb : first + hi <= n) (hsz : n < 1152921504606846976) (hlo : lo <= n) :
 Calls Tryz.prog 217 #[.slice (some ⟨g, o, none⟩) n cap, .int .i64 lo, .int .i64 hi, .int .i64 first] w fun e w' =>
  e = .returned (.tuple #[]) /\ At w g o c n w' (siftDown ltInt hi first lo d) := by
 have HA := Lib.hid (At.start hu hn)
 clear hu hn
 go_enter Tryz.func217, Tryz.ntmps217
 go_wp2
 go_loopg [8] (hi - lo) (fun k vr wr => ∃ (root : Nat) (dk : Array Int), vr = .int .i64 root /\ root <= n /\ hi - root <= k /\ At w g o c n wr dk /\ Hid (siftDown ltInt hi first root dk = siftDown ltInt hi first lo d))
 case atStart => exact ⟨lo, d, rfl, hlo, Nat.le_refl _, HA.out, Lib.hid rfl⟩
 case round =>
  obtain ⟨root, dk, rfl, hrh, hgk, K, HE⟩ := hrel
  by_cases h1 : 2 * root + 1 < hi
  ·have h1z : ¬ ((hi : Int) <= 2 * (root : Int) + 1) := by omega
   obtain ⟨G, HG, hc, hf⟩ := K.fam
   obtain ⟨kd, hkd⟩ : ∃ kd, kd = kid ltInt dk hi first root := ⟨_, rfl⟩
   obtain ⟨hk1, hk2⟩ := zpn ltInt (d := dk) (first := first) h1
   rw [<- hkd] at hk1 hk2
   have HS1 := Lib.hid (fun h => (znU ltInt (d := dk) (first := first) h1 h).symm.trans HE.out)
   have HS2 := Lib.hid (fun h => (znV ltInt (d := dk) (first := first) h1 h).symm.trans HE.out)
   rw [<- hkd] at HS1 HS2
   obtain ⟨B, hB⟩ : ∃ B, B = (decide (2 * root + 2 < hi) && ltInt (G (first + root * 2 + 1)) (G (first + root * 2 + 2))) := ⟨_, rfl⟩
   have HKC := Lib.hid (show kd = if B then 2 * root + 2 else 2 * root + 1 by
    rw [hkd, hB, HG.out, HG.out, show first + root * 2 + 1 = first + (2 * root + 1) by omega, show first + root * 2 + 2 = first + (2 * root + 2) by omega]
    rfl)
   have HB := Lib.hid hB
   have HK := Lib.hid K
   clear K hkd hB
   go_upto_region 3 with fail
   go_cut [36] from 11 (fun s36 wc => s36 = .bool B /\ At w g o c n wc dk)
   case first =>
    by_cases h2 : 2 * root + 2 < hi
    ·have h2z : 2 * (root : Int) + 1 + 1 < (hi : Int) := by omega
     go_big_quiet (first | (go_at_call 196; refine Calls.quiet_of_same (zS _ _ _)))
     go_wp2_with fail
     go_meet
     case rel => exact ⟨by rw [HB.out, decide_eq_true h2, Bool.true_and]; congr 2 <;> congr 1 <;> omega, HK.out.drewN nq⟩
    ·have h2z : decide (2 * (root : Int) + 1 + 1 < (hi : Int)) = false := decide_eq_false (by omega)
     go_big_quiet (first | (go_at_call 196; refine Calls.quiet_of_same (zS _ _ _)))
     go_wp2_with fail
     go_meet
     case rel => exact ⟨by rw [HB.out]; simp [h2], HK.out.drewN nq⟩
   case rest =>
    obtain ⟨rfl, K2⟩ := hcut
    clear hc hf HB
    have HK2 := Lib.hid K2
    clear K2
    go_upto_if 36 with fail
    go_cut [9] from 11 (fun s9 wx => s9 = .int .i64 kd /\ wx = wc)
    case first =>
     cases hB : B
     ·have hkd : kd = 2 * root + 1 := by rw [HKC.out, hB]; rfl
      have HKD := Lib.hid hkd
      clear hkd
      go_wp2_with fail
      go_meet
      case rel => exact ⟨by rw [HKD.out]; go_num, rfl⟩
     ·have hkd : kd = 2 * root + 2 := by rw [HKC.out, hB]; rfl
      have HKD := Lib.hid hkd
      clear hkd
      go_wp2_with fail
      go_meet
      case rel => exact ⟨by rw [HKD.out]; go_num, rfl⟩
    case rest =>
     obtain ⟨rfl, rfl⟩ := hcut
     obtain ⟨G2, HG2, hc, hf⟩ := HK2.out.fam
     go_wp2_with fail
     go_big_quiet (first | (go_at_call 196; refine Calls.quiet_of_same (zS _ _ _)))
     go_wp2_with fail
     ·have hl : (!ltInt (G2 (first + root)) (G2 (first + kd))) = true := by assumption
      (try simp only [Exit.inBlock, Exit.then]); refine bodyPost_ret (results_none rfl _ _ _) rfl ?_
      refine ⟨rfl, ?_⟩
      rw [<- HS1.out (by rw [<- HG2.out, <- HG2.out]; simpa using hl)]
      exact HK2.out.drewN nq
     ·have hl : (!ltInt (G2 (first + root)) (G2 (first + kd))) = false := by assumption
      have HL := Lib.hid (HS2.out (by rw [<- HG2.out, <- HG2.out]; simpa using hl))
      have KQ := Lib.hid (HK2.out.drewN nq)
      obtain ⟨v', hy'⟩ := KQ.out.still (j := first + kd) (by omega) ⟨g, o + (first + root), none⟩ (.int .u32 (G2 (first + kd)))
      clear hl
      go_region
      all_goals go_wp2
      go_roundg (hi - kd)
      case measure => omega
      case rel => exact ⟨kd, Sort.swp dk (first + root) (first + kd), rfl, by omega, Nat.le_refl _, (KQ.out.swp (by omega) (by omega) (by rw [HG2.out]) (by rw [HG2.out])).drew, Lib.hid HL.out⟩
  ·have h1z : (hi : Int) <= 2 * (root : Int) + 1 := by omega
   go_wp2
   go_end0
   rw [<- HE.out, zoD ltInt h1]
   exact ⟨rfl, K⟩
theorem zpy (a L : Nat) : (((a : Int) + (L : Int) - (a : Int) - 1).tdiv 2) = (((L - 1) / 2 + 1 : Nat) : Int) - 1 := by
 rw [show (a : Int) + (L : Int) - (a : Int) - 1 = (L : Int) - 1 by omega]
 rcases Nat.eq_zero_or_pos L with rfl | h
 ·decide
 ·rw [Int.tdiv_eq_ediv_of_nonneg (by omega)]
  omega
set_option maxHeartbeats 8000000 in
theorem zpx (g o c cap n a b : Nat) (d : Array Int) (w : World) (hu : zbx w g o c d) (hn : d.size = n) (hab : a <= b) (hb : b <= n) (hsz : n < 1152921504606846976) :
 Calls Tryz.prog 207 #[.slice (some ⟨g, o, none⟩) n cap, .int .i64 a, .int .i64 b] w fun e w' =>
  e = .returned (.tuple #[]) /\ At w g o c n w' (heapSort ltInt d a b) := by
 have HA := Lib.hid (At.start hu hn)
 obtain ⟨L, hL⟩ : ∃ L, b = a + L := ⟨b - a, by omega⟩
 subst hL
 clear hu hn
 go_enter Tryz.func207, Tryz.ntmps207
 go_wp2_with fail
 have hL0 : ((a + L : Nat) : Int) - (a : Int) = (L : Int) := by omega
 go_loopg [9] ((L - 1) / 2 + 1) (fun k vi wr => ∃ (dk : Array Int), vi = .int .i64 ((k : Int) - 1) /\ k <= (L - 1) / 2 + 1 /\ At w g o c n wr dk /\ Hid (heapBuild ltInt L a k dk = heapBuild ltInt L a ((L - 1) / 2 + 1) d))
 case atStart => exact ⟨d, by rw [zpy], Nat.le_refl _, HA.out, Lib.hid rfl⟩
 case round =>
  obtain ⟨dk, rfl, hk, K, HE⟩ := hrel
  rcases Nat.eq_zero_or_pos gk with rfl | hk0
  ·have HK := Lib.hid K
   clear K
   have h0 : ¬ ((((0 : Nat) : Int) - 1) >= 0) := by decide
   go_wp2_with fail
   go_loopg [10] L (fun k vi wr => ∃ (dj : Array Int), vi = .int .i64 ((k : Int) - 1) /\ k <= L /\ At w g o c n wr dj /\ Hid (heapPop ltInt a k dj = heapPop ltInt a L dk))
   case atStart => exact ⟨dk, by congr 1; omega, Nat.le_refl _, HK.out, Lib.hid rfl⟩
   case round =>
    obtain ⟨dj, rfl, hk, KJ, HJ⟩ := hrel
    rcases Nat.eq_zero_or_pos gk with rfl | hk0
    ·have h0 : ¬ ((((0 : Nat) : Int) - 1) >= 0) := by decide
     go_wp2_with fail
     go_end0
     refine ⟨rfl, ?_⟩
     have : heapSort ltInt d a (a + L) = dj := by
      unfold heapSort
      rw [Nat.add_sub_cancel_left, <- HE.out]
      exact HJ.out.symm
     rw [this]
     exact KJ
    ·obtain ⟨m, rfl⟩ : ∃ m, gk = m + 1 := ⟨gk - 1, by omega⟩
     have hm : ((m + 1 : Nat) : Int) - 1 = (m : Int) := by omega
     rw [hm]
     obtain ⟨G, HG, hc, hf⟩ := KJ.fam
     obtain ⟨v', hy'⟩ := KJ.still (j := a + m) (by omega) ⟨g, o + a, none⟩ (.int .u32 (G (a + m)))
     have KS1 := Lib.hid (show At w g o c n (((wr.setCell ⟨g, o + a, none⟩ (.int .u32 (G (a + m)))).setCell ⟨g, o + (a + m), none⟩ (.int .u32 (G a))).drew) (Sort.swp dj a (a + m)) from (KJ.swp (by omega) (by omega) (by rw [HG.out]) (by rw [HG.out])).drew)
     clear KJ
     go_wp2_with fail
     go_region
     all_goals
      go_wp2_with (go_at_call 217; refine Calls.mono (zo5 g o c cap n 0 m a (Sort.swp dj a (a + m)) _ KS1.out.row KS1.out.size (by omega) hsz (by omega)) ?_; rintro e w1 ⟨rfl, KS⟩)
      go_roundg m
      case measure => omega
      case rel => exact ⟨siftDown ltInt m a 0 (Sort.swp dj a (a + m)), rfl, by omega, KS1.out.then_ KS, Lib.hid (by rw [<- HJ.out, heapPop])⟩
  ·obtain ⟨m, rfl⟩ : ∃ m, gk = m + 1 := ⟨gk - 1, by omega⟩
   have hm : ((m + 1 : Nat) : Int) - 1 = (m : Int) := by omega
   rw [hm]
   have hmL : (a : Int) + (L : Int) - (a : Int) = (L : Int) := by omega
   have HK := Lib.hid K
   clear K
   have hsf := zo5 g o c cap n m L a dk _ HK.out.row HK.out.size (by omega) hsz (by omega)
   rw [<- hmL] at hsf
   have HSF := Lib.hid hsf
   clear hmL hsf
   go_wp2_with (go_at_call 217; refine Calls.mono HSF.out ?_; rintro e w1 ⟨rfl, KS⟩)
   go_roundg m
   case measure => omega
   case rel => exact ⟨siftDown ltInt L a m dk, rfl, by omega, HK.out.then_ KS, Lib.hid (by rw [<- HE.out, heapBuild])⟩
open Go.RowKit Go.Sort
set_option maxHeartbeats 4000000 in
theorem zn0 (g o c cap n a b : Nat) (d : Array Int) (w : World) (hu : zbx w g o c d) (hn : d.size = n) (hab : a <= b) (hb : b <= n) (hsz : n < 4611686018427387904) :
 Calls Tryz.prog 210 #[.slice (some ⟨g, o, none⟩) n cap, .int .i64 a, .int .i64 b] w fun e w' =>
  e = .returned (.tuple #[]) /\ ∃ d', At w g o c n w' d' /\ PermIn a b d d' := by
 have HA := Lib.hid (At.start hu hn)
 clear hu hn
 go_enter Tryz.func210, Tryz.ntmps210
 go_wp2
 go_loopw [6, 7] (fun vi vj wr => ∃ (i : Nat) (j : Int) (dk : Array Int), vi = .int .i64 i /\ vj = .int .i64 j /\ a <= i /\ j < b /\ -1 <= j /\ i <= n + 1 /\ At w g o c n wr dk /\ Hid (PermIn a b d dk)) (fun vi vj _ => ((intOf vj) - (intOf vi)).toNat)
 case atStart => exact ⟨a, (b : Int) - 1, d, rfl, rfl, Nat.le_refl _, by omega, by omega, by omega, HA.out, Lib.hid (permIn_refl _ _ _)⟩
 case round =>
  obtain ⟨i, j, dk, rfl, rfl, hai, hjb, hj1, hin, K, HP⟩ := hrel
  by_cases hij : (i : Int) < j
  ·obtain ⟨m, rfl⟩ : ∃ m : Nat, j = m := ⟨j.toNat, by omega⟩
   have hm : m < n := by omega
   have hi : i < n := by omega
   obtain ⟨G, HG, hc, hf⟩ := K.fam
   obtain ⟨v', hy'⟩ := K.still (j := m) hm ⟨g, o + i, none⟩ (.int .u32 (G m))
   have HK := Lib.hid K
   clear K
   go_wp2_with (fail)
   go_region
   all_goals go_wp2
   go_roundw
   case rel => exact ⟨i + 1, (m : Int) - 1, Sort.swp dk i m, by go_num, rfl, by omega, by omega, by omega, by omega, (HK.out.swp hi hm (by rw [HG.out]) (by rw [HG.out])).drew,
    Lib.hid (permIn_trans _ _ _ _ _ HP.out (swp_permIn dk a b i m hai (by omega) (by omega) (by omega) (by have := HK.out.size; omega)))⟩
   case measure => simp [intOf]; omega
  ·go_wp2
   go_end0
   exact ⟨rfl, dk, K, HP.out⟩
end Go.Proofs.YtofkcmihcgmmpaaGreatDoor
