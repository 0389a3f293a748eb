/-
  Texts that the claim's last one imports, laid together: part 1 of 16. No condition of its own.
-/
import Derived.Below
import Derived.Laws.OwnMore
import Derived.Deep.AppendLies
import Derived.Deep.Draws
import Derived.Deep.OwnRows
import Derived.Lib.Hide
import Derived.OwnWalk
import Derived.Deep.QuietTactic
import Derived.Laws.MakeOwn
import Derived.Laws.Entries
import Derived.Test.YtofkcmihcgmmpaaGreatDoorChecked
import Derived.ProofKit
import Derived.OpenShut
import Derived.ChangeOld
import Derived.WalkKit
import Derived.Deep.Slices
import Derived.Deep.Fields
import Derived.ChangeSame
import Derived.Lib.SmallJoins
import Derived.KernelRfl
import Derived.WalkSpells
import Derived.WalkLawsBesides
import Derived.BigQuiet
import Derived.Maps.AppendAt
import Derived.StillTailTactics
import Derived.Deep.Quiet
import Derived.Laws.BitsAllLaws
import Derived.Shelf.Spec.TrailingZeros
import Derived.Laws.Bits64b
import Derived.Test.YtofkcmihcgmmpaaGreatDoorRows
import Derived.Stop.LaidErr
import Derived.Lib.LaidTab
import Derived.MakeChecks
import Derived.Deep.SlicePairs
import Derived.Laws.Bits64
import Derived.RegionTactic
import Derived.Deep.RegionLaw
import Derived.Deep.RegionHeld3
namespace Go.Proofs.YtofkcmihcgmmpaaGreatDoor
set_option maxRecDepth 100000
open Go.RowKit
theorem zX {B : Nat} {a w : World} (h : Below B a w) (n : Nat) : Below B a (w.drewN n) := ⟨h.os, h.tape, h.output, h.size, h.block⟩
theorem ze (w : World) (o : Obj) : Below w.heap.size w (w.alloc o) := (Below.refl _ _).alloc (Nat.le_refl _) _
theorem za0 (w : World) (o p : Obj) : Below w.heap.size w ((w.alloc o).alloc p) := (ze w o).alloc (by simp) _
theorem zpq (w : World) (o p q : Obj) : Below w.heap.size w (((w.alloc o).alloc p).alloc q) := (za0 w o p).alloc (by simp; omega) _
theorem zf {w w1 w2 : World} (h : Below w.heap.size w w1) (k : Below w1.heap.size w1 w2) : Below w.heap.size w w2 := h.trans (k.mono h.size)
theorem zi {a b : Bool} (h : a = b) : Ending.returned (.bool a) = .returned (.bool b) := by rw [h]
theorem zT {k : IntKind} {a b : Int} (h : a = b) : Ending.returned (.int k a) = .returned (.int k b) := by rw [h]
def zv (w : World) (B : Nat) (v : Value) (xs : List Int) : Prop :=
 ∃ A c, v = .slice A xs.length c /\ xs.length <= c /\ (0 < xs.length -> ∃ b o, A = some ⟨b, o, none⟩ /\ b < B /\ ∀ k (h : k < xs.length), w.cell? ⟨b, o + k, none⟩ = some (.int .i64 xs[k]))
theorem zv.below {w w' : World} {B B' : Nat} {v : Value} {xs : List Int} (h : zv w B v xs) (hb : Below B' w w') (hB : B <= B') : zv w' B v xs := by
 obtain ⟨A, c, rfl, hc, h⟩ := h
 refine ⟨A, c, rfl, hc, fun hn => ?_⟩
 obtain ⟨b, o, rfl, hlt, hk⟩ := h hn
 exact ⟨b, o, rfl, hlt, fun k hkl => (hb.cell (p := ⟨b, o + k, none⟩) (by show b < B'; omega)).trans (hk k hkl)⟩
theorem zv.more {w : World} {B B' : Nat} {v : Value} {xs : List Int} (h : zv w B v xs) (hB : B <= B') : zv w B' v xs := by
 obtain ⟨A, c, rfl, hc, h⟩ := h
 refine ⟨A, c, rfl, hc, fun hn => ?_⟩
 obtain ⟨b, o, rfl, hlt, hk⟩ := h hn
 exact ⟨b, o, rfl, by omega, hk⟩
def zg (w : World) (lo hi : Nat) (v : Value) (xs : List Int) : Prop :=
 w.ownsRow lo 3 1 v xs.length (xs.map (Value.int .i64)) /\ ∀ g, v.ownBlock = some g -> g < hi
theorem zg.rd {w : World} {lo hi : Nat} {v : Value} {xs : List Int} (h : zg w lo hi v xs) : zv w hi v xs := by
 obtain ⟨h, hlt⟩ := h
 have hcells := @World.ownsRow.cells w lo 3 1 v xs.length (xs.map (Value.int .i64)) h
 obtain ⟨hlen, h⟩ := h
 rcases h with ⟨rfl, h0⟩ | ⟨g, cap, cur, rfl, hb, hg, hn, hm, hs, ht⟩
 ·have : xs = [] := List.eq_nil_of_length_eq_zero h0
  subst this
  exact ⟨none, 0, rfl, by simp, fun h => absurd h (by simp)⟩
 ·refine ⟨_, cap, rfl, hn, fun _ => ⟨g, 0, rfl, hlt g rfl, fun k hk => ?_⟩⟩
  have := hcells (g := g) rfl k (.int .i64 xs[k]) (by simp [hk])
  have e : (⟨g, 0, none⟩ : Addr).add k = ⟨g, 0 + k, none⟩ := by unfold Addr.add; split <;> simp_all
  rw [<- e]
  exact this
theorem zg.below {w w' : World} {lo hi B : Nat} {v : Value} {xs : List Int} (h : zg w lo hi v xs) (hb : Below B w w') (hB : hi <= B) : zg w' lo hi v xs := by
 obtain ⟨⟨hlen, h⟩, hlt⟩ := h
 refine ⟨⟨hlen, ?_⟩, hlt⟩
 rcases h with h | ⟨g, cap, cur, rfl, hbg, hg, r⟩
 ·exact .inl h
 ·exact .inr ⟨g, cap, cur, rfl, hbg, by rw [hb.block g (by have := hlt g rfl; omega)]; exact hg, r⟩
theorem zg.mono {w : World} {lo hi lo' hi' : Nat} {v : Value} {xs : List Int} (h : zg w lo hi v xs) (h1 : lo' <= lo) (h2 : hi <= hi') : zg w lo' hi' v xs := by
 obtain ⟨⟨hlen, h⟩, hlt⟩ := h
 refine ⟨⟨hlen, ?_⟩, fun g hg => by have := hlt g hg; omega⟩
 rcases h with h | ⟨g, cap, cur, rfl, hbg, r⟩
 ·exact .inl h
 ·exact .inr ⟨g, cap, cur, rfl, by omega, r⟩
theorem zg.set {w : World} {lo hi : Nat} {v : Value} {xs : List Int} (h : zg w lo hi v xs) {p : Addr} (hp : p.block < lo \/ hi <= p.block) (u : Value) : zg (w.setCell p u) lo hi v xs := by
 obtain ⟨⟨hlen, h⟩, hlt⟩ := h
 refine ⟨⟨hlen, ?_⟩, hlt⟩
 rcases h with h | ⟨g, cap, cur, rfl, hbg, hg, r⟩
 ·exact .inl h
 ·exact .inr ⟨g, cap, cur, rfl, hbg, by rw [Below.heap_setCell _ _ _ _ (by have := hlt g rfl; omega)]; exact hg, r⟩
theorem zg.of_rowIs {w : World} {g lo hi : Nat} {xs : List Int} (h : w.rowIs g 3 xs.length (fun j => .int .i64 (xs.getD j 0))) (hlo : lo <= g) (hhi : g < hi) (hm : xs.length <= maxLen) :
 zg w lo hi (.slice (some ⟨g, 0, none⟩) xs.length xs.length) xs := by
 obtain ⟨c, hb, hn, hc⟩ := h
 refine ⟨⟨by simp, .inr ⟨g, xs.length, c, rfl, hlo, hb, Nat.le_refl _, hm, by simp [hn], ?_⟩⟩, fun g' hg' => ?_⟩
 ·apply List.ext_getElem?
  intro j
  by_cases hj : j < xs.length
  ·rw [List.getElem?_take_of_lt (by omega), Array.getElem?_toList, hc j hj]
   simp [hj]
  ·rw [List.getElem?_eq_none (by simp; omega), List.getElem?_eq_none (by simp; omega)]
 ·simp [Value.ownBlock] at hg'
  omega
def Blk (w : World) (g : Nat) (t : TypeId) (cs : Array Value) : Prop := w.heap[g]? = some (.cells cs t (0, 0))
section
variable {w w' : World} {g : Nat} {t : TypeId} {cs : Array Value}
theorem Blk.lt (h : Blk w g t cs) : g < w.heap.size := by
 rcases Nat.lt_or_ge g w.heap.size with hlt | hge
 ·exact hlt
 ·unfold Blk at h; rw [Array.getElem?_eq_none hge] at h; cases h
theorem Blk.cell (h : Blk w g t cs) (i : Nat) : w.cell? ⟨g, i, none⟩ = cs[i]? := cell_of_row w g i cs t (0, 0) h
theorem Blk.frozen (h : Blk w g t cs) (i : Nat) : w.frozen? ⟨g, i, none⟩ = false := by
 unfold Blk at h
 simp [World.frozen?, h]
theorem Blk.new (w : World) (t : TypeId) (cs : Array Value) : Blk (w.alloc (.cells cs t)) w.heap.size t cs := heap_alloc_new w _
theorem Blk.alloc (h : Blk w g t cs) (o : Obj) : Blk (w.alloc o) g t cs := (Below.heap_alloc w o g h.lt).trans h
theorem Blk.drewN (h : Blk w g t cs) (n : Nat) : Blk (w.drewN n) g t cs := h
theorem Blk.set_ (h : Blk w g t cs) (i : Nat) (u : Value) : Blk (w.setCell ⟨g, i, none⟩ u) g t (cs.setIfInBounds i u) := by
 unfold Blk at h ⊢
 simp [World.setCell, Array.getElem?_modify, h]
theorem Blk.far (h : Blk w g t cs) {p : Addr} (hp : g ≠ p.block) (u : Value) : Blk (w.setCell p u) g t cs := (Below.heap_setCell w p u g hp).trans h
theorem Blk.below {B : Nat} (h : Blk w g t cs) (hb : Below B w w') (hg : g < B) : Blk w' g t cs := (hb.block g hg).trans h
end
theorem zby {P : Program} (t e : TypeId) (i : TypeInfo) (z : Value) (ht : P.underlying t = some (.slice e)) (hi : P.info? e = some i) (hz : i.zero = some z)
 (kl kc : IntKind) (n c : Nat) (hnc : n <= c) (hbytes : i.bytes * c <= 281474976710656) (h63 : c <= 9223372036854775807) (w : World) :
 (Instr.makeSlice t (.int kl (n : Int)) (.int kc (c : Int))).run P w = .ok (.slice (some ⟨w.heap.size, 0, none⟩) n c) (w.alloc (.cells (madeCells z.cells (c * i.size)) e)) := by
 have hb : (i.bytes : Int) * (c : Int) <= 281474976710656 := by
  have h : ((i.bytes * c : Nat) : Int) <= 281474976710656 := by omega
  rwa [Int.natCast_mul] at h
 have hr := run_make (P := P) w t e i z ht hi hz kl kc n c (by omega) (by omega) hb (by omega)
 simp only [Int.toNat_natCast] at hr
 exact hr
theorem zaH {P : Program} {f : FuncId} {args : Array Value} {w : World} {n : Nat} {v : Value}
 (h : Calls P f args (w.drewN n) fun e w' => e = .returned v /\ w.drewN n = w') : Calls P f args (w.drewN n) fun e w'' => e = .returned v /\ ∃ m, w'' = w.drewN m :=
 h.mono fun _ _ ⟨he, hm⟩ => ⟨he, n, hm.symm⟩
theorem zfq {P : Program} {f : FuncId} {args : Array Value} {w : World} {a n : Nat} {v : Value}
 (h : Calls P f args (w.drewN (a + n)) fun e w' => e = .returned v /\ w.drewN (a + n) = w') :
 Calls P f args (w.drewN (a + n)) fun e w'' => e = .returned v /\ ∃ m, w'' = w.drewN (a + m) :=
 h.mono fun _ _ ⟨he, hm⟩ => ⟨he, n, hm.symm⟩
theorem zhK (w : World) (a b : Int) : zv (w.alloc (.cells #[.int .i64 a, .int .i64 b] 3)) (w.alloc (.cells #[.int .i64 a, .int .i64 b] 3)).heap.size (.slice (some ⟨w.heap.size, 0, none⟩) 2 2) [a, b] := by
 have hb := Blk.new w 3 #[.int .i64 a, .int .i64 b]
 refine ⟨_, 2, rfl, by simp, fun _ => ⟨w.heap.size, 0, rfl, by simp, fun k hk => ?_⟩⟩
 match k, hk with
 | 0, _ => exact hb.cell 0
 | 1, _ => exact hb.cell 1
open Go.RowKit
abbrev zd := Int × List Int
def zU (w : World) (B : Nat) (v : Value) (f : zd) : Prop := ∃ a, v = .agg #[.int .i64 f.1, a] /\ zv w B a f.2
theorem zU.below {w w' : World} {B B' : Nat} {v : Value} {f : zd} (h : zU w B v f) (hb : Below B' w w') (hB : B <= B') : zU w' B v f := by
 obtain ⟨a, rfl, h⟩ := h
 exact ⟨a, rfl, h.below hb hB⟩
theorem zU.more {w : World} {B B' : Nat} {v : Value} {f : zd} (h : zU w B v f) (hB : B <= B') : zU w B' v f := by
 obtain ⟨a, rfl, h⟩ := h
 exact ⟨a, rfl, h.more hB⟩
theorem zv.on {w w' : World} {v : Value} {xs : List Int} (h : zv w w.heap.size v xs) (hb : Below w.heap.size w w') : zv w' w'.heap.size v xs := (h.below hb (Nat.le_refl _)).more hb.size
theorem zU.on {w w' : World} {v : Value} {f : zd} (h : zU w w.heap.size v f) (hb : Below w.heap.size w w') : zU w' w'.heap.size v f := (h.below hb (Nat.le_refl _)).more hb.size
theorem zH {α : Type} (l : List α) (k : Nat) (h : k < l.length) : l.take (k + 1) = l.take k ++ [l[k]] := by
 rw [List.take_succ_eq_append_getElem h]
theorem zy {w w' : World} {o : Obj} {row : Option Nat} (hg : (w.alloc o).grownBy w' row) : w.grownBy w' row :=
 (World.grownBy_alloc w o row).trans hg
structure zl (lo hi : Nat) (w w' : World) : Prop where
 os : w'.os = w.os
 tape : w'.tape = w.tape
 output : w'.output = w.output
 size : w.heap.size <= w'.heap.size
 block : ∀ k, k < w.heap.size -> (k < lo \/ hi <= k) -> w'.heap[k]? = w.heap[k]?
section
variable {lo hi lo' hi' : Nat} {w w1 w' : World}
theorem zl.refl (lo hi : Nat) (w : World) : zl lo hi w w := ⟨rfl, rfl, rfl, Nat.le_refl _, fun _ _ _ => rfl⟩
theorem zl.trans (h : zl lo hi w w1) (k : zl lo hi w1 w') : zl lo hi w w' :=
 ⟨k.os.trans h.os, k.tape.trans h.tape, k.output.trans h.output, Nat.le_trans h.size k.size, fun i hi' ho => (k.block i (Nat.lt_of_lt_of_le hi' h.size) ho).trans (h.block i hi' ho)⟩
theorem zl.of_below (h : Below w.heap.size w w') : zl lo hi w w' := ⟨h.os, h.tape, h.output, h.size, fun k hk _ => h.block k hk⟩
theorem zl.setCell (h : zl lo hi w w1) {p : Addr} (hp : lo <= p.block /\ p.block < hi) (u : Value) : zl lo hi w (w1.setCell p u) :=
 h.trans ⟨rfl, rfl, rfl, by simp [World.setCell], fun k _ ho => Below.heap_setCell _ _ _ _ (by omega)⟩
theorem zl.below (h : zl lo hi w w') {B : Nat} (hB : B <= lo) (hs : B <= w.heap.size) : Below B w w' := ⟨h.os, h.tape, h.output, h.size, fun k hk => h.block k (by omega) (.inl (by omega))⟩
theorem zl.then_ {w0 : World} (hb : Below w0.heap.size w0 w) (h : zl lo hi w w') (hl : w0.heap.size <= lo) : Below w0.heap.size w0 w' := hb.trans (h.below hl hb.size)
theorem zg.form {v : Value} {xs : List Int} (h : zg w lo hi v xs) : ∃ A c, v = .slice A xs.length c := by
 rcases h.1.2 with ⟨rfl, h0⟩ | ⟨g, cap, _, rfl, _⟩
 ·exact ⟨none, 0, by rw [h0]⟩
 ·exact ⟨_, _, rfl⟩
theorem zg.lt {v : Value} {xs : List Int} (h : zg w lo hi v xs) {g : Nat} (hg : v.ownBlock = some g) : lo <= g /\ g < hi /\ g < w.heap.size := ⟨(h.1.lt g hg).1, h.2 g hg, (h.1.lt g hg).2⟩
theorem zw {e : TypeId} {size n : Nat} {v : Value} {xs : List Value} (h : w.ownsRow lo e size v n xs) (hb : ∀ g, v.ownBlock = some g -> w'.heap[g]? = w.heap[g]?) : w'.ownsRow lo e size v n xs := by
 obtain ⟨hlen, h⟩ := h
 refine ⟨hlen, ?_⟩
 rcases h with h | ⟨g, cap, cur, rfl, hbg, hg, r⟩
 ·exact .inl h
 ·exact .inr ⟨g, cap, cur, rfl, hbg, by rw [hb g rfl]; exact hg, r⟩
theorem zg.kept {v : Value} {xs : List Int} (h : zg w lo hi v xs) (hb : ∀ g, v.ownBlock = some g -> w'.heap[g]? = w.heap[g]?) : zg w' lo hi v xs := ⟨zw h.1 hb, h.2⟩
theorem zg.only {v : Value} {xs : List Int} (h : zg w lo hi v xs) (ho : zl lo' hi' w w') (hd : hi <= lo' \/ hi' <= lo) : zg w' lo hi v xs :=
 h.kept fun g hg => ho.block g (h.lt hg).2.2 (by have := h.lt hg; omega)
theorem zg.store {A : Option Addr} {c g : Nat} {xs : List Int} (h : zg w lo hi (.slice A xs.length c) xs) (hA : A = some ⟨g, 0, none⟩) {j : Nat} (_hj : j < xs.length) (u : Int) :
 zg (w.setCell ⟨g, j, none⟩ (.int .i64 u)) lo hi (.slice A xs.length c) (xs.set j u) := by
 subst hA
 obtain ⟨⟨hlen, h⟩, hlt⟩ := h
 refine ⟨⟨by simp, .inr ?_⟩, hlt⟩
 rcases h with ⟨e, _⟩ | ⟨g', cap, cur, e, hbg, hg, hn, hm, hs, ht⟩
 ·cases e
 ·injection e with e1 e2 e3
  injection e1 with e1
  injection e1 with e1 _ _
  subst e1
  subst e3
  refine ⟨g, c, cur.setIfInBounds j (.int .i64 u), by simp, hbg, ?_, by simpa using hn, hm, by simpa using hs, ?_⟩
  ·simp [World.setCell, Array.getElem?_modify, hg]
  ·simp only [Nat.mul_one, List.length_set, Array.toList_setIfInBounds] at ht ⊢
   rw [List.take_set, ht, List.map_set]
theorem Blk.only {lo hi : Nat} {w w' : World} {g : Nat} {t : TypeId} {cs : Array Value} (h : Blk w g t cs) (ho : zl lo hi w w') (hg : g < lo \/ hi <= g) : Blk w' g t cs := (ho.block g h.lt hg).trans h
end
open Go.ChangeShapes Go.WideShapes Go.ChangeAt Go.RowKit Go.Joins Go.Deep
theorem Tryz.own : ownKnob Tryz.prog.godebug = none := by kernel_rfl
theorem Tryz.laidOut : laidOutB Tryz.prog = true := by kernel_rfl
section
variable {H : Type} {enc : TypeId × Value -> H} {W : World}
end
open Go.ChangeShapes Go.WideShapes Go.ChangeAt Go.RowKit Go.Joins Go.Deep
section
variable {H : Type} {enc : TypeId × Value -> H} {W : World}
end
open Go.RowKit
theorem Tryz.infoInt : (Tryz.prog.info? 3).map (fun i => (i.zero, i.size, i.bytes)) = some (some (.int .i64 0), 1, 8) := by kernel_rfl
open Go.RowKit
open Go.RowKit
open Go.RowKit
abbrev zC := Int × zd
abbrev zJ := zd × List zC
section
variable {α : Type}
def zdY (Q : World -> Nat -> Value -> Value -> Value -> α -> Prop) (w : World) (B : Nat) (v : Value) (xs : List α) : Prop :=
 ∃ A c, v = .slice A xs.length c /\ xs.length <= c /\ (0 < xs.length -> ∃ b o, A = some ⟨b, o, none⟩ /\ b < B /\ ∀ k (h : k < xs.length), ∃ u0 u1 u2,
  w.cell? ⟨b, o + k * 3, none⟩ = some u0 /\ w.cell? ⟨b, o + k * 3 + 1, none⟩ = some u1 /\ w.cell? ⟨b, o + k * 3 + 2, none⟩ = some u2 /\ Q w B u0 u1 u2 xs[k])
variable {Q : World -> Nat -> Value -> Value -> Value -> α -> Prop}
theorem zdY.below {w w' : World} {B B' : Nat} {v : Value} {xs : List α} (hQ : ∀ u0 u1 u2 x, Q w B u0 u1 u2 x -> Q w' B u0 u1 u2 x) (h : zdY Q w B v xs) (hb : Below B' w w') (hB : B <= B') : zdY Q w' B v xs := by
 obtain ⟨A, c, rfl, hc, h⟩ := h
 refine ⟨A, c, rfl, hc, fun hn => ?_⟩
 obtain ⟨b, o, rfl, hlt, hk⟩ := h hn
 refine ⟨b, o, rfl, hlt, fun k hkl => ?_⟩
 obtain ⟨u0, u1, u2, h0, h1, h2, h3⟩ := hk k hkl
 exact ⟨u0, u1, u2, (hb.cell (p := ⟨b, o + k * 3, none⟩) (by show b < B'; omega)).trans h0, (hb.cell (p := ⟨b, o + k * 3 + 1, none⟩) (by show b < B'; omega)).trans h1,
  (hb.cell (p := ⟨b, o + k * 3 + 2, none⟩) (by show b < B'; omega)).trans h2, hQ _ _ _ _ h3⟩
theorem zdY.more {w : World} {B B' : Nat} {v : Value} {xs : List α} (hQ : ∀ u0 u1 u2 x, Q w B u0 u1 u2 x -> Q w B' u0 u1 u2 x) (h : zdY Q w B v xs) (hB : B <= B') : zdY Q w B' v xs := by
 obtain ⟨A, c, rfl, hc, h⟩ := h
 refine ⟨A, c, rfl, hc, fun hn => ?_⟩
 obtain ⟨b, o, rfl, hlt, hk⟩ := h hn
 refine ⟨b, o, rfl, by omega, fun k hkl => ?_⟩
 obtain ⟨u0, u1, u2, h0, h1, h2, h3⟩ := hk k hkl
 exact ⟨u0, u1, u2, h0, h1, h2, hQ _ _ _ _ h3⟩
theorem zdY.get {w : World} {B c : Nat} {A : Option Addr} {xs : List α} (h : zdY Q w B (.slice A xs.length c) xs) {k : Nat} (hk : k < xs.length) : ∃ b o u0 u1 u2, A = some ⟨b, o, none⟩ /\ b < B /\
 w.cell? ⟨b, o + k * 3, none⟩ = some u0 /\ w.cell? ⟨b, o + k * 3 + 1, none⟩ = some u1 /\ w.cell? ⟨b, o + k * 3 + 2, none⟩ = some u2 /\ Q w B u0 u1 u2 xs[k] := by
 obtain ⟨A', c', e, hc, h⟩ := h
 injection e with e1 e2 e3
 subst e1
 obtain ⟨b, o, rfl, hb, hx⟩ := h (by omega)
 obtain ⟨u0, u1, u2, h0, h1, h2, h3⟩ := hx k hk
 exact ⟨b, o, u0, u1, u2, rfl, hb, h0, h1, h2, h3⟩
def zbE (Q : World -> Nat -> Nat -> Value -> Value -> Value -> α -> Prop) (w : World) (lo hi : Nat) (v : Value) (xs : List α) : Prop :=
 ∃ A c, v = .slice A xs.length c /\ xs.length <= c /\ (0 < xs.length -> ∃ b o, A = some ⟨b, o, none⟩ /\ lo <= b /\ b < hi /\ ∀ k (h : k < xs.length),
  (w.frozen? ⟨b, o + k * 3, none⟩ = false /\ w.frozen? ⟨b, o + k * 3 + 1, none⟩ = false) /\ ∃ u0 u1 u2,
  w.cell? ⟨b, o + k * 3, none⟩ = some u0 /\ w.cell? ⟨b, o + k * 3 + 1, none⟩ = some u1 /\ w.cell? ⟨b, o + k * 3 + 2, none⟩ = some u2 /\ Q w lo hi u0 u1 u2 xs[k])
variable {O : World -> Nat -> Nat -> Value -> Value -> Value -> α -> Prop}
theorem zbE.keep {w w' : World} {lo hi : Nat} {v : Value} {xs : List α} (hQ : ∀ u0 u1 u2 x, O w lo hi u0 u1 u2 x -> O w' lo hi u0 u1 u2 x) (h : zbE O w lo hi v xs) (hk : ∀ g, lo <= g -> g < hi -> w'.heap[g]? = w.heap[g]?) : zbE O w' lo hi v xs := by
 obtain ⟨A, c, rfl, hc, h⟩ := h
 refine ⟨A, c, rfl, hc, fun hn => ?_⟩
 obtain ⟨b, o, rfl, h1, h2, hx⟩ := h hn
 refine ⟨b, o, rfl, h1, h2, fun k hkl => ?_⟩
 obtain ⟨⟨f0, f1⟩, u0, u1, u2, c0, c1, c2, hq⟩ := hx k hkl
 have hb := hk b h1 h2
 exact ⟨⟨(World.frozen?_of_block (w := w) hb).trans f0, (World.frozen?_of_block (w := w) hb).trans f1⟩, u0, u1, u2, (World.cell?_of_block (w := w) hb).trans c0, (World.cell?_of_block (w := w) hb).trans c1, (World.cell?_of_block (w := w) hb).trans c2, hQ _ _ _ _ hq⟩
theorem zbE.mono {w : World} {lo hi lo' hi' : Nat} {v : Value} {xs : List α} (hQ : ∀ u0 u1 u2 x, O w lo hi u0 u1 u2 x -> O w lo' hi' u0 u1 u2 x) (h : zbE O w lo hi v xs) (h1 : lo' <= lo) (h2 : hi <= hi') : zbE O w lo' hi' v xs := by
 obtain ⟨A, c, rfl, hc, h⟩ := h
 refine ⟨A, c, rfl, hc, fun hn => ?_⟩
 obtain ⟨b, o, rfl, h3, h4, hx⟩ := h hn
 refine ⟨b, o, rfl, by omega, by omega, fun k hkl => ?_⟩
 obtain ⟨f, u0, u1, u2, c0, c1, c2, hq⟩ := hx k hkl
 exact ⟨f, u0, u1, u2, c0, c1, c2, hQ _ _ _ _ hq⟩
theorem zbE.rd {w : World} {lo hi : Nat} {v : Value} {xs : List α} (hQ : ∀ u0 u1 u2 x, O w lo hi u0 u1 u2 x -> Q w hi u0 u1 u2 x) (h : zbE O w lo hi v xs) : zdY Q w hi v xs := by
 obtain ⟨A, c, rfl, hc, h⟩ := h
 refine ⟨A, c, rfl, hc, fun hn => ?_⟩
 obtain ⟨b, o, rfl, h3, h4, hx⟩ := h hn
 refine ⟨b, o, rfl, h4, fun k hkl => ?_⟩
 obtain ⟨f, u0, u1, u2, c0, c1, c2, hq⟩ := hx k hkl
 exact ⟨u0, u1, u2, c0, c1, c2, hQ _ _ _ _ hq⟩
theorem zbE.form {w : World} {lo hi : Nat} {v : Value} {xs : List α} (h : zbE O w lo hi v xs) : ∃ A c, v = .slice A xs.length c := by
 obtain ⟨A, c, rfl, _⟩ := h
 exact ⟨A, c, rfl⟩
variable {t : TypeId} {z0 z1 z2 : Value}
end
theorem zg.keep {w w' : World} {lo hi : Nat} {v : Value} {xs : List Int} (h : zg w lo hi v xs) (hk : ∀ g, lo <= g -> g < hi -> w'.heap[g]? = w.heap[g]?) : zg w' lo hi v xs := by
 have hlo := fun g hg => (h.1.lt g hg).1
 obtain ⟨⟨hlen, h⟩, hlt⟩ := h
 refine ⟨⟨hlen, ?_⟩, hlt⟩
 rcases h with h | ⟨g, cap, cur, rfl, hbg, hg, r⟩
 ·exact .inl h
 ·exact .inr ⟨g, cap, cur, rfl, hbg, by rw [hk g hbg (hlt g rfl)]; exact hg, r⟩
def zmJ (w : World) (B : Nat) (u0 u1 u2 : Value) (l : zC) : Prop := u0 = .int .i64 l.1 /\ u1 = .int .i64 l.2.1 /\ zv w B u2 l.2.2
def za6 (w : World) (B : Nat) (v : Value) (ls : List zC) : Prop := zdY zmJ w B v ls
def zf2 (w : World) (B : Nat) (v : Value) (l : zC) : Prop := ∃ a, v = .agg #[.int .i64 l.1, .int .i64 l.2.1, a] /\ zv w B a l.2.2
def zmK (w : World) (lo hi : Nat) (u0 u1 u2 : Value) (l : zC) : Prop := u0 = .int .i64 l.1 /\ u1 = .int .i64 l.2.1 /\ zg w lo hi u2 l.2.2
def zW (w : World) (lo hi : Nat) (v : Value) (ls : List zC) : Prop := zbE zmK w lo hi v ls
theorem zmJ.below {w w' : World} {B B' : Nat} {u0 u1 u2 : Value} {l : zC} (h : zmJ w B u0 u1 u2 l) (hb : Below B' w w') (hB : B <= B') : zmJ w' B u0 u1 u2 l := ⟨h.1, h.2.1, h.2.2.below hb hB⟩
theorem zmJ.more {w : World} {B B' : Nat} {u0 u1 u2 : Value} {l : zC} (h : zmJ w B u0 u1 u2 l) (hB : B <= B') : zmJ w B' u0 u1 u2 l := ⟨h.1, h.2.1, h.2.2.more hB⟩
theorem za6.below {w w' : World} {B B' : Nat} {v : Value} {ls : List zC} (h : za6 w B v ls) (hb : Below B' w w') (hB : B <= B') : za6 w' B v ls := zdY.below (fun _ _ _ _ q => q.below hb hB) h hb hB
theorem za6.more {w : World} {B B' : Nat} {v : Value} {ls : List zC} (h : za6 w B v ls) (hB : B <= B') : za6 w B' v ls := zdY.more (fun _ _ _ _ q => q.more hB) h hB
theorem za6.on {w w' : World} {v : Value} {ls : List zC} (h : za6 w w.heap.size v ls) (hb : Below w.heap.size w w') : za6 w' w'.heap.size v ls := (h.below hb (Nat.le_refl _)).more hb.size
theorem zf2.on {w w' : World} {v : Value} {l : zC} (h : zf2 w w.heap.size v l) (hb : Below w.heap.size w w') : zf2 w' w'.heap.size v l := by
 obtain ⟨a, rfl, h⟩ := h
 exact ⟨a, rfl, h.on hb⟩
theorem zmK.keep {w w' : World} {lo hi : Nat} {u0 u1 u2 : Value} {l : zC} (h : zmK w lo hi u0 u1 u2 l) (hk : ∀ g, lo <= g -> g < hi -> w'.heap[g]? = w.heap[g]?) : zmK w' lo hi u0 u1 u2 l := ⟨h.1, h.2.1, h.2.2.keep hk⟩
theorem zmK.mono {w : World} {lo hi lo' hi' : Nat} {u0 u1 u2 : Value} {l : zC} (h : zmK w lo hi u0 u1 u2 l) (h1 : lo' <= lo) (h2 : hi <= hi') : zmK w lo' hi' u0 u1 u2 l := ⟨h.1, h.2.1, h.2.2.mono h1 h2⟩
theorem zW.keep {w w' : World} {lo hi : Nat} {v : Value} {ls : List zC} (h : zW w lo hi v ls) (hk : ∀ g, lo <= g -> g < hi -> w'.heap[g]? = w.heap[g]?) : zW w' lo hi v ls := zbE.keep (fun _ _ _ _ q => q.keep hk) h hk
theorem zW.mono {w : World} {lo hi lo' hi' : Nat} {v : Value} {ls : List zC} (h : zW w lo hi v ls) (h1 : lo' <= lo) (h2 : hi <= hi') : zW w lo' hi' v ls := zbE.mono (fun _ _ _ _ q => q.mono h1 h2) h h1 h2
theorem zW.rd {w : World} {lo hi : Nat} {v : Value} {ls : List zC} (h : zW w lo hi v ls) : za6 w hi v ls := zbE.rd (fun _ _ _ _ q => ⟨q.1, q.2.1, q.2.2.rd⟩) h
theorem zW.below {w w' : World} {lo hi B : Nat} {v : Value} {ls : List zC} (h : zW w lo hi v ls) (hb : Below B w w') (hB : hi <= B) : zW w' lo hi v ls := h.keep fun g _ h2 => hb.block g (by omega)
theorem zW.only {w w' : World} {lo hi lo' hi' : Nat} {v : Value} {ls : List zC} (h : zW w lo hi v ls) (ho : zl lo' hi' w w') (hd : hi <= lo' \/ hi' <= lo) (hh : hi <= w.heap.size) : zW w' lo hi v ls :=
 h.keep fun g h1 h2 => ho.block g (by omega) (by omega)
def zjd (w : World) (B : Nat) (u0 u1 u2 : Value) (r : zJ) : Prop := u0 = .int .i64 r.1.1 /\ zv w B u1 r.1.2 /\ za6 w B u2 r.2
def zbp (w : World) (B : Nat) (v : Value) (rs : List zJ) : Prop := zdY zjd w B v rs
def zdX (w : World) (B : Nat) (v : Value) (r : zJ) : Prop := ∃ a b, v = .agg #[.int .i64 r.1.1, a, b] /\ zv w B a r.1.2 /\ za6 w B b r.2
def zje (w : World) (lo hi : Nat) (u0 u1 u2 : Value) (r : zJ) : Prop := u0 = .int .i64 r.1.1 /\ zg w lo hi u1 r.1.2 /\ zW w lo hi u2 r.2
def zaY (w : World) (lo hi : Nat) (v : Value) (rs : List zJ) : Prop := zbE zje w lo hi v rs
theorem zjd.below {w w' : World} {B B' : Nat} {u0 u1 u2 : Value} {r : zJ} (h : zjd w B u0 u1 u2 r) (hb : Below B' w w') (hB : B <= B') : zjd w' B u0 u1 u2 r := ⟨h.1, h.2.1.below hb hB, h.2.2.below hb hB⟩
theorem zjd.more {w : World} {B B' : Nat} {u0 u1 u2 : Value} {r : zJ} (h : zjd w B u0 u1 u2 r) (hB : B <= B') : zjd w B' u0 u1 u2 r := ⟨h.1, h.2.1.more hB, h.2.2.more hB⟩
theorem zbp.below {w w' : World} {B B' : Nat} {v : Value} {rs : List zJ} (h : zbp w B v rs) (hb : Below B' w w') (hB : B <= B') : zbp w' B v rs := zdY.below (fun _ _ _ _ q => q.below hb hB) h hb hB
theorem zbp.more {w : World} {B B' : Nat} {v : Value} {rs : List zJ} (h : zbp w B v rs) (hB : B <= B') : zbp w B' v rs := zdY.more (fun _ _ _ _ q => q.more hB) h hB
theorem zbp.on {w w' : World} {v : Value} {rs : List zJ} (h : zbp w w.heap.size v rs) (hb : Below w.heap.size w w') : zbp w' w'.heap.size v rs := (h.below hb (Nat.le_refl _)).more hb.size
theorem zdX.on {w w' : World} {v : Value} {r : zJ} (h : zdX w w.heap.size v r) (hb : Below w.heap.size w w') : zdX w' w'.heap.size v r := by
 obtain ⟨a, b, rfl, h1, h2⟩ := h
 exact ⟨a, b, rfl, h1.on hb, h2.on hb⟩
theorem zje.keep {w w' : World} {lo hi : Nat} {u0 u1 u2 : Value} {r : zJ} (h : zje w lo hi u0 u1 u2 r) (hk : ∀ g, lo <= g -> g < hi -> w'.heap[g]? = w.heap[g]?) : zje w' lo hi u0 u1 u2 r := ⟨h.1, h.2.1.keep hk, h.2.2.keep hk⟩
theorem zje.mono {w : World} {lo hi lo' hi' : Nat} {u0 u1 u2 : Value} {r : zJ} (h : zje w lo hi u0 u1 u2 r) (h1 : lo' <= lo) (h2 : hi <= hi') : zje w lo' hi' u0 u1 u2 r := ⟨h.1, h.2.1.mono h1 h2, h.2.2.mono h1 h2⟩
theorem zaY.keep {w w' : World} {lo hi : Nat} {v : Value} {rs : List zJ} (h : zaY w lo hi v rs) (hk : ∀ g, lo <= g -> g < hi -> w'.heap[g]? = w.heap[g]?) : zaY w' lo hi v rs := zbE.keep (fun _ _ _ _ q => q.keep hk) h hk
theorem zaY.mono {w : World} {lo hi lo' hi' : Nat} {v : Value} {rs : List zJ} (h : zaY w lo hi v rs) (h1 : lo' <= lo) (h2 : hi <= hi') : zaY w lo' hi' v rs := zbE.mono (fun _ _ _ _ q => q.mono h1 h2) h h1 h2
theorem zaY.rd {w : World} {lo hi : Nat} {v : Value} {rs : List zJ} (h : zaY w lo hi v rs) : zbp w hi v rs := zbE.rd (fun _ _ _ _ q => ⟨q.1, q.2.1.rd, q.2.2.rd⟩) h
def zbB (ls : List zC) : Nat := (ls.map fun l => l.2.2.length).sum
def szR (r : zJ) : Nat := r.1.2.length + (r.2.length + zbB r.2)
def zgm (rs : List zJ) : Nat := (rs.map szR).sum
theorem zlT {α : Type} (f : α -> Nat) : ∀ (l : List α) (k : Nat) (h : k < l.length), f l[k] <= (l.map f).sum
 | [], _, h => absurd h (by simp)
 | x :: l, 0, _ => by simp
 | x :: l, k + 1, h => by
  have := zlT f l k (by simpa using h)
  simp only [List.map_cons, List.sum_cons, List.getElem_cons_succ] at this ⊢
  omega
theorem za3 (ls : List zC) (k : Nat) (h : k < ls.length) : ls[k].2.2.length <= zbB ls := zlT (fun l : zC => l.2.2.length) ls k h
theorem zbZ (rs : List zJ) (k : Nat) (h : k < rs.length) : szR rs[k] <= zgm rs := zlT szR rs k h
open Go.ChangeShapes Go.WideShapes Go.ChangeAt Go.RowKit Go.Joins Go.Deep
section
variable {H : Type} {enc : TypeId × Value -> H} {W : World}
end
open Go.ChangeShapes Go.WideShapes Go.ChangeAt Go.RowKit Go.Joins Go.Deep
section
variable {H : Type} {enc : TypeId × Value -> H} {W : World}
end
open Go.ChangeShapes Go.WideShapes Go.ChangeAt Go.RowKit Go.Joins Go.Deep
abbrev zal := List Int × List zJ
def zb7 (w : World) (B : Nat) (v : Value) (p : zal) : Prop := ∃ a b, v = .agg #[a, b] /\ zv w B a p.1 /\ zbp w B b p.2
theorem zb7.on {w w' : World} {v : Value} {p : zal} (h : zb7 w w.heap.size v p) (hb : Below w.heap.size w w') : zb7 w' w'.heap.size v p := by
 obtain ⟨a, b, rfl, h1, h2⟩ := h
 exact ⟨a, b, rfl, h1.on hb, h2.on hb⟩
section
variable {H : Type} {enc : TypeId × Value -> H} {W : World}
end
open Go.RowKit
structure zjh (w wr : World) (xs : List Int) (A : Option Addr) (c : Nat) : Prop where
 below : Below w.heap.size w wr
 own : zg wr w.heap.size wr.heap.size (.slice A xs.length c) xs
theorem zjh.nil {w wr : World} (hb : Below w.heap.size w wr) : zjh w wr [] none 0 := ⟨hb, World.ownsRow_nil _ _ _ _, fun g hg => by cases hg⟩
theorem zjh.empty {w wr : World} (hb : Below w.heap.size w wr) : zjh w (wr.alloc (.cells #[] 3)) [] (some ⟨wr.heap.size, 0, none⟩) 0 :=
 ⟨hb.alloc hb.size _, World.ownsRow_made wr #[] 0 hb.size (by decide) rfl, fun g hg => by simp [Value.ownBlock] at hg; subst hg; simp⟩
theorem zjh.push {w wr w2 w4 : World} {xs : List Int} {A : Option Addr} {c g cap : Nat} {x : Int} {o : Obj} (h : zjh w wr xs A c) (hb : Below wr.heap.size wr w2)
 (hg : (w2.alloc o).grownBy w4 (Value.slice A xs.length c).ownBlock) (hown : w4.ownsRow w.heap.size 3 1 (.slice (some ⟨g, 0, none⟩) (xs.length + 1) cap) (xs.length + 1) (xs.map (Value.int .i64) ++ [.int .i64 x])) :
 zjh w w4 (xs ++ [x]) (some ⟨g, 0, none⟩) cap := by
 have hl : (xs ++ [x]).length = xs.length + 1 := by simp
 refine ⟨((zf h.below hb).alloc (zf h.below hb).size _).grown hg (by have := (zf h.below hb).size; simp; omega) (fun k hk => (h.own.1.lt k hk).1), ?_⟩
 rw [hl]
 exact ⟨by simpa using hown, fun b hb' => (hown.lt b hb').2⟩
theorem zpv (w : World) (x : Value) (t : TypeId) : ∀ j u, [x][j]? = some u -> (w.alloc (.cells #[x] t)).cell? ((⟨w.heap.size, 0, none⟩ : Addr).add j) = some u := World.news_of_block (cs := #[x]) (heap_alloc_new w _)
theorem zeR (w : World) (x : Value) (t : TypeId) (n : Nat) (hn : w.heap.size = n) : ∀ j u, [x][j]? = some u -> (w.alloc (.cells #[x] t)).cell? ((⟨n, 0, none⟩ : Addr).add j) = some u := hn ▸ zpv w x t
open Go.RowKit
theorem Tryz.infoLit : (Tryz.prog.info? 68).map (fun i => (i.zero, i.size, i.bytes)) = some (some (.agg #[.int .i64 0, .int .i64 0, .slice none 0 0]), 3, 40) := by kernel_rfl
open Go.RowKit
theorem zg.far {w : World} {lo hi : Nat} {v : Value} {xs : List Int} (h : zg w lo hi v xs) {p : Addr} (hp : p.block < lo) (u : Value) : zg (w.setCell p u) lo hi v xs := h.set (.inl hp) u
theorem zW.far {w : World} {lo hi : Nat} {v : Value} {ls : List zC} (h : zW w lo hi v ls) {p : Addr} (hp : p.block < lo) (u : Value) : zW (w.setCell p u) lo hi v ls :=
 h.keep fun g h1 _ => Below.heap_setCell _ _ _ _ (by omega)
open Go.RowKit
theorem Tryz.infoRule : (Tryz.prog.info? 66).map (fun i => (i.zero, i.size, i.bytes)) = some (some (.agg #[.int .i64 0, .slice none 0 0, .slice none 0 0]), 3, 56) := by kernel_rfl
def szP (p : zal) : Nat := p.1.length + (p.2.length + zgm p.2)
theorem zaY.below {w w' : World} {lo hi B : Nat} {v : Value} {rs : List zJ} (h : zaY w lo hi v rs) (hb : Below B w w') (hB : hi <= B) : zaY w' lo hi v rs := h.keep fun g _ h2 => hb.block g (by omega)
theorem zaY.far {w : World} {lo hi : Nat} {v : Value} {rs : List zJ} (h : zaY w lo hi v rs) {p : Addr} (hp : p.block < lo) (u : Value) : zaY (w.setCell p u) lo hi v rs :=
 h.keep fun g h1 _ => Below.heap_setCell _ _ _ _ (by omega)
open Go.RowKit
section
variable {lo hi lo' hi' : Nat} {w w1 w' : World}
def zna (k : Int) (n : Nat) : List Int := (List.range n).map fun i : Nat => k + (i : Int)
theorem zd6 (k : Int) (n : Nat) : (zna k n).length = n := by simp [zna]
theorem zoG {k : Int} {n j : Nat} (h : j < (zna k n).length) : (zna k n)[j] = k + (j : Int) := by simp [zna]
end
open Go.RowKit
open Go.RowKit
section
variable {lo hi : Nat} {w w1 w' : World}
def zmH (w : World) (lo hi : Nat) (v : Value) (n : Nat) : Prop :=
 ∃ A c, v = .slice A n c /\ (0 < n -> ∃ b o, A = some ⟨b, o, none⟩ /\ lo <= b /\ b < hi /\ ∀ k, k < n -> w.frozen? ⟨b, o + k, none⟩ = false /\ ∃ x, w.cell? ⟨b, o + k, none⟩ = some (.int .i64 x))
theorem zg.wr {v : Value} {xs : List Int} (h : zg w lo hi v xs) : zmH w lo hi v xs.length := by
 have hrd := h.rd
 obtain ⟨⟨hlen, h⟩, hlt⟩ := h
 rcases h with ⟨rfl, h0⟩ | ⟨g, cap, cur, rfl, hbg, hg, hn, hm, hs, ht⟩
 ·exact ⟨none, 0, by rw [h0], fun hn => absurd hn (by omega)⟩
 ·refine ⟨_, cap, rfl, fun hn0 => ⟨g, 0, rfl, hbg, hlt g rfl, fun k hk => ⟨by simp [World.frozen?, hg], ?_⟩⟩⟩
  obtain ⟨A', c', e, _, hx⟩ := hrd
  injection e with e1 _ _
  obtain ⟨b, o, e2, _, hx⟩ := hx hn0
  rw [<- e1] at e2
  injection e2 with e2
  injection e2 with e2 e3 _
  subst e2
  subst e3
  exact ⟨_, hx k hk⟩
def zpI (w : World) (lo hi : Nat) (u0 u1 u2 : Value) (l : zC) : Prop := (∃ x, u0 = .int .i64 x) /\ (∃ y, u1 = .int .i64 y) /\ zmH w lo hi u2 l.2.2.length
def zov (w : World) (lo hi : Nat) (v : Value) (ls : List zC) : Prop := zbE zpI w lo hi v ls
theorem zW.wr {v : Value} {ls : List zC} (h : zW w lo hi v ls) : zov w lo hi v ls := by
 obtain ⟨A, c, rfl, hc, h⟩ := h
 refine ⟨A, c, rfl, hc, fun hn => ?_⟩
 obtain ⟨b, o, rfl, h1, h2, hx⟩ := h hn
 refine ⟨b, o, rfl, h1, h2, fun k hk => ?_⟩
 obtain ⟨hf, u0, u1, u2, c0, c1, c2, rfl, rfl, hI⟩ := hx k hk
 exact ⟨hf, _, _, _, c0, c1, c2, ⟨_, rfl⟩, ⟨_, rfl⟩, hI.wr⟩
def zpC (w : World) (lo hi : Nat) (u0 u1 u2 : Value) (r : zJ) : Prop := (∃ x, u0 = .int .i64 x) /\ zmH w lo hi u1 r.1.2.length /\ zov w lo hi u2 r.2
def zo1 (w : World) (lo hi : Nat) (v : Value) (rs : List zJ) : Prop := zbE zpC w lo hi v rs
theorem zaY.wr {v : Value} {rs : List zJ} (h : zaY w lo hi v rs) : zo1 w lo hi v rs := by
 obtain ⟨A, c, rfl, hc, h⟩ := h
 refine ⟨A, c, rfl, hc, fun hn => ?_⟩
 obtain ⟨b, o, rfl, h1, h2, hx⟩ := h hn
 refine ⟨b, o, rfl, h1, h2, fun k hk => ?_⟩
 obtain ⟨hf, u0, u1, u2, c0, c1, c2, rfl, hI, hL⟩ := hx k hk
 exact ⟨hf, _, _, _, c0, c1, c2, ⟨_, rfl⟩, hI.wr, hL.wr⟩
end
open Go.RowKit
open Go.RowKit
def zz (x : Int) : Bool := decide (-4 <= x /\ x <= 5)
def zaC (x : Int) : Bool := decide (-4 <= x /\ x <= -1)
def zbf {α : Type} (p : α -> Bool) (xs : List α) (k : Nat) : Prop := (xs.take k).all p = true
theorem zbf.start {α : Type} {p : α -> Bool} {xs : List α} : zbf p xs 0 := by simp [zbf]
theorem zbf.step {α : Type} {p : α -> Bool} {xs : List α} {k : Nat} (h : zbf p xs k) (hk : k < xs.length) (e : p xs[k] = true) : zbf p xs (k + 1) := by
 unfold zbf at h ⊢
 rw [zH xs k hk, List.all_append, h]
 simp [e]
theorem zbf.done {α : Type} {p : α -> Bool} {xs : List α} {k : Nat} (h : zbf p xs k) (hk : k = xs.length) : xs.all p = true := by
 unfold zbf at h
 rwa [hk, List.take_length] at h
theorem zcp {α : Type} {p : α -> Bool} {xs : List α} {k : Nat} (hk : k < xs.length) (e : p xs[k] = false) : xs.all p = false := by
 rw [List.all_eq_false]
 exact ⟨xs[k], List.getElem_mem hk, by simp [e]⟩
theorem zhB (n : Int) (h0 : 0 <= n) (h1 : n <= 1000) (w : World) : Calls Tryz.prog 167 #[.int .i64 n] w fun e w' => e = .returned (.int .i64 (-1 - n)) /\ w = w' := by
 go_enter Tryz.func167, Tryz.ntmps167
 go_wp2
 go_ret
 exact ⟨rfl, rfl⟩
theorem zei (n : Int) (h0 : -4 <= n) (h1 : n <= -1) (w : World) : Calls Tryz.prog 140 #[.int .i64 n] w fun e w' => e = .returned (.int .i64 (-1 - n)) /\ w = w' := by
 go_enter Tryz.func140, Tryz.ntmps140
 go_wp2
 go_ret
 exact ⟨rfl, rfl⟩
theorem znv (n : Int) (w : World) : Calls Tryz.prog 138 #[.int .i64 n] w fun e w' => e = .returned (.bool (zaC n)) /\ w = w' := by
 by_cases h1 : n < 0
 ·have hd : decide (n < 0) = true := by simpa using h1
  by_cases h2 : -4 <= n
  ·have HE := Lib.hid (show zaC n = true by simp [zaC]; omega)
   go_enter Tryz.func138, Tryz.ntmps138
   go_wp2_with (go_at_call 167; refine (zhB 3 (by omega) (by omega) _).mono ?_; rintro e w' ⟨rfl, rfl⟩)
   go_ret
   exact ⟨zi HE.out.symm, rfl⟩
  ·have HE := Lib.hid (show zaC n = false by simp [zaC]; omega)
   go_enter Tryz.func138, Tryz.ntmps138
   go_wp2_with (go_at_call 167; refine (zhB 3 (by omega) (by omega) _).mono ?_; rintro e w' ⟨rfl, rfl⟩)
   go_ret
   exact ⟨zi (by rw [HE.out]; simp; omega), rfl⟩
 ·have hd : decide (n < 0) = false := by simpa using h1
  have HE := Lib.hid (show zaC n = false by simp [zaC]; omega)
  go_enter Tryz.func138, Tryz.ntmps138
  go_wp2_with (fail)
  go_ret
  exact ⟨zi HE.out.symm, rfl⟩
theorem zdf {n : Int} {b : Bool} (h : zaC n = b) (w : World) : Calls Tryz.prog 138 #[.int .i64 n] w fun e w' => e = .returned (.bool b) /\ w = w' := h ▸ znv n w
open Go.RowKit
def zbG (w0 : World) : Type := { W : World // Below w0.heap.size w0 W }
instance (w0 : World) : Nonempty (zbG w0) := ⟨⟨w0, Below.refl _ _⟩⟩
theorem zD {P : Program} {id : Nat} {Q : Exit -> Act -> World -> Prop} {a : Act} {w0 : World} {l : List Oper} (hm : P.follows .mixedOrders = true) (hB : Region.lexB .any l.toArray = true)
 (h : wpQuiet P l.toArray (fun w' => ∃ x : zbG w0, w' = x.val) (fun a' => ∀ w', (∃ x : zbG w0, w' = x.val) -> Q .normal a' w') l a) : (Code.region id l.toArray true).wp P Q a w0 :=
 wp_region_quiet (C := fun w' => ∃ x : zbG w0, w' = x.val) hm hB ⟨⟨_, (Below.refl _ _).drew⟩, rfl⟩ (by simpa using h)
theorem zx {w0 : World} {a : Addr} {v : Value} (h : w0.cell? a = some v) (x : zbG w0) : x.val.cell? a = some v := (x.2.cell (World.block_lt_of_cell? _ _ h)).trans h
theorem zaq {P : Program} {f : FuncId} {args : Array Value} {w0 : World} {x : zbG w0} {v : Value} (h : Calls P f args x.val fun e w' => e = .returned v /\ Below x.val.heap.size x.val w') :
 Calls P f args x.val fun e w'' => e = .returned v /\ ∃ y : zbG w0, w'' = y.val :=
 h.mono fun _ w' ⟨he, hb⟩ => ⟨he, ⟨w', zf x.2 hb⟩, rfl⟩
theorem zeV {P : Program} {f : FuncId} {args : Array Value} {w0 : World} {x : zbG w0} {v : Value} (h : Calls P f args x.val fun e w' => e = .returned v /\ x.val = w') :
 Calls P f args x.val fun e w'' => e = .returned v /\ ∃ y : zbG w0, w'' = y.val :=
 h.mono fun _ _ ⟨he, hb⟩ => ⟨he, x, hb.symm⟩
open Go.RowKit
def orV (m : Nat) (t : Int) : Nat := if zaC t then m ||| 2 ^ (-1 - t).toNat else m
def zau (m : Nat) (xs : List Int) : Nat := xs.foldl orV m
def maskOf (xs : List Int) : Nat := zau 0 xs
def bodyMask (ls : List zC) : Nat := ls.foldl (fun m l => m ||| maskOf l.2.2) 0
def yesMask (ls : List zC) : Nat := ls.foldl (fun m l => if l.1 = 0 then m ||| maskOf l.2.2 else m) 0
def ruleMask (r : zJ) : Nat := maskOf r.1.2 ||| bodyMask r.2
theorem zpk (a b : Nat) (t : Int) : orV (a ||| b) t = a ||| orV b t := by
 unfold orV
 split
 ·rw [Nat.or_assoc]
 ·rfl
theorem zhP (a b : Nat) : ∀ xs : List Int, zau (a ||| b) xs = a ||| zau b xs
 | [] => rfl
 | t :: xs => by
  show zau (orV (a ||| b) t) xs = a ||| zau (orV b t) xs
  rw [zpk, zhP a (orV b t) xs]
theorem zft (a : Nat) (xs : List Int) : zau a xs = a ||| maskOf xs := by
 have := zhP a 0 xs
 rwa [Nat.or_zero] at this
theorem zih {a b : Nat} (ha : a < 16) (hb : b < 16) : a ||| b < 16 := Nat.or_lt_two_pow (n := 4) ha hb
theorem ziy {t : Int} (h : zaC t = true) : 2 ^ (-1 - t).toNat < 16 := by
 have h4 : (-1 - t).toNat < 4 := by simp [zaC] at h; omega
 exact Nat.pow_lt_pow_right (by omega) h4
theorem zpl {m : Nat} {t : Int} (hm : m < 16) : orV m t < 16 := by
 unfold orV
 split
 ·rename_i h
  exact zih hm (ziy h)
 ·exact hm
theorem zhQ : ∀ (xs : List Int) {m : Nat}, m < 16 -> zau m xs < 16
 | [], _, h => h
 | _ :: xs, _, h => zhQ xs (zpl h)
theorem zbr (xs : List Int) : maskOf xs < 16 := zhQ xs (by omega)
theorem zee {xs : List Int} {k : Nat} (h : k < xs.length) : maskOf (xs.take (k + 1)) = orV (maskOf (xs.take k)) xs[k] := by
 unfold maskOf zau
 rw [zH xs k h, List.foldl_append]
 rfl
theorem zes {ls : List zC} {k : Nat} (h : k < ls.length) : bodyMask (ls.take (k + 1)) = bodyMask (ls.take k) ||| maskOf ls[k].2.2 := by
 unfold bodyMask
 rw [zH ls k h, List.foldl_append]
 rfl
theorem zdq {ls : List zC} {k : Nat} (h : k < ls.length) : yesMask (ls.take (k + 1)) = if ls[k].1 = 0 then yesMask (ls.take k) ||| maskOf ls[k].2.2 else yesMask (ls.take k) := by
 unfold yesMask
 rw [zH ls k h, List.foldl_append]
 rfl
theorem zfE : ∀ (n : Nat) (ls : List zC), n <= ls.length -> bodyMask (ls.take n) < 16
 | 0, _, _ => by simp [bodyMask]
 | n + 1, ls, h => by
  rw [zes (by omega)]
  exact zih (zfE n ls (by omega)) (zbr _)
theorem zeJ : ∀ (n : Nat) (ls : List zC), n <= ls.length -> yesMask (ls.take n) < 16
 | 0, _, _ => by simp [yesMask]
 | n + 1, ls, h => by
  rw [zdq (by omega)]
  split
  ·exact zih (zeJ n ls (by omega)) (zbr _)
  ·exact zeJ n ls (by omega)
theorem zg3 (ls : List zC) : bodyMask ls < 16 := by
 have := zfE ls.length ls (Nat.le_refl _)
 rwa [List.take_length] at this
theorem zkM (ls : List zC) : yesMask ls < 16 := by
 have := zeJ ls.length ls (Nat.le_refl _)
 rwa [List.take_length] at this
theorem zkX (r : zJ) : ruleMask r < 16 := zih (zbr _) (zg3 _)
theorem zgt {a b : Nat} (ha : a < 16) (hb : b < 16) : bits .or .u64 (a : Int) (b : Int) = ((a ||| b : Nat) : Int) := u64_or_nat a b (by omega) (by omega)
theorem zn6 {m : Nat} {t : Int} (hm : m < 16) (h : zaC t = true) : bits .or .u64 (m : Int) (IntKind.u64.wrap (1 * 2 ^ (-1 - t).toNat)) = ((orV m t : Nat) : Int) := by
 have h4 : (-1 - t).toNat < 4 := by simp [zaC] at h; omega
 have hw : IntKind.u64.wrap (1 * 2 ^ (-1 - t).toNat) = ((2 ^ (-1 - t).toNat : Nat) : Int) := by
  generalize (-1 - t).toNat = n at h4
  match n, h4 with
  | 0, _ => rfl
  | 1, _ => rfl
  | 2, _ => rfl
  | 3, _ => rfl
 rw [hw, zgt hm (ziy h)]
 simp [orV, h]
set_option maxHeartbeats 400000 in
theorem zcD (v : Value) (xs : List Int) (B : Nat) (w : World) (h : zv w B v xs) (hr : xs.length <= 1048576) :
 Calls Tryz.prog 136 #[v] w fun e w' => e = .returned (.int .u64 (maskOf xs : Nat)) /\ w = w' := by
 obtain ⟨A, c, rfl, hc, ha⟩ := h
 go_enter Tryz.func136, Tryz.ntmps136
 go_wp2_with (fail)
 go_loop [3, 5, 8] (fun m _ i => ∃ (k : Nat) (z : Int), k <= xs.length /\ i = .int .i64 k /\ m = .int .u64 z /\ z = (maskOf (xs.take k) : Nat)) (fun _ _ i => xs.length - (intOf i).toNat)
 case atStart => exact ⟨0, 0, Nat.zero_le _, rfl, rfl, rfl⟩
 case round =>
  obtain ⟨k, z, hk, rfl, rfl, hz⟩ := hrel
  by_cases hlt : k < xs.length
  ·obtain ⟨b, o, rfl, hbB, hx⟩ := ha (by omega)
   have hck : w.cell? ⟨b, o + k, none⟩ = some (.int .i64 xs[k]) := hx k hlt
   have hml := zbr (xs.take k)
   clear hx ha
   by_cases he : zaC xs[k] = true
   ·have HK := Lib.hid (zdf he)
    have HV := Lib.hid (show -4 <= xs[k] /\ xs[k] <= -1 by simpa [zaC] using he)
    have h0 : 0 <= -1 - xs[k] := by have := HV.out; omega
    have h64 : -1 - xs[k] <= 64 := by have := HV.out; omega
    have HZ := Lib.hid (show bits .or .u64 z (IntKind.u64.wrap (2 ^ (-1 - xs[k]).toNat)) = (maskOf (xs.take (k + 1)) : Nat) by have hw := zn6 hml he; rw [Int.one_mul] at hw; rw [hz, hw, zee hlt])
    clear hz he hml
    go_wp2_with (first | (go_at_call 138; refine (HK.out _).mono ?_; rintro e w' ⟨rfl, rfl⟩) | (go_at_call 140; refine (zei _ HV.out.1 HV.out.2 _).mono ?_; rintro e w' ⟨rfl, rfl⟩))
    go_round
    case rel => exact ⟨k + 1, _, by omega, by go_num, rfl, HZ.out⟩
    case measure => simp [intOf]; omega
   ·have he' : zaC xs[k] = false := by simpa using he
    have HK := Lib.hid (zdf he')
    have HZ := Lib.hid (show z = (maskOf (xs.take (k + 1)) : Nat) by rw [hz, zee hlt]; simp [orV, he'])
    clear hz he
    go_wp2_with (go_at_call 138; refine (HK.out _).mono ?_; rintro e w' ⟨rfl, rfl⟩)
    go_round
    case rel => exact ⟨k + 1, _, by omega, by go_num, rfl, HZ.out⟩
    case measure => simp [intOf]; omega
  ·have HE := Lib.hid (show z = (maskOf xs : Nat) by rw [hz, show k = xs.length by omega, List.take_length])
   clear hz ha
   go_wp2_with (fail)
   go_ret
   exact ⟨zT HE.out, rfl⟩
set_option maxHeartbeats 400000 in
theorem zkE (v : Value) (ls : List zC) (w : World) (h : za6 w w.heap.size v ls) (hr : ls.length <= 1048576) (ht : zbB ls <= 1048576) :
 Calls Tryz.prog 159 #[v] w fun e w' => e = .returned (.int .u64 (bodyMask ls : Nat)) /\ Below w.heap.size w w' := by
 have H := Lib.hid h
 obtain ⟨A, c, rfl, hc, _⟩ := h
 go_enter Tryz.func159, Tryz.ntmps159
 go_wp2_with (fail)
 go_loopw [3, 5, 8] (fun m _ i wr => ∃ (k : Nat) (z : Int), k <= ls.length /\ i = .int .i64 k /\ m = .int .u64 z /\ z = (bodyMask (ls.take k) : Nat) /\ Below w.heap.size w wr) (fun _ _ i _ => ls.length - (intOf i).toNat)
 case atStart => exact ⟨0, 0, Nat.zero_le _, rfl, rfl, rfl, Below.refl _ _⟩
 case round =>
  obtain ⟨k, z, hk, rfl, rfl, hz, hbe⟩ := hrel
  by_cases hlt : k < ls.length
  ·obtain ⟨b, o, u0, u1, u2, rfl, hbB, k0, k1, k2, rfl, rfl, p3⟩ := (H.out.on hbe).get hlt
   have HA := Lib.hid p3
   obtain ⟨A3, c3, rfl, hc3, _⟩ := p3
   have hle := za3 ls k hlt
   have hml := zfE k ls hk
   have HZ := Lib.hid (show bits .or .u64 z ((maskOf ls[k].2.2 : Nat) : Int) = (bodyMask (ls.take (k + 1)) : Nat) by rw [hz, zgt hml (zbr _), zes hlt])
   clear hz hml
   go_wp2_with (go_at_call 136; refine (zcD _ ls[k].2.2 _ _ (HA.out.on (ze _ _)) (by omega)).mono ?_; rintro e w' ⟨rfl, rfl⟩)
   go_roundw
   case rel => exact ⟨k + 1, _, by omega, by go_num, rfl, HZ.out, zf hbe (ze _ _)⟩
   case measure => simp [intOf]; omega
  ·have HE := Lib.hid (show z = (bodyMask ls : Nat) by rw [hz, show k = ls.length by omega, List.take_length])
   clear hz
   go_wp2_with (fail)
   go_ret
   exact ⟨zT HE.out, hbe⟩
open Go.RowKit
def zcw (x : Nat) : List Int := ((List.range 64).filter fun j => x.testBit j).map fun j : Nat => (j : Int)
theorem zlG : zcw 0 = [] := by simp [zcw]
theorem zjz (x : Nat) : (zcw x).length <= 64 := by
 unfold zcw
 rw [List.length_map]
 exact Nat.le_trans (List.length_filter_le _ _) (by simp)
theorem zd4 {k m j : Nat} : (2 ^ k * (2 * m + 1)).testBit j = (decide (k <= j) && (2 * m + 1).testBit (j - k)) := by
 rw [Nat.mul_comm, Nat.testBit_mul_two_pow]
theorem zdr {k m j : Nat} : (2 ^ k * (2 * m)).testBit j = (decide (k <= j) && (2 * m).testBit (j - k)) := by
 rw [Nat.mul_comm, Nat.testBit_mul_two_pow]
theorem zlw (k m : Nat) (hk : k < 64) : (List.range 64).filter (fun j => (2 ^ k * (2 * m + 1)).testBit j) = k :: (List.range 64).filter (fun j => (2 ^ k * (2 * m)).testBit j) := by
 obtain ⟨d, hd⟩ : ∃ d, 64 = k + (1 + d) := ⟨63 - k, by omega⟩
 rw [hd, List.range_add, List.filter_append, List.filter_append, List.range_add, List.map_append, List.filter_append, List.filter_append]
 have h1 : (List.range k).filter (fun j => (2 ^ k * (2 * m + 1)).testBit j) = [] := by
  rw [List.filter_eq_nil_iff]
  intro j hj
  have hj := List.mem_range.1 hj
  rw [zd4]
  simp
  omega
 have h2 : (List.range k).filter (fun j => (2 ^ k * (2 * m)).testBit j) = [] := by
  rw [List.filter_eq_nil_iff]
  intro j hj
  have hj := List.mem_range.1 hj
  rw [zdr]
  simp
  omega
 have h3 : ((List.range 1).map (k + ·)).filter (fun j => (2 ^ k * (2 * m + 1)).testBit j) = [k] := by
  have : (2 ^ k * (2 * m + 1)).testBit k = true := by rw [zd4]; simp [Nat.testBit_zero]
  simp [this]
 have h4 : ((List.range 1).map (k + ·)).filter (fun j => (2 ^ k * (2 * m)).testBit j) = [] := by
  have : (2 ^ k * (2 * m)).testBit k = false := by rw [zdr]; simp [Nat.testBit_zero]
  simp [this]
 rw [h1, h2, h3, h4, List.nil_append, List.nil_append, List.nil_append, List.singleton_append]
 congr 1
 apply List.filter_congr
 intro j hj
 simp only [List.mem_map, List.mem_range] at hj
 obtain ⟨a, ⟨b, hb, rfl⟩, rfl⟩ := hj
 rw [zd4, zdr]
 have e : k + (1 + b) - k = b + 1 := by omega
 rw [e, Nat.testBit_succ, Nat.testBit_succ]
 congr 2
 omega
theorem zlH {x : Nat} (h0 : x ≠ 0) (hx : x < 2 ^ 64) : zcw x = (Lib.ctz 64 x : Int) :: zcw (x &&& (x - 1)) /\ x &&& (x - 1) < x := by
 obtain ⟨m, hm, hk⟩ := Lib.ctzFrom_spec 64 x (by omega) hx
 have hc : Lib.ctz 64 x = Lib.ctzFrom 64 x := by unfold Lib.ctz; rw [if_neg h0]
 rw [hc]
 generalize Lib.ctzFrom 64 x = k at hm hk
 have hp : 0 < 2 ^ k := Nat.two_pow_pos k
 have hand : x &&& (x - 1) = 2 ^ k * (2 * m) := by
  apply Nat.eq_of_testBit_eq
  intro j
  rw [Nat.testBit_and]
  have e1 : x - 1 = 2 ^ k * (2 * m) + (2 ^ k - 1) := by
   rw [hm, Nat.mul_add, Nat.mul_one]
   omega
  rw [e1, Nat.testBit_two_pow_mul_add _ (by omega), zdr, hm, zd4]
  by_cases hj : j < k
  ·have hkj : decide (k <= j) = false := by simp; omega
   rw [hkj]
   simp
  ·rw [if_neg hj]
   have : k <= j := by omega
   simp only [this, decide_true, Bool.true_and]
   by_cases e : j = k
   ·subst e
    simp [Nat.testBit_zero]
   ·obtain ⟨i, rfl⟩ : ∃ i, j = k + (i + 1) := ⟨j - k - 1, by omega⟩
    have e3 : k + (i + 1) - k = i + 1 := by omega
    rw [e3, Nat.testBit_succ, Nat.testBit_succ]
    have d1 : (2 * m + 1) / 2 = m := by omega
    have d2 : 2 * m / 2 = m := by omega
    rw [d1, d2, Bool.and_self]
 refine ⟨?_, ?_⟩
 ·rw [hand, hm]
  unfold zcw
  rw [zlw k m hk]
  simp
 ·rw [hand, hm, Nat.mul_add, Nat.mul_one]
  omega
def Tab (w : World) : Prop := _root_.Go.Proofs.TabAt 0 Lib.deBruijn64tab w /\ 0 < w.heap.size
theorem Tab.below {w w' : World} (h : Tab w) (hb : Below w.heap.size w w') : Tab w' := ⟨fun j hj => (hb.cell (p := ⟨0, j, none⟩) h.2).trans (h.1 j hj), Nat.lt_of_lt_of_le h.2 hb.size⟩
set_option maxHeartbeats 1000000 in
theorem zm2 (x k idx : Nat) (w : World) (hx0 : ((x : Int) == 0) = false)
 (key : IntKind.u64.wrap (bits BinOp.and IntKind.u64 (x : Int) (IntKind.u64.wrap (-(x : Int))) * 285870213051353865) / 288230376151711744 = (idx : Int))
 (hi : idx < 64) (hk : k < 64) (hcell : w.cell? ⟨0, idx, none⟩ = some (.int .u8 k)) :
 Calls Tryz.prog 67 #[.int .u64 x] w fun e w' => e = .returned (.int .i64 k) /\ w = w' := by
 go_enter Tryz.func67, Tryz.ntmps67
 go_wp2_with (simp only [key])
 go_ret
 exact ⟨rfl, rfl⟩
theorem znP (x : Nat) (hx : x < 18446744073709551616) (h0 : x ≠ 0) (w : World) (hT : Tab w) :
 Calls Tryz.prog 67 #[.int .u64 x] w fun e w' => e = .returned (.int .i64 (Lib.ctz 64 x)) /\ w = w' := by
 obtain ⟨hlow, hk⟩ := Lib.lowest_bit 64 x h0 hx
 obtain ⟨hi, htab⟩ := Lib.deBruijn64_at _ hk
 have hc := hT.1 _ hi
 rw [htab] at hc
 exact zm2 x _ _ w (by simpa using h0) (tz64_key x _ hx h0 hlow) hi hk hc
open Go.RowKit
theorem Tryz.tabGlobal : Tryz.prog.globalNamed "math/bits.deBruijn64tab" = some 0 := by kernel_rfl
theorem Tryz.tabType : (Tryz.prog.globals[0]?).map (·.type) = some 127 := by kernel_rfl
theorem Tryz.tabUnder : Tryz.prog.underlying 127 = some (.array 64 5) := by kernel_rfl
theorem Tryz.tabCells : Tryz.prog.cellsOf 127 = 64 := by kernel_rfl
theorem Tryz.byteUnder : Tryz.prog.underlying 5 = some (.int .u8) := by kernel_rfl
theorem Tryz.byteCells : Tryz.prog.cellsOf 5 = 1 := by kernel_rfl
def zdG : List (String × DataW Unit) := [("math/bits.deBruijn64tab", Rows.laid_math_bits_deBruijn64tab)]
theorem zj4 {W : World} (hL : laidMetH Tryz.prog zdG W) : Tab W := by
 have h : laidMet Tryz.prog zdG W := by rw [MakeChecks.laidMetH_plain _ _ _ (by kernel_rfl)] at hL; exact hL
 have h2 : laidMet Tryz.prog [("math/bits.deBruijn64tab", Lib.tabData .u8 (Lib.deBruijn64tab.map fun n : Nat => (n : Int)))] W := h
 have h3 := Lib.tabIs_of_head Tryz.tabGlobal Tryz.tabType Tryz.tabUnder Tryz.byteUnder Tryz.byteCells Tryz.tabCells h2
 have hat : _root_.Go.Proofs.TabAt 0 Lib.deBruijn64tab W := fun j hj => by
  have := h3.cell Tryz.tabGlobal j (by simpa using hj)
  simpa [hj] using this
 exact ⟨hat, World.block_lt_of_cell? _ _ (hat 0 (by decide))⟩
open Go.RowKit
open Go.RowKit
def zu (w : World) (B : Nat) (v : Value) (fs : List zd) : Prop :=
 ∃ A c, v = .slice A fs.length c /\ fs.length <= c /\ (0 < fs.length -> ∃ b o, A = some ⟨b, o, none⟩ /\ b < B /\ ∀ k (h : k < fs.length), ∃ a,
  w.cell? ⟨b, o + k * 2, none⟩ = some (.int .i64 fs[k].1) /\ w.cell? ⟨b, o + k * 2 + 1, none⟩ = some a /\ zv w B a fs[k].2)
theorem zu.below {w w' : World} {B B' : Nat} {v : Value} {fs : List zd} (h : zu w B v fs) (hb : Below B' w w') (hB : B <= B') : zu w' B v fs := by
 obtain ⟨A, c, rfl, hc, h⟩ := h
 refine ⟨A, c, rfl, hc, fun hn => ?_⟩
 obtain ⟨b, o, rfl, hlt, hk⟩ := h hn
 refine ⟨b, o, rfl, hlt, fun k hkl => ?_⟩
 obtain ⟨a, h1, h2, h3⟩ := hk k hkl
 exact ⟨a, (hb.cell (p := ⟨b, o + k * 2, none⟩) (by show b < B'; omega)).trans h1, (hb.cell (p := ⟨b, o + k * 2 + 1, none⟩) (by show b < B'; omega)).trans h2, h3.below hb hB⟩
theorem zu.more {w : World} {B B' : Nat} {v : Value} {fs : List zd} (h : zu w B v fs) (hB : B <= B') : zu w B' v fs := by
 obtain ⟨A, c, rfl, hc, h⟩ := h
 refine ⟨A, c, rfl, hc, fun hn => ?_⟩
 obtain ⟨b, o, rfl, hlt, hk⟩ := h hn
 refine ⟨b, o, rfl, by omega, fun k hkl => ?_⟩
 obtain ⟨a, h1, h2, h3⟩ := hk k hkl
 exact ⟨a, h1, h2, h3.more hB⟩
theorem zu.on {w w' : World} {v : Value} {fs : List zd} (h : zu w w.heap.size v fs) (hb : Below w.heap.size w w') : zu w' w'.heap.size v fs := (h.below hb (Nat.le_refl _)).more hb.size
def zaP : List zd -> List Value -> List Value
 | f :: fs, a :: av => .int .i64 f.1 :: a :: zaP fs av
 | _, _ => []
theorem za4 : ∀ (fs : List zd) (av : List Value), av.length = fs.length -> (zaP fs av).length = fs.length * 2
 | [], _, _ => by simp [zaP]
 | f :: fs, [], h => by simp at h
 | f :: fs, a :: av, h => by
  have := za4 fs av (by simpa using h)
  simp only [zaP, List.length_cons, this]
  omega
theorem zcM : ∀ (fs : List zd) (av : List Value) (_ : av.length = fs.length) (k : Nat) (hk : k < fs.length) (hk' : k < av.length),
 (zaP fs av)[k * 2]? = some (.int .i64 fs[k].1) /\ (zaP fs av)[k * 2 + 1]? = some av[k]
 | [], _, _, k, hk, _ => absurd hk (by simp)
 | f :: fs, [], h, _, _, _ => by simp at h
 | f :: fs, a :: av, h, 0, _, _ => by simp [zaP]
 | f :: fs, a :: av, h, k + 1, hk, hk' => by
  have := zcM fs av (by simpa using h) k (by simpa using hk) (by simpa using hk')
  simpa [zaP, Nat.add_mul] using this
theorem zhn : ∀ (fs : List zd) (av : List Value) (_ : av.length = fs.length) (f : zd) (a : Value), zaP (fs ++ [f]) (av ++ [a]) = zaP fs av ++ [.int .i64 f.1, a]
 | [], [], _, f, a => by simp [zaP]
 | [], a' :: av, h, _, _ => by simp at h
 | f :: fs, [], h, _, _ => by simp at h
 | f :: fs, a :: av, h, g, b => by simp [zaP, zhn fs av (by simpa using h) g b]
structure zbd (w : World) (lo hi : Nat) (av : List Value) (xss : List (List Int)) : Prop where
 len : av.length = xss.length
 own : ∀ i (h : i < xss.length) (h' : i < av.length), zg w lo hi av[i] xss[i]
 apart : av.Pairwise fun a b => ∀ g, a.ownBlock = some g -> b.ownBlock ≠ some g
section
variable {w w' : World} {lo hi lo' hi' B : Nat} {av : List Value} {xss : List (List Int)}
theorem zbd.nil : zbd w lo hi [] [] := ⟨rfl, fun i h => absurd h (by simp), .nil⟩
theorem zbd.below (h : zbd w lo hi av xss) (hb : Below B w w') (hB : hi <= B) : zbd w' lo hi av xss := ⟨h.len, fun i h1 h2 => (h.own i h1 h2).below hb hB, h.apart⟩
theorem zbd.mono (h : zbd w lo hi av xss) (h1 : lo' <= lo) (h2 : hi <= hi') : zbd w lo' hi' av xss := ⟨h.len, fun i h3 h4 => (h.own i h3 h4).mono h1 h2, h.apart⟩
theorem zbd.set (h : zbd w lo hi av xss) {p : Addr} (hp : p.block < lo \/ hi <= p.block) (u : Value) : zbd (w.setCell p u) lo hi av xss := ⟨h.len, fun i h3 h4 => (h.own i h3 h4).set hp u, h.apart⟩
theorem zg.block {v : Value} {xs : List Int} (h : zg w lo hi v xs) {g : Nat} (hg : v.ownBlock = some g) : lo <= g /\ g < hi := ⟨(h.1.lt g hg).1, h.2 g hg⟩
theorem zbd.snoc (h : zbd w lo hi av xss) {v : Value} {xs : List Int} (hv : zg w hi hi' v xs) (hl : lo <= hi) (hh : hi <= hi') : zbd w lo hi' (av ++ [v]) (xss ++ [xs]) := by
 have hlen := h.len
 refine ⟨by simp [hlen], fun i h1 h2 => ?_, ?_⟩
 ·by_cases e : i < xss.length
  ·rw [List.getElem_append_left (by omega), List.getElem_append_left e]
   exact (h.own i e (by omega)).mono (Nat.le_refl _) hh
  ·have e2 : i = xss.length := by simp at h1; omega
   subst e2
   simp [<- hlen]
   exact hv.mono hl (Nat.le_refl _)
 ·rw [List.pairwise_append]
  refine ⟨h.apart, by simp, fun a ha b hb g hg hg' => ?_⟩
  simp at hb
  subst hb
  obtain ⟨i, hi', rfl⟩ := List.getElem_of_mem ha
  have h1 := (h.own i (by omega) hi').block hg
  have h2 := hv.block hg'
  omega
end
def zq (w : World) (lo hi : Nat) (v : Value) (fs : List zd) : Prop :=
 ∃ av, zbd w lo hi av (fs.map (·.2)) /\ w.ownsRow lo 39 2 v fs.length (zaP fs av) /\ ∀ g, v.ownBlock = some g -> g < hi
section
variable {w w' : World} {lo hi lo' hi' B : Nat} {v : Value} {fs : List zd}
theorem zaB {e : TypeId} {size n : Nat} {xs : List Value} (h : w.ownsRow lo e size v n xs) (hlt : ∀ g, v.ownBlock = some g -> g < hi) (hb : Below B w w') (hB : hi <= B) : w'.ownsRow lo e size v n xs := by
 obtain ⟨hlen, h⟩ := h
 refine ⟨hlen, ?_⟩
 rcases h with h | ⟨g, cap, cur, rfl, hbg, hg, r⟩
 ·exact .inl h
 ·exact .inr ⟨g, cap, cur, rfl, hbg, by rw [hb.block g (by have := hlt g rfl; omega)]; exact hg, r⟩
theorem zcI {e : TypeId} {size n : Nat} {xs : List Value} (h : w.ownsRow lo e size v n xs) (h1 : lo' <= lo) : w.ownsRow lo' e size v n xs := by
 obtain ⟨hlen, h⟩ := h
 refine ⟨hlen, ?_⟩
 rcases h with h | ⟨g, cap, cur, rfl, hbg, r⟩
 ·exact .inl h
 ·exact .inr ⟨g, cap, cur, rfl, by omega, r⟩
theorem zq.below (h : zq w lo hi v fs) (hb : Below B w w') (hB : hi <= B) : zq w' lo hi v fs := by
 obtain ⟨av, h1, h2, h3⟩ := h
 exact ⟨av, h1.below hb hB, zaB h2 h3 hb hB, h3⟩
theorem zq.mono (h : zq w lo hi v fs) (h1 : lo' <= lo) (h2 : hi <= hi') : zq w lo' hi' v fs := by
 obtain ⟨av, ha, hr, hlt⟩ := h
 exact ⟨av, ha.mono h1 h2, zcI hr h1, fun g hg => by have := hlt g hg; omega⟩
theorem zq.rd (h : zq w lo hi v fs) : zu w hi v fs := by
 obtain ⟨av, ha, hr, hlt⟩ := h
 have hcells := @World.ownsRow.cells w lo 39 2 v fs.length (zaP fs av) hr
 obtain ⟨hlen, hr⟩ := hr
 have hl : av.length = fs.length := by simpa using ha.len
 rcases hr with ⟨rfl, h0⟩ | ⟨g, cap, cur, rfl, hb, hg, hn, hm, hs, ht⟩
 ·have : fs = [] := List.eq_nil_of_length_eq_zero h0
  subst this
  exact ⟨none, 0, rfl, by simp, fun h => absurd h (by simp)⟩
 ·refine ⟨_, cap, rfl, hn, fun _ => ⟨g, 0, rfl, hlt g rfl, fun k hk => ⟨av[k]'(by omega), ?_, ?_, ?_⟩⟩⟩
  ·have := hcells (g := g) rfl _ _ (zcM fs av hl k hk (by omega)).1
   rwa [Go.WideShapes.add_plain] at this
  ·have := hcells (g := g) rfl _ _ (zcM fs av hl k hk (by omega)).2
   rwa [Go.WideShapes.add_plain, <- Nat.add_assoc] at this
  ·have := ha.own k (by simpa using hk) (by omega)
   simpa using this.rd
end
def zeroCells : Nat -> List Value
 | 0 => []
 | n + 1 => .int .i64 0 :: .slice none 0 0 :: zeroCells n
theorem zeu : ∀ n, (zeroCells n).length = n * 2
 | 0 => rfl
 | n + 1 => by simp [zeroCells, zeu n]; omega
theorem zeI : ∀ (n j : Nat), j < n * 2 -> (zeroCells n)[j]? = some (if j % 2 = 0 then .int .i64 0 else .slice none 0 0)
 | 0, j, h => by omega
 | n + 1, 0, _ => by simp [zeroCells]
 | n + 1, 1, _ => by simp [zeroCells]
 | n + 1, j + 2, h => by
  have := zeI n j (by omega)
  simp only [zeroCells, List.getElem?_cons_succ, this]
  congr 2
  simp
theorem zia (n : Nat) : (madeCells #[.int .i64 0, .slice none 0 0] (n * 2)).toList = zeroCells n := by
 apply List.ext_getElem?
 intro j
 by_cases h : j < n * 2
 ·rw [zeI n j h]
  have h2 : j % 2 = 0 \/ j % 2 = 1 := by omega
  rcases h2 with h2 | h2 <;> simp [madeCells, h, h2]
 ·rw [List.getElem?_eq_none (by simp [madeCells]; omega), List.getElem?_eq_none (by rw [zeu]; omega)]
def tot (fs : List zd) : Nat := (fs.map fun f => f.2.length).sum
theorem zaz : ∀ (fs : List zd) (k : Nat) (h : k < fs.length), fs[k].2.length <= tot fs
 | [], _, h => absurd h (by simp)
 | f :: fs, 0, _ => by simp [tot]
 | f :: fs, k + 1, h => by
  have := zaz fs k (by simpa using h)
  simp only [tot, List.map_cons, List.sum_cons, List.getElem_cons_succ] at this ⊢
  omega
theorem zkN : ∀ (fs : List zd) (k : Nat) (h : k < fs.length), tot (fs.take (k + 1)) = tot (fs.take k) + fs[k].2.length
 | [], _, h => absurd h (by simp)
 | f :: fs, 0, _ => by simp [tot]
 | f :: fs, k + 1, h => by
  have := zkN fs k (by simpa using h)
  simp only [tot, List.take_succ_cons, List.map_cons, List.sum_cons, List.getElem_cons_succ] at this ⊢
  omega
open Go.ChangeShapes Go.WideShapes Go.ChangeAt Go.RowKit Go.Joins Go.Deep
section
variable {H : Type} {enc : TypeId × Value -> H} {W : World}
end
open Go.RowKit
theorem Tryz.infoFact : (Tryz.prog.info? 39).map (fun i => (i.zero, i.size, i.bytes)) = some (some (.agg #[.int .i64 0, .slice none 0 0]), 2, 32) := by kernel_rfl
structure ze8 (w wr : World) (fs : List zd) (k : Nat) (av : List Value) : Prop where
 own : zbd wr (w.heap.size + 1) wr.heap.size av ((fs.take k).map (·.2))
 row : ∃ cur : Array Value, Blk wr w.heap.size 39 cur /\ cur.toList = zaP (fs.take k) av ++ zeroCells (fs.length - k)
 below : Below w.heap.size w wr
 size : w.heap.size + 1 <= wr.heap.size
theorem ze8.start (w : World) (fs : List zd) : ze8 w (w.alloc (.cells (madeCells #[.int .i64 0, .slice none 0 0] (fs.length * 2)) 39)) fs 0 [] :=
 ⟨by simpa using zbd.nil, ⟨_, Blk.new _ _ _, by simp [zia, zaP]⟩, ze _ _, by simp⟩
theorem ze8.room {w wr : World} {fs : List zd} {k : Nat} {av : List Value} (hr : ze8 w wr fs k av) (hlt : k < fs.length) {w4 : World} (hb : Below wr.heap.size wr w4) :
 w4.cell? ⟨w.heap.size, k * 2, none⟩ = some (.int .i64 0) /\ w4.cell? ⟨w.heap.size, k * 2 + 1, none⟩ = some (.slice none 0 0) /\ w4.frozen? ⟨w.heap.size, k * 2, none⟩ = false /\ w4.frozen? ⟨w.heap.size, k * 2 + 1, none⟩ = false := by
 obtain ⟨ho, ⟨cur, hB, hcur⟩, hbe, hsz⟩ := hr
 have hB4 := hB.below hb (by omega)
 have hl : (zaP (fs.take k) av).length = k * 2 := by
  rw [za4 _ _ (by simpa using ho.len)]
  simp
  omega
 have hz : ∀ j, j < 2 -> cur[k * 2 + j]? = some (if j % 2 = 0 then .int .i64 0 else .slice none 0 0) := fun j hj => by
  rw [<- Array.getElem?_toList, hcur, List.getElem?_append_right (by omega), hl, show k * 2 + j - k * 2 = j by omega]
  exact zeI _ _ (by omega)
 exact ⟨(hB4.cell _).trans (hz 0 (by omega)), (hB4.cell _).trans (hz 1 (by omega)), hB4.frozen _, hB4.frozen _⟩
theorem ze8.step {w wr : World} {fs : List zd} {k : Nat} {av : List Value} (hr : ze8 w wr fs k av) (hlt : k < fs.length) {w4 : World} (hb : Below wr.heap.size wr w4) {a : Value}
 (ha : zg w4 wr.heap.size w4.heap.size a fs[k].2) : ze8 w ((w4.setCell ⟨w.heap.size, k * 2, none⟩ (.int .i64 fs[k].1)).setCell ⟨w.heap.size, k * 2 + 1, none⟩ a) fs (k + 1) (av ++ [a]) := by
 obtain ⟨ho, ⟨cur, hB, hcur⟩, hbe, hsz⟩ := hr
 have hB4 := hB.below hb (by omega)
 have hl : (zaP (fs.take k) av).length = k * 2 := by
  rw [za4 _ _ (by simpa using ho.len)]
  simp
  omega
 have hs4 := hb.size
 refine ⟨?_, ⟨_, (hB4.set_ _ _).set_ _ _, ?_⟩, ((hbe.trans (hb.mono hbe.size)).setCell (Nat.le_refl _) _).setCell (Nat.le_refl _) _, by simp; omega⟩
 ·have h1 := ((ho.below hb (Nat.le_refl _)).snoc ha (by omega) hs4)
  have h2 := (h1.set (p := ⟨w.heap.size, k * 2, none⟩) (.inl (by simp)) (.int .i64 fs[k].1)).set (p := ⟨w.heap.size, k * 2 + 1, none⟩) (.inl (by simp)) a
  have hs : ((w4.setCell ⟨w.heap.size, k * 2, none⟩ (.int .i64 fs[k].1)).setCell ⟨w.heap.size, k * 2 + 1, none⟩ a).heap.size = w4.heap.size := by simp
  rw [zH fs k hlt, List.map_append, hs]
  exact h2
 ·rw [zH fs k hlt, zhn _ _ (by simpa using ho.len)]
  obtain ⟨m, hm⟩ : ∃ m, fs.length - k = m + 1 := ⟨fs.length - k - 1, by omega⟩
  rw [show fs.length - (k + 1) = m by omega]
  simp [Array.toList_setIfInBounds, hcur, hm, zeroCells, List.set_append_right, hl]
theorem ze8.done {w wr : World} {fs : List zd} {av : List Value} (hr : ze8 w wr fs fs.length av) (hm : fs.length <= maxLen) : zq wr w.heap.size wr.heap.size (.slice (some ⟨w.heap.size, 0, none⟩) fs.length fs.length) fs := by
 obtain ⟨ho, ⟨cur, hB, hcur⟩, hbe, hsz⟩ := hr
 simp only [List.take_length, Nat.sub_self, zeroCells, List.append_nil] at ho hcur
 have hl := za4 fs av (by simpa using ho.len)
 have hcl : cur.size = fs.length * 2 := by rw [<- Array.length_toList, hcur, hl]
 refine ⟨av, ho.mono (by omega) (Nat.le_refl _), ⟨hl, .inr ⟨w.heap.size, fs.length, cur, rfl, Nat.le_refl _, hB, Nat.le_refl _, hm, hcl, ?_⟩⟩, fun g hg => ?_⟩
 ·rw [hcur, <- hl, List.take_length]
 ·simp [Value.ownBlock] at hg
  omega
open Go.RowKit
section
variable {lo hi lo' hi' : Nat} {w w1 w' : World}
theorem zq.only {v : Value} {fs : List zd} (h : zq w lo hi v fs) (ho : zl lo' hi' w w') (hd : hi <= lo' \/ hi' <= lo) : zq w' lo hi v fs := by
 obtain ⟨av, ha, hr, hlt⟩ := h
 exact ⟨av, ⟨ha.len, fun i h1 h2 => (ha.own i h1 h2).only ho hd, ha.apart⟩, zw hr (fun g hg => ho.block g (hr.lt g hg).2 (by have := hr.lt g hg; have := hlt g hg; omega)), hlt⟩
end
open Go.RowKit
def zbN (w : World) (B : Nat) (v : Value) (bs : List Nat) : Prop :=
 ∃ A c, v = .slice A bs.length c /\ bs.length <= c /\ (0 < bs.length -> ∃ b o, A = some ⟨b, o, none⟩ /\ b < B /\ ∀ k (h : k < bs.length), w.cell? ⟨b, o + k, none⟩ = some (.int .u8 (bs[k] : Nat)))
theorem zbN.off {w w' : World} {B : Nat} {v : Value} {bs : List Nat} (h : zbN w B v bs) (hb : ∀ k, k < B -> w'.heap[k]? = w.heap[k]?) : zbN w' B v bs := by
 obtain ⟨A, c, rfl, hc, h⟩ := h
 refine ⟨A, c, rfl, hc, fun hn => ?_⟩
 obtain ⟨b, o, rfl, hlt, hk⟩ := h hn
 refine ⟨b, o, rfl, hlt, fun k hkl => ?_⟩
 rw [<- hk k hkl]
 simp [World.cell?, hb b hlt]
def Rdr (w : World) (g : Nat) (bs : List Nat) (p : Nat) : Prop :=
 (∃ v, Blk w g 111 #[v, .int .i64 p] /\ zbN w g v bs) /\ bs.length <= 2000 /\ ∀ b ∈ bs, b < 256
theorem Rdr.lt {w : World} {g : Nat} {bs : List Nat} {p : Nat} (h : Rdr w g bs p) : g < w.heap.size := by
 obtain ⟨⟨v, hb, _⟩, _⟩ := h
 exact hb.lt
theorem Rdr.below {w w' : World} {g : Nat} {bs : List Nat} {p : Nat} (h : Rdr w g bs p) {B : Nat} (hb : Below B w w') (hB : g < B) : Rdr w' g bs p := by
 obtain ⟨⟨v, hv, hr⟩, h1, h2⟩ := h
 exact ⟨⟨v, hv.below hb hB, hr.off fun k hk => hb.block k (by omega)⟩, h1, h2⟩
theorem Rdr.next {w : World} {g : Nat} {bs : List Nat} {p : Nat} (h : Rdr w g bs p) : Rdr (w.setCell ⟨g, 1, none⟩ (.int .i64 ((p : Int) + 1))) g bs (p + 1) := by
 obtain ⟨⟨v, hv, hr⟩, h1, h2⟩ := h
 exact ⟨⟨v, by simpa using hv.set_ 1 (.int .i64 ((p : Int) + 1)), hr.off fun k hk => Below.heap_setCell _ _ _ _ (by show k ≠ g; omega)⟩, h1, h2⟩
def zdZ (w w' : World) (g : Nat) (bs : List Nat) (p : Nat) : Prop := Rdr w' g bs (p + 1) /\ zl g (g + 1) w w'
theorem zl4 {w : World} {g : Nat} {bs : List Nat} {p : Nat} (h : Rdr w g bs p) : zdZ w (w.setCell ⟨g, 1, none⟩ (.int .i64 ((p : Int) + 1))) g bs p :=
 ⟨h.next, (zl.refl g (g + 1) w).setCell (p := ⟨g, 1, none⟩) ⟨Nat.le_refl g, Nat.lt_succ_self g⟩ _⟩
theorem zdZ.drewN {w w' : World} {g : Nat} {bs : List Nat} {p : Nat} (h : zdZ w w' g bs p) (n : Nat) : zdZ w (w'.drewN n) g bs p :=
 ⟨h.1, ⟨h.2.os, h.2.tape, h.2.output, h.2.size, h.2.block⟩⟩
def ze1 (n x : Int) : Prop := (0 < n -> 0 <= x /\ x < n) /\ (n < 1 -> x = 0)
theorem ze1.of {n x : Int} (h1 : 1 <= n) (h : 0 <= x /\ x < n) : ze1 n x := ⟨fun _ => h, fun h2 => by omega⟩
theorem ze1.zero (n : Int) : ze1 n 0 := ⟨fun h => ⟨Int.le_refl _, h⟩, fun _ => rfl⟩
theorem zoz (X Y : Nat) (hX : X < 4611686018427387904) (hY : Y < 4611686018427387904) : bits .xor .i64 (X : Int) (Y : Int) = ((X ^^^ Y : Nat) : Int) /\ X ^^^ Y < 4611686018427387904 := by
 have hx : X ^^^ Y < 2 ^ 62 := Nat.xor_lt_two_pow (by omega) (by omega)
 refine ⟨?_, by omega⟩
 have h1 : (BitVec.ofInt 64 (X : Int)).toNat = X := by
  rw [BitVec.ofInt_natCast, BitVec.toNat_ofNat]; exact Nat.mod_eq_of_lt (by omega)
 have h2 : (BitVec.ofInt 64 (Y : Int)).toNat = Y := by
  rw [BitVec.ofInt_natCast, BitVec.toNat_ofNat]; exact Nat.mod_eq_of_lt (by omega)
 show IntKind.i64.wrap ((BitVec.ofInt 64 (X : Int) ^^^ BitVec.ofInt 64 (Y : Int)).toNat : Int) = _
 rw [BitVec.toNat_xor, h1, h2]
 simp [IntKind.wrap, IntKind.bits, IntKind.signed]
 omega
theorem zi2 {n y : Int} (h1 : 1 <= n) : 0 <= y % n /\ y % n < n := ⟨Int.emod_nonneg _ (by omega), Int.emod_lt_of_pos _ (by omega)⟩
set_option maxHeartbeats 1000000 in
theorem zak (g : Nat) (bs : List Nat) (p : Nat) (n : Int) (w : World) (h : Rdr w g bs p) (hp : p <= 1073741824) (hn : n <= 1073741824) :
 Calls Tryz.prog 53 #[.pointer (some ⟨g, 0, none⟩), .int .i64 n] w fun e w' => (∃ x, e = .returned (.int .i64 x) /\ ze1 n x) /\ zdZ w w' g bs p := by
 have HP := Lib.hid (zl4 h)
 have hN := h.next
 obtain ⟨⟨v, hv, hr⟩, hlen, hby⟩ := h
 obtain ⟨A, c, rfl, hc, ha⟩ := hr
 have c0 : w.cell? ⟨g, 1, none⟩ = some (.int .i64 p) := hv.cell 1
 have f0 : w.frozen? ⟨g, 1, none⟩ = false := hv.frozen 1
 have hB2 := hv.set_ 1 (.int .i64 ((p : Int) + 1))
 have d0 : (w.setCell ⟨g, 1, none⟩ (.int .i64 ((p : Int) + 1))).cell? ⟨g, 0, none⟩ = some (.slice A bs.length c) := by rw [hB2.cell 0]; rfl
 have d1 : (w.setCell ⟨g, 1, none⟩ (.int .i64 ((p : Int) + 1))).cell? ⟨g, 1, none⟩ = some (.int .i64 ((p : Int) + 1)) := by rw [hB2.cell 1]; simp
 by_cases h1 : n < 1
 ·clear ha hv hN hB2
  go_enter Tryz.func53, Tryz.ntmps53
  go_wp2_with (fail)
  go_ret
  exact ⟨⟨0, rfl, ze1.zero n⟩, HP.out⟩
 ·by_cases hl0 : bs.length = 0
  ·have hz : ((bs.length : Int) == 0) = true := by simp [hl0]
   have hd1 : decide (n < 1) = false := by simpa using h1
   clear ha hv hN hB2
   go_enter Tryz.func53, Tryz.ntmps53
   go_wp2_with (fail)
   go_ret
   exact ⟨⟨0, rfl, ze1.zero n⟩, HP.out⟩
  ·have hz : ((bs.length : Int) == 0) = false := by
    have : (bs.length : Int) ≠ 0 := by omega
    simpa using this
   have hd1 : decide (n < 1) = false := by simpa using h1
   obtain ⟨b, o, rfl, hbg, hx⟩ := ha (Nat.pos_of_ne_zero hl0)
   have hcell : ∀ k (h : k < bs.length), (w.setCell ⟨g, 1, none⟩ (.int .i64 ((p : Int) + 1))).cell? ⟨b, o + k, none⟩ = some (.int .u8 (bs[k] : Nat)) := fun k hk => by
    rw [<- hx k hk]
    simp only [World.cell?, Below.heap_setCell w ⟨g, 1, none⟩ (.int .i64 ((p : Int) + 1)) b (by exact Nat.ne_of_lt hbg)]
   by_cases hlt : p < bs.length
   ·have hck := hcell p hlt
    have hdl : decide ((p : Int) < bs.length) = true := by simp; omega
    have hbb : bs[p] < 256 := hby _ (List.getElem_mem hlt)
    generalize hbp : bs[p] = bp at *
    clear ha hv hN hB2 hx hcell hby
    go_enter Tryz.func53, Tryz.ntmps53
    go_wp2_with (fail)
    go_ret
    exact ⟨⟨_, rfl, ze1.of h1 (zi2 h1)⟩, HP.out⟩
   ·have hdl : decide ((p : Int) < bs.length) = false := by simp; omega
    have hL : 0 < bs.length := by omega
    have hm1 : p % bs.length < bs.length := Nat.mod_lt _ hL
    have hm2 : (p * 7 + 3) % bs.length < bs.length := Nat.mod_lt _ hL
    have hck1 := hcell _ hm1
    have hck2 := hcell _ hm2
    have hb1 : bs[p % bs.length] < 256 := hby _ (List.getElem_mem hm1)
    have hb2 : bs[(p * 7 + 3) % bs.length] < 256 := hby _ (List.getElem_mem hm2)
    have hi1 : (p : Int) % (bs.length : Int) = ((p % bs.length : Nat) : Int) := by simp
    have hi2 : ((p : Int) * 7 + 3) % (bs.length : Int) = (((p * 7 + 3) % bs.length : Nat) : Int) := by simp
    have hqd : ((p : Int) / (bs.length : Int)) = ((p / bs.length : Nat) : Int) := by simp
    have hqb : p / bs.length <= 1073741824 := Nat.le_trans (Nat.div_le_self _ _) hp
    generalize bs[p % bs.length] = b1 at *
    generalize bs[(p * 7 + 3) % bs.length] = b2 at *
    generalize p % bs.length = m1 at *
    generalize (p * 7 + 3) % bs.length = m2 at *
    generalize p / bs.length = q at *
    obtain ⟨X, hX, hXb⟩ : ∃ X : Nat, (b1 : Int) * 131 + (b2 : Int) * 1117 + (p : Int) * 29 + (q : Int) * 53 = (X : Int) /\ X < 1125899906842624 := ⟨b1 * 131 + b2 * 1117 + p * 29 + q * 53, by omega, by omega⟩
    obtain ⟨Y, hY, hYb⟩ : ∃ Y : Nat, (X : Int) / 64 = (Y : Int) /\ Y < 1125899906842624 := ⟨X / 64, by omega, by omega⟩
    obtain ⟨hxr, hxb⟩ := zoz X Y (by omega) (by omega)
    generalize X ^^^ Y = Z at *
    clear ha hv hN hB2 hx hcell hby
    go_enter Tryz.func53, Tryz.ntmps53
    go_wp2_with (fail)
    go_quiet (fail)
    go_wp2_with (fail)
    go_ret
    exact ⟨⟨_, rfl, ze1.of h1 (zi2 h1)⟩, HP.out.drewN _⟩
open Go.RowKit
section
variable {P : Program} (w : World)
theorem zcH (base : Nat) (t ty e : TypeId) (i : TypeInfo) (size : Nat) (ht : P.underlying t = some (.slice e)) (hi : P.info? e = some i)
 (v : Value) (n : Nat) (xs : List Value) (hown : w.ownsRow base e size v n xs) (c : Nat) : (Builtin.append_ #[t, t] ty #[v, .slice none 0 c]).run P w = .ok v w := by
 rcases hown.2 with ⟨rfl, rfl⟩ | ⟨g, cap, cur, rfl, _, _, hnc, _⟩
 ·simp [Builtin.append_, run_underlying ht, sizeOf, typeInfo, hi, Builtin.lenOf, Builtin.firstCells]
 ·simp [Builtin.append_, run_underlying ht, sizeOf, typeInfo, hi, Builtin.lenOf, Builtin.firstCells, hnc, storeCells]
theorem zjo (base : Nat) (t ty e : TypeId) (i : TypeInfo) (z : Value) (bytes : Nat) (ht : P.underlying t = some (.slice e)) (hi : P.info? e = some i) (hz : i.zero = some z)
 (hsize : i.size = 1) (hby : i.bytes = bytes) (hzs : z.cells.size = 1)
 (v : Value) (n : Nat) (xs : List Value) (hown : w.ownsRow base e 1 v n xs) (B : Nat) (x : Value) (ys : List Int) (hr : zv w B x ys)
 (h63 : n + ys.length <= maxLen) (hbytes : (n + ys.length) * bytes <= 140737488355328) (hbase : base <= w.heap.size) :
 ∃ A' c' w', (Builtin.append_ #[t, t] ty #[v, x]).run P w = .ok (.slice A' (n + ys.length) c') w' /\ w'.ownsRow base e 1 (.slice A' (n + ys.length) c') (n + ys.length) (xs ++ ys.map (Value.int .i64)) /\ w.grownBy w' v.ownBlock /\
  ((Value.slice A' (n + ys.length) c').ownBlock = v.ownBlock \/ (Value.slice A' (n + ys.length) c').ownBlock = some w.heap.size) := by
 have hform : ∀ {w' : World} {v' : Value} {m : Nat} {zs : List Value}, w'.ownsRow base e 1 v' m zs -> ∃ A c, v' = .slice A m c := by
  intro w' v' m zs h
  rcases h.2 with ⟨rfl, h0⟩ | ⟨g, cap, _, rfl, _⟩
  ·exact ⟨none, 0, by rw [h0]⟩
  ·exact ⟨_, _, rfl⟩
 obtain ⟨A, c, rfl, hc, hcell⟩ := hr
 rcases A with _ | ad
 ·have h0 : ys.length = 0 := by
   rcases Nat.eq_zero_or_pos ys.length with h0 | h0
   ·exact h0
   ·obtain ⟨b, o, e, _⟩ := hcell h0
    cases e
  have hys : ys = [] := List.eq_nil_of_length_eq_zero h0
  subst hys
  obtain ⟨A', c', hv⟩ := hform hown
  refine ⟨A', c', w, ?_, by simpa [<- hv] using hown, World.grownBy.refl w _, .inl (by rw [hv]; rfl)⟩
  simp only [List.length_nil, Nat.add_zero]
  rw [<- hv]
  exact zcH w base t ty e i 1 ht hi v n xs hown c
 ·have hnews : ∀ j u, (ys.map (Value.int .i64))[j]? = some u -> w.cell? (ad.add j) = some u := by
   intro j u hu
   have hj : j < ys.length := by
    rcases Nat.lt_or_ge j ys.length with h | h
    ·exact h
    ·rw [List.getElem?_eq_none (by simpa using h)] at hu; cases hu
   obtain ⟨b, o, e, _, hx⟩ := hcell (by omega)
   injection e with e
   subst e
   rw [Go.WideShapes.add_plain, hx j hj]
   rw [List.getElem?_map, List.getElem?_eq_getElem hj] at hu
   exact hu
  obtain ⟨v', w', hrun, h2, h3, _, h5⟩ := run_append_own_at (P := P) w base t ty e i z 1 bytes ht hi hz hsize hby hzs (by decide) v n xs hown ad ys.length c (ys.map (Value.int .i64)) (by simp) hnews
   (fun u hu => by simp at hu; obtain ⟨q, _, rfl⟩ := hu; rfl) h63 hbytes hbase
  obtain ⟨A', c', hv⟩ := hform h2
  subst hv
  exact ⟨A', c', w', hrun, h2, h3, h5⟩
theorem zj2 {o : Oper} {a : Act} {K : Act -> World -> Prop} {Q : Exit -> Act -> World -> Prop} (s x : Operand) (t : TypeId)
 (ho : o.op = .call { callee := .builtin .append, args := #[s, x], argTypes := #[t, t] })
 (base : Nat) (e : TypeId) (i : TypeInfo) (z : Value) (bytes : Nat) (ht : P.underlying t = some (.slice e)) (hi : P.info? e = some i) (hz : i.zero = some z)
 (hsize : i.size = 1) (hby : i.bytes = bytes) (hzs : z.cells.size = 1)
 (v : Value) (n : Nat) (xs : List Value) (hs : a.eval s = v) (hown : w.ownsRow base e 1 v n xs) (B : Nat) (xv : Value) (ys : List Int) (hx : a.eval x = xv) (hr : zv w B xv ys)
 (h63 : n + ys.length <= maxLen) (hbytes : (n + ys.length) * bytes <= 140737488355328) (hbase : base <= w.heap.size)
 (h : ∀ A' c' w', w'.ownsRow base e 1 (.slice A' (n + ys.length) c') (n + ys.length) (xs ++ ys.map (Value.int .i64)) -> w.grownBy w' v.ownBlock ->
   ((Value.slice A' (n + ys.length) c').ownBlock = v.ownBlock \/ (Value.slice A' (n + ys.length) c').ownBlock = some w.heap.size) -> K (a.put o.dst (.slice A' (n + ys.length) c')) w') : o.wp P a w K Q := by
 obtain ⟨A', c', w', hrun, h2, h3, h4⟩ := zjo (P := P) w base t o.type e i z bytes ht hi hz hsize hby hzs v n xs hown B xv ys hr h63 hbytes hbase
 unfold Oper.wp execOp
 simp only [ho, resolve, invoke, builtin, Sem.run_bind, Sem.run_pure, Result.andThen_ok, List.map_toArray, List.map_cons, List.map_nil, hs, hx, hrun]
 exact h A' c' w' h2 h3 h4
theorem ziq {ops : Array Oper} {o : Oper} {a : Act} {K : Act -> World -> Prop} {Q : Exit -> Act -> World -> Prop} {E : Prop} (hgd : o.guard = none) (s x : Operand) (t : TypeId)
 (ho : o.op = .call { callee := .builtin .append, args := #[s, x], argTypes := #[t, t] })
 (base : Nat) (e : TypeId) (i : TypeInfo) (z : Value) (bytes : Nat) (ht : P.underlying t = some (.slice e)) (hi : P.info? e = some i) (hz : i.zero = some z)
 (hsize : i.size = 1) (hby : i.bytes = bytes) (hzs : z.cells.size = 1)
 (v : Value) (n : Nat) (xs : List Value) (hs : a.eval s = v) (hown : w.ownsRow base e 1 v n xs) (B : Nat) (xv : Value) (ys : List Int) (hx : a.eval x = xv) (hr : zv w B xv ys)
 (h63 : n + ys.length <= maxLen) (hbytes : (n + ys.length) * bytes <= 140737488355328) (hbase : base <= w.heap.size)
 (h : ∀ A' c' w', w'.ownsRow base e 1 (.slice A' (n + ys.length) c') (n + ys.length) (xs ++ ys.map (Value.int .i64)) -> w.grownBy w' v.ownBlock ->
   ((Value.slice A' (n + ys.length) c').ownBlock = v.ownBlock \/ (Value.slice A' (n + ys.length) c').ownBlock = some w.heap.size) -> K (a.put o.dst (.slice A' (n + ys.length) c')) w') :
 if Region.wanted o (yielded ops a.tmps) = true then Oper.wp P o a w K Q else E := by
 have hw : Region.wanted o (yielded ops a.tmps) = true := by simp [Region.wanted, hgd]
 rw [if_pos hw]
 exact zj2 w s x t ho base e i z bytes ht hi hz hsize hby hzs v n xs hs hown B xv ys hx hr h63 hbytes hbase h
end
open Go.RowKit
theorem zl.blk {lo hi : Nat} {w w' : World} (h : zl lo hi w w') {g : Nat} {t : TypeId} {cs : Array Value} (hb : Blk w g t cs) (hg : g < lo \/ hi <= g) : Blk w' g t cs := (h.block g hb.lt hg).trans hb
set_option maxHeartbeats 1000000 in
theorem zky (v : Value) (f : zd) (w : World) (h : zU w w.heap.size v f) (hn : f.2.length <= 1073741824) :
 Calls Tryz.prog 83 #[v] w fun e w' => ∃ A' c', e = .returned (.agg #[.int .i64 f.1, .slice A' f.2.length c']) /\ zg w' w.heap.size w'.heap.size (.slice A' f.2.length c') f.2 /\ Below w.heap.size w w' := by
 obtain ⟨i0, hi0, hz0, hz1, hz2⟩ := info_parts Tryz.infoInt
 obtain ⟨a, rfl, h⟩ := h
 have H := Lib.hid h
 obtain ⟨A, c, rfl, hc, _⟩ := h
 go_enter Tryz.func83, Tryz.ntmps83
 go_wp2_with (fail)
 obtain ⟨w1, hw1⟩ : ∃ w1, w1 = ((w.alloc (Obj.cells #[Value.int IntKind.i64 f.1, Value.slice A f.2.length c] 39)).alloc (Obj.cells #[Value.int IntKind.i64 0, Value.slice none 0 0] 39)) := ⟨_, rfl⟩
 have B1 : Below w.heap.size w w1 := by rw [hw1]; exact za0 _ _ _
 have hsz1 : w1.heap.size = w.heap.size + 2 := by rw [hw1]; simp
 have HZ := Lib.hid hsz1
 have k0 : Blk w1 w.heap.size 39 #[.int .i64 f.1, .slice A f.2.length c] := by rw [hw1]; exact (Blk.new w _ _).alloc _
 have k1 : Blk w1 (w.heap.size + 1) 39 #[.int .i64 0, .slice none 0 0] := by rw [hw1]; simpa using Blk.new (w.alloc (Obj.cells #[Value.int IntKind.i64 f.1, Value.slice A f.2.length c] 39)) 39 #[.int .i64 0, .slice none 0 0]
 rw [<- hw1]
 clear hw1 hsz1
 have HS0 := Lib.hid (show ∀ W, Below w1.heap.size w1 W -> (Below w.heap.size w W /\ W.cell? ⟨w.heap.size, 0, none⟩ = some (.int .i64 f.1) /\ W.cell? ⟨w.heap.size, 1, none⟩ = some (.slice A f.2.length c) /\ ∃ u0 u1, Blk W (w.heap.size + 1) 39 #[u0, u1]) from
  fun W hW => ⟨zf B1 hW, (k0.below hW k0.lt).cell 0, (k0.below hW k0.lt).cell 1, _, _, k1.below hW k1.lt⟩)
 have HS1 := Lib.hid (show ∀ W W', (Below w.heap.size w W /\ W.cell? ⟨w.heap.size, 0, none⟩ = some (.int .i64 f.1) /\ W.cell? ⟨w.heap.size, 1, none⟩ = some (.slice A f.2.length c) /\ ∃ u0 u1, Blk W (w.heap.size + 1) 39 #[u0, u1]) -> W.grownBy W' none ->
  (Below w.heap.size w W' /\ W'.cell? ⟨w.heap.size, 0, none⟩ = some (.int .i64 f.1) /\ W'.cell? ⟨w.heap.size, 1, none⟩ = some (.slice A f.2.length c) /\ ∃ u0 u1, Blk W' (w.heap.size + 1) 39 #[u0, u1]) from
  fun W W' ⟨a1, a2, a3, u0, u1, a4⟩ hg => ⟨a1.trans (Below.grown (Below.refl _ _) hg a1.size (fun k hk => by cases hk)), hg.cell a2 (by simp), hg.cell a3 (by simp), u0, u1, (hg.block _ a4.lt (by simp)).trans a4⟩)
 have HS2 := Lib.hid (show ∀ W i v, (Below w.heap.size w W /\ W.cell? ⟨w.heap.size, 0, none⟩ = some (.int .i64 f.1) /\ W.cell? ⟨w.heap.size, 1, none⟩ = some (.slice A f.2.length c) /\ ∃ u0 u1, Blk W (w.heap.size + 1) 39 #[u0, u1]) ->
  (Below w.heap.size w (W.setCell ⟨w.heap.size + 1, i, none⟩ v) /\ (W.setCell ⟨w.heap.size + 1, i, none⟩ v).cell? ⟨w.heap.size, 0, none⟩ = some (.int .i64 f.1) /\ (W.setCell ⟨w.heap.size + 1, i, none⟩ v).cell? ⟨w.heap.size, 1, none⟩ = some (.slice A f.2.length c) /\ ∃ u0 u1, Blk (W.setCell ⟨w.heap.size + 1, i, none⟩ v) (w.heap.size + 1) 39 #[u0, u1]) from
  fun W i v ⟨a1, a2, a3, u0, u1, a4⟩ => ⟨a1.setCell (by show w.heap.size <= w.heap.size + 1; omega) _, by rw [World.cell?_setCell_other _ _ _ _ (by simp)]; exact a2, by rw [World.cell?_setCell_other _ _ _ _ (by simp)]; exact a3, by
   have h := a4.set_ i v
   match i with
   | 0 => exact ⟨_, _, h⟩
   | 1 => exact ⟨_, _, h⟩
   | i + 2 => exact ⟨u0, u1, h⟩⟩)
 have HS3 := Lib.hid (show ∀ (W : World) (v' : Value), (Below w.heap.size w W /\ W.cell? ⟨w.heap.size, 0, none⟩ = some (.int .i64 f.1) /\ W.cell? ⟨w.heap.size, 1, none⟩ = some (.slice A f.2.length c) /\ ∃ u0 u1, Blk W (w.heap.size + 1) 39 #[u0, u1]) ->
  (v'.ownBlock = (Value.slice none 0 0).ownBlock \/ v'.ownBlock = some W.heap.size) -> ∀ g, v'.ownBlock = some g -> g ≠ w.heap.size + 1 from
  fun W v' ⟨_, _, _, u0, u1, a4⟩ h g hg => by
   have := a4.lt
   rcases h with h | h
   ·rw [h] at hg; cases hg
   ·rw [h] at hg; injection hg; omega)
 go_region_held3 (fun W => Below w.heap.size w W /\ W.cell? ⟨w.heap.size, 0, none⟩ = some (.int .i64 f.1) /\ W.cell? ⟨w.heap.size, 1, none⟩ = some (.slice A f.2.length c) /\ ∃ u0 u1, Blk W (w.heap.size + 1) 39 #[u0, u1])
  (first | assumption | exact HS0.out _ (Below.refl _ _) | exact HS0.out _ (Below.refl _ _).drew | exact HS1.out _ _ (by assumption) (by assumption) | exact HS2.out _ _ _ (HS2.out _ _ _ (by assumption)))
  (first
    | (refine ziq _ rfl (.const (.slice none 0 0)) (.tmp 6) 23 rfl w.heap.size 3 i0 (.int .i64 0) 8 Tryz.underlying23 hi0 hz0 hz1 hz2 rfl (.slice none 0 0) 0 [] rfl (World.ownsRow_nil _ _ _ _) w.heap.size _ f.2 rfl ?_ (by unfold maxLen; omega) (by omega) ?_ ?_
       ·exact H.out.below (And.left (by assumption)) (Nat.le_refl _)
       ·exact Below.size (And.left (by assumption))
       intro A' c' w2 hown hg hat
       have hne := HS3.out _ _ (by assumption) hat
       obtain ⟨hbe, _, _, u0, u1, hblk⟩ := HS1.out _ _ (by assumption) hg
       have c0 : w2.cell? ⟨w.heap.size + 1, 0, none⟩ = some u0 := hblk.cell 0
       have c1 : w2.cell? ⟨w.heap.size + 1, 1, none⟩ = some u1 := hblk.cell 1
       have f0 := hblk.frozen 0
       have f1 := hblk.frozen 1
       have HO := Lib.hid (show zg w2 w.heap.size w2.heap.size (.slice A' f.2.length c') f.2 from ⟨by simpa using hown, fun g hg' => (hown.lt g (by simpa using hg')).2⟩)
       clear hown hat))
 all_goals
  go_wp2_with (fail)
  refine bodyPost_ret (v := .agg #[.int .i64 f.1, .slice A' f.2.length c']) (by simp [results, Tryz.results83, go_sem, c0, c1]) rfl ⟨_, _, rfl, ?_, ?_⟩
  ·exact (HO.out.kept (fun g hg' => (Below.heap_setCell _ _ _ _ (hne g (by simpa using hg'))).trans (Below.heap_setCell _ _ _ _ (hne g (by simpa using hg'))))).mono (Nat.le_refl _) (by simp)
  ·exact (hbe.setCell (by show w.heap.size <= w.heap.size + 1; omega) _).setCell (by show w.heap.size <= w.heap.size + 1; omega) _
end Go.Proofs.YtofkcmihcgmmpaaGreatDoor
