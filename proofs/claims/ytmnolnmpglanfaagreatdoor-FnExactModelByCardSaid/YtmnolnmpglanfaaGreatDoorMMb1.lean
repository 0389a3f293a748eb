/-
  Texts that the claim's last one imports, laid together: part 1 of 15. No condition of its own.
-/
import Derived.Below
import Derived.Laws.OwnMore
import Derived.Deep.AppendLies
import Derived.Deep.Draws
import Derived.Deep.OwnRows
import Derived.Lib.Hide
import Derived.OwnWalk
import Derived.Deep.QuietTactic
import Derived.Laws.MakeOwn
import Derived.Laws.Entries
import Derived.Test.YtmnolnmpglanfaaGreatDoorChecked
import Derived.ProofKit
import Derived.OpenShut
import Derived.ChangeOld
import Derived.WalkKit
import Derived.Deep.Slices
import Derived.Deep.Fields
import Derived.ChangeSame
import Derived.Lib.SmallJoins
import Derived.KernelRfl
import Derived.WalkSpells
import Derived.WalkLawsBesides
import Derived.BigQuiet
import Derived.Maps.AppendAt
import Derived.StillTailTactics
namespace Go.Proofs.YtmnolnmpglanfaaGreatDoor
open Go.RowKit
theorem bdrewN {B : Nat} {a w : World} (h : Below B a w) (n : Nat) : Below B a (w.drewN n) := ⟨h.os, h.tape, h.output, h.size, h.block⟩
theorem below1 (w : World) (o : Obj) : Below w.heap.size w (w.alloc o) := (Below.refl _ _).alloc (Nat.le_refl _) _
theorem below2 (w : World) (o p : Obj) : Below w.heap.size w ((w.alloc o).alloc p) := (below1 w o).alloc (by simp) _
theorem below3 (w : World) (o p q : Obj) : Below w.heap.size w (((w.alloc o).alloc p).alloc q) := (below2 w o p).alloc (by simp; omega) _
theorem bthen {w w1 w2 : World} (h : Below w.heap.size w w1) (k : Below w1.heap.size w1 w2) : Below w.heap.size w w2 := h.trans (k.mono h.size)
theorem ret_bool {a b : Bool} (h : a = b) : Ending.returned (.bool a) = .returned (.bool b) := by rw [h]
theorem ret_int {k : IntKind} {a b : Int} (h : a = b) : Ending.returned (.int k a) = .returned (.int k b) := by rw [h]
def RdInts (w : World) (B : Nat) (v : Value) (xs : List Int) : Prop :=
 ∃ A c, v = .slice A xs.length c /\ xs.length <= c /\ (0 < xs.length -> ∃ b o, A = some ⟨b, o, none⟩ /\ b < B /\ ∀ k (h : k < xs.length), w.cell? ⟨b, o + k, none⟩ = some (.int .i64 xs[k]))
theorem RdInts.below {w w' : World} {B B' : Nat} {v : Value} {xs : List Int} (h : RdInts w B v xs) (hb : Below B' w w') (hB : B <= B') : RdInts w' B v xs := by
 obtain ⟨A, c, rfl, hc, h⟩ := h
 refine ⟨A, c, rfl, hc, fun hn => ?_⟩
 obtain ⟨b, o, rfl, hlt, hk⟩ := h hn
 exact ⟨b, o, rfl, hlt, fun k hkl => (hb.cell (p := ⟨b, o + k, none⟩) (by show b < B'; omega)).trans (hk k hkl)⟩
theorem RdInts.more {w : World} {B B' : Nat} {v : Value} {xs : List Int} (h : RdInts w B v xs) (hB : B <= B') : RdInts w B' v xs := by
 obtain ⟨A, c, rfl, hc, h⟩ := h
 refine ⟨A, c, rfl, hc, fun hn => ?_⟩
 obtain ⟨b, o, rfl, hlt, hk⟩ := h hn
 exact ⟨b, o, rfl, by omega, hk⟩
def OwnInts (w : World) (lo hi : Nat) (v : Value) (xs : List Int) : Prop :=
 w.ownsRow lo 3 1 v xs.length (xs.map (Value.int .i64)) /\ ∀ g, v.ownBlock = some g -> g < hi
theorem OwnInts.rd {w : World} {lo hi : Nat} {v : Value} {xs : List Int} (h : OwnInts w lo hi v xs) : RdInts w hi v xs := by
 obtain ⟨h, hlt⟩ := h
 have hcells := @World.ownsRow.cells w lo 3 1 v xs.length (xs.map (Value.int .i64)) h
 obtain ⟨hlen, h⟩ := h
 rcases h with ⟨rfl, h0⟩ | ⟨g, cap, cur, rfl, hb, hg, hn, hm, hs, ht⟩
 ·have : xs = [] := List.eq_nil_of_length_eq_zero h0
  subst this
  exact ⟨none, 0, rfl, by simp, fun h => absurd h (by simp)⟩
 ·refine ⟨_, cap, rfl, hn, fun _ => ⟨g, 0, rfl, hlt g rfl, fun k hk => ?_⟩⟩
  have := hcells (g := g) rfl k (.int .i64 xs[k]) (by simp [hk])
  have e : (⟨g, 0, none⟩ : Addr).add k = ⟨g, 0 + k, none⟩ := by unfold Addr.add; split <;> simp_all
  rw [<- e]
  exact this
theorem OwnInts.below {w w' : World} {lo hi B : Nat} {v : Value} {xs : List Int} (h : OwnInts w lo hi v xs) (hb : Below B w w') (hB : hi <= B) : OwnInts w' lo hi v xs := by
 obtain ⟨⟨hlen, h⟩, hlt⟩ := h
 refine ⟨⟨hlen, ?_⟩, hlt⟩
 rcases h with h | ⟨g, cap, cur, rfl, hbg, hg, r⟩
 ·exact .inl h
 ·exact .inr ⟨g, cap, cur, rfl, hbg, by rw [hb.block g (by have := hlt g rfl; omega)]; exact hg, r⟩
theorem OwnInts.mono {w : World} {lo hi lo' hi' : Nat} {v : Value} {xs : List Int} (h : OwnInts w lo hi v xs) (h1 : lo' <= lo) (h2 : hi <= hi') : OwnInts w lo' hi' v xs := by
 obtain ⟨⟨hlen, h⟩, hlt⟩ := h
 refine ⟨⟨hlen, ?_⟩, fun g hg => by have := hlt g hg; omega⟩
 rcases h with h | ⟨g, cap, cur, rfl, hbg, r⟩
 ·exact .inl h
 ·exact .inr ⟨g, cap, cur, rfl, by omega, r⟩
theorem OwnInts.set {w : World} {lo hi : Nat} {v : Value} {xs : List Int} (h : OwnInts w lo hi v xs) {p : Addr} (hp : p.block < lo \/ hi <= p.block) (u : Value) : OwnInts (w.setCell p u) lo hi v xs := by
 obtain ⟨⟨hlen, h⟩, hlt⟩ := h
 refine ⟨⟨hlen, ?_⟩, hlt⟩
 rcases h with h | ⟨g, cap, cur, rfl, hbg, hg, r⟩
 ·exact .inl h
 ·exact .inr ⟨g, cap, cur, rfl, hbg, by rw [Below.heap_setCell _ _ _ _ (by have := hlt g rfl; omega)]; exact hg, r⟩
theorem OwnInts.of_rowIs {w : World} {g lo hi : Nat} {xs : List Int} (h : w.rowIs g 3 xs.length (fun j => .int .i64 (xs.getD j 0))) (hlo : lo <= g) (hhi : g < hi) (hm : xs.length <= maxLen) :
 OwnInts w lo hi (.slice (some ⟨g, 0, none⟩) xs.length xs.length) xs := by
 obtain ⟨c, hb, hn, hc⟩ := h
 refine ⟨⟨by simp, .inr ⟨g, xs.length, c, rfl, hlo, hb, Nat.le_refl _, hm, by simp [hn], ?_⟩⟩, fun g' hg' => ?_⟩
 ·apply List.ext_getElem?
  intro j
  by_cases hj : j < xs.length
  ·rw [List.getElem?_take_of_lt (by omega), Array.getElem?_toList, hc j hj]
   simp [hj]
  ·rw [List.getElem?_eq_none (by simp; omega), List.getElem?_eq_none (by simp; omega)]
 ·simp [Value.ownBlock] at hg'
  omega
def Blk (w : World) (g : Nat) (t : TypeId) (cs : Array Value) : Prop := w.heap[g]? = some (.cells cs t (0, 0))
section
variable {w w' : World} {g : Nat} {t : TypeId} {cs : Array Value}
theorem Blk.lt (h : Blk w g t cs) : g < w.heap.size := by
 rcases Nat.lt_or_ge g w.heap.size with hlt | hge
 ·exact hlt
 ·unfold Blk at h; rw [Array.getElem?_eq_none hge] at h; cases h
theorem Blk.cell (h : Blk w g t cs) (i : Nat) : w.cell? ⟨g, i, none⟩ = cs[i]? := cell_of_row w g i cs t (0, 0) h
theorem Blk.frozen (h : Blk w g t cs) (i : Nat) : w.frozen? ⟨g, i, none⟩ = false := by
 unfold Blk at h
 simp [World.frozen?, h]
theorem Blk.new (w : World) (t : TypeId) (cs : Array Value) : Blk (w.alloc (.cells cs t)) w.heap.size t cs := heap_alloc_new w _
theorem Blk.alloc (h : Blk w g t cs) (o : Obj) : Blk (w.alloc o) g t cs := (Below.heap_alloc w o g h.lt).trans h
theorem Blk.drewN (h : Blk w g t cs) (n : Nat) : Blk (w.drewN n) g t cs := h
theorem Blk.set_ (h : Blk w g t cs) (i : Nat) (u : Value) : Blk (w.setCell ⟨g, i, none⟩ u) g t (cs.setIfInBounds i u) := by
 unfold Blk at h ⊢
 simp [World.setCell, Array.getElem?_modify, h]
theorem Blk.far (h : Blk w g t cs) {p : Addr} (hp : g ≠ p.block) (u : Value) : Blk (w.setCell p u) g t cs := (Below.heap_setCell w p u g hp).trans h
theorem Blk.below {B : Nat} (h : Blk w g t cs) (hb : Below B w w') (hg : g < B) : Blk w' g t cs := (hb.block g hg).trans h
end
theorem run_make_rowN {P : Program} (t e : TypeId) (i : TypeInfo) (z : Value) (ht : P.underlying t = some (.slice e)) (hi : P.info? e = some i) (hz : i.zero = some z)
 (kl kc : IntKind) (n c : Nat) (hnc : n <= c) (hbytes : i.bytes * c <= 281474976710656) (h63 : c <= 9223372036854775807) (w : World) :
 (Instr.makeSlice t (.int kl (n : Int)) (.int kc (c : Int))).run P w = .ok (.slice (some ⟨w.heap.size, 0, none⟩) n c) (w.alloc (.cells (madeCells z.cells (c * i.size)) e)) := by
 have hb : (i.bytes : Int) * (c : Int) <= 281474976710656 := by
  have h : ((i.bytes * c : Nat) : Int) <= 281474976710656 := by omega
  rwa [Int.natCast_mul] at h
 have hr := run_make (P := P) w t e i z ht hi hz kl kc n c (by omega) (by omega) hb (by omega)
 simp only [Int.toNat_natCast] at hr
 exact hr
theorem quiet_left {P : Program} {f : FuncId} {args : Array Value} {w : World} {n : Nat} {v : Value}
 (h : Calls P f args (w.drewN n) fun e w' => e = .returned v /\ w.drewN n = w') : Calls P f args (w.drewN n) fun e w'' => e = .returned v /\ ∃ m, w'' = w.drewN m :=
 h.mono fun _ _ ⟨he, hm⟩ => ⟨he, n, hm.symm⟩
theorem quiet_add_left {P : Program} {f : FuncId} {args : Array Value} {w : World} {a n : Nat} {v : Value}
 (h : Calls P f args (w.drewN (a + n)) fun e w' => e = .returned v /\ w.drewN (a + n) = w') :
 Calls P f args (w.drewN (a + n)) fun e w'' => e = .returned v /\ ∃ m, w'' = w.drewN (a + m) :=
 h.mono fun _ _ ⟨he, hm⟩ => ⟨he, n, hm.symm⟩
theorem rdInts_pair (w : World) (a b : Int) : RdInts (w.alloc (.cells #[.int .i64 a, .int .i64 b] 3)) (w.alloc (.cells #[.int .i64 a, .int .i64 b] 3)).heap.size (.slice (some ⟨w.heap.size, 0, none⟩) 2 2) [a, b] := by
 have hb := Blk.new w 3 #[.int .i64 a, .int .i64 b]
 refine ⟨_, 2, rfl, by simp, fun _ => ⟨w.heap.size, 0, rfl, by simp, fun k hk => ?_⟩⟩
 match k, hk with
 | 0, _ => exact hb.cell 0
 | 1, _ => exact hb.cell 1
open Go.RowKit
abbrev LFact := Int × List Int
def RdFact (w : World) (B : Nat) (v : Value) (f : LFact) : Prop := ∃ a, v = .agg #[.int .i64 f.1, a] /\ RdInts w B a f.2
theorem RdFact.below {w w' : World} {B B' : Nat} {v : Value} {f : LFact} (h : RdFact w B v f) (hb : Below B' w w') (hB : B <= B') : RdFact w' B v f := by
 obtain ⟨a, rfl, h⟩ := h
 exact ⟨a, rfl, h.below hb hB⟩
theorem RdFact.more {w : World} {B B' : Nat} {v : Value} {f : LFact} (h : RdFact w B v f) (hB : B <= B') : RdFact w B' v f := by
 obtain ⟨a, rfl, h⟩ := h
 exact ⟨a, rfl, h.more hB⟩
theorem RdInts.on {w w' : World} {v : Value} {xs : List Int} (h : RdInts w w.heap.size v xs) (hb : Below w.heap.size w w') : RdInts w' w'.heap.size v xs := (h.below hb (Nat.le_refl _)).more hb.size
theorem RdFact.on {w w' : World} {v : Value} {f : LFact} (h : RdFact w w.heap.size v f) (hb : Below w.heap.size w w') : RdFact w' w'.heap.size v f := (h.below hb (Nat.le_refl _)).more hb.size
def szV (left : Int) (n : Nat) : Int := if left < n then -1 else left - n
theorem szV_cases (left : Int) (n : Nat) : (szV left n = -1 /\ left < n) \/ (0 <= szV left n /\ szV left n + n = left) := by
 unfold szV
 split <;> omega
theorem take_snoc {α : Type} (l : List α) (k : Nat) (h : k < l.length) : l.take (k + 1) = l.take k ++ [l[k]] := by
 rw [List.take_succ_eq_append_getElem h]
theorem grown_from_alloc {w w' : World} {o : Obj} {row : Option Nat} (hg : (w.alloc o).grownBy w' row) : w.grownBy w' row :=
 (World.grownBy_alloc w o row).trans hg
structure Only (lo hi : Nat) (w w' : World) : Prop where
 os : w'.os = w.os
 tape : w'.tape = w.tape
 output : w'.output = w.output
 size : w.heap.size <= w'.heap.size
 block : ∀ k, k < w.heap.size -> (k < lo \/ hi <= k) -> w'.heap[k]? = w.heap[k]?
section
variable {lo hi lo' hi' : Nat} {w w1 w' : World}
theorem Only.refl (lo hi : Nat) (w : World) : Only lo hi w w := ⟨rfl, rfl, rfl, Nat.le_refl _, fun _ _ _ => rfl⟩
theorem Only.trans (h : Only lo hi w w1) (k : Only lo hi w1 w') : Only lo hi w w' :=
 ⟨k.os.trans h.os, k.tape.trans h.tape, k.output.trans h.output, Nat.le_trans h.size k.size, fun i hi' ho => (k.block i (Nat.lt_of_lt_of_le hi' h.size) ho).trans (h.block i hi' ho)⟩
theorem Only.of_below (h : Below w.heap.size w w') : Only lo hi w w' := ⟨h.os, h.tape, h.output, h.size, fun k hk _ => h.block k hk⟩
theorem Only.of_grown {row : Option Nat} (h : w.grownBy w' row) (hr : ∀ g, row = some g -> lo <= g /\ g < hi) : Only lo hi w w' :=
 ⟨h.os, h.tape, h.output, h.size, fun k hk ho => h.block k hk (fun e => by have := hr k e.symm; omega)⟩
theorem Only.setCell (h : Only lo hi w w1) {p : Addr} (hp : lo <= p.block /\ p.block < hi) (u : Value) : Only lo hi w (w1.setCell p u) :=
 h.trans ⟨rfl, rfl, rfl, by simp [World.setCell], fun k _ ho => Below.heap_setCell _ _ _ _ (by omega)⟩
theorem Only.below (h : Only lo hi w w') {B : Nat} (hB : B <= lo) (hs : B <= w.heap.size) : Below B w w' := ⟨h.os, h.tape, h.output, h.size, fun k hk => h.block k (by omega) (.inl (by omega))⟩
theorem Only.then_ {w0 : World} (hb : Below w0.heap.size w0 w) (h : Only lo hi w w') (hl : w0.heap.size <= lo) : Below w0.heap.size w0 w' := hb.trans (h.below hl hb.size)
theorem OwnInts.form {v : Value} {xs : List Int} (h : OwnInts w lo hi v xs) : ∃ A c, v = .slice A xs.length c := by
 rcases h.1.2 with ⟨rfl, h0⟩ | ⟨g, cap, _, rfl, _⟩
 ·exact ⟨none, 0, by rw [h0]⟩
 ·exact ⟨_, _, rfl⟩
theorem OwnInts.lt {v : Value} {xs : List Int} (h : OwnInts w lo hi v xs) {g : Nat} (hg : v.ownBlock = some g) : lo <= g /\ g < hi /\ g < w.heap.size := ⟨(h.1.lt g hg).1, h.2 g hg, (h.1.lt g hg).2⟩
theorem ownsRow_only {e : TypeId} {size n : Nat} {v : Value} {xs : List Value} (h : w.ownsRow lo e size v n xs) (hb : ∀ g, v.ownBlock = some g -> w'.heap[g]? = w.heap[g]?) : w'.ownsRow lo e size v n xs := by
 obtain ⟨hlen, h⟩ := h
 refine ⟨hlen, ?_⟩
 rcases h with h | ⟨g, cap, cur, rfl, hbg, hg, r⟩
 ·exact .inl h
 ·exact .inr ⟨g, cap, cur, rfl, hbg, by rw [hb g rfl]; exact hg, r⟩
theorem OwnInts.kept {v : Value} {xs : List Int} (h : OwnInts w lo hi v xs) (hb : ∀ g, v.ownBlock = some g -> w'.heap[g]? = w.heap[g]?) : OwnInts w' lo hi v xs := ⟨ownsRow_only h.1 hb, h.2⟩
theorem OwnInts.only {v : Value} {xs : List Int} (h : OwnInts w lo hi v xs) (ho : Only lo' hi' w w') (hd : hi <= lo' \/ hi' <= lo) : OwnInts w' lo hi v xs :=
 h.kept fun g hg => ho.block g (h.lt hg).2.2 (by have := h.lt hg; omega)
theorem OwnInts.store {A : Option Addr} {c g : Nat} {xs : List Int} (h : OwnInts w lo hi (.slice A xs.length c) xs) (hA : A = some ⟨g, 0, none⟩) {j : Nat} (_hj : j < xs.length) (u : Int) :
 OwnInts (w.setCell ⟨g, j, none⟩ (.int .i64 u)) lo hi (.slice A xs.length c) (xs.set j u) := by
 subst hA
 obtain ⟨⟨hlen, h⟩, hlt⟩ := h
 refine ⟨⟨by simp, .inr ?_⟩, hlt⟩
 rcases h with ⟨e, _⟩ | ⟨g', cap, cur, e, hbg, hg, hn, hm, hs, ht⟩
 ·cases e
 ·injection e with e1 e2 e3
  injection e1 with e1
  injection e1 with e1 _ _
  subst e1
  subst e3
  refine ⟨g, c, cur.setIfInBounds j (.int .i64 u), by simp, hbg, ?_, by simpa using hn, hm, by simpa using hs, ?_⟩
  ·simp [World.setCell, Array.getElem?_modify, hg]
  ·simp only [Nat.mul_one, List.length_set, Array.toList_setIfInBounds] at ht ⊢
   rw [List.take_set, ht, List.map_set]
theorem Blk.only {lo hi : Nat} {w w' : World} {g : Nat} {t : TypeId} {cs : Array Value} (h : Blk w g t cs) (ho : Only lo hi w w') (hg : g < lo \/ hi <= g) : Blk w' g t cs := (ho.block g h.lt hg).trans h
end
open Go.ChangeShapes Go.WideShapes Go.ChangeAt Go.RowKit Go.Joins Go.Deep
theorem Tryz.own : ownKnob Tryz.prog.godebug = none := by kernel_rfl
theorem Tryz.laidOut : laidOutB Tryz.prog = true := by kernel_rfl
theorem Tryz.cells3 : Tryz.prog.cellsOf 3 = 1 := by kernel_rfl
theorem Tryz.cells22 : Tryz.prog.cellsOf 22 = 1 := by kernel_rfl
section
variable {H : Type} {enc : TypeId × Value -> H} {W : World}
def InInts (W : World) (v : Value) (xs : List Int) : Prop := RdInts W W.heap.size v xs /\ xs.length <= maxLen
theorem open_inInts_cells {fuel : Nat} {v : Value} {x : DataW H × List MemPlace} (h : DataW.trod enc Tryz.prog W 0 (fun _ => true) true fuel 22 [v] = some x) : ∃ xs, InInts W v xs := by
 rcases open_ints Tryz.underlying22 Tryz.underlying3 Tryz.cells3 h with ⟨hcs, _⟩ | ⟨a, len, cap, zs, hcs, _, hl, hm, hz, _, hcell, _⟩
 ·simp at hcs
  subst hcs
  exact ⟨[], ⟨none, 0, rfl, by simp, fun h => absurd h (by simp)⟩, by simp⟩
 ·simp at hcs
  subst hcs
  simp at hz
  refine ⟨zs.take len, ⟨some a, cap, ?_, by simp; omega, fun hn => ?_⟩, by simp; omega⟩
  ·congr 1
   simp
   omega
  ·have hlen : (zs.take len).length = len := by simp; omega
   obtain ⟨b, o, rfl, hc⟩ := ints_at hcell (by omega)
   refine ⟨b, o, rfl, World.block_lt_of_cell? _ _ (hc 0 (by omega)), fun k hk => ?_⟩
   rw [hc k (by omega)]
   simp [show k < zs.length by omega]
set_option maxRecDepth 100000 in
theorem open_inInts {v : Value} {d : DataW H} {p : List MemPlace} {b0 : Nat} (hv : Value.okWide Tryz.prog W .any b0 22 v) (h : DataW.Trod enc Tryz.prog W 0 (fun _ => true) true 22 v d p) :
 ∃ xs, InInts W v xs := by
 obtain ⟨a, len, cap, rfl⟩ := okWide_slice Tryz.underlying22 hv
 obtain ⟨fuel, hf⟩ := h
 exact open_inInts_cells (by simpa [Value.cells] using hf)
end
open Go.ChangeShapes Go.WideShapes Go.ChangeAt Go.RowKit Go.Joins Go.Deep
theorem Tryz.cells50 : Tryz.prog.cellsOf 50 = 2 := by kernel_rfl
section
variable {H : Type} {enc : TypeId × Value -> H} {W : World}
set_option maxRecDepth 100000 in
theorem open_atom_cells {fuel : Nat} {v0 v1 : Value} {x : DataW H × List MemPlace} (h : DataW.trod enc Tryz.prog W 0 (fun _ => true) true fuel 50 [v0, v1] = some x) : ∃ f : LFact, v0 = .int .i64 f.1 /\ InInts W v1 f.2 := by
 obtain ⟨y0, y1, n, _, _, h0, h1⟩ := trod_struct2 Tryz.underlying50 h
 rw [Tryz.cells3] at h0
 rw [Tryz.cells22] at h1
 obtain ⟨m, e0, _, _⟩ := DataW.trod_int Tryz.underlying3 h0
 obtain ⟨xs, hx⟩ := open_inInts_cells h1
 simp at e0
 exact ⟨(m, xs), e0, hx⟩
end
open Go.RowKit
theorem Tryz.infoInt : (Tryz.prog.info? 3).map (fun i => (i.zero, i.size, i.bytes)) = some (some (.int .i64 0), 1, 8) := by kernel_rfl
set_option maxHeartbeats 400000 in
theorem toIntS_any (v : Value) (xs : List Int) (w : World) (h : RdInts w w.heap.size v xs) (hr : xs.length * 8 <= 140737488351232) :
 Calls Tryz.prog 26 #[v] w fun e w' => ∃ A' c', e = .returned (.slice A' xs.length c') /\ OwnInts w' w.heap.size w'.heap.size (.slice A' xs.length c') xs /\ Below w.heap.size w w' := by
 obtain ⟨A, c, rfl, hc, hcell⟩ := h
 have hmk := run_make_row' (P := Tryz.prog) 22 3 (.int .i64 0) 8 Tryz.underlying22 Tryz.infoInt rfl .i64 .i64 xs.length (by omega) (by omega)
 go_enter Tryz.func26, Tryz.ntmps26
 go_wp2
 go_loopw [4] (fun i wr => ∃ k : Nat, k <= xs.length /\ i = .int .i64 k /\ wr.rowIs w.heap.size 3 xs.length (fun j => if j < k then .int .i64 (xs.getD j 0) else .int .i64 0) /\ Below w.heap.size w wr)
  (fun i _ => xs.length - (intOf i).toNat)
 case atStart => exact ⟨0, Nat.zero_le _, rfl, (World.rowIs_made w _ _ _).congr (fun j _ => by simp), (Below.refl _ _).alloc (Nat.le_refl _) _⟩
 case round =>
  obtain ⟨k, hk, rfl, hrow, hb⟩ := hrel
  by_cases hlt : k < xs.length
  ·obtain ⟨b, o, rfl, hbB, hx⟩ := hcell (by omega)
   have hck : wr.cell? ⟨b, o + k, none⟩ = some (.int .i64 xs[k]) := (hb.cell (p := ⟨b, o + k, none⟩) hbB).trans (hx k hlt)
   have hc2 := hrow.cell hlt
   have hf2 := hrow.frozen k
   clear hx
   have HR := Lib.hid hrow
   clear hrow
   go_wp2
   go_roundw
   case rel =>
    refine ⟨k + 1, by omega, by go_num, (HR.out.set k _).congr (fun j hj => ?_), hb.setCell (Nat.le_refl _) _⟩
    by_cases e : j = k
    ·subst e; simp [hlt]
    ·rw [if_neg e]
     by_cases h2 : j < k
     ·rw [if_pos h2, if_pos (by omega)]
     ·rw [if_neg h2, if_neg (by omega)]
   case measure => simp [intOf]; omega
  ·have hkn : k = xs.length := by omega
   have HO : OwnInts wr w.heap.size wr.heap.size (.slice (some ⟨w.heap.size, 0, none⟩) xs.length xs.length) xs :=
    OwnInts.of_rowIs (hrow.congr (fun j hj => by rw [if_pos (by omega)])) (Nat.le_refl _) hrow.lt (by unfold maxLen; omega)
   clear hrow hcell
   have HH := Lib.hid HO
   clear HO
   clear hkn
   go_wp2
   go_ret
   exact ⟨_, _, rfl, HH.out, hb⟩
def SameTo (xs ys : List Int) (k : Nat) : Prop := ∀ j, j < k -> xs.getD j 0 = ys.getD j 0
theorem SameTo.step {xs ys : List Int} {k : Nat} (h : SameTo xs ys k) (e : xs.getD k 0 = ys.getD k 0) : SameTo xs ys (k + 1) := fun j hj => by
 by_cases h2 : j = k
 ·subst h2; exact e
 ·exact h j (by omega)
theorem SameTo.eq {xs ys : List Int} (h : SameTo xs ys xs.length) (hl : xs.length = ys.length) : xs = ys := by
 apply List.ext_getElem hl
 intro j h1 h2
 have := h j h1
 simpa [h1, h2] using this
set_option maxHeartbeats 400000 in
theorem eqIntS_any (va vb : Value) (xs ys : List Int) (w : World) (ha : RdInts w w.heap.size va xs) (hb : RdInts w w.heap.size vb ys) (hr : xs.length * 8 <= 140737488351232) (hr2 : ys.length * 8 <= 140737488351232) :
 Calls Tryz.prog 28 #[va, vb] w fun e w' => e = .returned (.bool (decide (xs = ys))) /\ Below w.heap.size w w' := by
 obtain ⟨A, c, rfl, hc, ha⟩ := ha
 obtain ⟨A2, c2, rfl, hc2, hb⟩ := hb
 by_cases hl : xs.length = ys.length
 ·have hl1 : ((xs.length : Int) != (ys.length : Int)) = false := by simp [hl]
  have HL := Lib.hid hl
  clear hl
  go_enter Tryz.func28, Tryz.ntmps28
  go_wp2
  go_loopw [5] (fun i wr => ∃ k : Nat, k <= xs.length /\ i = .int .i64 k /\ SameTo xs ys k /\ Below w.heap.size w wr) (fun i _ => xs.length - (intOf i).toNat)
  case atStart => exact ⟨0, Nat.zero_le _, rfl, fun j hj => absurd hj (by omega), Below.refl _ _⟩
  case round =>
   obtain ⟨k, hk, rfl, hs, hbe⟩ := hrel
   by_cases hlt : k < xs.length
   ·have hlt2 : k < ys.length := by have := HL.out; omega
    obtain ⟨b, o, rfl, hbB, hx⟩ := ha (by omega)
    obtain ⟨b2, o2, rfl, hbB2, hx2⟩ := hb (by omega)
    have hck : wr.cell? ⟨b, o + k, none⟩ = some (.int .i64 xs[k]) := (hbe.cell (p := ⟨b, o + k, none⟩) hbB).trans (hx k hlt)
    have hck2 : wr.cell? ⟨b2, o2 + k, none⟩ = some (.int .i64 ys[k]) := (hbe.cell (p := ⟨b2, o2 + k, none⟩) hbB2).trans (hx2 k hlt2)
    clear hx hx2 ha hb
    by_cases he : xs[k] = ys[k]
    ·have hne : (xs[k] != ys[k]) = false := by simp [he]
     have HS := Lib.hid (hs.step (by simpa [hlt, hlt2] using he))
     clear he hs
     go_wp2
     go_quiet (fail)
     go_wp2
     go_roundw
     case rel => exact ⟨k + 1, by omega, by go_num, HS.out, bdrewN hbe _⟩
     case measure => simp [intOf]; omega
    ·have hne : (xs[k] != ys[k]) = true := by simp [he]
     have HE := Lib.hid (show xs ≠ ys from fun e => he (by subst e; rfl))
     clear he hs
     go_wp2
     go_quiet (fail)
     go_wp2
     go_ret
     exact ⟨ret_bool (by simp [HE.out]), bdrewN hbe _⟩
   ·have hkn : k = xs.length := by omega
    have HE := Lib.hid (show xs = ys from SameTo.eq (by rw [<- hkn]; exact hs) HL.out)
    clear hkn hs ha hb
    go_wp2
    go_ret
    exact ⟨ret_bool (by simp [HE.out]), hbe⟩
 ·have hl1 : ((xs.length : Int) != (ys.length : Int)) = true := by simp; omega
  have HE := Lib.hid (show xs ≠ ys from fun e => hl (by rw [e]))
  clear ha hb hl
  go_enter Tryz.func28, Tryz.ntmps28
  go_wp2
  go_ret
  exact ⟨ret_bool (by simp [HE.out]), Below.refl _ _⟩
open Go.RowKit
theorem szIntS_any (A : Option Addr) (n c : Nat) (left : Int) (w : World) (h0 : 0 <= left) (hl : left <= 1048576) (hn : n <= 9223372036854775807) :
 Calls Tryz.prog 58 #[.slice A n c, .int .i64 left] w fun e w' => e = .returned (.int .i64 (szV left n)) /\ w = w' := by
 by_cases h : left < n
 ·have h1 : left - (n : Int) < 0 := by omega
  have HV := Lib.hid (show szV left n = -1 from if_pos h)
  go_enter Tryz.func58, Tryz.ntmps58
  go_wp2
  go_ret
  exact ⟨ret_int HV.out.symm, rfl⟩
 ·have h1 : ¬ left - (n : Int) < 0 := by omega
  have HV := Lib.hid (show szV left n = left - n from if_neg h)
  go_enter Tryz.func58, Tryz.ntmps58
  go_wp2
  go_ret
  exact ⟨ret_int HV.out.symm, rfl⟩
open Go.RowKit
set_option maxHeartbeats 400000 in
theorem szAtom_any (v : Value) (f : LFact) (left : Int) (w : World) (h : RdFact w w.heap.size v f) (h0 : 0 <= left) (hl : left <= 1048576) (hn : f.2.length <= 9223372036854775807) :
 Calls Tryz.prog 30 #[v, .int .i64 left] w fun e w' => e = .returned (.int .i64 (szV left f.2.length)) /\ Below w.heap.size w w' := by
 obtain ⟨a, rfl, A, c, rfl, hc, _⟩ := h
 have hcs := szV_cases left f.2.length
 go_enter Tryz.func30, Tryz.ntmps30
 go_wp2_with (fail)
 refine (szIntS_any _ _ _ _ _ h0 hl hn).mono ?_
 rintro e w1 ⟨rfl, rfl⟩
 rcases hcs with ⟨e1, _⟩ | ⟨e1, _⟩
 ·rw [e1]
  have HV := Lib.hid e1
  clear e1
  go_wp2_with (fail)
  go_ret
  exact ⟨ret_int HV.out.symm, (Below.refl _ _).alloc (Nat.le_refl _) _⟩
 ·have h1 : ¬ szV left f.2.length < 0 := by omega
  go_wp2_with (fail)
  go_ret
  exact ⟨rfl, (Below.refl _ _).alloc (Nat.le_refl _) _⟩
set_option maxHeartbeats 400000 in
theorem toAtom_any (v : Value) (f : LFact) (w : World) (h : RdFact w w.heap.size v f) (hn : f.2.length * 8 <= 140737488351232) :
 Calls Tryz.prog 32 #[v] w fun e w' => ∃ A' c', e = .returned (.agg #[.int .i64 f.1, .slice A' f.2.length c']) /\ OwnInts w' w.heap.size w'.heap.size (.slice A' f.2.length c') f.2 /\ Below w.heap.size w w' := by
 obtain ⟨a, rfl, h⟩ := h
 have H := Lib.hid h
 obtain ⟨A, c, rfl, hc, _⟩ := h
 go_enter Tryz.func32, Tryz.ntmps32
 go_wp2_with (fail)
 refine (toIntS_any _ f.2 _ (H.out.on (below3 _ _ _ _)) hn).mono ?_
 rintro e w4 ⟨A4, c4, rfl, ho, hb⟩
 have hB := bthen (below3 _ _ _ _) hb
 have b1 : Blk w4 (w.heap.size + 1) 53 #[.int .i64 0, .slice none 0 0] := ((by simpa using (Blk.new (w.alloc (Obj.cells #[Value.int IntKind.i64 f.fst, Value.slice A f.snd.length c] 50)) _ _).alloc _ : Blk _ _ _ _)).below hb (by simp)
 have b2 : Blk w4 (w.heap.size + 2) 53 #[.int .i64 f.1, .slice none 0 0] := ((by simpa using Blk.new ((w.alloc (Obj.cells #[Value.int IntKind.i64 f.fst, Value.slice A f.snd.length c] 50)).alloc (Obj.cells #[.int .i64 0, .slice none 0 0] 53)) _ _ : Blk _ _ _ _)).below hb (by simp)
 have b1c0 : w4.cell? ⟨w.heap.size + 1, 0, none⟩ = some (.int .i64 0) := b1.cell 0
 have b1c1 : w4.cell? ⟨w.heap.size + 1, 1, none⟩ = some (.slice none 0 0) := b1.cell 1
 have b2c0 : w4.cell? ⟨w.heap.size + 2, 0, none⟩ = some (.int .i64 f.1) := b2.cell 0
 have b2c1 : w4.cell? ⟨w.heap.size + 2, 1, none⟩ = some (.slice none 0 0) := b2.cell 1
 have b1f0 := b1.frozen 0
 have b1f1 := b1.frozen 1
 have b2f0 := b2.frozen 0
 have b2f1 := b2.frozen 1
 go_wp2_with (fail)
 refine bodyPost_ret (v := .agg #[.int .i64 f.1, .slice A4 f.2.length c4]) (by simp [results, Tryz.results32, go_sem, b1c0, b1c1]) rfl ⟨_, _, rfl, ?_, ?_⟩
 ·exact (((ho.set (.inl (by simp)) _).set (.inl (by simp)) _).set (.inl (by simp)) _).mono (by simp; omega) (by simp)
 ·exact ((hB.setCell (by simp <;> omega) _).setCell (by simp <;> omega) _).setCell (by simp <;> omega) _
set_option maxHeartbeats 400000 in
theorem eqAtom_any (v v2 : Value) (f g : LFact) (w : World) (h : RdFact w w.heap.size v f) (h2 : RdFact w w.heap.size v2 g) (hn : f.2.length * 8 <= 140737488351232) (hn2 : g.2.length * 8 <= 140737488351232) :
 Calls Tryz.prog 34 #[v, v2] w fun e w' => e = .returned (.bool (decide (f = g))) /\ Below w.heap.size w w' := by
 obtain ⟨a, rfl, h⟩ := h
 have H := Lib.hid h
 obtain ⟨A, c, rfl, hc, _⟩ := h
 obtain ⟨a, rfl, h2⟩ := h2
 have H2 := Lib.hid h2
 obtain ⟨A2, c2, rfl, hc2, _⟩ := h2
 by_cases hp : f.1 = g.1
 ·have hpb : (f.1 != g.1) = false := by simp [hp]
  have HE := Lib.hid (show decide (f = g) = decide (f.2 = g.2) by simp [Prod.ext_iff, hp])
  clear hp
  go_enter Tryz.func34, Tryz.ntmps34
  go_wp2_with (fail)
  refine (eqIntS_any _ _ f.2 g.2 _ (H.out.on (below2 _ _ _)) (H2.out.on (below2 _ _ _)) hn hn2).mono ?_
  rintro e w4 ⟨rfl, hb⟩
  have hB := bthen (below2 _ _ _) hb
  by_cases hd : f.2 = g.2
  ·have hdb : decide (f.2 = g.2) = true := by simp [hd]
   have HD := Lib.hid hdb
   clear hd
   go_wp2_with (fail)
   go_ret
   exact ⟨ret_bool (by rw [HE.out, HD.out]), hB⟩
  ·have hdb : decide (f.2 = g.2) = false := by simp [hd]
   have HD := Lib.hid hdb
   clear hd
   go_wp2_with (fail)
   go_ret
   exact ⟨ret_bool (by rw [HE.out, HD.out]), hB⟩
 ·have hpb : (f.1 != g.1) = true := by simp [hp]
  have HE := Lib.hid (show decide (f = g) = false by simp [Prod.ext_iff, hp])
  clear hp
  go_enter Tryz.func34, Tryz.ntmps34
  go_wp2_with (fail)
  go_ret
  exact ⟨ret_bool HE.out.symm, below2 _ _ _⟩
open Go.RowKit
abbrev LLit := Int × LFact
abbrev LRule := LFact × List LLit
section
variable {α : Type}
def RdRow (Q : World -> Nat -> Value -> Value -> Value -> α -> Prop) (w : World) (B : Nat) (v : Value) (xs : List α) : Prop :=
 ∃ A c, v = .slice A xs.length c /\ xs.length <= c /\ (0 < xs.length -> ∃ b o, A = some ⟨b, o, none⟩ /\ b < B /\ ∀ k (h : k < xs.length), ∃ u0 u1 u2,
  w.cell? ⟨b, o + k * 3, none⟩ = some u0 /\ w.cell? ⟨b, o + k * 3 + 1, none⟩ = some u1 /\ w.cell? ⟨b, o + k * 3 + 2, none⟩ = some u2 /\ Q w B u0 u1 u2 xs[k])
variable {Q : World -> Nat -> Value -> Value -> Value -> α -> Prop}
theorem RdRow.below {w w' : World} {B B' : Nat} {v : Value} {xs : List α} (hQ : ∀ u0 u1 u2 x, Q w B u0 u1 u2 x -> Q w' B u0 u1 u2 x) (h : RdRow Q w B v xs) (hb : Below B' w w') (hB : B <= B') : RdRow Q w' B v xs := by
 obtain ⟨A, c, rfl, hc, h⟩ := h
 refine ⟨A, c, rfl, hc, fun hn => ?_⟩
 obtain ⟨b, o, rfl, hlt, hk⟩ := h hn
 refine ⟨b, o, rfl, hlt, fun k hkl => ?_⟩
 obtain ⟨u0, u1, u2, h0, h1, h2, h3⟩ := hk k hkl
 exact ⟨u0, u1, u2, (hb.cell (p := ⟨b, o + k * 3, none⟩) (by show b < B'; omega)).trans h0, (hb.cell (p := ⟨b, o + k * 3 + 1, none⟩) (by show b < B'; omega)).trans h1,
  (hb.cell (p := ⟨b, o + k * 3 + 2, none⟩) (by show b < B'; omega)).trans h2, hQ _ _ _ _ h3⟩
theorem RdRow.more {w : World} {B B' : Nat} {v : Value} {xs : List α} (hQ : ∀ u0 u1 u2 x, Q w B u0 u1 u2 x -> Q w B' u0 u1 u2 x) (h : RdRow Q w B v xs) (hB : B <= B') : RdRow Q w B' v xs := by
 obtain ⟨A, c, rfl, hc, h⟩ := h
 refine ⟨A, c, rfl, hc, fun hn => ?_⟩
 obtain ⟨b, o, rfl, hlt, hk⟩ := h hn
 refine ⟨b, o, rfl, by omega, fun k hkl => ?_⟩
 obtain ⟨u0, u1, u2, h0, h1, h2, h3⟩ := hk k hkl
 exact ⟨u0, u1, u2, h0, h1, h2, hQ _ _ _ _ h3⟩
theorem RdRow.get {w : World} {B c : Nat} {A : Option Addr} {xs : List α} (h : RdRow Q w B (.slice A xs.length c) xs) {k : Nat} (hk : k < xs.length) : ∃ b o u0 u1 u2, A = some ⟨b, o, none⟩ /\ b < B /\
 w.cell? ⟨b, o + k * 3, none⟩ = some u0 /\ w.cell? ⟨b, o + k * 3 + 1, none⟩ = some u1 /\ w.cell? ⟨b, o + k * 3 + 2, none⟩ = some u2 /\ Q w B u0 u1 u2 xs[k] := by
 obtain ⟨A', c', e, hc, h⟩ := h
 injection e with e1 e2 e3
 subst e1
 obtain ⟨b, o, rfl, hb, hx⟩ := h (by omega)
 obtain ⟨u0, u1, u2, h0, h1, h2, h3⟩ := hx k hk
 exact ⟨b, o, u0, u1, u2, rfl, hb, h0, h1, h2, h3⟩
def OwnRow (Q : World -> Nat -> Nat -> Value -> Value -> Value -> α -> Prop) (w : World) (lo hi : Nat) (v : Value) (xs : List α) : Prop :=
 ∃ A c, v = .slice A xs.length c /\ xs.length <= c /\ (0 < xs.length -> ∃ b o, A = some ⟨b, o, none⟩ /\ lo <= b /\ b < hi /\ ∀ k (h : k < xs.length),
  (w.frozen? ⟨b, o + k * 3, none⟩ = false /\ w.frozen? ⟨b, o + k * 3 + 1, none⟩ = false) /\ ∃ u0 u1 u2,
  w.cell? ⟨b, o + k * 3, none⟩ = some u0 /\ w.cell? ⟨b, o + k * 3 + 1, none⟩ = some u1 /\ w.cell? ⟨b, o + k * 3 + 2, none⟩ = some u2 /\ Q w lo hi u0 u1 u2 xs[k])
variable {O : World -> Nat -> Nat -> Value -> Value -> Value -> α -> Prop}
theorem OwnRow.keep {w w' : World} {lo hi : Nat} {v : Value} {xs : List α} (hQ : ∀ u0 u1 u2 x, O w lo hi u0 u1 u2 x -> O w' lo hi u0 u1 u2 x) (h : OwnRow O w lo hi v xs) (hk : ∀ g, lo <= g -> g < hi -> w'.heap[g]? = w.heap[g]?) : OwnRow O w' lo hi v xs := by
 obtain ⟨A, c, rfl, hc, h⟩ := h
 refine ⟨A, c, rfl, hc, fun hn => ?_⟩
 obtain ⟨b, o, rfl, h1, h2, hx⟩ := h hn
 refine ⟨b, o, rfl, h1, h2, fun k hkl => ?_⟩
 obtain ⟨⟨f0, f1⟩, u0, u1, u2, c0, c1, c2, hq⟩ := hx k hkl
 have hb := hk b h1 h2
 exact ⟨⟨(World.frozen?_of_block (w := w) hb).trans f0, (World.frozen?_of_block (w := w) hb).trans f1⟩, u0, u1, u2, (World.cell?_of_block (w := w) hb).trans c0, (World.cell?_of_block (w := w) hb).trans c1, (World.cell?_of_block (w := w) hb).trans c2, hQ _ _ _ _ hq⟩
theorem OwnRow.mono {w : World} {lo hi lo' hi' : Nat} {v : Value} {xs : List α} (hQ : ∀ u0 u1 u2 x, O w lo hi u0 u1 u2 x -> O w lo' hi' u0 u1 u2 x) (h : OwnRow O w lo hi v xs) (h1 : lo' <= lo) (h2 : hi <= hi') : OwnRow O w lo' hi' v xs := by
 obtain ⟨A, c, rfl, hc, h⟩ := h
 refine ⟨A, c, rfl, hc, fun hn => ?_⟩
 obtain ⟨b, o, rfl, h3, h4, hx⟩ := h hn
 refine ⟨b, o, rfl, by omega, by omega, fun k hkl => ?_⟩
 obtain ⟨f, u0, u1, u2, c0, c1, c2, hq⟩ := hx k hkl
 exact ⟨f, u0, u1, u2, c0, c1, c2, hQ _ _ _ _ hq⟩
theorem OwnRow.rd {w : World} {lo hi : Nat} {v : Value} {xs : List α} (hQ : ∀ u0 u1 u2 x, O w lo hi u0 u1 u2 x -> Q w hi u0 u1 u2 x) (h : OwnRow O w lo hi v xs) : RdRow Q w hi v xs := by
 obtain ⟨A, c, rfl, hc, h⟩ := h
 refine ⟨A, c, rfl, hc, fun hn => ?_⟩
 obtain ⟨b, o, rfl, h3, h4, hx⟩ := h hn
 refine ⟨b, o, rfl, h4, fun k hkl => ?_⟩
 obtain ⟨f, u0, u1, u2, c0, c1, c2, hq⟩ := hx k hkl
 exact ⟨u0, u1, u2, c0, c1, c2, hQ _ _ _ _ hq⟩
theorem OwnRow.form {w : World} {lo hi : Nat} {v : Value} {xs : List α} (h : OwnRow O w lo hi v xs) : ∃ A c, v = .slice A xs.length c := by
 obtain ⟨A, c, rfl, _⟩ := h
 exact ⟨A, c, rfl⟩
structure ToRow (t : TypeId) (z0 z1 z2 : Value) (O : World -> Nat -> Nat -> Value -> Value -> Value -> α -> Prop) (w wr : World) (xs : List α) (k : Nat) : Prop where
 row : ∃ cur : Array Value, Blk wr w.heap.size t cur /\ (∀ j, j < k -> ∀ hx : j < xs.length, ∃ u0 u1 u2, cur[j * 3]? = some u0 /\ cur[j * 3 + 1]? = some u1 /\ cur[j * 3 + 2]? = some u2 /\ O wr (w.heap.size + 1) wr.heap.size u0 u1 u2 xs[j]) /\
  (∀ j, k <= j -> j < xs.length -> cur[j * 3]? = some z0 /\ cur[j * 3 + 1]? = some z1 /\ cur[j * 3 + 2]? = some z2)
 below : Below w.heap.size w wr
 size : w.heap.size + 1 <= wr.heap.size
variable {t : TypeId} {z0 z1 z2 : Value}
theorem ToRow.start (w : World) (xs : List α) : ToRow t z0 z1 z2 O w (w.alloc (.cells (madeCells #[z0, z1, z2] (xs.length * 3)) t)) xs 0 :=
 ⟨⟨_, Blk.new _ _ _, fun j hj => absurd hj (by omega), fun j _ hj => by
   have e0 : j * 3 % 3 = 0 := by omega
   have e1 : (j * 3 + 1) % 3 = 1 := by omega
   have e2 : (j * 3 + 2) % 3 = 2 := by omega
   have l0 : j * 3 < xs.length * 3 := by omega
   have l1 : j * 3 + 1 < xs.length * 3 := by omega
   have l2 : j * 3 + 2 < xs.length * 3 := by omega
   simp [madeCells, e0, e1, e2, l0, l1, l2]⟩, below1 _ _, by simp⟩
theorem ToRow.room {w wr : World} {xs : List α} {k : Nat} (hr : ToRow t z0 z1 z2 O w wr xs k) (hlt : k < xs.length) {w4 : World} (hb : Below wr.heap.size wr w4) :
 w4.cell? ⟨w.heap.size, k * 3, none⟩ = some z0 /\ w4.cell? ⟨w.heap.size, k * 3 + 1, none⟩ = some z1 /\ w4.cell? ⟨w.heap.size, k * 3 + 2, none⟩ = some z2 /\
 w4.frozen? ⟨w.heap.size, k * 3, none⟩ = false /\ w4.frozen? ⟨w.heap.size, k * 3 + 1, none⟩ = false /\ w4.frozen? ⟨w.heap.size, k * 3 + 2, none⟩ = false := by
 obtain ⟨⟨cur, hB, _, hz⟩, hbe, hsz⟩ := hr
 have hB4 := hB.below hb (by omega)
 obtain ⟨c0, c1, c2⟩ := hz k (Nat.le_refl _) hlt
 exact ⟨(hB4.cell _).trans c0, (hB4.cell _).trans c1, (hB4.cell _).trans c2, hB4.frozen _, hB4.frozen _, hB4.frozen _⟩
theorem ToRow.step (keep : ∀ {w w' : World} {lo hi : Nat} {u0 u1 u2 : Value} {x : α}, O w lo hi u0 u1 u2 x -> (∀ g, lo <= g -> g < hi -> w'.heap[g]? = w.heap[g]?) -> O w' lo hi u0 u1 u2 x)
 (mono : ∀ {w : World} {lo hi lo' hi' : Nat} {u0 u1 u2 : Value} {x : α}, O w lo hi u0 u1 u2 x -> lo' <= lo -> hi <= hi' -> O w lo' hi' u0 u1 u2 x)
 {w wr : World} {xs : List α} {k : Nat} (hr : ToRow t z0 z1 z2 O w wr xs k) (hlt : k < xs.length) {w4 : World} (hb : Below wr.heap.size wr w4) {u0 u1 u2 : Value}
 (ha : O w4 wr.heap.size w4.heap.size u0 u1 u2 xs[k]) : ToRow t z0 z1 z2 O w (((w4.setCell ⟨w.heap.size, k * 3, none⟩ u0).setCell ⟨w.heap.size, k * 3 + 1, none⟩ u1).setCell ⟨w.heap.size, k * 3 + 2, none⟩ u2) xs (k + 1) := by
 obtain ⟨⟨cur, hB, hd, hz⟩, hbe, hsz⟩ := hr
 have hB4 := hB.below hb (by omega)
 have hs4 := hb.size
 have hsame : ∀ g, w.heap.size + 1 <= g -> (((w4.setCell ⟨w.heap.size, k * 3, none⟩ u0).setCell ⟨w.heap.size, k * 3 + 1, none⟩ u1).setCell ⟨w.heap.size, k * 3 + 2, none⟩ u2).heap[g]? = w4.heap[g]? := fun g hg => by
  rw [Below.heap_setCell _ _ _ _ (by show g ≠ w.heap.size; omega), Below.heap_setCell _ _ _ _ (by show g ≠ w.heap.size; omega), Below.heap_setCell _ _ _ _ (by show g ≠ w.heap.size; omega)]
 have hsz5 : (((w4.setCell ⟨w.heap.size, k * 3, none⟩ u0).setCell ⟨w.heap.size, k * 3 + 1, none⟩ u1).setCell ⟨w.heap.size, k * 3 + 2, none⟩ u2).heap.size = w4.heap.size := by simp
 refine ⟨⟨_, ((hB4.set_ _ _).set_ _ _).set_ _ _, fun j hj hx => ?_, fun j hj hx => ?_⟩, (((hbe.trans (hb.mono hbe.size)).setCell (Nat.le_refl _) _).setCell (Nat.le_refl _) _).setCell (Nat.le_refl _) _, by rw [hsz5]; omega⟩
 ·rw [hsz5]
  by_cases e : j = k
  ·subst e
   obtain ⟨c0, c1, c2⟩ := hz j (Nat.le_refl _) hx
   have g0 := (Array.getElem?_eq_some_iff.1 c0).1
   have g1 := (Array.getElem?_eq_some_iff.1 c1).1
   have g2 := (Array.getElem?_eq_some_iff.1 c2).1
   refine ⟨u0, u1, u2, ?_, ?_, ?_, keep (mono ha (by omega) (Nat.le_refl _)) fun g h1 _ => hsame g h1⟩
   ·simp [g0]
   ·simp [g1]
   ·simp [g2]
  ·obtain ⟨v0, v1, v2, c0, c1, c2, hq⟩ := hd j (by omega) hx
   refine ⟨v0, v1, v2, ?_, ?_, ?_, keep (mono (keep hq fun g _ h2 => hb.block g h2) (Nat.le_refl _) hs4) fun g h1 _ => hsame g h1⟩
   ·rw [Array.getElem?_setIfInBounds_ne (by omega), Array.getElem?_setIfInBounds_ne (by omega), Array.getElem?_setIfInBounds_ne (by omega)]; exact c0
   ·rw [Array.getElem?_setIfInBounds_ne (by omega), Array.getElem?_setIfInBounds_ne (by omega), Array.getElem?_setIfInBounds_ne (by omega)]; exact c1
   ·rw [Array.getElem?_setIfInBounds_ne (by omega), Array.getElem?_setIfInBounds_ne (by omega), Array.getElem?_setIfInBounds_ne (by omega)]; exact c2
 ·obtain ⟨c0, c1, c2⟩ := hz j (by omega) hx
  refine ⟨?_, ?_, ?_⟩
  ·rw [Array.getElem?_setIfInBounds_ne (by omega), Array.getElem?_setIfInBounds_ne (by omega), Array.getElem?_setIfInBounds_ne (by omega)]; exact c0
  ·rw [Array.getElem?_setIfInBounds_ne (by omega), Array.getElem?_setIfInBounds_ne (by omega), Array.getElem?_setIfInBounds_ne (by omega)]; exact c1
  ·rw [Array.getElem?_setIfInBounds_ne (by omega), Array.getElem?_setIfInBounds_ne (by omega), Array.getElem?_setIfInBounds_ne (by omega)]; exact c2
theorem ToRow.done (mono : ∀ {w : World} {lo hi lo' hi' : Nat} {u0 u1 u2 : Value} {x : α}, O w lo hi u0 u1 u2 x -> lo' <= lo -> hi <= hi' -> O w lo' hi' u0 u1 u2 x)
 {w wr : World} {xs : List α} (hr : ToRow t z0 z1 z2 O w wr xs xs.length) : OwnRow O wr w.heap.size wr.heap.size (.slice (some ⟨w.heap.size, 0, none⟩) xs.length xs.length) xs := by
 obtain ⟨⟨cur, hB, hd, _⟩, hbe, hsz⟩ := hr
 refine ⟨_, _, rfl, Nat.le_refl _, fun _ => ⟨_, _, rfl, Nat.le_refl _, by omega, fun k hk => ⟨⟨hB.frozen _, hB.frozen _⟩, ?_⟩⟩⟩
 obtain ⟨u0, u1, u2, c0, c1, c2, hq⟩ := hd k hk hk
 simp only [Nat.zero_add]
 exact ⟨u0, u1, u2, (hB.cell _).trans c0, (hB.cell _).trans c1, (hB.cell _).trans c2, mono hq (by omega) (Nat.le_refl _)⟩
end
theorem OwnInts.keep {w w' : World} {lo hi : Nat} {v : Value} {xs : List Int} (h : OwnInts w lo hi v xs) (hk : ∀ g, lo <= g -> g < hi -> w'.heap[g]? = w.heap[g]?) : OwnInts w' lo hi v xs := by
 have hlo := fun g hg => (h.1.lt g hg).1
 obtain ⟨⟨hlen, h⟩, hlt⟩ := h
 refine ⟨⟨hlen, ?_⟩, hlt⟩
 rcases h with h | ⟨g, cap, cur, rfl, hbg, hg, r⟩
 ·exact .inl h
 ·exact .inr ⟨g, cap, cur, rfl, hbg, by rw [hk g hbg (hlt g rfl)]; exact hg, r⟩
def QLit (w : World) (B : Nat) (u0 u1 u2 : Value) (l : LLit) : Prop := u0 = .int .i64 l.1 /\ u1 = .int .i64 l.2.1 /\ RdInts w B u2 l.2.2
def RdLits (w : World) (B : Nat) (v : Value) (ls : List LLit) : Prop := RdRow QLit w B v ls
def RdLit (w : World) (B : Nat) (v : Value) (l : LLit) : Prop := ∃ a, v = .agg #[.int .i64 l.1, .int .i64 l.2.1, a] /\ RdInts w B a l.2.2
def OLit (w : World) (lo hi : Nat) (u0 u1 u2 : Value) (l : LLit) : Prop := u0 = .int .i64 l.1 /\ u1 = .int .i64 l.2.1 /\ OwnInts w lo hi u2 l.2.2
def OwnLits (w : World) (lo hi : Nat) (v : Value) (ls : List LLit) : Prop := OwnRow OLit w lo hi v ls
theorem QLit.below {w w' : World} {B B' : Nat} {u0 u1 u2 : Value} {l : LLit} (h : QLit w B u0 u1 u2 l) (hb : Below B' w w') (hB : B <= B') : QLit w' B u0 u1 u2 l := ⟨h.1, h.2.1, h.2.2.below hb hB⟩
theorem QLit.more {w : World} {B B' : Nat} {u0 u1 u2 : Value} {l : LLit} (h : QLit w B u0 u1 u2 l) (hB : B <= B') : QLit w B' u0 u1 u2 l := ⟨h.1, h.2.1, h.2.2.more hB⟩
theorem RdLits.below {w w' : World} {B B' : Nat} {v : Value} {ls : List LLit} (h : RdLits w B v ls) (hb : Below B' w w') (hB : B <= B') : RdLits w' B v ls := RdRow.below (fun _ _ _ _ q => q.below hb hB) h hb hB
theorem RdLits.more {w : World} {B B' : Nat} {v : Value} {ls : List LLit} (h : RdLits w B v ls) (hB : B <= B') : RdLits w B' v ls := RdRow.more (fun _ _ _ _ q => q.more hB) h hB
theorem RdLits.on {w w' : World} {v : Value} {ls : List LLit} (h : RdLits w w.heap.size v ls) (hb : Below w.heap.size w w') : RdLits w' w'.heap.size v ls := (h.below hb (Nat.le_refl _)).more hb.size
theorem RdLit.on {w w' : World} {v : Value} {l : LLit} (h : RdLit w w.heap.size v l) (hb : Below w.heap.size w w') : RdLit w' w'.heap.size v l := by
 obtain ⟨a, rfl, h⟩ := h
 exact ⟨a, rfl, h.on hb⟩
theorem OLit.keep {w w' : World} {lo hi : Nat} {u0 u1 u2 : Value} {l : LLit} (h : OLit w lo hi u0 u1 u2 l) (hk : ∀ g, lo <= g -> g < hi -> w'.heap[g]? = w.heap[g]?) : OLit w' lo hi u0 u1 u2 l := ⟨h.1, h.2.1, h.2.2.keep hk⟩
theorem OLit.mono {w : World} {lo hi lo' hi' : Nat} {u0 u1 u2 : Value} {l : LLit} (h : OLit w lo hi u0 u1 u2 l) (h1 : lo' <= lo) (h2 : hi <= hi') : OLit w lo' hi' u0 u1 u2 l := ⟨h.1, h.2.1, h.2.2.mono h1 h2⟩
theorem OwnLits.keep {w w' : World} {lo hi : Nat} {v : Value} {ls : List LLit} (h : OwnLits w lo hi v ls) (hk : ∀ g, lo <= g -> g < hi -> w'.heap[g]? = w.heap[g]?) : OwnLits w' lo hi v ls := OwnRow.keep (fun _ _ _ _ q => q.keep hk) h hk
theorem OwnLits.mono {w : World} {lo hi lo' hi' : Nat} {v : Value} {ls : List LLit} (h : OwnLits w lo hi v ls) (h1 : lo' <= lo) (h2 : hi <= hi') : OwnLits w lo' hi' v ls := OwnRow.mono (fun _ _ _ _ q => q.mono h1 h2) h h1 h2
theorem OwnLits.rd {w : World} {lo hi : Nat} {v : Value} {ls : List LLit} (h : OwnLits w lo hi v ls) : RdLits w hi v ls := OwnRow.rd (fun _ _ _ _ q => ⟨q.1, q.2.1, q.2.2.rd⟩) h
theorem OwnLits.below {w w' : World} {lo hi B : Nat} {v : Value} {ls : List LLit} (h : OwnLits w lo hi v ls) (hb : Below B w w') (hB : hi <= B) : OwnLits w' lo hi v ls := h.keep fun g _ h2 => hb.block g (by omega)
theorem OwnLits.only {w w' : World} {lo hi lo' hi' : Nat} {v : Value} {ls : List LLit} (h : OwnLits w lo hi v ls) (ho : Only lo' hi' w w') (hd : hi <= lo' \/ hi' <= lo) (hh : hi <= w.heap.size) : OwnLits w' lo hi v ls :=
 h.keep fun g h1 h2 => ho.block g (by omega) (by omega)
def QRule (w : World) (B : Nat) (u0 u1 u2 : Value) (r : LRule) : Prop := u0 = .int .i64 r.1.1 /\ RdInts w B u1 r.1.2 /\ RdLits w B u2 r.2
def RdRules (w : World) (B : Nat) (v : Value) (rs : List LRule) : Prop := RdRow QRule w B v rs
def RdRule (w : World) (B : Nat) (v : Value) (r : LRule) : Prop := ∃ a b, v = .agg #[.int .i64 r.1.1, a, b] /\ RdInts w B a r.1.2 /\ RdLits w B b r.2
def ORule (w : World) (lo hi : Nat) (u0 u1 u2 : Value) (r : LRule) : Prop := u0 = .int .i64 r.1.1 /\ OwnInts w lo hi u1 r.1.2 /\ OwnLits w lo hi u2 r.2
def OwnRules (w : World) (lo hi : Nat) (v : Value) (rs : List LRule) : Prop := OwnRow ORule w lo hi v rs
theorem QRule.below {w w' : World} {B B' : Nat} {u0 u1 u2 : Value} {r : LRule} (h : QRule w B u0 u1 u2 r) (hb : Below B' w w') (hB : B <= B') : QRule w' B u0 u1 u2 r := ⟨h.1, h.2.1.below hb hB, h.2.2.below hb hB⟩
theorem QRule.more {w : World} {B B' : Nat} {u0 u1 u2 : Value} {r : LRule} (h : QRule w B u0 u1 u2 r) (hB : B <= B') : QRule w B' u0 u1 u2 r := ⟨h.1, h.2.1.more hB, h.2.2.more hB⟩
theorem RdRules.below {w w' : World} {B B' : Nat} {v : Value} {rs : List LRule} (h : RdRules w B v rs) (hb : Below B' w w') (hB : B <= B') : RdRules w' B v rs := RdRow.below (fun _ _ _ _ q => q.below hb hB) h hb hB
theorem RdRules.more {w : World} {B B' : Nat} {v : Value} {rs : List LRule} (h : RdRules w B v rs) (hB : B <= B') : RdRules w B' v rs := RdRow.more (fun _ _ _ _ q => q.more hB) h hB
theorem RdRules.on {w w' : World} {v : Value} {rs : List LRule} (h : RdRules w w.heap.size v rs) (hb : Below w.heap.size w w') : RdRules w' w'.heap.size v rs := (h.below hb (Nat.le_refl _)).more hb.size
theorem RdRule.on {w w' : World} {v : Value} {r : LRule} (h : RdRule w w.heap.size v r) (hb : Below w.heap.size w w') : RdRule w' w'.heap.size v r := by
 obtain ⟨a, b, rfl, h1, h2⟩ := h
 exact ⟨a, b, rfl, h1.on hb, h2.on hb⟩
theorem ORule.keep {w w' : World} {lo hi : Nat} {u0 u1 u2 : Value} {r : LRule} (h : ORule w lo hi u0 u1 u2 r) (hk : ∀ g, lo <= g -> g < hi -> w'.heap[g]? = w.heap[g]?) : ORule w' lo hi u0 u1 u2 r := ⟨h.1, h.2.1.keep hk, h.2.2.keep hk⟩
theorem ORule.mono {w : World} {lo hi lo' hi' : Nat} {u0 u1 u2 : Value} {r : LRule} (h : ORule w lo hi u0 u1 u2 r) (h1 : lo' <= lo) (h2 : hi <= hi') : ORule w lo' hi' u0 u1 u2 r := ⟨h.1, h.2.1.mono h1 h2, h.2.2.mono h1 h2⟩
theorem OwnRules.keep {w w' : World} {lo hi : Nat} {v : Value} {rs : List LRule} (h : OwnRules w lo hi v rs) (hk : ∀ g, lo <= g -> g < hi -> w'.heap[g]? = w.heap[g]?) : OwnRules w' lo hi v rs := OwnRow.keep (fun _ _ _ _ q => q.keep hk) h hk
theorem OwnRules.mono {w : World} {lo hi lo' hi' : Nat} {v : Value} {rs : List LRule} (h : OwnRules w lo hi v rs) (h1 : lo' <= lo) (h2 : hi <= hi') : OwnRules w lo' hi' v rs := OwnRow.mono (fun _ _ _ _ q => q.mono h1 h2) h h1 h2
theorem OwnRules.rd {w : World} {lo hi : Nat} {v : Value} {rs : List LRule} (h : OwnRules w lo hi v rs) : RdRules w hi v rs := OwnRow.rd (fun _ _ _ _ q => ⟨q.1, q.2.1.rd, q.2.2.rd⟩) h
def totL (ls : List LLit) : Nat := (ls.map fun l => l.2.2.length).sum
def szR (r : LRule) : Nat := r.1.2.length + (r.2.length + totL r.2)
def totR (rs : List LRule) : Nat := (rs.map szR).sum
theorem sum_at {α : Type} (f : α -> Nat) : ∀ (l : List α) (k : Nat) (h : k < l.length), f l[k] <= (l.map f).sum
 | [], _, h => absurd h (by simp)
 | x :: l, 0, _ => by simp
 | x :: l, k + 1, h => by
  have := sum_at f l k (by simpa using h)
  simp only [List.map_cons, List.sum_cons, List.getElem_cons_succ] at this ⊢
  omega
theorem sum_take {α : Type} (f : α -> Nat) (l : List α) (k : Nat) (h : k < l.length) : ((l.take (k + 1)).map f).sum = ((l.take k).map f).sum + f l[k] := by
 rw [take_snoc l k h, List.map_append, List.sum_append]
 simp
theorem len_le_totL (ls : List LLit) (k : Nat) (h : k < ls.length) : ls[k].2.2.length <= totL ls := sum_at (fun l : LLit => l.2.2.length) ls k h
theorem totL_take (ls : List LLit) (k : Nat) (h : k < ls.length) : totL (ls.take (k + 1)) = totL (ls.take k) + ls[k].2.2.length := sum_take _ ls k h
theorem sz_le_totR (rs : List LRule) (k : Nat) (h : k < rs.length) : szR rs[k] <= totR rs := sum_at szR rs k h
theorem totR_take (rs : List LRule) (k : Nat) (h : k < rs.length) : totR (rs.take (k + 1)) = totR (rs.take k) + szR rs[k] := sum_take _ rs k h
open Go.ChangeShapes Go.WideShapes Go.ChangeAt Go.RowKit Go.Joins Go.Deep
theorem Tryz.cells244 : Tryz.prog.cellsOf 244 = 3 := by kernel_rfl
theorem Tryz.cells133 : Tryz.prog.cellsOf 133 = 1 := by kernel_rfl
section
variable {H : Type} {enc : TypeId × Value -> H} {W : World}
def bodyFits (ls : List LLit) : Prop := ls.length <= maxLen /\ ∀ k (h : k < ls.length), ls[k].2.2.length <= maxLen
set_option maxRecDepth 100000 in
theorem open_lit_cells {fuel : Nat} {v0 v1 v2 : Value} {x : DataW H × List MemPlace} (h : DataW.trod enc Tryz.prog W 0 (fun _ => true) true fuel 244 [v0, v1, v2] = some x) :
 ∃ l : LLit, QLit W W.heap.size v0 v1 v2 l /\ l.2.2.length <= maxLen := by
 obtain ⟨y0, y1, n, _, _, h0, h1⟩ := trod_struct2 Tryz.underlying244 h
 rw [Tryz.cells3] at h0
 rw [Tryz.cells50] at h1
 obtain ⟨m, e0, _, _⟩ := DataW.trod_int Tryz.underlying3 h0
 obtain ⟨f, e1, hx⟩ := open_atom_cells (v0 := v1) (v1 := v2) h1
 simp at e0
 exact ⟨(m, f), ⟨e0, e1, hx.1⟩, hx.2⟩
theorem open_row_cells {α : Type} [Inhabited α] {t e : TypeId} {Q : World -> Nat -> Value -> Value -> Value -> α -> Prop} {N : α -> Prop} (ht : Tryz.prog.underlying t = some (.slice e)) (hc : Tryz.prog.cellsOf e = 3)
 (hQ : ∀ {fuel : Nat} {v0 v1 v2 : Value} {x : DataW H × List MemPlace}, DataW.trod enc Tryz.prog W 0 (fun _ => true) true fuel e [v0, v1, v2] = some x -> ∃ y : α, Q W W.heap.size v0 v1 v2 y /\ N y)
 {fuel : Nat} {v : Value} {x : DataW H × List MemPlace} (h : DataW.trod enc Tryz.prog W 0 (fun _ => true) true fuel t [v] = some x) :
 ∃ xs : List α, RdRow Q W W.heap.size v xs /\ xs.length <= maxLen /\ ∀ k (h : k < xs.length), N xs[k] := by
 rcases open_slice ht h with ⟨hcs, _⟩ | ⟨a, len, cap, m, n, D, Pl, hcs, _, hl, hm, hmm, _, hx⟩
 ·simp at hcs
  subst hcs
  exact ⟨[], ⟨none, 0, rfl, by simp, fun h => absurd h (by simp)⟩, by simp, fun k h => absurd h (by simp)⟩
 ·simp at hcs
  subst hcs
  simp at hmm
  subst hmm
  rw [hc] at hx
  obtain ⟨F, hF⟩ := choose_lt (α := Value × Value × Value × α) (n := m) (p := fun i q => W.cell? (a.add (i * 3)) = some q.1 /\ W.cell? (a.add (i * 3 + 1)) = some q.2.1 /\ W.cell? (a.add (i * 3 + 2)) = some q.2.2.1 /\ Q W W.heap.size q.1 q.2.1 q.2.2.1 q.2.2.2 /\ N q.2.2.2) (fun i hi => by
   obtain ⟨cs', h1, h2⟩ := hx i hi
   obtain ⟨_, hlen, hcell⟩ := World.cells?_some h1
   match cs', hlen with
   | [v0, v1, v2], _ =>
    have e0 := hcell 0 (by omega)
    have e1 := hcell 1 (by omega)
    have e2 := hcell 2 (by omega)
    rw [add_add] at e0 e1 e2
    obtain ⟨y, hy, hn⟩ := hQ h2
    exact ⟨(v0, v1, v2, y), by simpa using e0, by simpa using e1, by simpa using e2, hy, hn⟩)
  refine ⟨(List.range len).map fun i => (F i).2.2.2, ⟨some a, m, by simp, by simpa using hl, fun hn => ?_⟩, by simp; omega, fun k hk => ?_⟩
  ·simp at hn
   obtain ⟨b, off, spot⟩ := a
   have hspot : spot = none := by simpa [Addr.add] using World.cell?_spot (hF 0 (by omega)).1
   subst hspot
   have hb : b < W.heap.size := by simpa [Addr.add] using World.block_lt_of_cell? _ _ (hF 0 (by omega)).1
   refine ⟨b, off, rfl, hb, fun k hk => ?_⟩
   simp at hk
   obtain ⟨c0, c1, c2, hq, _⟩ := hF k (by omega)
   rw [Go.WideShapes.add_plain] at c0 c1 c2
   exact ⟨_, _, _, by simpa using c0, by simpa [Nat.add_assoc] using c1, by simpa [Nat.add_assoc] using c2, by simpa using hq⟩
  ·simp at hk ⊢
   exact (hF k (by omega)).2.2.2.2
set_option maxRecDepth 100000 in
theorem open_lits_cells {fuel : Nat} {v : Value} {x : DataW H × List MemPlace} (h : DataW.trod enc Tryz.prog W 0 (fun _ => true) true fuel 133 [v] = some x) : ∃ ls : List LLit, RdLits W W.heap.size v ls /\ bodyFits ls :=
 open_row_cells (N := fun l : LLit => l.2.2.length <= maxLen) Tryz.underlying133 Tryz.cells244 (fun h => open_lit_cells h) h
end
open Go.ChangeShapes Go.WideShapes Go.ChangeAt Go.RowKit Go.Joins Go.Deep
theorem Tryz.cells135 : Tryz.prog.cellsOf 135 = 3 := by kernel_rfl
section
variable {H : Type} {enc : TypeId × Value -> H} {W : World}
def ruleFitsIn (r : LRule) : Prop := r.1.2.length <= maxLen /\ bodyFits r.2
set_option maxRecDepth 100000 in
theorem open_rule_cells {fuel : Nat} {v0 v1 v2 : Value} {x : DataW H × List MemPlace} (h : DataW.trod enc Tryz.prog W 0 (fun _ => true) true fuel 135 [v0, v1, v2] = some x) :
 ∃ r : LRule, QRule W W.heap.size v0 v1 v2 r /\ ruleFitsIn r := by
 obtain ⟨y0, y1, n, _, _, h0, h1⟩ := trod_struct2 Tryz.underlying135 h
 rw [Tryz.cells50] at h0
 rw [Tryz.cells133] at h1
 obtain ⟨f, e1, hx⟩ := open_atom_cells (v0 := v0) (v1 := v1) h0
 obtain ⟨ls, hl, hb⟩ := open_lits_cells (v := v2) h1
 exact ⟨(f, ls), ⟨e1, hx.1, hl⟩, hx.2, hb⟩
end
open Go.ChangeShapes Go.WideShapes Go.ChangeAt Go.RowKit Go.Joins Go.Deep
theorem Tryz.cells25 : Tryz.prog.cellsOf 25 = 2 := by kernel_rfl
theorem Tryz.cells23 : Tryz.prog.cellsOf 23 = 1 := by kernel_rfl
abbrev LProg := List Int × List LRule
def RdProg (w : World) (B : Nat) (v : Value) (p : LProg) : Prop := ∃ a b, v = .agg #[a, b] /\ RdInts w B a p.1 /\ RdRules w B b p.2
theorem RdProg.on {w w' : World} {v : Value} {p : LProg} (h : RdProg w w.heap.size v p) (hb : Below w.heap.size w w') : RdProg w' w'.heap.size v p := by
 obtain ⟨a, b, rfl, h1, h2⟩ := h
 exact ⟨a, b, rfl, h1.on hb, h2.on hb⟩
section
variable {H : Type} {enc : TypeId × Value -> H} {W : World}
def InProg (W : World) (v : Value) (p : LProg) : Prop := RdProg W W.heap.size v p /\ p.1.length <= maxLen /\ p.2.length <= maxLen /\ ∀ k (h : k < p.2.length), ruleFitsIn p.2[k]
set_option maxRecDepth 100000 in
theorem open_rules_cells {fuel : Nat} {v : Value} {x : DataW H × List MemPlace} (h : DataW.trod enc Tryz.prog W 0 (fun _ => true) true fuel 23 [v] = some x) : ∃ rs : List LRule, RdRules W W.heap.size v rs /\ rs.length <= maxLen /\ ∀ k (h : k < rs.length), ruleFitsIn rs[k] :=
 open_row_cells (N := ruleFitsIn) Tryz.underlying23 Tryz.cells135 (fun h => open_rule_cells h) h
set_option maxRecDepth 100000 in
theorem open_inProg {v : Value} {d : DataW H} {p : List MemPlace} {b0 : Nat} (hv : Value.okWide Tryz.prog W .any b0 25 v) (h : DataW.Trod enc Tryz.prog W 0 (fun _ => true) true 25 v d p) : ∃ q, InProg W v q := by
 obtain ⟨cs, rfl, hsz⟩ := okWide_struct Tryz.underlying25 hv
 obtain ⟨c0, c1, rfl⟩ := array2 (hsz.trans Tryz.cells25)
 obtain ⟨fuel, hf⟩ := h
 obtain ⟨y0, y1, n, _, _, h0, h1⟩ := trod_struct2 Tryz.underlying25 hf
 rw [Tryz.cells22] at h0
 rw [Tryz.cells23] at h1
 obtain ⟨xs, hx⟩ := open_inInts_cells (v := c0) (by simpa [Value.cells] using h0)
 obtain ⟨rs, hr, hn, hk⟩ := open_rules_cells (v := c1) (by simpa [Value.cells] using h1)
 exact ⟨(xs, rs), ⟨c0, c1, rfl, hx.1, hr⟩, hx.2, hn, hk⟩
end
open Go.RowKit
structure ColI (w wr : World) (xs : List Int) (A : Option Addr) (c : Nat) : Prop where
 below : Below w.heap.size w wr
 own : OwnInts wr w.heap.size wr.heap.size (.slice A xs.length c) xs
theorem ColI.nil {w wr : World} (hb : Below w.heap.size w wr) : ColI w wr [] none 0 := ⟨hb, World.ownsRow_nil _ _ _ _, fun g hg => by cases hg⟩
theorem ColI.empty {w wr : World} (hb : Below w.heap.size w wr) : ColI w (wr.alloc (.cells #[] 3)) [] (some ⟨wr.heap.size, 0, none⟩) 0 :=
 ⟨hb.alloc hb.size _, World.ownsRow_made wr #[] 0 hb.size (by decide) rfl, fun g hg => by simp [Value.ownBlock] at hg; subst hg; simp⟩
theorem ColI.push {w wr w2 w4 : World} {xs : List Int} {A : Option Addr} {c g cap : Nat} {x : Int} {o : Obj} (h : ColI w wr xs A c) (hb : Below wr.heap.size wr w2)
 (hg : (w2.alloc o).grownBy w4 (Value.slice A xs.length c).ownBlock) (hown : w4.ownsRow w.heap.size 3 1 (.slice (some ⟨g, 0, none⟩) (xs.length + 1) cap) (xs.length + 1) (xs.map (Value.int .i64) ++ [.int .i64 x])) :
 ColI w w4 (xs ++ [x]) (some ⟨g, 0, none⟩) cap := by
 have hl : (xs ++ [x]).length = xs.length + 1 := by simp
 refine ⟨((bthen h.below hb).alloc (bthen h.below hb).size _).grown hg (by have := (bthen h.below hb).size; simp; omega) (fun k hk => (h.own.1.lt k hk).1), ?_⟩
 rw [hl]
 exact ⟨by simpa using hown, fun b hb' => (hown.lt b hb').2⟩
theorem news1 (w : World) (x : Value) (t : TypeId) : ∀ j u, [x][j]? = some u -> (w.alloc (.cells #[x] t)).cell? ((⟨w.heap.size, 0, none⟩ : Addr).add j) = some u := World.news_of_block (cs := #[x]) (heap_alloc_new w _)
theorem news1s (w : World) (x : Value) (t : TypeId) (n : Nat) (hn : w.heap.size = n) : ∀ j u, [x][j]? = some u -> (w.alloc (.cells #[x] t)).cell? ((⟨n, 0, none⟩ : Addr).add j) = some u := hn ▸ news1 w x t
open Go.RowKit
set_option maxHeartbeats 400000 in
theorem szLit_any (v : Value) (l : LLit) (left : Int) (w : World) (h : RdLit w w.heap.size v l) (h0 : 0 <= left) (hl : left <= 1048576) (hn : l.2.2.length <= 9223372036854775807) :
 Calls Tryz.prog 196 #[v, .int .i64 left] w fun e w' => e = .returned (.int .i64 (szV left l.2.2.length)) /\ Below w.heap.size w w' := by
 obtain ⟨a, rfl, h⟩ := h
 have H := Lib.hid h
 obtain ⟨A, c, rfl, hc, _⟩ := h
 have hcs := szV_cases left l.2.2.length
 go_enter Tryz.func196, Tryz.ntmps196
 go_wp2_with (fail)
 refine (szAtom_any _ l.2 _ _ ⟨_, rfl, H.out.on (below1 _ _)⟩ h0 hl hn).mono ?_
 rintro e w1 ⟨rfl, hb⟩
 have hB := bthen (below1 _ _) hb
 rcases hcs with ⟨e1, _⟩ | ⟨e1, _⟩
 ·rw [e1]
  have HV := Lib.hid e1
  clear e1
  go_wp2_with (fail)
  go_ret
  exact ⟨ret_int HV.out.symm, hB⟩
 ·have h1 : ¬ szV left l.2.2.length < 0 := by omega
  go_wp2_with (fail)
  go_ret
  exact ⟨rfl, hB⟩
set_option maxHeartbeats 400000 in
theorem toLit_any (v : Value) (l : LLit) (w : World) (h : RdLit w w.heap.size v l) (hn : l.2.2.length * 8 <= 140737488351232) :
 Calls Tryz.prog 197 #[v] w fun e w' => ∃ A' c', e = .returned (.agg #[.int .i64 l.1, .int .i64 l.2.1, .slice A' l.2.2.length c']) /\ OwnInts w' w.heap.size w'.heap.size (.slice A' l.2.2.length c') l.2.2 /\ Below w.heap.size w w' := by
 obtain ⟨a, rfl, h⟩ := h
 have H := Lib.hid h
 obtain ⟨A, c, rfl, hc, _⟩ := h
 go_enter Tryz.func197, Tryz.ntmps197
 go_wp2_with (fail)
 refine (toAtom_any _ l.2 _ ⟨_, rfl, H.out.on (below3 _ _ _ _)⟩ hn).mono ?_
 rintro e w4 ⟨A4, c4, rfl, ho, hb⟩
 have hB := bthen (below3 _ _ _ _) hb
 have b1 : Blk w4 (w.heap.size + 1) 191 #[.int .i64 0, .int .i64 0, .slice none 0 0] := ((by simpa using (Blk.new (w.alloc (Obj.cells #[Value.int IntKind.i64 l.1, Value.int IntKind.i64 l.2.1, Value.slice A l.2.2.length c] 244)) _ _).alloc _ : Blk _ _ _ _)).below hb (by simp)
 have b2 : Blk w4 (w.heap.size + 2) 191 #[.int .i64 l.1, .int .i64 0, .slice none 0 0] := ((by simpa using Blk.new ((w.alloc (Obj.cells #[Value.int IntKind.i64 l.1, Value.int IntKind.i64 l.2.1, Value.slice A l.2.2.length c] 244)).alloc (Obj.cells #[.int .i64 0, .int .i64 0, .slice none 0 0] 191)) _ _ : Blk _ _ _ _)).below hb (by simp)
 have b1c0 : w4.cell? ⟨w.heap.size + 1, 0, none⟩ = some (.int .i64 0) := b1.cell 0
 have b1c1 : w4.cell? ⟨w.heap.size + 1, 1, none⟩ = some (.int .i64 0) := b1.cell 1
 have b1c2 : w4.cell? ⟨w.heap.size + 1, 2, none⟩ = some (.slice none 0 0) := b1.cell 2
 have b2c0 : w4.cell? ⟨w.heap.size + 2, 0, none⟩ = some (.int .i64 l.1) := b2.cell 0
 have b2c1 : w4.cell? ⟨w.heap.size + 2, 1, none⟩ = some (.int .i64 0) := b2.cell 1
 have b2c2 : w4.cell? ⟨w.heap.size + 2, 2, none⟩ = some (.slice none 0 0) := b2.cell 2
 have b1f0 := b1.frozen 0
 have b1f1 := b1.frozen 1
 have b1f2 := b1.frozen 2
 have b2f0 := b2.frozen 0
 have b2f1 := b2.frozen 1
 have b2f2 := b2.frozen 2
 go_wp2_with (fail)
 refine bodyPost_ret (v := .agg #[.int .i64 l.1, .int .i64 l.2.1, .slice A4 l.2.2.length c4]) (by simp [results, Tryz.results197, go_sem, b1c0, b1c1, b1c2]) rfl ⟨_, _, rfl, ?_, ?_⟩
 ·refine OwnInts.mono (OwnInts.keep (lo := (((w.alloc (Obj.cells #[Value.int IntKind.i64 l.1, Value.int IntKind.i64 l.2.1, Value.slice A l.2.2.length c] 244)).alloc (Obj.cells #[.int .i64 0, .int .i64 0, .slice none 0 0] 191)).alloc (Obj.cells #[.int .i64 l.1, .int .i64 0, .slice none 0 0] 191)).heap.size) (hi := w4.heap.size) ho ?_) (by simp; omega) (by simp)
  intro g h1 h2
  simp at h1
  repeat (rw [Below.heap_setCell _ _ _ _ (by show g ≠ _; simp only []; omega)])
 ·repeat (first | exact hB | refine Below.setCell ?_ (by simp <;> omega) _)
set_option maxHeartbeats 400000 in
theorem eqLit_any (v v2 : Value) (f g : LLit) (w : World) (h : RdLit w w.heap.size v f) (h2 : RdLit w w.heap.size v2 g) (hn : f.2.2.length * 8 <= 140737488351232) (hn2 : g.2.2.length * 8 <= 140737488351232) :
 Calls Tryz.prog 205 #[v, v2] w fun e w' => e = .returned (.bool (decide (f = g))) /\ Below w.heap.size w w' := by
 obtain ⟨a, rfl, h⟩ := h
 have H := Lib.hid h
 obtain ⟨A, c, rfl, hc, _⟩ := h
 obtain ⟨a, rfl, h2⟩ := h2
 have H2 := Lib.hid h2
 obtain ⟨A2, c2, rfl, hc2, _⟩ := h2
 by_cases hp : f.1 = g.1
 ·have hpb : (f.1 != g.1) = false := by simp [hp]
  have HE := Lib.hid (show decide (f = g) = decide (f.2 = g.2) by simp [Prod.ext_iff, hp])
  clear hp
  go_enter Tryz.func205, Tryz.ntmps205
  go_wp2_with (fail)
  refine (eqAtom_any _ _ f.2 g.2 _ ⟨_, rfl, H.out.on (below2 _ _ _)⟩ ⟨_, rfl, H2.out.on (below2 _ _ _)⟩ hn hn2).mono ?_
  rintro e w4 ⟨rfl, hb⟩
  have hB := bthen (below2 _ _ _) hb
  by_cases hd : f.2 = g.2
  ·have hdb : decide (f.2 = g.2) = true := by simp [hd]
   have HD := Lib.hid hdb
   clear hd
   go_wp2_with (fail)
   go_ret
   exact ⟨ret_bool (by rw [HE.out, HD.out]), hB⟩
  ·have hdb : decide (f.2 = g.2) = false := by simp [hd]
   have HD := Lib.hid hdb
   clear hd
   go_wp2_with (fail)
   go_ret
   exact ⟨ret_bool (by rw [HE.out, HD.out]), hB⟩
 ·have hpb : (f.1 != g.1) = true := by simp [hp]
  have HE := Lib.hid (show decide (f = g) = false by simp [Prod.ext_iff, hp])
  clear hp
  go_enter Tryz.func205, Tryz.ntmps205
  go_wp2_with (fail)
  go_ret
  exact ⟨ret_bool HE.out.symm, below2 _ _ _⟩
theorem Tryz.infoLit : (Tryz.prog.info? 191).map (fun i => (i.zero, i.size, i.bytes)) = some (some (.agg #[.int .i64 0, .int .i64 0, .slice none 0 0]), 3, 40) := by kernel_rfl
set_option maxHeartbeats 400000 in
theorem toLitS_any (v : Value) (ls : List LLit) (w : World) (h : RdLits w w.heap.size v ls) (hl : ls.length <= 1048576) (hn : totL ls <= 1048576) :
 Calls Tryz.prog 156 #[v] w fun e w' => ∃ A' c', e = .returned (.slice A' ls.length c') /\ OwnLits w' w.heap.size w'.heap.size (.slice A' ls.length c') ls /\ Below w.heap.size w w' := by
 obtain ⟨i0, hi0, hz0, hz1, hz2⟩ := info_parts Tryz.infoLit
 have hmk := fun W => run_make_rowN (P := Tryz.prog) 136 191 i0 (.agg #[.int .i64 0, .int .i64 0, .slice none 0 0]) Tryz.underlying136 hi0 hz0 .i64 .i64 ls.length ls.length (Nat.le_refl _) (by rw [hz2]; omega) (by omega) W
 rw [hz1] at hmk
 simp only [Value.cells] at hmk
 have H := Lib.hid h
 obtain ⟨A, c, rfl, hc, _⟩ := h
 go_enter Tryz.func156, Tryz.ntmps156
 go_wp2_with (fail)
 go_loopw [4] (fun i wr => ∃ (k : Nat), k <= ls.length /\ i = .int .i64 k /\ ToRow 191 (.int .i64 0) (.int .i64 0) (.slice none 0 0) OLit w wr ls k) (fun i _ => ls.length - (intOf i).toNat)
 case atStart => exact ⟨0, Nat.zero_le _, rfl, ToRow.start w ls⟩
 case round =>
  obtain ⟨k, hk, rfl, hr⟩ := hrel
  by_cases hlt : k < ls.length
  ·obtain ⟨b, o, u0, u1, u2, rfl, hbB, k0, k1, k2, rfl, rfl, k3⟩ := (H.out.on hr.below).get hlt
   have HA := Lib.hid k3
   obtain ⟨A3, c3, rfl, hc4, _⟩ := k3
   have hln := len_le_totL ls k hlt
   go_wp2_with (fail)
   refine (toLit_any _ ls[k] _ ⟨_, rfl, HA.out⟩ (by omega)).mono ?_
   rintro e w4 ⟨A4, c4, rfl, ho4, hb4⟩
   obtain ⟨r1, r2, r3, r4, r5, r6⟩ := hr.room hlt hb4
   have hstep := hr.step (O := OLit) OLit.keep OLit.mono hlt hb4 (u0 := .int .i64 ls[k].1) (u1 := .int .i64 ls[k].2.1) ⟨rfl, rfl, ho4⟩
   go_wp2_with (fail)
   go_roundw
   case rel => exact ⟨k + 1, by omega, by go_num, hstep⟩
   case measure => simp [intOf]; omega
  ·have hkn : k = ls.length := by omega
   have HO := Lib.hid (show OwnLits wr w.heap.size wr.heap.size (.slice (some ⟨w.heap.size, 0, none⟩) ls.length ls.length) ls from ToRow.done (O := OLit) OLit.mono (by have h' := hr; rw [hkn] at h'; exact h'))
   have hbe := hr.below
   clear hkn hr
   go_wp2_with (fail)
   go_ret
   exact ⟨_, _, rfl, HO.out, hbe⟩
def TSame {α : Type} (xs ys : List α) (k : Nat) : Prop := xs.take k = ys.take k
theorem TSame.step {α : Type} {xs ys : List α} {k : Nat} (h : TSame xs ys k) (h1 : k < xs.length) (h2 : k < ys.length) (e : xs[k] = ys[k]) : TSame xs ys (k + 1) := by
 unfold TSame at h ⊢
 rw [take_snoc xs k h1, take_snoc ys k h2, h, e]
theorem TSame.eq {α : Type} {xs ys : List α} (h : TSame xs ys xs.length) (hl : xs.length = ys.length) : xs = ys := by
 unfold TSame at h
 rwa [List.take_length, hl, List.take_length] at h
set_option maxHeartbeats 400000 in
set_option maxRecDepth 100000 in
theorem eqLitS_any (va vb : Value) (xs ys : List LLit) (w : World) (ha : RdLits w w.heap.size va xs) (hb : RdLits w w.heap.size vb ys) (hx : xs.length <= 1048576) (hy : ys.length <= 1048576) (htx : totL xs <= 1048576) (hty : totL ys <= 1048576) :
 Calls Tryz.prog 160 #[va, vb] w fun e w' => e = .returned (.bool (decide (xs = ys))) /\ Below w.heap.size w w' := by
 have HX := Lib.hid ha
 have HY := Lib.hid hb
 obtain ⟨A, c, rfl, hc, _⟩ := ha
 obtain ⟨A2, c2, rfl, hc2, _⟩ := hb
 by_cases hl : xs.length = ys.length
 ·have hl1 : ((xs.length : Int) != (ys.length : Int)) = false := by simp [hl]
  have HL := Lib.hid hl
  clear hl
  go_enter Tryz.func160, Tryz.ntmps160
  go_wp2_with (fail)
  go_loopw [5] (fun i wr => ∃ k : Nat, k <= xs.length /\ i = .int .i64 k /\ TSame xs ys k /\ Below w.heap.size w wr) (fun i _ => xs.length - (intOf i).toNat)
  case atStart => exact ⟨0, Nat.zero_le _, rfl, rfl, Below.refl _ _⟩
  case round =>
   obtain ⟨k, hk, rfl, hs, hbe⟩ := hrel
   by_cases hlt : k < xs.length
   ·have hlt2 : k < ys.length := by have := HL.out; omega
    obtain ⟨b, o, u0, u1, u2, rfl, hbB, k0, k1, k2, rfl, rfl, p3⟩ := (HX.out.on hbe).get hlt
    obtain ⟨b2, o2, v0, v1, v2, rfl, hbB2, m0, m1, m2, rfl, rfl, q3⟩ := (HY.out.on hbe).get hlt2
    have hln := len_le_totL xs k hlt
    have hln2 := len_le_totL ys k hlt2
    have HA := Lib.hid p3
    have HA2 := Lib.hid q3
    obtain ⟨A3, c3, rfl, hc3, _⟩ := p3
    obtain ⟨A4, c4, rfl, hc4, _⟩ := q3
    go_wp2_with (fail)
    go_still_tail 8, (by kernel_rfl)
    change wpList _ _ _ _ _ wr.drew
    obtain ⟨w2, hw2⟩ : ∃ w2, w2 = wr.drew := ⟨_, rfl⟩
    rw [<- hw2]
    have hbe2 : Below wr.heap.size wr w2 := by rw [hw2]; exact (Below.refl _ _).drew
    clear hw2
    go_wp2_with (fail)
    refine (eqLit_any _ _ xs[k] ys[k] _ ⟨_, rfl, HA.out.on hbe2⟩ ⟨_, rfl, HA2.out.on hbe2⟩ (by omega) (by omega)).mono ?_
    rintro e w4 ⟨rfl, hb4⟩
    have hB4 := bthen hbe (bthen hbe2 hb4)
    by_cases he : xs[k] = ys[k]
    ·have hdb : decide (xs[k] = ys[k]) = true := by simp [he]
     have HS := Lib.hid (hs.step hlt hlt2 he)
     clear he hs
     go_wp2_with (fail)
     go_roundw
     case rel => exact ⟨k + 1, by omega, by go_num, HS.out, hB4⟩
     case measure => simp [intOf]; omega
    ·have hdb : decide (xs[k] = ys[k]) = false := by simp [he]
     have HE := Lib.hid (show xs ≠ ys from fun e => he (by subst e; rfl))
     clear he hs
     go_wp2_with (fail)
     go_ret
     exact ⟨ret_bool (by simp [HE.out]), hB4⟩
   ·have hkn : k = xs.length := by omega
    have HE := Lib.hid (show xs = ys from TSame.eq (by rw [<- hkn]; exact hs) HL.out)
    clear hkn hs
    go_wp2_with (fail)
    go_ret
    exact ⟨ret_bool (by simp [HE.out]), hbe⟩
 ·have hl1 : ((xs.length : Int) != (ys.length : Int)) = true := by simp; omega
  have HE := Lib.hid (show xs ≠ ys from fun e => hl (by rw [e]))
  clear hl
  go_enter Tryz.func160, Tryz.ntmps160
  go_wp2_with (fail)
  go_ret
  exact ⟨ret_bool (by simp [HE.out]), Below.refl _ _⟩
def SzRes (r left : Int) (n : Nat) : Prop := r = -1 \/ (0 <= r /\ r + n = left)
def SzTo (r left : Int) (n m : Nat) : Prop := 0 <= r /\ r + n + m = left
set_option maxHeartbeats 400000 in
theorem szLitS_any (v : Value) (ls : List LLit) (left : Int) (w : World) (h : RdLits w w.heap.size v ls) (h0 : 0 <= left) (hl : left <= 1048576) (hn : ls.length <= 9223372036854775807) (hm : ∀ k (h : k < ls.length), ls[k].2.2.length <= 9223372036854775807) :
 Calls Tryz.prog 155 #[v, .int .i64 left] w fun e w' => ∃ r, e = .returned (.int .i64 r) /\ SzRes r left (ls.length + totL ls) /\ Below w.heap.size w w' := by
 have H := Lib.hid h
 obtain ⟨A, c, rfl, hc, _⟩ := h
 by_cases hneg : left - (ls.length : Int) < 0
 ·go_enter Tryz.func155, Tryz.ntmps155
  go_wp2_with (fail)
  go_ret
  exact ⟨_, rfl, .inl rfl, Below.refl _ _⟩
 ·go_enter Tryz.func155, Tryz.ntmps155
  go_wp2_with (fail)
  go_loopw [1, 5] (fun l i wr => ∃ (k : Nat) (r : Int), k <= ls.length /\ i = .int .i64 k /\ l = .int .i64 r /\ SzTo r left ls.length (totL (ls.take k)) /\ Below w.heap.size w wr) (fun _ i _ => ls.length - (intOf i).toNat)
  case atStart => exact ⟨0, _, Nat.zero_le _, rfl, rfl, ⟨by omega, by simp [totL]⟩, Below.refl _ _⟩
  case round =>
   obtain ⟨k, r, hk, rfl, rfl, hs, hbe⟩ := hrel
   by_cases hlt : k < ls.length
   ·obtain ⟨b, o, u0, u1, u2, rfl, hbB, k0, k1, k2, rfl, rfl, p3⟩ := (H.out.on hbe).get hlt
    have HA := Lib.hid p3
    obtain ⟨A3, c3, rfl, hc3, _⟩ := p3
    have hmk := hm k hlt
    have htk := totL_take ls k hlt
    have hcs := szV_cases r ls[k].2.2.length
    have hr0 := hs.1
    have hr1 := hs.2
    have HT := Lib.hid (And.intro htk hr1)
    clear htk hr1
    go_wp2_with (fail)
    refine (szLit_any _ ls[k] r _ ⟨_, rfl, HA.out⟩ hr0 (by have := HT.out; omega) hmk).mono ?_
    rintro e w4 ⟨rfl, hb4⟩
    have hB4 := bthen hbe hb4
    rcases hcs with ⟨e1, _⟩ | ⟨e1, e2⟩
    ·rw [e1]
     clear e1
     go_wp2_with (fail)
     go_ret
     exact ⟨_, rfl, .inl rfl, hB4⟩
    ·have h1 : ¬ szV r ls[k].2.2.length < 0 := by omega
     have HS := Lib.hid (show SzTo (szV r ls[k].2.2.length) left ls.length (totL (ls.take (k + 1))) from ⟨e1, by have := HT.out; omega⟩)
     clear e2
     go_wp2_with (fail)
     go_roundw
     case rel => exact ⟨k + 1, _, by omega, by go_num, rfl, HS.out, hB4⟩
     case measure => simp [intOf]; omega
   ·have hkn : k = ls.length := by omega
    have HE := Lib.hid (show SzRes r left (ls.length + totL ls) from .inr ⟨hs.1, by have := hs.2; rw [hkn, List.take_length] at this; omega⟩)
    clear hkn hs
    go_wp2_with (fail)
    go_ret
    exact ⟨_, rfl, HE.out, hbe⟩
open Go.RowKit
def ruleLens (r : LRule) : Prop := r.1.2.length <= 9223372036854775807 /\ r.2.length <= 9223372036854775807 /\ ∀ k (h : k < r.2.length), r.2[k].2.2.length <= 9223372036854775807
set_option maxHeartbeats 400000 in
theorem szRule_any (v : Value) (r : LRule) (left : Int) (w : World) (h : RdRule w w.heap.size v r) (h0 : 0 <= left) (hl : left <= 1048576) (hn : ruleLens r) :
 Calls Tryz.prog 99 #[v, .int .i64 left] w fun e w' => ∃ z, e = .returned (.int .i64 z) /\ SzRes z left (szR r) /\ Below w.heap.size w w' := by
 obtain ⟨a, b, rfl, h, h2⟩ := h
 obtain ⟨hn1, hn2, hn3⟩ := hn
 have H := Lib.hid h
 have H2 := Lib.hid h2
 obtain ⟨A, c, rfl, hc, _⟩ := h
 obtain ⟨A2, c2, rfl, hcc, _⟩ := h2
 have hcs := szV_cases left r.1.2.length
 go_enter Tryz.func99, Tryz.ntmps99
 go_wp2_with (fail)
 refine (szAtom_any _ r.1 _ _ ⟨_, rfl, H.out.on (below1 _ _)⟩ h0 hl hn1).mono ?_
 rintro e w1 ⟨rfl, hb⟩
 have hB := bthen (below1 _ _) hb
 have hx : Blk w1 w.heap.size 135 #[.int .i64 r.1.1, .slice A r.1.2.length c, .slice A2 r.2.length c2] := (Blk.new w _ _).below hb (by simp)
 have hx2 : w1.cell? ⟨w.heap.size, 2, none⟩ = some (.slice A2 r.2.length c2) := hx.cell 2
 rcases hcs with ⟨e1, e2⟩ | ⟨e1, e2⟩
 ·rw [e1]
  have HV := Lib.hid e1
  clear e1
  go_wp2_with (fail)
  go_ret
  exact ⟨_, rfl, .inl rfl, hB⟩
 ·have h1 : ¬ szV left r.1.2.length < 0 := by omega
  go_wp2_with (fail)
  refine (szLitS_any _ r.2 _ _ (H2.out.on hB) e1 (by omega) hn2 hn3).mono ?_
  rintro e w2 ⟨z, rfl, hz, hb2⟩
  have hB2 := bthen hB hb2
  rcases hz with rfl | ⟨z0, z1⟩
  ·go_wp2_with (fail)
   go_ret
   exact ⟨_, rfl, .inl rfl, hB2⟩
  ·have hz : ¬ z < 0 := by omega
   have HZ := Lib.hid (show SzRes z left (szR r) from .inr ⟨z0, by unfold szR; omega⟩)
   clear z0 z1 e1 e2
   go_wp2_with (fail)
   go_ret
   exact ⟨_, rfl, HZ.out, hB2⟩
theorem OwnInts.far {w : World} {lo hi : Nat} {v : Value} {xs : List Int} (h : OwnInts w lo hi v xs) {p : Addr} (hp : p.block < lo) (u : Value) : OwnInts (w.setCell p u) lo hi v xs := h.set (.inl hp) u
theorem OwnLits.far {w : World} {lo hi : Nat} {v : Value} {ls : List LLit} (h : OwnLits w lo hi v ls) {p : Addr} (hp : p.block < lo) (u : Value) : OwnLits (w.setCell p u) lo hi v ls :=
 h.keep fun g h1 _ => Below.heap_setCell _ _ _ _ (by omega)
set_option maxHeartbeats 1000000 in
theorem toRule_any (v : Value) (r : LRule) (w : World) (h : RdRule w w.heap.size v r) (hn : szR r <= 1048576) :
 Calls Tryz.prog 100 #[v] w fun e w' => ∃ A' c' A2' c2', e = .returned (.agg #[.int .i64 r.1.1, .slice A' r.1.2.length c', .slice A2' r.2.length c2']) /\ OwnInts w' w.heap.size w'.heap.size (.slice A' r.1.2.length c') r.1.2 /\ OwnLits w' w.heap.size w'.heap.size (.slice A2' r.2.length c2') r.2 /\ Below w.heap.size w w' := by
 obtain ⟨a, b, rfl, h, h2⟩ := h
 unfold szR at hn
 have H := Lib.hid h
 have H2 := Lib.hid h2
 obtain ⟨A, c, rfl, hc, _⟩ := h
 obtain ⟨A2, c2, rfl, hcc, _⟩ := h2
 go_enter Tryz.func100, Tryz.ntmps100
 go_wp2_with (fail)
 obtain ⟨w3, hw3⟩ : ∃ w3, w3 = ((w.alloc (Obj.cells #[Value.int IntKind.i64 r.1.1, Value.slice A r.1.2.length c, Value.slice A2 r.2.length c2] 135)).alloc (Obj.cells #[.int .i64 0, .slice none 0 0, .slice none 0 0] 138)).alloc (Obj.cells #[.int .i64 0, .slice none 0 0, .slice none 0 0] 138) := ⟨_, rfl⟩
 have B3 : Below w.heap.size w w3 := by rw [hw3]; exact below3 _ _ _ _
 have s3 : w3.heap.size = w.heap.size + 3 := by rw [hw3]; simp
 have x0 : Blk w3 w.heap.size 135 #[.int .i64 r.1.1, .slice A r.1.2.length c, .slice A2 r.2.length c2] := by rw [hw3]; exact ((Blk.new w _ _).alloc _).alloc _
 have x1 : Blk w3 (w.heap.size + 1) 138 #[.int .i64 0, .slice none 0 0, .slice none 0 0] := by
  rw [hw3]
  simpa using (Blk.new (w.alloc (Obj.cells #[Value.int IntKind.i64 r.1.1, Value.slice A r.1.2.length c, Value.slice A2 r.2.length c2] 135)) _ _).alloc _
 have x2 : Blk w3 (w.heap.size + 2) 138 #[.int .i64 0, .slice none 0 0, .slice none 0 0] := by
  rw [hw3]
  simpa using Blk.new ((w.alloc (Obj.cells #[Value.int IntKind.i64 r.1.1, Value.slice A r.1.2.length c, Value.slice A2 r.2.length c2] 135)).alloc (Obj.cells #[.int .i64 0, .slice none 0 0, .slice none 0 0] 138)) _ _
 rw [<- hw3]
 clear hw3
 refine (toAtom_any _ r.1 _ ⟨_, rfl, H.out.on B3⟩ (by omega)).mono ?_
 rintro e w4 ⟨A4, c4, rfl, ho, hb⟩
 have y0 := x0.below hb x0.lt
 have y1 := x1.below hb x1.lt
 have y2 := x2.below hb x2.lt
 have z2c0 : w4.cell? ⟨w.heap.size + 2, 0, none⟩ = some (.int .i64 0) := y2.cell 0
 have z2c1 : w4.cell? ⟨w.heap.size + 2, 1, none⟩ = some (.slice none 0 0) := y2.cell 1
 have z2f0 := y2.frozen 0
 have z2f1 := y2.frozen 1
 have z0c2 : w4.cell? ⟨w.heap.size, 2, none⟩ = some (.slice A2 r.2.length c2) := y0.cell 2
 go_wp2_with (fail)
 obtain ⟨w5, hw5⟩ : ∃ w5, w5 = (w4.setCell ⟨w.heap.size + 2, 0, none⟩ (.int .i64 r.1.1)).setCell ⟨w.heap.size + 2, 1, none⟩ (.slice A4 r.1.2.length c4) := ⟨_, rfl⟩
 have s5 : w5.heap.size = w4.heap.size := by rw [hw5]; simp
 have s4 := hb.size
 have u2 : Blk w5 (w.heap.size + 2) 138 #[.int .i64 r.1.1, .slice A4 r.1.2.length c4, .slice none 0 0] := by
  rw [hw5]
  simpa using (y2.set_ 0 (.int .i64 r.1.1)).set_ 1 (.slice A4 r.1.2.length c4)
 have u1 : Blk w5 (w.heap.size + 1) 138 #[.int .i64 0, .slice none 0 0, .slice none 0 0] := by rw [hw5]; exact (y1.far (by simp) _).far (by simp) _
 have B5 : Below w.heap.size w w5 := by rw [hw5]; exact ((bthen B3 hb).setCell (by simp) _).setCell (by simp) _
 have O5 : OwnInts w5 w3.heap.size w4.heap.size (.slice A4 r.1.2.length c4) r.1.2 := by rw [hw5]; exact (ho.far (by simp [s3]) _).far (by simp [s3]) _
 rw [<- hw5]
 clear hw5 z2c0 z2c1 z2f0 z2f1 z0c2
 refine (toLitS_any _ r.2 _ (H2.out.on B5) (by omega) (by omega)).mono ?_
 rintro e w6 ⟨A6, c6, rfl, ho6, hb6⟩
 have v1 := u1.below hb6 u1.lt
 have v2 := u2.below hb6 u2.lt
 have B6 := bthen B5 hb6
 have O6 := O5.below hb6 (by omega)
 have s6 := hb6.size
 have b1c0 : w6.cell? ⟨w.heap.size + 1, 0, none⟩ = some (.int .i64 0) := v1.cell 0
 have b1c1 : w6.cell? ⟨w.heap.size + 1, 1, none⟩ = some (.slice none 0 0) := v1.cell 1
 have b1c2 : w6.cell? ⟨w.heap.size + 1, 2, none⟩ = some (.slice none 0 0) := v1.cell 2
 have b2c0 : w6.cell? ⟨w.heap.size + 2, 0, none⟩ = some (.int .i64 r.1.1) := v2.cell 0
 have b2c1 : w6.cell? ⟨w.heap.size + 2, 1, none⟩ = some (.slice A4 r.1.2.length c4) := v2.cell 1
 have b2c2 : w6.cell? ⟨w.heap.size + 2, 2, none⟩ = some (.slice none 0 0) := v2.cell 2
 have b1f0 := v1.frozen 0
 have b1f1 := v1.frozen 1
 have b1f2 := v1.frozen 2
 have b2f2 := v2.frozen 2
 clear y0 y1 y2 x0 x1 x2
 go_wp2_with (fail)
 refine bodyPost_ret (v := .agg #[.int .i64 r.1.1, .slice A4 r.1.2.length c4, .slice A6 r.2.length c6]) (by simp [results, Tryz.results100, go_sem, b1c0, b1c1, b1c2]) rfl ⟨_, _, _, _, rfl, ?_, ?_, ?_⟩
 ·refine OwnInts.mono (lo := w3.heap.size) (hi := w4.heap.size) ?_ (by omega) (by simp; omega)
  repeat (first | exact O6 | refine OwnInts.far ?_ (by simp [s3]) _)
 ·refine OwnLits.mono (lo := w5.heap.size) (hi := w6.heap.size) ?_ (by omega) (by simp)
  repeat (first | exact ho6 | refine OwnLits.far ?_ (by simp; omega) _)
 ·repeat (first | exact B6 | refine Below.setCell ?_ (by first | (simp; done) | (simp; omega)) _)
set_option maxHeartbeats 1000000 in
theorem eqRule_any (v v2 : Value) (f g : LRule) (w : World) (h : RdRule w w.heap.size v f) (h2 : RdRule w w.heap.size v2 g) (hn : szR f <= 1048576) (hn2 : szR g <= 1048576) :
 Calls Tryz.prog 104 #[v, v2] w fun e w' => e = .returned (.bool (decide (f = g))) /\ Below w.heap.size w w' := by
 obtain ⟨a, b, rfl, h, h3⟩ := h
 obtain ⟨a2, b2, rfl, h2, h4⟩ := h2
 unfold szR at hn hn2
 have H := Lib.hid h
 have H2 := Lib.hid h2
 have H3 := Lib.hid h3
 have H4 := Lib.hid h4
 obtain ⟨A, c, rfl, hc, _⟩ := h
 obtain ⟨A2, c2, rfl, hc2, _⟩ := h2
 obtain ⟨A3, c3, rfl, hc3, _⟩ := h3
 obtain ⟨A4, c4, rfl, hc4, _⟩ := h4
 go_enter Tryz.func104, Tryz.ntmps104
 go_wp2_with (fail)
 obtain ⟨w2, hw2⟩ : ∃ w2, w2 = (w.alloc (Obj.cells #[Value.int IntKind.i64 f.1.1, Value.slice A f.1.2.length c, Value.slice A3 f.2.length c3] 138)).alloc (Obj.cells #[Value.int IntKind.i64 g.1.1, Value.slice A2 g.1.2.length c2, Value.slice A4 g.2.length c4] 138) := ⟨_, rfl⟩
 have B2 : Below w.heap.size w w2 := by rw [hw2]; exact below2 _ _ _
 have x0 : Blk w2 w.heap.size 138 #[.int .i64 f.1.1, .slice A f.1.2.length c, .slice A3 f.2.length c3] := by rw [hw2]; exact (Blk.new w _ _).alloc _
 have x1 : Blk w2 (w.heap.size + 1) 138 #[.int .i64 g.1.1, .slice A2 g.1.2.length c2, .slice A4 g.2.length c4] := by
  rw [hw2]
  simpa using Blk.new (w.alloc (Obj.cells #[Value.int IntKind.i64 f.1.1, Value.slice A f.1.2.length c, Value.slice A3 f.2.length c3] 138)) _ _
 rw [<- hw2]
 clear hw2
 refine (eqAtom_any _ _ f.1 g.1 _ ⟨_, rfl, H.out.on B2⟩ ⟨_, rfl, H2.out.on B2⟩ (by omega) (by omega)).mono ?_
 rintro e w4 ⟨rfl, hb⟩
 have y0 := x0.below hb x0.lt
 have y1 := x1.below hb x1.lt
 have B4 := bthen B2 hb
 have z0 : w4.cell? ⟨w.heap.size, 2, none⟩ = some (.slice A3 f.2.length c3) := y0.cell 2
 have z1 : w4.cell? ⟨w.heap.size + 1, 2, none⟩ = some (.slice A4 g.2.length c4) := y1.cell 2
 by_cases hp : f.1 = g.1
 ·have hpb : decide (f.1 = g.1) = true := by simp [hp]
  have HE := Lib.hid (show decide (f = g) = decide (f.2 = g.2) from decide_eq_decide.2 ⟨fun e => by rw [e], fun e => Prod.ext hp e⟩)
  clear hp
  go_wp2_with (fail)
  refine (eqLitS_any _ _ f.2 g.2 _ (H3.out.on B4) (H4.out.on B4) (by omega) (by omega) (by omega) (by omega)).mono ?_
  rintro e w5 ⟨rfl, hb5⟩
  have B5 := bthen B4 hb5
  by_cases hd : f.2 = g.2
  ·have hdb : decide (f.2 = g.2) = true := by simp [hd]
   have HD := Lib.hid hdb
   clear hd
   go_wp2_with (fail)
   go_ret
   exact ⟨ret_bool (by rw [HE.out, HD.out]), B5⟩
  ·have hdb : decide (f.2 = g.2) = false := by simp [hd]
   have HD := Lib.hid hdb
   clear hd
   go_wp2_with (fail)
   go_ret
   exact ⟨ret_bool (by rw [HE.out, HD.out]), B5⟩
 ·have hpb : decide (f.1 = g.1) = false := by simp [hp]
  have HE := Lib.hid (show decide (f = g) = false from decide_eq_false fun e => hp (by rw [e]))
  clear hp
  go_wp2_with (fail)
  go_ret
  exact ⟨ret_bool HE.out.symm, B4⟩
open Go.RowKit
theorem Tryz.infoRule : (Tryz.prog.info? 138).map (fun i => (i.zero, i.size, i.bytes)) = some (some (.agg #[.int .i64 0, .slice none 0 0, .slice none 0 0]), 3, 56) := by kernel_rfl
set_option maxHeartbeats 400000 in
theorem toRuleS_any (v : Value) (ls : List LRule) (w : World) (h : RdRules w w.heap.size v ls) (hl : ls.length <= 1048576) (hn : totR ls <= 1048576) :
 Calls Tryz.prog 61 #[v] w fun e w' => ∃ A' c', e = .returned (.slice A' ls.length c') /\ OwnRules w' w.heap.size w'.heap.size (.slice A' ls.length c') ls /\ Below w.heap.size w w' := by
 obtain ⟨i0, hi0, hz0, hz1, hz2⟩ := info_parts Tryz.infoRule
 have hmk := fun W => run_make_rowN (P := Tryz.prog) 32 138 i0 (.agg #[.int .i64 0, .slice none 0 0, .slice none 0 0]) Tryz.underlying32 hi0 hz0 .i64 .i64 ls.length ls.length (Nat.le_refl _) (by rw [hz2]; omega) (by omega) W
 rw [hz1] at hmk
 simp only [Value.cells] at hmk
 have H := Lib.hid h
 obtain ⟨A, c, rfl, hc, _⟩ := h
 go_enter Tryz.func61, Tryz.ntmps61
 go_wp2_with (fail)
 go_loopw [4] (fun i wr => ∃ (k : Nat), k <= ls.length /\ i = .int .i64 k /\ ToRow 138 (.int .i64 0) (.slice none 0 0) (.slice none 0 0) ORule w wr ls k) (fun i _ => ls.length - (intOf i).toNat)
 case atStart => exact ⟨0, Nat.zero_le _, rfl, ToRow.start w ls⟩
 case round =>
  obtain ⟨k, hk, rfl, hr⟩ := hrel
  by_cases hlt : k < ls.length
  ·obtain ⟨b, o, u0, u1, u2, rfl, hbB, k0, k1, k2, rfl, k3, k4⟩ := (H.out.on hr.below).get hlt
   have HA := Lib.hid k3
   have HB := Lib.hid k4
   obtain ⟨A3, c3, rfl, hc4, _⟩ := k3
   obtain ⟨A5, c5, rfl, hc5, _⟩ := k4
   have hln := sz_le_totR ls k hlt
   go_wp2_with (fail)
   refine (toRule_any _ ls[k] _ ⟨_, _, rfl, HA.out, HB.out⟩ (by omega)).mono ?_
   rintro e w4 ⟨A4, c4, A6, c6, rfl, ho4, hl4, hb4⟩
   obtain ⟨r1, r2, r3, r4, r5, r6⟩ := hr.room hlt hb4
   have hstep := hr.step (O := ORule) ORule.keep ORule.mono hlt hb4 (u0 := .int .i64 ls[k].1.1) ⟨rfl, ho4, hl4⟩
   go_wp2_with (fail)
   go_roundw
   case rel => exact ⟨k + 1, by omega, by go_num, hstep⟩
   case measure => simp [intOf]; omega
  ·have hkn : k = ls.length := by omega
   have HO := Lib.hid (show OwnRules wr w.heap.size wr.heap.size (.slice (some ⟨w.heap.size, 0, none⟩) ls.length ls.length) ls from ToRow.done (O := ORule) ORule.mono (by have h' := hr; rw [hkn] at h'; exact h'))
   have hbe := hr.below
   clear hkn hr
   go_wp2_with (fail)
   go_ret
   exact ⟨_, _, rfl, HO.out, hbe⟩
set_option maxHeartbeats 400000 in
set_option maxRecDepth 100000 in
theorem eqRuleS_any (va vb : Value) (xs ys : List LRule) (w : World) (ha : RdRules w w.heap.size va xs) (hb : RdRules w w.heap.size vb ys) (hx : xs.length <= 1048576) (hy : ys.length <= 1048576) (htx : totR xs <= 1048576) (hty : totR ys <= 1048576) :
 Calls Tryz.prog 64 #[va, vb] w fun e w' => e = .returned (.bool (decide (xs = ys))) /\ Below w.heap.size w w' := by
 have HX := Lib.hid ha
 have HY := Lib.hid hb
 obtain ⟨A, c, rfl, hc, _⟩ := ha
 obtain ⟨A2, c2, rfl, hc2, _⟩ := hb
 by_cases hl : xs.length = ys.length
 ·have hl1 : ((xs.length : Int) != (ys.length : Int)) = false := by simp [hl]
  have HL := Lib.hid hl
  clear hl
  go_enter Tryz.func64, Tryz.ntmps64
  go_wp2_with (fail)
  go_loopw [5] (fun i wr => ∃ k : Nat, k <= xs.length /\ i = .int .i64 k /\ TSame xs ys k /\ Below w.heap.size w wr) (fun i _ => xs.length - (intOf i).toNat)
  case atStart => exact ⟨0, Nat.zero_le _, rfl, rfl, Below.refl _ _⟩
  case round =>
   obtain ⟨k, hk, rfl, hs, hbe⟩ := hrel
   by_cases hlt : k < xs.length
   ·have hlt2 : k < ys.length := by have := HL.out; omega
    obtain ⟨b, o, u0, u1, u2, rfl, hbB, k0, k1, k2, rfl, p3, p4⟩ := (HX.out.on hbe).get hlt
    obtain ⟨b2, o2, v0, v1, v2, rfl, hbB2, m0, m1, m2, rfl, q3, q4⟩ := (HY.out.on hbe).get hlt2
    have hln := sz_le_totR xs k hlt
    have hln2 := sz_le_totR ys k hlt2
    have HA := Lib.hid p3
    have HA2 := Lib.hid q3
    have HB := Lib.hid p4
    have HB2 := Lib.hid q4
    obtain ⟨A3, c3, rfl, hc3, _⟩ := p3
    obtain ⟨A4, c4, rfl, hc4, _⟩ := q3
    obtain ⟨A5, c5, rfl, hc5, _⟩ := p4
    obtain ⟨A6, c6, rfl, hc6, _⟩ := q4
    go_wp2_with (fail)
    go_still_tail 8, (by kernel_rfl)
    change wpList _ _ _ _ _ wr.drew
    obtain ⟨w2, hw2⟩ : ∃ w2, w2 = wr.drew := ⟨_, rfl⟩
    rw [<- hw2]
    have hbe2 : Below wr.heap.size wr w2 := by rw [hw2]; exact (Below.refl _ _).drew
    clear hw2
    go_wp2_with (fail)
    refine (eqRule_any _ _ xs[k] ys[k] _ ⟨_, _, rfl, HA.out.on hbe2, HB.out.on hbe2⟩ ⟨_, _, rfl, HA2.out.on hbe2, HB2.out.on hbe2⟩ (by omega) (by omega)).mono ?_
    rintro e w4 ⟨rfl, hb4⟩
    have hB4 := bthen hbe (bthen hbe2 hb4)
    by_cases he : xs[k] = ys[k]
    ·have hdb : decide (xs[k] = ys[k]) = true := by simp [he]
     have HS := Lib.hid (hs.step hlt hlt2 he)
     clear he hs
     go_wp2_with (fail)
     go_roundw
     case rel => exact ⟨k + 1, by omega, by go_num, HS.out, hB4⟩
     case measure => simp [intOf]; omega
    ·have hdb : decide (xs[k] = ys[k]) = false := by simp [he]
     have HE := Lib.hid (show xs ≠ ys from fun e => he (by subst e; rfl))
     clear he hs
     go_wp2_with (fail)
     go_ret
     exact ⟨ret_bool (by simp [HE.out]), hB4⟩
   ·have hkn : k = xs.length := by omega
    have HE := Lib.hid (show xs = ys from TSame.eq (by rw [<- hkn]; exact hs) HL.out)
    clear hkn hs
    go_wp2_with (fail)
    go_ret
    exact ⟨ret_bool (by simp [HE.out]), hbe⟩
 ·have hl1 : ((xs.length : Int) != (ys.length : Int)) = true := by simp; omega
  have HE := Lib.hid (show xs ≠ ys from fun e => hl (by rw [e]))
  clear hl
  go_enter Tryz.func64, Tryz.ntmps64
  go_wp2_with (fail)
  go_ret
  exact ⟨ret_bool (by simp [HE.out]), Below.refl _ _⟩
set_option maxHeartbeats 400000 in
theorem szRuleS_any (v : Value) (ls : List LRule) (left : Int) (w : World) (h : RdRules w w.heap.size v ls) (h0 : 0 <= left) (hl : left <= 1048576) (hn : ls.length <= 9223372036854775807) (hm : ∀ k (h : k < ls.length), ruleLens ls[k]) :
 Calls Tryz.prog 59 #[v, .int .i64 left] w fun e w' => ∃ r, e = .returned (.int .i64 r) /\ SzRes r left (ls.length + totR ls) /\ Below w.heap.size w w' := by
 have H := Lib.hid h
 obtain ⟨A, c, rfl, hc, _⟩ := h
 by_cases hneg : left - (ls.length : Int) < 0
 ·go_enter Tryz.func59, Tryz.ntmps59
  go_wp2_with (fail)
  go_ret
  exact ⟨_, rfl, .inl rfl, Below.refl _ _⟩
 ·go_enter Tryz.func59, Tryz.ntmps59
  go_wp2_with (fail)
  go_loopw [1, 5] (fun l i wr => ∃ (k : Nat) (r : Int), k <= ls.length /\ i = .int .i64 k /\ l = .int .i64 r /\ SzTo r left ls.length (totR (ls.take k)) /\ Below w.heap.size w wr) (fun _ i _ => ls.length - (intOf i).toNat)
  case atStart => exact ⟨0, _, Nat.zero_le _, rfl, rfl, ⟨by omega, by simp [totR]⟩, Below.refl _ _⟩
  case round =>
   obtain ⟨k, r, hk, rfl, rfl, hs, hbe⟩ := hrel
   by_cases hlt : k < ls.length
   ·obtain ⟨b, o, u0, u1, u2, rfl, hbB, k0, k1, k2, rfl, p3, p4⟩ := (H.out.on hbe).get hlt
    have HA := Lib.hid p3
    have HB := Lib.hid p4
    obtain ⟨A3, c3, rfl, hc3, _⟩ := p3
    obtain ⟨A5, c5, rfl, hc5, _⟩ := p4
    have hmk := hm k hlt
    have htk := totR_take ls k hlt
    have hr0 := hs.1
    have hr1 := hs.2
    have HT := Lib.hid (And.intro htk hr1)
    clear htk hr1
    go_wp2_with (fail)
    refine (szRule_any _ ls[k] r _ ⟨_, _, rfl, HA.out, HB.out⟩ hr0 (by have := HT.out; omega) hmk).mono ?_
    rintro e w4 ⟨z, rfl, hz, hb4⟩
    have hB4 := bthen hbe hb4
    rcases hz with rfl | ⟨z0, z1⟩
    ·go_wp2_with (fail)
     go_ret
     exact ⟨_, rfl, .inl rfl, hB4⟩
    ·have h1 : ¬ z < 0 := by omega
     have HS := Lib.hid (show SzTo z left ls.length (totR (ls.take (k + 1))) from ⟨z0, by have := HT.out; omega⟩)
     clear z1
     go_wp2_with (fail)
     go_roundw
     case rel => exact ⟨k + 1, _, by omega, by go_num, rfl, HS.out, hB4⟩
     case measure => simp [intOf]; omega
   ·have hkn : k = ls.length := by omega
    have HE := Lib.hid (show SzRes r left (ls.length + totR ls) from .inr ⟨hs.1, by have := hs.2; rw [hkn, List.take_length] at this; omega⟩)
    clear hkn hs
    go_wp2_with (fail)
    go_ret
    exact ⟨_, rfl, HE.out, hbe⟩
def szP (p : LProg) : Nat := p.1.length + (p.2.length + totR p.2)
def progLens (p : LProg) : Prop := p.1.length <= 9223372036854775807 /\ p.2.length <= 9223372036854775807 /\ ∀ k (h : k < p.2.length), ruleLens p.2[k]
set_option maxHeartbeats 400000 in
theorem szProgram_any (v : Value) (p : LProg) (left : Int) (w : World) (h : RdProg w w.heap.size v p) (h0 : 0 <= left) (hl : left <= 1048576) (hn : progLens p) :
 Calls Tryz.prog 12 #[v, .int .i64 left] w fun e w' => ∃ z, e = .returned (.int .i64 z) /\ SzRes z left (szP p) /\ Below w.heap.size w w' := by
 obtain ⟨a, b, rfl, h, h2⟩ := h
 obtain ⟨hn1, hn2, hn3⟩ := hn
 have H := Lib.hid h
 have H2 := Lib.hid h2
 obtain ⟨A, c, rfl, hc, _⟩ := h
 obtain ⟨A2, c2, rfl, hcc, _⟩ := h2
 have hcs := szV_cases left p.1.length
 go_enter Tryz.func12, Tryz.ntmps12
 go_wp2_with (fail)
 obtain ⟨w1, hw1⟩ : ∃ w1, w1 = w.alloc (Obj.cells #[Value.slice A p.1.length c, Value.slice A2 p.2.length c2] 25) := ⟨_, rfl⟩
 have B1 : Below w.heap.size w w1 := by rw [hw1]; exact below1 _ _
 have x1 : Blk w1 w.heap.size 25 #[.slice A p.1.length c, .slice A2 p.2.length c2] := by rw [hw1]; exact Blk.new w _ _
 have hx2 : w1.cell? ⟨w.heap.size, 1, none⟩ = some (.slice A2 p.2.length c2) := x1.cell 1
 rw [<- hw1]
 clear hw1
 refine (szIntS_any _ _ _ _ _ h0 hl hn1).mono ?_
 rintro e w' ⟨rfl, rfl⟩
 rcases hcs with ⟨e1, e2⟩ | ⟨e1, e2⟩
 ·rw [e1]
  have HV := Lib.hid e1
  clear e1
  go_wp2_with (fail)
  go_ret
  exact ⟨_, rfl, .inl rfl, B1⟩
 ·have h1 : ¬ szV left p.1.length < 0 := by omega
  go_wp2_with (fail)
  refine (szRuleS_any _ p.2 _ _ (H2.out.on B1) e1 (by omega) hn2 hn3).mono ?_
  rintro e w2 ⟨z, rfl, hz, hb2⟩
  have hB2 := bthen B1 hb2
  rcases hz with rfl | ⟨z0, z1⟩
  ·go_wp2_with (fail)
   go_ret
   exact ⟨_, rfl, .inl rfl, hB2⟩
  ·have hz : ¬ z < 0 := by omega
   have HZ := Lib.hid (show SzRes z left (szP p) from .inr ⟨z0, by unfold szP; omega⟩)
   clear z0 z1 e1 e2
   go_wp2_with (fail)
   go_ret
   exact ⟨_, rfl, HZ.out, hB2⟩
theorem OwnRules.below {w w' : World} {lo hi B : Nat} {v : Value} {rs : List LRule} (h : OwnRules w lo hi v rs) (hb : Below B w w') (hB : hi <= B) : OwnRules w' lo hi v rs := h.keep fun g _ h2 => hb.block g (by omega)
theorem OwnRules.far {w : World} {lo hi : Nat} {v : Value} {rs : List LRule} (h : OwnRules w lo hi v rs) {p : Addr} (hp : p.block < lo) (u : Value) : OwnRules (w.setCell p u) lo hi v rs :=
 h.keep fun g h1 _ => Below.heap_setCell _ _ _ _ (by omega)
set_option maxHeartbeats 1000000 in
theorem toProgram_any (v : Value) (p : LProg) (w : World) (h : RdProg w w.heap.size v p) (hn : szP p <= 1048576) :
 Calls Tryz.prog 15 #[v] w fun e w' => ∃ A' c' A2' c2', e = .returned (.agg #[.slice A' p.1.length c', .slice A2' p.2.length c2']) /\ OwnInts w' w.heap.size w'.heap.size (.slice A' p.1.length c') p.1 /\ OwnRules w' w.heap.size w'.heap.size (.slice A2' p.2.length c2') p.2 /\ Below w.heap.size w w' := by
 obtain ⟨a, b, rfl, h, h2⟩ := h
 unfold szP at hn
 have H := Lib.hid h
 have H2 := Lib.hid h2
 obtain ⟨A, c, rfl, hc, _⟩ := h
 obtain ⟨A2, c2, rfl, hcc, _⟩ := h2
 go_enter Tryz.func15, Tryz.ntmps15
 go_wp2_with (fail)
 obtain ⟨w3, hw3⟩ : ∃ w3, w3 = ((w.alloc (Obj.cells #[Value.slice A p.1.length c, Value.slice A2 p.2.length c2] 25)).alloc (Obj.cells #[.slice none 0 0, .slice none 0 0] 34)).alloc (Obj.cells #[.slice none 0 0, .slice none 0 0] 34) := ⟨_, rfl⟩
 have B3 : Below w.heap.size w w3 := by rw [hw3]; exact below3 _ _ _ _
 have s3 : w3.heap.size = w.heap.size + 3 := by rw [hw3]; simp
 have x0 : Blk w3 w.heap.size 25 #[.slice A p.1.length c, .slice A2 p.2.length c2] := by rw [hw3]; exact ((Blk.new w _ _).alloc _).alloc _
 have x1 : Blk w3 (w.heap.size + 1) 34 #[.slice none 0 0, .slice none 0 0] := by
  rw [hw3]
  simpa using (Blk.new (w.alloc (Obj.cells #[Value.slice A p.1.length c, Value.slice A2 p.2.length c2] 25)) _ _).alloc _
 have x2 : Blk w3 (w.heap.size + 2) 34 #[.slice none 0 0, .slice none 0 0] := by
  rw [hw3]
  simpa using Blk.new ((w.alloc (Obj.cells #[Value.slice A p.1.length c, Value.slice A2 p.2.length c2] 25)).alloc (Obj.cells #[.slice none 0 0, .slice none 0 0] 34)) _ _
 rw [<- hw3]
 clear hw3
 refine (toIntS_any _ p.1 _ (H.out.on B3) (by omega)).mono ?_
 rintro e w4 ⟨A4, c4, rfl, ho, hb⟩
 have y0 := x0.below hb x0.lt
 have y1 := x1.below hb x1.lt
 have y2 := x2.below hb x2.lt
 have z2c0 : w4.cell? ⟨w.heap.size + 2, 0, none⟩ = some (.slice none 0 0) := y2.cell 0
 have z2f0 := y2.frozen 0
 have z0c2 : w4.cell? ⟨w.heap.size, 1, none⟩ = some (.slice A2 p.2.length c2) := y0.cell 1
 go_wp2_with (fail)
 obtain ⟨w5, hw5⟩ : ∃ w5, w5 = w4.setCell ⟨w.heap.size + 2, 0, none⟩ (.slice A4 p.1.length c4) := ⟨_, rfl⟩
 have s5 : w5.heap.size = w4.heap.size := by rw [hw5]; simp
 have s4 := hb.size
 have u2 : Blk w5 (w.heap.size + 2) 34 #[.slice A4 p.1.length c4, .slice none 0 0] := by
  rw [hw5]
  simpa using y2.set_ 0 (.slice A4 p.1.length c4)
 have u1 : Blk w5 (w.heap.size + 1) 34 #[.slice none 0 0, .slice none 0 0] := by rw [hw5]; exact y1.far (by simp) _
 have B5 : Below w.heap.size w w5 := by rw [hw5]; exact (bthen B3 hb).setCell (by simp) _
 have O5 : OwnInts w5 w3.heap.size w4.heap.size (.slice A4 p.1.length c4) p.1 := by rw [hw5]; exact ho.far (by simp [s3]) _
 rw [<- hw5]
 clear hw5 z2c0 z2f0 z0c2
 refine (toRuleS_any _ p.2 _ (H2.out.on B5) (by omega) (by omega)).mono ?_
 rintro e w6 ⟨A6, c6, rfl, ho6, hb6⟩
 have v1 := u1.below hb6 u1.lt
 have v2 := u2.below hb6 u2.lt
 have B6 := bthen B5 hb6
 have O6 := O5.below hb6 (by omega)
 have s6 := hb6.size
 have b1c0 : w6.cell? ⟨w.heap.size + 1, 0, none⟩ = some (.slice none 0 0) := v1.cell 0
 have b1c1 : w6.cell? ⟨w.heap.size + 1, 1, none⟩ = some (.slice none 0 0) := v1.cell 1
 have b2c0 : w6.cell? ⟨w.heap.size + 2, 0, none⟩ = some (.slice A4 p.1.length c4) := v2.cell 0
 have b2c1 : w6.cell? ⟨w.heap.size + 2, 1, none⟩ = some (.slice none 0 0) := v2.cell 1
 have b1f0 := v1.frozen 0
 have b1f1 := v1.frozen 1
 have b2f1 := v2.frozen 1
 clear y0 y1 y2 x0 x1 x2
 go_wp2_with (fail)
 refine bodyPost_ret (v := .agg #[.slice A4 p.1.length c4, .slice A6 p.2.length c6]) (by simp [results, Tryz.results15, go_sem, b1c0, b1c1]) rfl ⟨_, _, _, _, rfl, ?_, ?_, ?_⟩
 ·refine OwnInts.mono (lo := w3.heap.size) (hi := w4.heap.size) ?_ (by omega) (by simp; omega)
  repeat (first | exact O6 | refine OwnInts.far ?_ (by simp [s3]) _)
 ·refine OwnRules.mono (lo := w5.heap.size) (hi := w6.heap.size) ?_ (by omega) (by simp)
  repeat (first | exact ho6 | refine OwnRules.far ?_ (by simp; omega) _)
 ·repeat (first | exact B6 | refine Below.setCell ?_ (by first | (simp; done) | (simp; omega)) _)
set_option maxHeartbeats 1000000 in
theorem eqProgram_any (v v2 : Value) (f g : LProg) (w : World) (h : RdProg w w.heap.size v f) (h2 : RdProg w w.heap.size v2 g) (hn : szP f <= 1048576) (hn2 : szP g <= 1048576) :
 Calls Tryz.prog 19 #[v, v2] w fun e w' => e = .returned (.bool (decide (f = g))) /\ Below w.heap.size w w' := by
 obtain ⟨a, b, rfl, h, h3⟩ := h
 obtain ⟨a2, b2, rfl, h2, h4⟩ := h2
 unfold szP at hn hn2
 have H := Lib.hid h
 have H2 := Lib.hid h2
 have H3 := Lib.hid h3
 have H4 := Lib.hid h4
 obtain ⟨A, c, rfl, hc, _⟩ := h
 obtain ⟨A2, c2, rfl, hc2, _⟩ := h2
 obtain ⟨A3, c3, rfl, hc3, _⟩ := h3
 obtain ⟨A4, c4, rfl, hc4, _⟩ := h4
 go_enter Tryz.func19, Tryz.ntmps19
 go_wp2_with (fail)
 obtain ⟨w2, hw2⟩ : ∃ w2, w2 = (w.alloc (Obj.cells #[Value.slice A f.1.length c, Value.slice A3 f.2.length c3] 34)).alloc (Obj.cells #[Value.slice A2 g.1.length c2, Value.slice A4 g.2.length c4] 34) := ⟨_, rfl⟩
 have B2 : Below w.heap.size w w2 := by rw [hw2]; exact below2 _ _ _
 have x0 : Blk w2 w.heap.size 34 #[.slice A f.1.length c, .slice A3 f.2.length c3] := by rw [hw2]; exact (Blk.new w _ _).alloc _
 have x1 : Blk w2 (w.heap.size + 1) 34 #[.slice A2 g.1.length c2, .slice A4 g.2.length c4] := by
  rw [hw2]
  simpa using Blk.new (w.alloc (Obj.cells #[Value.slice A f.1.length c, Value.slice A3 f.2.length c3] 34)) _ _
 rw [<- hw2]
 clear hw2
 refine (eqIntS_any _ _ f.1 g.1 _ (H.out.on B2) (H2.out.on B2) (by omega) (by omega)).mono ?_
 rintro e w4 ⟨rfl, hb⟩
 have y0 := x0.below hb x0.lt
 have y1 := x1.below hb x1.lt
 have B4 := bthen B2 hb
 have z0 : w4.cell? ⟨w.heap.size, 1, none⟩ = some (.slice A3 f.2.length c3) := y0.cell 1
 have z1 : w4.cell? ⟨w.heap.size + 1, 1, none⟩ = some (.slice A4 g.2.length c4) := y1.cell 1
 by_cases hp : f.1 = g.1
 ·have hpb : decide (f.1 = g.1) = true := by simp [hp]
  have HE := Lib.hid (show decide (f = g) = decide (f.2 = g.2) from decide_eq_decide.2 ⟨fun e => by rw [e], fun e => Prod.ext hp e⟩)
  clear hp
  go_wp2_with (fail)
  refine (eqRuleS_any _ _ f.2 g.2 _ (H3.out.on B4) (H4.out.on B4) (by omega) (by omega) (by omega) (by omega)).mono ?_
  rintro e w5 ⟨rfl, hb5⟩
  have B5 := bthen B4 hb5
  by_cases hd : f.2 = g.2
  ·have hdb : decide (f.2 = g.2) = true := by simp [hd]
   have HD := Lib.hid hdb
   clear hd
   go_wp2_with (fail)
   go_ret
   exact ⟨ret_bool (by rw [HE.out, HD.out]), B5⟩
  ·have hdb : decide (f.2 = g.2) = false := by simp [hd]
   have HD := Lib.hid hdb
   clear hd
   go_wp2_with (fail)
   go_ret
   exact ⟨ret_bool (by rw [HE.out, HD.out]), B5⟩
 ·have hpb : decide (f.1 = g.1) = false := by simp [hp]
  have HE := Lib.hid (show decide (f = g) = false from decide_eq_false fun e => hp (by rw [e]))
  clear hp
  go_wp2_with (fail)
  go_ret
  exact ⟨ret_bool HE.out.symm, B4⟩
open Go.RowKit
section
variable {lo hi lo' hi' : Nat} {w w1 w' : World}
def seqI (k : Int) (n : Nat) : List Int := (List.range n).map fun i : Nat => k + (i : Int)
theorem seqI_length (k : Int) (n : Nat) : (seqI k n).length = n := by simp [seqI]
theorem seqI_at {k : Int} {n j : Nat} (h : j < (seqI k n).length) : (seqI k n)[j] = k + (j : Int) := by simp [seqI]
def markedTo (xs : List Int) (k : Int) (j : Nat) : List Int := seqI k j ++ xs.drop j
theorem markedTo_length {xs : List Int} {k : Int} {j : Nat} (h : j <= xs.length) : (markedTo xs k j).length = xs.length := by simp [markedTo, seqI_length]; omega
theorem markedTo_step {xs : List Int} {k : Int} {j : Nat} (h : j < xs.length) : (markedTo xs k j).set j (k + (j : Int)) = markedTo xs k (j + 1) := by
 unfold markedTo
 rw [List.drop_eq_getElem_cons h, List.set_append_right _ _ (by rw [seqI_length]; omega), seqI_length, Nat.sub_self, List.set_cons_zero]
 simp [seqI, List.range_succ]
theorem markedTo_zero (xs : List Int) (k : Int) : markedTo xs k 0 = xs := by simp [markedTo, seqI]
theorem markedTo_all (xs : List Int) (k : Int) : markedTo xs k xs.length = seqI k xs.length := by simp [markedTo]
set_option maxHeartbeats 400000 in
theorem markIntS_any (v : Value) (xs : List Int) (k : Int) (lo hi : Nat) (w : World) (h : OwnInts w lo hi v xs) (hk0 : 0 <= k) (hk : k + xs.length <= 4611686018427387904) :
 Calls Tryz.prog 29 #[v, .int .i64 k] w fun e w' => e = .returned (.int .i64 (k + xs.length)) /\ OwnInts w' lo hi v (seqI k xs.length) /\ w.grownBy w' v.ownBlock := by
 obtain ⟨A, c, hv⟩ := h.form
 subst hv
 have hform : 0 < xs.length -> ∃ g, A = some ⟨g, 0, none⟩ := fun hn => by
  obtain ⟨g, cap, e, _, _⟩ := h.1.form hn
  injection e with e1 _ _
  exact ⟨g, e1⟩
 have H := Lib.hid h
 clear h
 go_enter Tryz.func29, Tryz.ntmps29
 go_wp2_with (fail)
 go_loopw [1, 5] (fun m i wr => ∃ j : Nat, j <= xs.length /\ i = .int .i64 j /\ m = .int .i64 (k + j) /\ OwnInts wr lo hi (.slice A xs.length c) (markedTo xs k j) /\ w.grownBy wr (Value.slice A xs.length c).ownBlock) (fun _ i _ => xs.length - (intOf i).toNat)
 case atStart => exact ⟨0, Nat.zero_le _, rfl, by simp, by rw [markedTo_zero]; exact H.out, World.grownBy.refl w _⟩
 case round =>
  obtain ⟨j, hj, rfl, rfl, ho, hg⟩ := hrel
  by_cases hlt : j < xs.length
  ·obtain ⟨g, rfl⟩ := hform (by omega)
   have hml := markedTo_length (k := k) (Nat.le_of_lt hlt)
   have ho' : OwnInts wr lo hi (.slice (some ⟨g, 0, none⟩) (markedTo xs k j).length c) (markedTo xs k j) := by rw [hml]; exact ho
   have hst := ho'.store rfl (j := j) (by omega) (k + j)
   rw [hml, markedTo_step hlt] at hst
   have HS := Lib.hid hst
   have hc1 : ∃ u, wr.cell? ⟨g, j, none⟩ = some (.int .i64 u) := by
    obtain ⟨A', c', e, _, hx⟩ := ho'.rd
    injection e with e1 _ _
    obtain ⟨b, o, e2, _, hx⟩ := hx (by omega)
    rw [<- e1] at e2
    injection e2 with e2
    injection e2 with e2 e3 _
    subst e2
    subst e3
    exact ⟨_, by simpa using hx j (by omega)⟩
   obtain ⟨u, hc1⟩ := hc1
   have hf1 : wr.frozen? ⟨g, j, none⟩ = false := by
    rcases ho.1.2 with ⟨e, _⟩ | ⟨g', cap, cur, e, _, hgg, _⟩
    ·cases e
    ·injection e with e1 _ _
     injection e1 with e1
     injection e1 with e1 _ _
     subst e1
     simp [World.frozen?, hgg]
   have hgs : w.grownBy (wr.setCell ⟨g, j, none⟩ (.int .i64 (k + j))) (Value.slice (some ⟨g, 0, none⟩) xs.length c).ownBlock :=
    ⟨hg.os, hg.tape, hg.output, by simpa using hg.size, fun i hi' hne => (Below.heap_setCell _ _ _ _ (fun e => hne (by rw [e]; rfl))).trans (hg.block i hi' hne)⟩
   clear hst ho ho' hml
   go_wp2_with (fail)
   go_roundw
   case rel => exact ⟨j + 1, by omega, by go_num, by go_num, HS.out, hgs⟩
   case measure => simp [intOf]; omega
  ·have hkn : j = xs.length := by omega
   have HO := Lib.hid (show OwnInts wr lo hi (.slice A xs.length c) (seqI k xs.length) by rw [<- markedTo_all, <- hkn]; rw [<- hkn] at ho; exact ho)
   have HK := Lib.hid (show k + (j : Int) = k + xs.length by rw [hkn])
   clear hkn ho
   go_wp2_with (fail)
   go_ret
   exact ⟨ret_int HK.out, HO.out, hg⟩
set_option maxHeartbeats 400000 in
theorem heldIntS_any (v : Value) (n : Nat) (k : Int) (w : World) (h : RdInts w w.heap.size v (seqI k n)) (hk0 : 0 <= k) (hk : k + n <= 4611686018427387904) :
 Calls Tryz.prog 66 #[v, .int .i64 k] w fun e w' => e = .returned (.int .i64 (k + n)) /\ w = w' := by
 obtain ⟨A, c, rfl, hc, ha⟩ := h
 rw [seqI_length] at hc ⊢
 go_enter Tryz.func66, Tryz.ntmps66
 go_wp2_with (fail)
 go_loop [1, 5] (fun m i => ∃ j : Nat, j <= n /\ i = .int .i64 j /\ m = .int .i64 (k + j)) (fun _ i => n - (intOf i).toNat)
 case atStart => exact ⟨0, Nat.zero_le _, rfl, by simp⟩
 case round =>
  obtain ⟨j, hj, rfl, rfl⟩ := hrel
  by_cases hlt : j < n
  ·obtain ⟨b, o, rfl, hbB, hx⟩ := ha (by rw [seqI_length]; omega)
   have hck : w.cell? ⟨b, o + j, none⟩ = some (.int .i64 (k + j)) := by rw [hx j (by rw [seqI_length]; exact hlt), seqI_at]
   have hne : (k + (j : Int) != k + (j : Int)) = false := by simp
   clear hx ha
   go_wp2_with (fail)
   go_round
   case rel => exact ⟨j + 1, by omega, by go_num, by go_num⟩
   case measure => simp [intOf]; omega
  ·have hkn : j = n := by omega
   have HK := Lib.hid (show k + (j : Int) = k + n by rw [hkn])
   clear hkn ha
   go_wp2_with (fail)
   go_ret
   exact ⟨ret_int HK.out, rfl⟩
end
open Go.RowKit
end Go.Proofs.YtmnolnmpglanfaaGreatDoor
