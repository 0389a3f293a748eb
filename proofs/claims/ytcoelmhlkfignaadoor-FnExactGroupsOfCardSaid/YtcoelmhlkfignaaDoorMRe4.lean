/-
  Texts that the claim's last one imports, laid together: part 4 of 6. No condition of its own.
-/
import Derived.Deep.RegionHeld3
import Derived.Deep.DeepCutAuto
import Derived.BigRegion
import Derived.Deep.RegionWith
import Derived.Deep.RegionLaw
import Derived.Test.YtcoelmhlkfignaaDoorMRe1
import Derived.Test.YtcoelmhlkfignaaDoorMRe2
import Derived.Test.YtcoelmhlkfignaaDoorMRe3
/-
  The walk of the specification's l1Copy.
-/
namespace Go.Proofs.YtcoelmhlkfignaaDoor
open Go.RowKit

theorem blk_ne_row {w : World} {base n size g : Nat} {e t : TypeId} {v : Value} {xs : List Value} {cs : Array Value} (h : w.ownsRow base e size v n xs) (hb : Blk w g t cs) (hne : e ≠ t) : v.ownBlock ≠ some g := by
  rcases h.2 with ⟨rfl, _⟩ | ⟨g', cap, cur, rfl, _, hh, _⟩
  · simp [Value.ownBlock]
  · intro he
    have : g' = g := by simpa [Value.ownBlock] using he
    subst this
    unfold Blk at hb
    rw [hh] at hb
    injection hb with hb
    injection hb with _ hb
    exact hne hb
theorem grown_from_alloc_drew {w w' : World} {o : Obj} {row : Option Nat} (hg : ((w.alloc o).drew).grownBy w' row) : w.grownBy w' row :=
  ⟨hg.os, hg.tape, hg.output, Nat.le_trans (by show w.heap.size ≤ (w.alloc o).heap.size; simp) hg.size, fun i hi hne => (hg.block i (Nat.lt_of_lt_of_le hi (by show w.heap.size ≤ (w.alloc o).heap.size; simp)) hne).trans (Below.heap_alloc _ _ _ hi)⟩
theorem own_alloc_drew {w : World} {base size n : Nat} {e : TypeId} {v : Value} {xs : List Value} (h : w.ownsRow base e size v n xs) (o : Obj) : ((w.alloc o).drew).ownsRow base e size v n xs := h.alloc o
theorem news_alloc_drew (w : World) (x : Value) (t : TypeId) : ∀ j u, [x][j]? = some u → ((w.alloc (.cells #[x] t)).drew).cell? ((⟨w.heap.size, 0, none⟩ : Addr).add j) = some u := cell_one_new w x t

end Go.Proofs.YtcoelmhlkfignaaDoor
/-
  The order of facts: its plain mathematics, and the walks of cmp.Compare, cmp.Or, slices.Compare, the specification's l1Way.
-/
namespace Go.Proofs.YtcoelmhlkfignaaDoor
open Go.RowKit

def cmpI (a b : Int) : Int := if a < b then -1 else if b < a then 1 else 0
def cmpL : List Int → List Int → Int
  | [], [] => 0
  | [], _ :: _ => -1
  | _ :: _, [] => 1
  | x :: xs, y :: ys => if x = y then cmpL xs ys else cmpI x y
def factOrder (f g : LFact) : Int := if f.1 = g.1 then cmpL f.2 g.2 else cmpI f.1 g.1

theorem cmpL_at {xs ys : List Int} {k : Nat} (h1 : k < xs.length) (h2 : k < ys.length) : cmpL (xs.drop k) (ys.drop k) = if xs[k] = ys[k] then cmpL (xs.drop (k + 1)) (ys.drop (k + 1)) else cmpI xs[k] ys[k] := by
  rw [List.drop_eq_getElem_cons h1, List.drop_eq_getElem_cons h2]
  rfl
theorem cmpL_long {xs ys : List Int} {k : Nat} (h1 : k < xs.length) (h2 : ys.length ≤ k) : cmpL (xs.drop k) (ys.drop k) = 1 := by
  rw [List.drop_eq_getElem_cons h1, List.drop_eq_nil_of_le h2]
  rfl
theorem cmpL_short {xs ys : List Int} {k : Nat} (h1 : xs.length ≤ k) (h2 : k < ys.length) : cmpL (xs.drop k) (ys.drop k) = -1 := by
  rw [List.drop_eq_nil_of_le h1, List.drop_eq_getElem_cons h2]
  rfl
theorem cmpL_end {xs ys : List Int} {k : Nat} (h1 : xs.length ≤ k) (h2 : ys.length ≤ k) : cmpL (xs.drop k) (ys.drop k) = 0 := by
  rw [List.drop_eq_nil_of_le h1, List.drop_eq_nil_of_le h2]
  rfl
theorem cmpI_ne {a b : Int} (h : a ≠ b) : cmpI a b ≠ 0 := by
  unfold cmpI
  split
  · omega
  · split <;> omega
theorem cmpI_zero {a b : Int} (h : cmpI a b = 0) : a = b := by
  unfold cmpI at h
  split at h
  · omega
  · split at h <;> omega
theorem cmpI_self (a : Int) : cmpI a a = 0 := by simp [cmpI]
/-- 'the first k of both are the same', as the order has it. -/
def CmpTo (xs ys : List Int) (k : Nat) : Prop := cmpL xs ys = cmpL (xs.drop k) (ys.drop k)

end Go.Proofs.YtcoelmhlkfignaaDoor
/-
  The walks of FactOrder: the program's (with cmp.Or) and the specification's.
-/
namespace Go.Proofs.YtcoelmhlkfignaaDoor
open Go.RowKit

def orI (a b : Int) : Int := if a = 0 then b else a

theorem factOrder_or (f g : LFact) : orI (cmpI f.1 g.1) (cmpL f.2 g.2) = factOrder f g := by
  unfold orI factOrder
  by_cases h : f.1 = g.1
  · rw [if_pos h, h, cmpI_self, if_pos rfl]
  · rw [if_neg h, if_neg (cmpI_ne h)]

end Go.Proofs.YtcoelmhlkfignaaDoor
/-
  The walk of the specification's FactOrder.
-/
namespace Go.Proofs.YtcoelmhlkfignaaDoor
open Go.RowKit

end Go.Proofs.YtcoelmhlkfignaaDoor
/-
  The walks of FactsHas: the program's and the specification's.
-/
namespace Go.Proofs.YtcoelmhlkfignaaDoor
open Go.RowKit

/-- One fact of a list, as a walk reads it. -/
theorem RdFacts.get {w : World} {B c : Nat} {A : Option Addr} {fs : List LFact} (h : RdFacts w B (.slice A fs.length c) fs) {k : Nat} (hk : k < fs.length) : ∃ b o A3 c3, A = some ⟨b, o, none⟩ ∧ b < B ∧
    w.cell? ⟨b, o + k * 2, none⟩ = some (.int .i64 fs[k].1) ∧ w.cell? ⟨b, o + k * 2 + 1, none⟩ = some (.slice A3 fs[k].2.length c3) ∧ RdInts w B (.slice A3 fs[k].2.length c3) fs[k].2 := by
  obtain ⟨A', c', e, hc, h⟩ := h
  injection e with e1 e2 e3
  subst e1
  obtain ⟨b, o, rfl, hb, hx⟩ := h (by omega)
  obtain ⟨a, h1, h2, h3⟩ := hx k hk
  have h4 := h3
  obtain ⟨A3, c3, rfl, _⟩ := h3
  exact ⟨b, o, A3, c3, rfl, hb, h1, h2, h4⟩

def factsHas (fs : List LFact) (f : LFact) : Bool := fs.any fun g => factOrder g f == 0
/-- 'none of the first k is the same'. -/
def HasNot (fs : List LFact) (f : LFact) (k : Nat) : Prop := factsHas (fs.take k) f = false
theorem HasNot.step {fs : List LFact} {f : LFact} {k : Nat} (h : HasNot fs f k) (hk : k < fs.length) (e : factOrder fs[k] f ≠ 0) : HasNot fs f (k + 1) := by
  unfold HasNot factsHas at h ⊢
  rw [take_snoc fs k hk, List.any_append, h]
  simp [e]
theorem HasNot.done {fs : List LFact} {f : LFact} (h : HasNot fs f fs.length) : factsHas fs f = false := by
  unfold HasNot at h
  rwa [List.take_length] at h
theorem has_yes {fs : List LFact} {f : LFact} {k : Nat} (hk : k < fs.length) (e : factOrder fs[k] f = 0) : factsHas fs f = true := by
  unfold factsHas
  rw [List.any_eq_true]
  exact ⟨fs[k], List.getElem_mem hk, by simp [e]⟩

end Go.Proofs.YtcoelmhlkfignaaDoor
/-
  Marks on lists of facts: the words, and the walks of markFactS, markFact, heldFactS.
-/
namespace Go.Proofs.YtcoelmhlkfignaaDoor
open Go.RowKit

/-- The facts that marks from k on leave. -/
def markF : Int → List LFact → List LFact
  | _, [] => []
  | k, f :: fs => (k, seqI (k + 1) f.2.length) :: markF (k + 1 + (f.2.length : Int)) fs
/-- The mark behind the last one. -/
def endF (k : Int) (fs : List LFact) : Int := k + (fs.length : Int) + (tot fs : Int)

theorem tot_cons (f : LFact) (fs : List LFact) : tot (f :: fs) = f.2.length + tot fs := by simp [tot]
theorem tot_append (xs ys : List LFact) : tot (xs ++ ys) = tot xs + tot ys := by simp [tot]
theorem markF_length : ∀ (k : Int) (fs : List LFact), (markF k fs).length = fs.length
  | _, [] => rfl
  | k, f :: fs => by simp [markF, markF_length _ fs]
theorem markF_tot : ∀ (k : Int) (fs : List LFact), tot (markF k fs) = tot fs
  | _, [] => rfl
  | k, f :: fs => by simp [markF, tot_cons, seqI_length, markF_tot _ fs]
theorem markF_snoc : ∀ (k : Int) (fs : List LFact) (f : LFact), markF k (fs ++ [f]) = markF k fs ++ [(endF k fs, seqI (endF k fs + 1) f.2.length)]
  | k, [], f => by simp [markF, endF, tot]
  | k, g :: fs, f => by
    have h := markF_snoc (k + 1 + (g.2.length : Int)) fs f
    have e : endF (k + 1 + (g.2.length : Int)) fs = endF k (g :: fs) := by simp [endF, tot_cons]; omega
    rw [e] at h
    simp [markF, h]
def markedF (fs : List LFact) (k : Int) (j : Nat) : List LFact := markF k (fs.take j) ++ fs.drop j
theorem markedF_length {fs : List LFact} {k : Int} {j : Nat} (h : j ≤ fs.length) : (markedF fs k j).length = fs.length := by simp [markedF, markF_length]; omega
theorem markedF_at {fs : List LFact} {k : Int} {j : Nat} (h : j < fs.length) (h' : j < (markedF fs k j).length) : (markedF fs k j)[j] = fs[j] := by
  have hl : (markF k (fs.take j)).length = j := by rw [markF_length]; simp; omega
  have e : (markedF fs k j)[j]? = some fs[j] := by
    unfold markedF
    rw [List.getElem?_append_right (by omega), hl]
    simp [h]
  rw [List.getElem?_eq_getElem h'] at e
  exact Option.some.inj e
theorem markedF_step {fs : List LFact} {k : Int} {j : Nat} (h : j < fs.length) : (markedF fs k j).set j (endF k (fs.take j), seqI (endF k (fs.take j) + 1) fs[j].2.length) = markedF fs k (j + 1) := by
  have hl : (markF k (fs.take j)).length = j := by rw [markF_length]; simp; omega
  unfold markedF
  rw [List.drop_eq_getElem_cons h, List.set_append_right _ _ (by omega), hl, Nat.sub_self, List.set_cons_zero, take_snoc fs j h, markF_snoc]
  simp
theorem markedF_zero (fs : List LFact) (k : Int) : markedF fs k 0 = fs := by simp [markedF, markF]
theorem markedF_all (fs : List LFact) (k : Int) : markedF fs k fs.length = markF k fs := by simp [markedF]
theorem markF_at {fs : List LFact} {k : Int} {j : Nat} (h : j < fs.length) (h' : j < (markF k fs).length) : (markF k fs)[j] = (endF k (fs.take j), seqI (endF k (fs.take j) + 1) fs[j].2.length) := by
  have e : fs = fs.take (j + 1) ++ fs.drop (j + 1) := (List.take_append_drop _ _).symm
  have hl : (markF k (fs.take j)).length = j := by rw [markF_length]; simp; omega
  have hp : ∀ (xs ys : List LFact) (k : Int), ∃ zs, markF k (xs ++ ys) = markF k xs ++ zs := by
    intro xs
    induction xs with
    | nil => intro ys k; exact ⟨_, rfl⟩
    | cons x xs ih =>
      intro ys k
      obtain ⟨zs, hz⟩ := ih ys (k + 1 + (x.2.length : Int))
      exact ⟨zs, by simp [markF, hz]⟩
  obtain ⟨zs, hz⟩ := hp (fs.take (j + 1)) (fs.drop (j + 1)) k
  rw [← e, take_snoc fs j h, markF_snoc] at hz
  have : (markF k fs)[j]? = some (endF k (fs.take j), seqI (endF k (fs.take j) + 1) fs[j].2.length) := by
    rw [hz, List.append_assoc, List.getElem?_append_right (by omega), hl]
    simp
  rw [List.getElem?_eq_getElem h'] at this
  exact Option.some.inj this
theorem endF_zero (k : Int) (fs : List LFact) : endF k (fs.take 0) = k := by simp [endF, tot]
theorem endF_step {fs : List LFact} {k : Int} {j : Nat} (h : j < fs.length) : endF k (fs.take (j + 1)) = endF k (fs.take j) + 1 + (fs[j].2.length : Int) := by
  have := tot_take fs j h
  simp only [endF, List.length_take, this]
  omega
theorem tot_take_le (fs : List LFact) (j : Nat) : tot (fs.take j) ≤ tot fs := by
  have := tot_append (fs.take j) (fs.drop j)
  rw [List.take_append_drop] at this
  omega

theorem flat_set : ∀ (fs : List LFact) (av : List Value) (j : Nat) (f : LFact), av.length = fs.length → flat (fs.set j f) av = (flat fs av).set (j * 2) (.int .i64 f.1)
  | [], [], _, _, _ => rfl
  | [], a :: av, _, _, h => by simp at h
  | g :: fs, [], _, _, h => by simp at h
  | g :: fs, a :: av, 0, f, _ => by simp [flat]
  | g :: fs, a :: av, j + 1, f, h => by
    have := flat_set fs av j f (by simpa using h)
    simp [flat, Nat.add_mul, this]

theorem endF_bound {fs : List LFact} {k : Int} (j : Nat) (hk0 : 0 ≤ k) (hk : k ≤ 4294967296) (hn : fs.length ≤ 1073741824) (ht : tot fs ≤ 1073741824) : 0 ≤ endF k (fs.take j) ∧ endF k (fs.take j) ≤ 8589934592 := by
  have h1 := tot_take_le fs j
  have h2 : (fs.take j).length ≤ fs.length := by rw [List.length_take]; omega
  simp only [endF]
  omega

end Go.Proofs.YtcoelmhlkfignaaDoor
/-
  The relation of a loop that collects facts.
-/
namespace Go.Proofs.YtcoelmhlkfignaaDoor
open Go.RowKit

theorem news2 (w : World) (x y : Value) (t : TypeId) : ∀ j u, [x, y][j]? = some u → (w.alloc (.cells #[x, y] t)).cell? ((⟨w.heap.size, 0, none⟩ : Addr).add j) = some u := World.news_of_block (cs := #[x, y]) (heap_alloc_new w _)

end Go.Proofs.YtcoelmhlkfignaaDoor
/-
  The reader's num and its opening; numbers of places drawn.
-/
namespace Go.Proofs.YtcoelmhlkfignaaDoor
open Go.RowKit

end Go.Proofs.YtcoelmhlkfignaaDoor
/-
  A fact drawn.
-/
namespace Go.Proofs.YtcoelmhlkfignaaDoor
open Go.RowKit

end Go.Proofs.YtcoelmhlkfignaaDoor
/-
  A fact drawn, its arguments in a row of the call's own.
-/
namespace Go.Proofs.YtcoelmhlkfignaaDoor
open Go.RowKit

theorem OwnInts.offG {w W : World} {lo hi g : Nat} {v : Value} {xs : List Int} (h : OwnInts w lo hi v xs) (k : Only g (g + 1) w W) (hg : g < lo) : OwnInts W lo hi v xs :=
  h.kept fun b hb => k.block b (h.1.lt b hb).2 (.inr (by have := (h.1.lt b hb).1; omega))
end Go.Proofs.YtcoelmhlkfignaaDoor
/-
  A row of integers that a draw makes: the words; the walk of l3Draw.
-/
namespace Go.Proofs.YtcoelmhlkfignaaDoor
open Go.RowKit

section
variable {w wr w' w4 : World} {g q : Nat} {bs : List Nat} {A : Option Addr} {c : Nat} {xs : List Int}
end

end Go.Proofs.YtcoelmhlkfignaaDoor
/-
  The walk of the plain laws' wrInts.
-/
namespace Go.Proofs.YtcoelmhlkfignaaDoor
open Go.RowKit

theorem RdInts.at_ {w : World} {B c : Nat} {A : Option Addr} {xs : List Int} (h : RdInts w B (.slice A xs.length c) xs) {k : Nat} (hk : k < xs.length) : ∃ b o, A = some ⟨b, o, none⟩ ∧ b < B ∧ w.cell? ⟨b, o + k, none⟩ = some (.int .i64 xs[k]) := by
  obtain ⟨A', c', e, _, hx⟩ := h
  injection e with e1 _ _
  subst e1
  obtain ⟨b, o, rfl, hb, hx⟩ := hx (by omega)
  exact ⟨b, o, rfl, hb, hx k hk⟩

end Go.Proofs.YtcoelmhlkfignaaDoor
/-
  The walk of finish.
-/
namespace Go.Proofs.YtcoelmhlkfignaaDoor
open Go.RowKit

def askF (Y N : List Nat) (p : Nat) : Nat := Y.getD p 0 ||| N.getD p 0
/-- The words of what is asked at once, all of few bits. -/
structure AskLim (Y N : List Nat) : Prop where
  y : ∀ p, p < 24 → Y.getD p 0 < 16777216
  n : ∀ p, p < 24 → N.getD p 0 < 16777216
theorem bitsN_lt {x p : Nat} (hx : x < 16777216) (hp : p ∈ bitsN x) : p < 24 := by
  have h := (bitsN_mem.1 hp).2
  unfold has at h
  apply Classical.byContradiction
  intro hn
  have h2 := Nat.ge_two_pow_of_testBit h
  have h3 : (2 : Nat) ^ 24 ≤ 2 ^ p := Nat.pow_le_pow_right (by decide) (by omega)
  omega
theorem or24 {a b : Nat} (ha : a < 16777216) (hb : b < 16777216) : a ||| b < 16777216 := Nat.or_lt_two_pow (n := 24) ha hb
theorem less24 {a b : Nat} (ha : a < 16777216) : lessN a b < 16777216 := by
  unfold lessN
  have h := Nat.and_le_left (n := a) (m := b)
  exact Nat.xor_lt_two_pow (n := 24) ha (by omega)
def foldO (f : Nat → Nat) (r : Nat) (l : List Nat) : Nat := l.foldl (fun r p => r ||| f p) r
theorem foldO_snoc (f : Nat → Nat) (r : Nat) (l : List Nat) (k : Nat) (h : k < l.length) : foldO f r (l.take (k + 1)) = foldO f r (l.take k) ||| f l[k] := by
  unfold foldO
  rw [take_snoc l k h, List.foldl_append]
  rfl
theorem setAll_snoc (l ps : List Nat) (x k : Nat) (h : k < ps.length) : setAll l (ps.take (k + 1)) x = (setAll l (ps.take k) x).set ps[k] x := by
  unfold setAll
  rw [take_snoc ps k h, List.foldl_append]
  rfl

set_option maxHeartbeats 4000000 in
set_option maxRecDepth 100000 in
theorem finish_any (g n x : Nat) (Y N : List Nat) (s : GW) (Ap : Option Addr) (cp : Nat) (Ag : Option Addr) (cg : Nat) (w : World) (h : GWAt w g Y N n s Ap cp Ag cg) (hx : x < 16777216) (hn : s.groups.length < 24) (hA : AskLim Y N) (hT : Tab w) :
    Calls Tryd.prog 68 #[.pointer (some ⟨g, 0, none⟩), .int .u64 x] w fun e w' => e = .returned (.tuple #[]) ∧ ∃ Ag' cg', GWAt w' g Y N n (finishF (askF Y N) x s) Ap cp Ag' cg' ∧ Keeps g w Ap Ag w' Ap Ag' := by
  obtain ⟨i0, hi0, hz0, hz1, hz2⟩ := info_parts Tryd.infoUint
  have HG := Lib.hid h
  have HA := Lib.hid hA
  have HT := Lib.hid hT
  have hgl := h.lt
  obtain ⟨ms, hms⟩ : ∃ ms, ms = bitsOf x := ⟨_, rfl⟩
  obtain ⟨B, hB⟩ : ∃ B, B = bitsN x := ⟨_, rfl⟩
  have HB := Lib.hid hB
  have HMS := Lib.hid (show ms = B.map fun j : Nat => (j : Int) by rw [hms, hB]; rfl)
  have HML := Lib.hid (show ms.length = B.length by rw [HMS.out]; simp)
  have hmsl : ms.length ≤ 64 := by rw [hms]; exact bitsOf_length _
  have HB24 := Lib.hid (show ∀ p ∈ B, p < 24 from fun p hp => bitsN_lt hx (by rw [← hB]; exact hp))
  have CB := Lib.hid (bitNumbers_any x (by omega) w HT.out)
  rw [← hms] at CB
  clear h hA hT hms hB
  go_enter Tryd.func68, Tryd.ntmps68
  go_wp2_with (go_at_call 32; refine CB.out.mono ?_; rintro e w1 ⟨A1, c1, rfl, o1, b1⟩; have HO1 := Lib.hid o1; have B1 := Lib.hid b1; clear o1 b1)
  go_loopw [5, 16] (fun m i wr => ∃ (k z : Nat), k ≤ ms.length ∧ i = .int .i64 k ∧ m = .int .u64 z ∧ z = foldO (askF Y N) 0 (B.take k) ∧ z < 16777216 ∧ Below w1.heap.size w1 wr) (fun _ i _ => ms.length - (intOf i).toNat)
  case atStart => exact ⟨0, 0, Nat.zero_le _, rfl, rfl, rfl, by omega, Below.refl _ _⟩
  case round =>
    obtain ⟨k, z, hk, rfl, rfl, hz, hz24, hbe⟩ := hrel
    have HZ := Lib.hid hz
    have HBE := Lib.hid hbe
    have BW := Lib.hid (bthen B1.out hbe)
    have HGW := Lib.hid (HG.out.on BW.out)
    clear hz hbe
    by_cases hlt : k < ms.length
    · have hkB : k < B.length := by rw [← HML.out]; exact hlt
      obtain ⟨bb, oo, e0, hbb, k0⟩ := (HO1.out.rd.on HBE.out).at_ hlt
      subst e0
      obtain ⟨p, hp⟩ : ∃ p, p = B[k] := ⟨_, rfl⟩
      have hpk : ms[k] = (p : Int) := by rw [hp]; simp [HMS.out]
      rw [hpk] at k0
      have HP := Lib.hid hp
      have hp24 : p < 24 := by rw [hp]; exact HB24.out _ (List.getElem_mem hkB)
      have hy := HA.out.y p hp24
      have hnn := HA.out.n p hp24
      have CA := Lib.hid (askAll_at g p (Y.getD p 0) (N.getD p 0) wr (HGW.out.cellYes hp24) (HGW.out.cellNo hp24) hp24 (by omega) (by omega))
      obtain ⟨u, hu⟩ : ∃ u, u = Y.getD p 0 ||| N.getD p 0 := ⟨_, rfl⟩
      have hu24 : u < 16777216 := by rw [hu]; exact or24 hy hnn
      rw [← hu] at CA
      unfold wd64 at CA
      have hor : bits .or .u64 (z : Int) (u : Int) = ((z ||| u : Nat) : Int) := u64_or_nat z u (by omega) (by omega)
      have HU := Lib.hid hu
      clear hp hpk hu hy hnn
      go_wp2_with (go_at_call 66; refine CA.out.mono ?_; rintro e w2 ⟨rfl, b2⟩; have B2 := Lib.hid (bthen HBE.out b2); clear b2)
      go_roundw
      case rel => exact ⟨k + 1, z ||| u, by omega, by go_num, rfl, by rw [foldO_snoc _ _ _ _ hkB, ← HZ.out, ← HP.out, HU.out]; rfl, or24 hz24 hu24, B2.out⟩
      case measure => simp [intOf]; omega
    · have HZA := Lib.hid (show z = foldO (askF Y N) 0 B by rw [HZ.out, show k = B.length by have := HML.out; omega, List.take_length])
      obtain ⟨w2, rfl⟩ : ∃ w2, w2 = wr := ⟨_, rfl⟩
      have han : bits .andNot .u64 (z : Int) (x : Int) = ((lessN z x : Nat) : Int) := andNot_less (by omega) (by omega)
      obtain ⟨d, hd⟩ : ∃ d, d = lessN z x := ⟨_, rfl⟩
      have hd24 : d < 16777216 := by rw [hd]; exact less24 hz24
      rw [← hd] at han
      have HD := Lib.hid hd
      obtain ⟨qs, hqs⟩ : ∃ qs, qs = bitsOf d := ⟨_, rfl⟩
      obtain ⟨Q, hQ⟩ : ∃ Q, Q = bitsN d := ⟨_, rfl⟩
      have HQ := Lib.hid hQ
      have HQS := Lib.hid (show qs = Q.map fun j : Nat => (j : Int) by rw [hqs, hQ]; rfl)
      have HQL := Lib.hid (show qs.length = Q.length by rw [HQS.out]; simp)
      have hqsl : qs.length ≤ 64 := by rw [hqs]; exact bitsOf_length _
      have HQ24 := Lib.hid (show ∀ p ∈ Q, p < 24 from fun p hp => bitsN_lt hd24 (by rw [← hQ]; exact hp))
      have CQ := Lib.hid (bitNumbers_any d (by omega) w2 (HT.out.below BW.out))
      rw [← hqs] at CQ
      clear hqs hQ hd
      go_wp2_with (go_at_call 32; refine CQ.out.mono ?_; rintro e w3 ⟨A3, c3, rfl, o3, b3⟩; have HO3 := Lib.hid o3; have B3 := Lib.hid (bthen BW.out b3); have B13 := Lib.hid (bthen HBE.out b3); clear o3 b3)
      have HG3 := Lib.hid (HG.out.on B3.out)
      go_loopw [5, 33] (fun m i wr => ∃ (k y : Nat), k ≤ qs.length ∧ i = .int .i64 k ∧ m = .int .u64 y ∧ y = foldO (fun t => s.reach.getD t 0) z (Q.take k) ∧ y < 16777216 ∧ wr = w3) (fun _ i _ => qs.length - (intOf i).toNat)
      case atStart => exact ⟨0, z, Nat.zero_le _, rfl, rfl, rfl, hz24, by first | rfl | trivial⟩
      case round =>
        obtain ⟨k, y, hk, rfl, rfl, hy, hy24, rfl⟩ := hrel
        have HY := Lib.hid hy
        clear hy
        by_cases hlt : k < qs.length
        · have hkB : k < Q.length := by rw [← HQL.out]; exact hlt
          obtain ⟨bb, oo, e0, hbb, k0⟩ := HO3.out.rd.at_ hlt
          subst e0
          obtain ⟨p, hp⟩ : ∃ p, p = Q[k] := ⟨_, rfl⟩
          have hpk : qs[k] = (p : Int) := by rw [hp]; simp [HQS.out]
          rw [hpk] at k0
          have HP := Lib.hid hp
          have hp24 : p < 24 := by rw [hp]; exact HQ24.out _ (List.getElem_mem hkB)
          have hpi : (p : Int) < 24 := by omega
          obtain ⟨u, hu⟩ : ∃ u, u = s.reach.getD p 0 := ⟨_, rfl⟩
          have k1 : wr.cell? ⟨g, 77 + p, none⟩ = some (.int .u64 ((u : Nat) : Int)) := by rw [hu]; exact HG3.out.cellReach hp24
          have hu24 : u < 16777216 := by
            rw [hu]
            have hl : p < s.reach.length := by rw [HG3.out.len.r]; exact hp24
            rw [List.getD_eq_getElem?_getD, List.getElem?_eq_getElem hl]
            exact HG3.out.lim.reach _ (List.getElem_mem hl)
          have hor : bits .or .u64 (y : Int) (u : Int) = ((y ||| u : Nat) : Int) := u64_or_nat y u (by omega) (by omega)
          have HU := Lib.hid hu
          clear hp hpk hu
          go_wp2_with (fail)
          go_roundw
          case rel => exact ⟨k + 1, y ||| u, by omega, by go_num, rfl, by rw [foldO_snoc _ _ _ _ hkB, ← HY.out, ← HP.out, HU.out], or24 hy24 hu24, by first | rfl | trivial⟩
          case measure => simp [intOf]; omega
        · have HYA := Lib.hid (show y = reachF (askF Y N) s.reach x by
            rw [HY.out, show k = Q.length by have := HQL.out; omega, List.take_length, HQ.out, HD.out, HZA.out, HB.out]
            rfl)
          obtain ⟨w4, rfl⟩ : ∃ w4, w4 = wr := ⟨_, rfl⟩
          have HGo := Lib.hid (HO1.out.below B13.out (Nat.le_refl _))
          have hg1 : g < w1.heap.size := Nat.lt_of_lt_of_le hgl B1.out.size
          go_wp2_with (fail)
          go_loopw [48] (fun i wr => ∃ k : Nat, k ≤ ms.length ∧ i = .int .i64 k ∧ GWAt wr g Y N n { s with group := setAll s.group (B.take k) x, reach := setAll s.reach (B.take k) y } Ap cp Ag cg ∧ Keeps g w Ap Ag wr Ap Ag ∧ OwnInts wr w.heap.size w1.heap.size (.slice A1 ms.length c1) ms) (fun i _ => ms.length - (intOf i).toNat)
          case atStart => exact ⟨0, Nat.zero_le _, rfl, HG3.out, Keeps.of_below B3.out (Nat.le_of_lt hgl), HGo.out⟩
          case round =>
            obtain ⟨k, hk, rfl, hgw, hbw, hom⟩ := hrel
            have HGW := Lib.hid hgw
            have HBW := Lib.hid hbw
            have HOM := Lib.hid hom
            clear hgw hbw hom
            by_cases hlt : k < ms.length
            · have hkB : k < B.length := by rw [← HML.out]; exact hlt
              obtain ⟨bb, oo, e0, hbb, k0⟩ := HOM.out.rd.at_ hlt
              subst e0
              obtain ⟨p, hp⟩ : ∃ p, p = B[k] := ⟨_, rfl⟩
              have hpk : ms[k] = (p : Int) := by rw [hp]; simp [HMS.out]
              rw [hpk] at k0
              have HP := Lib.hid hp
              have hp24 : p < 24 := by rw [hp]; exact HB24.out _ (List.getElem_mem hkB)
              have hpi : (p : Int) < 24 := by omega
              have q1 := HGW.out.cellGroup hp24
              have q2 := HGW.out.cellReach hp24
              unfold wd64 at q1 q2
              have f1 : wr.frozen? ⟨g, 53 + p, none⟩ = false := HGW.out.blk.frozen _
              have f2 : wr.frozen? ⟨g, 77 + p, none⟩ = false := HGW.out.blk.frozen _
              have HG1 := Lib.hid (HGW.out.setGroup (x := x) hp24)
              have HG2 := Lib.hid (HG1.out.setReach (p := p) hy24)
              have hbe : bb ≠ g := fun e => by
                have := HOM.out.lt (g := bb) rfl
                omega
              clear hp hpk
              go_wp2_with (fail)
              go_roundw
              case rel =>
                refine ⟨k + 1, by omega, by go_num, ?_, (HBW.out.setG _ _).setG _ _, (HOM.out.set (p := ⟨g, 53 + p, none⟩) (.inl hgl) _).set (p := ⟨g, 77 + p, none⟩) (.inl hgl) _⟩
                rw [setAll_snoc _ _ _ _ hkB, setAll_snoc _ _ _ _ hkB, ← HP.out]
                exact HG2.out
              case measure => simp [intOf]; omega
            · have HGE := Lib.hid (show GWAt wr g Y N n { s with group := setAll s.group B x, reach := setAll s.reach B y } Ap cp Ag cg from by
                have := HGW.out
                rw [show k = B.length by have := HML.out; omega, List.take_length] at this
                exact this)
              obtain ⟨w5, rfl⟩ : ∃ w5, w5 = wr := ⟨_, rfl⟩
              obtain ⟨S, hS⟩ : ∃ S : GW, S = { s with group := setAll s.group B x, reach := setAll s.reach B y } := ⟨_, rfl⟩
              have hSn : S.groups.length < 24 := by rw [hS]; exact hn
              have HS := Lib.hid hS
              rw [← hS] at HGE
              have k52 : w5.cell? ⟨g, 52, none⟩ = some (.slice Ag S.groups.length cg) := HGE.out.cellGroups
              have hg5 : g < w5.heap.size := HGE.out.lt
              clear hS
              go_wp2_with (at_builtin; refine wpList_append_lies _ rfl (.tmp 69) (.tmp 71) 59 rfl (g + 1) 55 i0 (.int .u64 0) 1 8 Tryd.underlying59 hi0 hz0 hz1 hz2 rfl (by decide) (.slice Ag S.groups.length cg) S.groups.length (S.groups.map wd64) rfl ?c1 ⟨w5.heap.size, 0, none⟩ 1 1 [.int .u64 (x : Int)] rfl rfl (cell_one_new _ _ _) ?c2 (by omega) (by unfold maxLen; omega) (by omega) ?c3 _ rfl ?_)
              case c1 => exact HGE.out.groups.alloc _
              case c2 => intro u hu; simp at hu; subst hu; rfl
              case c3 => simp; omega
              intro g2 cap w6 hown hgr hat _
              have hkg := (HGE.out.keptG hgr).1 g (Nat.lt_succ_self _)
              have c52 : w6.cell? ⟨g, 52, none⟩ = some (.slice Ag S.groups.length cg) := by rw [← k52]; simp [World.cell?, hkg]
              have f52 : w6.frozen? ⟨g, 52, none⟩ = false := by
                have := HGE.out.blk.frozen 52
                rw [← this]
                simp [World.frozen?, hkg]
              have HPG := Lib.hid (fun W (hW : W = w6.setCell ⟨g, 52, none⟩ (.slice (some ⟨g2, 0, none⟩) (S.groups.length + 1) cap)) => HGE.out.pushGroups hx hSn hgr (by simpa using hat) hown hW)
              clear hown hgr hat hkg
              go_upto_region 19 with fail
              obtain ⟨w7, hw7⟩ : ∃ w7, w7 = w6.setCell ⟨g, 52, none⟩ (.slice (some ⟨g2, 0, none⟩) (S.groups.length + 1) cap) := ⟨_, rfl⟩
              have H7 := Lib.hid (HPG.out w7 hw7)
              rw [← hw7]
              have k50 : w7.cell? ⟨g, 50, none⟩ = some (.int .u64 ((S.done : Nat) : Int)) := H7.out.1.cellDone
              have f50 : w7.frozen? ⟨g, 50, none⟩ = false := H7.out.1.blk.frozen 50
              have hd24 : S.done < 16777216 := HGE.out.lim.done
              have hor : bits .or .u64 (S.done : Int) (x : Int) = ((S.done ||| x : Nat) : Int) := u64_or_nat S.done x (by omega) (by omega)
              have H8 := Lib.hid (H7.out.1.setDone (or24 hd24 hx))
              clear hw7 c52 f52
              go_wp2_with fail
              go_end0
              refine ⟨rfl, some ⟨g2, 0, none⟩, ⟨cap, ?_⟩, (HBW.out.trans H7.out.2).setG _ _⟩
              have h8 := H8.out
              have e : ({ S with groups := S.groups ++ [x], done := S.done ||| x } : GW) = finishF (askF Y N) x s := by
                rw [HS.out]
                unfold finishF
                rw [← HB.out, ← HYA.out]
              rw [← e]
              exact h8

end Go.Proofs.YtcoelmhlkfignaaDoor
/-
  The walk of joinBack.
-/
namespace Go.Proofs.YtcoelmhlkfignaaDoor
open Go.RowKit

/-- While parts are joined: T is the path as it is joined so far, its top first; st lies stale behind it. -/
structure JAt (w0 wr : World) (g : Nat) (Y N : List Nat) (n : Nat) (s : GW) (Ap : Option Addr) (cp : Nat) (Ag : Option Addr) (cg : Nat) (tq : Nat) (T st : List Nat) : Prop where
  len : GwLen Y N s.group s.reach
  blk : Blk wr g 61 (gwList Y N n s.met s.done (.slice Ap s.stk.length cp) (.slice Ag s.groups.length cg) s.group s.reach).toArray
  path : wr.ownsRow (g + 1) 55 1 (.slice Ap s.stk.length cp) s.stk.length ((T.reverse ++ st).map wd64)
  groups : wr.ownsRow (g + 1) 55 1 (.slice Ag s.groups.length cg) s.groups.length (s.groups.map wd64)
  apart : ∀ b, (Value.slice Ap s.stk.length cp).ownBlock = some b → (Value.slice Ag s.groups.length cg).ownBlock ≠ some b
  lims : GwLim s
  eq : joinR tq T = joinR tq s.stk
  hasT : ∃ x ∈ T, has x tq
  lim : ∀ x ∈ T, x < 16777216
  cnt : T.length + st.length = s.stk.length
  keeps : Keeps g w0 Ap Ag wr Ap Ag
section
variable {w0 wr : World} {g gp : Nat} {Y N T st : List Nat} {n tq a b : Nat} {r : List Nat} {s : GW} {Ap Ag : Option Addr} {cp cg : Nat}
theorem JAt.start (h : GWAt wr g Y N n s Ap cp Ag cg) (hto : ∃ x ∈ s.stk, has x tq) : JAt wr wr g Y N n s Ap cp Ag cg tq s.stk [] :=
  ⟨h.len, h.blk, by rw [List.append_nil]; exact h.path, h.groups, h.apart, h.lim, rfl, hto, h.lim.stk, rfl, Keeps.refl _ _ _ _⟩
theorem JAt.cellPath (h : JAt w0 wr g Y N n s Ap cp Ag cg tq T st) : wr.cell? ⟨g, 51, none⟩ = some (.slice Ap s.stk.length cp) := by
  rw [h.blk.cell 51, List.getElem?_toArray]; exact gwList_tail h.len 3
theorem JAt.at_ (h : JAt w0 wr g Y N n s (some ⟨gp, 0, none⟩) cp Ag cg tq T st) {j x : Nat} (hj : (T.reverse ++ st)[j]? = some x) : wr.cell? ⟨gp, j, none⟩ = some (.int .u64 ((x : Nat) : Int)) := by
  have hl : j < (T.reverse ++ st).length := by
    rcases Nat.lt_or_ge j (T.reverse ++ st).length with h | h
    · exact h
    · rw [List.getElem?_eq_none h] at hj; cases hj
  have h1 := h.path.cellAt j (by have := h.cnt; simp at hl; omega)
  rw [h1, List.getElem?_map, hj]
  rfl
theorem JAt.step (h : JAt w0 wr g Y N n s (some ⟨gp, 0, none⟩) cp Ag cg tq (a :: b :: r) st) (hn : a.testBit tq = false) : JAt w0 (wr.setCell ⟨gp, r.length, none⟩ (wd64 (b ||| a))) g Y N n s (some ⟨gp, 0, none⟩) cp Ag cg tq ((b ||| a) :: r) (a :: st) := by
  have hgp := h.path.lt gp rfl
  have hk : ∀ k, k ≠ gp → (wr.setCell ⟨gp, r.length, none⟩ (wd64 (b ||| a))).heap[k]? = wr.heap[k]? := fun k hk => Below.heap_setCell _ _ _ k hk
  have hne : ∀ k, (Value.slice Ag s.groups.length cg).ownBlock = some k → k ≠ gp := fun k hk' e => h.apart gp rfl (by rw [hk', e])
  refine ⟨h.len, (hk g (by omega)).trans h.blk, ?_, ownsRow_only h.groups fun k hk' => hk k (hne k hk'), h.apart, h.lims, ?_, ?_, fun x hx => ?_, ?_, ⟨h.keeps.below.setCell (by show g ≤ gp; omega) _, fun k h1 h2 h3 h4 => (hk k (fun e => h3 (by rw [e]; rfl))).trans (h.keeps.keep k h1 h2 h3 h4), h.keeps.pa, h.keeps.ga⟩⟩
  · have h1 := (h.path.stored r.length (wd64 (b ||| a))).1
    have e : (((a :: b :: r).reverse ++ st).map wd64).set r.length (wd64 (b ||| a)) = ((((b ||| a) :: r).reverse ++ a :: st).map wd64) := by
      rw [← List.map_set]
      congr 1
      simp only [List.reverse_cons, List.append_assoc]
      rw [List.set_append_right _ _ (by simp)]
      simp
    rw [e] at h1
    exact h1
  · rw [← h.eq]
    conv => rhs; rw [joinR, if_neg (by rw [hn]; exact Bool.false_ne_true)]
  · obtain ⟨x, hx, hx2⟩ := h.hasT
    rcases List.mem_cons.1 hx with rfl | hx
    · unfold has at hx2
      rw [hn] at hx2
      cases hx2
    · rcases List.mem_cons.1 hx with rfl | hx
      · exact ⟨_, List.mem_cons_self .., has_or.2 (.inl hx2)⟩
      · exact ⟨x, List.mem_cons_of_mem _ hx, hx2⟩
  · rcases List.mem_cons.1 hx with rfl | hx
    · exact Nat.or_lt_two_pow (n := 24) (h.lim b (by simp)) (h.lim a (by simp))
    · exact h.lim x (by simp [hx])
  · have := h.cnt
    simp only [List.length_cons] at this ⊢
    omega
theorem joinR_stop {tq a : Nat} {r : List Nat} (h : a.testBit tq = true) : joinR tq (a :: r) = a :: r := by
  cases r with
  | nil => simp [joinR]
  | cons b r => rw [joinR, if_pos h]
theorem JAt.done (h : JAt w0 wr g Y N n s (some ⟨gp, 0, none⟩) cp Ag cg tq (a :: r) st) (ha : a.testBit tq = true) :
    GWAt (wr.setCell ⟨g, 51, none⟩ (.slice (some ⟨gp, 0, none⟩) (r.length + 1) cp)) g Y N n { s with stk := joinR tq s.stk } (some ⟨gp, 0, none⟩) cp Ag cg ∧ Keeps g w0 (some ⟨gp, 0, none⟩) Ag (wr.setCell ⟨g, 51, none⟩ (.slice (some ⟨gp, 0, none⟩) (r.length + 1) cp)) (some ⟨gp, 0, none⟩) Ag := by
  have e : joinR tq s.stk = a :: r := by rw [← h.eq, joinR_stop ha]
  have hcnt := h.cnt
  simp only [List.length_cons] at hcnt
  have hgp := h.path.lt gp rfl
  have hk : ∀ k, k ≠ g → (wr.setCell ⟨g, 51, none⟩ (.slice (some ⟨gp, 0, none⟩) (r.length + 1) cp)).heap[k]? = wr.heap[k]? := fun k hk => Below.heap_setCell _ _ _ k hk
  refine ⟨⟨h.len, ?_, ?_, ownsRow_only h.groups fun k hk' => hk k (by have := (h.groups.lt k hk').1; omega), ?_, ?_⟩, h.keeps.setG _ _⟩
  · show Blk _ g 61 (gwList Y N n s.met s.done (.slice (some ⟨gp, 0, none⟩) (joinR tq s.stk).length cp) (.slice Ag s.groups.length cg) s.group s.reach).toArray
    rw [e]
    have h1 := h.blk.set_ 51 (.slice (some ⟨gp, 0, none⟩) (r.length + 1) cp)
    have h2 := gwList_setPath (n := n) (met := s.met) (done := s.done) (vp := .slice (some ⟨gp, 0, none⟩) s.stk.length cp) (vg := .slice Ag s.groups.length cg) (u := .slice (some ⟨gp, 0, none⟩) (r.length + 1) cp) h.len
    simp only [List.setIfInBounds_toArray, h2] at h1
    exact h1
  · show World.ownsRow _ (g + 1) 55 1 (.slice (some ⟨gp, 0, none⟩) (joinR tq s.stk).length cp) (joinR tq s.stk).length ((joinR tq s.stk).reverse.map wd64)
    rw [e]
    obtain ⟨hl, hr⟩ := ownsRow_only (w' := wr.setCell ⟨g, 51, none⟩ (.slice (some ⟨gp, 0, none⟩) (r.length + 1) cp)) h.path fun k hk' => hk k (by have := (h.path.lt k hk').1; omega)
    rcases hr with ⟨e1, _⟩ | ⟨g', cap, cur, e1, hb, hg, h1, h2, h3, h4⟩
    · cases e1
    · injection e1 with e1 e2 e3
      subst e3
      refine ⟨by simp, .inr ⟨g', cp, cur, by rw [e1], hb, hg, by simp; omega, h2, h3, ?_⟩⟩
      have h5 := congrArg (fun l => l.take (a :: r).length) h4
      simp only [List.take_take] at h5
      rw [show min (a :: r).length (s.stk.length * 1) = (a :: r).length * 1 by simp; omega] at h5
      rw [h5, List.map_append, List.take_append_of_le_length (by simp), List.take_of_length_le (by simp)]
  · show ∀ b, (Value.slice (some ⟨gp, 0, none⟩) (joinR tq s.stk).length cp).ownBlock = some b → _
    intro b hb
    exact h.apart b hb
  · exact ⟨h.lims.met, h.lims.done, by show ∀ x ∈ joinR tq s.stk, _; rw [e]; exact h.lim, h.lims.groups, h.lims.reach, by show (joinR tq s.stk).length ≤ 24; rw [e]; have := h.lims.stkN; simp; omega, h.lims.groupsN⟩
end

set_option maxHeartbeats 4000000 in
set_option maxRecDepth 100000 in
theorem joinBack_any (g n tq : Nat) (Y N : List Nat) (s : GW) (Ap : Option Addr) (cp : Nat) (Ag : Option Addr) (cg : Nat) (w : World) (h : GWAt w g Y N n s Ap cp Ag cg) (hto : ∃ x ∈ s.stk, has x tq) (hto24 : tq < 24) :
    Calls Tryd.prog 67 #[.pointer (some ⟨g, 0, none⟩), .int .i64 tq] w fun e w' => e = .returned (.tuple #[]) ∧ GWAt w' g Y N n { s with stk := joinR tq s.stk } Ap cp Ag cg ∧ Keeps g w Ap Ag w' Ap Ag := by
  have hpos : 0 < s.stk.length := by
    obtain ⟨x, hx, _⟩ := hto
    exact List.length_pos_of_mem hx
  have hsn := h.lim.stkN
  obtain ⟨gp, rfl⟩ : ∃ gp, Ap = some ⟨gp, 0, none⟩ := by
    obtain ⟨g2, cap, e, _⟩ := h.path.form hpos
    injection e with e1 _ _
    exact ⟨g2, e1⟩
  have HS := Lib.hid (JAt.start h hto)
  have k51 := h.cellPath
  obtain ⟨m, hm, hm2⟩ : ∃ m : Nat, IntKind.i64.wrap ((s.stk.length : Int) - 1) = (m : Int) ∧ m + 1 = s.stk.length := ⟨s.stk.length - 1, by unfold IntKind.wrap; simp [IntKind.bits, IntKind.signed]; omega, by omega⟩
  have HM := Lib.hid hm2
  obtain ⟨n0, hn0⟩ : ∃ n0, n0 = s.stk.length := ⟨_, rfl⟩
  have HN := Lib.hid hn0
  rw [← hn0] at k51 hm hsn
  clear h hto hm2 hpos hn0
  go_enter Tryd.func67, Tryd.ntmps67
  go_wp2_with (fail)
  go_loopw [4] (fun i wr => ∃ (T st : List Nat) (l : Nat), i = .int .i64 l ∧ l + 1 = T.length ∧ JAt w wr g Y N n s (some ⟨gp, 0, none⟩) cp Ag cg tq T st) (fun i _ => (intOf i).toNat)
  case atStart => exact ⟨s.stk, [], m, rfl, HM.out, HS.out⟩
  case round =>
    obtain ⟨T, st, l, rfl, hl, hj⟩ := hrel
    have HJ := Lib.hid hj
    have hcnt := hj.cnt
    rw [← HN.out] at hcnt
    have hgl : g < wr.heap.size := Blk.lt hj.blk
    have k51 : wr.cell? ⟨g, 51, none⟩ = some (.slice (some ⟨gp, 0, none⟩) n0 cp) := by rw [HN.out]; exact hj.cellPath
    have hgp : gp < wr.heap.size := (hj.path.lt gp rfl).2
    cases T with
    | nil => simp at hl
    | cons a r =>
      have hla : l = r.length := by simpa using hl
      have ha24 := hj.lim a (by simp)
      have q1 : wr.cell? ⟨gp, l, none⟩ = some (.int .u64 ((a : Nat) : Int)) := hj.at_ (by rw [hla]; simp)
      have hli : decide ((l : Int) < (n0 : Int)) = true := by rw [decide_eq_true_eq]; simp at hcnt; omega
      have hln : l < n0 := by simp at hcnt; omega
      obtain ⟨hb, hhb⟩ : ∃ hb, hb = a.testBit tq := ⟨_, rfl⟩
      have HHB := Lib.hid hhb
      have CB := Lib.hid ((hasBit_any a tq (by omega) (by omega) wr).mono fun e w' (hh : e = .returned (.bool (a.testBit tq)) ∧ wr = w') => (⟨by rw [hh.1, hhb], hh.2⟩ : e = .returned (.bool hb) ∧ wr = w'))
      have HLA := Lib.hid hla
      have HCN := Lib.hid hcnt
      clear hj hhb hl hcnt
      cases hb
      · cases r with
        | nil =>
          obtain ⟨x, hx, hx2⟩ := HJ.out.hasT
          have e : x = a := by simpa using hx
          subst e
          unfold has at hx2
          rw [← HHB.out] at hx2
          cases hx2
        | cons b r =>
        have hb24 := HJ.out.lim b (by simp)
        obtain ⟨l', rfl⟩ : ∃ l', l = l' + 1 := ⟨r.length, by simpa using hla⟩
        have hlr : l' = r.length := by simpa using hla
        have HLR := Lib.hid hlr
        have q2 : wr.cell? ⟨gp, l', none⟩ = some (.int .u64 ((b : Nat) : Int)) := HJ.out.at_ (by rw [hlr]; simp [List.getElem?_append_right])
        have hor : bits .or .u64 (b : Int) (a : Int) = ((b ||| a : Nat) : Int) := u64_or_nat b a (by omega) (by omega)
        have hwl : IntKind.i64.wrap (((l' + 1 : Nat) : Int) - 1) = (l' : Int) := by
          unfold IntKind.wrap
          simp [IntKind.bits, IntKind.signed]
          omega
        have hwl2 : IntKind.i64.wrap (l' : Int) = (l' : Int) := by
          unfold IntKind.wrap
          simp [IntKind.bits, IntKind.signed]
          omega
        have hln2 : l' < n0 := by omega
        have hge3 : (0 : Int) ≤ (l' : Int) + 1 := by omega
        have hlt3 : (l' : Int) + 1 < (n0 : Int) := by omega
        have hli' : decide ((l' : Int) < (n0 : Int)) = true := by rw [decide_eq_true_eq]; omega
        have HST := Lib.hid (show JAt w (wr.drew.setCell ⟨gp, l', none⟩ (.int .u64 ((b ||| a : Nat) : Int))) g Y N n s (some ⟨gp, 0, none⟩) cp Ag cg tq ((b ||| a) :: r) (a :: st) from by
          have hd : JAt w wr.drew g Y N n s (some ⟨gp, 0, none⟩) cp Ag cg tq (a :: b :: r) st := ⟨HJ.out.len, HJ.out.blk, HJ.out.path, HJ.out.groups, HJ.out.apart, HJ.out.lims, HJ.out.eq, HJ.out.hasT, HJ.out.lim, HJ.out.cnt, HJ.out.keeps.trans (Keeps.of_below (Below.refl _ _).drew (Nat.le_of_lt hgl))⟩
          rw [hlr]
          exact hd.step HHB.out.symm)
        clear hla hlr
        obtain ⟨SS, hSS⟩ : ∃ SS : World → Prop, SS = (fun W => W.cell? ⟨g, 51, none⟩ = some (.slice (some ⟨gp, 0, none⟩) n0 cp) ∧ W.cell? ⟨gp, l', none⟩ = some (.int .u64 ((b : Nat) : Int)) ∧ W.cell? ⟨gp, l' + 1, none⟩ = some (.int .u64 ((a : Nat) : Int))) := ⟨_, rfl⟩
        have HB := Lib.hid (show ∀ W, SS W → W.cell? ⟨g, 51, none⟩ = some (.slice (some ⟨gp, 0, none⟩) n0 cp) ∧ W.cell? ⟨gp, l', none⟩ = some (.int .u64 ((b : Nat) : Int)) ∧ W.cell? ⟨gp, l' + 1, none⟩ = some (.int .u64 ((a : Nat) : Int)) from by rw [hSS]; exact fun W hW => hW)
        have SB : SS wr.drew := by rw [hSS]; exact ⟨k51, q2, q1⟩
        have q3 : wr.drew.cell? ⟨gp, l', none⟩ = some (.int .u64 ((b : Nat) : Int)) := q2
        have q4 : wr.drew.frozen? ⟨gp, l', none⟩ = false := HJ.out.path.frozenAt l'
        have q5 : wr.frozen? ⟨gp, l', none⟩ = false := HJ.out.path.frozenAt l'
        clear hSS
        go_upto_region 2 with (go_at_call 49; refine CB.out.mono ?_; rintro e w' ⟨rfl, rfl⟩)
        refine wp_region_rel SS 17 18 (by kernel_rfl) rfl ?_
        refine wpAnyR_pure (i := 0) (oi := _) ?v0 rfl rfl (by kernel_rfl) (by decide) (fun _ _ _ h => h) rfl ?hy0 (fun _ => SB) ?rest0
        case hy0 => (intro W; go_simp; (try with_reducible rfl))
        try simp only [List.setIfInBounds_toArray, List.set_cons_zero, List.set_cons_succ]
        refine wpAnyR_pure (i := 1) (oi := _) ?v1 rfl rfl (by kernel_rfl) (by decide) (fun _ _ _ h => h) rfl ?hy1 (fun _ => SB) ?rest1
        case hy1 => (intro W; go_simp; (try with_reducible rfl))
        try simp only [List.setIfInBounds_toArray, List.set_cons_zero, List.set_cons_succ]
        refine wpAnyR_pure (i := 2) (oi := _) ?v2 rfl rfl (by kernel_rfl) (by decide) (fun _ _ _ h => h) rfl ?hy2 (fun _ => SB) ?rest2
        case hy2 => (intro W; go_simp; (try with_reducible rfl))
        try simp only [List.setIfInBounds_toArray, List.set_cons_zero, List.set_cons_succ]
        refine wpAnyR_pure (i := 4) (oi := _) ?v4 rfl rfl (by kernel_rfl) (by decide) (fun _ _ _ h => h) rfl ?hy4 (fun _ => SB) ?rest4
        case hy4 => (intro W; go_simp; (try with_reducible rfl))
        try simp only [List.setIfInBounds_toArray, List.set_cons_zero, List.set_cons_succ]
        refine wpAnyR_pure (i := 5) (oi := _) ?v5 rfl rfl (by kernel_rfl) (by decide) (fun _ _ _ h => h) rfl ?hy5 (fun _ => SB) ?rest5
        case hy5 => (intro W; go_simp; (try with_reducible rfl))
        try simp only [List.setIfInBounds_toArray, List.set_cons_zero, List.set_cons_succ]
        refine wpAnyR_pure (i := 8) (oi := _) ?v8 rfl rfl (by kernel_rfl) (by decide) (fun _ _ _ h => h) rfl ?hy8 (fun _ => SB) ?rest8
        case hy8 => (intro W; go_simp; (try with_reducible rfl))
        try simp only [List.setIfInBounds_toArray, List.set_cons_zero, List.set_cons_succ]
        refine wpAnyR_pure (i := 9) (oi := _) ?v9 rfl rfl (by kernel_rfl) (by decide) (fun _ _ _ h => h) rfl ?hy9 (fun _ => SB) ?rest9
        case hy9 => (intro W; go_simp; (try with_reducible rfl))
        try simp only [List.setIfInBounds_toArray, List.set_cons_zero, List.set_cons_succ]
        refine wpAnyR_pure (i := 10) (oi := _) ?v10 rfl rfl (by kernel_rfl) (by decide) (fun _ _ _ h => h) rfl ?hy10 (fun _ => SB) ?rest10
        case hy10 => (intro W; go_simp; (try with_reducible rfl))
        try simp only [List.setIfInBounds_toArray, List.set_cons_zero, List.set_cons_succ]
        refine wpAnyR_pure (i := 12) (oi := _) ?v12 rfl rfl (by kernel_rfl) (by decide) (fun _ _ _ h => h) rfl ?hy12 (fun _ => SB) ?rest12
        case hy12 => (intro W; go_simp; (try with_reducible rfl))
        try simp only [List.setIfInBounds_toArray, List.set_cons_zero, List.set_cons_succ]
        refine wpAnyR_take (i := 3) (oi := _) ?v3 rfl rfl (by kernel_rfl) (fun _ _ _ h => h) rfl ?hy3 SB ?rest3
        case hy3 => (intro W hW; obtain ⟨E0, E1, E2⟩ := HB.out W hW; go_simp; (try with_reducible rfl))
        try simp only [List.setIfInBounds_toArray, List.set_cons_zero, List.set_cons_succ]
        refine wpAnyR_take (i := 11) (oi := _) ?v11 rfl rfl (by kernel_rfl) (fun _ _ _ h => h) rfl ?hy11 SB ?rest11
        case hy11 => (intro W hW; obtain ⟨E0, E1, E2⟩ := HB.out W hW; go_simp; (try with_reducible rfl))
        try simp only [List.setIfInBounds_toArray, List.set_cons_zero, List.set_cons_succ]
        refine wpAnyR_pure (i := 6) (oi := _) ?v6 rfl rfl (by kernel_rfl) (by decide) (fun _ _ _ h => h) rfl ?hy6 (fun _ => SB) ?rest6
        case hy6 => (intro W; go_simp; (try with_reducible rfl))
        try simp only [List.setIfInBounds_toArray, List.set_cons_zero, List.set_cons_succ]
        refine wpAnyR_pure (i := 13) (oi := _) ?v13 rfl rfl (by kernel_rfl) (by decide) (fun _ _ _ h => h) rfl ?hy13 (fun _ => SB) ?rest13
        case hy13 => (intro W; go_simp; (try with_reducible rfl))
        try simp only [List.setIfInBounds_toArray, List.set_cons_zero, List.set_cons_succ]
        refine wpAnyR_take (i := 7) (oi := _) ?v7 rfl rfl (by kernel_rfl) (fun _ _ _ h => h) rfl ?hy7 SB ?rest7
        case hy7 => (intro W hW; obtain ⟨E0, E1, E2⟩ := HB.out W hW; go_simp; (try with_reducible rfl))
        try simp only [List.setIfInBounds_toArray, List.set_cons_zero, List.set_cons_succ]
        refine wpAnyR_take (i := 14) (oi := _) ?v14 rfl rfl (by kernel_rfl) (fun _ _ _ h => h) rfl ?hy14 SB ?rest14
        case hy14 => (intro W hW; obtain ⟨E0, E1, E2⟩ := HB.out W hW; go_simp; (try with_reducible rfl))
        try simp only [List.setIfInBounds_toArray, List.set_cons_zero, List.set_cons_succ]
        refine wpAnyR_pure (i := 15) (oi := _) (.int .u64 (((b ||| a : Nat)) : Int)) rfl rfl (by kernel_rfl) (by decide) (fun _ _ _ h => h) rfl ?hy15 (fun _ => SB) ?rest15
        case hy15 => (intro W; go_simp; (try simp))
        try simp only [List.setIfInBounds_toArray, List.set_cons_zero, List.set_cons_succ]
        refine wpAnyR_pure (i := 16) (oi := _) ?v16 rfl rfl (by kernel_rfl) (by decide) (fun _ _ _ h => h) rfl ?hy16 (fun _ => SB) ?rest16
        case hy16 => (intro W; go_simp; (try with_reducible rfl))
        try simp only [List.setIfInBounds_toArray, List.set_cons_zero, List.set_cons_succ]
        refine wpAnyR_one (i := 17) (by kernel_rfl) rfl (fun K hK => ?_)
        go_simp
        refine hK.out _ _ (fun hf => absurd hf (by decide)) ?_
        clear hK K
        refine wpAnyR_done (by kernel_rfl) ?_
        go_wp2_with (fail)
        go_roundw
        case rel => exact ⟨(b ||| a) :: r, a :: st, l', by first | rfl | go_num, by simp [HLR.out], HST.out⟩
        case measure => simp [intOf]
      · have HD := Lib.hid (HJ.out.done HHB.out.symm)
        have hcp : n0 ≤ cp := by
          rcases HJ.out.path.2 with ⟨e, _⟩ | ⟨g', cap, cur, e, _, _, h1, _⟩
          · cases e
          · injection e with _ _ e3
            rw [HN.out, e3]
            exact h1
        have hwl : IntKind.i64.wrap ((l : Int) + 1) = ((l + 1 : Nat) : Int) := by
          unfold IntKind.wrap
          simp [IntKind.bits, IntKind.signed]
          omega
        have f51 : wr.frozen? ⟨g, 51, none⟩ = false := HJ.out.blk.frozen 51
        have hlc : l + 1 ≤ cp := by omega
        have hlr : r.length + 1 = l + 1 := by omega
        rw [hlr] at HD
        clear hlr hla
        go_wp2_with (go_at_call 49; refine CB.out.mono ?_; rintro e w' ⟨rfl, rfl⟩)
        go_end0
        exact ⟨rfl, HD.out⟩

end Go.Proofs.YtcoelmhlkfignaaDoor
/-
  What the walk over groups keeps, for its walk in memory: plain mathematics.
-/
namespace Go.Proofs.YtcoelmhlkfignaaDoor
open Go.RowKit

theorem apart_cnt {n : Nat} : ∀ (l : List Nat) (m : Nat), l.Pairwise Apart → (∀ g ∈ l, ∃ q, has g q) → (∀ g ∈ l, ∀ q, has g q → q < n) → (∀ g ∈ l, Apart m g) → l.length ≤ cntU n m
  | [], m, _, _, _, _ => Nat.zero_le _
  | a :: l, m, h1, h2, h3, h4 => by
    rw [List.pairwise_cons] at h1
    obtain ⟨q, hq⟩ := h2 a (List.mem_cons_self ..)
    have hlt := cntU_less (n := n) (v := q) (a := m) (b := m ||| a) (fun x hx => has_or.2 (.inl hx)) (h3 a (List.mem_cons_self ..) q hq) (fun hm => h4 a (List.mem_cons_self ..) q hm hq) (has_or.2 (.inr hq))
    have ih := apart_cnt l (m ||| a) h1.2 (fun g hg => h2 g (List.mem_cons_of_mem _ hg)) (fun g hg => h3 g (List.mem_cons_of_mem _ hg)) (fun g hg x hx hgx => (has_or.1 hx).elim (fun h => h4 g (List.mem_cons_of_mem _ hg) x h hgx) fun h => h1.1 g hg x h hgx)
    simp only [List.length_cons]
    omega
theorem cntU_le (n m : Nat) : cntU n m ≤ n := by
  unfold cntU
  exact Nat.le_trans (List.length_filter_le _ _) (by simp)
section
variable {ask : Nat → Nat} {n v tq : Nat} {s S : GW} {X : List Nat}
theorem Inv.stkN (h : Inv ask n s) : s.stk.length ≤ n :=
  Nat.le_trans (apart_cnt s.stk s.done h.apart h.some (fun g hg q hq => h.lim q ((h.sub q).2 (.inr ⟨g, hg, hq⟩))) h.off) (cntU_le _ _)
theorem Inv.groupsN (h : Inv ask n s) : s.groups.length ≤ n :=
  Nat.le_trans (apart_cnt s.groups 0 h.apartG (fun g hg => (h.own g hg).1) (fun g hg q hq => h.lim q ((h.sub q).2 (.inl ((h.told q).2 ⟨g, hg, hq⟩)))) (fun _ _ x hx _ => not_has_zero x hx)) (cntU_le _ _)
theorem Mid.lead (h : Mid ask n v s S X) (hto : has (ask v) tq) : ∀ g ∈ S.stk, ∀ u, has g u → Rch ask u tq := by
  obtain ⟨t, pre, rest, e1, e2, e3, e4, e5⟩ := h.stk
  exact fun g hg u hu => (h.inv.toStk.up e2 hg u v hu e3).rch (.one hto)
theorem Mid.top (h : Mid ask n v s S X) (hl : s.stk.length < S.stk.length) : ∃ t, S.stk = t :: s.stk := by
  obtain ⟨t, pre, rest, e1, e2, e3, e4, e5⟩ := h.stk
  cases pre with
  | nil => exact ⟨t, by rw [e2, e1]; rfl⟩
  | cons a pre =>
    rw [e1, e2] at hl
    simp at hl
    omega
end
theorem lim24 {n x : Nat} (h : n ≤ 24) (hx : ∀ q, has x q → q < n) : x < 16777216 := by
  apply Nat.lt_of_not_le
  intro hge
  obtain ⟨i, hi, hb⟩ := Nat.exists_ge_and_testBit_of_ge_two_pow (n := 24) (by simpa using hge)
  have := hx i hb
  omega
theorem pow24 {v : Nat} (hv : v < 24) : (2 : Nat) ^ v < 16777216 := by
  have : (2 : Nat) ^ v < 2 ^ 24 := Nat.pow_lt_pow_right (by decide) hv
  simpa using this
theorem askF_limit {Y N : List Nat} (h : AskLim Y N) (hy : Y.length = 24) (hn : N.length = 24) (p : Nat) : askF Y N p < 16777216 := by
  unfold askF
  by_cases hp : p < 24
  · exact or24 (h.y p hp) (h.n p hp)
  · rw [List.getD_eq_getElem?_getD, List.getD_eq_getElem?_getD, List.getElem?_eq_none (by omega), List.getElem?_eq_none (by omega)]
    decide

theorem Tab.keeps {w w' : World} {g : Nat} {Ap Ag Ap' Ag' : Option Addr} (h : Tab w) (hg : 1 < g) (k : Keeps g w Ap Ag w' Ap' Ag') : Tab w' :=
  ⟨fun j hj => (k.below.cell (p := ⟨1, j, none⟩) hg).trans (h.1 j hj), Nat.lt_of_lt_of_le h.2 k.below.size⟩
theorem GWAt.drew {w : World} {g : Nat} {Y N : List Nat} {n : Nat} {s : GW} {Ap Ag : Option Addr} {cp cg : Nat} (h : GWAt w g Y N n s Ap cp Ag cg) : GWAt w.drew g Y N n s Ap cp Ag cg := h.on (Below.refl _ _).drew
theorem Keeps.drew {w w1 : World} {g : Nat} {Ap Ag Ap1 Ag1 : Option Addr} (h : Keeps g w Ap Ag w1 Ap1 Ag1) : Keeps g w Ap Ag w1.drew Ap1 Ag1 := ⟨h.below.drew, h.keep, h.pa, h.ga⟩

end Go.Proofs.YtcoelmhlkfignaaDoor
/-
  The walk of visit.
-/
namespace Go.Proofs.YtcoelmhlkfignaaDoor
open Go.RowKit

set_option maxHeartbeats 4000000 in
set_option maxRecDepth 100000 in
theorem visit_any (g n : Nat) (Y N : List Nat) (hn : n ≤ 24) (hask : ∀ u x, has (askF Y N u) x → x < n) (hA : AskLim Y N) (hG : 1 < g) : ∀ (f v : Nat) (s : GW) (Ap : Option Addr) (cp : Nat) (Ag : Option Addr) (cg : Nat) (w : World), GWAt w g Y N n s Ap cp Ag cg → Inv (askF Y N) n s → v < n → ¬ has s.met v → (∀ x ∈ s.stk, ∀ u, has x u → Rch (askF Y N) u v) → cntU n s.met ≤ f → Tab w →
    Calls Tryd.prog 50 #[.pointer (some ⟨g, 0, none⟩), .int .i64 v] w fun e w' => e = .returned (.tuple #[]) ∧ ∃ Ap' cp' Ag' cg', GWAt w' g Y N n (visitF (askF Y N) f v s) Ap' cp' Ag' cg' ∧ Keeps g w Ap Ag w' Ap' Ag' := by
  intro f
  induction f with
  | zero =>
    intro v s Ap cp Ag cg w h hi hv hm hl hc hT
    have := cntU_less (n := n) (v := v) (a := s.met) (b := s.met ||| 2 ^ v) (fun q hq => has_or.2 (.inl hq)) hv hm (has_or.2 (.inr (has_pow.2 rfl)))
    omega
  | succ f ih =>
  intro v s Ap cp Ag cg w h hi hv hm hl hc hT
  obtain ⟨i0, hi0, hz0, hz1, hz2⟩ := info_parts Tryd.infoUint
  have IH := Lib.hid ih
  have HI := Lib.hid hi
  have HMV := Lib.hid hm
  have HL := Lib.hid hl
  have HC := Lib.hid hc
  have HT := Lib.hid hT
  have HA := Lib.hid hA
  have HASK := Lib.hid hask
  have HGT := Lib.hid hG
  have hv24 : v < 24 := by omega
  have hgl := h.lt
  have HB0 := Lib.hid (Mid.begin hi hv hm hl)
  have hlen : s.stk.length < 24 := by
    have := HB0.out.inv.stkN
    have e : (beginF v s).stk.length = s.stk.length + 1 := rfl
    omega
  obtain ⟨n0, hn0⟩ : ∃ n0, n0 = s.stk.length := ⟨_, rfl⟩
  have HN := Lib.hid hn0
  rw [← hn0] at hlen
  obtain ⟨m1, hm1⟩ : ∃ m1, m1 = s.met ||| 2 ^ v := ⟨_, rfl⟩
  have hpv := pow24 hv24
  have hmet := h.lim.met
  have hm24 : m1 < 16777216 := by rw [hm1]; exact or24 hmet hpv
  have hcast : ((2 : Int) ^ v) = ((2 ^ v : Nat) : Int) := by simp
  have hor : bits .or .u64 (s.met : Int) ((2 : Int) ^ v) = (m1 : Int) := by
    rw [hm1, hcast]
    exact u64_or_nat _ _ (by omega) (by omega)
  have hwv : IntKind.u64.wrap ((2 : Int) ^ v) = (2 : Int) ^ v := by
    rw [hcast]
    generalize (2 ^ v : Nat) = z at hpv
    unfold IntKind.wrap
    simp [IntKind.bits, IntKind.signed]
    omega
  have HM1 := Lib.hid hm1
  obtain ⟨x0, hx0⟩ : ∃ x0, x0 = s.met := ⟨_, rfl⟩
  rw [← hx0] at hor
  have k49 : w.cell? ⟨g, 49, none⟩ = some (.int .u64 ((x0 : Nat) : Int)) := by rw [hx0]; exact h.cellMet
  have f49 : w.drew.frozen? ⟨g, 49, none⟩ = false := h.blk.frozen 49
  have HW := Lib.hid h
  clear h hi hm hl hc hT hA hask hG hm1 hx0 hn0 ih hmet hcast
  go_enter Tryd.func50, Tryd.ntmps50
  go_upto_region 0 with fail
  obtain ⟨SS, hSS⟩ : ∃ SS : World → Prop, SS = (fun W => W.cell? ⟨g, 49, none⟩ = some (.int .u64 ((x0 : Nat) : Int))) := ⟨_, rfl⟩
  have HB := Lib.hid (show ∀ W, SS W → W.cell? ⟨g, 49, none⟩ = some (.int .u64 ((x0 : Nat) : Int)) from by rw [hSS]; exact fun W hW => hW)
  have SB : SS w.drew := by rw [hSS]; exact k49
  have d49 : w.drew.cell? ⟨g, 49, none⟩ = some (.int .u64 ((x0 : Nat) : Int)) := k49
  clear hSS
  refine wp_region_rel SS 9 10 (by kernel_rfl) rfl ?_
  refine wpAnyR_pure (i := 0) (oi := _) ?va0 rfl rfl (by kernel_rfl) (by decide) (fun _ _ _ h => h) rfl ?hya0 (fun _ => SB) ?resta0
  case hya0 => (intro W; go_simp; (try with_reducible rfl))
  try simp only [List.setIfInBounds_toArray, List.set_cons_zero, List.set_cons_succ]
  refine wpAnyR_pure (i := 1) (oi := _) ?va1 rfl rfl (by kernel_rfl) (by decide) (fun _ _ _ h => h) rfl ?hya1 (fun _ => SB) ?resta1
  case hya1 => (intro W; go_simp; (try with_reducible rfl))
  try simp only [List.setIfInBounds_toArray, List.set_cons_zero, List.set_cons_succ]
  refine wpAnyR_pure (i := 2) (oi := _) ?va2 rfl rfl (by kernel_rfl) (by decide) (fun _ _ _ h => h) rfl ?hya2 (fun _ => SB) ?resta2
  case hya2 => (intro W; go_simp; (try with_reducible rfl))
  try simp only [List.setIfInBounds_toArray, List.set_cons_zero, List.set_cons_succ]
  refine wpAnyR_pure (i := 4) (oi := _) ?va4 rfl rfl (by kernel_rfl) (by decide) (fun _ _ _ h => h) rfl ?hya4 (fun _ => SB) ?resta4
  case hya4 => (intro W; go_simp; (try with_reducible rfl))
  try simp only [List.setIfInBounds_toArray, List.set_cons_zero, List.set_cons_succ]
  refine wpAnyR_pure (i := 5) (oi := _) ?va5 rfl rfl (by kernel_rfl) (by decide) (fun _ _ _ h => h) rfl ?hya5 (fun _ => SB) ?resta5
  case hya5 => (intro W; go_simp; (try with_reducible rfl))
  try simp only [List.setIfInBounds_toArray, List.set_cons_zero, List.set_cons_succ]
  refine wpAnyR_take (i := 3) (oi := _) ?va3 rfl rfl (by kernel_rfl) (fun _ _ _ h => h) rfl ?hya3 SB ?resta3
  case hya3 => (intro W hW; obtain E0 := HB.out W hW; go_simp; (try with_reducible rfl))
  try simp only [List.setIfInBounds_toArray, List.set_cons_zero, List.set_cons_succ]
  refine wpAnyR_pure (i := 6) (oi := _) (.int .u64 (m1 : Int)) rfl rfl (by kernel_rfl) (by decide) (fun _ _ _ h => h) rfl ?hya6 (fun _ => SB) ?resta6
  case hya6 => (intro W; go_simp; (try simp))
  try simp only [List.setIfInBounds_toArray, List.set_cons_zero, List.set_cons_succ]
  refine wpAnyR_pure (i := 7) (oi := _) ?va7 rfl rfl (by kernel_rfl) (by decide) (fun _ _ _ h => h) rfl ?hya7 (fun _ => SB) ?resta7
  case hya7 => (intro W; go_simp; (try with_reducible rfl))
  try simp only [List.setIfInBounds_toArray, List.set_cons_zero, List.set_cons_succ]
  refine wpAnyR_pure (i := 8) (oi := _) ?va8 rfl rfl (by kernel_rfl) (by decide) (fun _ _ _ h => h) rfl ?hya8 (fun _ => SB) ?resta8
  case hya8 => (intro W; go_simp; (try with_reducible rfl))
  try simp only [List.setIfInBounds_toArray, List.set_cons_zero, List.set_cons_succ]
  refine wpAnyR_one (i := 9) (by kernel_rfl) rfl (fun K hK => ?_)
  go_simp
  refine hK.out _ _ (fun hf => absurd hf (by decide)) ?_
  clear hK K
  refine wpAnyR_done (by kernel_rfl) ?_
  obtain ⟨w1, hw1⟩ : ∃ w1, w1 = (w.setCell ⟨g, 49, none⟩ (.int .u64 (m1 : Int))).drew := ⟨_, rfl⟩
  have H1 := Lib.hid (show GWAt w1 g Y N n { s with met := m1 } Ap cp Ag cg ∧ Keeps g w Ap Ag w1 Ap Ag from by
    rw [hw1]
    exact ⟨(HW.out.setMet hm24).drew, ((Keeps.refl g w Ap Ag).setG _ _).drew⟩)
  rw [← hw1]
  clear hw1
  have hg1 : g < w1.heap.size := H1.out.1.lt
  have k51 : w1.cell? ⟨g, 51, none⟩ = some (.slice Ap n0 cp) := by rw [HN.out]; exact H1.out.1.cellPath
  go_upto_region 2 with fail
  have HR1 := Lib.hid (show w1.drew.ownsRow (g + 1) 55 1 (.slice Ap n0 cp) n0 (s.stk.reverse.map wd64) from by rw [HN.out]; exact H1.out.1.drew.path)
  have HG1 := Lib.hid H1.out.1.drew
  have d51 : w1.drew.cell? ⟨g, 51, none⟩ = some (.slice Ap n0 cp) := k51
  obtain ⟨SS, hSS⟩ : ∃ SS : World → Prop, SS = (fun W => W.cell? ⟨g, 51, none⟩ = some (.slice Ap n0 cp)) := ⟨_, rfl⟩
  have HB := Lib.hid (show ∀ W, SS W → W.cell? ⟨g, 51, none⟩ = some (.slice Ap n0 cp) from by rw [hSS]; exact fun W hW => hW)
  have HCC := Lib.hid (show ∀ W, W.cell? ⟨g, 51, none⟩ = some (.slice Ap n0 cp) → SS W from by rw [hSS]; exact fun W hW => hW)
  have SB : SS w1.drew := HCC.out _ d51
  clear hSS
  refine wp_region_rel SS 11 12 (by kernel_rfl) rfl ?_
  refine wpAnyR_pure (i := 0) (oi := _) ?vb0 rfl rfl (by kernel_rfl) (by decide) (fun _ _ _ h => h) rfl ?hyb0 (fun _ => SB) ?restb0
  case hyb0 => (intro W; go_simp; (try with_reducible rfl))
  try simp only [List.setIfInBounds_toArray, List.set_cons_zero, List.set_cons_succ]
  refine wpAnyR_pure (i := 1) (oi := _) ?vb1 rfl rfl (by kernel_rfl) (by decide) (fun _ _ _ h => h) rfl ?hyb1 (fun _ => SB) ?restb1
  case hyb1 => (intro W; go_simp; (try with_reducible rfl))
  try simp only [List.setIfInBounds_toArray, List.set_cons_zero, List.set_cons_succ]
  refine wpAnyR_pure (i := 2) (oi := _) ?vb2 rfl rfl (by kernel_rfl) (by decide) (fun _ _ _ h => h) rfl ?hyb2 (fun _ => SB) ?restb2
  case hyb2 => (intro W; go_simp; (try with_reducible rfl))
  try simp only [List.setIfInBounds_toArray, List.set_cons_zero, List.set_cons_succ]
  refine wpAnyR_pure (i := 3) (oi := _) ?vb3 rfl rfl (by kernel_rfl) (by decide) (fun _ _ _ h => h) rfl ?hyb3 (fun _ => SB) ?restb3
  case hyb3 => (intro W; go_simp; (try with_reducible rfl))
  try simp only [List.setIfInBounds_toArray, List.set_cons_zero, List.set_cons_succ]
  refine wpAnyR_take (i := 4) (oi := _) ?vb4 rfl rfl (by kernel_rfl) (fun _ _ _ h => h) rfl ?hyb4 SB ?restb4
  case hyb4 => (intro W hW; obtain E0 := HB.out W hW; go_simp; (try with_reducible rfl))
  try simp only [List.setIfInBounds_toArray, List.set_cons_zero, List.set_cons_succ]
  refine wpAnyR_pure (i := 5) (oi := _) ?vb5 rfl rfl (by kernel_rfl) (by decide) (fun _ _ _ h => h) rfl ?hyb5 (fun _ => SB) ?restb5
  case hyb5 => (intro W; go_simp; (try with_reducible rfl))
  try simp only [List.setIfInBounds_toArray, List.set_cons_zero, List.set_cons_succ]
  refine wpAnyR_pure (i := 6) (oi := _) (.int .u64 ((2 ^ v : Nat) : Int)) rfl rfl (by kernel_rfl) (by decide) (fun _ _ _ h => h) rfl ?hyb6 (fun _ => SB) ?restb6
  case hyb6 => (intro W; go_simp; (try simp))
  try simp only [List.setIfInBounds_toArray, List.set_cons_zero, List.set_cons_succ]
  refine wpAnyR_one (i := 7) (by kernel_rfl) rfl (fun K hK => ?_)
  try rw [if_pos (show Region.wanted _ _ = true from rfl)]
  go_simp
  have k7 := (HG1.out.on (below1 w1.drew (Obj.cells #[Value.int .u64 ((2 ^ v : Nat) : Int)] 55))).cellPath
  rw [show ({ s with met := m1 } : GW).stk.length = n0 from HN.out.symm] at k7
  have S7 : SS _ := HCC.out _ k7
  refine hK.out _ _ (fun _ => S7) ?_
  clear hK K
  try simp only [List.setIfInBounds_toArray, List.set_cons_zero, List.set_cons_succ, Act.put]
  refine wpAnyR_one (i := 8) (by kernel_rfl) rfl (fun K hK => ?_)
  refine step_append_lies _ rfl (.tmp 25) (.tmp 28) 59 rfl (g + 1) 55 i0 (.int .u64 0) 1 8 Tryd.underlying59 hi0 hz0 hz1 hz2 rfl (by decide) (.slice Ap n0 cp) n0 (s.stk.reverse.map wd64) rfl ?c1 ⟨w1.heap.size, 0, none⟩ 1 1 [.int .u64 ((2 ^ v : Nat) : Int)] rfl rfl ?c4 ?c2 (by omega) (by unfold maxLen; omega) (by omega) ?c3 _ rfl ?c5
  case c1 => exact HR1.out.alloc _
  case c4 => exact cell_one_new _ _ _
  case c2 => intro u hu; simp at hu; subst hu; rfl
  case c3 => simp; omega
  case c5 =>
  intro g2 cap w5 hown hgr hat _
  have hkg := (HG1.out.keptP (by rw [show ({ s with met := m1 } : GW).stk.length = n0 from HN.out.symm]; exact hgr)).1 g (Nat.lt_succ_self _)
  have c51 : w5.cell? ⟨g, 51, none⟩ = some (.slice Ap n0 cp) := by rw [← d51]; simp [World.cell?, hkg]
  have f51 : w5.frozen? ⟨g, 51, none⟩ = false := by
    have := HG1.out.blk.frozen 51
    rw [← this]
    simp [World.frozen?, hkg]
  have HPG := Lib.hid (fun W (hW : W = w5.setCell ⟨g, 51, none⟩ (.slice (some ⟨g2, 0, none⟩) (n0 + 1) cap)) => HG1.out.pushPath (x := 2 ^ v) hpv (by rw [show ({ s with met := m1 } : GW).stk.length = n0 from HN.out.symm]; exact hlen) (by rw [show ({ s with met := m1 } : GW).stk.length = n0 from HN.out.symm]; exact hgr) (by rw [show ({ s with met := m1 } : GW).stk.length = n0 from HN.out.symm]; simpa using hat) (by rw [show ({ s with met := m1 } : GW).stk.length = n0 from HN.out.symm]; exact hown) (w' := W) (by rw [show ({ s with met := m1 } : GW).stk.length = n0 from HN.out.symm]; exact hW))
  have S5 : SS w5 := HCC.out _ c51
  clear hown hgr hat hkg
  refine hK.out _ _ (fun _ => S5) ?_
  clear hK K
  try simp only [List.setIfInBounds_toArray, List.set_cons_zero, List.set_cons_succ, Act.put]
  refine wpAnyR_pure (i := 9) (oi := _) ?vb9 rfl rfl (by kernel_rfl) (by decide) (fun _ _ _ h => h) rfl ?hyb9 (fun _ => S5) ?restb9
  case hyb9 => (intro W; go_simp; (try with_reducible rfl))
  try simp only [List.setIfInBounds_toArray, List.set_cons_zero, List.set_cons_succ]
  refine wpAnyR_pure (i := 10) (oi := _) ?vb10 rfl rfl (by kernel_rfl) (by decide) (fun _ _ _ h => h) rfl ?hyb10 (fun _ => S5) ?restb10
  case hyb10 => (intro W; go_simp; (try with_reducible rfl))
  try simp only [List.setIfInBounds_toArray, List.set_cons_zero, List.set_cons_succ]
  refine wpAnyR_one (i := 11) (by kernel_rfl) rfl (fun K hK => ?_)
  go_simp
  refine hK.out _ _ (fun hf => absurd hf (by decide)) ?_
  clear hK K
  refine wpAnyR_done (by kernel_rfl) ?_
  obtain ⟨w3, hw3⟩ : ∃ w3, w3 = w5.setCell ⟨g, 51, none⟩ (.slice (some ⟨g2, 0, none⟩) (n0 + 1) cap) := ⟨_, rfl⟩
  have H3 := Lib.hid (show GWAt w3 g Y N n (beginF v s) (some ⟨g2, 0, none⟩) cap Ag cg ∧ Keeps g w Ap Ag w3 (some ⟨g2, 0, none⟩) Ag from by
    obtain ⟨q1, q2⟩ := HPG.out w3 hw3
    refine ⟨?_, H1.out.2.drew.trans q2⟩
    have e : beginF v s = { { s with met := m1 } with stk := 2 ^ v :: s.stk } := by rw [HM1.out]; rfl
    rw [e]
    exact q1)
  rw [← hw3]
  clear hw3 c51 f51 S5 d51 k51
  have hg3 : g < w3.heap.size := H3.out.1.lt
  have HT3 := Lib.hid (HT.out.keeps HGT.out H3.out.2)
  obtain ⟨u, hu⟩ : ∃ u, u = askF Y N v := ⟨_, rfl⟩
  have hu24 : u < 16777216 := by rw [hu]; exact askF_limit HA.out HW.out.len.y HW.out.len.n v
  have CA := Lib.hid (askAll_at g v (Y.getD v 0) (N.getD v 0) w3 (H3.out.1.cellYes hv24) (H3.out.1.cellNo hv24) hv24 (by have := HA.out.y v hv24; omega) (by have := HA.out.n v hv24; omega))
  rw [show Y.getD v 0 ||| N.getD v 0 = u from hu.symm] at CA
  unfold wd64 at CA
  obtain ⟨ts, hts⟩ : ∃ ts, ts = bitsOf u := ⟨_, rfl⟩
  obtain ⟨B, hB⟩ : ∃ B, B = bitsN u := ⟨_, rfl⟩
  have HTS := Lib.hid (show ts = B.map fun j : Nat => (j : Int) by rw [hts, hB]; rfl)
  have HTL := Lib.hid (show ts.length = B.length by rw [HTS.out]; simp)
  have htl : ts.length ≤ 64 := by rw [hts]; exact bitsOf_length _
  have HB24 := Lib.hid (show ∀ p ∈ B, p < 24 from fun p hp => bitsN_lt hu24 (by rw [← hB]; exact hp))
  have HBA := Lib.hid (show ∀ p ∈ B, has (askF Y N v) p from fun p hp => by rw [hB, hu] at hp; exact (bitsN_mem.1 hp).2)
  have HBE := Lib.hid (show B = bitsN (askF Y N v) by rw [hB, hu])
  have CB := Lib.hid (fun W (hW : Below w3.heap.size w3 W) => bitNumbers_any u (by omega) W (HT3.out.below hW))
  rw [← hts] at CB
  clear hts hB hu
  go_wp2_with (first | (go_at_call 66; refine CA.out.mono ?_; rintro e w4 ⟨rfl, b4⟩; have B4 := Lib.hid b4; clear b4) | (go_at_call 32; refine (CB.out _ B4.out).mono ?_; rintro e w6 ⟨A6, c6, rfl, o6, b6⟩; have HO6 := Lib.hid o6; have B6 := Lib.hid (bthen B4.out b6); clear o6 b6))
  have H6 := Lib.hid (show GWAt w6 g Y N n (beginF v s) (some ⟨g2, 0, none⟩) cap Ag cg ∧ Keeps g w Ap Ag w6 (some ⟨g2, 0, none⟩) Ag from ⟨H3.out.1.on B6.out, H3.out.2.trans (Keeps.of_below B6.out (Nat.le_of_lt hg3))⟩)
  have HT6 := Lib.hid (HT3.out.below B6.out)
  go_loopw [39] (fun i wr => ∃ (k : Nat) (S : GW) (Ar : Option Addr) (cr : Nat) (Gr : Option Addr) (dr : Nat), k ≤ ts.length ∧ i = .int .i64 k ∧ S = (B.take k).foldl (stepF (visitF (askF Y N) f)) (beginF v s) ∧ GWAt wr g Y N n S Ar cr Gr dr ∧ Keeps g w6 (some ⟨g2, 0, none⟩) Ag wr Ar Gr) (fun i _ => ts.length - (intOf i).toNat)
  case atStart => exact ⟨0, beginF v s, _, _, _, _, Nat.zero_le _, rfl, rfl, H6.out.1, Keeps.refl _ _ _ _⟩
  case round =>
    obtain ⟨k, S, Ar, cr, Gr, dr, hk, rfl, hS, hgw, hkw⟩ := hrel
    have HGW := Lib.hid hgw
    have HKW := Lib.hid hkw
    have HS := Lib.hid hS
    have HMID := Lib.hid (show Mid (askF Y N) n v s S ((B.take k).reverse ++ []) from by
      rw [hS]
      exact Mid.fold HASK.out (fun tq s2 => visit_post hn HASK.out f tq s2) hv HMV.out HC.out _ _ _ (fun x hx => HBA.out x (List.mem_of_mem_take hx)) HB0.out)
    have HTR := Lib.hid (HT6.out.keeps HGT.out hkw)
    have hgr : g < wr.heap.size := hgw.lt
    clear hS hgw hkw
    by_cases hlt : k < ts.length
    · have hkB : k < B.length := by rw [← HTL.out]; exact hlt
      have HOW := Lib.hid (HO6.out.kept fun b hb => HKW.out.keep b (HO6.out.lt hb).2.2 (fun e => by have := (HO6.out.lt hb).1; have := B4.out.size; omega) (fun e => by
        have h1 := (HO6.out.lt hb).1
        have h2 := (H3.out.1.path.lt b (by rw [bl_own]; exact e)).2
        have := B4.out.size
        omega) (fun e => by
        have h1 := (HO6.out.lt hb).1
        have h2 := (H3.out.1.groups.lt b (by rw [bl_own]; exact e)).2
        have := B4.out.size
        omega))
      obtain ⟨bb, oo, e0, hbb, k0⟩ := HOW.out.rd.at_ hlt
      subst e0
      obtain ⟨p, hp⟩ : ∃ p, p = B[k] := ⟨_, rfl⟩
      have hpk : ts[k] = (p : Int) := by rw [hp]; simp [HTS.out]
      rw [hpk] at k0
      have HP := Lib.hid hp
      have hp24 : p < 24 := by rw [hp]; exact HB24.out _ (List.getElem_mem hkB)
      have HPA := Lib.hid (show has (askF Y N v) p by rw [hp]; exact HBA.out _ (List.getElem_mem hkB))
      have HNX := Lib.hid (show (B.take (k + 1)).foldl (stepF (visitF (askF Y N) f)) (beginF v s) = stepF (visitF (askF Y N) f) S p from by
        rw [take_snoc B k hkB, List.foldl_append, ← HS.out, ← hp]
        rfl)
      obtain ⟨x0', hx0'⟩ : ∃ x, x = S.met := ⟨_, rfl⟩
      obtain ⟨y0, hy0⟩ : ∃ y, y = S.done := ⟨_, rfl⟩
      have hx24 : x0' < 16777216 := by rw [hx0']; exact HGW.out.lim.met
      have hy24 : y0 < 16777216 := by rw [hy0]; exact HGW.out.lim.done
      have k49 : wr.cell? ⟨g, 49, none⟩ = some (.int .u64 ((x0' : Nat) : Int)) := by rw [hx0']; exact HGW.out.cellMet
      have k50 : wr.cell? ⟨g, 50, none⟩ = some (.int .u64 ((y0 : Nat) : Int)) := by rw [hy0]; exact HGW.out.cellDone
      obtain ⟨b1, hb1⟩ : ∃ b, b = x0'.testBit p := ⟨_, rfl⟩
      obtain ⟨b2, hb2⟩ : ∃ b, b = y0.testBit p := ⟨_, rfl⟩
      have C1 := Lib.hid ((hasBit_any x0' p (by omega) (by omega) wr).mono fun e w' (hh : e = .returned (.bool (x0'.testBit p)) ∧ wr = w') => (⟨by rw [hh.1, hb1], hh.2⟩ : e = .returned (.bool b1) ∧ wr = w'))
      have C2 := Lib.hid ((hasBit_any y0 p (by omega) (by omega) wr).mono fun e w' (hh : e = .returned (.bool (y0.testBit p)) ∧ wr = w') => (⟨by rw [hh.1, hb2], hh.2⟩ : e = .returned (.bool b2) ∧ wr = w'))
      have HB1 := Lib.hid (show b1 = S.met.testBit p by rw [hb1, hx0'])
      have HB2 := Lib.hid (show b2 = S.done.testBit p by rw [hb2, hy0])
      clear hp hpk hx0' hy0 hb1 hb2
      cases b1
      · have hnm : ¬ has S.met p := by unfold has; rw [← HB1.out]; exact Bool.false_ne_true
        have CV := Lib.hid (IH.out p S Ar cr Gr dr wr HGW.out HMID.out.inv (HASK.out v p HPA.out) hnm (HMID.out.lead HPA.out) (by have := cntU_less HMID.out.met hv HMV.out HMID.out.me; have := HC.out; omega) HTR.out)
        have HNM := Lib.hid hnm
        clear hnm
        go_wp2_with (first | (go_at_call 49; refine C1.out.mono ?_; rintro e w' ⟨rfl, rfl⟩) | (go_at_call 50; refine CV.out.mono ?_; rintro e w7 ⟨rfl, A7, c7, G7, d7, g7, n7⟩; have H7 := Lib.hid (And.intro g7 n7); clear g7 n7))
        go_roundw
        case rel =>
          refine ⟨k + 1, stepF (visitF (askF Y N) f) S p, A7, c7, G7, d7, by omega, by go_num, HNX.out.symm, ?_, HKW.out.trans H7.out.2⟩
          unfold stepF
          rw [if_neg (by rw [← HB1.out]; exact Bool.false_ne_true)]
          exact H7.out.1
        case measure => simp [intOf]; omega
      · go_upto_region 8 with (go_at_call 49; refine C1.out.mono ?_; rintro e w' ⟨rfl, rfl⟩)
        cases b2
        · have hst : ∃ x ∈ S.stk, has x p := by
            rcases (HMID.out.inv.sub p).1 HB1.out.symm with h1 | h1
            · exact absurd h1 (by unfold has; rw [← HB2.out]; exact Bool.false_ne_true)
            · exact h1
          have CJ := Lib.hid (joinBack_any g n p Y N S Ar cr Gr dr wr HGW.out hst hp24)
          clear hst
          go_wp2_with (first | (go_at_call 49; refine C2.out.mono ?_; rintro e w' ⟨rfl, rfl⟩) | (go_at_call 67; refine CJ.out.mono ?_; rintro e w7 ⟨rfl, g7, n7⟩; have H7 := Lib.hid (And.intro g7 n7); clear g7 n7))
          go_roundw
          case rel =>
            refine ⟨k + 1, stepF (visitF (askF Y N) f) S p, Ar, cr, Gr, dr, by omega, by go_num, HNX.out.symm, ?_, HKW.out.trans H7.out.2⟩
            unfold stepF
            rw [if_pos HB1.out.symm, if_neg (by rw [← HB2.out]; exact Bool.false_ne_true)]
            exact H7.out.1
          case measure => simp [intOf]; omega
        · go_wp2_with (go_at_call 49; refine C2.out.mono ?_; rintro e w' ⟨rfl, rfl⟩)
          go_roundw
          case rel =>
            refine ⟨k + 1, stepF (visitF (askF Y N) f) S p, Ar, cr, Gr, dr, by omega, by go_num, HNX.out.symm, ?_, HKW.out⟩
            unfold stepF
            rw [if_pos HB1.out.symm, if_pos HB2.out.symm]
            exact HGW.out
          case measure => simp [intOf]; omega
    · have HSA := Lib.hid (show S = B.foldl (stepF (visitF (askF Y N) f)) (beginF v s) by
        rw [HS.out, show k = B.length by have := HTL.out; omega, List.take_length])
      have HVF := Lib.hid (show visitF (askF Y N) (f + 1) v s = leaveF (askF Y N) s.stk.length S from by
        rw [HSA.out, HBE.out]
        rfl)
      have HPOST := Lib.hid (visit_post hn HASK.out (f + 1) v s HI.out hv HMV.out HL.out HC.out)
      have HKA := Lib.hid (H6.out.2.trans HKW.out)
      obtain ⟨m0, hm0⟩ : ∃ m, m = S.stk.length := ⟨_, rfl⟩
      have k51 : wr.cell? ⟨g, 51, none⟩ = some (.slice Ar m0 cr) := by rw [hm0]; exact HGW.out.cellPath
      have HM0 := Lib.hid hm0
      obtain ⟨w8, rfl⟩ : ∃ w8, w8 = wr := ⟨_, rfl⟩
      by_cases hgt : n0 < m0
      · obtain ⟨t, ht⟩ := HMID.out.top (by rw [← HN.out, ← HM0.out]; exact hgt)
        have hmn : m0 = n0 + 1 := by rw [HM0.out, ht, HN.out]; rfl
        have HTP := Lib.hid ht
        have ht24 : t < 16777216 := HGW.out.lim.stk t (by rw [ht]; simp)
        have hrow : w8.ownsRow (g + 1) 55 1 (.slice Ar m0 cr) m0 ((s.stk.reverse ++ [t]).map wd64) := by
          have := HGW.out.path
          rw [← HM0.out, ht, List.reverse_cons] at this
          exact this
        obtain ⟨gp, rfl, hcr⟩ : ∃ gp, Ar = some ⟨gp, 0, none⟩ ∧ m0 ≤ cr := by
          rcases hrow.2 with ⟨_, h0⟩ | ⟨g', cap', cur, e1, hb, hg', h1, h2, h3, h4⟩
          · omega
          · injection e1 with e1 e2 e3
            exact ⟨g', e1, by subst e3; omega⟩
        have hcr2 : n0 ≤ cr := by omega
        have q1 : w8.cell? ⟨gp, n0, none⟩ = some (.int .u64 ((t : Nat) : Int)) := by
          rw [hrow.cellAt n0 (by omega), List.getElem?_map, List.getElem?_append_right (by simp; have := HN.out; omega)]
          simp [HN.out, wd64]
        have HFE := Lib.hid (show visitF (askF Y N) (f + 1) v s = { finishF (askF Y N) t S with stk := s.stk } from by
          rw [HVF.out]
          unfold leaveF
          rw [if_pos (by rw [← HN.out, ← HM0.out]; exact hgt), ht]
          rfl)
        have hgn : S.groups.length < 24 := by
          have h1 := HPOST.out.inv.groupsN
          rw [HFE.out] at h1
          have e : ({ finishF (askF Y N) t S with stk := s.stk } : GW).groups = S.groups ++ [t] := rfl
          rw [e, List.length_append, List.length_singleton] at h1
          omega
        have CF := Lib.hid (finish_any g n t Y N S (some ⟨gp, 0, none⟩) cr Gr dr w8 HGW.out ht24 hgn HA.out HTR.out)
        have hgp : gp < w8.heap.size := (hrow.lt gp rfl).2
        have HMN := Lib.hid hmn
        clear ht hrow hgn hmn hm0
        go_wp2_with (go_at_call 68; refine CF.out.mono ?_; rintro e w9 ⟨rfl, G9, d9, g9, n9⟩; have H9 := Lib.hid (And.intro g9 n9); have c51 : w9.cell? ⟨g, 51, none⟩ = some (.slice (some ⟨gp, 0, none⟩) m0 cr) := (by rw [HM0.out]; exact g9.cellPath); have f51 : w9.frozen? ⟨g, 51, none⟩ = false := g9.blk.frozen 51; clear g9 n9)
        go_end0
        have HPP := H9.out.1.popPath (r := s.stk) (t := t) (w' := w9.setCell ⟨g, 51, none⟩ (.slice (some ⟨gp, 0, none⟩) n0 cr)) HTP.out (by rw [HN.out])
        refine ⟨rfl, some ⟨gp, 0, none⟩, cr, G9, d9, ?_, (HKA.out.trans H9.out.2).trans HPP.2⟩
        rw [HFE.out]
        exact HPP.1
      · have HFE := Lib.hid (show visitF (askF Y N) (f + 1) v s = S from by
          rw [HVF.out]
          unfold leaveF
          rw [if_neg (by rw [← HN.out, ← HM0.out]; exact hgt)])
        clear hm0
        go_wp2_with (fail)
        go_end0
        refine ⟨rfl, Ar, cr, Gr, dr, ?_, HKA.out⟩
        rw [HFE.out]
        exact HGW.out

end Go.Proofs.YtcoelmhlkfignaaDoor
/-
  The walk over groups is built.
-/
namespace Go.Proofs.YtcoelmhlkfignaaDoor
open Go.RowKit

theorem fill_list : ∀ (l pre old : List Value), l.length ≤ old.length → (l.zipIdx pre.length).foldl (fun (cs : Array Value) x => cs.setIfInBounds (0 + x.2) x.1) (pre ++ old).toArray = (pre ++ l ++ old.drop l.length).toArray
  | [], pre, old, _ => by simp
  | a :: l, pre, [], h => by simp at h
  | a :: l, pre, b :: old, h => by
    rw [List.zipIdx_cons, List.foldl_cons]
    have e : (pre ++ b :: old).toArray.setIfInBounds (0 + pre.length) a = ((pre ++ [a]) ++ old).toArray := by
      simp
    show List.foldl _ ((pre ++ b :: old).toArray.setIfInBounds (0 + pre.length) a) _ = _
    rw [e]
    have ih := fill_list l (pre ++ [a]) old (by simpa using h)
    rw [List.length_append, List.length_singleton] at ih
    rw [ih]
    simp
def nilS : Value := .slice none 0 0
theorem Tryd.gwZero : (Tryd.prog.info? 61).bind (fun i => i.zero.map (·.cells)) = some (gwList zeroA zeroA 0 0 0 nilS nilS zeroA zeroA).toArray := by kernel_rfl
def gwPlaces : List (Nat × Nat) := [(0, 48), (48, 1), (49, 1), (50, 1), (51, 1), (52, 1), (53, 24), (77, 24)]
theorem Tryd.gwPlace : (match Tryd.prog.underlying 61 with | some (.struct fields) => fields.toList.mapM (fun f => (Tryd.prog.info? f.type).map fun i => (f.offset, i.size)) | _ => none) = some gwPlaces := by kernel_rfl

theorem gw_built (Y N : List Nat) (n : Nat) (hY : Y.length = 24) (hN : N.length = 24) : Tryd.prog.built 61 [(0, .agg (askCells Y N)), (1, .int .i64 (n : Int))] = some (gwList Y N n 0 0 nilS nilS zeroA zeroA).toArray := by
  have hz := Tryd.gwZero
  have hp := Tryd.gwPlace
  unfold Program.built
  cases hi : Tryd.prog.info? 61 with
  | none => rw [hi] at hz; cases hz
  | some it =>
    cases hu : Tryd.prog.underlying 61 with
    | none => rw [hu] at hp; cases hp
    | some d =>
      rw [hu] at hp
      cases d <;> try (cases hp; done)
      rename_i fields
      rw [hi] at hz
      cases hzz : it.zero with
      | none => simp [hzz] at hz
      | some z =>
        have hzc : z.cells = (gwList zeroA zeroA 0 0 0 nilS nilS zeroA zeroA).toArray := by simpa [hzz] using hz
        simp only at hp ⊢
        rw [hp, hzz]
        simp only [Instr.fill]
        have e0 : gwPlaces.toArray[0]? = some (0, 48) := rfl
        have e1 : gwPlaces.toArray[1]? = some (48, 1) := rfl
        have hsz : (askCells Y N).size = 48 := by simp [askCells, hY, hN]
        have hl : ((Y ++ N).map fun x => Value.int .u64 ((x : Nat) : Int)).length = 48 := by simp [hY, hN]
        have hfull : z.cells.size = 101 := by rw [hzc]; rfl
        have hf := fill_list ((Y ++ N).map fun x => Value.int .u64 ((x : Nat) : Int)) [] (gwList zeroA zeroA 0 0 0 nilS nilS zeroA zeroA) (by rw [hl]; decide)
        have hfa : (Value.agg (askCells Y N)).cells.zipIdx.foldl (fun (cs : Array Value) x => cs.setIfInBounds (0 + x.2) x.1) z.cells = (((Y ++ N).map fun x => Value.int .u64 ((x : Nat) : Int)) ++ (gwList zeroA zeroA 0 0 0 nilS nilS zeroA zeroA).drop 48).toArray := by
          rw [hzc]
          show (askCells Y N).zipIdx.foldl _ _ = _
          unfold askCells
          rw [hl] at hf
          simpa using hf
        have hv0 : (Value.agg (askCells Y N)).cells.size = 48 := hsz
        have hv1 : (Value.int .i64 (n : Int)).cells = #[Value.int .i64 (n : Int)] := rfl
        simp only [e0]
        rw [if_neg (by rw [hv0, hfull]; decide)]
        simp only [e1]
        rw [hfa, hv1]
        have hl2 : ((((Y ++ N).map fun x => Value.int .u64 ((x : Nat) : Int)) ++ (gwList zeroA zeroA 0 0 0 nilS nilS zeroA zeroA).drop 48).toArray).size = 101 := by
          rw [List.size_toArray, List.length_append, hl]
          rfl
        rw [if_neg (by rw [hl2, show (#[Value.int .i64 (n : Int)] : Array Value).size = 1 from rfl]; decide)]
        show some (Array.setIfInBounds _ (48 + 0) (Value.int .i64 (n : Int))) = _
        rw [List.setIfInBounds_toArray, List.set_append_right _ _ (by rw [hl]; omega), hl]
        rfl

end Go.Proofs.YtcoelmhlkfignaaDoor
/-
  The walk of walkOf.
-/
namespace Go.Proofs.YtcoelmhlkfignaaDoor
open Go.RowKit

theorem exec_build {P : Program} {o : Oper} {ev : Operand → Value} (t : TypeId) (parts : Array (Nat × Operand)) (ho : o.op = .build t parts) (cells : Array Value) (h : P.built t (parts.map fun (i, x) => (i, ev x)).toList = some cells) (w : World) : (execOp ev o).run P w = .ok (.value (.agg cells)) w := by
  unfold execOp
  simp only [ho, Sem.run_bind, run_build w t _ cells h, Result.andThen_ok]
  rfl
/-- Whom a program's predicates ask at once. -/
def askP (p : LProg) : Nat → Nat := askF (askWords 0 (asksOf p.2)) (askWords 1 (asksOf p.2))
theorem askP_lim {p : LProg} (hn : p.1.length ≤ 24) (hf : ∀ x ∈ asksOf p.2, AskFits p.1.length x) : AskLim (askWords 0 (asksOf p.2)) (askWords 1 (asksOf p.2)) :=
  ⟨fun i hi => by rw [askWords_at hi]; exact askMask_lt hn (.inl rfl) hf, fun i hi => by rw [askWords_at hi]; exact askMask_lt hn (.inr rfl) hf⟩
theorem askP_has {p : LProg} (hf : ∀ x ∈ asksOf p.2, AskFits p.1.length x) {i : Nat} (hi : i < 24) (k : Nat) : has (askP p i) k ↔ asked 0 (asksOf p.2) i k = true ∨ asked 1 (asksOf p.2) i k = true := by
  unfold askP askF
  rw [has_or, askWords_at hi, askWords_at hi, has_mask (.inl rfl) i k _ hf, has_mask (.inr rfl) i k _ hf]
theorem askP_lt {p : LProg} (hf : ∀ x ∈ asksOf p.2, AskFits p.1.length x) (u x : Nat) (h : has (askP p u) x) : x < p.1.length := by
  by_cases hu : u < 24
  · rcases (askP_has hf hu x).1 h with h | h
    · exact (asked_lt (.inl rfl) hf h).2
    · exact (asked_lt (.inr rfl) hf h).2
  · unfold askP askF at h
    rw [List.getD_eq_getElem?_getD, List.getD_eq_getElem?_getD, List.getElem?_eq_none (by rw [askWords_len]; omega), List.getElem?_eq_none (by rw [askWords_len]; omega)] at h
    exact absurd h (not_has_zero x)
theorem walkF_succ (ask : Nat → Nat) (n k : Nat) : walkF ask n (k + 1) = if (walkF ask n k).met.testBit k then walkF ask n k else visitF ask n k (walkF ask n k) := by
  unfold walkF
  rw [List.range_succ, List.foldl_append]
  rfl

set_option maxHeartbeats 4000000 in
set_option maxRecDepth 100000 in
theorem walkOf_no (v : Value) (p : LProg) (w : World) (hpo : progOk p = false) (h : RdProg w w.heap.size v p) (hs : szP p ≤ 1048576) :
    Calls Tryd.prog 31 #[v] w fun e w' => e = .returned (.tuple #[.pointer none, .bool false]) ∧ Below w.heap.size w w' := by
  have HP := Lib.hid h
  have hs' := hs
  unfold szP at hs'
  obtain ⟨a, b, rfl, hA, hR⟩ := h
  have HR := Lib.hid hR
  obtain ⟨A, c, rfl, hcA, _⟩ := hA
  obtain ⟨A2, c2, rfl, hcR, _⟩ := hR
  have HPO := Lib.hid hpo
  clear hpo
  obtain ⟨n, hn⟩ : ∃ n, n = p.1.length := ⟨_, rfl⟩
  have HNE := Lib.hid hn
  rw [← hn] at hcA ⊢
  clear hn
  go_enter Tryd.func31, Tryd.ntmps31
  go_upto_region 1 with fail
  obtain ⟨w1, hw1⟩ : ∃ w1, w1 = w.alloc (Obj.cells #[Value.slice A n c, Value.slice A2 p.2.length c2] 31) := ⟨_, rfl⟩
  have X1 : Blk w1 w.heap.size 31 #[.slice A n c, .slice A2 p.2.length c2] := by rw [hw1]; exact Blk.new _ _ _
  have B1 : Below w.heap.size w w1 := by rw [hw1]; exact below1 _ _
  rw [← hw1]
  clear hw1
  have CP := Lib.hid ((implProgramOk_any _ p w1 (HP.out.on B1) hs).mono fun e w' (hh : e = .returned (.bool (progOk p)) ∧ Below w1.heap.size w1 w') => (⟨by rw [hh.1, HPO.out], hh.2⟩ : e = .returned (.bool false) ∧ Below w1.heap.size w1 w'))
  try rw [← HNE.out] at CP
  have x0 : w1.cell? ⟨w.heap.size, 0, none⟩ = some (.slice A n c) := X1.cell 0
  have x1 : w1.cell? ⟨w.heap.size, 1, none⟩ = some (.slice A2 p.2.length c2) := X1.cell 1
  have HX1 := Lib.hid X1
  clear X1
  go_wp2_with (go_at_call 47; refine CP.out.mono ?_; rintro e w2 ⟨rfl, b2⟩; have B2 := Lib.hid (bthen B1 b2); clear b2)
  go_ret2
  exact ⟨rfl, B2.out⟩

set_option maxHeartbeats 4000000 in
set_option maxRecDepth 100000 in
theorem walkOf_yes (v : Value) (p : LProg) (w : World) (hpo : progOk p = true) (h : RdProg w w.heap.size v p) (hs : szP p ≤ 1048576) (hT : Tab w) :
    Calls Tryd.prog 31 #[v] w fun e w' => ∃ g Ap cp Ag cg, e = .returned (.tuple #[.pointer (some ⟨g, 0, none⟩), .bool true]) ∧ w.heap.size ≤ g ∧ GWAt w' g (askWords 0 (asksOf p.2)) (askWords 1 (asksOf p.2)) p.1.length (walkF (askP p) p.1.length p.1.length) Ap cp Ag cg ∧ Below w.heap.size w w' := by
  have HP := Lib.hid h
  have HT := Lib.hid hT
  have hs' := hs
  unfold szP at hs'
  obtain ⟨a, b, rfl, hA, hR⟩ := h
  have HR := Lib.hid hR
  obtain ⟨A, c, rfl, hcA, _⟩ := hA
  obtain ⟨A2, c2, rfl, hcR, _⟩ := hR
  clear hT
  have HPO := Lib.hid hpo
  obtain ⟨hn24, hfit⟩ := asksOf_fits hpo
  have HRL := Lib.hid (show ∀ r ∈ p.2, r.2.length ≤ 1048576 from fun r hr => by
    obtain ⟨k, hk, rfl⟩ := List.getElem_of_mem hr
    have := sz_le_totR p.2 k hk
    unfold szR at this
    omega)
  have CA := Lib.hid (fun W (hW : Below w.heap.size w W) => askingOf_any (.slice A2 p.2.length c2) p.2 p.1.length W (HR.out.on hW) hn24 hfit (by omega) HRL.out)
  have HLIM := Lib.hid (askP_lim hn24 hfit)
  have HASK := Lib.hid (askP_lt hfit)
  obtain ⟨Y, hY⟩ : ∃ Y, Y = askWords 0 (asksOf p.2) := ⟨_, rfl⟩
  obtain ⟨N, hN⟩ : ∃ N, N = askWords 1 (asksOf p.2) := ⟨_, rfl⟩
  have hYl : Y.length = 24 := by rw [hY]; exact askWords_len _ _
  have hNl : N.length = 24 := by rw [hN]; exact askWords_len _ _
  obtain ⟨n, hn⟩ : ∃ n, n = p.1.length := ⟨_, rfl⟩
  obtain ⟨ask, hask⟩ : ∃ ask, ask = askP p := ⟨_, rfl⟩
  have HAF := Lib.hid (show ask = askF Y N by rw [hask, hY, hN]; rfl)
  have HBU := Lib.hid (gw_built Y N n hYl hNl)
  have HNE := Lib.hid hn
  rw [← hY, ← hN] at CA HLIM ⊢
  rw [← hn] at HASK hn24 hcA ⊢
  rw [← hask] at HASK ⊢
  have HYL := Lib.hid (And.intro hYl hNl)
  clear hY hN hn hask hfit hYl hNl hpo
  go_enter Tryd.func31, Tryd.ntmps31
  go_upto_region 1 with fail
  obtain ⟨w1, hw1⟩ : ∃ w1, w1 = w.alloc (Obj.cells #[Value.slice A n c, Value.slice A2 p.2.length c2] 31) := ⟨_, rfl⟩
  have X1 : Blk w1 w.heap.size 31 #[.slice A n c, .slice A2 p.2.length c2] := by rw [hw1]; exact Blk.new _ _ _
  have B1 : Below w.heap.size w w1 := by rw [hw1]; exact below1 _ _
  rw [← hw1]
  clear hw1
  have CP := Lib.hid ((implProgramOk_any _ p w1 (HP.out.on B1) hs).mono fun e w' (hh : e = .returned (.bool (progOk p)) ∧ Below w1.heap.size w1 w') => (⟨by rw [hh.1, HPO.out], hh.2⟩ : e = .returned (.bool true) ∧ Below w1.heap.size w1 w'))
  try rw [← HNE.out] at CP
  have x0 : w1.cell? ⟨w.heap.size, 0, none⟩ = some (.slice A n c) := X1.cell 0
  have x1 : w1.cell? ⟨w.heap.size, 1, none⟩ = some (.slice A2 p.2.length c2) := X1.cell 1
  have HX1 := Lib.hid X1
  clear X1
  go_upto_region 3 with (go_at_call 47; refine CP.out.mono ?_; rintro e w2 ⟨rfl, b2⟩; have B2 := Lib.hid (bthen B1 b2); have HX2 := Lib.hid (HX1.out.below b2 HX1.out.lt); clear b2)
  have y0 : w2.drew.cell? ⟨w.heap.size, 0, none⟩ = some (.slice A n c) := HX2.out.cell 0
  have y1 : w2.drew.cell? ⟨w.heap.size, 1, none⟩ = some (.slice A2 p.2.length c2) := HX2.out.cell 1
  obtain ⟨SS, hSS⟩ : ∃ SS : World → Prop, SS = (fun W => W.cell? ⟨w.heap.size, 0, none⟩ = some (.slice A n c) ∧ W.cell? ⟨w.heap.size, 1, none⟩ = some (.slice A2 p.2.length c2)) := ⟨_, rfl⟩
  have HB := Lib.hid (show ∀ W, SS W → W.cell? ⟨w.heap.size, 0, none⟩ = some (.slice A n c) ∧ W.cell? ⟨w.heap.size, 1, none⟩ = some (.slice A2 p.2.length c2) from by rw [hSS]; exact fun W hW => hW)
  have HCC := Lib.hid (show ∀ W, W.cell? ⟨w.heap.size, 0, none⟩ = some (.slice A n c) → W.cell? ⟨w.heap.size, 1, none⟩ = some (.slice A2 p.2.length c2) → SS W from by rw [hSS]; exact fun W h1 h2 => ⟨h1, h2⟩)
  have SB : SS w2.drew := HCC.out _ y0 y1
  clear hSS
  refine wp_region_rel SS 8 9 (by kernel_rfl) rfl ?_
  refine wpAnyR_pure (i := 0) (oi := _) ?va0 rfl rfl (by kernel_rfl) (by decide) (fun _ _ _ h => h) rfl ?hya0 (fun _ => SB) ?resta0
  case hya0 => (intro W; go_simp; (try with_reducible rfl))
  try simp only [List.setIfInBounds_toArray, List.set_cons_zero, List.set_cons_succ]
  refine wpAnyR_pure (i := 3) (oi := _) ?va3 rfl rfl (by kernel_rfl) (by decide) (fun _ _ _ h => h) rfl ?hya3 (fun _ => SB) ?resta3
  case hya3 => (intro W; go_simp; (try with_reducible rfl))
  try simp only [List.setIfInBounds_toArray, List.set_cons_zero, List.set_cons_succ]
  refine wpAnyR_take (i := 1) (oi := _) ?va1 rfl rfl (by kernel_rfl) (fun _ _ _ h => h) rfl ?hya1 SB ?resta1
  case hya1 => (intro W hW; obtain ⟨E0, E1⟩ := HB.out W hW; go_simp; (try with_reducible rfl))
  try simp only [List.setIfInBounds_toArray, List.set_cons_zero, List.set_cons_succ]
  refine wpAnyR_take (i := 4) (oi := _) ?va4 rfl rfl (by kernel_rfl) (fun _ _ _ h => h) rfl ?hya4 SB ?resta4
  case hya4 => (intro W hW; obtain ⟨E0, E1⟩ := HB.out W hW; go_simp; (try with_reducible rfl))
  try simp only [List.setIfInBounds_toArray, List.set_cons_zero, List.set_cons_succ]
  refine wpAnyR_pure (i := 5) (oi := _) ?va5 rfl rfl (by kernel_rfl) (by decide) (fun _ _ _ h => h) rfl ?hya5 (fun _ => SB) ?resta5
  case hya5 => (intro W; go_simp; (try with_reducible rfl))
  try simp only [List.setIfInBounds_toArray, List.set_cons_zero, List.set_cons_succ]
  refine wpAnyR_one (i := 2) (by kernel_rfl) rfl (fun K hK => ?_)
  try rw [if_pos (show Region.wanted _ _ = true from rfl)]
  go_simp
  refine (CA.out _ B2.out.drew).mono ?_
  rintro e wn ⟨rfl, bn⟩
  have HXN := Lib.hid (Blk.below (w := w2.drew) HX2.out bn HX2.out.lt)
  have BN := Lib.hid (bthen B2.out.drew bn)
  have SN : SS wn := HCC.out _ (HXN.out.cell 0) (HXN.out.cell 1)
  clear bn
  refine hK.out _ _ (fun _ => SN) ?_
  clear hK K
  try simp only [List.setIfInBounds_toArray, List.set_cons_zero, List.set_cons_succ, Act.put]
  refine wpAnyR_pure (i := 6) (oi := _) (.agg (gwList Y N n 0 0 nilS nilS zeroA zeroA).toArray) rfl rfl (by kernel_rfl) (by decide) (fun _ _ _ h => h) rfl ?hya6 (fun _ => SN) ?resta6
  case hya6 => (intro W; refine exec_build 61 _ rfl _ ?_ W; go_simp; exact HBU.out)
  try simp only [List.setIfInBounds_toArray, List.set_cons_zero, List.set_cons_succ]
  refine wpAnyR_one (i := 7) (by kernel_rfl) rfl (fun K hK => ?_)
  try rw [if_pos (show Region.wanted _ _ = true from rfl)]
  go_simp
  have SA : SS (wn.alloc (Obj.cells (gwList Y N n 0 0 nilS nilS zeroA zeroA).toArray 61)) := HCC.out _ ((HXN.out.alloc _).cell 0) ((HXN.out.alloc _).cell 1)
  refine hK.out _ _ (fun _ => SA) ?_
  clear hK K
  try simp only [List.setIfInBounds_toArray, List.set_cons_zero, List.set_cons_succ, Act.put]
  refine wpAnyR_one (i := 8) (by kernel_rfl) rfl (fun K hK => ?_)
  go_simp
  refine hK.out _ _ (fun hf => absurd hf (by decide)) ?_
  clear hK K
  refine wpAnyR_done (by kernel_rfl) ?_
  obtain ⟨g, hg⟩ : ∃ g, g = wn.heap.size := ⟨_, rfl⟩
  obtain ⟨w3, hw3⟩ : ∃ w3, w3 = wn.alloc (Obj.cells (gwList Y N n 0 0 nilS nilS zeroA zeroA).toArray 61) := ⟨_, rfl⟩
  have HG3 := Lib.hid (show GWAt w3 g Y N n startW none 0 none 0 from by
    rw [hw3, hg]
    refine ⟨⟨HYL.out.1, HYL.out.2, by decide, by decide⟩, Blk.new _ _ _, World.ownsRow_nil _ _ _ _, World.ownsRow_nil _ _ _ _, fun b hb => (by cases hb), ⟨by decide, by decide, fun x hx => (by cases hx), fun x hx => (by cases hx), fun x hx => ?_, by decide, by decide⟩⟩
    have := List.eq_of_mem_replicate hx
    subst this
    decide)
  have B3 := Lib.hid (show Below w.heap.size w w3 by rw [hw3]; exact bthen BN.out (below1 _ _))
  have hgw : w.heap.size ≤ g := by rw [hg]; exact BN.out.size
  have hg3 : g < w3.heap.size := HG3.out.lt
  rw [← hw3, ← hg]
  have HT3 := Lib.hid (HT.out.below B3.out)
  have HGT := Lib.hid (show 1 < g from Nat.lt_of_lt_of_le HT.out.2 hgw)
  have k48 : w3.cell? ⟨g, 48, none⟩ = some (.int .i64 (n : Int)) := HG3.out.cellN
  clear hw3 hg y0 y1 SN SA SB x0 x1
  go_wp2_with (fail)
  go_loopw [21] (fun i wr => ∃ (k : Nat) (Ar : Option Addr) (cr : Nat) (Gr : Option Addr) (dr : Nat), k ≤ n ∧ i = .int .i64 k ∧ GWAt wr g Y N n (walkF ask n k) Ar cr Gr dr ∧ Below g w3 wr) (fun i _ => n - (intOf i).toNat)
  case atStart => exact ⟨0, none, 0, none, 0, Nat.zero_le _, rfl, HG3.out, Below.refl _ _⟩
  case round =>
    obtain ⟨k, Ar, cr, Gr, dr, hk, rfl, hgw3, hbe⟩ := hrel
    have HGW := Lib.hid hgw3
    have HBE := Lib.hid hbe
    have BW := Lib.hid (show Below w.heap.size w wr from B3.out.trans (hbe.mono hgw))
    obtain ⟨S, hS⟩ : ∃ S, S = walkF ask n k := ⟨_, rfl⟩
    rw [← hS] at HGW
    have HS := Lib.hid hS
    clear hgw3 hbe hS
    by_cases hlt : k < n
    · have hk24 : k < 24 := by omega
      obtain ⟨w1', w2', w3'⟩ := walk_inv hn24 HASK.out k (by omega)
      rw [← HS.out] at w1' w2'
      have HIN := Lib.hid w1'
      have HST := Lib.hid w2'
      clear w1' w2' w3'
      obtain ⟨x0', hx0'⟩ : ∃ x, x = S.met := ⟨_, rfl⟩
      have hx24 : x0' < 16777216 := by rw [hx0']; exact HGW.out.lim.met
      have k49 : wr.cell? ⟨g, 49, none⟩ = some (.int .u64 ((x0' : Nat) : Int)) := by rw [hx0']; exact HGW.out.cellMet
      obtain ⟨b1, hb1⟩ : ∃ b, b = x0'.testBit k := ⟨_, rfl⟩
      have C1 := Lib.hid ((hasBit_any x0' k (by omega) (by omega) wr).mono fun e w' (hh : e = .returned (.bool (x0'.testBit k)) ∧ wr = w') => (⟨by rw [hh.1, hb1], hh.2⟩ : e = .returned (.bool b1) ∧ wr = w'))
      have HB1 := Lib.hid (show b1 = S.met.testBit k by rw [hb1, hx0'])
      have HNX := Lib.hid (show walkF ask n (k + 1) = if S.met.testBit k then S else visitF ask n k S by rw [walkF_succ, ← HS.out])
      clear hx0' hb1
      cases b1
      · have CV := Lib.hid (visit_any g n Y N hn24 (by rw [← HAF.out]; exact HASK.out) HLIM.out HGT.out n k S Ar cr Gr dr wr HGW.out (by rw [← HAF.out]; exact HIN.out) hlt (by unfold has; rw [← HB1.out]; exact Bool.false_ne_true) (fun x hx => by rw [HST.out] at hx; cases hx) (cntU_le _ _) (HT.out.below BW.out))
        go_wp2_with (first | (go_at_call 49; refine C1.out.mono ?_; rintro e w' ⟨rfl, rfl⟩) | (go_at_call 50; refine CV.out.mono ?_; rintro e w7 ⟨rfl, A7, c7, G7, d7, g7, n7⟩; have H7 := Lib.hid (And.intro g7 n7); clear g7 n7))
        go_roundw
        case rel =>
          refine ⟨k + 1, A7, c7, G7, d7, by omega, by go_num, ?_, HBE.out.trans H7.out.2.below⟩
          rw [HNX.out, if_neg (by rw [← HB1.out]; exact Bool.false_ne_true), HAF.out]
          exact H7.out.1
        case measure => simp [intOf]; omega
      · go_wp2_with (go_at_call 49; refine C1.out.mono ?_; rintro e w' ⟨rfl, rfl⟩)
        go_roundw
        case rel =>
          refine ⟨k + 1, Ar, cr, Gr, dr, by omega, by go_num, ?_, HBE.out⟩
          rw [HNX.out, if_pos HB1.out.symm]
          exact HGW.out
        case measure => simp [intOf]; omega
    · have hkn : k = n := by omega
      go_wp2_with (fail)
      go_ret2
      refine ⟨g, Ar, cr, Gr, dr, rfl, hgw, ?_, BW.out⟩
      have e : S = walkF ask n n := by rw [HS.out, hkn]
      rw [← e]
      exact HGW.out

end Go.Proofs.YtcoelmhlkfignaaDoor
/-
  The walk of the program's Recursive.
-/
namespace Go.Proofs.YtcoelmhlkfignaaDoor
open Go.RowKit

/-- What a program's predicates reach, as its walk finds it. -/
def reachP (p : LProg) (i : Nat) : Nat := (walkF (askP p) p.1.length p.1.length).reach.getD i 0
def recL (p : LProg) (x : Int) : Bool := progOk p && (decide (0 ≤ x) && (decide (x < (p.1.length : Int)) && (reachP p x.toNat).testBit x.toNat))

end Go.Proofs.YtcoelmhlkfignaaDoor
/-
  Floyd and Warshall's table: plain mathematics.
-/
namespace Go.Proofs.YtcoelmhlkfignaaDoor
open Go.RowKit

/-- The table after m rounds. -/
def fwM (T : Nat → Nat → Bool) : Nat → Nat → Nat → Bool
  | 0 => T
  | m + 1 => fun a b => fwM T m a b || (fwM T m a m && fwM T m m b)
/-- The table within a round. -/
def fwU (T : Nat → Nat → Bool) (m i k : Nat) : Nat → Nat → Bool := fun a b => if a < i ∨ (a = i ∧ b < k) then T a b || (T a m && T m b) else T a b
section
variable {T : Nat → Nat → Bool} {m i k n : Nat}
theorem fwU_zero : fwU T m 0 0 = T := by
  funext a b
  unfold fwU
  rw [if_neg (by omega)]
theorem fwU_left (a : Nat) : fwU T m i k a m = T a m := by
  unfold fwU
  split
  · cases T a m <;> simp
  · rfl
theorem fwU_right (b : Nat) : fwU T m i k m b = T m b := by
  unfold fwU
  split
  · cases T m b <;> simp
  · rfl
theorem fwU_at : fwU T m i k i k = T i k := by
  unfold fwU
  rw [if_neg (by omega)]
theorem fwU_step (a b : Nat) : fwU T m i (k + 1) a b = if a = i ∧ b = k then T i k || (T i m && T m k) else fwU T m i k a b := by
  unfold fwU
  by_cases e : a = i ∧ b = k
  · obtain ⟨rfl, rfl⟩ := e
    rw [if_pos (by omega), if_pos ⟨rfl, rfl⟩]
  · rw [if_neg e]
    by_cases h : a < i ∨ (a = i ∧ b < k)
    · rw [if_pos h, if_pos (by omega)]
    · rw [if_neg h, if_neg (by omega)]
theorem fwU_skip (h : (T i m && T m k) = false) : fwU T m i (k + 1) = fwU T m i k := by
  funext a b
  rw [fwU_step]
  split
  · rename_i e
    rw [e.1, e.2, h, Bool.or_false, fwU_at]
  · rfl
theorem fwU_row (a b : Nat) (hb : b < n) : fwU T m i n a b = fwU T m (i + 1) 0 a b := by
  unfold fwU
  by_cases h : a < i ∨ (a = i ∧ b < n)
  · rw [if_pos h, if_pos (by omega)]
  · rw [if_neg h, if_neg (by omega)]
theorem fwU_all (a b : Nat) (ha : a < n) : fwU (fwM T m) m n 0 a b = fwM T (m + 1) a b := by
  unfold fwU
  rw [if_pos (.inl ha)]
  rfl
theorem fwM_mono (a b : Nat) : ∀ m, T a b = true → fwM T m a b = true
  | 0, h => h
  | m + 1, h => by
    show (fwM T m a b || _) = true
    rw [fwM_mono a b m h]
    rfl
theorem fwM_trans : ∀ m j a b, j < m → fwM T m a j = true → fwM T m j b = true → fwM T m a b = true
  | 0, j, a, b, h, _, _ => absurd h (Nat.not_lt_zero _)
  | m + 1, j, a, b, h, h1, h2 => by
    have e : ∀ x y, fwM T (m + 1) x y = true ↔ fwM T m x y = true ∨ (fwM T m x m = true ∧ fwM T m m y = true) := fun x y => by
      show (fwM T m x y || (fwM T m x m && fwM T m m y)) = true ↔ _
      rw [Bool.or_eq_true, Bool.and_eq_true]
    rw [e] at h1 h2 ⊢
    by_cases hj : j = m
    · subst hj
      have l1 : fwM T j a j = true := h1.elim id fun h => h.1
      have l2 : fwM T j j b = true := h2.elim id fun h => h.2
      exact .inr ⟨l1, l2⟩
    · have hjm : j < m := by omega
      have tr := fun x y => fwM_trans m j x y hjm
      rcases h1 with h1 | ⟨h1, h3⟩
      · rcases h2 with h2 | ⟨h2, h4⟩
        · exact .inl (tr _ _ h1 h2)
        · exact .inr ⟨tr _ _ h1 h2, h4⟩
      · rcases h2 with h2 | ⟨h2, h4⟩
        · exact .inr ⟨h1, tr _ _ h3 h2⟩
        · exact .inr ⟨h1, h4⟩
theorem fwM_sound {ask : Nat → Nat} (hT : ∀ a b, T a b = true → has (ask a) b) : ∀ m a b, fwM T m a b = true → Rch ask a b
  | 0, a, b, h => .one (hT a b h)
  | m + 1, a, b, h => by
    have e : fwM T m a b = true ∨ (fwM T m a m = true ∧ fwM T m m b = true) := by
      have h' : (fwM T m a b || (fwM T m a m && fwM T m m b)) = true := h
      rwa [Bool.or_eq_true, Bool.and_eq_true] at h'
    rcases e with e | ⟨e1, e2⟩
    · exact fwM_sound hT m a b e
    · exact (fwM_sound hT m a m e1).trans (fwM_sound hT m m b e2)
theorem fwM_all {ask : Nat → Nat} (hT : ∀ a b, a < n → has (ask a) b → T a b = true) (hask : ∀ u x, has (ask u) x → x < n) {a b : Nat} (ha : a < n) (h : Rch ask a b) : fwM T n a b = true := by
  induction h with
  | one e => exact fwM_mono _ _ n (hT _ _ ha e)
  | step e _ ih =>
    have hv := hask _ _ e
    exact fwM_trans n _ _ _ hv (fwM_mono _ _ n (hT _ _ ha e)) (ih hv)
end
/-- Whom a program's predicates ask at once, by the specification's table. -/
def askT (p : LProg) (i k : Nat) : Bool := decide (0 < cellV (asksOf p.2) i k)
theorem askT_iff {p : LProg} (hf : ∀ x ∈ asksOf p.2, AskFits p.1.length x) {i : Nat} (hi : i < 24) (k : Nat) : askT p i k = true ↔ has (askP p i) k := by
  rw [askP_has hf hi]
  unfold askT cellV
  rw [decide_eq_true_eq]
  cases asked 0 (asksOf p.2) i k <;> cases asked 1 (asksOf p.2) i k <;> simp
theorem reach_fw {p : LProg} (h : progOk p = true) {i : Nat} (hi : i < p.1.length) (k : Nat) : (reachP p i).testBit k = fwM (askT p) p.1.length i k := by
  obtain ⟨hn24, hf⟩ := asksOf_fits h
  obtain ⟨h1, h2, _⟩ := walk_all hn24 (askP_lt hf)
  have h3 := h1.rch i k (h2 i hi)
  have hT1 : ∀ a b, askT p a b = true → has (askP p a) b := fun a b hab => by
    by_cases ha : a < 24
    · exact (askT_iff hf ha b).1 hab
    · exfalso
      unfold askT cellV at hab
      rw [decide_eq_true_eq] at hab
      have n0 : asked 0 (asksOf p.2) a b = false := by
        cases e : asked 0 (asksOf p.2) a b
        · rfl
        · have := (asked_lt (.inl rfl) hf e).1; omega
      have n1 : asked 1 (asksOf p.2) a b = false := by
        cases e : asked 1 (asksOf p.2) a b
        · rfl
        · have := (asked_lt (.inr rfl) hf e).1; omega
      rw [n0, n1] at hab
      simp at hab
  rw [Bool.eq_iff_iff]
  exact h3.trans ⟨fun hr => fwM_all (fun a b ha hab => (askT_iff hf (show a < 24 by omega) b).2 hab) (askP_lt hf) hi hr, fun hf2 => fwM_sound hT1 _ _ _ hf2⟩

end Go.Proofs.YtcoelmhlkfignaaDoor
/-
  Rows of slices of integers: one that is read, one of the call's own; the relation of a loop that collects them.
-/
namespace Go.Proofs.YtcoelmhlkfignaaDoor
open Go.RowKit

theorem Tryd.infoIntS : (Tryd.prog.info? 22).map (fun i => (i.zero, i.size, i.bytes)) = some (some (.slice none 0 0), 1, 24) := by kernel_rfl

/-- A row of slices of integers that is read. -/
def RdRows (w : World) (B : Nat) (v : Value) (xss : List (List Int)) : Prop :=
  ∃ A c, v = .slice A xss.length c ∧ xss.length ≤ c ∧ (0 < xss.length → ∃ b o, A = some ⟨b, o, none⟩ ∧ b < B ∧ ∀ k (h : k < xss.length), ∃ u, w.cell? ⟨b, o + k, none⟩ = some u ∧ RdInts w B u xss[k])
/-- A row of slices of integers in blocks from lo on and below hi; weak: two of them may share a block. -/
def WkRows (w : World) (lo hi : Nat) (v : Value) (xss : List (List Int)) : Prop :=
  ∃ av : List Value, (av.length = xss.length ∧ ∀ i (h : i < xss.length) (h' : i < av.length), OwnInts w lo hi av[i] xss[i]) ∧ w.ownsRow lo 22 1 v xss.length av ∧ ∀ g, v.ownBlock = some g → g < hi
/-- And no two share one. -/
def OwnRows (w : World) (lo hi : Nat) (v : Value) (xss : List (List Int)) : Prop :=
  ∃ av, OwnArgs w lo hi av xss ∧ w.ownsRow lo 22 1 v xss.length av ∧ ∀ g, v.ownBlock = some g → g < hi

section
variable {w w' : World} {lo hi lo' hi' B B' : Nat} {v : Value} {xss : List (List Int)}
theorem RdRows.below (h : RdRows w B v xss) (hb : Below B' w w') (hB : B ≤ B') : RdRows w' B v xss := by
  obtain ⟨A, c, rfl, hc, h⟩ := h
  refine ⟨A, c, rfl, hc, fun hn => ?_⟩
  obtain ⟨b, o, rfl, hlt, hk⟩ := h hn
  refine ⟨b, o, rfl, hlt, fun k hkl => ?_⟩
  obtain ⟨u, h1, h2⟩ := hk k hkl
  exact ⟨u, (hb.cell (p := ⟨b, o + k, none⟩) (by show b < B'; omega)).trans h1, h2.below hb hB⟩
theorem RdRows.more (h : RdRows w B v xss) (hB : B ≤ B') : RdRows w B' v xss := by
  obtain ⟨A, c, rfl, hc, h⟩ := h
  refine ⟨A, c, rfl, hc, fun hn => ?_⟩
  obtain ⟨b, o, rfl, hlt, hk⟩ := h hn
  refine ⟨b, o, rfl, by omega, fun k hkl => ?_⟩
  obtain ⟨u, h1, h2⟩ := hk k hkl
  exact ⟨u, h1, h2.more hB⟩
theorem RdRows.on (h : RdRows w w.heap.size v xss) (hb : Below w.heap.size w w') : RdRows w' w'.heap.size v xss := (h.below hb (Nat.le_refl _)).more hb.size
theorem RdRows.get {A : Option Addr} {c : Nat} (h : RdRows w B (.slice A xss.length c) xss) {k : Nat} (hk : k < xss.length) :
    ∃ b o A2 c2, A = some ⟨b, o, none⟩ ∧ b < B ∧ w.cell? ⟨b, o + k, none⟩ = some (.slice A2 xss[k].length c2) ∧ RdInts w B (.slice A2 xss[k].length c2) xss[k] := by
  obtain ⟨A', c', e, _, h⟩ := h
  injection e with e1 _ _
  subst e1
  obtain ⟨b, o, rfl, hb, hx⟩ := h (by omega)
  obtain ⟨u, h1, h2⟩ := hx k hk
  have h3 := h2
  obtain ⟨A2, c2, rfl, _⟩ := h2
  exact ⟨b, o, A2, c2, rfl, hb, h1, h3⟩
theorem OwnRows.weak (h : OwnRows w lo hi v xss) : WkRows w lo hi v xss := by
  obtain ⟨av, h1, h2, h3⟩ := h
  exact ⟨av, ⟨h1.len, h1.own⟩, h2, h3⟩
theorem WkRows.form (h : WkRows w lo hi v xss) : ∃ A c, v = .slice A xss.length c := by
  obtain ⟨_, _, h, _⟩ := h
  rcases h.2 with ⟨rfl, h0⟩ | ⟨g, cap, _, rfl, _⟩
  · exact ⟨none, 0, by rw [h0]⟩
  · exact ⟨_, _, rfl⟩
theorem WkRows.below (h : WkRows w lo hi v xss) (hb : Below B w w') (hB : hi ≤ B) : WkRows w' lo hi v xss := by
  obtain ⟨av, ⟨h0, h1⟩, h2, h3⟩ := h
  exact ⟨av, ⟨h0, fun i a b => (h1 i a b).below hb hB⟩, ownsRow_below h2 h3 hb hB, h3⟩
theorem WkRows.mono (h : WkRows w lo hi v xss) (h1 : lo' ≤ lo) (h2 : hi ≤ hi') : WkRows w lo' hi' v xss := by
  obtain ⟨av, ⟨h0, ha⟩, hr, hlt⟩ := h
  exact ⟨av, ⟨h0, fun i a b => (ha i a b).mono h1 h2⟩, ownsRow_mono hr h1, fun g hg => by have := hlt g hg; omega⟩
theorem WkRows.only (h : WkRows w lo hi v xss) (ho : Only lo' hi' w w') (hd : hi ≤ lo' ∨ hi' ≤ lo) : WkRows w' lo hi v xss := by
  obtain ⟨av, ⟨h0, ha⟩, hr, hlt⟩ := h
  exact ⟨av, ⟨h0, fun i a b => (ha i a b).only ho hd⟩, ownsRow_only hr fun g hg => ho.block g (hr.lt g hg).2 (by have := hr.lt g hg; have := hlt g hg; omega), hlt⟩
theorem WkRows.rd (h : WkRows w lo hi v xss) : RdRows w hi v xss := by
  obtain ⟨av, ⟨h0, ha⟩, hr, hlt⟩ := h
  have hcells := @World.ownsRow.cells w lo 22 1 v xss.length av hr
  obtain ⟨hlen, hr⟩ := hr
  rcases hr with ⟨rfl, e0⟩ | ⟨g, cap, cur, rfl, hb, hg, hn, hm, hs, ht⟩
  · have : xss = [] := List.eq_nil_of_length_eq_zero e0
    subst this
    exact ⟨none, 0, rfl, by simp, fun h => absurd h (by simp)⟩
  · refine ⟨_, cap, rfl, hn, fun _ => ⟨g, 0, rfl, hlt g rfl, fun k hk => ⟨av[k]'(by omega), ?_, (ha k hk (by omega)).rd⟩⟩⟩
    have := hcells (g := g) rfl k (av[k]'(by omega)) (by simp [show k < av.length by omega])
    rwa [Go.WideShapes.add_plain] at this
theorem OwnRows.below (h : OwnRows w lo hi v xss) (hb : Below B w w') (hB : hi ≤ B) : OwnRows w' lo hi v xss := by
  obtain ⟨av, h1, h2, h3⟩ := h
  exact ⟨av, h1.below hb hB, ownsRow_below h2 h3 hb hB, h3⟩
theorem OwnRows.mono (h : OwnRows w lo hi v xss) (h1 : lo' ≤ lo) (h2 : hi ≤ hi') : OwnRows w lo' hi' v xss := by
  obtain ⟨av, ha, hr, hlt⟩ := h
  exact ⟨av, ha.mono h1 h2, ownsRow_mono hr h1, fun g hg => by have := hlt g hg; omega⟩
theorem OwnRows.only (h : OwnRows w lo hi v xss) (ho : Only lo' hi' w w') (hd : hi ≤ lo' ∨ hi' ≤ lo) : OwnRows w' lo hi v xss := by
  obtain ⟨av, ha, hr, hlt⟩ := h
  exact ⟨av, ⟨ha.len, fun i a b => (ha.own i a b).only ho hd, ha.apart⟩, ownsRow_only hr fun g hg => ho.block g (hr.lt g hg).2 (by have := hr.lt g hg; have := hlt g hg; omega), hlt⟩
theorem OwnRows.rd (h : OwnRows w lo hi v xss) : RdRows w hi v xss := h.weak.rd
theorem OwnRows.form (h : OwnRows w lo hi v xss) : ∃ A c, v = .slice A xss.length c := h.weak.form
end

/-- The block of a row of integers is no block of a row of slices. -/
theorem rowsI_ne {w : World} {lo hi lo' g : Nat} {n : Nat} {v a : Value} {zs : List Value} {xs : List Int} (hr : w.ownsRow lo' 22 1 v n zs) (hv : v.ownBlock = some g) (ha : OwnInts w lo hi a xs) : a.ownBlock ≠ some g := by
  rcases hr.2 with ⟨rfl, _⟩ | ⟨g1, c1, cur1, rfl, _, h1, _⟩
  · cases hv
  · have e : g1 = g := by simpa [Value.ownBlock] using hv
    subst e
    exact blk_ne_row ha.1 (show Blk w g1 22 cur1 from h1) (by decide)

theorem WkRows.get {w : World} {lo hi c : Nat} {A : Option Addr} {xss : List (List Int)} (h : WkRows w lo hi (.slice A xss.length c) xss) {k : Nat} (hk : k < xss.length) :
    ∃ g A2 c2, A = some ⟨g, 0, none⟩ ∧ g < w.heap.size ∧ w.cell? ⟨g, k, none⟩ = some (.slice A2 xss[k].length c2) ∧ OwnInts w lo hi (.slice A2 xss[k].length c2) xss[k] := by
  obtain ⟨av, ⟨h0, ha⟩, hr, hlt⟩ := h
  have hcells := @World.ownsRow.cells w lo 22 1 _ xss.length av hr
  obtain ⟨hlen, hr2⟩ := hr
  rcases hr2 with ⟨e, e0⟩ | ⟨g, cap, cur, e, hb, hg, _⟩
  · omega
  · injection e with e1 _ _
    subst e1
    have h1 := ha k hk (by omega)
    obtain ⟨A2, c2, e2⟩ := h1.form
    have := hcells (g := g) rfl k (av[k]'(by omega)) (by simp [show k < av.length by omega])
    rw [Go.WideShapes.add_plain, Nat.zero_add, e2] at this
    exact ⟨g, A2, c2, rfl, Blk.lt hg, this, e2 ▸ h1⟩

/-- The relation of a loop that collects slices of integers: these lie from lo on, the row is new. -/
structure ColS (lo : Nat) (w wr : World) (xss : List (List Int)) (A : Option Addr) (c : Nat) (av : List Value) : Prop where
  below : Below w.heap.size w wr
  len : av.length = xss.length
  inn : ∀ i (h : i < xss.length) (h' : i < av.length), OwnInts wr lo wr.heap.size av[i] xss[i]
  row : wr.ownsRow w.heap.size 22 1 (.slice A xss.length c) xss.length av
theorem ColS.empty {lo : Nat} {w wr : World} (hb : Below w.heap.size w wr) : ColS lo w (wr.alloc (.cells #[] 22)) [] (some ⟨wr.heap.size, 0, none⟩) 0 [] :=
  ⟨hb.alloc hb.size _, rfl, fun i h => absurd h (by simp), World.ownsRow_made wr #[] 0 hb.size (by decide) rfl⟩
theorem ColS.on {lo : Nat} {w wr w2 : World} {xss : List (List Int)} {A : Option Addr} {c : Nat} {av : List Value} (h : ColS lo w wr xss A c av) (hb : Below wr.heap.size wr w2) : ColS lo w w2 xss A c av :=
  ⟨bthen h.below hb, h.len, fun i a b => ((h.inn i a b).below hb (Nat.le_refl _)).mono (Nat.le_refl _) hb.size, ownsRow_below h.row (fun g hg => (h.row.lt g hg).2) hb (Nat.le_refl _)⟩
theorem ColS.rows {lo : Nat} {w wr : World} {xss : List (List Int)} {A : Option Addr} {c : Nat} {av : List Value} (h : ColS lo w wr xss A c av) (hl : lo ≤ w.heap.size) : WkRows wr lo wr.heap.size (.slice A xss.length c) xss :=
  ⟨av, ⟨h.len, h.inn⟩, ownsRow_mono h.row hl, fun g hg => (h.row.lt g hg).2⟩
theorem ColS.push {lo : Nat} {w wr w2 w4 : World} {xss xss' : List (List Int)} {A : Option Addr} {c g cap : Nat} {xs : List Int} {u : Value} {o : Obj} {av : List Value} (h : ColS lo w wr xss A c av) (e : xss' = xss ++ [xs]) (hb : Below wr.heap.size wr w2) (hu : OwnInts w2 lo w2.heap.size u xs)
    (hg : (w2.alloc o).grownBy w4 (Value.slice A xss.length c).ownBlock) (hown : w4.ownsRow w.heap.size 22 1 (.slice (some ⟨g, 0, none⟩) (xss.length + 1) cap) (xss.length + 1) (av ++ [u])) :
    ColS lo w w4 xss' (some ⟨g, 0, none⟩) cap (av ++ [u]) ∧ xss.length + 1 = xss'.length := by
  subst e
  have h2 := h.on hb
  have hg' := grown_from_alloc hg
  have hl : (xss ++ [xs]).length = xss.length + 1 := by simp
  refine ⟨⟨(h2.below.alloc h2.below.size _).grown hg (by have := h2.below.size; simp; omega) (fun k hk => (h2.row.lt k hk).1), by simp [h.len], fun i h1 h3 => ?_, by rw [hl]; exact hown⟩, hl.symm⟩
  have keep : ∀ {a : Value} {ys : List Int}, OwnInts w2 lo w2.heap.size a ys → OwnInts w4 lo w4.heap.size a ys := fun {a ys} h0 =>
    (h0.kept fun b hbk => hg'.block b (h0.lt hbk).2.2 (fun e => rowsI_ne h2.row e.symm h0 hbk)).mono (Nat.le_refl _) hg'.size
  by_cases e : i < xss.length
  · rw [List.getElem_append_left (by rw [h.len]; exact e), List.getElem_append_left e]
    exact keep (h2.inn i e (by rw [h.len]; exact e))
  · have e2 : i = xss.length := by simp at h1; omega
    subst e2
    have := h.len
    simp [← this]
    exact keep hu

end Go.Proofs.YtcoelmhlkfignaaDoor
/-
  Marks on rules and programs that are not read again: markRuleS, markProgram.
-/
namespace Go.Proofs.YtcoelmhlkfignaaDoor
open Go.RowKit

theorem endR_le (k : Int) (r : LRule) : k ≤ endR k r ∧ endR k r ≤ k + 2 * (szR r : Int) := by
  unfold endR endL szR
  omega
theorem totR_take_le (rs : List LRule) (j : Nat) : totR (rs.take j) ≤ totR rs := by
  have := congrArg (fun l => (l.map szR).sum) (List.take_append_drop j rs)
  simp only [List.map_append, List.sum_append] at this
  unfold totR
  omega

set_option maxHeartbeats 1000000 in
set_option maxRecDepth 100000 in
theorem wmarkRuleS_le (v : Value) (rs : List LRule) (k : Int) (lo hi : Nat) (w : World) (h : WrRules w lo hi v rs) (hk0 : 0 ≤ k) (hk : k ≤ 2097152) (hn : rs.length ≤ 1048576) (ht : totR rs ≤ 1048576) :
    Calls Tryd.prog 35 #[v, .int .i64 k] w fun e w' => ∃ z : Int, e = .returned (.int .i64 z) ∧ (k ≤ z ∧ z ≤ k + (rs.length : Int) + 2 * (totR rs : Int)) ∧ Marked lo hi w w' := by
  have H := Lib.hid h
  obtain ⟨A, c, rfl, _⟩ := h
  go_enter Tryd.func35, Tryd.ntmps35
  go_wp2_with (fail)
  go_loopw [1, 5] (fun m i wr => ∃ (j : Nat) (q : Int), j ≤ rs.length ∧ i = .int .i64 j ∧ m = .int .i64 q ∧ (k ≤ q ∧ q ≤ k + (j : Int) + 2 * (totR (rs.take j) : Int)) ∧ Marked lo hi w wr) (fun _ i _ => rs.length - (intOf i).toNat)
  case atStart => exact ⟨0, k, Nat.zero_le _, rfl, rfl, by simp [totR], Marked.refl _ _ _⟩
  case round =>
    obtain ⟨j, q, hj, rfl, rfl, ⟨hq, hq2⟩, hm⟩ := hrel
    by_cases hlt : j < rs.length
    · obtain ⟨A', c', e, _, hx⟩ := H.out.marked hm
      injection e with e1 _ e3
      subst e1
      subst e3
      obtain ⟨b, o, rfl, h1, h2, hx⟩ := hx (by omega)
      obtain ⟨⟨f0, f1⟩, u0, u1, u2, c0, c1, c2, ⟨x, rfl⟩, hI, hL⟩ := hx j hlt
      have m0 := Marked.store (p := ⟨b, o + j * 3, none⟩) ⟨h1, h2⟩ c0 q
      have hI2 := hI.marked m0
      have hL2 := hL.marked m0
      obtain ⟨A3, n3, rfl, _⟩ := hI
      obtain ⟨A4, n4, rfl, _⟩ := hL
      have d1 := m0.slice c1
      have htk := totR_take rs j hlt
      have hle := totR_take_le rs (j + 1)
      have hsz : rs[j].1.2.length + (rs[j].2.length + totL rs[j].2) = szR rs[j] := rfl
      have hq0 : 0 ≤ q := by omega
      have hq1 : q ≤ 8388608 := by omega
      have HI := Lib.hid hI2
      have HL := Lib.hid hL2
      have HM := Lib.hid (hm.trans m0)
      have HE := endR_le (q + 1) rs[j]
      clear hx hI2 hL2
      go_wp2_with (fail)
      refine (wmarkIntS_any _ _ (q + 1) lo hi _ HI.out (by omega) (by omega)).mono ?_
      rintro e w3 ⟨rfl, hm3⟩
      have d2 := (m0.trans hm3).slice c2
      have HM3 := Lib.hid (HM.out.trans hm3)
      have HL3 := Lib.hid (HL.out.marked hm3)
      clear m0 hm3 c0 c1 c2 d1
      go_wp2_with (fail)
      refine (wmarkLitS_any _ rs[j].2 _ lo hi _ HL3.out (by omega) (by omega) (by omega) (by omega)).mono ?_
      rintro e w4 ⟨rfl, hm4⟩
      have HM4 := Lib.hid (HM3.out.trans hm4)
      have HQ := Lib.hid (show k ≤ endL (q + 1 + (rs[j].1.2.length : Int)) rs[j].2 ∧ endL (q + 1 + (rs[j].1.2.length : Int)) rs[j].2 ≤ k + ((j + 1 : Nat) : Int) + 2 * (totR (rs.take (j + 1)) : Int) by
        unfold endR at HE
        rw [htk]
        omega)
      clear HE htk
      go_wp2_with (fail)
      go_roundw
      case rel => exact ⟨j + 1, _, by omega, by go_num, rfl, HQ.out, HM4.out⟩
      case measure => simp [intOf]; omega
    · have HK := Lib.hid (show k ≤ q ∧ q ≤ k + (rs.length : Int) + 2 * (totR rs : Int) by
        have := totR_take_le rs j
        omega)
      clear hq hq2
      go_wp2_with (fail)
      go_ret
      exact ⟨_, rfl, HK.out, hm⟩

set_option maxHeartbeats 400000 in
theorem wmarkProgram_le (a b : Value) (p : LProg) (k : Int) (lo hi : Nat) (w : World) (h : WrInts w lo hi a p.1.length) (h2 : WrRules w lo hi b p.2) (hk0 : 0 ≤ k) (hk : k ≤ 1048576) (hs : szP p ≤ 1048576) :
    Calls Tryd.prog 12 #[.agg #[a, b], .int .i64 k] w fun e w' => ∃ z : Int, e = .returned (.int .i64 z) ∧ (k ≤ z ∧ z ≤ k + 2 * (szP p : Int)) ∧ Marked lo hi w w' := by
  have H := Lib.hid h
  have H2 := Lib.hid h2
  have HSZ := Lib.hid (show szP p = p.1.length + (p.2.length + totR p.2) from rfl)
  unfold szP at hs
  obtain ⟨A, c, rfl, _⟩ := h
  obtain ⟨A2, c2, rfl, _⟩ := h2
  go_enter Tryd.func12, Tryd.ntmps12
  go_wp2_with (fail)
  obtain ⟨w1, hw1⟩ : ∃ w1, w1 = w.alloc (Obj.cells #[Value.slice A p.1.length c, Value.slice A2 p.2.length c2] 31) := ⟨_, rfl⟩
  have M1 : Marked lo hi w w1 := by rw [hw1]; exact Marked.of_below (below1 _ _)
  have x1 : Blk w1 w.heap.size 31 #[.slice A p.1.length c, .slice A2 p.2.length c2] := by rw [hw1]; exact Blk.new _ _ _
  rw [← hw1]
  clear hw1
  refine (wmarkIntS_any _ _ k lo hi _ (H.out.marked M1) hk0 (by omega)).mono ?_
  rintro e w2 ⟨rfl, hm2⟩
  have y2 : w2.cell? ⟨w.heap.size, 1, none⟩ = some (.slice A2 p.2.length c2) := hm2.slice (x1.cell 1)
  have M2 := M1.trans hm2
  go_wp2_with (fail)
  refine (wmarkRuleS_le _ p.2 _ lo hi _ (H2.out.marked M2) (by omega) (by omega) (by omega) (by omega)).mono ?_
  rintro e w3 ⟨z, rfl, hz, hm3⟩
  have M3 := M2.trans hm3
  have HZ := Lib.hid (show k ≤ z ∧ z ≤ k + 2 * (szP p : Int) by rw [HSZ.out]; omega)
  clear hz
  go_wp2_with (fail)
  go_ret
  exact ⟨_, rfl, HZ.out, M3⟩
theorem wmarkProgram_any (a b : Value) (p : LProg) (k : Int) (lo hi : Nat) (w : World) (h : WrInts w lo hi a p.1.length) (h2 : WrRules w lo hi b p.2) (hk0 : 0 ≤ k) (hk : k ≤ 1048576) (hs : szP p ≤ 1048576) :
    Calls Tryd.prog 12 #[.agg #[a, b], .int .i64 k] w fun e w' => ∃ z : Int, e = .returned (.int .i64 z) ∧ 0 ≤ z ∧ Marked lo hi w w' :=
  (wmarkProgram_le a b p k lo hi w h h2 hk0 hk hs).mono fun _ _ ⟨z, h1, h2, h3⟩ => ⟨z, h1, by omega, h3⟩

end Go.Proofs.YtcoelmhlkfignaaDoor
/-
  What comes in, its lengths.
-/
namespace Go.Proofs.YtcoelmhlkfignaaDoor
open Go.RowKit

theorem ruleLens_in {r : LRule} (h : ruleFitsIn r) : ruleLens r := by
  obtain ⟨h1, h2, h3⟩ := h
  unfold maxLen at *
  exact ⟨by omega, by omega, fun k hk => by have := h3 k hk; omega⟩
theorem progLens_in {p : LProg} (h : p.1.length ≤ maxLen ∧ p.2.length ≤ maxLen ∧ ∀ k (h : k < p.2.length), ruleFitsIn p.2[k]) : progLens p := by
  obtain ⟨h1, h2, h3⟩ := h
  refine ⟨?_, ?_, fun k hk => ruleLens_in (h3 k hk)⟩ <;> (unfold maxLen at *; omega)

end Go.Proofs.YtcoelmhlkfignaaDoor
/-
  Programs that a call has made, and their sizes and marks, in the one form that the laws' walks ask.
-/
namespace Go.Proofs.YtcoelmhlkfignaaDoor
open Go.RowKit

/-- A program whose two rows stand in blocks from lo on and below hi. -/
def OwnProg (w : World) (lo hi : Nat) (v : Value) (p : LProg) : Prop := ∃ a b, v = .agg #[a, b] ∧ OwnInts w lo hi a p.1 ∧ OwnRules w lo hi b p.2
theorem RdProg.more {w : World} {B B' : Nat} {v : Value} {p : LProg} (h : RdProg w B v p) (hB : B ≤ B') : RdProg w B' v p := by
  obtain ⟨a, b, rfl, h1, h2⟩ := h
  exact ⟨a, b, rfl, h1.more hB, h2.more hB⟩
theorem OwnProg.below {w w' : World} {lo hi B : Nat} {v : Value} {p : LProg} (h : OwnProg w lo hi v p) (hb : Below B w w') (hB : hi ≤ B) : OwnProg w' lo hi v p := by
  obtain ⟨a, b, rfl, h1, h2⟩ := h
  exact ⟨a, b, rfl, h1.below hb hB, h2.below hb hB⟩
theorem OwnProg.only {w w' : World} {lo hi lo' hi' : Nat} {v : Value} {p : LProg} (h : OwnProg w lo hi v p) (ho : Only lo' hi' w w') (hd : hi ≤ lo' ∨ hi' ≤ lo) (hh : hi ≤ w.heap.size) : OwnProg w' lo hi v p := by
  obtain ⟨a, b, rfl, h1, h2⟩ := h
  exact ⟨a, b, rfl, h1.only ho hd, h2.keep fun g h3 h4 => ho.block g (by omega) (by omega)⟩
theorem OwnProg.rd {w : World} {lo hi : Nat} {v : Value} {p : LProg} (h : OwnProg w lo hi v p) : RdProg w hi v p := by
  obtain ⟨a, b, rfl, h1, h2⟩ := h
  exact ⟨a, b, rfl, h1.rd, h2.rd⟩

theorem toProgram_own (v : Value) (p : LProg) (w : World) (h : RdProg w w.heap.size v p) (hn : szP p ≤ 1048576) :
    Calls Tryd.prog 8 #[v] w fun e w' => ∃ A c A2 c2, e = .returned (.agg #[.slice A p.1.length c, .slice A2 p.2.length c2]) ∧ OwnProg w' w.heap.size w'.heap.size (.agg #[.slice A p.1.length c, .slice A2 p.2.length c2]) p ∧ Below w.heap.size w w' :=
  (toProgram_any v p w h hn).mono fun _ _ ⟨A, c, A2, c2, he, h1, h2, hb⟩ => ⟨A, c, A2, c2, he, ⟨_, _, rfl, h1, h2⟩, hb⟩

theorem us_prog {v : Value} {p : LProg} {left : Int} {w : World} (h : RdProg w w.heap.size v p) (h0 : 0 ≤ left) (hl : left ≤ 1048576) (hn : progLens p) :
    Calls Tryd.prog 6 #[v, .int .i64 left] w fun e w' => ∃ z, e = .returned (.int .i64 z) ∧ (z = -1 ∨ (0 ≤ z ∧ z + szP p = left)) ∧ Below w.heap.size w w' :=
  szProgram_any v p left w h h0 hl hn

theorem um_prog {v : Value} {p : LProg} {lo hi : Nat} {w : World} (k : Int) (h : OwnProg w lo hi v p) (hk0 : 0 ≤ k) (hk : k ≤ 1048576) (hs : szP p ≤ 1048576) :
    Calls Tryd.prog 12 #[v, .int .i64 k] w fun e w' => ∃ z, e = .returned (.int .i64 z) ∧ k ≤ z ∧ z ≤ k + 2 * (szP p : Int) ∧ True ∧ Only lo hi w w' := by
  obtain ⟨a, b, rfl, h1, h2⟩ := h
  exact (wmarkProgram_le a b p k lo hi w h1.wr h2.wr hk0 hk hs).mono fun _ _ ⟨z, he, hz, hm⟩ => ⟨z, he, hz.1, hz.2, trivial, hm.only⟩

end Go.Proofs.YtcoelmhlkfignaaDoor
