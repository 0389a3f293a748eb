/-
  The law FnExactRecursive: for every input the call returns true, and each argument reads behind it as it read before. Conditions: none but the row's own.
-/
import Derived.Test.YtfjmnjemmfmoaaaDoorChecked
import Derived.Deep.SlicePairs
import Derived.ProofKit
import Derived.OpenShut
import Derived.ChangeOld
import Derived.WalkKit
import Derived.Deep.Slices
import Derived.Deep.Fields
import Derived.ChangeSame
import Derived.Lib.SmallJoins
import Derived.KernelRfl
import Derived.Deep.RegionHeld3
import Derived.Deep.DeepCutAuto
import Derived.Deep.RegionWith
import Derived.Test.YtfjmnjemmfmoaaaDoorRows
import Derived.Test.YtfjmnjemmfmoaaaDoorCards
import Derived.Test.YtfjmnjemmfmoaaaDoorTie
import Derived.Lay
import Derived.SevenTiedAt
import Derived.Test.YtfjmnjemmfmoaaaDoorRV1
import Derived.Test.YtfjmnjemmfmoaaaDoorRV2
import Derived.Test.YtfjmnjemmfmoaaaDoorRV3
import Derived.Test.YtfjmnjemmfmoaaaDoorRV4
/-
  Floyd and Warshall's table: plain mathematics.
-/
namespace Go.Proofs.YtfjmnjemmfmoaaaDoor
open Go.RowKit

/-- The table after m rounds. -/
def fwM (T : Nat → Nat → Bool) : Nat → Nat → Nat → Bool
  | 0 => T
  | m + 1 => fun a b => fwM T m a b || (fwM T m a m && fwM T m m b)
/-- The table within a round. -/
def fwU (T : Nat → Nat → Bool) (m i k : Nat) : Nat → Nat → Bool := fun a b => if a < i ∨ (a = i ∧ b < k) then T a b || (T a m && T m b) else T a b
section
variable {T : Nat → Nat → Bool} {m i k n : Nat}
theorem fwU_zero : fwU T m 0 0 = T := by
  funext a b
  unfold fwU
  rw [if_neg (by omega)]
theorem fwU_left (a : Nat) : fwU T m i k a m = T a m := by
  unfold fwU
  split
  · cases T a m <;> simp
  · rfl
theorem fwU_right (b : Nat) : fwU T m i k m b = T m b := by
  unfold fwU
  split
  · cases T m b <;> simp
  · rfl
theorem fwU_at : fwU T m i k i k = T i k := by
  unfold fwU
  rw [if_neg (by omega)]
theorem fwU_step (a b : Nat) : fwU T m i (k + 1) a b = if a = i ∧ b = k then T i k || (T i m && T m k) else fwU T m i k a b := by
  unfold fwU
  by_cases e : a = i ∧ b = k
  · obtain ⟨rfl, rfl⟩ := e
    rw [if_pos (by omega), if_pos ⟨rfl, rfl⟩]
  · rw [if_neg e]
    by_cases h : a < i ∨ (a = i ∧ b < k)
    · rw [if_pos h, if_pos (by omega)]
    · rw [if_neg h, if_neg (by omega)]
theorem fwU_skip (h : (T i m && T m k) = false) : fwU T m i (k + 1) = fwU T m i k := by
  funext a b
  rw [fwU_step]
  split
  · rename_i e
    rw [e.1, e.2, h, Bool.or_false, fwU_at]
  · rfl
theorem fwU_row (a b : Nat) (hb : b < n) : fwU T m i n a b = fwU T m (i + 1) 0 a b := by
  unfold fwU
  by_cases h : a < i ∨ (a = i ∧ b < n)
  · rw [if_pos h, if_pos (by omega)]
  · rw [if_neg h, if_neg (by omega)]
theorem fwU_all (a b : Nat) (ha : a < n) : fwU (fwM T m) m n 0 a b = fwM T (m + 1) a b := by
  unfold fwU
  rw [if_pos (.inl ha)]
  rfl
theorem fwM_mono (a b : Nat) : ∀ m, T a b = true → fwM T m a b = true
  | 0, h => h
  | m + 1, h => by
    show (fwM T m a b || _) = true
    rw [fwM_mono a b m h]
    rfl
theorem fwM_trans : ∀ m j a b, j < m → fwM T m a j = true → fwM T m j b = true → fwM T m a b = true
  | 0, j, a, b, h, _, _ => absurd h (Nat.not_lt_zero _)
  | m + 1, j, a, b, h, h1, h2 => by
    have e : ∀ x y, fwM T (m + 1) x y = true ↔ fwM T m x y = true ∨ (fwM T m x m = true ∧ fwM T m m y = true) := fun x y => by
      show (fwM T m x y || (fwM T m x m && fwM T m m y)) = true ↔ _
      rw [Bool.or_eq_true, Bool.and_eq_true]
    rw [e] at h1 h2 ⊢
    by_cases hj : j = m
    · subst hj
      have l1 : fwM T j a j = true := h1.elim id fun h => h.1
      have l2 : fwM T j j b = true := h2.elim id fun h => h.2
      exact .inr ⟨l1, l2⟩
    · have hjm : j < m := by omega
      have tr := fun x y => fwM_trans m j x y hjm
      rcases h1 with h1 | ⟨h1, h3⟩
      · rcases h2 with h2 | ⟨h2, h4⟩
        · exact .inl (tr _ _ h1 h2)
        · exact .inr ⟨tr _ _ h1 h2, h4⟩
      · rcases h2 with h2 | ⟨h2, h4⟩
        · exact .inr ⟨h1, tr _ _ h3 h2⟩
        · exact .inr ⟨h1, h4⟩
theorem fwM_sound {ask : Nat → Nat} (hT : ∀ a b, T a b = true → has (ask a) b) : ∀ m a b, fwM T m a b = true → Rch ask a b
  | 0, a, b, h => .one (hT a b h)
  | m + 1, a, b, h => by
    have e : fwM T m a b = true ∨ (fwM T m a m = true ∧ fwM T m m b = true) := by
      have h' : (fwM T m a b || (fwM T m a m && fwM T m m b)) = true := h
      rwa [Bool.or_eq_true, Bool.and_eq_true] at h'
    rcases e with e | ⟨e1, e2⟩
    · exact fwM_sound hT m a b e
    · exact (fwM_sound hT m a m e1).trans (fwM_sound hT m m b e2)
theorem fwM_all {ask : Nat → Nat} (hT : ∀ a b, a < n → has (ask a) b → T a b = true) (hask : ∀ u x, has (ask u) x → x < n) {a b : Nat} (ha : a < n) (h : Rch ask a b) : fwM T n a b = true := by
  induction h with
  | one e => exact fwM_mono _ _ n (hT _ _ ha e)
  | step e _ ih =>
    have hv := hask _ _ e
    exact fwM_trans n _ _ _ hv (fwM_mono _ _ n (hT _ _ ha e)) (ih hv)
end
/-- Whom a program's predicates ask at once, by the specification's table. -/
def askT (p : LProg) (i k : Nat) : Bool := decide (0 < cellV (asksOf p.2) i k)
theorem askT_iff {p : LProg} (hf : ∀ x ∈ asksOf p.2, AskFits p.1.length x) {i : Nat} (hi : i < 24) (k : Nat) : askT p i k = true ↔ has (askP p i) k := by
  rw [askP_has hf hi]
  unfold askT cellV
  rw [decide_eq_true_eq]
  cases asked 0 (asksOf p.2) i k <;> cases asked 1 (asksOf p.2) i k <;> simp
theorem reach_fw {p : LProg} (h : progOk p = true) {i : Nat} (hi : i < p.1.length) (k : Nat) : (reachP p i).testBit k = fwM (askT p) p.1.length i k := by
  obtain ⟨hn24, hf⟩ := asksOf_fits h
  obtain ⟨h1, h2, _⟩ := walk_all hn24 (askP_lt hf)
  have h3 := h1.rch i k (h2 i hi)
  have hT1 : ∀ a b, askT p a b = true → has (askP p a) b := fun a b hab => by
    by_cases ha : a < 24
    · exact (askT_iff hf ha b).1 hab
    · exfalso
      unfold askT cellV at hab
      rw [decide_eq_true_eq] at hab
      have n0 : asked 0 (asksOf p.2) a b = false := by
        cases e : asked 0 (asksOf p.2) a b
        · rfl
        · have := (asked_lt (.inl rfl) hf e).1; omega
      have n1 : asked 1 (asksOf p.2) a b = false := by
        cases e : asked 1 (asksOf p.2) a b
        · rfl
        · have := (asked_lt (.inr rfl) hf e).1; omega
      rw [n0, n1] at hab
      simp at hab
  rw [Bool.eq_iff_iff]
  exact h3.trans ⟨fun hr => fwM_all (fun a b ha hab => (askT_iff hf (show a < 24 by omega) b).2 hab) (askP_lt hf) hi hr, fun hf2 => fwM_sound hT1 _ _ _ hf2⟩

end Go.Proofs.YtfjmnjemmfmoaaaDoor
/-
  Rows of slices of integers: one that is read, one of the call's own; the relation of a loop that collects them.
-/
namespace Go.Proofs.YtfjmnjemmfmoaaaDoor
open Go.RowKit

theorem Tryd.infoIntS : (Tryd.prog.info? 23).map (fun i => (i.zero, i.size, i.bytes)) = some (some (.slice none 0 0), 1, 24) := by kernel_rfl

/-- A row of slices of integers that is read. -/
def RdRows (w : World) (B : Nat) (v : Value) (xss : List (List Int)) : Prop :=
  ∃ A c, v = .slice A xss.length c ∧ xss.length ≤ c ∧ (0 < xss.length → ∃ b o, A = some ⟨b, o, none⟩ ∧ b < B ∧ ∀ k (h : k < xss.length), ∃ u, w.cell? ⟨b, o + k, none⟩ = some u ∧ RdInts w B u xss[k])
/-- A row of slices of integers in blocks from lo on and below hi; weak: two of them may share a block. -/
def WkRows (w : World) (lo hi : Nat) (v : Value) (xss : List (List Int)) : Prop :=
  ∃ av : List Value, (av.length = xss.length ∧ ∀ i (h : i < xss.length) (h' : i < av.length), OwnInts w lo hi av[i] xss[i]) ∧ w.ownsRow lo 23 1 v xss.length av ∧ ∀ g, v.ownBlock = some g → g < hi
/-- And no two share one. -/
def OwnRows (w : World) (lo hi : Nat) (v : Value) (xss : List (List Int)) : Prop :=
  ∃ av, OwnArgs w lo hi av xss ∧ w.ownsRow lo 23 1 v xss.length av ∧ ∀ g, v.ownBlock = some g → g < hi

section
variable {w w' : World} {lo hi lo' hi' B B' : Nat} {v : Value} {xss : List (List Int)}
theorem RdRows.below (h : RdRows w B v xss) (hb : Below B' w w') (hB : B ≤ B') : RdRows w' B v xss := by
  obtain ⟨A, c, rfl, hc, h⟩ := h
  refine ⟨A, c, rfl, hc, fun hn => ?_⟩
  obtain ⟨b, o, rfl, hlt, hk⟩ := h hn
  refine ⟨b, o, rfl, hlt, fun k hkl => ?_⟩
  obtain ⟨u, h1, h2⟩ := hk k hkl
  exact ⟨u, (hb.cell (p := ⟨b, o + k, none⟩) (by show b < B'; omega)).trans h1, h2.below hb hB⟩
theorem RdRows.more (h : RdRows w B v xss) (hB : B ≤ B') : RdRows w B' v xss := by
  obtain ⟨A, c, rfl, hc, h⟩ := h
  refine ⟨A, c, rfl, hc, fun hn => ?_⟩
  obtain ⟨b, o, rfl, hlt, hk⟩ := h hn
  refine ⟨b, o, rfl, by omega, fun k hkl => ?_⟩
  obtain ⟨u, h1, h2⟩ := hk k hkl
  exact ⟨u, h1, h2.more hB⟩
theorem RdRows.on (h : RdRows w w.heap.size v xss) (hb : Below w.heap.size w w') : RdRows w' w'.heap.size v xss := (h.below hb (Nat.le_refl _)).more hb.size
theorem RdRows.get {A : Option Addr} {c : Nat} (h : RdRows w B (.slice A xss.length c) xss) {k : Nat} (hk : k < xss.length) :
    ∃ b o A2 c2, A = some ⟨b, o, none⟩ ∧ b < B ∧ w.cell? ⟨b, o + k, none⟩ = some (.slice A2 xss[k].length c2) ∧ RdInts w B (.slice A2 xss[k].length c2) xss[k] := by
  obtain ⟨A', c', e, _, h⟩ := h
  injection e with e1 _ _
  subst e1
  obtain ⟨b, o, rfl, hb, hx⟩ := h (by omega)
  obtain ⟨u, h1, h2⟩ := hx k hk
  have h3 := h2
  obtain ⟨A2, c2, rfl, _⟩ := h2
  exact ⟨b, o, A2, c2, rfl, hb, h1, h3⟩
theorem OwnRows.weak (h : OwnRows w lo hi v xss) : WkRows w lo hi v xss := by
  obtain ⟨av, h1, h2, h3⟩ := h
  exact ⟨av, ⟨h1.len, h1.own⟩, h2, h3⟩
theorem WkRows.form (h : WkRows w lo hi v xss) : ∃ A c, v = .slice A xss.length c := by
  obtain ⟨_, _, h, _⟩ := h
  rcases h.2 with ⟨rfl, h0⟩ | ⟨g, cap, _, rfl, _⟩
  · exact ⟨none, 0, by rw [h0]⟩
  · exact ⟨_, _, rfl⟩
theorem WkRows.below (h : WkRows w lo hi v xss) (hb : Below B w w') (hB : hi ≤ B) : WkRows w' lo hi v xss := by
  obtain ⟨av, ⟨h0, h1⟩, h2, h3⟩ := h
  exact ⟨av, ⟨h0, fun i a b => (h1 i a b).below hb hB⟩, ownsRow_below h2 h3 hb hB, h3⟩
theorem WkRows.mono (h : WkRows w lo hi v xss) (h1 : lo' ≤ lo) (h2 : hi ≤ hi') : WkRows w lo' hi' v xss := by
  obtain ⟨av, ⟨h0, ha⟩, hr, hlt⟩ := h
  exact ⟨av, ⟨h0, fun i a b => (ha i a b).mono h1 h2⟩, ownsRow_mono hr h1, fun g hg => by have := hlt g hg; omega⟩
theorem WkRows.only (h : WkRows w lo hi v xss) (ho : Only lo' hi' w w') (hd : hi ≤ lo' ∨ hi' ≤ lo) : WkRows w' lo hi v xss := by
  obtain ⟨av, ⟨h0, ha⟩, hr, hlt⟩ := h
  exact ⟨av, ⟨h0, fun i a b => (ha i a b).only ho hd⟩, ownsRow_only hr fun g hg => ho.block g (hr.lt g hg).2 (by have := hr.lt g hg; have := hlt g hg; omega), hlt⟩
theorem WkRows.rd (h : WkRows w lo hi v xss) : RdRows w hi v xss := by
  obtain ⟨av, ⟨h0, ha⟩, hr, hlt⟩ := h
  have hcells := @World.ownsRow.cells w lo 23 1 v xss.length av hr
  obtain ⟨hlen, hr⟩ := hr
  rcases hr with ⟨rfl, e0⟩ | ⟨g, cap, cur, rfl, hb, hg, hn, hm, hs, ht⟩
  · have : xss = [] := List.eq_nil_of_length_eq_zero e0
    subst this
    exact ⟨none, 0, rfl, by simp, fun h => absurd h (by simp)⟩
  · refine ⟨_, cap, rfl, hn, fun _ => ⟨g, 0, rfl, hlt g rfl, fun k hk => ⟨av[k]'(by omega), ?_, (ha k hk (by omega)).rd⟩⟩⟩
    have := hcells (g := g) rfl k (av[k]'(by omega)) (by simp [show k < av.length by omega])
    rwa [Go.WideShapes.add_plain] at this
theorem OwnRows.below (h : OwnRows w lo hi v xss) (hb : Below B w w') (hB : hi ≤ B) : OwnRows w' lo hi v xss := by
  obtain ⟨av, h1, h2, h3⟩ := h
  exact ⟨av, h1.below hb hB, ownsRow_below h2 h3 hb hB, h3⟩
theorem OwnRows.mono (h : OwnRows w lo hi v xss) (h1 : lo' ≤ lo) (h2 : hi ≤ hi') : OwnRows w lo' hi' v xss := by
  obtain ⟨av, ha, hr, hlt⟩ := h
  exact ⟨av, ha.mono h1 h2, ownsRow_mono hr h1, fun g hg => by have := hlt g hg; omega⟩
theorem OwnRows.only (h : OwnRows w lo hi v xss) (ho : Only lo' hi' w w') (hd : hi ≤ lo' ∨ hi' ≤ lo) : OwnRows w' lo hi v xss := by
  obtain ⟨av, ha, hr, hlt⟩ := h
  exact ⟨av, ⟨ha.len, fun i a b => (ha.own i a b).only ho hd, ha.apart⟩, ownsRow_only hr fun g hg => ho.block g (hr.lt g hg).2 (by have := hr.lt g hg; have := hlt g hg; omega), hlt⟩
theorem OwnRows.rd (h : OwnRows w lo hi v xss) : RdRows w hi v xss := h.weak.rd
theorem OwnRows.form (h : OwnRows w lo hi v xss) : ∃ A c, v = .slice A xss.length c := h.weak.form
end

/-- The block of a row of integers is no block of a row of slices. -/
theorem rowsI_ne {w : World} {lo hi lo' g : Nat} {n : Nat} {v a : Value} {zs : List Value} {xs : List Int} (hr : w.ownsRow lo' 23 1 v n zs) (hv : v.ownBlock = some g) (ha : OwnInts w lo hi a xs) : a.ownBlock ≠ some g := by
  rcases hr.2 with ⟨rfl, _⟩ | ⟨g1, c1, cur1, rfl, _, h1, _⟩
  · cases hv
  · have e : g1 = g := by simpa [Value.ownBlock] using hv
    subst e
    exact blk_ne_row ha.1 (show Blk w g1 23 cur1 from h1) (by decide)

theorem WkRows.get {w : World} {lo hi c : Nat} {A : Option Addr} {xss : List (List Int)} (h : WkRows w lo hi (.slice A xss.length c) xss) {k : Nat} (hk : k < xss.length) :
    ∃ g A2 c2, A = some ⟨g, 0, none⟩ ∧ g < w.heap.size ∧ w.cell? ⟨g, k, none⟩ = some (.slice A2 xss[k].length c2) ∧ OwnInts w lo hi (.slice A2 xss[k].length c2) xss[k] := by
  obtain ⟨av, ⟨h0, ha⟩, hr, hlt⟩ := h
  have hcells := @World.ownsRow.cells w lo 23 1 _ xss.length av hr
  obtain ⟨hlen, hr2⟩ := hr
  rcases hr2 with ⟨e, e0⟩ | ⟨g, cap, cur, e, hb, hg, _⟩
  · omega
  · injection e with e1 _ _
    subst e1
    have h1 := ha k hk (by omega)
    obtain ⟨A2, c2, e2⟩ := h1.form
    have := hcells (g := g) rfl k (av[k]'(by omega)) (by simp [show k < av.length by omega])
    rw [Go.WideShapes.add_plain, Nat.zero_add, e2] at this
    exact ⟨g, A2, c2, rfl, Blk.lt hg, this, e2 ▸ h1⟩

/-- The relation of a loop that collects slices of integers: these lie from lo on, the row is new. -/
structure ColS (lo : Nat) (w wr : World) (xss : List (List Int)) (A : Option Addr) (c : Nat) (av : List Value) : Prop where
  below : Below w.heap.size w wr
  len : av.length = xss.length
  inn : ∀ i (h : i < xss.length) (h' : i < av.length), OwnInts wr lo wr.heap.size av[i] xss[i]
  row : wr.ownsRow w.heap.size 23 1 (.slice A xss.length c) xss.length av
theorem ColS.empty {lo : Nat} {w wr : World} (hb : Below w.heap.size w wr) : ColS lo w (wr.alloc (.cells #[] 23)) [] (some ⟨wr.heap.size, 0, none⟩) 0 [] :=
  ⟨hb.alloc hb.size _, rfl, fun i h => absurd h (by simp), World.ownsRow_made wr #[] 0 hb.size (by decide) rfl⟩
theorem ColS.on {lo : Nat} {w wr w2 : World} {xss : List (List Int)} {A : Option Addr} {c : Nat} {av : List Value} (h : ColS lo w wr xss A c av) (hb : Below wr.heap.size wr w2) : ColS lo w w2 xss A c av :=
  ⟨bthen h.below hb, h.len, fun i a b => ((h.inn i a b).below hb (Nat.le_refl _)).mono (Nat.le_refl _) hb.size, ownsRow_below h.row (fun g hg => (h.row.lt g hg).2) hb (Nat.le_refl _)⟩
theorem ColS.rows {lo : Nat} {w wr : World} {xss : List (List Int)} {A : Option Addr} {c : Nat} {av : List Value} (h : ColS lo w wr xss A c av) (hl : lo ≤ w.heap.size) : WkRows wr lo wr.heap.size (.slice A xss.length c) xss :=
  ⟨av, ⟨h.len, h.inn⟩, ownsRow_mono h.row hl, fun g hg => (h.row.lt g hg).2⟩
theorem ColS.push {lo : Nat} {w wr w2 w4 : World} {xss xss' : List (List Int)} {A : Option Addr} {c g cap : Nat} {xs : List Int} {u : Value} {o : Obj} {av : List Value} (h : ColS lo w wr xss A c av) (e : xss' = xss ++ [xs]) (hb : Below wr.heap.size wr w2) (hu : OwnInts w2 lo w2.heap.size u xs)
    (hg : (w2.alloc o).grownBy w4 (Value.slice A xss.length c).ownBlock) (hown : w4.ownsRow w.heap.size 23 1 (.slice (some ⟨g, 0, none⟩) (xss.length + 1) cap) (xss.length + 1) (av ++ [u])) :
    ColS lo w w4 xss' (some ⟨g, 0, none⟩) cap (av ++ [u]) ∧ xss.length + 1 = xss'.length := by
  subst e
  have h2 := h.on hb
  have hg' := grown_from_alloc hg
  have hl : (xss ++ [xs]).length = xss.length + 1 := by simp
  refine ⟨⟨(h2.below.alloc h2.below.size _).grown hg (by have := h2.below.size; simp; omega) (fun k hk => (h2.row.lt k hk).1), by simp [h.len], fun i h1 h3 => ?_, by rw [hl]; exact hown⟩, hl.symm⟩
  have keep : ∀ {a : Value} {ys : List Int}, OwnInts w2 lo w2.heap.size a ys → OwnInts w4 lo w4.heap.size a ys := fun {a ys} h0 =>
    (h0.kept fun b hbk => hg'.block b (h0.lt hbk).2.2 (fun e => rowsI_ne h2.row e.symm h0 hbk)).mono (Nat.le_refl _) hg'.size
  by_cases e : i < xss.length
  · rw [List.getElem_append_left (by rw [h.len]; exact e), List.getElem_append_left e]
    exact keep (h2.inn i e (by rw [h.len]; exact e))
  · have e2 : i = xss.length := by simp at h1; omega
    subst e2
    have := h.len
    simp [← this]
    exact keep hu

end Go.Proofs.YtfjmnjemmfmoaaaDoor
/-
  Marks on rules and programs that are not read again: markRuleS, markProgram.
-/
namespace Go.Proofs.YtfjmnjemmfmoaaaDoor
open Go.RowKit

theorem endR_le (k : Int) (r : LRule) : k ≤ endR k r ∧ endR k r ≤ k + 2 * (szR r : Int) := by
  unfold endR endL szR
  omega
theorem totR_take_le (rs : List LRule) (j : Nat) : totR (rs.take j) ≤ totR rs := by
  have := congrArg (fun l => (l.map szR).sum) (List.take_append_drop j rs)
  simp only [List.map_append, List.sum_append] at this
  unfold totR
  omega

set_option maxHeartbeats 1000000 in
set_option maxRecDepth 100000 in
theorem wmarkRuleS_le (v : Value) (rs : List LRule) (k : Int) (lo hi : Nat) (w : World) (h : WrRules w lo hi v rs) (hk0 : 0 ≤ k) (hk : k ≤ 2097152) (hn : rs.length ≤ 1048576) (ht : totR rs ≤ 1048576) :
    Calls Tryd.prog 83 #[v, .int .i64 k] w fun e w' => ∃ z : Int, e = .returned (.int .i64 z) ∧ (k ≤ z ∧ z ≤ k + (rs.length : Int) + 2 * (totR rs : Int)) ∧ Marked lo hi w w' := by
  have H := Lib.hid h
  obtain ⟨A, c, rfl, _⟩ := h
  go_enter Tryd.func83, Tryd.ntmps83
  go_wp2_with (fail)
  go_loopw [1, 5] (fun m i wr => ∃ (j : Nat) (q : Int), j ≤ rs.length ∧ i = .int .i64 j ∧ m = .int .i64 q ∧ (k ≤ q ∧ q ≤ k + (j : Int) + 2 * (totR (rs.take j) : Int)) ∧ Marked lo hi w wr) (fun _ i _ => rs.length - (intOf i).toNat)
  case atStart => exact ⟨0, k, Nat.zero_le _, rfl, rfl, by simp [totR], Marked.refl _ _ _⟩
  case round =>
    obtain ⟨j, q, hj, rfl, rfl, ⟨hq, hq2⟩, hm⟩ := hrel
    by_cases hlt : j < rs.length
    · obtain ⟨A', c', e, _, hx⟩ := H.out.marked hm
      injection e with e1 _ e3
      subst e1
      subst e3
      obtain ⟨b, o, rfl, h1, h2, hx⟩ := hx (by omega)
      obtain ⟨⟨f0, f1⟩, u0, u1, u2, c0, c1, c2, ⟨x, rfl⟩, hI, hL⟩ := hx j hlt
      have m0 := Marked.store (p := ⟨b, o + j * 3, none⟩) ⟨h1, h2⟩ c0 q
      have hI2 := hI.marked m0
      have hL2 := hL.marked m0
      obtain ⟨A3, n3, rfl, _⟩ := hI
      obtain ⟨A4, n4, rfl, _⟩ := hL
      have d1 := m0.slice c1
      have htk := totR_take rs j hlt
      have hle := totR_take_le rs (j + 1)
      have hsz : rs[j].1.2.length + (rs[j].2.length + totL rs[j].2) = szR rs[j] := rfl
      have hq0 : 0 ≤ q := by omega
      have hq1 : q ≤ 8388608 := by omega
      have HI := Lib.hid hI2
      have HL := Lib.hid hL2
      have HM := Lib.hid (hm.trans m0)
      have HE := endR_le (q + 1) rs[j]
      clear hx hI2 hL2
      go_wp2_with (fail)
      refine (wmarkIntS_any _ _ (q + 1) lo hi _ HI.out (by omega) (by omega)).mono ?_
      rintro e w3 ⟨rfl, hm3⟩
      have d2 := (m0.trans hm3).slice c2
      have HM3 := Lib.hid (HM.out.trans hm3)
      have HL3 := Lib.hid (HL.out.marked hm3)
      clear m0 hm3 c0 c1 c2 d1
      go_wp2_with (fail)
      refine (wmarkLitS_any _ rs[j].2 _ lo hi _ HL3.out (by omega) (by omega) (by omega) (by omega)).mono ?_
      rintro e w4 ⟨rfl, hm4⟩
      have HM4 := Lib.hid (HM3.out.trans hm4)
      have HQ := Lib.hid (show k ≤ endL (q + 1 + (rs[j].1.2.length : Int)) rs[j].2 ∧ endL (q + 1 + (rs[j].1.2.length : Int)) rs[j].2 ≤ k + ((j + 1 : Nat) : Int) + 2 * (totR (rs.take (j + 1)) : Int) by
        unfold endR at HE
        rw [htk]
        omega)
      clear HE htk
      go_wp2_with (fail)
      go_roundw
      case rel => exact ⟨j + 1, _, by omega, by go_num, rfl, HQ.out, HM4.out⟩
      case measure => simp [intOf]; omega
    · have HK := Lib.hid (show k ≤ q ∧ q ≤ k + (rs.length : Int) + 2 * (totR rs : Int) by
        have := totR_take_le rs j
        omega)
      clear hq hq2
      go_wp2_with (fail)
      go_ret
      exact ⟨_, rfl, HK.out, hm⟩

set_option maxHeartbeats 400000 in
theorem wmarkProgram_le (a b : Value) (p : LProg) (k : Int) (lo hi : Nat) (w : World) (h : WrInts w lo hi a p.1.length) (h2 : WrRules w lo hi b p.2) (hk0 : 0 ≤ k) (hk : k ≤ 1048576) (hs : szP p ≤ 1048576) :
    Calls Tryd.prog 39 #[.agg #[a, b], .int .i64 k] w fun e w' => ∃ z : Int, e = .returned (.int .i64 z) ∧ (k ≤ z ∧ z ≤ k + 2 * (szP p : Int)) ∧ Marked lo hi w w' := by
  have H := Lib.hid h
  have H2 := Lib.hid h2
  have HSZ := Lib.hid (show szP p = p.1.length + (p.2.length + totR p.2) from rfl)
  unfold szP at hs
  obtain ⟨A, c, rfl, _⟩ := h
  obtain ⟨A2, c2, rfl, _⟩ := h2
  go_enter Tryd.func39, Tryd.ntmps39
  go_wp2_with (fail)
  obtain ⟨w1, hw1⟩ : ∃ w1, w1 = w.alloc (Obj.cells #[Value.slice A p.1.length c, Value.slice A2 p.2.length c2] 40) := ⟨_, rfl⟩
  have M1 : Marked lo hi w w1 := by rw [hw1]; exact Marked.of_below (below1 _ _)
  have x1 : Blk w1 w.heap.size 40 #[.slice A p.1.length c, .slice A2 p.2.length c2] := by rw [hw1]; exact Blk.new _ _ _
  rw [← hw1]
  clear hw1
  refine (wmarkIntS_any _ _ k lo hi _ (H.out.marked M1) hk0 (by omega)).mono ?_
  rintro e w2 ⟨rfl, hm2⟩
  have y2 : w2.cell? ⟨w.heap.size, 1, none⟩ = some (.slice A2 p.2.length c2) := hm2.slice (x1.cell 1)
  have M2 := M1.trans hm2
  go_wp2_with (fail)
  refine (wmarkRuleS_le _ p.2 _ lo hi _ (H2.out.marked M2) (by omega) (by omega) (by omega) (by omega)).mono ?_
  rintro e w3 ⟨z, rfl, hz, hm3⟩
  have M3 := M2.trans hm3
  have HZ := Lib.hid (show k ≤ z ∧ z ≤ k + 2 * (szP p : Int) by rw [HSZ.out]; omega)
  clear hz
  go_wp2_with (fail)
  go_ret
  exact ⟨_, rfl, HZ.out, M3⟩
theorem wmarkProgram_any (a b : Value) (p : LProg) (k : Int) (lo hi : Nat) (w : World) (h : WrInts w lo hi a p.1.length) (h2 : WrRules w lo hi b p.2) (hk0 : 0 ≤ k) (hk : k ≤ 1048576) (hs : szP p ≤ 1048576) :
    Calls Tryd.prog 39 #[.agg #[a, b], .int .i64 k] w fun e w' => ∃ z : Int, e = .returned (.int .i64 z) ∧ 0 ≤ z ∧ Marked lo hi w w' :=
  (wmarkProgram_le a b p k lo hi w h h2 hk0 hk hs).mono fun _ _ ⟨z, h1, h2, h3⟩ => ⟨z, h1, by omega, h3⟩

end Go.Proofs.YtfjmnjemmfmoaaaDoor
/-
  What comes in, its lengths.
-/
namespace Go.Proofs.YtfjmnjemmfmoaaaDoor
open Go.RowKit

theorem ruleLens_in {r : LRule} (h : ruleFitsIn r) : ruleLens r := by
  obtain ⟨h1, h2, h3⟩ := h
  unfold maxLen at *
  exact ⟨by omega, by omega, fun k hk => by have := h3 k hk; omega⟩
theorem progLens_in {p : LProg} (h : p.1.length ≤ maxLen ∧ p.2.length ≤ maxLen ∧ ∀ k (h : k < p.2.length), ruleFitsIn p.2[k]) : progLens p := by
  obtain ⟨h1, h2, h3⟩ := h
  refine ⟨?_, ?_, fun k hk => ruleLens_in (h3 k hk)⟩ <;> (unfold maxLen at *; omega)

end Go.Proofs.YtfjmnjemmfmoaaaDoor
/-
  Programs that a call has made, and their sizes and marks, in the one form that the laws' walks ask.
-/
namespace Go.Proofs.YtfjmnjemmfmoaaaDoor
open Go.RowKit

/-- A program whose two rows stand in blocks from lo on and below hi. -/
def OwnProg (w : World) (lo hi : Nat) (v : Value) (p : LProg) : Prop := ∃ a b, v = .agg #[a, b] ∧ OwnInts w lo hi a p.1 ∧ OwnRules w lo hi b p.2
theorem RdProg.more {w : World} {B B' : Nat} {v : Value} {p : LProg} (h : RdProg w B v p) (hB : B ≤ B') : RdProg w B' v p := by
  obtain ⟨a, b, rfl, h1, h2⟩ := h
  exact ⟨a, b, rfl, h1.more hB, h2.more hB⟩
theorem OwnProg.below {w w' : World} {lo hi B : Nat} {v : Value} {p : LProg} (h : OwnProg w lo hi v p) (hb : Below B w w') (hB : hi ≤ B) : OwnProg w' lo hi v p := by
  obtain ⟨a, b, rfl, h1, h2⟩ := h
  exact ⟨a, b, rfl, h1.below hb hB, h2.below hb hB⟩
theorem OwnProg.only {w w' : World} {lo hi lo' hi' : Nat} {v : Value} {p : LProg} (h : OwnProg w lo hi v p) (ho : Only lo' hi' w w') (hd : hi ≤ lo' ∨ hi' ≤ lo) (hh : hi ≤ w.heap.size) : OwnProg w' lo hi v p := by
  obtain ⟨a, b, rfl, h1, h2⟩ := h
  exact ⟨a, b, rfl, h1.only ho hd, h2.keep fun g h3 h4 => ho.block g (by omega) (by omega)⟩
theorem OwnProg.rd {w : World} {lo hi : Nat} {v : Value} {p : LProg} (h : OwnProg w lo hi v p) : RdProg w hi v p := by
  obtain ⟨a, b, rfl, h1, h2⟩ := h
  exact ⟨a, b, rfl, h1.rd, h2.rd⟩

theorem toProgram_own (v : Value) (p : LProg) (w : World) (h : RdProg w w.heap.size v p) (hn : szP p ≤ 1048576) :
    Calls Tryd.prog 33 #[v] w fun e w' => ∃ A c A2 c2, e = .returned (.agg #[.slice A p.1.length c, .slice A2 p.2.length c2]) ∧ OwnProg w' w.heap.size w'.heap.size (.agg #[.slice A p.1.length c, .slice A2 p.2.length c2]) p ∧ Below w.heap.size w w' :=
  (toProgram_any v p w h hn).mono fun _ _ ⟨A, c, A2, c2, he, h1, h2, hb⟩ => ⟨A, c, A2, c2, he, ⟨_, _, rfl, h1, h2⟩, hb⟩

theorem us_prog {v : Value} {p : LProg} {left : Int} {w : World} (h : RdProg w w.heap.size v p) (h0 : 0 ≤ left) (hl : left ≤ 1048576) (hn : progLens p) :
    Calls Tryd.prog 31 #[v, .int .i64 left] w fun e w' => ∃ z, e = .returned (.int .i64 z) ∧ (z = -1 ∨ (0 ≤ z ∧ z + szP p = left)) ∧ Below w.heap.size w w' :=
  szProgram_any v p left w h h0 hl hn

theorem um_prog {v : Value} {p : LProg} {lo hi : Nat} {w : World} (k : Int) (h : OwnProg w lo hi v p) (hk0 : 0 ≤ k) (hk : k ≤ 1048576) (hs : szP p ≤ 1048576) :
    Calls Tryd.prog 39 #[v, .int .i64 k] w fun e w' => ∃ z, e = .returned (.int .i64 z) ∧ k ≤ z ∧ z ≤ k + 2 * (szP p : Int) ∧ True ∧ Only lo hi w w' := by
  obtain ⟨a, b, rfl, h1, h2⟩ := h
  exact (wmarkProgram_le a b p k lo hi w h1.wr h2.wr hk0 hk hs).mono fun _ _ ⟨z, he, hz, hm⟩ => ⟨z, he, hz.1, hz.2, trivial, hm.only⟩

end Go.Proofs.YtfjmnjemmfmoaaaDoor
/-
  The specification's table of links: the walk of l5Links.
-/
namespace Go.Proofs.YtfjmnjemmfmoaaaDoor
open Go.RowKit

/-- A square table of numbers: its rows lie behind its head, in their order. -/
structure GridAt (w : World) (g n : Nat) (T : Nat → Nat → Nat) : Prop where
  heads : w.rowIs g 23 n (fun i => .slice (some ⟨g + 1 + i, 0, none⟩) n n)
  rows : ∀ i, i < n → w.rowIs (g + 1 + i) 3 n (fun k => .int .i64 ((T i k : Nat) : Int))
section
variable {w w' : World} {g n lo hi B : Nat} {T T' : Nat → Nat → Nat}
theorem GridAt.cell (h : GridAt w g n T) {i k : Nat} (hi : i < n) (hk : k < n) : w.cell? ⟨g + 1 + i, k, none⟩ = some (.int .i64 ((T i k : Nat) : Int)) := (h.rows i hi).cell hk
theorem GridAt.head (h : GridAt w g n T) {i : Nat} (hi : i < n) : w.cell? ⟨g, i, none⟩ = some (.slice (some ⟨g + 1 + i, 0, none⟩) n n) := h.heads.cell hi
theorem GridAt.below (h : GridAt w g n T) (hb : Below B w w') (hg : g + 1 + n ≤ B) : GridAt w' g n T :=
  ⟨h.heads.of_block (hb.block g (by omega)), fun i hi => (h.rows i hi).of_block (hb.block _ (by omega))⟩
theorem GridAt.drewn (h : GridAt w g n T) : GridAt w.drew g n T := ⟨h.heads, h.rows⟩
theorem GridAt.set (h : GridAt w g n T) {i k x : Nat} (hi : i < n) (hT : ∀ a b, T' a b = if a = i ∧ b = k then x else T a b) : GridAt (w.setCell ⟨g + 1 + i, k, none⟩ (.int .i64 ((x : Nat) : Int))) g n T' := by
  refine ⟨h.heads.setOther (by show g ≠ g + 1 + i; omega) _, fun j hj => ?_⟩
  by_cases e : j = i
  · subst e
    refine ((h.rows j hj).set k (.int .i64 ((x : Nat) : Int))).congr fun b _ => ?_
    rw [hT]
    by_cases e2 : b = k <;> simp [e2]
  · refine ((h.rows j hj).setOther (by show g + 1 + j ≠ g + 1 + i; omega) _).congr fun b _ => ?_
    rw [hT, if_neg (fun h => e h.1)]
theorem GridAt.congr (h : GridAt w g n T) (e : ∀ i k, i < n → k < n → T i k = T' i k) : GridAt w g n T' := ⟨h.heads, fun i hi => (h.rows i hi).congr fun k hk => by rw [e i k hi hk]⟩
theorem GridAt.lt (h : GridAt w g n T) : g < w.heap.size := h.heads.lt
end

set_option maxHeartbeats 4000000 in
set_option maxRecDepth 100000 in
theorem l5Links_any (v : Value) (p : LProg) (w : World) (h : RdProg w w.heap.size v p) (hs : szP p ≤ 1048576) (hn : p.1.length ≤ 24) (hf : ∀ x ∈ asksOf p.2, AskFits p.1.length x) :
    Calls Tryd.prog 92 #[v] w fun e w' => ∃ g, e = .returned (.slice (some ⟨g, 0, none⟩) p.1.length p.1.length) ∧ GridAt w' g p.1.length (cellV (asksOf p.2)) ∧ w.heap.size ≤ g ∧ g + 1 + p.1.length ≤ w'.heap.size ∧ Below w.heap.size w w' := by
  have HP := Lib.hid h
  have HF := Lib.hid hf
  have hs' := hs
  unfold szP at hs'
  have HBL := Lib.hid (show ∀ r ∈ p.2, r.2.length ≤ 1048576 from fun r hr => by
    obtain ⟨k, hk, rfl⟩ := List.getElem_of_mem hr
    have := sz_le_totR p.2 k hk
    unfold szR at this
    omega)
  obtain ⟨a, b, rfl, hA, hR⟩ := h
  have HR := Lib.hid hR
  obtain ⟨A, c, rfl, hcA, _⟩ := hA
  obtain ⟨A2, c2, rfl, hcR, _⟩ := hR
  have hmk1 := fun W => run_make_row' (P := Tryd.prog) 59 23 (.slice none 0 0) 24 Tryd.underlying59 Tryd.infoIntS rfl .i64 .i64 p.1.length (by omega) (by omega) W
  have hmk2 := fun W => run_make_row' (P := Tryd.prog) 23 3 (.int .i64 0) 8 Tryd.underlying23 Tryd.infoInt rfl .i64 .i64 p.1.length (by omega) (by omega) W
  clear hf
  obtain ⟨n, hne⟩ : ∃ n, n = p.1.length := ⟨_, rfl⟩
  rw [← hne] at hmk1 hmk2 hn HF hs' hcA ⊢
  obtain ⟨rs, hrs⟩ : ∃ rs, rs = p.2 := ⟨_, rfl⟩
  rw [← hrs] at HF HBL HR hs' hcR ⊢
  clear hne hrs
  go_enter Tryd.func92, Tryd.ntmps92
  go_upto_region 1 with fail
  obtain ⟨w1, hw1⟩ : ∃ w1, w1 = w.alloc (Obj.cells #[Value.slice A n c, Value.slice A2 rs.length c2] 40) := ⟨_, rfl⟩
  have X1 : Blk w1 w.heap.size 40 #[.slice A n c, .slice A2 rs.length c2] := by rw [hw1]; exact Blk.new _ _ _
  have B1 : Below w.heap.size w w1 := by rw [hw1]; exact below1 _ _
  have hs1 : w1.heap.size = w.heap.size + 1 := by rw [hw1]; simp
  rw [← hw1]
  have x0 : w1.cell? ⟨w.heap.size, 0, none⟩ = some (.slice A n c) := X1.cell 0
  clear hw1
  go_upto_region 2 with fail
  obtain ⟨g, hg⟩ : ∃ g, g = w.heap.size + 1 := ⟨_, rfl⟩
  obtain ⟨w2, hw2⟩ : ∃ w2, w2 = w1.alloc (Obj.cells (madeCells #[Value.slice none 0 0] n) 23) := ⟨_, rfl⟩
  have R2 : w2.rowIs g 23 n (fun _ => .slice none 0 0) := by rw [hw2, hg, ← hs1]; exact World.rowIs_made _ _ _ _
  have B2 : Below w.heap.size w w2 := by rw [hw2]; exact bthen B1 (below1 _ _)
  have hs2 : w2.heap.size = g + 1 := by rw [hw2, hg]; simp [hs1]
  have X2 : Blk w2 w.heap.size 40 #[.slice A n c, .slice A2 rs.length c2] := by rw [hw2]; exact X1.alloc _
  rw [← hw2, show w.heap.size + 1 = g from hg.symm]
  have hgw : w.heap.size < g := by omega
  have HS2 := Lib.hid hs2
  have HR2 := Lib.hid R2
  have HX2 := Lib.hid X2
  have HB2 := Lib.hid B2
  clear hw2 hg hs1 R2 X2 B2 X1 B1 hs2 hmk1 x0
  go_wp2_with fail
  go_loopw [4] (fun i wr => ∃ k : Nat, k ≤ n ∧ i = .int .i64 k ∧ wr.rowIs g 23 n (fun j => if j < k then .slice (some ⟨g + 1 + j, 0, none⟩) n n else .slice none 0 0) ∧ (∀ j, j < k → wr.rowIs (g + 1 + j) 3 n (fun _ => .int .i64 0)) ∧ wr.heap.size = g + 1 + k ∧ Below w.heap.size w wr ∧ Blk wr w.heap.size 40 #[.slice A n c, .slice A2 rs.length c2]) (fun i _ => n - (intOf i).toNat)
  case atStart => exact ⟨0, Nat.zero_le _, rfl, HR2.out.congr (fun j _ => by simp), fun j h => absurd h (Nat.not_lt_zero _), HS2.out, HB2.out, HX2.out⟩
  case round =>
    obtain ⟨k, hk, rfl, hr, hrows, hsz, hbe, hX⟩ := hrel
    have q0 : wr.cell? ⟨w.heap.size, 0, none⟩ = some (.slice A n c) := hX.cell 0
    by_cases hlt : k < n
    · have hck := hr.cell hlt
      rw [if_neg (Nat.lt_irrefl k)] at hck
      have hfk := hr.frozen k
      have hck3 : (wr.alloc (Obj.cells (madeCells #[Value.int .i64 0] n) 3)).cell? ⟨g, k, none⟩ = some (.slice none 0 0) := ((below1 wr _).cell (p := ⟨g, k, none⟩) (by show g < _; omega)).trans hck
      have hfk3 : (wr.alloc (Obj.cells (madeCells #[Value.int .i64 0] n) 3)).frozen? ⟨g, k, none⟩ = false := (hr.alloc _).frozen k
      have HN := Lib.hid (show ((wr.alloc (Obj.cells (madeCells #[Value.int .i64 0] n) 3)).setCell ⟨g, k, none⟩ (.slice (some ⟨g + 1 + k, 0, none⟩) n n)).rowIs g 23 n (fun j => if j < k + 1 then .slice (some ⟨g + 1 + j, 0, none⟩) n n else .slice none 0 0) ∧ (∀ j, j < k + 1 → ((wr.alloc (Obj.cells (madeCells #[Value.int .i64 0] n) 3)).setCell ⟨g, k, none⟩ (.slice (some ⟨g + 1 + k, 0, none⟩) n n)).rowIs (g + 1 + j) 3 n (fun _ => .int .i64 0)) ∧ ((wr.alloc (Obj.cells (madeCells #[Value.int .i64 0] n) 3)).setCell ⟨g, k, none⟩ (.slice (some ⟨g + 1 + k, 0, none⟩) n n)).heap.size = g + 1 + (k + 1) ∧ Below w.heap.size w ((wr.alloc (Obj.cells (madeCells #[Value.int .i64 0] n) 3)).setCell ⟨g, k, none⟩ (.slice (some ⟨g + 1 + k, 0, none⟩) n n)) ∧ Blk ((wr.alloc (Obj.cells (madeCells #[Value.int .i64 0] n) 3)).setCell ⟨g, k, none⟩ (.slice (some ⟨g + 1 + k, 0, none⟩) n n)) w.heap.size 40 #[.slice A n c, .slice A2 rs.length c2] from by
        refine ⟨((hr.alloc _).set k _).congr fun j hj => ?_, fun j hj => ?_, by simp [hsz]; omega, (hbe.alloc hbe.size _).setCell (by show w.heap.size ≤ g; omega) _, (hX.alloc _).far (by show w.heap.size ≠ g; omega) _⟩
        · by_cases e : j = k
          · subst e
            simp
          · rw [if_neg e]
            by_cases e2 : j < k
            · rw [if_pos e2, if_pos (by omega)]
            · rw [if_neg e2, if_neg (by omega)]
        · by_cases e : j = k
          · subst e
            have h1 := World.rowIs_made wr (.int .i64 0) n 3
            rw [hsz] at h1
            exact h1.setOther (by show g + 1 + j ≠ g; omega) _
          · exact ((hrows j (by omega)).alloc _).setOther (by show g + 1 + j ≠ g; omega) _)
      have hwsz : wr.heap.size = g + 1 + k := hsz
      clear hr hrows hbe hX hck hfk
      go_wp2_with fail
      go_roundw
      case rel => exact ⟨k + 1, by omega, by go_num, HN.out⟩
      case measure => simp [intOf]; omega
    · have HG := Lib.hid (show GridAt wr g n (cellV []) ∧ wr.heap.size = g + 1 + n ∧ Below w.heap.size w wr ∧ Blk wr w.heap.size 40 #[.slice A n c, .slice A2 rs.length c2] from by
        obtain rfl : k = n := by omega
        exact ⟨⟨hr.congr fun j hj => by rw [if_pos hj], fun j hj => hrows j hj⟩, hsz, hbe, hX⟩)
      clear hr hrows hbe hX hsz q0
      go_upto_region 6 with fail
      obtain ⟨G3, hsz3, BW3, X3⟩ := HG.out
      obtain ⟨w3, rfl⟩ : ∃ w3, w3 = wr := ⟨_, rfl⟩
      have HX3 := Lib.hid X3
      have HBW3 := Lib.hid BW3
      have HSZ3 := Lib.hid hsz3
      clear X3 BW3 hsz3 HG
      have HG3 := Lib.hid G3
      clear G3
      go_wp2_with fail
      go_loopw [5] (fun i wr => ∃ k : Nat, k ≤ rs.length ∧ i = .int .i64 k ∧ GridAt wr g n (cellV (asksOf (rs.take k))) ∧ Only g (g + 1 + n) w3 wr) (fun i _ => rs.length - (intOf i).toNat)
      case atStart => exact ⟨0, Nat.zero_le _, rfl, by simpa [asksOf] using HG3.out, Only.refl _ _ _⟩
      case round =>
        obtain ⟨k, hk, rfl, hat, hon⟩ := hrel
        have hs3 := HSZ3.out
        have BW : Below w.heap.size w wr := Only.then_ HBW3.out hon (by omega)
        have HON := Lib.hid hon
        have hsz0 := hon.size
        have q1 : wr.cell? ⟨w.heap.size, 1, none⟩ = some (.slice A2 rs.length c2) := (HX3.out.only hon (.inl hgw)).cell 1
        by_cases hlt : k < rs.length
        · obtain ⟨b, o, u0, u1, u2, rfl, hbB, k0, k1, k2, rfl, q3, q2⟩ := (HR.out.below BW (Nat.le_refl _)).get hlt
          have hwr : w.heap.size ≤ wr.heap.size := BW.size
          have Q2 := Lib.hid q2
          obtain ⟨A3, c3, rfl, _⟩ := q3
          obtain ⟨A4, c4, rfl, _⟩ := q2
          have hbl := HBL.out _ (List.getElem_mem hlt)
          clear hon
          go_upto_region 10 with fail
          obtain ⟨wv, hwv⟩ : ∃ wv, wv = wr.alloc (Obj.cells #[Value.int .i64 rs[k].1.1, Value.slice A3 rs[k].1.2.length c3, Value.slice A4 rs[k].2.length c4] 28) := ⟨_, rfl⟩
          have bv : Below wr.heap.size wr wv := by rw [hwv]; exact below1 _ _
          have X : Blk wv wr.heap.size 28 #[.int .i64 rs[k].1.1, .slice A3 rs[k].1.2.length c3, .slice A4 rs[k].2.length c4] := by rw [hwv]; exact Blk.new _ _ _
          rw [← hwv]
          have hvl := X.lt
          clear hwv k0 k1 k2 q1
          have hgr : g + 1 + n ≤ wr.heap.size := by omega
          have HATV := Lib.hid (hat.below bv hgr)
          have HX := Lib.hid X
          have HBV := Lib.hid bv
          clear hat X bv
          go_wp2_with fail
          obtain ⟨wo, rfl⟩ : ∃ wo, wo = wr := ⟨_, rfl⟩
          go_loopw [7] (fun i wr => ∃ m : Nat, m ≤ rs[k].2.length ∧ i = .int .i64 m ∧ GridAt wr g n (cellV (asksOf (rs.take k) ++ (rs[k].2.take m).map fun l => (rs[k].1.1, l))) ∧ Only g (g + 1 + n) wv wr) (fun i _ => rs[k].2.length - (intOf i).toNat)
          case atStart => exact ⟨0, Nat.zero_le _, rfl, by simpa using HATV.out, Only.refl _ _ _⟩
          case round =>
            obtain ⟨m, hm, rfl, hax, honx⟩ := hrel
            have hsx := honx.size
            have Xx := HX.out.only honx (.inr hgr)
            have q2 : wr.cell? ⟨wo.heap.size, 2, none⟩ = some (.slice A4 rs[k].2.length c4) := Xx.cell 2
            by_cases hltm : m < rs[k].2.length
            · obtain ⟨b5, o5, y0, y1, y2, rfl, hb5, l0, l1, l2, rfl, rfl, q5⟩ := (Q2.out.below ((HBV.out.mono hwr).trans (honx.below (by omega) (by omega))) (Nat.le_refl _)).get hltm
              obtain ⟨A5, c5, rfl, _⟩ := q5
              obtain ⟨x, hxe⟩ : ∃ x : LAsk, x = (rs[k].1.1, rs[k].2[m]) := ⟨_, rfl⟩
              have HXE := Lib.hid (show x.2.1 = rs[k].2[m].1 by rw [hxe])
              have HFX := Lib.hid (show AskFits n x by rw [hxe]; exact HF.out _ (asksOf_mem hlt hltm))
              obtain ⟨ps, hps⟩ : ∃ ps, ps = asksOf (rs.take k) ++ (rs[k].2.take m).map fun l => (rs[k].1.1, l) := ⟨_, rfl⟩
              have HPS := Lib.hid (show asksOf (rs.take k) ++ (rs[k].2.take (m + 1)).map (fun l => (rs[k].1.1, l)) = ps ++ [x] from by
                rw [take_snoc _ _ hltm, List.map_append, ← List.append_assoc, ← hps, hxe]; rfl)
              rw [← hps] at hax
              obtain ⟨p, hpe⟩ : ∃ p : Nat, rs[k].1.1 = (p : Int) := ⟨rs[k].1.1.toNat, by have := HFX.out.1; rw [hxe] at this; have := this.1; omega⟩
              have hpn : p < n := by have := HFX.out.1.2; rw [hxe] at this; have : rs[k].1.1 < (n : Int) := this; omega
              have x0 : wr.cell? ⟨wo.heap.size, 0, none⟩ = some (.int .i64 p) := by rw [← hpe]; exact Xx.cell 0
              clear hps
              go_upto_region 14 with fail
              obtain ⟨wl, hwl⟩ : ∃ wl, wl = wr.alloc (Obj.cells #[Value.int .i64 rs[k].2[m].1, Value.int .i64 rs[k].2[m].2.1, Value.slice A5 rs[k].2[m].2.2.length c5] 73) := ⟨_, rfl⟩
              have bl : Below wr.heap.size wr wl := by rw [hwl]; exact below1 _ _
              have Y : Blk wl wr.heap.size 73 #[.int .i64 rs[k].2[m].1, .int .i64 rs[k].2[m].2.1, .slice A5 rs[k].2[m].2.2.length c5] := by rw [hwl]; exact Blk.new _ _ _
              rw [← hwl]
              clear hwl l0 l1 l2 q2
              have z0 : wl.cell? ⟨wo.heap.size, 0, none⟩ = some (.int .i64 p) := (bl.cell (World.block_lt_of_cell? _ _ x0)).trans x0
              have HAL := Lib.hid (hax.below bl (by omega))
              have HOL := Lib.hid (honx.trans (Only.of_below bl))
              have hpi : (p : Int) < n := by omega
              have hlt1 : g + 1 + n ≤ wr.heap.size := by omega
              clear x0 hax honx Xx
              by_cases hk0 : rs[k].2[m].1 = 0
              · have hb0 : (rs[k].2[m].1 == 0) = true := by simp [hk0]
                have hb1 : (rs[k].2[m].1 == 1) = false := by simp; omega
                obtain ⟨hx1, hx2⟩ : 0 ≤ rs[k].2[m].2.1 ∧ rs[k].2[m].2.1 < n := by have := HFX.out.2 (.inl (HXE.out.trans hk0)); rw [hxe] at this; exact this
                obtain ⟨q, hqe⟩ : ∃ q : Nat, rs[k].2[m].2.1 = (q : Int) := ⟨rs[k].2[m].2.1.toNat, by omega⟩
                have hqn : q < n := by omega
                have hqi : (q : Int) < n := by omega
                have HXK := Lib.hid (show x.1 = (p : Int) ∧ x.2.1 = 0 ∧ x.2.2.1 = (q : Int) from ⟨by rw [hxe]; exact hpe, HXE.out.trans hk0, by rw [hxe]; exact hqe⟩)
                have e0 : wl.cell? ⟨wr.heap.size, 0, none⟩ = some (.int .i64 rs[k].2[m].1) := Y.cell 0
                have z1 : wl.cell? ⟨wr.heap.size, 1, none⟩ = some (.int .i64 q) := by rw [← hqe]; exact Y.cell 1
                obtain ⟨t, ht⟩ : ∃ t, t = cellV ps p q := ⟨_, rfl⟩
                have ht3 : t ≤ 3 := by rw [ht]; exact cellV_le _ _ _
                have HTE := Lib.hid ht.symm
                have z2 : wl.cell? ⟨g, p, none⟩ = some (.slice (some ⟨g + 1 + p, 0, none⟩) n n) := HAL.out.head hpn
                have z3 : wl.cell? ⟨g + 1 + p, q, none⟩ = some (.int .i64 ((t : Nat) : Int)) := by rw [ht]; exact HAL.out.cell hpn hqn
                have z4 : wl.frozen? ⟨g + 1 + p, q, none⟩ = false := (HAL.out.rows p hpn).frozen q
                have d0 : wl.drew.cell? ⟨wo.heap.size, 0, none⟩ = some (.int .i64 p) := z0
                have d1 : wl.drew.cell? ⟨wr.heap.size, 1, none⟩ = some (.int .i64 q) := z1
                have d2 : wl.drew.cell? ⟨g, p, none⟩ = some (.slice (some ⟨g + 1 + p, 0, none⟩) n n) := z2
                have d3 : wl.drew.cell? ⟨g + 1 + p, q, none⟩ = some (.int .i64 ((t : Nat) : Int)) := z3
                have d4 : wl.drew.frozen? ⟨g + 1 + p, q, none⟩ = false := z4
                have dd0 : wl.drew.drew.cell? ⟨wo.heap.size, 0, none⟩ = some (.int .i64 p) := z0
                have dd1 : wl.drew.drew.cell? ⟨wr.heap.size, 1, none⟩ = some (.int .i64 q) := z1
                have dd2 : wl.drew.drew.cell? ⟨g, p, none⟩ = some (.slice (some ⟨g + 1 + p, 0, none⟩) n n) := z2
                have dd3 : wl.drew.drew.cell? ⟨g + 1 + p, q, none⟩ = some (.int .i64 ((t : Nat) : Int)) := z3
                have dd4 : wl.drew.drew.frozen? ⟨g + 1 + p, q, none⟩ = false := z4
                have de0 : wl.drew.cell? ⟨wr.heap.size, 0, none⟩ = some (.int .i64 rs[k].2[m].1) := e0
                have dde0 : wl.drew.drew.cell? ⟨wr.heap.size, 0, none⟩ = some (.int .i64 rs[k].2[m].1) := e0
                clear ht hx1 hx2 hxe hpe hqe
                by_cases htt : t % 2 = 0
                · have hT : (((t : Nat) : Int) % 2 == 0) = true := by simp; omega
                  have HC0 := Lib.hid (show ∀ a b, cellV (ps ++ [x]) a b = if a = p ∧ b = q then t + 1 else cellV ps a b from fun a b => by
                    rw [cellV_snoc, HXK.out.1, HXK.out.2.1, HXK.out.2.2]
                    by_cases e : a = p ∧ b = q
                    · obtain ⟨rfl, rfl⟩ := e
                      rw [if_pos (show ((a : Int) = a ∧ (b : Int) = b) from ⟨rfl, rfl⟩), HTE.out, if_pos (show ((0 : Int) = 0 ∧ t % 2 = 0) from ⟨rfl, htt⟩), if_pos (show a = a ∧ b = b from ⟨rfl, rfl⟩)]
                    · rw [if_neg e, if_neg (by omega)])
                  clear hk0
                  go_upto_region 14 with fail
                  go_big_region
                  have HAM := HAL.out.drewn
                  have HOM := HOL.out.drewn
                  clear z0 z1 z2 z3 z4 e0 dd0 dd1 dd2 dd3 dd4 dde0
                  go_upto_region 15 with fail
                  generalize wl.drew = wm at *
                  have HN := Lib.hid (show GridAt (wm.setCell ⟨g + 1 + p, q, none⟩ (.int .i64 ((t : Int) + 1))).drew.drew g n (cellV (ps ++ [x])) from (GridAt.set (x := t + 1) HAM hpn HC0.out).drewn.drewn)
                  have HO6 := Lib.hid (show Only g (g + 1 + n) wv (wm.setCell ⟨g + 1 + p, q, none⟩ (.int .i64 ((t : Int) + 1))).drew.drew from (HOM.setCell ⟨by show g ≤ g + 1 + p; omega, by show g + 1 + p < g + 1 + n; omega⟩ _).drewn.drewn)
                  have s3 : wm.drew.cell? ⟨g + 1 + p, q, none⟩ = some (.int .i64 ((t : Nat) : Int)) := d3
                  have s4 : wm.drew.frozen? ⟨g + 1 + p, q, none⟩ = false := d4
                  obtain ⟨SS, hSS⟩ : ∃ SS : World → Prop, SS = (fun W => Below wm.heap.size wm W ∧ W.cell? ⟨wo.heap.size, 0, none⟩ = some (.int .i64 p) ∧ W.cell? ⟨wr.heap.size, 1, none⟩ = some (.int .i64 q) ∧ W.cell? ⟨g, p, none⟩ = some (.slice (some ⟨g + 1 + p, 0, none⟩) n n) ∧ W.cell? ⟨g + 1 + p, q, none⟩ = some (.int .i64 ((t : Nat) : Int))) := ⟨_, rfl⟩
                  have HB := Lib.hid (show ∀ W, SS W → (Below wm.heap.size wm W ∧ W.cell? ⟨wo.heap.size, 0, none⟩ = some (.int .i64 p) ∧ W.cell? ⟨wr.heap.size, 1, none⟩ = some (.int .i64 q) ∧ W.cell? ⟨g, p, none⟩ = some (.slice (some ⟨g + 1 + p, 0, none⟩) n n) ∧ W.cell? ⟨g + 1 + p, q, none⟩ = some (.int .i64 ((t : Nat) : Int))) from by rw [hSS]; exact fun W hW => hW)
                  have HS := Lib.hid (show ∀ W, Below wm.heap.size wm W → SS W from by
                    rw [hSS]
                    exact fun W hW => ⟨hW, (hW.cell (World.block_lt_of_cell? _ _ d0)).trans d0, (hW.cell (World.block_lt_of_cell? _ _ d1)).trans d1, (hW.cell (World.block_lt_of_cell? _ _ d2)).trans d2, (hW.cell (World.block_lt_of_cell? _ _ d3)).trans d3⟩)
                  have BB : Below wm.heap.size wm wm.drew := (Below.refl _ _).drew
                  have SB := HS.out _ BB
                  clear hSS d0 d1 d2 d3 d4 HAM HOM
                  refine wp_region_rel SS 22 23 (by kernel_rfl) rfl ?_
                  refine wpAnyR_pure (i := 0) (oi := _) ?v0 rfl rfl (by kernel_rfl) (by decide) (fun _ _ _ h => h) rfl ?hy0 (fun _ => SB) ?rest0
                  case hy0 => (intro W; go_simp; (try with_reducible rfl))
                  try simp only [List.setIfInBounds_toArray, List.set_cons_zero, List.set_cons_succ]
                  refine wpAnyR_pure (i := 1) (oi := _) ?v1 rfl rfl (by kernel_rfl) (by decide) (fun _ _ _ h => h) rfl ?hy1 (fun _ => SB) ?rest1
                  case hy1 => (intro W; go_simp; (try with_reducible rfl))
                  try simp only [List.setIfInBounds_toArray, List.set_cons_zero, List.set_cons_succ]
                  refine wpAnyR_pure (i := 2) (oi := _) ?v2 rfl rfl (by kernel_rfl) (by decide) (fun _ _ _ h => h) rfl ?hy2 (fun _ => SB) ?rest2
                  case hy2 => (intro W; go_simp; (try with_reducible rfl))
                  try simp only [List.setIfInBounds_toArray, List.set_cons_zero, List.set_cons_succ]
                  refine wpAnyR_take (i := 3) (oi := _) ?v3 rfl rfl (by kernel_rfl) (fun _ _ _ h => h) rfl ?hy3 SB ?rest3
                  case hy3 => (intro W hW; obtain ⟨_, c0, c1, c2, c3⟩ := HB.out W hW; go_simp; (try with_reducible rfl))
                  try simp only [List.setIfInBounds_toArray, List.set_cons_zero, List.set_cons_succ]
                  refine wpAnyR_pure (i := 4) (oi := _) ?v4 rfl rfl (by kernel_rfl) (by decide) (fun _ _ _ h => h) rfl ?hy4 (fun _ => SB) ?rest4
                  case hy4 => (intro W; go_simp; (try with_reducible rfl))
                  try simp only [List.setIfInBounds_toArray, List.set_cons_zero, List.set_cons_succ]
                  refine wpAnyR_take (i := 5) (oi := _) ?v5 rfl rfl (by kernel_rfl) (fun _ _ _ h => h) rfl ?hy5 SB ?rest5
                  case hy5 => (intro W hW; obtain ⟨_, c0, c1, c2, c3⟩ := HB.out W hW; go_simp; (try with_reducible rfl))
                  try simp only [List.setIfInBounds_toArray, List.set_cons_zero, List.set_cons_succ]
                  refine wpAnyR_pure (i := 6) (oi := _) ?v6 rfl rfl (by kernel_rfl) (by decide) (fun _ _ _ h => h) rfl ?hy6 (fun _ => SB) ?rest6
                  case hy6 => (intro W; go_simp; (try with_reducible rfl))
                  try simp only [List.setIfInBounds_toArray, List.set_cons_zero, List.set_cons_succ]
                  refine wpAnyR_pure (i := 7) (oi := _) ?v7 rfl rfl (by kernel_rfl) (by decide) (fun _ _ _ h => h) rfl ?hy7 (fun _ => SB) ?rest7
                  case hy7 => (intro W; go_simp; (try with_reducible rfl))
                  try simp only [List.setIfInBounds_toArray, List.set_cons_zero, List.set_cons_succ]
                  refine wpAnyR_take (i := 8) (oi := _) ?v8 rfl rfl (by kernel_rfl) (fun _ _ _ h => h) rfl ?hy8 SB ?rest8
                  case hy8 => (intro W hW; obtain ⟨_, c0, c1, c2, c3⟩ := HB.out W hW; go_simp; (try with_reducible rfl))
                  try simp only [List.setIfInBounds_toArray, List.set_cons_zero, List.set_cons_succ]
                  refine wpAnyR_pure (i := 9) (oi := _) ?v9 rfl rfl (by kernel_rfl) (by decide) (fun _ _ _ h => h) rfl ?hy9 (fun _ => SB) ?rest9
                  case hy9 => (intro W; go_simp; (try with_reducible rfl))
                  try simp only [List.setIfInBounds_toArray, List.set_cons_zero, List.set_cons_succ]
                  refine wpAnyR_pure (i := 10) (oi := _) ?v10 rfl rfl (by kernel_rfl) (by decide) (fun _ _ _ h => h) rfl ?hy10 (fun _ => SB) ?rest10
                  case hy10 => (intro W; go_simp; (try with_reducible rfl))
                  try simp only [List.setIfInBounds_toArray, List.set_cons_zero, List.set_cons_succ]
                  refine wpAnyR_pure (i := 11) (oi := _) ?v11 rfl rfl (by kernel_rfl) (by decide) (fun _ _ _ h => h) rfl ?hy11 (fun _ => SB) ?rest11
                  case hy11 => (intro W; go_simp; (try with_reducible rfl))
                  try simp only [List.setIfInBounds_toArray, List.set_cons_zero, List.set_cons_succ]
                  refine wpAnyR_take (i := 12) (oi := _) ?v12 rfl rfl (by kernel_rfl) (fun _ _ _ h => h) rfl ?hy12 SB ?rest12
                  case hy12 => (intro W hW; obtain ⟨_, c0, c1, c2, c3⟩ := HB.out W hW; go_simp; (try with_reducible rfl))
                  try simp only [List.setIfInBounds_toArray, List.set_cons_zero, List.set_cons_succ]
                  refine wpAnyR_pure (i := 13) (oi := _) ?v13 rfl rfl (by kernel_rfl) (by decide) (fun _ _ _ h => h) rfl ?hy13 (fun _ => SB) ?rest13
                  case hy13 => (intro W; go_simp; (try with_reducible rfl))
                  try simp only [List.setIfInBounds_toArray, List.set_cons_zero, List.set_cons_succ]
                  refine wpAnyR_take (i := 14) (oi := _) ?v14 rfl rfl (by kernel_rfl) (fun _ _ _ h => h) rfl ?hy14 SB ?rest14
                  case hy14 => (intro W hW; obtain ⟨_, c0, c1, c2, c3⟩ := HB.out W hW; go_simp; (try with_reducible rfl))
                  try simp only [List.setIfInBounds_toArray, List.set_cons_zero, List.set_cons_succ]
                  refine wpAnyR_pure (i := 15) (oi := _) ?v15 rfl rfl (by kernel_rfl) (by decide) (fun _ _ _ h => h) rfl ?hy15 (fun _ => SB) ?rest15
                  case hy15 => (intro W; go_simp; (try with_reducible rfl))
                  try simp only [List.setIfInBounds_toArray, List.set_cons_zero, List.set_cons_succ]
                  refine wpAnyR_pure (i := 16) (oi := _) ?v16 rfl rfl (by kernel_rfl) (by decide) (fun _ _ _ h => h) rfl ?hy16 (fun _ => SB) ?rest16
                  case hy16 => (intro W; go_simp; (try with_reducible rfl))
                  try simp only [List.setIfInBounds_toArray, List.set_cons_zero, List.set_cons_succ]
                  refine wpAnyR_take (i := 17) (oi := _) ?v17 rfl rfl (by kernel_rfl) (fun _ _ _ h => h) rfl ?hy17 SB ?rest17
                  case hy17 => (intro W hW; obtain ⟨_, c0, c1, c2, c3⟩ := HB.out W hW; go_simp; (try with_reducible rfl))
                  try simp only [List.setIfInBounds_toArray, List.set_cons_zero, List.set_cons_succ]
                  refine wpAnyR_pure (i := 18) (oi := _) ?v18 rfl rfl (by kernel_rfl) (by decide) (fun _ _ _ h => h) rfl ?hy18 (fun _ => SB) ?rest18
                  case hy18 => (intro W; go_simp; (try with_reducible rfl))
                  try simp only [List.setIfInBounds_toArray, List.set_cons_zero, List.set_cons_succ]
                  refine wpAnyR_take (i := 19) (oi := _) ?v19 rfl rfl (by kernel_rfl) (fun _ _ _ h => h) rfl ?hy19 SB ?rest19
                  case hy19 => (intro W hW; obtain ⟨_, c0, c1, c2, c3⟩ := HB.out W hW; go_simp; (try with_reducible rfl))
                  try simp only [List.setIfInBounds_toArray, List.set_cons_zero, List.set_cons_succ]
                  refine wpAnyR_pure (i := 20) (oi := _) ?v20 rfl rfl (by kernel_rfl) (by decide) (fun _ _ _ h => h) rfl ?hy20 (fun _ => SB) ?rest20
                  case hy20 => (intro W; go_simp; (try with_reducible rfl))
                  try simp only [List.setIfInBounds_toArray, List.set_cons_zero, List.set_cons_succ]
                  refine wpAnyR_pure (i := 21) (oi := _) ?v21 rfl rfl (by kernel_rfl) (by decide) (fun _ _ _ h => h) rfl ?hy21 (fun _ => SB) ?rest21
                  case hy21 => (intro W; go_simp; (try with_reducible rfl))
                  try simp only [List.setIfInBounds_toArray, List.set_cons_zero, List.set_cons_succ]
                  refine wpAnyR_one (i := 22) (by kernel_rfl) rfl (fun K hK => ?_)
                  go_simp
                  refine hK.out _ _ (fun hf => absurd hf (by decide)) ?_
                  clear hK K
                  refine wpAnyR_done (by kernel_rfl) ?_
                  go_upto_region 16 with fail
                  go_big_region
                  go_wp2_with fail
                  go_roundw
                  case rel => exact ⟨m + 1, by omega, by go_num, by rw [HPS.out]; exact HN.out, HO6.out⟩
                  case measure => simp [intOf]; omega
                · have hT : (((t : Nat) : Int) % 2 == 0) = false := by simp; omega
                  have HN := Lib.hid (show GridAt wl g n (cellV (ps ++ [x])) from HAL.out.congr fun a b _ _ => by
                    rw [cellV_snoc, HXK.out.1, HXK.out.2.1, HXK.out.2.2]
                    by_cases e : (p : Int) = (a : Int) ∧ (q : Int) = (b : Int)
                    · obtain ⟨rfl, rfl⟩ : p = a ∧ q = b := by omega
                      rw [if_pos e, HTE.out, if_neg (by omega), if_neg (by omega)]
                    · rw [if_neg e])
                  clear hk0
                  go_upto_region 14 with fail
                  go_big_region
                  go_upto_region 16 with fail
                  go_big_region
                  go_wp2_with fail
                  go_roundw
                  case rel => exact ⟨m + 1, by omega, by go_num, by rw [HPS.out]; exact (HN.out.drewn).drewn, HOL.out.drewn.drewn⟩
                  case measure => simp [intOf]; omega
              · have hb0 : (rs[k].2[m].1 == 0) = false := by simp [hk0]
                by_cases hk1 : rs[k].2[m].1 = 1
                · have hb1 : (rs[k].2[m].1 == 1) = true := by simp [hk1]
                  obtain ⟨hx1, hx2⟩ : 0 ≤ rs[k].2[m].2.1 ∧ rs[k].2[m].2.1 < n := by have := HFX.out.2 (.inr (HXE.out.trans hk1)); rw [hxe] at this; exact this
                  obtain ⟨q, hqe⟩ : ∃ q : Nat, rs[k].2[m].2.1 = (q : Int) := ⟨rs[k].2[m].2.1.toNat, by omega⟩
                  have hqn : q < n := by omega
                  have hqi : (q : Int) < n := by omega
                  have HXK := Lib.hid (show x.1 = (p : Int) ∧ x.2.1 = 1 ∧ x.2.2.1 = (q : Int) from ⟨by rw [hxe]; exact hpe, HXE.out.trans hk1, by rw [hxe]; exact hqe⟩)
                  have e0 : wl.cell? ⟨wr.heap.size, 0, none⟩ = some (.int .i64 rs[k].2[m].1) := Y.cell 0
                  have z1 : wl.cell? ⟨wr.heap.size, 1, none⟩ = some (.int .i64 q) := by rw [← hqe]; exact Y.cell 1
                  obtain ⟨t, ht⟩ : ∃ t, t = cellV ps p q := ⟨_, rfl⟩
                  have ht3 : t ≤ 3 := by rw [ht]; exact cellV_le _ _ _
                  have HTE := Lib.hid ht.symm
                  have z2 : wl.cell? ⟨g, p, none⟩ = some (.slice (some ⟨g + 1 + p, 0, none⟩) n n) := HAL.out.head hpn
                  have z3 : wl.cell? ⟨g + 1 + p, q, none⟩ = some (.int .i64 ((t : Nat) : Int)) := by rw [ht]; exact HAL.out.cell hpn hqn
                  have z4 : wl.frozen? ⟨g + 1 + p, q, none⟩ = false := (HAL.out.rows p hpn).frozen q
                  have d0 : wl.drew.cell? ⟨wo.heap.size, 0, none⟩ = some (.int .i64 p) := z0
                  have d1 : wl.drew.cell? ⟨wr.heap.size, 1, none⟩ = some (.int .i64 q) := z1
                  have d2 : wl.drew.cell? ⟨g, p, none⟩ = some (.slice (some ⟨g + 1 + p, 0, none⟩) n n) := z2
                  have d3 : wl.drew.cell? ⟨g + 1 + p, q, none⟩ = some (.int .i64 ((t : Nat) : Int)) := z3
                  have d4 : wl.drew.frozen? ⟨g + 1 + p, q, none⟩ = false := z4
                  have dd0 : wl.drew.drew.cell? ⟨wo.heap.size, 0, none⟩ = some (.int .i64 p) := z0
                  have dd1 : wl.drew.drew.cell? ⟨wr.heap.size, 1, none⟩ = some (.int .i64 q) := z1
                  have dd2 : wl.drew.drew.cell? ⟨g, p, none⟩ = some (.slice (some ⟨g + 1 + p, 0, none⟩) n n) := z2
                  have dd3 : wl.drew.drew.cell? ⟨g + 1 + p, q, none⟩ = some (.int .i64 ((t : Nat) : Int)) := z3
                  have dd4 : wl.drew.drew.frozen? ⟨g + 1 + p, q, none⟩ = false := z4
                  have de0 : wl.drew.cell? ⟨wr.heap.size, 0, none⟩ = some (.int .i64 rs[k].2[m].1) := e0
                  have dde0 : wl.drew.drew.cell? ⟨wr.heap.size, 0, none⟩ = some (.int .i64 rs[k].2[m].1) := e0
                  clear ht hx1 hx2 hxe hpe hqe
                  by_cases htt : t < 2
                  · have hT : decide (((t : Nat) : Int) < 2) = true := by simp; omega
                    have HC0 := Lib.hid (show ∀ a b, cellV (ps ++ [x]) a b = if a = p ∧ b = q then t + 2 else cellV ps a b from fun a b => by
                      rw [cellV_snoc, HXK.out.1, HXK.out.2.1, HXK.out.2.2]
                      by_cases e : a = p ∧ b = q
                      · obtain ⟨rfl, rfl⟩ := e
                        rw [if_pos (show ((a : Int) = a ∧ (b : Int) = b) from ⟨rfl, rfl⟩), HTE.out, if_neg (fun h => absurd h.1 (by decide)), if_pos (show ((1 : Int) = 1 ∧ t < 2) from ⟨rfl, htt⟩), if_pos (show a = a ∧ b = b from ⟨rfl, rfl⟩)]
                      · rw [if_neg e, if_neg (by omega)])
                    clear hk0 hk1
                    go_upto_region 14 with fail
                    go_big_region
                    have HAM := HAL.out.drewn
                    have HOM := HOL.out.drewn
                    clear z0 z1 z2 z3 z4 e0 dd0 dd1 dd2 dd3 dd4 dde0
                    go_upto_region 16 with fail
                    generalize wl.drew = wa at *
                    have dd0 : wa.drew.cell? ⟨wo.heap.size, 0, none⟩ = some (.int .i64 p) := d0
                    have dd1 : wa.drew.cell? ⟨wr.heap.size, 1, none⟩ = some (.int .i64 q) := d1
                    have dd2 : wa.drew.cell? ⟨g, p, none⟩ = some (.slice (some ⟨g + 1 + p, 0, none⟩) n n) := d2
                    have dd3 : wa.drew.cell? ⟨g + 1 + p, q, none⟩ = some (.int .i64 ((t : Nat) : Int)) := d3
                    have dd4 : wa.drew.frozen? ⟨g + 1 + p, q, none⟩ = false := d4
                    have dde0 : wa.drew.cell? ⟨wr.heap.size, 0, none⟩ = some (.int .i64 rs[k].2[m].1) := de0
                    go_big_region
                    have HAM := HAM.drewn
                    have HOM := HOM.drewn
                    clear d0 d1 d2 d3 d4 de0
                    go_upto_region 17 with fail
                    generalize wa.drew = wm at *
                    have HN := Lib.hid (show GridAt (wm.setCell ⟨g + 1 + p, q, none⟩ (.int .i64 ((t : Int) + 2))).drew g n (cellV (ps ++ [x])) from (GridAt.set (x := t + 2) HAM hpn HC0.out).drewn)
                    have HO6 := Lib.hid (show Only g (g + 1 + n) wv (wm.setCell ⟨g + 1 + p, q, none⟩ (.int .i64 ((t : Int) + 2))).drew from (HOM.setCell ⟨by show g ≤ g + 1 + p; omega, by show g + 1 + p < g + 1 + n; omega⟩ _).drewn)
                    have s3 : wm.drew.cell? ⟨g + 1 + p, q, none⟩ = some (.int .i64 ((t : Nat) : Int)) := dd3
                    have s4 : wm.drew.frozen? ⟨g + 1 + p, q, none⟩ = false := dd4
                    obtain ⟨SS, hSS⟩ : ∃ SS : World → Prop, SS = (fun W => Below wm.heap.size wm W ∧ W.cell? ⟨wo.heap.size, 0, none⟩ = some (.int .i64 p) ∧ W.cell? ⟨wr.heap.size, 1, none⟩ = some (.int .i64 q) ∧ W.cell? ⟨g, p, none⟩ = some (.slice (some ⟨g + 1 + p, 0, none⟩) n n) ∧ W.cell? ⟨g + 1 + p, q, none⟩ = some (.int .i64 ((t : Nat) : Int))) := ⟨_, rfl⟩
                    have HB := Lib.hid (show ∀ W, SS W → (Below wm.heap.size wm W ∧ W.cell? ⟨wo.heap.size, 0, none⟩ = some (.int .i64 p) ∧ W.cell? ⟨wr.heap.size, 1, none⟩ = some (.int .i64 q) ∧ W.cell? ⟨g, p, none⟩ = some (.slice (some ⟨g + 1 + p, 0, none⟩) n n) ∧ W.cell? ⟨g + 1 + p, q, none⟩ = some (.int .i64 ((t : Nat) : Int))) from by rw [hSS]; exact fun W hW => hW)
                    have HS := Lib.hid (show ∀ W, Below wm.heap.size wm W → SS W from by
                      rw [hSS]
                      exact fun W hW => ⟨hW, (hW.cell (World.block_lt_of_cell? _ _ dd0)).trans dd0, (hW.cell (World.block_lt_of_cell? _ _ dd1)).trans dd1, (hW.cell (World.block_lt_of_cell? _ _ dd2)).trans dd2, (hW.cell (World.block_lt_of_cell? _ _ dd3)).trans dd3⟩)
                    have BB : Below wm.heap.size wm wm.drew := (Below.refl _ _).drew
                    have SB := HS.out _ BB
                    clear hSS dd0 dd1 dd2 dd3 dd4 HAM HOM
                    refine wp_region_rel SS 22 23 (by kernel_rfl) rfl ?_
                    refine wpAnyR_pure (i := 0) (oi := _) ?vb0 rfl rfl (by kernel_rfl) (by decide) (fun _ _ _ h => h) rfl ?hyb0 (fun _ => SB) ?restb0
                    case hyb0 => (intro W; go_simp; (try with_reducible rfl))
                    try simp only [List.setIfInBounds_toArray, List.set_cons_zero, List.set_cons_succ]
                    refine wpAnyR_pure (i := 1) (oi := _) ?vb1 rfl rfl (by kernel_rfl) (by decide) (fun _ _ _ h => h) rfl ?hyb1 (fun _ => SB) ?restb1
                    case hyb1 => (intro W; go_simp; (try with_reducible rfl))
                    try simp only [List.setIfInBounds_toArray, List.set_cons_zero, List.set_cons_succ]
                    refine wpAnyR_pure (i := 2) (oi := _) ?vb2 rfl rfl (by kernel_rfl) (by decide) (fun _ _ _ h => h) rfl ?hyb2 (fun _ => SB) ?restb2
                    case hyb2 => (intro W; go_simp; (try with_reducible rfl))
                    try simp only [List.setIfInBounds_toArray, List.set_cons_zero, List.set_cons_succ]
                    refine wpAnyR_take (i := 3) (oi := _) ?vb3 rfl rfl (by kernel_rfl) (fun _ _ _ h => h) rfl ?hyb3 SB ?restb3
                    case hyb3 => (intro W hW; obtain ⟨_, c0, c1, c2, c3⟩ := HB.out W hW; go_simp; (try with_reducible rfl))
                    try simp only [List.setIfInBounds_toArray, List.set_cons_zero, List.set_cons_succ]
                    refine wpAnyR_pure (i := 4) (oi := _) ?vb4 rfl rfl (by kernel_rfl) (by decide) (fun _ _ _ h => h) rfl ?hyb4 (fun _ => SB) ?restb4
                    case hyb4 => (intro W; go_simp; (try with_reducible rfl))
                    try simp only [List.setIfInBounds_toArray, List.set_cons_zero, List.set_cons_succ]
                    refine wpAnyR_take (i := 5) (oi := _) ?vb5 rfl rfl (by kernel_rfl) (fun _ _ _ h => h) rfl ?hyb5 SB ?restb5
                    case hyb5 => (intro W hW; obtain ⟨_, c0, c1, c2, c3⟩ := HB.out W hW; go_simp; (try with_reducible rfl))
                    try simp only [List.setIfInBounds_toArray, List.set_cons_zero, List.set_cons_succ]
                    refine wpAnyR_pure (i := 6) (oi := _) ?vb6 rfl rfl (by kernel_rfl) (by decide) (fun _ _ _ h => h) rfl ?hyb6 (fun _ => SB) ?restb6
                    case hyb6 => (intro W; go_simp; (try with_reducible rfl))
                    try simp only [List.setIfInBounds_toArray, List.set_cons_zero, List.set_cons_succ]
                    refine wpAnyR_pure (i := 7) (oi := _) ?vb7 rfl rfl (by kernel_rfl) (by decide) (fun _ _ _ h => h) rfl ?hyb7 (fun _ => SB) ?restb7
                    case hyb7 => (intro W; go_simp; (try with_reducible rfl))
                    try simp only [List.setIfInBounds_toArray, List.set_cons_zero, List.set_cons_succ]
                    refine wpAnyR_take (i := 8) (oi := _) ?vb8 rfl rfl (by kernel_rfl) (fun _ _ _ h => h) rfl ?hyb8 SB ?restb8
                    case hyb8 => (intro W hW; obtain ⟨_, c0, c1, c2, c3⟩ := HB.out W hW; go_simp; (try with_reducible rfl))
                    try simp only [List.setIfInBounds_toArray, List.set_cons_zero, List.set_cons_succ]
                    refine wpAnyR_pure (i := 9) (oi := _) ?vb9 rfl rfl (by kernel_rfl) (by decide) (fun _ _ _ h => h) rfl ?hyb9 (fun _ => SB) ?restb9
                    case hyb9 => (intro W; go_simp; (try with_reducible rfl))
                    try simp only [List.setIfInBounds_toArray, List.set_cons_zero, List.set_cons_succ]
                    refine wpAnyR_pure (i := 10) (oi := _) ?vb10 rfl rfl (by kernel_rfl) (by decide) (fun _ _ _ h => h) rfl ?hyb10 (fun _ => SB) ?restb10
                    case hyb10 => (intro W; go_simp; (try with_reducible rfl))
                    try simp only [List.setIfInBounds_toArray, List.set_cons_zero, List.set_cons_succ]
                    refine wpAnyR_pure (i := 11) (oi := _) ?vb11 rfl rfl (by kernel_rfl) (by decide) (fun _ _ _ h => h) rfl ?hyb11 (fun _ => SB) ?restb11
                    case hyb11 => (intro W; go_simp; (try with_reducible rfl))
                    try simp only [List.setIfInBounds_toArray, List.set_cons_zero, List.set_cons_succ]
                    refine wpAnyR_take (i := 12) (oi := _) ?vb12 rfl rfl (by kernel_rfl) (fun _ _ _ h => h) rfl ?hyb12 SB ?restb12
                    case hyb12 => (intro W hW; obtain ⟨_, c0, c1, c2, c3⟩ := HB.out W hW; go_simp; (try with_reducible rfl))
                    try simp only [List.setIfInBounds_toArray, List.set_cons_zero, List.set_cons_succ]
                    refine wpAnyR_pure (i := 13) (oi := _) ?vb13 rfl rfl (by kernel_rfl) (by decide) (fun _ _ _ h => h) rfl ?hyb13 (fun _ => SB) ?restb13
                    case hyb13 => (intro W; go_simp; (try with_reducible rfl))
                    try simp only [List.setIfInBounds_toArray, List.set_cons_zero, List.set_cons_succ]
                    refine wpAnyR_take (i := 14) (oi := _) ?vb14 rfl rfl (by kernel_rfl) (fun _ _ _ h => h) rfl ?hyb14 SB ?restb14
                    case hyb14 => (intro W hW; obtain ⟨_, c0, c1, c2, c3⟩ := HB.out W hW; go_simp; (try with_reducible rfl))
                    try simp only [List.setIfInBounds_toArray, List.set_cons_zero, List.set_cons_succ]
                    refine wpAnyR_pure (i := 15) (oi := _) ?vb15 rfl rfl (by kernel_rfl) (by decide) (fun _ _ _ h => h) rfl ?hyb15 (fun _ => SB) ?restb15
                    case hyb15 => (intro W; go_simp; (try with_reducible rfl))
                    try simp only [List.setIfInBounds_toArray, List.set_cons_zero, List.set_cons_succ]
                    refine wpAnyR_pure (i := 16) (oi := _) ?vb16 rfl rfl (by kernel_rfl) (by decide) (fun _ _ _ h => h) rfl ?hyb16 (fun _ => SB) ?restb16
                    case hyb16 => (intro W; go_simp; (try with_reducible rfl))
                    try simp only [List.setIfInBounds_toArray, List.set_cons_zero, List.set_cons_succ]
                    refine wpAnyR_take (i := 17) (oi := _) ?vb17 rfl rfl (by kernel_rfl) (fun _ _ _ h => h) rfl ?hyb17 SB ?restb17
                    case hyb17 => (intro W hW; obtain ⟨_, c0, c1, c2, c3⟩ := HB.out W hW; go_simp; (try with_reducible rfl))
                    try simp only [List.setIfInBounds_toArray, List.set_cons_zero, List.set_cons_succ]
                    refine wpAnyR_pure (i := 18) (oi := _) ?vb18 rfl rfl (by kernel_rfl) (by decide) (fun _ _ _ h => h) rfl ?hyb18 (fun _ => SB) ?restb18
                    case hyb18 => (intro W; go_simp; (try with_reducible rfl))
                    try simp only [List.setIfInBounds_toArray, List.set_cons_zero, List.set_cons_succ]
                    refine wpAnyR_take (i := 19) (oi := _) ?vb19 rfl rfl (by kernel_rfl) (fun _ _ _ h => h) rfl ?hyb19 SB ?restb19
                    case hyb19 => (intro W hW; obtain ⟨_, c0, c1, c2, c3⟩ := HB.out W hW; go_simp; (try with_reducible rfl))
                    try simp only [List.setIfInBounds_toArray, List.set_cons_zero, List.set_cons_succ]
                    refine wpAnyR_pure (i := 20) (oi := _) ?vb20 rfl rfl (by kernel_rfl) (by decide) (fun _ _ _ h => h) rfl ?hyb20 (fun _ => SB) ?restb20
                    case hyb20 => (intro W; go_simp; (try with_reducible rfl))
                    try simp only [List.setIfInBounds_toArray, List.set_cons_zero, List.set_cons_succ]
                    refine wpAnyR_pure (i := 21) (oi := _) ?vb21 rfl rfl (by kernel_rfl) (by decide) (fun _ _ _ h => h) rfl ?hyb21 (fun _ => SB) ?restb21
                    case hyb21 => (intro W; go_simp; (try with_reducible rfl))
                    try simp only [List.setIfInBounds_toArray, List.set_cons_zero, List.set_cons_succ]
                    refine wpAnyR_one (i := 22) (by kernel_rfl) rfl (fun K hK => ?_)
                    go_simp
                    refine hK.out _ _ (fun hf => absurd hf (by decide)) ?_
                    clear hK K
                    refine wpAnyR_done (by kernel_rfl) ?_
                    go_wp2_with fail
                    go_roundw
                    case rel => exact ⟨m + 1, by omega, by go_num, by rw [HPS.out]; exact HN.out, HO6.out⟩
                    case measure => simp [intOf]; omega
                  · have hT : decide (((t : Nat) : Int) < 2) = false := by simp; omega
                    have HN := Lib.hid (show GridAt wl g n (cellV (ps ++ [x])) from HAL.out.congr fun a b _ _ => by
                      rw [cellV_snoc, HXK.out.1, HXK.out.2.1, HXK.out.2.2]
                      by_cases e : (p : Int) = (a : Int) ∧ (q : Int) = (b : Int)
                      · obtain ⟨rfl, rfl⟩ : p = a ∧ q = b := by omega
                        rw [if_pos e, HTE.out, if_neg (by omega), if_neg (by omega)]
                      · rw [if_neg e])
                    clear hk0 hk1
                    go_upto_region 14 with fail
                    go_big_region
                    go_upto_region 16 with fail
                    go_big_region
                    go_wp2_with fail
                    go_roundw
                    case rel => exact ⟨m + 1, by omega, by go_num, by rw [HPS.out]; exact (HN.out.drewn).drewn, HOL.out.drewn.drewn⟩
                    case measure => simp [intOf]; omega
                · have hb1 : (rs[k].2[m].1 == 1) = false := by simp [hk1]
                  have e0 : wl.cell? ⟨wr.heap.size, 0, none⟩ = some (.int .i64 rs[k].2[m].1) := Y.cell 0
                  clear hxe hpe
                  have HN := Lib.hid (show GridAt wl g n (cellV (ps ++ [x])) from HAL.out.congr fun a b _ _ => by
                    rw [cellV_snoc]
                    by_cases e : x.1 = (a : Int) ∧ x.2.2.1 = (b : Int)
                    · rw [if_pos e, if_neg (fun h => hk0 (HXE.out ▸ h.1)), if_neg (fun h => hk1 (HXE.out ▸ h.1))]
                    · rw [if_neg e])
                  clear hk0 hk1
                  go_upto_region 14 with fail
                  go_big_region
                  go_upto_region 16 with fail
                  go_big_region
                  go_wp2_with fail
                  go_roundw
                  case rel => exact ⟨m + 1, by omega, by go_num, by rw [HPS.out]; exact (HN.out.drewn).drewn, HOL.out.drewn.drewn⟩
                  case measure => simp [intOf]; omega
            · have HE := Lib.hid (show GridAt wr g n (cellV (asksOf (rs.take (k + 1)))) from by
                rw [show m = rs[k].2.length by omega, List.take_length] at hax
                rw [asksOf_snoc rs k hlt]
                exact hax)
              have HO2 := Lib.hid (HON.out.trans ((Only.of_below HBV.out).trans honx))
              clear hax honx Xx
              go_wp2_with fail
              go_roundw
              case rel => exact ⟨k + 1, by omega, by go_num, HE.out, HO2.out⟩
              case measure => simp [intOf]; omega
        · rw [show k = rs.length by omega, List.take_length] at hat
          have HE := Lib.hid hat
          have HBW := Lib.hid BW
          clear hat hon
          go_wp2_with fail
          go_ret
          exact ⟨g, rfl, HE.out, by omega, by omega, HBW.out⟩

end Go.Proofs.YtfjmnjemmfmoaaaDoor
/-
  The specification's table of what is reached: the walk of l5Reach.
-/
namespace Go.Proofs.YtfjmnjemmfmoaaaDoor
open Go.RowKit

theorem Tryd.infoBoolS : (Tryd.prog.info? 85).map (fun i => (i.zero, i.size, i.bytes)) = some (some (.slice none 0 0), 1, 24) := by kernel_rfl
theorem nodup_inj {l : List Nat} (h : l.Nodup) {i j : Nat} (hi : i < l.length) (hj : j < l.length) (e : l[i] = l[j]) : i = j := by
  have h2 := List.pairwise_iff_getElem.1 h
  rcases Nat.lt_trichotomy i j with h3 | h3 | h3
  · exact absurd e (h2 i j hi hj h3)
  · exact h3
  · exact absurd e.symm (h2 j i hj hi h3)
def bRow (n r : Nat) : Value := .slice (some ⟨r, 0, none⟩) n n
/-- Rows of Booleans that grow: rs are the rows' blocks. -/
structure BGrid (lo : Nat) (w : World) (n : Nat) (T : Nat → Nat → Bool) (Ao : Option Addr) (co : Nat) (rs : List Nat) : Prop where
  heads : w.ownsRow lo 85 1 (.slice Ao rs.length co) rs.length (rs.map (bRow n))
  rows : ∀ i (h : i < rs.length), w.rowIs rs[i] 4 n (fun k => .bool (T i k))
  lo : ∀ r ∈ rs, lo ≤ r ∧ (Value.slice Ao rs.length co).ownBlock ≠ some r
  nodup : rs.Nodup
section
variable {lo n co : Nat} {w w' w4 : World} {T T' : Nat → Nat → Bool} {Ao : Option Addr} {rs : List Nat}
theorem BGrid.lt (h : BGrid lo w n T Ao co rs) : ∀ r ∈ rs, r < w.heap.size := fun r hr => by
  obtain ⟨i, hi, rfl⟩ := List.getElem_of_mem hr
  exact (h.rows i hi).lt
theorem BGrid.keep (h : BGrid lo w n T Ao co rs) (hk : ∀ b, b ∈ rs ∨ (Value.slice Ao rs.length co).ownBlock = some b → w'.heap[b]? = w.heap[b]?) : BGrid lo w' n T Ao co rs :=
  ⟨ownsRow_only h.heads fun b hb => hk b (.inr hb), fun i hi => (h.rows i hi).of_block (hk _ (.inl (List.getElem_mem hi))), h.lo, h.nodup⟩
theorem BGrid.below (h : BGrid lo w n T Ao co rs) (hb : Below w.heap.size w w') : BGrid lo w' n T Ao co rs :=
  h.keep fun b hb' => hb.block b (hb'.elim (h.lt b) fun h2 => (h.heads.lt b h2).2)
theorem BGrid.only {r : Nat} (h : BGrid lo w n T Ao co rs) (ho : Only r (r + 1) w w') (hr : w.heap.size ≤ r) : BGrid lo w' n T Ao co rs :=
  h.keep fun b hb' => by
    have hl : b < w.heap.size := hb'.elim (h.lt b) fun h2 => (h.heads.lt b h2).2
    exact ho.block b hl (by omega)
theorem BGrid.congr (h : BGrid lo w n T Ao co rs) (e : ∀ i k, i < rs.length → k < n → T i k = T' i k) : BGrid lo w n T' Ao co rs :=
  ⟨h.heads, fun i hi => (h.rows i hi).congr fun k hk => by rw [e i k hi hk], h.lo, h.nodup⟩
theorem BGrid.set {i k : Nat} (h : BGrid lo w n T Ao co rs) (hi : i < rs.length) (x : Bool) (hT : ∀ a b, T' a b = if a = i ∧ b = k then x else T a b) : BGrid lo (w.setCell ⟨rs[i], k, none⟩ (.bool x)) n T' Ao co rs := by
  refine ⟨ownsRow_only h.heads fun b hb => Below.heap_setCell _ _ _ _ (fun e => (h.lo _ (List.getElem_mem hi)).2 (by rw [hb, e])), fun j hj => ?_, h.lo, h.nodup⟩
  by_cases e : j = i
  · subst e
    refine ((h.rows j hj).set k (.bool x)).congr fun b _ => ?_
    rw [hT]
    by_cases e2 : b = k <;> simp [e2]
  · refine ((h.rows j hj).setOther (a := ⟨rs[i], k, none⟩) (fun e2 => e (nodup_inj h.nodup hj hi e2)) _).congr fun b _ => ?_
    rw [hT, if_neg (fun h => e h.1)]
theorem BGrid.push {r g2 cap : Nat} {o : Obj} (h : BGrid lo w n T Ao co rs) (hrow : w.rowIs r 4 n (fun k => .bool (T rs.length k))) (hr : lo ≤ r ∧ r ∉ rs ∧ (Value.slice Ao rs.length co).ownBlock ≠ some r)
    (hgr : (w.alloc o).grownBy w4 (Value.slice Ao rs.length co).ownBlock) (hat : (Value.slice Ao rs.length co).ownBlock = some g2 ∨ g2 = (w.alloc o).heap.size)
    (hown : w4.ownsRow lo 85 1 (.slice (some ⟨g2, 0, none⟩) (rs.length + 1) cap) (rs.length + 1) (rs.map (bRow n) ++ [bRow n r])) : BGrid lo w4 n T (some ⟨g2, 0, none⟩) cap (rs ++ [r]) := by
  have hg2 := grown_from_alloc hgr
  have hne : ∀ b, b ∈ rs ∨ b = r → b < w.heap.size ∧ (Value.slice Ao rs.length co).ownBlock ≠ some b := fun b hb => by
    rcases hb with hb | rfl
    · exact ⟨h.lt b hb, (h.lo b hb).2⟩
    · exact ⟨hrow.lt, hr.2.2⟩
  have hk : ∀ b, b ∈ rs ∨ b = r → w4.heap[b]? = w.heap[b]? := fun b hb => hg2.block b (hne b hb).1 (fun e => (hne b hb).2 e.symm)
  have hl : (rs ++ [r]).length = rs.length + 1 := by simp
  refine ⟨by rw [hl, List.map_append]; exact hown, fun i hi => ?_, fun b hb => ?_, ?_⟩
  · by_cases e : i < rs.length
    · rw [List.getElem_append_left e]
      exact (h.rows i e).of_block (hk _ (.inl (List.getElem_mem e)))
    · have e2 : i = rs.length := by omega
      subst e2
      rw [List.getElem_append_right (Nat.le_refl _)]
      simp only [Nat.sub_self, List.getElem_cons_zero]
      exact hrow.of_block (hk r (.inr rfl))
  · have hb' : b ∈ rs ∨ b = r := by simpa using hb
    refine ⟨hb'.elim (fun h1 => (h.lo b h1).1) fun e => e ▸ hr.1, fun e => ?_⟩
    have e1 : g2 = b := by simpa [Value.ownBlock] using e
    rcases hat with hat | hat
    · exact (hne b hb').2 (by rw [hat, e1])
    · have := (hne b hb').1
      simp at hat
      omega
  · rw [List.nodup_append]
    exact ⟨h.nodup, by simp, fun a ha b hb e => by rw [List.mem_singleton] at hb; exact hr.2.1 (by rw [← hb, ← e]; exact ha)⟩
theorem BGrid.head {g : Nat} (h : BGrid lo w n T (some ⟨g, 0, none⟩) co rs) {i : Nat} (hi : i < rs.length) : w.cell? ⟨g, i, none⟩ = some (.slice (some ⟨rs[i], 0, none⟩) n n) := by
  rw [h.heads.cellAt i (by omega), List.getElem?_map, List.getElem?_eq_getElem hi]
  rfl
theorem BGrid.form (h : BGrid lo w n T Ao co rs) (hn : 0 < rs.length) : ∃ g, Ao = some ⟨g, 0, none⟩ ∧ g < w.heap.size := by
  obtain ⟨g2, cap, e, _, h2⟩ := h.heads.form hn
  injection e with e1 _ _
  exact ⟨g2, e1, h2⟩
end

end Go.Proofs.YtfjmnjemmfmoaaaDoor
/-
  The walk of l5Reach.
-/
namespace Go.Proofs.YtfjmnjemmfmoaaaDoor
open Go.RowKit

set_option maxHeartbeats 4000000 in
set_option maxRecDepth 100000 in
theorem l5Reach_any (v : Value) (p : LProg) (w : World) (h : RdProg w w.heap.size v p) (hs : szP p ≤ 1048576) (hn : p.1.length ≤ 24) (hf : ∀ x ∈ asksOf p.2, AskFits p.1.length x) :
    Calls Tryd.prog 76 #[v] w fun e w' => ∃ Ao co rs, e = .returned (.slice Ao rs.length co) ∧ rs.length = p.1.length ∧ BGrid w.heap.size w' p.1.length (fwM (askT p) p.1.length) Ao co rs ∧ Below w.heap.size w w' := by
  obtain ⟨i0, hi0, hz0, hz1, hz2⟩ := info_parts Tryd.infoBoolS
  have HP := Lib.hid h
  obtain ⟨a, b, rfl, hA, hR⟩ := h
  obtain ⟨A, c, rfl, hcA, _⟩ := hA
  obtain ⟨A2, c2, rfl, hcR, _⟩ := hR
  have hmk2 := fun W => run_make_row' (P := Tryd.prog) 85 4 (.bool false) 1 Tryd.underlying85 Tryd.infoBool rfl .i64 .i64 p.1.length (by omega) (by omega) W
  have HL5 := Lib.hid (fun W (hW : Below w.heap.size w W) => l5Links_any _ p W (HP.out.on hW) hs hn hf)
  obtain ⟨T, hT⟩ : ∃ T, T = askT p := ⟨_, rfl⟩
  have HTC := Lib.hid (show ∀ i k, T i k = decide (0 < cellV (asksOf p.2) i k) from fun i k => by rw [hT]; rfl)
  obtain ⟨cv, hcv⟩ : ∃ cv, cv = cellV (asksOf p.2) := ⟨_, rfl⟩
  rw [← hcv] at HTC HL5
  obtain ⟨n, hne⟩ : ∃ n, n = p.1.length := ⟨_, rfl⟩
  rw [← hT]
  rw [← hne] at hmk2 hcA hn HL5 ⊢
  clear hne hT hcv hf
  go_enter Tryd.func76, Tryd.ntmps76
  go_upto_region 1 with fail
  obtain ⟨w1, hw1⟩ : ∃ w1, w1 = w.alloc (Obj.cells #[Value.slice A n c, Value.slice A2 p.2.length c2] 40) := ⟨_, rfl⟩
  have X1 : Blk w1 w.heap.size 40 #[.slice A n c, .slice A2 p.2.length c2] := by rw [hw1]; exact Blk.new _ _ _
  have B1 : Below w.heap.size w w1 := by rw [hw1]; exact below1 _ _
  rw [← hw1]
  clear hw1
  have x0 : w1.cell? ⟨w.heap.size, 0, none⟩ = some (.slice A n c) := X1.cell 0
  have x1 : w1.cell? ⟨w.heap.size, 1, none⟩ = some (.slice A2 p.2.length c2) := X1.cell 1
  have C1 := Lib.hid (HL5.out w1 B1)
  clear HL5 X1
  go_upto_region 2 with (go_at_call 92; refine C1.out.mono ?_; rintro e w2 ⟨g, rfl, g2, hwg, hgw, b2⟩; have HG2 := Lib.hid g2; have B2 := Lib.hid (bthen B1 b2); clear g2 b2)
  have hwg2 : w.heap.size ≤ g := Nat.le_trans B1.size hwg
  clear x0 x1 C1
  go_upto_region 3 with fail
  obtain ⟨w3, hw3⟩ : ∃ w3, w3 = w2.alloc (Obj.cells #[] 85) := ⟨_, rfl⟩
  obtain ⟨lo, hlo⟩ : ∃ lo, lo = w2.heap.size := ⟨_, rfl⟩
  have HB3 := Lib.hid (show BGrid lo w3 n T (some ⟨lo, 0, none⟩) 0 [] from by
    rw [hw3, hlo]
    exact ⟨World.ownsRow_made w2 #[] 0 (Nat.le_refl _) (by decide) rfl, fun i h => absurd h (Nat.not_lt_zero _), fun r hr => (by cases hr), List.nodup_nil⟩)
  have B3 : Below lo w2 w3 := by rw [hw3, hlo]; exact below1 _ _
  have hs3 : w3.heap.size = lo + 1 := by rw [hw3, hlo]; simp
  rw [← hw3, ← hlo]
  have hglo : g + 1 + n ≤ lo := by rw [hlo]; exact hgw
  have HG3 := Lib.hid (HG2.out.below B3 hglo)
  have hwlo : w.heap.size ≤ lo := by rw [hlo]; exact B2.out.size
  have HB23 := Lib.hid (show Below w.heap.size w w3 from B2.out.trans (B3.mono hwlo))
  clear hw3 hlo B3 HG2 hgw hwg
  go_wp2_with fail
  go_loopw [4, 5] (fun o i wr => ∃ (k : Nat) (Ao : Option Addr) (co : Nat) (rs : List Nat), k ≤ n ∧ i = .int .i64 k ∧ o = .slice Ao rs.length co ∧ rs.length = k ∧ BGrid lo wr n T Ao co rs ∧ Below lo w3 wr) (fun _ i _ => n - (intOf i).toNat)
  case atStart => exact ⟨0, some ⟨lo, 0, none⟩, 0, [], Nat.zero_le _, rfl, rfl, rfl, HB3.out, Below.refl _ _⟩
  case round =>
    obtain ⟨k, Ao, co, rs, hk, rfl, rfl, hrl, hbg, hbe⟩ := hrel
    have HBG := Lib.hid hbg
    have HBE := Lib.hid hbe
    have HRL := Lib.hid hrl
    have hsz := hbe.size
    clear hbg hbe hrl
    by_cases hlt : k < n
    · obtain ⟨wo, rfl⟩ : ∃ wo, wo = wr := ⟨_, rfl⟩
      go_upto_region 7 with fail
      obtain ⟨wa, hwa⟩ : ∃ wa, wa = wo.alloc (Obj.cells (madeCells #[Value.bool false] n) 4) := ⟨_, rfl⟩
      obtain ⟨r, hr⟩ : ∃ r, r = wo.heap.size := ⟨_, rfl⟩
      have RA : wa.rowIs r 4 n (fun _ => .bool false) := by rw [hwa, hr]; exact World.rowIs_made _ _ _ _
      have BA : Below wo.heap.size wo wa := by rw [hwa]; exact below1 _ _
      have hsa : wa.heap.size = r + 1 := by rw [hwa, hr]; simp
      rw [← hwa, ← hr]
      have HBGA := Lib.hid (HBG.out.below BA)
      have HBA := Lib.hid BA
      have HR := Lib.hid hr
      have HRA := Lib.hid RA
      have hlor : lo < r := by omega
      clear hwa hr RA BA
      go_wp2_with fail
      go_loopw [7] (fun i wr => ∃ m : Nat, m ≤ n ∧ i = .int .i64 m ∧ wr.rowIs r 4 n (fun j => if j < m then .bool (T k j) else .bool false) ∧ Only r (r + 1) wa wr) (fun i _ => n - (intOf i).toNat)
      case atStart => exact ⟨0, Nat.zero_le _, rfl, HRA.out.congr (fun j _ => by simp), Only.refl _ _ _⟩
      case round =>
        obtain ⟨m, hm, rfl, hrow, hon⟩ := hrel
        have HON := Lib.hid hon
        have HROW := Lib.hid hrow
        by_cases hlm : m < n
        · have BWR : Below lo w3 wr := HBE.out.trans ((HBA.out.mono (by omega)).trans (hon.below (by omega) (by omega)))
          have HGR := HG3.out.below (B := lo) BWR hglo
          have z2 : wr.cell? ⟨g, k, none⟩ = some (.slice (some ⟨g + 1 + k, 0, none⟩) n n) := HGR.head hlt
          have z3 : wr.cell? ⟨g + 1 + k, m, none⟩ = some (.int .i64 ((cv k m : Nat) : Int)) := HGR.cell hlt hlm
          have q1 := hrow.cell hlm
          rw [if_neg (Nat.lt_irrefl m)] at q1
          have f1 := hrow.frozen m
          obtain ⟨t, ht⟩ : ∃ t, t = cv k m := ⟨_, rfl⟩
          rw [← ht] at z3
          have hbt : decide (0 < t) = T k m := by rw [HTC.out, ht]
          have HN := Lib.hid (show (wr.setCell ⟨r, m, none⟩ (.bool (decide (0 < t)))).rowIs r 4 n (fun j => if j < m + 1 then .bool (T k j) else .bool false) ∧ Only r (r + 1) wa (wr.setCell ⟨r, m, none⟩ (.bool (decide (0 < t)))) from by
            refine ⟨(hrow.set m (.bool (decide (0 < t)))).congr fun j _ => ?_, hon.setCell ⟨Nat.le_refl _, Nat.lt_succ_self _⟩ _⟩
            by_cases e : j = m
            · subst e
              rw [if_pos rfl, if_pos (by omega), hbt]
            · rw [if_neg e]
              by_cases e2 : j < m
              · rw [if_pos e2, if_pos (by omega)]
              · rw [if_neg e2, if_neg (by omega)])
          clear hrow hon HGR BWR hbt ht
          go_wp2_with fail
          go_roundw
          case rel => exact ⟨m + 1, by omega, by go_num, HN.out.1, HN.out.2⟩
          case measure => simp [intOf]; omega
        · have HROW2 := Lib.hid (show wr.rowIs r 4 n (fun j => .bool (T k j)) from hrow.congr fun j hj => by rw [if_pos (by omega)])
          have HBG2 := Lib.hid (HBGA.out.keep (w' := wr) fun b hb => by
            have hl : b < wo.heap.size := hb.elim (HBG.out.lt b) fun h2 => (HBG.out.heads.lt b h2).2
            have := HR.out
            have := HBA.out.size
            exact hon.block b (by omega) (.inl (by omega)))
          have HLR := Lib.hid (show lo ≤ r ∧ r ∉ rs ∧ (Value.slice Ao rs.length co).ownBlock ≠ some r from by
            have := HR.out
            exact ⟨by omega, fun e => by have := HBG.out.lt r e; omega, fun e => by have := (HBG.out.heads.lt r e).2; omega⟩)
          have hrn : rs.length ≤ 24 := by have := HRL.out; omega
          have hszr : r < wr.heap.size := hrow.lt
          obtain ⟨w4, rfl⟩ : ∃ w4, w4 = wr := ⟨_, rfl⟩
          clear hrow hon
          go_wp2_with (at_builtin; refine wpList_append_lies _ rfl (.tmp 40) (.tmp 42) 53 rfl lo 85 i0 (.slice none 0 0) 1 24 Tryd.underlying53 hi0 hz0 hz1 hz2 rfl (by decide) (.slice Ao rs.length co) rs.length (rs.map (bRow n)) rfl ?c1 ⟨w4.heap.size, 0, none⟩ 1 1 [bRow n r] rfl rfl (cell_one_new _ _ _) ?c2 (by omega) (by unfold maxLen; omega) (by omega) ?c3 _ rfl ?_)
          case c1 => exact HBG2.out.heads.alloc _
          case c2 => intro u hu; simp at hu; subst hu; rfl
          case c3 => simp; omega
          intro g5 cap w6 hown hgr hat _
          have HPU := Lib.hid (HBG2.out.push (T := T) (by have := HROW2.out; rw [HRL.out]; exact this) HLR.out hgr (by simpa using hat) hown)
          have HB6 := Lib.hid (show Below lo w4 w6 from by
            have hg2 := grown_from_alloc hgr
            have hnl := HBG2.out.heads.lt
            exact ⟨hg2.os, hg2.tape, hg2.output, hg2.size, fun b hb => hg2.block b (by have := hszr; omega) (fun e => by have := (hnl b e.symm).1; omega)⟩)
          clear hown hgr hat
          go_wp2_with fail
          go_roundw
          case rel =>
            refine ⟨k + 1, _, _, rs ++ [r], by omega, by go_num, by simp, by rw [List.length_append, HRL.out]; rfl, HPU.out, ?_⟩
            exact HBE.out.trans ((HBA.out.mono (by omega)).trans ((HON.out.below (by omega) (by have := HBA.out.size; omega)).trans HB6.out))
          case measure => simp [intOf]; omega
    · have hkn : k = n := by omega
      have HRN := Lib.hid (show rs.length = n from HRL.out.trans hkn)
      obtain ⟨w7, rfl⟩ : ∃ w7, w7 = wr := ⟨_, rfl⟩
      clear hk
      go_wp2_with fail
      go_loopw [8] (fun i wr => ∃ m : Nat, m ≤ n ∧ i = .int .i64 m ∧ BGrid lo wr n (fwM T m) Ao co rs ∧ Below lo w7 wr) (fun i _ => n - (intOf i).toNat)
      case atStart => exact ⟨0, Nat.zero_le _, rfl, HBG.out, Below.refl _ _⟩
      case round =>
        obtain ⟨m, hm, rfl, hbg, hbe⟩ := hrel
        have HBM := Lib.hid hbg
        have HBEM := Lib.hid hbe
        clear hbg hbe
        by_cases hlm : m < rs.length
        · have hmn : m < n := by have := HRN.out; omega
          obtain ⟨gx, rfl, hgx⟩ := HBM.out.form (by omega)
          obtain ⟨w8, rfl⟩ : ∃ w8, w8 = wr := ⟨_, rfl⟩
          obtain ⟨M, hM⟩ : ∃ M, M = fwM T m := ⟨_, rfl⟩
          have HM := Lib.hid hM
          rw [← hM] at HBM
          clear hM hgx
          go_wp2_with fail
          go_loopw [9] (fun i wr => ∃ a : Nat, a ≤ n ∧ i = .int .i64 a ∧ BGrid lo wr n (fwU M m a 0) (some ⟨gx, 0, none⟩) co rs ∧ Below lo w7 wr) (fun i _ => n - (intOf i).toNat)
          case atStart => exact ⟨0, Nat.zero_le _, rfl, by rw [fwU_zero]; exact HBM.out, HBEM.out⟩
          case round =>
            obtain ⟨a, ha, rfl, hba, hea⟩ := hrel
            have HBA := Lib.hid hba
            have HEA := Lib.hid hea
            clear hba hea
            by_cases hla : a < rs.length
            · have han : a < n := by have := HRN.out; omega
              obtain ⟨w9, rfl⟩ : ∃ w9, w9 = wr := ⟨_, rfl⟩
              obtain ⟨ra, hra⟩ : ∃ ra, ra = rs[a] := ⟨_, rfl⟩
              obtain ⟨rm, hrm⟩ : ∃ rm, rm = rs[m] := ⟨_, rfl⟩
              have HRA := Lib.hid hra
              have HRM := Lib.hid hrm
              have hlra : lo ≤ ra := by rw [hra]; exact (HBA.out.lo _ (List.getElem_mem hla)).1
              obtain ⟨b1, hb1⟩ : ∃ b1, b1 = M a m := ⟨_, rfl⟩
              have HB1 := Lib.hid hb1
              clear hra hrm hb1
              go_wp2_with fail
              go_loopw [10] (fun i wr => ∃ b : Nat, b ≤ n ∧ i = .int .i64 b ∧ BGrid lo wr n (fwU M m a b) (some ⟨gx, 0, none⟩) co rs ∧ Below lo w7 wr) (fun i _ => n - (intOf i).toNat)
              case atStart => exact ⟨0, Nat.zero_le _, rfl, HBA.out, HEA.out⟩
              case round =>
                obtain ⟨b, hb, rfl, hbb, heb⟩ := hrel
                have HBB := Lib.hid hbb
                have HEB := Lib.hid heb
                by_cases hlb : b < rs.length
                · have hbn : b < n := by have := HRN.out; omega
                  obtain ⟨b2, hb2⟩ : ∃ b2, b2 = M m b := ⟨_, rfl⟩
                  have z1 : wr.cell? ⟨gx, a, none⟩ = some (.slice (some ⟨ra, 0, none⟩) n n) := by rw [HRA.out]; exact hbb.head hla
                  have z2 : wr.cell? ⟨ra, m, none⟩ = some (.bool b1) := by rw [HRA.out, (hbb.rows a hla).cell hmn, fwU_left, HB1.out]
                  have z3 : wr.cell? ⟨gx, m, none⟩ = some (.slice (some ⟨rm, 0, none⟩) n n) := by rw [HRM.out]; exact hbb.head hlm
                  have z4 : wr.cell? ⟨rm, b, none⟩ = some (.bool b2) := by rw [HRM.out, (hbb.rows m hlm).cell hbn, fwU_right, hb2]
                  obtain ⟨u0, z5⟩ : ∃ u0, wr.cell? ⟨ra, b, none⟩ = some (.bool u0) := ⟨_, by rw [HRA.out]; exact (hbb.rows a hla).cell hbn⟩
                  have f5 : wr.frozen? ⟨ra, b, none⟩ = false := by rw [HRA.out]; exact (hbb.rows a hla).frozen b
                  have HB2 := Lib.hid hb2
                  clear hbb heb hb2
                  cases b1
                  · have HSK := Lib.hid (fwU_skip (T := M) (m := m) (i := a) (k := b) (by rw [← HB1.out, Bool.false_and]))
                    go_wp2_with fail
                    go_roundw
                    case rel => exact ⟨b + 1, by omega, by go_num, by rw [HSK.out]; exact HBB.out, HEB.out⟩
                    case measure => simp [intOf]; omega
                  · cases b2
                    · have HSK := Lib.hid (fwU_skip (T := M) (m := m) (i := a) (k := b) (by rw [← HB2.out, Bool.and_false]))
                      go_wp2_with fail
                      go_roundw
                      case rel => exact ⟨b + 1, by omega, by go_num, by rw [HSK.out]; exact HBB.out, HEB.out⟩
                      case measure => simp [intOf]; omega
                    · have HST := Lib.hid (show BGrid lo (wr.setCell ⟨ra, b, none⟩ (.bool true)) n (fwU M m a (b + 1)) (some ⟨gx, 0, none⟩) co rs ∧ Below lo w7 (wr.setCell ⟨ra, b, none⟩ (.bool true)) from by
                        refine ⟨?_, HEB.out.setCell (by show lo ≤ ra; exact hlra) _⟩
                        rw [HRA.out]
                        exact HBB.out.set hla true fun x y => by rw [fwU_step, ← HB1.out, ← HB2.out]; simp)
                      go_wp2_with fail
                      go_roundw
                      case rel => exact ⟨b + 1, by omega, by go_num, HST.out.1, HST.out.2⟩
                      case measure => simp [intOf]; omega
                · have HBN := Lib.hid (show BGrid lo wr n (fwU M m (a + 1) 0) (some ⟨gx, 0, none⟩) co rs from by
                    obtain rfl : b = n := by have := HRN.out; omega
                    exact hbb.congr fun x y _ hy => fwU_row x y hy)
                  clear hbb heb
                  go_wp2_with fail
                  go_roundw
                  case rel => exact ⟨a + 1, by omega, by go_num, HBN.out, HEB.out⟩
                  case measure => simp [intOf]; omega
            · have HBN := Lib.hid (show BGrid lo wr n (fwM T (m + 1)) (some ⟨gx, 0, none⟩) co rs from by
                obtain rfl : a = n := by have := HRN.out; omega
                exact HBA.out.congr fun x y hx _ => by rw [HM.out]; exact fwU_all x y (by have := HRN.out; omega))
              go_wp2_with fail
              go_roundw
              case rel => exact ⟨m + 1, by omega, by go_num, HBN.out, HEA.out⟩
              case measure => simp [intOf]; omega
        · have hme : m = n := by have := HRN.out; omega
          have HBN := Lib.hid (show BGrid lo wr n (fwM T n) Ao co rs from by
            have e : fwM T n = fwM T m := by rw [hme]
            rw [e]
            exact HBM.out)
          clear hme
          go_wp2_with fail
          go_ret
          refine ⟨Ao, co, rs, rfl, HRN.out, ?_, HB23.out.trans ((HBE.out.trans HBEM.out).mono hwlo)⟩
          have hfin := HBN.out
          exact ⟨ownsRow_mono hfin.heads hwlo, hfin.rows, fun r hr => ⟨Nat.le_trans hwlo (hfin.lo r hr).1, (hfin.lo r hr).2⟩, hfin.nodup⟩

end Go.Proofs.YtfjmnjemmfmoaaaDoor
/-
  The walk of the specification's Recursive.
-/
namespace Go.Proofs.YtfjmnjemmfmoaaaDoor
open Go.RowKit

set_option maxHeartbeats 4000000 in
set_option maxRecDepth 100000 in
theorem specRecursive_any (v : Value) (p : LProg) (x : Int) (w : World) (h : RdProg w w.heap.size v p) (hs : szP p ≤ 1048576) :
    Calls Tryd.prog 32 #[v, .int .i64 x] w fun e w' => e = .returned (.bool (recL p x)) ∧ Below w.heap.size w w' := by
  have HP := Lib.hid h
  obtain ⟨a, b, rfl, hA, hR⟩ := h
  obtain ⟨A, c, rfl, hcA, _⟩ := hA
  obtain ⟨A2, c2, rfl, hcR, _⟩ := hR
  have hn0 : p.1.length ≤ 1048576 := by unfold szP at hs; omega
  obtain ⟨R, hRR⟩ : ∃ R, R = recL p x := ⟨_, rfl⟩
  have HRR := Lib.hid hRR
  rw [← hRR]
  clear hRR
  obtain ⟨po, hpo⟩ : ∃ po, po = progOk p := ⟨_, rfl⟩
  have HPO := Lib.hid hpo
  obtain ⟨n, hn⟩ : ∃ n, n = p.1.length := ⟨_, rfl⟩
  have HNE := Lib.hid hn
  rw [← hn] at hcA hn0 ⊢
  clear hpo hn
  go_enter Tryd.func32, Tryd.ntmps32
  go_upto_region 1 with fail
  obtain ⟨w1, hw1⟩ : ∃ w1, w1 = w.alloc (Obj.cells #[Value.slice A n c, Value.slice A2 p.2.length c2] 40) := ⟨_, rfl⟩
  have X1 : Blk w1 w.heap.size 40 #[.slice A n c, .slice A2 p.2.length c2] := by rw [hw1]; exact Blk.new _ _ _
  have B1 : Below w.heap.size w w1 := by rw [hw1]; exact below1 _ _
  rw [← hw1]
  clear hw1
  have x0 : w1.cell? ⟨w.heap.size, 0, none⟩ = some (.slice A n c) := X1.cell 0
  have x1 : w1.cell? ⟨w.heap.size, 1, none⟩ = some (.slice A2 p.2.length c2) := X1.cell 1
  have HX1 := Lib.hid X1
  have CP := Lib.hid ((specProgramOk_any _ p w1 (HP.out.on B1) hs).mono fun e w' (hh : e = .returned (.bool (progOk p)) ∧ Below w1.heap.size w1 w') => (⟨by rw [hh.1, HPO.out], hh.2⟩ : e = .returned (.bool po) ∧ Below w1.heap.size w1 w'))
  rw [← HNE.out] at CP
  have hwr : IntKind.i64.wrap ((n : Int) - 1) = (n : Int) - 1 := by unfold IntKind.wrap; simp [IntKind.bits, IntKind.signed]; omega
  clear X1
  cases po
  · go_wp2_with (go_at_call 25; refine CP.out.mono ?_; rintro e w2 ⟨rfl, b2⟩; have B2 := Lib.hid (bthen B1 b2); clear b2)
    go_ret
    exact ⟨ret_bool (by rw [HRR.out]; unfold recL; rw [← HPO.out]; rfl), B2.out⟩
  · obtain ⟨hn24, hf⟩ := asksOf_fits HPO.out.symm
    have HL := Lib.hid (fun W (hW : Below w.heap.size w W) => l5Reach_any _ p W (HP.out.on hW) hs hn24 hf)
    rw [← HNE.out] at HL hn24
    have HR2 := Lib.hid (show R = (decide (0 ≤ x) && (decide (x < (n : Int)) && (reachP p x.toNat).testBit x.toNat)) by rw [HRR.out, HNE.out]; unfold recL; rw [← HPO.out]; rfl)
    clear hf
    obtain ⟨b0, hb0⟩ : ∃ b0, b0 = decide (0 ≤ x ∧ x ≤ (n : Int) - 1) := ⟨_, rfl⟩
    have HB0 := Lib.hid hb0
    have CI := Lib.hid (fun W => (l1In_any x 0 ((n : Int) - 1) W).mono fun e w' (hh : e = .returned (.bool (decide (0 ≤ x ∧ x ≤ (n : Int) - 1))) ∧ W = w') => (⟨by rw [hh.1, hb0], hh.2⟩ : e = .returned (.bool b0) ∧ W = w'))
    clear hb0
    cases b0
    · go_wp2_with (first
        | (go_at_call 25; refine CP.out.mono ?_; rintro e w2 ⟨rfl, b2⟩; have B2 := Lib.hid (bthen B1 b2); have HX2 := Lib.hid (HX1.out.below b2 HX1.out.lt); have x20 : w2.cell? ⟨w.heap.size, 0, none⟩ = some (.slice A n c) := HX2.out.cell 0; clear b2)
        | (go_at_call 70; refine (CI.out _).mono ?_; rintro e w3 ⟨rfl, rfl⟩))
      go_ret
      refine ⟨ret_bool ?_, B2.out⟩
      rw [HR2.out]
      have := HB0.out
      simp at this ⊢
      intro h1 h2
      have := this h1
      omega
    · have hx : 0 ≤ x ∧ x ≤ (n : Int) - 1 := of_decide_eq_true HB0.out.symm
      obtain ⟨q, rfl⟩ : ∃ q : Nat, x = (q : Int) := ⟨x.toNat, by omega⟩
      have hqn : q < n := by omega
      obtain ⟨u, hu⟩ : ∃ u, u = (reachP p q).testBit q := ⟨_, rfl⟩
      have HU := Lib.hid hu
      have HUF := Lib.hid (show u = fwM (askT p) n q q by rw [hu, HNE.out]; exact reach_fw HPO.out.symm (by rw [← HNE.out]; exact hqn) q)
      clear hu hx
      go_wp2_with (first
        | (go_at_call 25; refine CP.out.mono ?_; rintro e w2 ⟨rfl, b2⟩; have B2 := Lib.hid (bthen B1 b2); have HX2 := Lib.hid (HX1.out.below b2 HX1.out.lt); have x20 : w2.cell? ⟨w.heap.size, 0, none⟩ = some (.slice A n c) := HX2.out.cell 0; have x21 : w2.cell? ⟨w.heap.size, 1, none⟩ = some (.slice A2 p.2.length c2) := HX2.out.cell 1; clear b2)
        | (go_at_call 70; refine (CI.out _).mono ?_; rintro e w3 ⟨rfl, rfl⟩)
        | (go_at_call 76; refine (HL.out _ B2.out).mono ?_; rintro e w4 ⟨Ao, co, rs, rfl, hrn, hbg, b4⟩
           have hqr : q < rs.length := (by omega)
           obtain ⟨gx, rfl, hgx⟩ := hbg.form (by omega)
           obtain ⟨rq, hrq⟩ : ∃ rq, rq = rs[q] := ⟨_, rfl⟩
           have z1 : w4.cell? ⟨gx, q, none⟩ = some (.slice (some ⟨rq, 0, none⟩) n n) := (by rw [hrq]; exact hbg.head hqr)
           have z2 : w4.cell? ⟨rq, q, none⟩ = some (.bool u) := (by rw [hrq, (hbg.rows q hqr).cell hqn, HUF.out])
           have B4 := Lib.hid (bthen B2.out b4)
           clear hrn hbg b4 hrq))
      go_ret
      refine ⟨ret_bool ?_, B4.out⟩
      rw [HR2.out, HU.out]
      simp [hqn]

end Go.Proofs.YtfjmnjemmfmoaaaDoor
/-
  What comes in, opened into the words of the Base text.
-/
namespace Go.Proofs.YtfjmnjemmfmoaaaDoor
open Go.ChangeShapes Go.WideShapes Go.ChangeAt Go.RowKit Go.Joins Go.Deep

section
variable {H : Type} {enc : TypeId × Value → H} {W : World}

def InFact (W : World) (v : Value) (f : LFact) : Prop := RdFact W W.heap.size v f ∧ f.2.length ≤ maxLen
def InFacts (W : World) (v : Value) (fs : List LFact) : Prop := RdFacts W W.heap.size v fs ∧ fs.length ≤ maxLen ∧ ∀ k (h : k < fs.length), fs[k].2.length ≤ maxLen

end

end Go.Proofs.YtfjmnjemmfmoaaaDoor
/-
  The walk of the law on Recursive (written by wip/genlaw.py).
-/
namespace Go.Proofs.YtfjmnjemmfmoaaaDoor
open Go.RowKit

set_option maxHeartbeats 4000000 in
set_option maxRecDepth 100000 in
theorem lawRecursive_any (v0 : Value) (p : LProg) (x : Int) (w : World) (h0 : RdProg w w.heap.size v0 p) (n0 : progLens p) (hT : Tab w) :
    Calls Tryd.prog 5 #[v0, .int .i64 x] w fun e w' => e = .returned (.bool true) ∧ Below w.heap.size w w' := by
  have HT := Lib.hid hT
  clear hT
  have H0 := Lib.hid h0
  obtain ⟨_, _, rfl, ⟨A0, c0, rfl, hc0, _⟩, ⟨A0b, c0b, rfl, hc0b, _⟩⟩ := h0
  go_enter Tryd.func5, Tryd.ntmps5
  go_wp2_with (fail)
  obtain ⟨w1, hw_w1⟩ : ∃ W', W' = w.alloc (Obj.cells #[Value.slice A0 p.1.length c0, Value.slice A0b p.2.length c0b] 47) := ⟨_, rfl⟩
  rw [← hw_w1]
  have B_w1 : Below w.heap.size w w1 := by rw [hw_w1]; exact below1 _ _
  have bx0 : Blk w1 (w.heap.size + 0) 47 #[.slice A0 p.1.length c0, .slice A0b p.2.length c0b] := by
    rw [hw_w1]
    have := (Blk.new w 47 #[.slice A0 p.1.length c0, .slice A0b p.2.length c0b])
    simpa using this
  have bx0_l := bx0.lt
  rw [Nat.add_zero] at bx0 bx0_l
  have s_w1 := B_w1.size
  clear hw_w1
  refine (us_prog (H0.out.on B_w1) (by omega) (by omega) n0).mono ?_
  rintro e w2 ⟨z0, rfl, hz0, hbz0⟩
  have s_w2 := hbz0.size
  have bx0_1 := bx0.below hbz0 (by first | exact bx0.lt | omega)
  clear bx0
  have bx0_1_l := bx0_1.lt
  have B_w2 := bthen B_w1 hbz0
  rcases hz0 with rfl | ⟨zp0, zs0⟩
  · go_wp2_with (fail)
    go_ret
    exact ⟨rfl, B_w2⟩
  have zn0 : ¬ z0 < 0 := by omega
  have r0 : szP p ≤ 1048576 := by omega
  have zl0 : z0 ≤ 1048576 := by omega
  have ZS0 := Lib.hid zs0
  clear zs0 zn0
  have zn0 : ¬ z0 < 0 := by omega
  obtain ⟨R0, hR0⟩ : ∃ R, R = recL p x := ⟨_, rfl⟩
  have HR0 := Lib.hid hR0
  clear hR0
  have gb0 : (R0 != R0) = false := by simp
  have q1 : w2.cell? ⟨w.heap.size, 0, none⟩ = some (.slice A0 p.1.length c0) := bx0_1.cell 0
  have q2 : w2.cell? ⟨w.heap.size, 1, none⟩ = some (.slice A0b p.2.length c0b) := bx0_1.cell 1
  go_wp2_with (fail)
  clear q1 q2
  refine (toProgram_own _ p _ (H0.out.on B_w2) (by omega)).mono ?_
  rintro e w3 ⟨P1, d1, P1b, d1b, rfl, o1, hb1⟩
  have s_w3 := hb1.size
  have bx0_2 := bx0_1.below hb1 (by first | exact bx0_1.lt | omega)
  clear bx0_1
  have bx0_2_l := bx0_2.lt
  have B_w3 := bthen B_w2 hb1
  have q3 : w3.cell? ⟨w.heap.size, 0, none⟩ = some (.slice A0 p.1.length c0) := bx0_2.cell 0
  have q4 : w3.cell? ⟨w.heap.size, 1, none⟩ = some (.slice A0b p.2.length c0b) := bx0_2.cell 1
  go_wp2_with (fail)
  clear q3 q4
  refine (specRecursive_any _ p x _ (o1.rd.more (by omega)) (by omega)).mono ?_
  try rw [← HR0.out]
  rintro e w4 ⟨rfl, hb2⟩
  have s_w4 := hb2.size
  have bx0_3 := bx0_2.below hb2 (by first | exact bx0_2.lt | omega)
  clear bx0_2
  have bx0_3_l := bx0_3.lt
  have tw0_3 := o1.below hb2 (by omega)
  clear o1
  have B_w4 := bthen B_w3 hb2
  have q5 : w4.cell? ⟨w.heap.size, 0, none⟩ = some (.slice A0 p.1.length c0) := bx0_3.cell 0
  have q6 : w4.cell? ⟨w.heap.size, 1, none⟩ = some (.slice A0b p.2.length c0b) := bx0_3.cell 1
  go_wp2_with (fail)
  clear q5 q6
  refine (toProgram_own _ p _ (H0.out.on B_w4) (by omega)).mono ?_
  rintro e w5 ⟨P3, d3, P3b, d3b, rfl, o3, hb3⟩
  have s_w5 := hb3.size
  have bx0_4 := bx0_3.below hb3 (by first | exact bx0_3.lt | omega)
  clear bx0_3
  have bx0_4_l := bx0_4.lt
  have B_w5 := bthen B_w4 hb3
  have q7 : w5.cell? ⟨w.heap.size, 0, none⟩ = some (.slice A0 p.1.length c0) := bx0_4.cell 0
  have q8 : w5.cell? ⟨w.heap.size, 1, none⟩ = some (.slice A0b p.2.length c0b) := bx0_4.cell 1
  go_wp2_with (fail)
  clear q7 q8
  obtain ⟨w6, hw_w6⟩ : ∃ W', W' = w5.alloc (Obj.cells #[Value.slice P3 p.1.length d3, Value.slice P3b p.2.length d3b] 40) := ⟨_, rfl⟩
  rw [← hw_w6]
  have hb_w6 : Below w5.heap.size w5 w6 := by rw [hw_w6]; exact below1 _ _
  have bxx0_n : Blk w6 w5.heap.size 40 #[.slice P3 p.1.length d3, .slice P3b p.2.length d3b] := by rw [hw_w6]; exact Blk.new _ _ _
  have bxx0_nl := bxx0_n.lt
  clear hw_w6
  have s_w6 := hb_w6.size
  have bx0_5 := bx0_4.below hb_w6 (by first | exact bx0_4.lt | omega)
  clear bx0_4
  have bx0_5_l := bx0_5.lt
  have x0_5 := o3.below hb_w6 (by omega)
  clear o3
  have B_w6 := bthen B_w5 hb_w6
  refine (implRecursive_any _ p x _ (x0_5.rd.more (by omega)) (by omega) (HT.out.below B_w6)).mono ?_
  try rw [← HR0.out]
  rintro e w7 ⟨rfl, hb4⟩
  have s_w7 := hb4.size
  have bx0_6 := bx0_5.below hb4 (by first | exact bx0_5.lt | omega)
  clear bx0_5
  have bx0_6_l := bx0_6.lt
  have x0_6 := x0_5.below hb4 (by omega)
  clear x0_5
  have bxx0_6 := bxx0_n.below hb4 (by first | exact bxx0_n.lt | omega)
  clear bxx0_n
  have bxx0_6_l := bxx0_6.lt
  have B_w7 := bthen B_w6 hb4
  have q9 : w7.cell? ⟨w.heap.size, 0, none⟩ = some (.slice A0 p.1.length c0) := bx0_6.cell 0
  have q10 : w7.cell? ⟨w.heap.size, 1, none⟩ = some (.slice A0b p.2.length c0b) := bx0_6.cell 1
  have q11 : w7.cell? ⟨w5.heap.size, 0, none⟩ = some (.slice P3 p.1.length d3) := bxx0_6.cell 0
  have q12 : w7.cell? ⟨w5.heap.size, 1, none⟩ = some (.slice P3b p.2.length d3b) := bxx0_6.cell 1
  go_upto_region 10 with fail
  clear q9 q10 q11 q12
  have HS_w7 := Lib.hid (show ∀ W, Below w7.heap.size w7 W → (Below w7.heap.size w7 W ∧ W.cell? ⟨w.heap.size, 0, none⟩ = some (.slice A0 p.1.length c0) ∧ W.cell? ⟨w.heap.size, 1, none⟩ = some (.slice A0b p.2.length c0b) ∧ W.cell? ⟨w5.heap.size, 0, none⟩ = some (.slice P3 p.1.length d3) ∧ W.cell? ⟨w5.heap.size, 1, none⟩ = some (.slice P3b p.2.length d3b)) from fun W hW => ⟨hW, (bx0_6.below hW bx0_6_l).cell 0, (bx0_6.below hW bx0_6_l).cell 1, (bxx0_6.below hW bxx0_6_l).cell 0, (bxx0_6.below hW bxx0_6_l).cell 1⟩)
  have RX_w7 := Lib.hid (show RdProg w7 w7.heap.size (.agg #[.slice P3 p.1.length d3, .slice P3b p.2.length d3b]) p from x0_6.rd.more (by omega))
  go_region_held3 (fun W => Below w7.heap.size w7 W ∧ W.cell? ⟨w.heap.size, 0, none⟩ = some (.slice A0 p.1.length c0) ∧ W.cell? ⟨w.heap.size, 1, none⟩ = some (.slice A0b p.2.length c0b) ∧ W.cell? ⟨w5.heap.size, 0, none⟩ = some (.slice P3 p.1.length d3) ∧ W.cell? ⟨w5.heap.size, 1, none⟩ = some (.slice P3b p.2.length d3b))
    (first | exact HS_w7.out _ (Below.refl _ _) | exact HS_w7.out _ (Below.refl _ _).drew | exact HS_w7.out _ (bthen (And.left (by assumption)) (by assumption)))
    (first
      | (go_at_call 33; refine (toProgram_own _ p _ ?_ (by omega)).mono ?_; exact H0.out.on (bthen B_w7 (And.left (by assumption))); rintro e wf ⟨Af, cf, Ag, cg, rfl, hof, hbf⟩)
      | (go_at_call 35; refine (eqProgram_any _ _ p p _ ?_ ?_ (by omega) (by omega)).mono ?_; exact (RX_w7.out.on (And.left (by assumption))); exact hof.rd; rw [show decide (p = p) = true by simp]; rintro e wg ⟨rfl, hbg⟩))
  all_goals
    go_wp2_with (fail)
    go_ret
    exact ⟨rfl, bthen B_w7 (And.left (by assumption))⟩

theorem lawRecursive_in (v0 : Value) (v1 : Value) (p : LProg) (x : Int) (w : World) (h0 : InProg w v0 p) (h1 : InInt v1 x) (hT : Tab w) : Calls Tryd.prog 5 #[v0, v1] w fun e w' => e = .returned (.bool true) ∧ Below w.heap.size w w' :=
  h1.1 ▸ lawRecursive_any v0 p x w h0.1 (progLens_in h0.2) hT

end Go.Proofs.YtfjmnjemmfmoaaaDoor
namespace Go.Proofs.YtfjmnjemmfmoaaaDoor
open Go.ChangeShapes Go.WideShapes Go.ChangeAt Go.RowKit

set_option maxRecDepth 100000 in
theorem fnExactRecursive_lifted (os : Os) (started : os.Started) (H : Type) (enc : TypeId × Value → H) :
    ReturnsInHanded {} Tryd.checked os 5 .any (fun w args => (Rows.fnExactRecursiveSpec.pre enc Tryd.prog Tryd.f5 [] false w args ∧ laidMetH Tryd.prog laidTabs w) ∧ sizedMet enc Tryd.prog Tryd.f5 (OpenSpec.ofChange Rows.fnExactRecursiveSpec) false w args) (Rows.fnExactRecursiveSpec.post enc Tryd.prog Tryd.f5 false true false false) := by
  refine returnsInHanded_of_change_and (C := Tryd.checked) (X := fun w _ => laidMetH Tryd.prog laidTabs w) (fun _ _ _ hh h => h.of_heap hh) Tryd.own started (by kernel_rfl) Tryd.func5
    (ChangeSpec.witness_shaped (enc := enc) (C := Tryd.checked) (os := os) (X := fun w _ => laidMetH Tryd.prog laidTabs w) false (World.laidAll Tryd.prog os laidTabs) #[.agg #[.slice none 0 0, .slice none 0 0], .int .i64 0] 8 (World.laidAll_os _ _ _)
      (World.shaped_of_ZipB (by kernel_rfl) (by kernel_rfl)) (by kernel_rfl) (by kernel_rfl) (by kernel_rfl)
      (by rw [MakeChecks.laidMetH_plain _ _ _ (by kernel_rfl)]; exact laidMet_laidAll _ (by kernel_rfl) (by kernel_rfl))) ?_
  intro W base args ds gs before hval0 hW _ _ hL _
  have hval : ∀ (j : Nat) t v, Tryd.f5.params[j]? = some t → args[j]? = some v → Value.okWide Tryd.prog W .any base t v := hval0
  have hW' := hW
  obtain ⟨p, q, hA0, hV, rfl, hfz, hnd⟩ := hW
  have hA : DataW.TrodAll enc Tryd.prog W 0 (fun _ => true) true Tryd.f5.params.toList args.toList ds p := hA0
  rw [Tryd.params5] at hA hval
  obtain ⟨v0, vs0, d0, ds0, p0, q0, hargs, rfl, rfl, h0, r0⟩ := trodAll_cons hA
  obtain ⟨v1, vs1, d1, ds1, p1, q1, rfl, rfl, rfl, h1, r1⟩ := trodAll_cons r0
  obtain ⟨rfl, rfl, rfl⟩ := trodAll_nil r1
  obtain rfl : args = #[v0, v1] := by cases args; simp_all
  obtain ⟨rfl, rfl⟩ := trodVars_none hV
  have lt0 : ∀ x ∈ p0, x.block < W.heap.size := by obtain ⟨m, hm⟩ := h0; exact DataW.trod_lt m _ _ _ hm
  obtain ⟨x0, w0⟩ := open_inProg (hval 0 47 v0 rfl rfl) h0
  have lt1 : ∀ x ∈ p1, x.block < W.heap.size := by obtain ⟨m, hm⟩ := h1; exact DataW.trod_lt m _ _ _ hm
  obtain ⟨x1, w1⟩ := open_inInt (hval 1 3 v1 rfl rfl) h1
  clear hA0 hval0
  refine (lawRecursive_in v0 v1 x0 x1 W w0 w1 (tab_of_laid hL)).mono fun e W' ⟨he, bel⟩ => ?_
  subst he
  exact ⟨_, rfl, _, _, _, [], _, [], hW', trodAll_mk1 (shut_bool Tryd.underlying4 _), (trodAll_cons_mk (Below.trod Tryd.laidOut (by kernel_rfl) (of_decide_eq_true (by kernel_rfl)) h0 bel lt0) (trodAll_cons_mk (Below.trod Tryd.laidOut (by kernel_rfl) (of_decide_eq_true (by kernel_rfl)) h1 bel lt1) trodAll_mk0)), rfl, bel.frame _, fun h => by cases h⟩

theorem fnExactRecursive_holds : Rows.FnExactRecursiveSaid :=
  OpenClaim.holds_of_wide 5 Tryd.f5 rfl rfl rfl rfl rfl rfl rfl ⟨rfl, rfl, rfl, rfl, rfl⟩ rfl rfl rfl rfl rfl (by kernel_rfl) Tryd.func5 (by kernel_rfl)
    (of_decide_eq_true (by kernel_rfl)) (by unfold Func.isWrapper; rw [if_neg (of_decide_eq_false (by kernel_rfl))]; exact ⟨rfl, rfl⟩)
    (fun os started H enc _ => fnExactRecursive_lifted os started H enc)

theorem fnExactRecursiveCard_holds : Rows.FnExactRecursiveCardSaid :=
  Claim7.holds_tied_plain_at .later [] [.data, .data] true (true, "eb9f304200c1dc23c84bf0b304748481fb81b6d2ef45b766bfb609a6583c2c85") false fnExactRecursive_holds (fun _ h => by cases h) (by kernel_rfl) (fun _ h => by cases h) fnExactRecursive_row_tie rfl ⟨rfl, rfl⟩ (by kernel_rfl) rfl
    (fun f fn hf hfn => by
      obtain rfl : f = 5 := Option.some.inj ((show Tryd.prog.funcNamed "loop.example/wholerules/laws.FnExactRecursive" = some 5 by kernel_rfl).symm.trans hf) |>.symm
      obtain rfl : fn = Tryd.f5 := (Option.some.inj (Tryd.func5.symm.trans hfn)).symm
      exact ⟨by kernel_rfl, fun j t ht => by
        rw [Tryd.params5] at ht
        have hm : t ∈ [47, 3] := by simpa using Array.mem_of_getElem? ht
        have hall : ([47, 3].all fun u => !Tryd.prog.wantsStandIn u) = true := by kernel_rfl
        exact (show Tryd.prog.wantsStandIn t = false by simpa using List.all_eq_true.1 hall t hm)⟩)
    (by kernel_rfl)

end Go.Proofs.YtfjmnjemmfmoaaaDoor
