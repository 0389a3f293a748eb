/-
  Texts that the claim's last one imports, laid together: part 1 of 3. No condition of its own.
-/
import Derived.Test.YtocpfmbieedpgaaMPb3
import Derived.Test.YtocpfmbieedpgaaMPb2
import Derived.Test.YtocpfmbieedpgaaMPb4
import Derived.Deep.DeepAppendRoom
import Derived.Deep.AppendLies
import Derived.Maps.AppendAt
import Derived.Laws.Append
import Derived.Shelf.Slices.Clone
import Derived.Test.YtocpfmbieedpgaaChecked
import Derived.Test.YtocpfmbieedpgaaMPb1
import Derived.Laws.BitsAllLaws
import Derived.StillTailTactics
import Derived.Deep.QuietTactic
import Derived.BigQuiet
import Derived.Deep.RegionHeld3
import Derived.Deep.DeepCutAuto
/-
  Rows of slices of integers: one that is read, one of the call's own; the relation of a loop that collects them.
-/
namespace Go.Proofs.Ytocpfmbieedpgaa
open Go.RowKit

theorem Try.infoIntS : (Try.prog.info? 23).map (fun i => (i.zero, i.size, i.bytes)) = some (some (.slice none 0 0), 1, 24) := by kernel_rfl

/-- A row of slices of integers that is read. -/
def RdRows (w : World) (B : Nat) (v : Value) (xss : List (List Int)) : Prop :=
  ∃ A c, v = .slice A xss.length c ∧ xss.length ≤ c ∧ (0 < xss.length → ∃ b o, A = some ⟨b, o, none⟩ ∧ b < B ∧ ∀ k (h : k < xss.length), ∃ u, w.cell? ⟨b, o + k, none⟩ = some u ∧ RdInts w B u xss[k])
/-- A row of slices of integers in blocks from lo on and below hi; weak: two of them may share a block. -/
def WkRows (w : World) (lo hi : Nat) (v : Value) (xss : List (List Int)) : Prop :=
  ∃ av : List Value, (av.length = xss.length ∧ ∀ i (h : i < xss.length) (h' : i < av.length), OwnInts w lo hi av[i] xss[i]) ∧ w.ownsRow lo 23 1 v xss.length av ∧ ∀ g, v.ownBlock = some g → g < hi
/-- And no two share one. -/
def OwnRows (w : World) (lo hi : Nat) (v : Value) (xss : List (List Int)) : Prop :=
  ∃ av, OwnArgs w lo hi av xss ∧ w.ownsRow lo 23 1 v xss.length av ∧ ∀ g, v.ownBlock = some g → g < hi

section
variable {w w' : World} {lo hi lo' hi' B B' : Nat} {v : Value} {xss : List (List Int)}
theorem RdRows.below (h : RdRows w B v xss) (hb : Below B' w w') (hB : B ≤ B') : RdRows w' B v xss := by
  obtain ⟨A, c, rfl, hc, h⟩ := h
  refine ⟨A, c, rfl, hc, fun hn => ?_⟩
  obtain ⟨b, o, rfl, hlt, hk⟩ := h hn
  refine ⟨b, o, rfl, hlt, fun k hkl => ?_⟩
  obtain ⟨u, h1, h2⟩ := hk k hkl
  exact ⟨u, (hb.cell (p := ⟨b, o + k, none⟩) (by show b < B'; omega)).trans h1, h2.below hb hB⟩
theorem RdRows.more (h : RdRows w B v xss) (hB : B ≤ B') : RdRows w B' v xss := by
  obtain ⟨A, c, rfl, hc, h⟩ := h
  refine ⟨A, c, rfl, hc, fun hn => ?_⟩
  obtain ⟨b, o, rfl, hlt, hk⟩ := h hn
  refine ⟨b, o, rfl, by omega, fun k hkl => ?_⟩
  obtain ⟨u, h1, h2⟩ := hk k hkl
  exact ⟨u, h1, h2.more hB⟩
theorem RdRows.on (h : RdRows w w.heap.size v xss) (hb : Below w.heap.size w w') : RdRows w' w'.heap.size v xss := (h.below hb (Nat.le_refl _)).more hb.size
theorem RdRows.get {A : Option Addr} {c : Nat} (h : RdRows w B (.slice A xss.length c) xss) {k : Nat} (hk : k < xss.length) :
    ∃ b o A2 c2, A = some ⟨b, o, none⟩ ∧ b < B ∧ w.cell? ⟨b, o + k, none⟩ = some (.slice A2 xss[k].length c2) ∧ RdInts w B (.slice A2 xss[k].length c2) xss[k] := by
  obtain ⟨A', c', e, _, h⟩ := h
  injection e with e1 _ _
  subst e1
  obtain ⟨b, o, rfl, hb, hx⟩ := h (by omega)
  obtain ⟨u, h1, h2⟩ := hx k hk
  have h3 := h2
  obtain ⟨A2, c2, rfl, _⟩ := h2
  exact ⟨b, o, A2, c2, rfl, hb, h1, h3⟩
theorem OwnRows.weak (h : OwnRows w lo hi v xss) : WkRows w lo hi v xss := by
  obtain ⟨av, h1, h2, h3⟩ := h
  exact ⟨av, ⟨h1.len, h1.own⟩, h2, h3⟩
theorem WkRows.form (h : WkRows w lo hi v xss) : ∃ A c, v = .slice A xss.length c := by
  obtain ⟨_, _, h, _⟩ := h
  rcases h.2 with ⟨rfl, h0⟩ | ⟨g, cap, _, rfl, _⟩
  · exact ⟨none, 0, by rw [h0]⟩
  · exact ⟨_, _, rfl⟩
theorem WkRows.below (h : WkRows w lo hi v xss) (hb : Below B w w') (hB : hi ≤ B) : WkRows w' lo hi v xss := by
  obtain ⟨av, ⟨h0, h1⟩, h2, h3⟩ := h
  exact ⟨av, ⟨h0, fun i a b => (h1 i a b).below hb hB⟩, ownsRow_below h2 h3 hb hB, h3⟩
theorem WkRows.mono (h : WkRows w lo hi v xss) (h1 : lo' ≤ lo) (h2 : hi ≤ hi') : WkRows w lo' hi' v xss := by
  obtain ⟨av, ⟨h0, ha⟩, hr, hlt⟩ := h
  exact ⟨av, ⟨h0, fun i a b => (ha i a b).mono h1 h2⟩, ownsRow_mono hr h1, fun g hg => by have := hlt g hg; omega⟩
theorem WkRows.only (h : WkRows w lo hi v xss) (ho : Only lo' hi' w w') (hd : hi ≤ lo' ∨ hi' ≤ lo) : WkRows w' lo hi v xss := by
  obtain ⟨av, ⟨h0, ha⟩, hr, hlt⟩ := h
  exact ⟨av, ⟨h0, fun i a b => (ha i a b).only ho hd⟩, ownsRow_only hr fun g hg => ho.block g (hr.lt g hg).2 (by have := hr.lt g hg; have := hlt g hg; omega), hlt⟩
theorem WkRows.rd (h : WkRows w lo hi v xss) : RdRows w hi v xss := by
  obtain ⟨av, ⟨h0, ha⟩, hr, hlt⟩ := h
  have hcells := @World.ownsRow.cells w lo 23 1 v xss.length av hr
  obtain ⟨hlen, hr⟩ := hr
  rcases hr with ⟨rfl, e0⟩ | ⟨g, cap, cur, rfl, hb, hg, hn, hm, hs, ht⟩
  · have : xss = [] := List.eq_nil_of_length_eq_zero e0
    subst this
    exact ⟨none, 0, rfl, by simp, fun h => absurd h (by simp)⟩
  · refine ⟨_, cap, rfl, hn, fun _ => ⟨g, 0, rfl, hlt g rfl, fun k hk => ⟨av[k]'(by omega), ?_, (ha k hk (by omega)).rd⟩⟩⟩
    have := hcells (g := g) rfl k (av[k]'(by omega)) (by simp [show k < av.length by omega])
    rwa [Go.WideShapes.add_plain] at this
theorem OwnRows.below (h : OwnRows w lo hi v xss) (hb : Below B w w') (hB : hi ≤ B) : OwnRows w' lo hi v xss := by
  obtain ⟨av, h1, h2, h3⟩ := h
  exact ⟨av, h1.below hb hB, ownsRow_below h2 h3 hb hB, h3⟩
theorem OwnRows.mono (h : OwnRows w lo hi v xss) (h1 : lo' ≤ lo) (h2 : hi ≤ hi') : OwnRows w lo' hi' v xss := by
  obtain ⟨av, ha, hr, hlt⟩ := h
  exact ⟨av, ha.mono h1 h2, ownsRow_mono hr h1, fun g hg => by have := hlt g hg; omega⟩
theorem OwnRows.only (h : OwnRows w lo hi v xss) (ho : Only lo' hi' w w') (hd : hi ≤ lo' ∨ hi' ≤ lo) : OwnRows w' lo hi v xss := by
  obtain ⟨av, ha, hr, hlt⟩ := h
  exact ⟨av, ⟨ha.len, fun i a b => (ha.own i a b).only ho hd, ha.apart⟩, ownsRow_only hr fun g hg => ho.block g (hr.lt g hg).2 (by have := hr.lt g hg; have := hlt g hg; omega), hlt⟩
theorem OwnRows.rd (h : OwnRows w lo hi v xss) : RdRows w hi v xss := h.weak.rd
theorem OwnRows.form (h : OwnRows w lo hi v xss) : ∃ A c, v = .slice A xss.length c := h.weak.form
end

/-- The block of a row of integers is no block of a row of slices. -/
theorem rowsI_ne {w : World} {lo hi lo' g : Nat} {n : Nat} {v a : Value} {zs : List Value} {xs : List Int} (hr : w.ownsRow lo' 23 1 v n zs) (hv : v.ownBlock = some g) (ha : OwnInts w lo hi a xs) : a.ownBlock ≠ some g := by
  rcases hr.2 with ⟨rfl, _⟩ | ⟨g1, c1, cur1, rfl, _, h1, _⟩
  · cases hv
  · have e : g1 = g := by simpa [Value.ownBlock] using hv
    subst e
    exact blk_ne_row ha.1 (show Blk w g1 23 cur1 from h1) (by decide)

theorem WkRows.get {w : World} {lo hi c : Nat} {A : Option Addr} {xss : List (List Int)} (h : WkRows w lo hi (.slice A xss.length c) xss) {k : Nat} (hk : k < xss.length) :
    ∃ g A2 c2, A = some ⟨g, 0, none⟩ ∧ g < w.heap.size ∧ w.cell? ⟨g, k, none⟩ = some (.slice A2 xss[k].length c2) ∧ OwnInts w lo hi (.slice A2 xss[k].length c2) xss[k] := by
  obtain ⟨av, ⟨h0, ha⟩, hr, hlt⟩ := h
  have hcells := @World.ownsRow.cells w lo 23 1 _ xss.length av hr
  obtain ⟨hlen, hr2⟩ := hr
  rcases hr2 with ⟨e, e0⟩ | ⟨g, cap, cur, e, hb, hg, _⟩
  · omega
  · injection e with e1 _ _
    subst e1
    have h1 := ha k hk (by omega)
    obtain ⟨A2, c2, e2⟩ := h1.form
    have := hcells (g := g) rfl k (av[k]'(by omega)) (by simp [show k < av.length by omega])
    rw [Go.WideShapes.add_plain, Nat.zero_add, e2] at this
    exact ⟨g, A2, c2, rfl, Blk.lt hg, this, e2 ▸ h1⟩

/-- The relation of a loop that collects slices of integers: these lie from lo on, the row is new. -/
structure ColS (lo : Nat) (w wr : World) (xss : List (List Int)) (A : Option Addr) (c : Nat) (av : List Value) : Prop where
  below : Below w.heap.size w wr
  len : av.length = xss.length
  inn : ∀ i (h : i < xss.length) (h' : i < av.length), OwnInts wr lo wr.heap.size av[i] xss[i]
  row : wr.ownsRow w.heap.size 23 1 (.slice A xss.length c) xss.length av
theorem ColS.empty {lo : Nat} {w wr : World} (hb : Below w.heap.size w wr) : ColS lo w (wr.alloc (.cells #[] 23)) [] (some ⟨wr.heap.size, 0, none⟩) 0 [] :=
  ⟨hb.alloc hb.size _, rfl, fun i h => absurd h (by simp), World.ownsRow_made wr #[] 0 hb.size (by decide) rfl⟩
theorem ColS.on {lo : Nat} {w wr w2 : World} {xss : List (List Int)} {A : Option Addr} {c : Nat} {av : List Value} (h : ColS lo w wr xss A c av) (hb : Below wr.heap.size wr w2) : ColS lo w w2 xss A c av :=
  ⟨bthen h.below hb, h.len, fun i a b => ((h.inn i a b).below hb (Nat.le_refl _)).mono (Nat.le_refl _) hb.size, ownsRow_below h.row (fun g hg => (h.row.lt g hg).2) hb (Nat.le_refl _)⟩
theorem ColS.rows {lo : Nat} {w wr : World} {xss : List (List Int)} {A : Option Addr} {c : Nat} {av : List Value} (h : ColS lo w wr xss A c av) (hl : lo ≤ w.heap.size) : WkRows wr lo wr.heap.size (.slice A xss.length c) xss :=
  ⟨av, ⟨h.len, h.inn⟩, ownsRow_mono h.row hl, fun g hg => (h.row.lt g hg).2⟩
theorem ColS.push {lo : Nat} {w wr w2 w4 : World} {xss xss' : List (List Int)} {A : Option Addr} {c g cap : Nat} {xs : List Int} {u : Value} {o : Obj} {av : List Value} (h : ColS lo w wr xss A c av) (e : xss' = xss ++ [xs]) (hb : Below wr.heap.size wr w2) (hu : OwnInts w2 lo w2.heap.size u xs)
    (hg : (w2.alloc o).grownBy w4 (Value.slice A xss.length c).ownBlock) (hown : w4.ownsRow w.heap.size 23 1 (.slice (some ⟨g, 0, none⟩) (xss.length + 1) cap) (xss.length + 1) (av ++ [u])) :
    ColS lo w w4 xss' (some ⟨g, 0, none⟩) cap (av ++ [u]) ∧ xss.length + 1 = xss'.length := by
  subst e
  have h2 := h.on hb
  have hg' := grown_from_alloc hg
  have hl : (xss ++ [xs]).length = xss.length + 1 := by simp
  refine ⟨⟨(h2.below.alloc h2.below.size _).grown hg (by have := h2.below.size; simp; omega) (fun k hk => (h2.row.lt k hk).1), by simp [h.len], fun i h1 h3 => ?_, by rw [hl]; exact hown⟩, hl.symm⟩
  have keep : ∀ {a : Value} {ys : List Int}, OwnInts w2 lo w2.heap.size a ys → OwnInts w4 lo w4.heap.size a ys := fun {a ys} h0 =>
    (h0.kept fun b hbk => hg'.block b (h0.lt hbk).2.2 (fun e => rowsI_ne h2.row e.symm h0 hbk)).mono (Nat.le_refl _) hg'.size
  by_cases e : i < xss.length
  · rw [List.getElem_append_left (by rw [h.len]; exact e), List.getElem_append_left e]
    exact keep (h2.inn i e (by rw [h.len]; exact e))
  · have e2 : i = xss.length := by simp at h1; omega
    subst e2
    have := h.len
    simp [← this]
    exact keep hu

end Go.Proofs.Ytocpfmbieedpgaa
/-
  All orders of a rule's literals that make plans. Plain mathematics.
-/
namespace Go.Proofs.Ytocpfmbieedpgaa
open Go.RowKit

/-- Index i can come behind an order. -/
def canAt (b : List LLit) (xs : List Int) (i : Nat) : Bool := !(xs.contains (i : Int)) && canB (litAt b (i : Int)) (ordMask b xs)
/-- What comes of the first j indexes behind an order. -/
def ordTo (f : List Int → List (List Int)) (q : Nat → Bool) (xs : List Int) (j : Nat) : List (List Int) := (List.range j).flatMap fun i => if q i then f (xs ++ [(i : Int)]) else []
theorem ordTo_zero (f : List Int → List (List Int)) (q : Nat → Bool) (xs : List Int) : ordTo f q xs 0 = [] := rfl
theorem ordTo_yes {f : List Int → List (List Int)} {q : Nat → Bool} {xs : List Int} {j : Nat} (h : q j = true) : ordTo f q xs (j + 1) = ordTo f q xs j ++ f (xs ++ [(j : Int)]) := by
  unfold ordTo
  rw [List.range_succ, List.flatMap_append]
  simp [h]
theorem ordTo_no {f : List Int → List (List Int)} {q : Nat → Bool} {xs : List Int} {j : Nat} (h : q j = false) : ordTo f q xs (j + 1) = ordTo f q xs j := by
  unfold ordTo
  rw [List.range_succ, List.flatMap_append]
  simp [h]
theorem ordTo_few {f : List Int → List (List Int)} {q : Nat → Bool} {xs : List Int} {m : Nat} (h : ∀ ys, (f ys).length ≤ m) : ∀ j, (ordTo f q xs j).length ≤ j * m
  | 0 => by simp [ordTo_zero]
  | j + 1 => by
    have ih := ordTo_few (q := q) (xs := xs) h j
    cases hq : q j
    · rw [ordTo_no hq, Nat.add_mul]; omega
    · rw [ordTo_yes hq, List.length_append, Nat.add_mul]
      have := h (xs ++ [(j : Int)])
      omega
theorem ordTo_mem {f : List Int → List (List Int)} {q : Nat → Bool} {xs : List Int} {j : Nat} {y : List Int} : y ∈ ordTo f q xs j ↔ ∃ i, i < j ∧ q i = true ∧ y ∈ f (xs ++ [(i : Int)]) := by
  simp only [ordTo, List.mem_flatMap, List.mem_range]
  constructor
  · rintro ⟨i, hi, hy⟩
    cases hq : q i
    · rw [hq] at hy; cases hy
    · rw [hq] at hy; exact ⟨i, hi, hq, hy⟩
  · rintro ⟨i, hi, hq, hy⟩
    exact ⟨i, hi, by rw [hq]; exact hy⟩
theorem ordTo_congr {f g : List Int → List (List Int)} {p q : Nat → Bool} {xs : List Int} : ∀ j, (∀ i, i < j → (if p i then f (xs ++ [(i : Int)]) else []) = if q i then g (xs ++ [(i : Int)]) else []) → ordTo f p xs j = ordTo g q xs j
  | 0, _ => rfl
  | j + 1, h => by
    have ih := ordTo_congr j fun i hi => h i (by omega)
    have hj := h j (by omega)
    cases hp : p j <;> cases hq : q j <;> rw [hp, hq] at hj
    · rw [ordTo_no hp, ordTo_no hq, ih]
    · rw [ordTo_no hp, ordTo_yes hq, ih, ← show [] = g (xs ++ [(j : Int)]) by simpa using hj, List.append_nil]
    · rw [ordTo_yes hp, ordTo_no hq, ih, show f (xs ++ [(j : Int)]) = [] by simpa using hj, List.append_nil]
    · rw [ordTo_yes hp, ordTo_yes hq, ih, show f (xs ++ [(j : Int)]) = g (xs ++ [(j : Int)]) by simpa using hj]
/-- All orders that go on from one, the program's way: d places are left. -/
def ordF (b : List LLit) : Nat → List Int → List (List Int)
  | 0, xs => [xs]
  | d + 1, xs => ordTo (ordF b d) (canAt b xs) xs b.length
/-- .. the specification's way. -/
def ordS (b : List LLit) : Nat → List Int → List (List Int)
  | 0, xs => if orderOk b xs then [xs] else []
  | d + 1, xs => ordTo (ordS b d) (fun i => !(xs.contains (i : Int))) xs b.length
theorem ordF_few {b : List LLit} (hb : b.length ≤ 4) : ∀ d xs, (ordF b d xs).length ≤ 4 ^ d
  | 0, _ => by simp [ordF]
  | d + 1, xs => by
    have h1 := ordTo_few (q := canAt b xs) (xs := xs) (ordF_few hb d) b.length
    show (ordTo (ordF b d) (canAt b xs) xs b.length).length ≤ _
    have h2 : b.length * 4 ^ d ≤ 4 * 4 ^ d := Nat.mul_le_mul_right _ hb
    rw [Nat.pow_succ]
    omega
theorem ordS_few {b : List LLit} (hb : b.length ≤ 4) : ∀ d xs, (ordS b d xs).length ≤ 4 ^ d
  | 0, xs => by
    show (if orderOk b xs then [xs] else []).length ≤ _
    split <;> simp
  | d + 1, xs => by
    have h1 := ordTo_few (q := fun i => !(xs.contains (i : Int))) (xs := xs) (ordS_few hb d) b.length
    show (ordTo (ordS b d) (fun i => !(xs.contains (i : Int))) xs b.length).length ≤ _
    have h2 : b.length * 4 ^ d ≤ 4 * 4 ^ d := Nat.mul_le_mul_right _ hb
    rw [Nat.pow_succ]
    omega
theorem ordF_lens {b : List LLit} : ∀ d xs, ∀ y ∈ ordF b d xs, y.length = xs.length + d
  | 0, xs, y, hy => by simp [ordF] at hy; simp [hy]
  | d + 1, xs, y, hy => by
    obtain ⟨i, _, _, hy⟩ := ordTo_mem.1 hy
    have := ordF_lens d _ y hy
    rw [this]
    simp
    omega
theorem OrdTo_snoc {b : List LLit} {xs : List Int} {i : Nat} (hi : i < b.length) : OrdTo b (xs ++ [(i : Int)]) (xs.length + 1) ↔ OrdTo b xs xs.length ∧ canAt b xs i = true := by
  have hsame : ∀ j, j < xs.length → ordAt b (xs ++ [(i : Int)]) j = ordAt b xs j := fun j hj => by
    unfold ordAt
    rw [List.take_append_of_le_length (by omega)]
    have : (xs ++ [(i : Int)]).getD j 0 = xs.getD j 0 := by simp [List.getD_eq_getElem?_getD, List.getElem?_append_left hj]
    rw [this]
  have hlast : ordAt b (xs ++ [(i : Int)]) xs.length = canAt b xs i := by
    rw [ordAt_get (by simp)]
    have e1 : (xs ++ [(i : Int)])[xs.length]'(by simp) = (i : Int) := by simp
    have e2 : (xs ++ [(i : Int)]).take xs.length = xs := by simp
    rw [e1, e2]
    have : decide (0 ≤ (i : Int) ∧ (i : Int) < (b.length : Int)) = true := by simp; omega
    rw [this, Bool.true_and]
    rfl
  constructor
  · intro h
    exact ⟨fun j hj => by rw [← hsame j hj]; exact h j (by omega), by rw [← hlast]; exact h _ (by omega)⟩
  · rintro ⟨h1, h2⟩ j hj
    by_cases e : j = xs.length
    · subst e; rw [hlast]; exact h2
    · rw [hsame j (by omega)]; exact h1 j (by omega)
theorem ord_same {b : List LLit} : ∀ d xs, xs.length + d = b.length → (OrdTo b xs xs.length → ordS b d xs = ordF b d xs) ∧ (¬ OrdTo b xs xs.length → ordS b d xs = [])
  | 0, xs, hl => by
    show (_ → (if orderOk b xs then [xs] else []) = [xs]) ∧ (_ → (if orderOk b xs then [xs] else []) = [])
    constructor
    · intro h; rw [if_pos (orderOk_yes (by omega) h rfl)]
    · intro h
      rw [if_neg]
      intro hk
      unfold orderOk at hk
      simp only [Bool.and_eq_true, decide_eq_true_eq] at hk
      exact h hk.2
  | d + 1, xs, hl => by
    have ih : ∀ i, i < b.length → _ := fun i (hi : i < b.length) => ord_same (b := b) d (xs ++ [(i : Int)]) (by simp; omega)
    constructor
    · intro h
      refine ordTo_congr b.length fun i hi => ?_
      obtain ⟨h1, h2⟩ := ih i hi
      have hs : (xs ++ [(i : Int)]).length = xs.length + 1 := by simp
      rw [hs, OrdTo_snoc hi] at h1 h2
      cases hc : canAt b xs i
      · have h3 := h2 (fun hh => by rw [hc] at hh; cases hh.2)
        rw [h3]
        simp
      · have h3 := h1 ⟨h, hc⟩
        have : xs.contains (i : Int) = false := by
          unfold canAt at hc
          rw [Bool.and_eq_true] at hc
          simpa using hc.1
        rw [h3, this]
        simp
    · intro h
      have e : ordTo (ordS b d) (fun i => !(xs.contains (i : Int))) xs b.length = ordTo (ordS b d) (fun _ => false) xs b.length := ordTo_congr b.length fun i hi => by
        obtain ⟨h1, h2⟩ := ih i hi
        have hs : (xs ++ [(i : Int)]).length = xs.length + 1 := by simp
        rw [hs, OrdTo_snoc hi] at h2
        rw [h2 (fun hh => h hh.1)]
        simp
      show ordTo (ordS b d) (fun i => !(xs.contains (i : Int))) xs b.length = []
      rw [e]
      simp [ordTo]
def planOrdL (ar : List Int) (r : LRule) : List (List Int) := if ruleOk ar r = true then ordF r.2 r.2.length [] else []
theorem planOrd_spec {b : List LLit} : ordS b b.length [] = ordF b b.length [] := (ord_same b.length [] (by simp)).1 (fun j hj => absurd hj (by simp))
theorem rows_sz : ∀ (l : List (List Int)) (m : Nat), (∀ y ∈ l, y.length ≤ m) → (l.map List.length).sum ≤ l.length * m
  | [], _, _ => by simp
  | y :: l, m, h => by
    have h1 := h y List.mem_cons_self
    have h2 := rows_sz l m fun z hz => h z (List.mem_cons_of_mem _ hz)
    simp only [List.map_cons, List.sum_cons, List.length_cons, Nat.add_mul]
    omega
theorem planOrd_few (ar : List Int) (r : LRule) : (planOrdL ar r).length ≤ 256 ∧ ∀ y ∈ planOrdL ar r, y.length ≤ 4 := by
  unfold planOrdL
  by_cases h : ruleOk ar r = true
  · rw [if_pos h]
    have h4 := (ruleOk_safe h).2
    constructor
    · have := ordF_few h4 r.2.length []
      have h5 : 4 ^ r.2.length ≤ 4 ^ 4 := Nat.pow_le_pow_right (by decide) h4
      omega
    · intro y hy
      have := ordF_lens _ _ y hy
      simp at this
      omega
  · rw [if_neg h]
    exact ⟨by simp, fun y hy => by cases hy⟩

end Go.Proofs.Ytocpfmbieedpgaa
/-
  Rows of integers, each in memory of its own, that are collected one by one; a row of integers that grows while its beginning stays another slice's. No walk but append's.
-/
namespace Go.Proofs.Ytocpfmbieedpgaa
open Go.RowKit

/-- Rows are collected in blocks from lo on, each in a block of its own. -/
structure ColO (lo : Nat) (w wr : World) (xss : List (List Int)) (A : Option Addr) (c : Nat) (av : List Value) : Prop where
  below : Below w.heap.size w wr
  lo1 : w.heap.size ≤ lo
  lo2 : lo ≤ wr.heap.size
  args : OwnArgs wr lo wr.heap.size av xss
  row : wr.ownsRow lo 23 1 (.slice A xss.length c) xss.length av
section
variable {lo : Nat} {w wr w2 w4 : World} {xss xss' : List (List Int)} {A : Option Addr} {c g cap : Nat} {av : List Value} {xs : List Int} {a : Value} {o : Obj}
theorem ColO.nil (hb : Below w.heap.size w wr) (h1 : w.heap.size ≤ lo) (h2 : lo ≤ wr.heap.size) : ColO lo w wr [] none 0 [] := ⟨hb, h1, h2, .nil, World.ownsRow_nil _ _ _ _⟩
theorem ColO.empty (hb : Below w.heap.size w wr) (h1 : w.heap.size ≤ lo) (h2 : lo ≤ wr.heap.size) : ColO lo w (wr.alloc (.cells #[] 23)) [] (some ⟨wr.heap.size, 0, none⟩) 0 [] :=
  ⟨hb.alloc hb.size _, h1, by simp; omega, .nil, World.ownsRow_made wr #[] 0 h2 (by decide) rfl⟩
theorem ColO.len (h : ColO lo w wr xss A c av) : av.length = xss.length := h.args.len
/-- What touches neither the rows nor their row keeps it. -/
theorem ColO.kept (h : ColO lo w wr xss A c av) (hb : Below w.heap.size w w2) (hs : wr.heap.size ≤ w2.heap.size) (hk : ∀ q, q < wr.heap.size → (some q = (Value.slice A xss.length c).ownBlock ∨ ∃ a ∈ av, a.ownBlock = some q) → w2.heap[q]? = wr.heap[q]?) : ColO lo w w2 xss A c av := by
  refine ⟨hb, h.lo1, Nat.le_trans h.lo2 hs, ⟨h.args.len, fun i h1 h2 => ?_, h.args.apart⟩, ?_⟩
  · have h0 := h.args.own i h1 h2
    exact (h0.kept fun q hq => hk q (h0.lt hq).2.2 (.inr ⟨_, List.getElem_mem h2, hq⟩)).mono (Nat.le_refl _) hs
  · exact ownsRow_only h.row fun q hq => hk q (h.row.lt q hq).2 (.inl hq.symm)
theorem ColO.on (h : ColO lo w wr xss A c av) (hb : Below wr.heap.size wr w2) : ColO lo w w2 xss A c av := h.kept (bthen h.below hb) hb.size fun q hq _ => hb.block q hq
theorem ColO.rows (h : ColO lo w wr xss A c av) : OwnRows wr w.heap.size wr.heap.size (.slice A xss.length c) xss := ⟨av, h.args.mono h.lo1 (Nat.le_refl _), ownsRow_mono h.row h.lo1, fun g hg => (h.row.lt g hg).2⟩
theorem ColO.push (h : ColO lo w wr xss A c av) (e : xss' = xss ++ [xs]) (hb : Below wr.heap.size wr w2)
    (ha : OwnInts w2 wr.heap.size w2.heap.size a xs) (hg : (w2.alloc o).grownBy w4 (Value.slice A xss.length c).ownBlock)
    (hown : w4.ownsRow lo 23 1 (.slice (some ⟨g, 0, none⟩) (xss.length + 1) cap) (xss.length + 1) (av ++ [a])) :
    ColO lo w w4 xss' (some ⟨g, 0, none⟩) cap (av ++ [a]) ∧ xss.length + 1 = xss'.length := by
  subst e
  have hg' := grown_from_alloc hg
  have hl : xss.length + 1 = (xss ++ [xs]).length := by simp
  have hargs := (h.args.below hb (Nat.le_refl _)).snoc ha h.lo2 hb.size
  have hrow2 := ownsRow_below h.row (fun q hq => (h.row.lt q hq).2) hb (Nat.le_refl _)
  have h1 := h.lo1
  have h2 := h.lo2
  have hz := hb.size
  refine ⟨⟨((bthen h.below hb).alloc (bthen h.below hb).size _).grown hg (by have := (bthen h.below hb).size; simp; omega) (fun k hk => Nat.le_trans h1 (h.row.lt k hk).1), h1, by have := hg'.size; omega, ?_, ?_⟩, hl⟩
  · exact ⟨hargs.len, fun i h1 h3 => ((hargs.own i h1 h3).kept fun q hq => hg'.block q ((hargs.own i h1 h3).lt hq).2.2 (fun e => rowsI_ne hrow2 e.symm (hargs.own i h1 h3) hq)).mono (Nat.le_refl _) hg'.size, hargs.apart⟩
  · rw [← hl]
    exact hown
end

/-- A slice of the beginning of an own row owns it too. -/
theorem OwnInts.less {w : World} {lo hi n c : Nat} {A : Option Addr} {xs : List Int} {x : Int} (h : OwnInts w lo hi (.slice A (n + 1) c) (xs ++ [x])) (hn : xs.length = n) : OwnInts w lo hi (.slice A n c) xs := by
  obtain ⟨⟨hlen, h⟩, hlt⟩ := h
  refine ⟨⟨by simp, ?_⟩, fun g hg => hlt g (by cases A <;> first | (simp [Value.ownBlock] at hg; done) | simpa [Value.ownBlock] using hg)⟩
  rcases h with ⟨e, _⟩ | ⟨g, cap, cur, e, hb, hg, hnc, hm, hs, ht⟩
  · cases e
  · injection e with e1 e2 e3
    subst e1
    subst e3
    refine .inr ⟨g, c, cur, by rw [hn], hb, hg, by simp at hnc; omega, hm, hs, ?_⟩
    have h2 := congrArg (List.take xs.length) ht
    rw [List.take_take] at h2
    simp only [List.length_append, List.length_singleton, Nat.mul_one, List.map_append] at h2 ⊢
    rw [Nat.min_eq_left (by omega)] at h2
    rw [h2, List.take_append_of_le_length (by simp), List.take_of_length_le (by simp)]

/-- append of one integer to a row of four at most: in place, or in a block of its own that leaves all others alone. -/
theorem run_append_begun {P : Program} (w : World) (base : Nat) (t ty e : TypeId) (i : TypeInfo) (ht : P.underlying t = some (.slice e)) (hi : P.info? e = some i) (hz : i.zero = some (.int .i64 0)) (hsize : i.size = 1) (hby : i.bytes = 8)
    (v : Value) (n : Nat) (xs : List Value) (hown : w.ownsRow base e 1 v n xs) (hn : n ≤ 4)
    (ad : Addr) (c : Nat) (u : Value) (hnews : ∀ j x, [u][j]? = some x → w.cell? (ad.add j) = some x) (h1 : u.oneCell' = true) (hbase : base ≤ w.heap.size) :
    ∃ g cap w', (Builtin.append_ #[t, t] ty #[v, .slice (some ad) 1 c]).run P w = .ok (.slice (some ⟨g, 0, none⟩) (n + 1) cap) w' ∧ w'.ownsRow base e 1 (.slice (some ⟨g, 0, none⟩) (n + 1) cap) (n + 1) (xs ++ [u]) ∧ w.grownBy w' v.ownBlock ∧
      ((g = w.heap.size ∧ w.grownBy w' none) ∨ v = .slice (some ⟨g, 0, none⟩) n cap) := by
  obtain ⟨v', w', hr, h2, h3, _, h5⟩ := run_append_own_at (P := P) w base t ty e i (.int .i64 0) 1 8 ht hi hz hsize hby rfl (by decide) v n xs hown ad 1 c [u] rfl hnews (by simpa using h1) (by unfold maxLen; omega) (by omega) hbase
  obtain ⟨g, cap, rfl, _, hlt⟩ := h2.form (by omega)
  rcases hown.2 with ⟨rfl, h0⟩ | ⟨g0, c0, cur, rfl, hb0, hg0, hnc, hcm, hcs, htk⟩
  · refine ⟨g, cap, w', hr, h2, h3, .inl ⟨?_, h3⟩⟩
    rcases h5 with h5 | h5
    · cases h5
    · simpa [Value.ownBlock] using h5
  · by_cases hroom : n + 1 ≤ c0
    · obtain ⟨w2, hr2, h22, h23⟩ := run_append_own_spare (P := P) w base t ty e i 1 ht hi hsize g0 n c0 xs hown ad 1 c [u] rfl hnews (by simpa using h1) hroom
      exact ⟨g0, c0, w2, hr2, h22, h23, .inr rfl⟩
    · have hcells := @World.ownsRow.cells w base e 1 _ n xs hown g0 rfl
      have hc0 : c0 = n := by omega
      have hr2 := run_append_grow (P := P) (w := w) t ty e i (.int .i64 0) ht hi hz ⟨g0, 0, none⟩ n c0 xs (by rw [hsize]; exact hown.1) (fun j x hx => hcells j x hx) ad 1 c [u] (by rw [hsize]; rfl) hnews (by omega) (by omega) (by
        subst hc0
        rw [hby]
        have h9 : c0 = 0 ∨ c0 = 1 ∨ c0 = 2 ∨ c0 = 3 ∨ c0 = 4 := by omega
        rcases h9 with rfl | rfl | rfl | rfl | rfl <;> decide)
      rw [hr] at hr2
      injection hr2 with e1 e2
      injection e1 with e1 _ e3
      injection e1 with e1
      injection e1 with e1 _ _
      subst e1
      refine ⟨_, cap, w', hr, h2, h3, .inl ⟨rfl, ?_⟩⟩
      rw [e2]
      exact ⟨rfl, rfl, rfl, by simp [World.alloc], fun k hk _ => Below.heap_alloc w.drew _ k hk⟩

/-- At a step of a region that draws its order. -/
theorem step_append_begun {P : Program} {w : World} {ops : Array Oper} {o : Oper} {a : Act} {K : Act → World → Prop} {Q : Exit → Act → World → Prop} {E : Prop} (hgd : o.guard = none) (s x : Operand) (t : TypeId)
    (ho : o.op = .call { callee := .builtin .append, args := #[s, x], argTypes := #[t, t] })
    (base : Nat) (e : TypeId) (i : TypeInfo) (ht : P.underlying t = some (.slice e)) (hi : P.info? e = some i) (hz : i.zero = some (.int .i64 0)) (hsize : i.size = 1) (hby : i.bytes = 8)
    (v : Value) (n : Nat) (xs : List Value) (hs : a.eval s = v) (hown : w.ownsRow base e 1 v n xs) (hn : n ≤ 4)
    (ad : Addr) (c : Nat) (u : Value) (hx : a.eval x = .slice (some ad) 1 c) (hnews : ∀ j x, [u][j]? = some x → w.cell? (ad.add j) = some x) (h1 : u.oneCell' = true) (hbase : base ≤ w.heap.size)
    (h : ∀ g cap w', w'.ownsRow base e 1 (.slice (some ⟨g, 0, none⟩) (n + 1) cap) (n + 1) (xs ++ [u]) → w.grownBy w' v.ownBlock → ((g = w.heap.size ∧ w.grownBy w' none) ∨ v = .slice (some ⟨g, 0, none⟩) n cap) → K (a.put o.dst (.slice (some ⟨g, 0, none⟩) (n + 1) cap)) w') :
    if Region.wanted o (yielded ops a.tmps) = true then Oper.wp P o a w K Q else E := by
  have hw : Region.wanted o (yielded ops a.tmps) = true := by simp [Region.wanted, hgd]
  rw [if_pos hw]
  obtain ⟨g, cap, w', hr, h2, h3, h4⟩ := run_append_begun (P := P) w base t o.type e i ht hi hz hsize hby v n xs hown hn ad c u hnews h1 hbase
  unfold Oper.wp execOp
  simp only [ho, resolve, invoke, builtin, Sem.run_bind, Sem.run_pure, Result.andThen_ok, List.map_toArray, List.map_cons, List.map_nil, hs, hx, hr]
  exact h g cap w' h2 h3 h4

end Go.Proofs.Ytocpfmbieedpgaa
/-
  DERIVED: THE SHELF's CONTRACTS AT THIS DUMP, IN PLAIN WORDS (tools/lay-plain.mjs out of 'YtocpfmbieedpgaaCloneLay.lean', which tools/lay-shelf.mjs wrote): THE SAME DECLARATIONS UNDER THE SAME NAMES: 'import', 'namespace', 'open', 'def', 'theorem' AND NOTHING ELSE: no command of the shelf's: FOR A HAND-IN. Each laying: the table of numbers ('.._ren') and one theorem, a field a fact of the dump's own or the kernel's comparison; each contract: ONE APPLICATION.
-/
namespace Go.Proofs
open Go.Shelf
def Try.cloneI_ren : Go.Shelf.Ren := ⟨fun | 15 => 98 | n => n, fun | 22 => 23 | 3 => 3 | 4 => 4 | n => n, fun | n => n⟩
theorem Try.cloneI : Go.Proofs.Lays2.n15 Try.prog Try.cloneI_ren := {
  mixed := by kernel_rfl
  f15 := Try.func98.trans (congrArg some (by kernel_rfl))
  t3 := Try.underlying3
  a3 := Try.isAgg3
  z3 := Try.sizeOf3
  v3 := Try.zeroValue3
  t4 := Try.underlying4
  a4 := Try.isAgg4
  z4 := Try.sizeOf4
  v4 := Try.zeroValue4
  t22 := Try.underlying23
  a22 := Try.isAgg23
  z22 := Try.sizeOf23
  v22 := Try.zeroValue23
  i3 := by kernel_rfl }
end Go.Proofs
/-
  What variables have, plain mathematics: lists of four numbers from -1 to 5, and the words of four fields that the program keeps them in.
-/
namespace Go.Proofs.Ytocpfmbieedpgaa
open Go.RowKit

/-- One of what a variable may have. -/
def hasB (x : Int) : Bool := decide (-1 ≤ x ∧ x ≤ 5)
def bindOk (bs : List Int) : Bool := decide (bs.length = 4) && bs.all hasB

theorem bindOk_len {bs : List Int} (h : bindOk bs = true) : bs.length = 4 := by
  simp only [bindOk, Bool.and_eq_true, decide_eq_true_eq] at h
  exact h.1
theorem bindOk_all {bs : List Int} (h : bindOk bs = true) : bs.all hasB = true := by
  simp only [bindOk, Bool.and_eq_true] at h
  exact h.2
theorem hasB_at {bs : List Int} (h : bs.all hasB = true) {k : Nat} (hk : k < bs.length) : -1 ≤ bs[k] ∧ bs[k] ≤ 5 := by
  have := List.all_eq_true.1 h bs[k] (List.getElem_mem hk)
  simpa [hasB] using this
theorem bindOk_at {bs : List Int} (h : bindOk bs = true) {k : Nat} (hk : k < bs.length) : -1 ≤ bs[k] ∧ bs[k] ≤ 5 := hasB_at (bindOk_all h) hk
theorem bindOk_iff {bs : List Int} (hl : bs.length = 4) (h : bs.all hasB = true) : bindOk bs = true := by simp [bindOk, hl, h]

/-- What a term has: a constant itself, a variable what it has. -/
def termVal (bs : List Int) (t : Int) : Int := if 0 ≤ t then t else bs.getD (-1 - t).toNat (-1)
theorem termVal_const {bs : List Int} {t : Int} (h : 0 ≤ t) : termVal bs t = t := if_pos h
theorem termVal_var {bs : List Int} {t : Int} (h : t < 0) : termVal bs t = bs.getD (-1 - t).toNat (-1) := if_neg (by omega)
theorem termOk_at {t : Int} (ht : termOk t = true) : -4 ≤ t ∧ t ≤ 5 := by simpa [termOk] using ht
theorem termVal_bounds {bs : List Int} (hb : bindOk bs = true) {t : Int} (ht : termOk t = true) : -1 ≤ termVal bs t ∧ termVal bs t ≤ 5 := by
  have ht' := termOk_at ht
  unfold termVal
  split
  · omega
  · have hl := bindOk_len hb
    have hk : (-1 - t).toNat < bs.length := by omega
    rw [List.getD_eq_getElem?_getD, List.getElem?_eq_getElem hk]
    exact bindOk_at hb hk

/-- The word of a list of four. -/
def encB (bs : List Int) : Nat := (((bs.getD 0 (-1) + 1).toNat * 16 + (bs.getD 1 (-1) + 1).toNat) * 16 + (bs.getD 2 (-1) + 1).toNat) * 16 + (bs.getD 3 (-1) + 1).toNat
/-- Nobody has anything. -/
def noneB : List Int := [-1, -1, -1, -1]
theorem noneB_ok : bindOk noneB = true := by decide
theorem encB_none : encB noneB = 0 := by decide

theorem list4 {bs : List Int} (h : bs.length = 4) : ∃ a b c d, bs = [a, b, c, d] := by
  match bs, h with
  | [a, b, c, d], _ => exact ⟨a, b, c, d, rfl⟩
theorem fin7 {x : Int} (h : -1 ≤ x ∧ x ≤ 5) : ∃ a : Fin 7, (x + 1).toNat = a.val ∧ x = (a.val : Int) - 1 := ⟨⟨(x + 1).toNat, by omega⟩, rfl, by show x = (((x + 1).toNat : Nat) : Int) - 1; omega⟩

theorem or0 : ∀ a b c e : Fin 7, ((0 * 16 + a.val) * 16 + b.val) * 16 + c.val ||| e.val * 4096 = ((e.val * 16 + a.val) * 16 + b.val) * 16 + c.val := by decide +kernel
theorem or1 : ∀ a b c e : Fin 7, ((a.val * 16 + 0) * 16 + b.val) * 16 + c.val ||| e.val * 256 = ((a.val * 16 + e.val) * 16 + b.val) * 16 + c.val := by decide +kernel
theorem or2 : ∀ a b c e : Fin 7, ((a.val * 16 + b.val) * 16 + 0) * 16 + c.val ||| e.val * 16 = ((a.val * 16 + b.val) * 16 + e.val) * 16 + c.val := by decide +kernel
theorem or3 : ∀ a b c e : Fin 7, ((a.val * 16 + b.val) * 16 + c.val) * 16 + 0 ||| e.val = ((a.val * 16 + b.val) * 16 + c.val) * 16 + e.val := by decide +kernel

/-- The word of a variable's constant. -/
def shlB (v : Nat) (c : Int) : Nat := (c + 1).toNat * 2 ^ ((3 - v) * 4)

theorem encB_set {bs : List Int} (h : bindOk bs = true) {v : Nat} (hv : v < 4) (hn : bs.getD v (-1) = -1) {c : Int} (hc : -1 ≤ c ∧ c ≤ 5) : encB bs ||| shlB v c = encB (bs.set v c) := by
  obtain ⟨b0, b1, b2, b3, rfl⟩ := list4 (bindOk_len h)
  have ha := bindOk_all h
  simp only [List.all_cons, List.all_nil, Bool.and_true, Bool.and_eq_true, hasB, decide_eq_true_eq] at ha
  obtain ⟨h0, h1, h2, h3⟩ := ha
  obtain ⟨e, he, he'⟩ := fin7 hc
  obtain ⟨x0, e0, _⟩ := fin7 h0
  obtain ⟨x1, e1, _⟩ := fin7 h1
  obtain ⟨x2, e2, _⟩ := fin7 h2
  obtain ⟨x3, e3, _⟩ := fin7 h3
  match v, hv with
  | 0, _ =>
    simp only [List.getD_cons_zero] at hn
    subst hn
    simp only [encB, shlB, List.getD_cons_zero, List.getD_cons_succ, List.set_cons_zero, he, e1, e2, e3]
    exact or0 x1 x2 x3 e
  | 1, _ =>
    simp only [List.getD_cons_zero, List.getD_cons_succ] at hn
    subst hn
    simp only [encB, shlB, List.getD_cons_zero, List.getD_cons_succ, List.set_cons_zero, List.set_cons_succ, he, e0, e2, e3]
    exact or1 x0 x2 x3 e
  | 2, _ =>
    simp only [List.getD_cons_zero, List.getD_cons_succ] at hn
    subst hn
    simp only [encB, shlB, List.getD_cons_zero, List.getD_cons_succ, List.set_cons_zero, List.set_cons_succ, he, e0, e1, e3]
    exact or2 x0 x1 x3 e
  | 3, _ =>
    simp only [List.getD_cons_zero, List.getD_cons_succ] at hn
    subst hn
    simp only [encB, shlB, List.getD_cons_zero, List.getD_cons_succ, List.set_cons_zero, List.set_cons_succ, he, e0, e1, e2]
    simpa using or3 x0 x1 x2 e

theorem encB_lt {bs : List Int} (h : bindOk bs = true) : encB bs < 65536 := by
  obtain ⟨b0, b1, b2, b3, rfl⟩ := list4 (bindOk_len h)
  have ha := bindOk_all h
  simp only [List.all_cons, List.all_nil, Bool.and_true, Bool.and_eq_true, hasB, decide_eq_true_eq] at ha
  simp only [encB, List.getD_cons_zero, List.getD_cons_succ]
  omega
theorem shlB_lt {v : Nat} (hv : v < 4) {c : Int} (hc : -1 ≤ c ∧ c ≤ 5) : shlB v c < 65536 := by
  unfold shlB
  match v, hv with
  | 0, _ => show (c + 1).toNat * 4096 < 65536; omega
  | 1, _ => show (c + 1).toNat * 256 < 65536; omega
  | 2, _ => show (c + 1).toNat * 16 < 65536; omega
  | 3, _ => show (c + 1).toNat * 1 < 65536; omega

/-- What a variable has, read off the word. -/
def fieldB (m v : Nat) : Nat := m / 2 ^ ((3 - v) * 4) % 16
theorem fieldB_enc {bs : List Int} (h : bindOk bs = true) {v : Nat} (hv : v < 4) : ((fieldB (encB bs) v : Nat) : Int) - 1 = bs.getD v (-1) := by
  obtain ⟨b0, b1, b2, b3, rfl⟩ := list4 (bindOk_len h)
  have ha := bindOk_all h
  simp only [List.all_cons, List.all_nil, Bool.and_true, Bool.and_eq_true, hasB, decide_eq_true_eq] at ha
  match v, hv with
  | 0, _ => simp only [fieldB, encB, List.getD_cons_zero, List.getD_cons_succ]; omega
  | 1, _ => simp only [fieldB, encB, List.getD_cons_zero, List.getD_cons_succ]; omega
  | 2, _ => simp only [fieldB, encB, List.getD_cons_zero, List.getD_cons_succ]; omega
  | 3, _ => simp only [fieldB, encB, List.getD_cons_zero, List.getD_cons_succ]; omega

theorem encB_inj {bs cs : List Int} (h : bindOk bs = true) (h2 : bindOk cs = true) (e : encB bs = encB cs) : bs = cs := by
  apply List.ext_getElem (by rw [bindOk_len h, bindOk_len h2])
  intro v h1 h3
  have hv : v < 4 := by rw [bindOk_len h] at h1; exact h1
  have a := fieldB_enc h hv
  have b := fieldB_enc h2 hv
  rw [e] at a
  have c := a.symm.trans b
  simpa [h1, h3] using c
theorem bindOk_set {bs : List Int} (h : bindOk bs = true) {c : Int} (hc : -1 ≤ c ∧ c ≤ 5) (v : Nat) : bindOk (bs.set v c) = true := by
  refine bindOk_iff (by rw [List.length_set]; exact bindOk_len h) (List.all_eq_true.2 fun x hx => ?_)
  rcases List.mem_or_eq_of_mem_set hx with hx | rfl
  · exact List.all_eq_true.1 (bindOk_all h) x hx
  · simpa [hasB] using hc

/-- The first k of a list, the others as yet without any. -/
def padB (bs : List Int) (k : Nat) : List Int := bs.take k ++ List.replicate (4 - k) (-1)
theorem padB_zero (bs : List Int) : padB bs 0 = noneB := rfl
theorem padB_all {bs : List Int} (h : bs.length = 4) : padB bs 4 = bs := by simp [padB, ← h]
theorem padB_ok {bs : List Int} {k : Nat} (hl : bs.length = 4) (hk : k ≤ 4) (h : (bs.take k).all hasB = true) : bindOk (padB bs k) = true := by
  refine bindOk_iff (by simp [padB, hl]; omega) ?_
  simp only [padB, List.all_append, h, Bool.true_and, List.all_eq_true]
  intro x hx
  rw [List.eq_of_mem_replicate hx]
  rfl
theorem padB_step {bs : List Int} {k : Nat} (hl : bs.length = 4) (hk : k < 4) : (padB bs k).getD k (-1) = -1 ∧ (padB bs k).set k (bs[k]'(by omega)) = padB bs (k + 1) := by
  obtain ⟨b0, b1, b2, b3, rfl⟩ := list4 hl
  match k, hk with
  | 0, _ => exact ⟨rfl, rfl⟩
  | 1, _ => exact ⟨rfl, rfl⟩
  | 2, _ => exact ⟨rfl, rfl⟩
  | 3, _ => exact ⟨rfl, rfl⟩

/-- Bound. -/
def boundL (args bs : List Int) : List Int := if bindOk bs && args.all termOk then args.map (termVal bs) else []
theorem boundL_length (args bs : List Int) : (boundL args bs).length ≤ args.length := by
  unfold boundL
  split <;> simp

end Go.Proofs.Ytocpfmbieedpgaa
/-
  The walks of FactOk: the program's (with factFits) and the specification's.
-/
namespace Go.Proofs.Ytocpfmbieedpgaa
open Go.RowKit

def constOk (x : Int) : Bool := decide (0 ≤ x ∧ x ≤ 5)
def factFits (ar : List Int) (f : LFact) : Bool := decide (0 ≤ f.1 ∧ f.1 < ar.length ∧ (f.2.length : Int) = ar.getD f.1.toNat 0) && f.2.all constOk
def factOk (ar : List Int) (f : LFact) : Bool := arityOk ar && factFits ar f

def ConstsTo (xs : List Int) (k : Nat) : Prop := ∀ j, j < k → constOk (xs.getD j 0) = true
theorem ConstsTo.step {xs : List Int} {k : Nat} (h : ConstsTo xs k) (e : constOk (xs.getD k 0) = true) : ConstsTo xs (k + 1) := fun j hj => by
  by_cases h2 : j = k
  · subst h2; exact e
  · exact h j (by omega)
theorem ConstsTo.all {xs : List Int} (h : ConstsTo xs xs.length) : xs.all constOk = true := by
  rw [List.all_eq_true]
  intro x hx
  obtain ⟨j, hj, rfl⟩ := List.getElem_of_mem hx
  have := h j hj
  simpa [hj] using this
theorem consts_not {xs : List Int} {k : Nat} (hk : k < xs.length) (e : constOk xs[k] = false) : xs.all constOk = false := by
  rw [List.all_eq_false]
  exact ⟨xs[k], List.getElem_mem hk, by simp [e]⟩

set_option maxHeartbeats 400000 in
theorem areConstants_any (v : Value) (xs : List Int) (B : Nat) (w : World) (h : RdInts w B v xs) (hn : xs.length ≤ 1048576) :
    Calls Try.prog 132 #[v] w fun e w' => e = .returned (.bool (xs.all constOk)) ∧ w = w' := by
  obtain ⟨A, c, rfl, hc, h2⟩ := h
  go_enter Try.func132, Try.ntmps132
  go_wp2_with (fail)
  go_loop [4, 7] (fun _ i => ∃ k : Nat, k ≤ xs.length ∧ i = .int .i64 k ∧ ConstsTo xs k) (fun _ i => xs.length - (intOf i).toNat)
  case atStart => exact ⟨0, Nat.zero_le _, rfl, fun j hj => absurd hj (by omega)⟩
  case round =>
    obtain ⟨k, hk, rfl, hs⟩ := hrel
    by_cases hlk : k < xs.length
    · obtain ⟨b2, o2, rfl, hbB2, hx2⟩ := h2 (by omega)
      have hck2 : w.cell? ⟨b2, o2 + k, none⟩ = some (.int .i64 xs[k]) := hx2 k hlk
      clear hx2 h2
      by_cases h0 : xs[k] < 0
      · have HE := Lib.hid (consts_not hlk (by simp [constOk]; omega))
        clear hs
        go_wp2_with (fail)
        go_ret
        exact ⟨ret_bool HE.out.symm, rfl⟩
      · have hd : decide (xs[k] < 0) = false := by simpa using h0
        by_cases h2 : 5 < xs[k]
        · have HE := Lib.hid (consts_not hlk (by simp [constOk]; omega))
          clear hs
          go_wp2_with (fail)
          go_ret
          exact ⟨ret_bool HE.out.symm, rfl⟩
        · have HS := Lib.hid (hs.step (by simp [hlk, constOk]; omega))
          clear hs
          go_wp2_with (fail)
          go_round
          case rel => exact ⟨k + 1, by omega, by go_num, HS.out⟩
          case measure => simp [intOf]; omega
    · have hkn : k = xs.length := by omega
      have HE := Lib.hid (show xs.all constOk = true from ConstsTo.all (by rw [← hkn]; exact hs))
      clear hkn hs h2
      go_wp2_with (fail)
      go_ret
      exact ⟨ret_bool HE.out.symm, rfl⟩

set_option maxHeartbeats 400000 in
set_option maxRecDepth 100000 in
theorem factFits_any (v v2 : Value) (ar : List Int) (f : LFact) (w : World) (h : RdInts w w.heap.size v ar) (h2 : RdFact w w.heap.size v2 f) (hn : f.2.length ≤ 1048576) :
    Calls Try.prog 114 #[v, v2] w fun e w' => e = .returned (.bool (factFits ar f)) ∧ Below w.heap.size w w' := by
  obtain ⟨pp, xs⟩ := f
  obtain ⟨A, c, rfl, hc, h⟩ := h
  obtain ⟨a, rfl, h2⟩ := h2
  have H2 := Lib.hid h2
  obtain ⟨A2, c2, rfl, hc2, _⟩ := h2
  by_cases h0 : pp < 0
  · have hd : decide (pp < 0) = true := by simpa using h0
    have HE := Lib.hid (show factFits ar (pp, xs) = false by simp [factFits]; omega)
    go_enter Try.func114, Try.ntmps114
    go_wp2_with (fail)
    go_quiet (fail)
    go_wp2_with (fail)
    go_ret
    exact ⟨ret_bool HE.out.symm, bdrewN (below1 _ _) _⟩
  · have hd : decide (pp < 0) = false := by simpa using h0
    obtain ⟨p, rfl⟩ := Int.eq_ofNat_of_zero_le (Int.not_lt.1 h0)
    by_cases h1 : (ar.length : Int) ≤ p
    · have hd1 : decide ((ar.length : Int) ≤ (p : Int)) = true := by simpa using h1
      have HE := Lib.hid (show factFits ar ((p : Int), xs) = false by simp [factFits]; omega)
      go_enter Try.func114, Try.ntmps114
      go_wp2_with (fail)
      go_quiet (fail)
      go_wp2_with (fail)
      go_ret
      exact ⟨ret_bool HE.out.symm, bdrewN (below1 _ _) _⟩
    · have hd1 : decide ((ar.length : Int) ≤ (p : Int)) = false := by simpa using h1
      have hlt : p < ar.length := by omega
      have hltI : (p : Int) < (ar.length : Int) := by omega
      obtain ⟨b, o, rfl, hbB, hx⟩ := h (by omega)
      have hck : ∀ O, (w.alloc O).cell? ⟨b, o + p, none⟩ = some (.int .i64 ar[p]) := fun O => (World.cell?_alloc_lt w O ⟨b, o + p, none⟩ hbB).trans (hx p hlt)
      by_cases h3 : (xs.length : Int) = ar[p]
      · have hd3 : ((xs.length : Int) != ar[p]) = false := by simp [h3]
        have H3 := Lib.hid (show factFits ar ((p : Int), xs) = xs.all constOk by simp [factFits, hlt, h3])
        clear h3 hx h
        go_enter Try.func114, Try.ntmps114
        go_wp2_with (fail)
        go_quiet (fail)
        go_wp2_with (fail)
        refine (areConstants_any _ xs _ _ ((H2.out.below (below1 w _) (Nat.le_refl _)).below (bdrewN (Below.refl _ _) _) (Nat.le_refl _)) hn).mono ?_
        rintro e w1 ⟨rfl, rfl⟩
        go_wp2_with (fail)
        go_ret
        exact ⟨ret_bool H3.out.symm, bdrewN (below1 _ _) _⟩
      · have hd3 : ((xs.length : Int) != ar[p]) = true := by simp [h3]
        have HE := Lib.hid (show factFits ar ((p : Int), xs) = false by simp [factFits, hlt, h3])
        clear h3 hx h
        go_enter Try.func114, Try.ntmps114
        go_wp2_with (fail)
        go_quiet (fail)
        go_wp2_with (fail)
        go_ret
        exact ⟨ret_bool HE.out.symm, bdrewN (below1 _ _) _⟩

end Go.Proofs.Ytocpfmbieedpgaa
/-
  HeadOf, plain mathematics; blocks that growth leaves alone.
-/
namespace Go.Proofs.Ytocpfmbieedpgaa
open Go.RowKit

def headOk (a : LFact) (bs : List Int) : Bool := (bindOk bs && a.2.all termOk) && (a.2.map (termVal bs)).all constOk
def headOf (a : LFact) (bs : List Int) : LFact := if headOk a bs then (a.1, a.2.map (termVal bs)) else (0, [])
theorem headOk_bind {a : LFact} {bs : List Int} (h : bindOk bs = false) : headOk a bs = false := by unfold headOk; rw [h]; rfl
theorem headOk_terms {a : LFact} {bs : List Int} (h : a.2.all termOk = false) : headOk a bs = false := by unfold headOk; rw [h, Bool.and_false]; rfl
theorem headOk_vals {a : LFact} {bs : List Int} (h : (a.2.map (termVal bs)).all constOk = false) : headOk a bs = false := by unfold headOk; rw [h, Bool.and_false]
theorem headOk_yes {a : LFact} {bs : List Int} (h1 : bindOk bs = true) (h2 : a.2.all termOk = true) (h3 : (a.2.map (termVal bs)).all constOk = true) : headOk a bs = true := by unfold headOk; rw [h1, h2, h3]; rfl
theorem headOf_no {a : LFact} {bs : List Int} (h : headOk a bs = false) : headOf a bs = (0, []) := by unfold headOf; rw [h]; rfl
theorem headOf_yes {a : LFact} {bs : List Int} (h : headOk a bs = true) : headOf a bs = (a.1, a.2.map (termVal bs)) := by unfold headOf; rw [h]; rfl
theorem headOf_length (a : LFact) (bs : List Int) : (headOf a bs).2.length ≤ a.2.length := by
  unfold headOf
  split <;> simp

theorem Blk.grown {w w' : World} {g : Nat} {t : TypeId} {cs : Array Value} {row : Option Nat} (h : Blk w g t cs) (hg : w.grownBy w' row) (hne : row ≠ some g) : Blk w' g t cs := (hg.block g h.lt (fun e => hne e.symm)).trans h
/-- A row that is appended to lies in none of the blocks ahead. -/
theorem OwnInts.apart {w : World} {lo hi : Nat} {v : Value} {xs : List Int} (h : OwnInts w lo hi v xs) {g : Nat} (hg : g < lo) : v.ownBlock ≠ some g := fun e => by have := h.lt e; omega

end Go.Proofs.Ytocpfmbieedpgaa
/-
  The specification's l3Bind, l3Term, Bound, l3Copy.
-/
namespace Go.Proofs.Ytocpfmbieedpgaa
open Go.RowKit

set_option maxHeartbeats 400000 in
theorem l3Bind_any (v : Value) (bs : List Int) (B : Nat) (w : World) (h : RdInts w B v bs) (hr : bs.length ≤ 1048576) :
    Calls Try.prog 147 #[v] w fun e w' => e = .returned (.bool (bindOk bs)) ∧ w = w' := by
  obtain ⟨A, c, rfl, hc, ha⟩ := h
  go_enter Try.func147, Try.ntmps147
  go_wp2_with (fail)
  go_loop [3] (fun i => ∃ k : Nat, k ≤ bs.length ∧ i = .int .i64 k ∧ AllTo hasB bs k) (fun i => bs.length - (intOf i).toNat)
  case atStart => exact ⟨0, Nat.zero_le _, rfl, AllTo.start⟩
  case round =>
    obtain ⟨k, hk, rfl, hs⟩ := hrel
    by_cases hlt : k < bs.length
    · obtain ⟨b, o, rfl, hbB, hx⟩ := ha (by omega)
      have hck : w.cell? ⟨b, o + k, none⟩ = some (.int .i64 bs[k]) := hx k hlt
      clear hx ha
      by_cases he : -1 ≤ bs[k] ∧ bs[k] ≤ 5
      · have HS := Lib.hid (hs.step hlt (by simpa [hasB] using he))
        have HK := Lib.hid (l1In_yes he)
        clear hs he
        go_wp2_with (go_at_call 61; refine (HK.out _).mono ?_; rintro e w' ⟨rfl, rfl⟩)
        go_round
        case rel => exact ⟨k + 1, by omega, by go_num, HS.out⟩
        case measure => simp [intOf]; omega
      · have HE := Lib.hid (show bindOk bs = false by simp [bindOk, all_not hlt (show hasB bs[k] = false by simpa [hasB] using he)])
        have HK := Lib.hid (l1In_no he)
        clear hs he
        go_wp2_with (go_at_call 61; refine (HK.out _).mono ?_; rintro e w' ⟨rfl, rfl⟩)
        go_ret
        exact ⟨ret_bool HE.out.symm, rfl⟩
    · have HE := Lib.hid (hs.done (by omega))
      clear hs ha
      by_cases hl : bs.length = 4
      · have hl1 : ((bs.length : Int) == 4) = true := by simp; omega
        have HB := Lib.hid (bindOk_iff hl HE.out)
        clear hl
        go_wp2_with (fail)
        go_ret
        exact ⟨ret_bool HB.out.symm, rfl⟩
      · have hl1 : ((bs.length : Int) == 4) = false := by simp; omega
        have HB := Lib.hid (show bindOk bs = false by simp [bindOk, hl])
        clear hl
        go_wp2_with (fail)
        go_ret
        exact ⟨ret_bool HB.out.symm, rfl⟩

theorem l3Bind_is {bs : List Int} {ok : Bool} (hok : bindOk bs = ok) (v : Value) (B : Nat) (w : World) (h : RdInts w B v bs) (hr : bs.length ≤ 1048576) :
    Calls Try.prog 147 #[v] w fun e w' => e = .returned (.bool ok) ∧ w = w' := hok ▸ l3Bind_any v bs B w h hr

set_option maxHeartbeats 400000 in
theorem l3Term_any (v : Value) (bs : List Int) (t : Int) (B : Nat) (w : World) (h : RdInts w B v bs) (hb : bs.length = 4) (ht : termOk t = true) :
    Calls Try.prog 148 #[.int .i64 t, v] w fun e w' => e = .returned (.int .i64 (termVal bs t)) ∧ w = w' := by
  obtain ⟨A, c, rfl, hc, ha⟩ := h
  have htb := termOk_at ht
  by_cases h0 : 0 ≤ t
  · have hd : decide (0 ≤ t) = true := by simpa using h0
    have HE := Lib.hid (termVal_const (bs := bs) h0).symm
    go_enter Try.func148, Try.ntmps148
    go_wp2_with (fail)
    go_ret
    exact ⟨ret_int HE.out, rfl⟩
  · have hd : decide (0 ≤ t) = false := by simpa using h0
    obtain ⟨j, hj4, rfl⟩ : ∃ j : Nat, j < bs.length ∧ t = -1 - (j : Int) := ⟨(-1 - t).toNat, by omega, by omega⟩
    obtain ⟨b, o, rfl, hbB, hx⟩ := ha (by omega)
    have hck : w.cell? ⟨b, o + j, none⟩ = some (.int .i64 bs[j]) := hx j hj4
    have hjI : (j : Int) < (bs.length : Int) := by omega
    have HE := Lib.hid (show bs[j] = termVal bs (-1 - (j : Int)) by
      rw [termVal_var (by omega), show (-1 - (-1 - (j : Int))).toNat = j by omega]
      simp [hj4])
    have hee : -1 - (-1 - (j : Int)) = (j : Int) := by omega
    clear hx ha hb
    go_enter Try.func148, Try.ntmps148
    go_wp2_with (fail)
    go_ret
    exact ⟨ret_int HE.out, rfl⟩

end Go.Proofs.Ytocpfmbieedpgaa
/-
  The walks of the program's words of what variables have: bindingShift, with, constant, value.
-/
namespace Go.Proofs.Ytocpfmbieedpgaa
open Go.RowKit

theorem shift_any (v : Int) (h0 : 0 ≤ v) (h1 : v ≤ 3) (w : World) : Calls Try.prog 168 #[.int .i64 v] w fun e w' => e = .returned (.int .i64 ((3 - v) * 4)) ∧ w = w' := by
  go_enter Try.func168, Try.ntmps168
  go_wp2
  go_ret
  exact ⟨rfl, rfl⟩

theorem shl_word {v : Nat} (hv : v < 4) {c : Int} (hc : -1 ≤ c ∧ c ≤ 5) : (c + 1) * 2 ^ ((3 - v) * 4) % 4294967296 = ((shlB v c : Nat) : Int) := by
  unfold shlB
  match v, hv with
  | 0, _ => show (c + 1) * 4096 % 4294967296 = (((c + 1).toNat * 4096 : Nat) : Int); omega
  | 1, _ => show (c + 1) * 256 % 4294967296 = (((c + 1).toNat * 256 : Nat) : Int); omega
  | 2, _ => show (c + 1) * 16 % 4294967296 = (((c + 1).toNat * 16 : Nat) : Int); omega
  | 3, _ => show (c + 1) * 1 % 4294967296 = (((c + 1).toNat * 1 : Nat) : Int); omega
theorem or_word32 {a b : Nat} (ha : a < 65536) (hb : b < 65536) : bits .or .u32 (a : Int) (b : Int) = ((a ||| b : Nat) : Int) := u32_or_nat a b (by omega) (by omega)
theorem field_word {m v : Nat} (hm : m < 65536) : bits .and .u32 ((m : Int) / 2 ^ ((3 - v) * 4)) 15 = ((fieldB m v : Nat) : Int) := by
  have h := u32_and_nat (m / 2 ^ ((3 - v) * 4)) 15 (Nat.lt_of_le_of_lt (Nat.div_le_self _ _) (by omega)) (by omega)
  have e : (15 : Nat) = 2 ^ 4 - 1 := rfl
  rw [e, Nat.and_two_pow_sub_one_eq_mod] at h
  simpa [fieldB] using h
theorem fieldB_lt (m v : Nat) : fieldB m v < 16 := Nat.mod_lt _ (by omega)

theorem with_any (m v : Nat) (c : Int) (hm : m < 65536) (hv : v < 4) (hc : -1 ≤ c ∧ c ≤ 5) (w : World) :
    Calls Try.prog 165 #[.int .u32 (m : Nat), .int .i64 (v : Nat), .int .i64 c] w fun e w' => e = .returned (.int .u32 ((m ||| shlB v c : Nat) : Int)) ∧ w = w' := by
  go_enter Try.func165, Try.ntmps165
  go_wp2_with (go_at_call 168; refine (shift_any _ (by omega) (by omega) _).mono ?_; rintro e w' ⟨rfl, rfl⟩)
  go_ret
  exact ⟨ret_int (by rw [shl_word hv hc, or_word32 hm (shlB_lt hv hc)]), rfl⟩

theorem constant_any (m v : Nat) (hm : m < 65536) (hv : v < 4) (w : World) :
    Calls Try.prog 164 #[.int .u32 (m : Nat), .int .i64 (v : Nat)] w fun e w' => e = .returned (.int .i64 ((fieldB m v : Nat) - 1)) ∧ w = w' := by
  go_enter Try.func164, Try.ntmps164
  go_wp2_with (go_at_call 168; refine (shift_any _ (by omega) (by omega) _).mono ?_; rintro e w' ⟨rfl, rfl⟩)
  go_ret
  exact ⟨ret_int (by have := fieldB_lt m v; rw [field_word hm, IntWalk.wrap64_in (fieldB m v : Nat) (by omega), IntWalk.wrap64_in _ (by omega)]), rfl⟩

theorem value_any (bs : List Int) (hb : bindOk bs = true) (t : Int) (ht : termOk t = true) (w : World) :
    Calls Try.prog 155 #[.int .u32 (encB bs : Nat), .int .i64 t] w fun e w' => e = .returned (.int .i64 (termVal bs t)) ∧ w = w' := by
  have htb := termOk_at ht
  by_cases h1 : isVarB t = true
  · have hv : -4 ≤ t ∧ t ≤ -1 := by simpa [isVarB] using h1
    obtain ⟨v, hv4, rfl⟩ : ∃ v : Nat, v < 4 ∧ t = -1 - (v : Int) := ⟨(-1 - t).toNat, by omega, by omega⟩
    have HE := Lib.hid (show ((fieldB (encB bs) v : Nat) : Int) - 1 = termVal bs (-1 - (v : Int)) by
      rw [fieldB_enc hb hv4, termVal_var (by omega)]
      congr 1
      omega)
    have HN := Lib.hid (show -1 - (-1 - (v : Int)) = (v : Int) by omega)
    have hlt := encB_lt hb
    generalize encB bs = m at HE hlt
    go_enter Try.func155, Try.ntmps155
    go_wp2_with (first | (go_at_call 102; refine (isVar_is h1 _).mono ?_; rintro e w' ⟨rfl, rfl⟩) | (go_at_call 103; refine (varNumber_any _ hv.1 hv.2 _).mono ?_; rintro e w' ⟨rfl, rfl⟩; rw [HN.out]) | (go_at_call 164; refine (constant_any _ _ hlt hv4 _).mono ?_; rintro e w' ⟨rfl, rfl⟩))
    go_ret
    exact ⟨ret_int HE.out, rfl⟩
  · have h2 : isVarB t = false := by simpa using h1
    have h0 : 0 ≤ t := by simp [isVarB] at h2; omega
    have HE := Lib.hid (termVal_const (bs := bs) h0).symm
    go_enter Try.func155, Try.ntmps155
    go_wp2_with (go_at_call 102; refine (isVar_is h2 _).mono ?_; rintro e w' ⟨rfl, rfl⟩)
    go_ret
    exact ⟨ret_int HE.out, rfl⟩

end Go.Proofs.Ytocpfmbieedpgaa
/-
  The walks of bindingOf, values, numbers.
-/
namespace Go.Proofs.Ytocpfmbieedpgaa
open Go.RowKit

theorem bs_getD {bs : List Int} {j : Nat} (hl : bs.length = 4) (hj : j < 4) : bs.getD j (-1) = bs.getD j 0 := by
  rw [List.getD_eq_getElem?_getD, List.getD_eq_getElem?_getD, List.getElem?_eq_getElem (by omega)]
  rfl

theorem make4i (W : World) : (Instr.makeSlice 23 (.int .i64 4) (.int .i64 4)).run Try.prog W = .ok (.slice (some ⟨W.heap.size, 0, none⟩) 4 4) (W.alloc (.cells (madeCells #[.int .i64 0] 4) 3)) :=
  run_make_row' (P := Try.prog) 23 3 (.int .i64 0) 8 Try.underlying23 Try.infoInt rfl .i64 .i64 4 (by omega) (by omega) W

end Go.Proofs.Ytocpfmbieedpgaa
/-
  The program's Bound.
-/
namespace Go.Proofs.Ytocpfmbieedpgaa
open Go.RowKit

theorem areTerms_is {xs : List Int} {b : Bool} (e : xs.all termOk = b) (v : Value) (B : Nat) (w : World) (h : RdInts w B v xs) (hr : xs.length ≤ 1048576) :
    Calls Try.prog 122 #[v] w fun e w' => e = .returned (.bool b) ∧ w = w' := e ▸ areTerms_any v xs B w h hr

end Go.Proofs.Ytocpfmbieedpgaa
/-
  Both BodySafe.
-/
namespace Go.Proofs.Ytocpfmbieedpgaa
open Go.RowKit

def litFine (l : LLit) : Bool := decide (0 ≤ l.1 ∧ l.1 ≤ 3) && l.2.2.all termOk
def bodySafe (ls : List LLit) : Bool := (ls.all litFine && decide (ls.length ≤ 4)) && ruleSafe ((0, []), ls)
theorem litFine_kind {l : LLit} (h : ¬ (0 ≤ l.1 ∧ l.1 ≤ 3)) : litFine l = false := by simp [litFine, h]
theorem litFine_terms {l : LLit} (h : l.2.2.all termOk = false) : litFine l = false := by unfold litFine; rw [h, Bool.and_false]
theorem litFine_yes {l : LLit} (h : 0 ≤ l.1 ∧ l.1 ≤ 3) (h2 : l.2.2.all termOk = true) : litFine l = true := by unfold litFine; rw [h2, decide_eq_true h]; rfl
theorem ruleMask_body (ls : List LLit) : ruleMask ((0, []), ls) = bodyMask ls := by simp [ruleMask, maskOf, maskFrom]
theorem bodySafe_not {ls : List LLit} {k : Nat} (hk : k < ls.length) (e : litFine ls[k] = false) : bodySafe ls = false := by
  unfold bodySafe
  rw [all_not hk e]
  rfl
theorem l2Terms_is {xs : List Int} {b : Bool} (e : xs.all termOk = b) (v : Value) (B : Nat) (w : World) (h : RdInts w B v xs) (hr : xs.length ≤ 1048576) :
    Calls Try.prog 66 #[v] w fun e w' => e = .returned (.bool b) ∧ w = w' := e ▸ l2Terms_any v xs B w h hr

end Go.Proofs.Ytocpfmbieedpgaa
/-
  The specification's HeadOf.
-/
namespace Go.Proofs.Ytocpfmbieedpgaa
open Go.RowKit

theorem zeroI (w : World) (lo hi : Nat) : OwnInts w lo hi (.slice none 0 0) [] := ⟨World.ownsRow_nil _ _ _ _, fun g hg => by cases hg⟩

set_option maxHeartbeats 2000000 in
set_option maxRecDepth 100000 in
theorem specHeadOf_any (v v2 : Value) (a : LFact) (bs : List Int) (w : World) (h : RdFact w w.heap.size v a) (h2 : RdInts w w.heap.size v2 bs) (hr : a.2.length ≤ 1048576) (hr2 : bs.length ≤ 1048576) :
    Calls Try.prog 128 #[v, v2] w fun e w' => ∃ A' c', e = .returned (.tuple #[.agg #[.int .i64 (headOf a bs).1, .slice A' (headOf a bs).2.length c'], .bool (headOk a bs)]) ∧ OwnInts w' w.heap.size w'.heap.size (.slice A' (headOf a bs).2.length c') (headOf a bs).2 ∧ Below w.heap.size w w' := by
  obtain ⟨i0, hi0, hz0, hz1, hz2⟩ := info_parts Try.infoInt
  obtain ⟨u, rfl, h⟩ := h
  have H := Lib.hid h
  have H2 := Lib.hid h2
  obtain ⟨A, c, rfl, hc, _⟩ := h
  obtain ⟨A2, c2, rfl, hc2, _⟩ := h2
  obtain ⟨F, hF⟩ : ∃ F, F = headOf a bs := ⟨_, rfl⟩
  obtain ⟨ok, hok⟩ : ∃ ok, ok = headOk a bs := ⟨_, rfl⟩
  rw [← hF, ← hok]
  have HF := Lib.hid hF
  have HK := Lib.hid hok
  clear hF hok
  -- the worlds ahead
  have X0 : ∀ T1 c1 T2 c2, Blk ((w.alloc (Obj.cells c1 T1)).alloc (Obj.cells c2 T2)) w.heap.size T1 c1 := fun T1 c1 T2 c2 => (Blk.new w T1 c1).alloc _
  have X1 : ∀ o T2 c2, Blk ((w.alloc o).alloc (Obj.cells c2 T2)) (w.heap.size + 1) T2 c2 := fun o T2 c2 => by simpa using Blk.new (w.alloc o) T2 c2
  by_cases hb : bindOk bs = true
  · have L1 := Lib.hid (fun W (hW : Below w.heap.size w W) => l3Bind_is hb (.slice A2 bs.length c2) w.heap.size W (H2.out.below hW (Nat.le_refl _)) hr2)
    by_cases ht : a.2.all termOk = true
    · have L2 := Lib.hid (fun W (hW : Below w.heap.size w W) => l2Terms_is ht (.slice A a.2.length c) w.heap.size W (H.out.below hW (Nat.le_refl _)) hr)
      have HB4 := Lib.hid (bindOk_len hb)
      have HB := Lib.hid hb
      have HT := Lib.hid ht
      have HTK := Lib.hid (show ∀ k (hk : k < a.2.length), termOk a.2[k] = true ∧ -1 ≤ termVal bs a.2[k] ∧ termVal bs a.2[k] ≤ 5 from fun k hk => by
        have := List.all_eq_true.1 ht _ (List.getElem_mem hk)
        exact ⟨this, termVal_bounds hb this⟩)
      obtain ⟨ys, hys⟩ : ∃ ys, ys = a.2.map (termVal bs) := ⟨_, rfl⟩
      have HY := Lib.hid hys
      have HYL := Lib.hid (show ys.length = a.2.length by rw [hys]; simp)
      have HYK := Lib.hid (show ∀ k (hk : k < a.2.length), ys.take (k + 1) = ys.take k ++ [termVal bs a.2[k]] from fun k hk => by
        rw [take_snoc ys k (by rw [hys]; simpa using hk)]
        simp [hys])
      clear hb ht hys
      go_enter Try.func128, Try.ntmps128
      go_wp2_with (fail)
      have x0 := X0 25 #[.int .i64 a.1, .slice A a.2.length c] 118 #[.int .i64 0, .slice none 0 0]
      have x1 := X1 (Obj.cells #[.int .i64 a.1, .slice A a.2.length c] 25) 118 #[.int .i64 0, .slice none 0 0]
      obtain ⟨w2, hw2⟩ : ∃ w2, w2 = ((w.alloc (Obj.cells #[Value.int IntKind.i64 a.1, Value.slice A a.2.length c] 25)).alloc (Obj.cells #[Value.int IntKind.i64 0, Value.slice none 0 0] 118)) := ⟨_, rfl⟩
      have B2 : Below w.heap.size w w2 := by rw [hw2]; exact below2 _ _ _
      have hs2 : w.heap.size + 1 < w2.heap.size := by rw [hw2]; simp
      rw [← hw2] at x0 x1 ⊢
      clear hw2 X0 X1
      have q00 : w2.cell? ⟨w.heap.size, 0, none⟩ = some (.int .i64 a.1) := x0.cell 0
      have q01 : w2.cell? ⟨w.heap.size, 1, none⟩ = some (.slice A a.2.length c) := x0.cell 1
      refine (L1.out _ B2).mono ?_
      rintro e w' ⟨rfl, rfl⟩
      go_wp2_with (fail)
      refine (L2.out _ B2).mono ?_
      rintro e w' ⟨rfl, rfl⟩
      go_wp2_with (fail)
      have x2 : Blk (w2.alloc (Obj.cells #[Value.int IntKind.i64 a.1, Value.slice none 0 0] 118)) w2.heap.size 118 #[.int .i64 a.1, .slice none 0 0] := Blk.new _ _ _
      have R0 : Below w.heap.size w (w2.alloc (Obj.cells #[Value.int IntKind.i64 a.1, Value.slice none 0 0] 118)) ∧ Blk (w2.alloc (Obj.cells #[Value.int IntKind.i64 a.1, Value.slice none 0 0] 118)) w.heap.size 25 #[.int .i64 a.1, .slice A a.2.length c] ∧ Blk (w2.alloc (Obj.cells #[Value.int IntKind.i64 a.1, Value.slice none 0 0] 118)) (w.heap.size + 1) 118 #[.int .i64 0, .slice none 0 0] := ⟨bthen B2 (below1 _ _), x0.alloc _, x1.alloc _⟩
      clear x0 x1 q00 q01
      go_loopw [7, 8] (fun i _ wr => ∃ (k : Nat) (A' : Option Addr) (c' : Nat), k ≤ a.2.length ∧ i = .int .i64 k ∧ (ys.take k).all constOk = true ∧ OwnInts wr (w2.heap.size + 1) wr.heap.size (.slice A' (ys.take k).length c') (ys.take k) ∧
          Blk wr w2.heap.size 118 #[.int .i64 a.1, .slice A' (ys.take k).length c'] ∧ (Below w.heap.size w wr ∧ Blk wr w.heap.size 25 #[.int .i64 a.1, .slice A a.2.length c] ∧ Blk wr (w.heap.size + 1) 118 #[.int .i64 0, .slice none 0 0])) (fun i _ _ => a.2.length - (intOf i).toNat)
      case atStart => exact ⟨0, none, 0, Nat.zero_le _, rfl, rfl, zeroI _ _ _, x2, R0⟩
      case round =>
        obtain ⟨k, A', c', hk, rfl, hs, ho, y2, hbe, y0, y1⟩ := hrel
        have hln : (ys.take k).length ≤ k := by simp; omega
        have q00 : wr.cell? ⟨w.heap.size, 0, none⟩ = some (.int .i64 a.1) := y0.cell 0
        have q01 : wr.cell? ⟨w.heap.size, 1, none⟩ = some (.slice A a.2.length c) := y0.cell 1
        by_cases hlt : k < a.2.length
        · have hre := H.out.below hbe (Nat.le_refl _)
          obtain ⟨A3, c3, e3, _, hx⟩ := hre
          injection e3 with e3 _ e4
          subst e3 e4
          obtain ⟨b, o, rfl, hbB, hx⟩ := hx (by omega)
          have hck : wr.cell? ⟨b, o + k, none⟩ = some (.int .i64 a.2[k]) := hx k hlt
          obtain ⟨htk, htl, hth⟩ := HTK.out k hlt
          have T1 := Lib.hid (l3Term_any (.slice A2 bs.length c2) bs a.2[k] w.heap.size wr (H2.out.below hbe (Nat.le_refl _)) HB4.out htk)
          have HS := Lib.hid (HYK.out k hlt)
          clear hx
          obtain ⟨zs, hzs⟩ : ∃ zs, zs = ys.take k := ⟨_, rfl⟩
          rw [← hzs] at ho hln y2 hs
          have HZ := Lib.hid hzs
          clear hzs
          obtain ⟨t, htv⟩ : ∃ t, t = termVal bs a.2[k] := ⟨_, rfl⟩
          rw [← htv] at T1 HS htl hth
          have HTV := Lib.hid htv
          clear htv htk
          have HP := Lib.hid (And.intro ho (And.intro hbe (And.intro y0 (And.intro y1 y2))))
          have c20 : wr.cell? ⟨w2.heap.size, 0, none⟩ = some (.int .i64 a.1) := y2.cell 0
          have c21 : wr.cell? ⟨w2.heap.size, 1, none⟩ = some (.slice A' zs.length c') := y2.cell 1
          have c10 : wr.cell? ⟨w.heap.size + 1, 0, none⟩ = some (.int .i64 0) := y1.cell 0
          have c11 : wr.cell? ⟨w.heap.size + 1, 1, none⟩ = some (.slice none 0 0) := y1.cell 1
          have f10 := y1.frozen 0
          have f11 := y1.frozen 1
          clear ho y0 y1 y2
          by_cases h0 : t < 0
          · have HN := Lib.hid (show ok = false ∧ F = (0, []) by
              have hno : headOk a bs = false := headOk_vals (all_not (k := k) (by simpa using hlt) (by
                have := HTV.out
                simp [constOk]
                omega))
              exact ⟨by rw [HK.out, hno], by rw [HF.out, headOf_no hno]⟩)
            clear hs
            go_wp2_with (go_at_call 148; refine T1.out.mono ?_; rintro e w' ⟨rfl, rfl⟩)
            refine bodyPost_ret (v := .tuple #[.agg #[.int .i64 0, .slice none 0 0], .bool false]) (by simp [results, Try.results128, go_sem, c10, c11]) rfl ?_
            rw [HN.out.1, HN.out.2]
            exact ⟨none, 0, rfl, zeroI _ _ _, (hbe.setCell (by simp) _).setCell (by simp) _⟩
          · have hd0 : decide (t < 0) = false := by simpa using h0
            have HCS := Lib.hid (show (zs ++ [t]).all constOk = true by rw [List.all_append, hs]; simp [constOk]; omega)
            clear hs
            go_wp2_with (first | (go_at_call 148; refine T1.out.mono ?_; rintro e w' ⟨rfl, rfl⟩) | (at_builtin; refine wpList_append_lies _ rfl (.tmp 40) (.tmp 42) 23 rfl (w2.heap.size + 1) 3 i0 (.int .i64 0) 1 8 Try.underlying23 hi0 hz0 hz1 hz2 rfl (by decide) (.slice A' zs.length c') zs.length (zs.map (Value.int .i64)) rfl ?c1 ⟨_, 0, none⟩ 1 1 [.int .i64 t] rfl rfl (news1s _ _ _ _ (by simp)) ?c2 (by omega) (by unfold maxLen; omega) (by omega) ?c3 _ rfl ?_))
            case c1 => exact HP.out.1.1.alloc _
            case c2 => intro u hu; simp at hu; subst hu; rfl
            case c3 => have := HP.out.2.2.2.2.lt; simp; omega
            intro g cap w4 hown hg _ _
            have hgr := grown_from_alloc hg
            obtain ⟨ho, hbe', y0, y1, y2⟩ := HP.out
            have z0 := y0.grown hgr (ho.apart (by omega))
            have z1 := y1.grown hgr (ho.apart (by omega))
            have z2 := y2.grown hgr (ho.apart (by omega))
            have hb4 : Below w.heap.size w w4 := hbe'.trans (Below.grown (Below.refl _ _) hgr hbe'.size (fun j hj => by have := ho.lt hj; omega))
            have z2f := z2.frozen 1
            have z2c : w4.cell? ⟨w2.heap.size, 1, none⟩ = some (.slice A' zs.length c') := z2.cell 1
            have z2s := z2.set_ 1 (.slice (some ⟨g, 0, none⟩) (zs.length + 1) cap)
            have hlen : zs.length + 1 = (zs ++ [t]).length := by simp
            have hoo : OwnInts w4 (w2.heap.size + 1) w4.heap.size (.slice (some ⟨g, 0, none⟩) (zs.length + 1) cap) (zs ++ [t]) := by
              refine ⟨?_, fun b hb' => (hown.lt b hb').2⟩
              rw [← hlen]
              simpa using hown
            have hos := hoo.set (p := ⟨w2.heap.size, 1, none⟩) (.inl (by show w2.heap.size < w2.heap.size + 1; omega)) (.slice (some ⟨g, 0, none⟩) (zs.length + 1) cap)
            have z0s := z0.far (p := ⟨w2.heap.size, 1, none⟩) (by show w.heap.size ≠ w2.heap.size; omega) (.slice (some ⟨g, 0, none⟩) (zs.length + 1) cap)
            have z1s := z1.far (p := ⟨w2.heap.size, 1, none⟩) (by show w.heap.size + 1 ≠ w2.heap.size; omega) (.slice (some ⟨g, 0, none⟩) (zs.length + 1) cap)
            have HQ := Lib.hid (And.intro hos (And.intro z2s (And.intro (hb4.setCell (p := ⟨w2.heap.size, 1, none⟩) (by show w.heap.size ≤ w2.heap.size; omega) (.slice (some ⟨g, 0, none⟩) (zs.length + 1) cap)) (And.intro z0s z1s))))
            have HSE := Lib.hid (show ys.take (k + 1) = zs ++ [t] by rw [HS.out, HZ.out])
            clear hown hg hgr ho hbe' y0 y1 y2 z0 z1 hb4 z2s hlen hoo hos z0s z1s
            go_wp2_with (fail)
            go_roundw
            case rel =>
              obtain ⟨a1, a2, a3, a4, a5⟩ := HQ.out
              refine ⟨k + 1, some ⟨g, 0, none⟩, cap, by omega, by go_num, by rw [HSE.out]; exact HCS.out, ?_, ?_, a3, a4, a5⟩
              · rw [HSE.out]
                simpa using a1
              · rw [HSE.out]
                simpa using a2
            case measure => simp [intOf]; omega
        · have hkn : k = a.2.length := by omega
          have hall : ys.take k = ys := by rw [hkn, ← HYL.out, List.take_length]
          rw [hall] at hs ho y2
          have HN := Lib.hid (show ok = true ∧ F = (a.1, ys) by
            have hyes : headOk a bs = true := headOk_yes HB.out HT.out (by rw [← HY.out]; exact hs)
            exact ⟨by rw [HK.out, hyes], by rw [HF.out, headOf_yes hyes, HY.out]⟩)
          have c20 : wr.cell? ⟨w2.heap.size, 0, none⟩ = some (.int .i64 a.1) := y2.cell 0
          have c21 : wr.cell? ⟨w2.heap.size, 1, none⟩ = some (.slice A' ys.length c') := y2.cell 1
          have c10 : wr.cell? ⟨w.heap.size + 1, 0, none⟩ = some (.int .i64 0) := y1.cell 0
          have c11 : wr.cell? ⟨w.heap.size + 1, 1, none⟩ = some (.slice none 0 0) := y1.cell 1
          have f10 := y1.frozen 0
          have f11 := y1.frozen 1
          have HP := Lib.hid (And.intro ho hbe)
          clear hs hall hkn ho y0 y1 y2
          go_wp2_with (fail)
          refine bodyPost_ret (v := .tuple #[.agg #[.int .i64 a.1, .slice A' ys.length c'], .bool true]) (by simp [results, Try.results128, go_sem, c10, c11]) rfl ?_
          rw [HN.out.1, HN.out.2]
          refine ⟨A', c', rfl, ?_, (HP.out.2.setCell (by simp) _).setCell (by simp) _⟩
          exact ((HP.out.1.set (p := ⟨w.heap.size + 1, 0, none⟩) (.inl (by show w.heap.size + 1 < w2.heap.size + 1; omega)) _).set (p := ⟨w.heap.size + 1, 1, none⟩) (.inl (by show w.heap.size + 1 < w2.heap.size + 1; omega)) _).mono (by omega) (by simp)
    · have ht' : a.2.all termOk = false := by simpa using ht
      have L2 := Lib.hid (fun W (hW : Below w.heap.size w W) => l2Terms_is ht' (.slice A a.2.length c) w.heap.size W (H.out.below hW (Nat.le_refl _)) hr)
      have HN := Lib.hid (show ok = false ∧ F = (0, []) from ⟨by rw [HK.out, headOk_terms ht'], by rw [HF.out, headOf_no (headOk_terms ht')]⟩)
      clear hb ht ht'
      go_enter Try.func128, Try.ntmps128
      go_wp2_with (fail)
      have x0 := X0 25 #[.int .i64 a.1, .slice A a.2.length c] 118 #[.int .i64 0, .slice none 0 0]
      have x1 := X1 (Obj.cells #[.int .i64 a.1, .slice A a.2.length c] 25) 118 #[.int .i64 0, .slice none 0 0]
      obtain ⟨w2, hw2⟩ : ∃ w2, w2 = ((w.alloc (Obj.cells #[Value.int IntKind.i64 a.1, Value.slice A a.2.length c] 25)).alloc (Obj.cells #[Value.int IntKind.i64 0, Value.slice none 0 0] 118)) := ⟨_, rfl⟩
      have B2 : Below w.heap.size w w2 := by rw [hw2]; exact below2 _ _ _
      rw [← hw2] at x0 x1 ⊢
      clear hw2 X0 X1
      have q00 : w2.cell? ⟨w.heap.size, 0, none⟩ = some (.int .i64 a.1) := x0.cell 0
      have q01 : w2.cell? ⟨w.heap.size, 1, none⟩ = some (.slice A a.2.length c) := x0.cell 1
      have c10 : w2.cell? ⟨w.heap.size + 1, 0, none⟩ = some (.int .i64 0) := x1.cell 0
      have c11 : w2.cell? ⟨w.heap.size + 1, 1, none⟩ = some (.slice none 0 0) := x1.cell 1
      have f10 := x1.frozen 0
      have f11 := x1.frozen 1
      refine (L1.out _ B2).mono ?_
      rintro e w' ⟨rfl, rfl⟩
      go_wp2_with (go_at_call 66; refine (L2.out _ B2).mono ?_; rintro e w' ⟨rfl, rfl⟩)
      refine bodyPost_ret (v := .tuple #[.agg #[.int .i64 0, .slice none 0 0], .bool false]) (by simp [results, Try.results128, go_sem, c10, c11]) rfl ?_
      rw [HN.out.1, HN.out.2]
      exact ⟨none, 0, rfl, zeroI _ _ _, (B2.setCell (by simp) _).setCell (by simp) _⟩
  · have hb' : bindOk bs = false := by simpa using hb
    have L1 := Lib.hid (fun W (hW : Below w.heap.size w W) => l3Bind_is hb' (.slice A2 bs.length c2) w.heap.size W (H2.out.below hW (Nat.le_refl _)) hr2)
    have HN := Lib.hid (show ok = false ∧ F = (0, []) from ⟨by rw [HK.out, headOk_bind hb'], by rw [HF.out, headOf_no (headOk_bind hb')]⟩)
    clear hb hb'
    go_enter Try.func128, Try.ntmps128
    go_wp2_with (fail)
    have x1 := X1 (Obj.cells #[.int .i64 a.1, .slice A a.2.length c] 25) 118 #[.int .i64 0, .slice none 0 0]
    obtain ⟨w2, hw2⟩ : ∃ w2, w2 = ((w.alloc (Obj.cells #[Value.int IntKind.i64 a.1, Value.slice A a.2.length c] 25)).alloc (Obj.cells #[Value.int IntKind.i64 0, Value.slice none 0 0] 118)) := ⟨_, rfl⟩
    have B2 : Below w.heap.size w w2 := by rw [hw2]; exact below2 _ _ _
    rw [← hw2] at x1 ⊢
    clear hw2 X0 X1
    have c10 : w2.cell? ⟨w.heap.size + 1, 0, none⟩ = some (.int .i64 0) := x1.cell 0
    have c11 : w2.cell? ⟨w.heap.size + 1, 1, none⟩ = some (.slice none 0 0) := x1.cell 1
    have f10 := x1.frozen 0
    have f11 := x1.frozen 1
    refine (L1.out _ B2).mono ?_
    rintro e w' ⟨rfl, rfl⟩
    go_wp2_with (fail)
    refine bodyPost_ret (v := .tuple #[.agg #[.int .i64 0, .slice none 0 0], .bool false]) (by simp [results, Try.results128, go_sem, c10, c11]) rfl ?_
    rw [HN.out.1, HN.out.2]
    exact ⟨none, 0, rfl, zeroI _ _ _, (B2.setCell (by simp) _).setCell (by simp) _⟩

end Go.Proofs.Ytocpfmbieedpgaa
/-
  The program's HeadOf.
-/
namespace Go.Proofs.Ytocpfmbieedpgaa
open Go.RowKit

theorem areConstants_is {xs : List Int} {b : Bool} (e : xs.all constOk = b) (v : Value) (B : Nat) (w : World) (h : RdInts w B v xs) (hr : xs.length ≤ 1048576) :
    Calls Try.prog 132 #[v] w fun e w' => e = .returned (.bool b) ∧ w = w' := e ▸ areConstants_any v xs B w h hr

end Go.Proofs.Ytocpfmbieedpgaa
/-
  Matching an atom with a fact, plain mathematics.
-/
namespace Go.Proofs.Ytocpfmbieedpgaa
open Go.RowKit

/-- One term against one constant. -/
def stepM (bs : List Int) (t c : Int) : Option (List Int) :=
  if termVal bs t = c then some bs else if termVal bs t = -1 then some (bs.set (-1 - t).toNat c) else none
def matchTo (bs xs ys : List Int) : Nat → Option (List Int)
  | 0 => some bs
  | k + 1 => (matchTo bs xs ys k).bind fun b => stepM b (xs.getD k 0) (ys.getD k 0)
def matchL (a f : LFact) (bs : List Int) : Option (List Int) :=
  if a.1 = f.1 ∧ a.2.length = f.2.length then matchTo bs a.2 f.2 a.2.length else none

theorem stepM_ok {bs b : List Int} (h : bindOk bs = true) {t c : Int} (hc : -1 ≤ c ∧ c ≤ 5) (e : stepM bs t c = some b) : bindOk b = true := by
  unfold stepM at e
  split at e
  · injection e with e
    rwa [← e]
  · split at e
    · injection e with e
      rw [← e]
      exact bindOk_set h hc _
    · cases e
theorem matchTo_step {bs xs ys b : List Int} {k : Nat} (h : matchTo bs xs ys k = some b) (h1 : k < xs.length) (h2 : k < ys.length) : matchTo bs xs ys (k + 1) = stepM b xs[k] ys[k] := by
  show (matchTo bs xs ys k).bind _ = _
  rw [h]
  simp [h1, h2]
theorem matchTo_none {bs xs ys : List Int} {k : Nat} (h : matchTo bs xs ys k = none) : ∀ n, k ≤ n → matchTo bs xs ys n = none
  | 0, hn => by
    have : k = 0 := by omega
    subst this
    exact h
  | n + 1, hn => by
    by_cases e : k = n + 1
    · rw [← e]; exact h
    · show (matchTo bs xs ys n).bind _ = none
      rw [matchTo_none h n (by omega)]
      rfl
theorem matchL_eq {a f : LFact} {bs : List Int} (h1 : a.1 = f.1) (h2 : a.2.length = f.2.length) : matchL a f bs = matchTo bs a.2 f.2 a.2.length := if_pos ⟨h1, h2⟩
theorem matchL_pred {a f : LFact} {bs : List Int} (h : a.1 ≠ f.1) : matchL a f bs = none := if_neg fun e => h e.1
theorem matchL_len {a f : LFact} {bs : List Int} (h : a.2.length ≠ f.2.length) : matchL a f bs = none := if_neg fun e => h e.2
theorem matchL_stop {a f : LFact} {bs : List Int} {k : Nat} (h1 : a.1 = f.1) (h2 : a.2.length = f.2.length) (hk : k < a.2.length) (e : matchTo bs a.2 f.2 (k + 1) = none) : matchL a f bs = none := by
  rw [matchL_eq h1 h2]
  exact matchTo_none e _ hk
theorem stepM_same {bs : List Int} {t c : Int} (h : termVal bs t = c) : stepM bs t c = some bs := if_pos h
theorem stepM_new {bs : List Int} {t c : Int} (h : termVal bs t = -1) (hc : c ≠ -1) : stepM bs t c = some (bs.set (-1 - t).toNat c) := by
  unfold stepM
  rw [if_neg (by omega), if_pos h]
theorem stepM_no {bs : List Int} {t c : Int} (h : termVal bs t ≠ c) (h2 : termVal bs t ≠ -1) : stepM bs t c = none := by
  unfold stepM
  rw [if_neg h, if_neg h2]
theorem termVal_free {bs : List Int} {t : Int} (ht : termOk t = true) (h : termVal bs t = -1) : -4 ≤ t ∧ t ≤ -1 ∧ bs.getD (-1 - t).toNat (-1) = -1 := by
  have htb := termOk_at ht
  have h0 : t < 0 := by
    rcases Int.lt_or_le t 0 with h1 | h1
    · exact h1
    · rw [termVal_const h1] at h
      omega
  rw [termVal_var h0] at h
  exact ⟨htb.1, by omega, h⟩

end Go.Proofs.Ytocpfmbieedpgaa
/-
  The specification's l3Copy, l3Match.
-/
namespace Go.Proofs.Ytocpfmbieedpgaa
open Go.RowKit

/-- A row of one's own that is not empty: its block, its cells. -/
theorem OwnInts.at_ {w : World} {lo hi c n : Nat} {A : Option Addr} {xs : List Int} (h : OwnInts w lo hi (.slice A n c) xs) (hn : 0 < xs.length) :
    ∃ g, A = some ⟨g, 0, none⟩ ∧ lo ≤ g ∧ g < hi ∧ g < w.heap.size ∧ (∀ k (hk : k < xs.length), w.cell? ⟨g, k, none⟩ = some (.int .i64 xs[k])) ∧ ∀ k, w.frozen? ⟨g, k, none⟩ = false := by
  obtain ⟨g, cap, e, _, _⟩ := h.1.form hn
  injection e with e1 e2 e3
  subst e1
  subst e2
  obtain ⟨l1, l2, l3⟩ := h.lt (g := g) rfl
  obtain ⟨A', c', e, _, hx⟩ := h.rd
  injection e with e1 _ _
  obtain ⟨b, o, e2, _, hx⟩ := hx hn
  rw [← e1] at e2
  injection e2 with e2
  injection e2 with e2 e3 _
  subst e2
  subst e3
  exact ⟨g, rfl, l1, l2, l3, fun k hk => by simpa using hx k hk, fun k => World.ownsRow.frozenAt h.1 k⟩

theorem OwnInts.atG {w : World} {lo hi c n g : Nat} {xs : List Int} (h : OwnInts w lo hi (.slice (some ⟨g, 0, none⟩) n c) xs) (hn : 0 < xs.length) :
    lo ≤ g ∧ g < hi ∧ g < w.heap.size ∧ (∀ k (hk : k < xs.length), w.cell? ⟨g, k, none⟩ = some (.int .i64 xs[k])) ∧ ∀ k, w.frozen? ⟨g, k, none⟩ = false := by
  obtain ⟨g', e, h'⟩ := h.at_ hn
  injection e with e
  injection e with e _ _
  subst e
  exact h'

set_option maxHeartbeats 1000000 in
set_option maxRecDepth 100000 in
theorem l3Copy_any (v : Value) (xs : List Int) (w : World) (h : RdInts w w.heap.size v xs) (hr : xs.length ≤ 1048576) :
    Calls Try.prog 108 #[v] w fun e w' => ∃ A' c', e = .returned (.slice A' xs.length c') ∧ OwnInts w' w.heap.size w'.heap.size (.slice A' xs.length c') xs ∧ Below w.heap.size w w' := by
  obtain ⟨i0, hi0, hz0, hz1, hz2⟩ := info_parts Try.infoInt
  have H := Lib.hid h
  obtain ⟨A, c, rfl, hc, _⟩ := h
  have C0 := Lib.hid (ColI.empty (Below.refl w.heap.size w))
  go_enter Try.func108, Try.ntmps108
  go_wp2_with (fail)
  go_loopw [3, 4] (fun o i wr => ∃ (k : Nat) (A' : Option Addr) (c' : Nat), k ≤ xs.length ∧ i = .int .i64 k ∧ o = .slice A' (xs.take k).length c' ∧ ColI w wr (xs.take k) A' c') (fun _ i _ => xs.length - (intOf i).toNat)
  case atStart => exact ⟨0, _, 0, Nat.zero_le _, rfl, rfl, C0.out⟩
  case round =>
    obtain ⟨k, A', c', hk, rfl, rfl, hr'⟩ := hrel
    have hln : (xs.take k).length ≤ k := by simp; omega
    by_cases hlt : k < xs.length
    · have hre := H.out.below hr'.below (Nat.le_refl _)
      obtain ⟨A3, c3, e3, _, hx⟩ := hre
      injection e3 with e3 _ e4
      subst e3 e4
      obtain ⟨b, o, rfl, hbB, hx⟩ := hx (by omega)
      have hck : wr.cell? ⟨b, o + k, none⟩ = some (.int .i64 xs[k]) := hx k hlt
      have HS := Lib.hid (take_snoc xs k hlt)
      have HP := Lib.hid hr'
      clear hx hr'
      obtain ⟨x, hx⟩ : ∃ x, x = xs[k] := ⟨_, rfl⟩
      rw [← hx] at hck HS
      clear hx
      obtain ⟨zs, hzs⟩ : ∃ zs, zs = xs.take k := ⟨_, rfl⟩
      have HZ := Lib.hid hzs
      rw [← hzs] at HP hln ⊢
      clear hzs
      go_wp2_with (at_builtin; refine wpList_append_lies _ rfl (.tmp 12) (.tmp 17) 23 rfl w.heap.size 3 i0 (.int .i64 0) 1 8 Try.underlying23 hi0 hz0 hz1 hz2 rfl (by decide) (.slice A' zs.length c') zs.length (zs.map (Value.int .i64)) rfl ?c1 ⟨_, 0, none⟩ 1 1 [.int .i64 x] rfl rfl (news1s _ _ _ _ (by simp)) ?c2 (by omega) (by unfold maxLen; omega) (by omega) ?c3 _ rfl ?_)
      case c1 => exact HP.out.own.1.alloc _
      case c2 => first | rfl | (intro u hu; simp at hu; subst hu; rfl)
      case c3 => have := HP.out.below.size; simp; omega
      intro g cap w4 hown hg _ _
      have hcol := HP.out.push (Below.refl _ _) hg hown
      rw [HZ.out, ← HS.out] at hcol
      have hlen : zs.length + 1 = (xs.take (k + 1)).length := by rw [HS.out, HZ.out]; simp
      rw [hlen]
      have HC := Lib.hid hcol
      clear hcol hlen hown hg
      go_wp2_with (fail)
      go_roundw
      case rel => exact ⟨k + 1, _, _, by omega, by go_num, rfl, HC.out⟩
      case measure => simp [intOf]; omega
    · have hkn : k = xs.length := by omega
      have HZ := Lib.hid (show xs.take k = xs by rw [hkn, List.take_length])
      have HO := Lib.hid hr'
      rw [HZ.out] at HO ⊢
      clear hkn hr'
      go_wp2_with (fail)
      go_ret
      exact ⟨_, _, rfl, HO.out.own, HO.out.below⟩

set_option maxHeartbeats 4000000 in
set_option maxRecDepth 100000 in
theorem l3Match_n (v v2 v3 : Value) (a f : LFact) (bs R : List Int) (ok : Bool) (hR : R = (matchL a f bs).getD []) (hok : ok = (matchL a f bs).isSome) (w : World) (hb : bindOk bs = true) (h : RdFact w w.heap.size v a) (h2 : RdFact w w.heap.size v2 f) (h3 : RdInts w w.heap.size v3 bs)
    (ht : a.2.all termOk = true) (hf : f.2.all constOk = true) (hr : a.2.length ≤ 1048576) (hr2 : f.2.length ≤ 1048576) :
    Calls Try.prog 131 #[v, v2, v3] w fun e w' => ∃ A' c', e = .returned (.tuple #[.slice A' R.length c', .bool ok]) ∧ OwnInts w' w.heap.size w'.heap.size (.slice A' R.length c') R ∧ Below w.heap.size w w' := by
  obtain ⟨pa, xs⟩ := a
  obtain ⟨pf, ys⟩ := f
  simp only at ht hf hr hr2
  have HO := Lib.hid (And.intro hR hok)
  clear hR hok
  have H3 := Lib.hid h3
  obtain ⟨A3, c3, rfl, hc3, _⟩ := h3
  obtain ⟨u, rfl, A, c, rfl, hc, hA⟩ := h
  obtain ⟨u, rfl, A2, c2, rfl, hc2, hA2⟩ := h2
  by_cases hp : pa = pf
  · have hpb : (pa != pf) = false := by simp [hp]
    by_cases hl : xs.length = ys.length
    · have hl1 : ((xs.length : Int) != (ys.length : Int)) = false := by simp [hl]
      have HL := Lib.hid hl
      have HP := Lib.hid hp
      have HB := Lib.hid hb
      have HB4 := Lib.hid (bindOk_len hb)
      clear hl hp hb
      have x0 := (Blk.new w 25 #[.int .i64 pa, .slice A xs.length c]).alloc (Obj.cells #[.int .i64 pf, .slice A2 ys.length c2] 118)
      have x1 : Blk ((w.alloc (Obj.cells #[.int .i64 pa, .slice A xs.length c] 25)).alloc (Obj.cells #[.int .i64 pf, .slice A2 ys.length c2] 118)) (w.heap.size + 1) 118 #[.int .i64 pf, .slice A2 ys.length c2] := by simpa using Blk.new (w.alloc (Obj.cells #[.int .i64 pa, .slice A xs.length c] 25)) 118 #[.int .i64 pf, .slice A2 ys.length c2]
      go_enter Try.func131, Try.ntmps131
      go_wp2_with (fail)
      obtain ⟨w2, hw2⟩ : ∃ w2, w2 = ((w.alloc (Obj.cells #[Value.int IntKind.i64 pa, Value.slice A xs.length c] 25)).alloc (Obj.cells #[Value.int IntKind.i64 pf, Value.slice A2 ys.length c2] 118)) := ⟨_, rfl⟩
      have B2 : Below w.heap.size w w2 := by rw [hw2]; exact below2 _ _ _
      rw [← hw2] at x0 x1 ⊢
      clear hw2
      have l1 := x1.lt
      refine (l3Copy_any _ bs _ (H3.out.on B2) (by have := HB4.out; omega)).mono ?_
      rintro e w3 ⟨A', c', rfl, ho, hb3⟩
      obtain ⟨g, rfl, hg1, hg2, hg3, _, _⟩ := ho.at_ (by have := HB4.out; omega)
      have R0 : OwnInts w3 w2.heap.size w3.heap.size (.slice (some ⟨g, 0, none⟩) bs.length c') bs ∧ Below w.heap.size w w3 ∧ Blk w3 w.heap.size 25 #[.int .i64 pa, .slice A xs.length c] ∧ Blk w3 (w.heap.size + 1) 118 #[.int .i64 pf, .slice A2 ys.length c2] := ⟨ho, bthen B2 hb3, x0.below hb3 x0.lt, x1.below hb3 x1.lt⟩
      rw [HB4.out] at R0 ⊢
      clear ho hb3 x0 x1 hg3 hg2
      go_wp2_with (fail)
      go_loopw [9, 10] (fun i _ wr => ∃ (k : Nat) (cur : List Int), k ≤ xs.length ∧ i = .int .i64 k ∧ bindOk cur = true ∧ matchTo bs xs ys k = some cur ∧ OwnInts wr w2.heap.size wr.heap.size (.slice (some ⟨g, 0, none⟩) 4 c') cur ∧ Below w.heap.size w wr ∧ Blk wr w.heap.size 25 #[.int .i64 pa, .slice A xs.length c] ∧ Blk wr (w.heap.size + 1) 118 #[.int .i64 pf, .slice A2 ys.length c2]) (fun i _ _ => xs.length - (intOf i).toNat)
      case atStart => exact ⟨0, bs, Nat.zero_le _, rfl, HB.out, rfl, R0.1, R0.2.1, R0.2.2.1, R0.2.2.2⟩
      case round =>
        obtain ⟨k, cur, hk, rfl, hcb, hmt, ho, hbe, y0, y1⟩ := hrel
        have q01 : wr.cell? ⟨w.heap.size, 1, none⟩ = some (.slice A xs.length c) := y0.cell 1
        have q11 : wr.cell? ⟨w.heap.size + 1, 1, none⟩ = some (.slice A2 ys.length c2) := y1.cell 1
        have hcl := bindOk_len hcb
        have HP2 := Lib.hid (And.intro ho (And.intro hbe (And.intro y0 y1)))
        by_cases hlt : k < xs.length
        · have hlt2 : k < ys.length := by have := HL.out; omega
          obtain ⟨b, o, rfl, hbB, hx⟩ := hA (by omega)
          obtain ⟨b2, o2, rfl, hbB2, hx2⟩ := hA2 (by omega)
          have hck : wr.cell? ⟨b, o + k, none⟩ = some (.int .i64 xs[k]) := (hbe.cell (p := ⟨b, o + k, none⟩) hbB).trans (hx k hlt)
          have hck2 : wr.cell? ⟨b2, o2 + k, none⟩ = some (.int .i64 ys[k]) := (hbe.cell (p := ⟨b2, o2 + k, none⟩) hbB2).trans (hx2 k hlt2)
          have htk : termOk xs[k] = true := List.all_eq_true.1 ht _ (List.getElem_mem hlt)
          have hfk : 0 ≤ ys[k] ∧ ys[k] ≤ 5 := by simpa [constOk] using List.all_eq_true.1 hf _ (List.getElem_mem hlt2)
          have hst := matchTo_step hmt hlt hlt2
          have htb := termOk_at htk
          obtain ⟨hg1', _, hg3, hcc, hcf⟩ := ho.atG (by omega)
          clear hx hx2 hA hA2
          obtain ⟨t, htv⟩ : ∃ t, t = xs[k] := ⟨_, rfl⟩
          obtain ⟨y, hyv⟩ : ∃ y, y = ys[k] := ⟨_, rfl⟩
          rw [← htv] at htk hck hst htb
          rw [← hyv] at hfk hck2 hst
          clear htv hyv
          by_cases e2 : termVal cur t = -1
          · -- the variable gets it
            obtain ⟨q1, q2, q3⟩ := termVal_free htk e2
            obtain ⟨j, hj4, rfl⟩ : ∃ j : Nat, j < 4 ∧ t = -1 - (j : Int) := ⟨(-1 - t).toNat, by omega, by omega⟩
            have hjt : (-1 - (-1 - (j : Int))).toNat = j := by omega
            have hje : -1 - (-1 - (j : Int)) = (j : Int) := by omega
            rw [hjt] at q3
            have hjl : j < cur.length := by omega
            have hjI : (j : Int) < 4 := by omega
            have hcj : wr.cell? ⟨g, j, none⟩ = some (.int .i64 (-1)) := by
              have hh := hcc j hjl
              rwa [show cur[j] = -1 by simpa [hjl] using q3] at hh
            have hfj := hcf j
            have hoo := OwnInts.store (A := some ⟨g, 0, none⟩) (c := c') (g := g) (xs := cur) (by rw [hcl]; exact ho) rfl hjl y
            obtain ⟨ws, hws⟩ : ∃ ws, ws = wr.setCell ⟨g, j, none⟩ (.int .i64 y) := ⟨_, rfl⟩
            have z0 := y0.far (p := ⟨g, j, none⟩) (by show w.heap.size ≠ g; omega) (.int .i64 y)
            have z1 := y1.far (p := ⟨g, j, none⟩) (by show w.heap.size + 1 ≠ g; omega) (.int .i64 y)
            have zb : Below w.heap.size w ws := by rw [hws]; exact hbe.setCell (by show w.heap.size ≤ g; omega) _
            have hsz : ws.heap.size = wr.heap.size := by rw [hws]; simp
            rw [← hws] at hoo z0 z1
            rw [hcl] at hoo
            have HCS := Lib.hid (show bindOk (cur.set j y) = true from bindOk_set hcb (by omega) _)
            have hsl : (cur.set j y).length = 4 := by rw [List.length_set]; exact hcl
            have HMS := Lib.hid (show matchTo bs xs ys (k + 1) = some (cur.set j y) by rw [hst, stepM_new e2 (by omega), hjt])
            have HTV := Lib.hid (show termVal (cur.set j y) (-1 - (j : Int)) = y by
              rw [termVal_var (by omega), hjt]
              simp [hjl])
            have hck2s : ws.cell? ⟨b2, o2 + k, none⟩ = some (.int .i64 y) := by
              rw [hws, World.cell?_setCell_other _ _ _ _ (by intro e; injection e with e1 _ _; omega)]
              exact hck2
            have q11s : ws.cell? ⟨w.heap.size + 1, 1, none⟩ = some (.slice (some ⟨b2, o2, none⟩) ys.length c2) := z1.cell 1
            have HT := Lib.hid (fun n => quiet_left (l3Term_any (.slice (some ⟨g, 0, none⟩) 4 c') (cur.set j y) (-1 - (j : Int)) ws.heap.size (ws.drewN n) (by
              have := (hoo.rd.more (B' := ws.heap.size) (by omega)).below (bdrewN (Below.refl ws.heap.size ws) n) (Nat.le_refl _)
              exact this) hsl htk))
            have HQ := Lib.hid (And.intro (show OwnInts ws w2.heap.size ws.heap.size (.slice (some ⟨g, 0, none⟩) 4 c') (cur.set j y) by rw [hsz]; exact hoo) (And.intro zb (And.intro z0 z1)))
            have HW := Lib.hid hws
            have HE2 := Lib.hid (And.intro e2 (And.intro q3 (And.intro hst hmt)))
            clear hoo z0 z1 zb hws hst hmt e2 q3 hcc hcf ho y0 y1
            rw [HTV.out] at HT
            go_wp2_with (fail)
            rw [← HW.out]
            go_quiet ((go_at_call 148; exact HT.out _))
            go_wp2_with (fail)
            go_roundw
            case rel =>
              obtain ⟨a1, a2, a3, a4⟩ := HQ.out
              exact ⟨k + 1, _, by omega, by go_num, HCS.out, HMS.out, a1.below (bdrewN (Below.refl _ _) _) (Nat.le_refl _), bdrewN a2 _, a3.drewN _, a4.drewN _⟩
            case measure => simp [intOf]; omega
          · have HT := Lib.hid (fun n => quiet_left (l3Term_any (.slice (some ⟨g, 0, none⟩) 4 c') cur t wr.heap.size (wr.drewN n) (by
              have h' : OwnInts wr w2.heap.size wr.heap.size (.slice (some ⟨g, 0, none⟩) cur.length c') cur := by rw [hcl]; exact ho
              have := h'.rd.below (bdrewN (Below.refl wr.heap.size wr) n) (Nat.le_refl _)
              rw [hcl] at this
              exact this) hcl htk))
            -- no store: a constant, or a variable that has one
            have hns : 0 ≤ t ∨ ∃ j : Nat, ∃ hj : j < cur.length, t = -1 - (j : Int) ∧ 0 ≤ cur[j] := by
              rcases Int.lt_or_le t 0 with h0 | h0
              · right
                have hj : (-1 - t).toNat < cur.length := by omega
                refine ⟨(-1 - t).toNat, hj, by omega, ?_⟩
                rw [termVal_var h0] at e2
                have e3 : cur[(-1 - t).toNat] ≠ -1 := by simpa [hj] using e2
                have := bindOk_at hcb hj
                omega
              · exact .inl h0
            have HV := Lib.hid (And.intro e2 (And.intro hst hmt))
            clear e2 hst hmt y0 y1
            by_cases e1 : termVal cur t = y
            · have hd1 : (y != y) = false := by simp
              have HMS := Lib.hid (show matchTo bs xs ys (k + 1) = some cur by rw [HV.out.2.1, stepM_same e1])
              rw [e1] at HT
              clear e1
              rcases hns with h0 | ⟨j, hj, rfl, hj0⟩
              · have hd0 : decide (t < 0) = false := by simp; omega
                clear ho hcc hcf
                go_wp2_with (fail)
                go_quiet ((go_at_call 148; exact HT.out _))
                go_wp2_with (fail)
                go_roundw
                case rel =>
                  obtain ⟨a1, a2, a3, a4⟩ := HP2.out
                  exact ⟨k + 1, _, by omega, by go_num, hcb, HMS.out, a1.below (bdrewN (Below.refl _ _) _) (Nat.le_refl _), bdrewN a2 _, a3.drewN _, a4.drewN _⟩
                case measure => simp [intOf]; omega
              · have hje : -1 - (-1 - (j : Int)) = (j : Int) := by omega
                have hjI : (j : Int) < 4 := by omega
                have hcj : wr.cell? ⟨g, j, none⟩ = some (.int .i64 cur[j]) := hcc j hj
                have hdj : decide (cur[j] < 0) = false := by simp; omega
                clear ho hcc hcf
                go_wp2_with (fail)
                go_quiet ((go_at_call 148; exact HT.out _))
                go_wp2_with (fail)
                go_roundw
                case rel =>
                  obtain ⟨a1, a2, a3, a4⟩ := HP2.out
                  exact ⟨k + 1, _, by omega, by go_num, hcb, HMS.out, a1.below (bdrewN (Below.refl _ _) _) (Nat.le_refl _), bdrewN a2 _, a3.drewN _, a4.drewN _⟩
                case measure => simp [intOf]; omega
            · have hd1 : (termVal cur t != y) = true := by simpa using e1
              have HN := Lib.hid (show matchL (pa, xs) (pf, ys) bs = none from matchL_stop HP.out HL.out hlt (by rw [HV.out.2.1, stepM_no e1 HV.out.1]))
              have HZ := Lib.hid (show R = [] ∧ ok = false from ⟨by rw [HO.out.1, HN.out]; rfl, by rw [HO.out.2, HN.out]; rfl⟩)
              clear e1
              rcases hns with h0 | ⟨j, hj, rfl, hj0⟩
              · have hd0 : decide (t < 0) = false := by simp; omega
                clear ho hcc hcf
                go_wp2_with (fail)
                go_quiet ((go_at_call 148; exact HT.out _))
                go_wp2_with (fail)
                go_ret2
                rw [HZ.out.1, HZ.out.2]
                exact ⟨none, 0, rfl, zeroI _ _ _, bdrewN hbe _⟩
              · have hje : -1 - (-1 - (j : Int)) = (j : Int) := by omega
                have hjI : (j : Int) < 4 := by omega
                have hcj : wr.cell? ⟨g, j, none⟩ = some (.int .i64 cur[j]) := hcc j hj
                have hdj : decide (cur[j] < 0) = false := by simp; omega
                clear ho hcc hcf
                go_wp2_with (fail)
                go_quiet ((go_at_call 148; exact HT.out _))
                go_wp2_with (fail)
                go_ret2
                rw [HZ.out.1, HZ.out.2]
                exact ⟨none, 0, rfl, zeroI _ _ _, bdrewN hbe _⟩
        · have hkn : k = xs.length := by omega
          have HN := Lib.hid (show matchL (pa, xs) (pf, ys) bs = some cur by rw [matchL_eq HP.out HL.out, ← hmt, hkn])
          have HZ := Lib.hid (show R = cur ∧ ok = true from ⟨by rw [HO.out.1, HN.out]; rfl, by rw [HO.out.2, HN.out]; rfl⟩)
          have HCL := Lib.hid hcl
          clear hkn hmt hA hA2 ho y0 y1 hcl
          go_wp2_with (fail)
          go_ret2
          rw [HZ.out.1, HZ.out.2, HCL.out]
          exact ⟨_, _, rfl, HP2.out.1.mono (by omega) (Nat.le_refl _), hbe⟩
    · have hl1 : ((xs.length : Int) != (ys.length : Int)) = true := by simp; omega
      have HN := Lib.hid (show matchL (pa, xs) (pf, ys) bs = none from matchL_len hl)
      have HZ := Lib.hid (show R = [] ∧ ok = false from ⟨by rw [HO.out.1, HN.out]; rfl, by rw [HO.out.2, HN.out]; rfl⟩)
      clear hA hA2 hl
      go_enter Try.func131, Try.ntmps131
      go_wp2_with (fail)
      go_ret2
      rw [HZ.out.1, HZ.out.2]
      exact ⟨none, 0, rfl, zeroI _ _ _, below2 _ _ _⟩
  · have hpb : (pa != pf) = true := by simp [hp]
    have HN := Lib.hid (show matchL (pa, xs) (pf, ys) bs = none from matchL_pred hp)
    have HZ := Lib.hid (show R = [] ∧ ok = false from ⟨by rw [HO.out.1, HN.out]; rfl, by rw [HO.out.2, HN.out]; rfl⟩)
    clear hA hA2 hp
    go_enter Try.func131, Try.ntmps131
    go_wp2_with (fail)
    go_ret2
    rw [HZ.out.1, HZ.out.2]
    exact ⟨none, 0, rfl, zeroI _ _ _, below2 _ _ _⟩

end Go.Proofs.Ytocpfmbieedpgaa
/-
  The order of facts: its plain mathematics, and the walks of cmp.Compare, cmp.Or, slices.Compare, the specification's l1Way.
-/
namespace Go.Proofs.Ytocpfmbieedpgaa
open Go.RowKit

def cmpI (a b : Int) : Int := if a < b then -1 else if b < a then 1 else 0
def cmpL : List Int → List Int → Int
  | [], [] => 0
  | [], _ :: _ => -1
  | _ :: _, [] => 1
  | x :: xs, y :: ys => if x = y then cmpL xs ys else cmpI x y
def factOrder (f g : LFact) : Int := if f.1 = g.1 then cmpL f.2 g.2 else cmpI f.1 g.1

theorem cmpL_at {xs ys : List Int} {k : Nat} (h1 : k < xs.length) (h2 : k < ys.length) : cmpL (xs.drop k) (ys.drop k) = if xs[k] = ys[k] then cmpL (xs.drop (k + 1)) (ys.drop (k + 1)) else cmpI xs[k] ys[k] := by
  rw [List.drop_eq_getElem_cons h1, List.drop_eq_getElem_cons h2]
  rfl
theorem cmpL_long {xs ys : List Int} {k : Nat} (h1 : k < xs.length) (h2 : ys.length ≤ k) : cmpL (xs.drop k) (ys.drop k) = 1 := by
  rw [List.drop_eq_getElem_cons h1, List.drop_eq_nil_of_le h2]
  rfl
theorem cmpL_short {xs ys : List Int} {k : Nat} (h1 : xs.length ≤ k) (h2 : k < ys.length) : cmpL (xs.drop k) (ys.drop k) = -1 := by
  rw [List.drop_eq_nil_of_le h1, List.drop_eq_getElem_cons h2]
  rfl
theorem cmpL_end {xs ys : List Int} {k : Nat} (h1 : xs.length ≤ k) (h2 : ys.length ≤ k) : cmpL (xs.drop k) (ys.drop k) = 0 := by
  rw [List.drop_eq_nil_of_le h1, List.drop_eq_nil_of_le h2]
  rfl
theorem cmpI_ne {a b : Int} (h : a ≠ b) : cmpI a b ≠ 0 := by
  unfold cmpI
  split
  · omega
  · split <;> omega
theorem cmpI_zero {a b : Int} (h : cmpI a b = 0) : a = b := by
  unfold cmpI at h
  split at h
  · omega
  · split at h <;> omega
theorem cmpI_self (a : Int) : cmpI a a = 0 := by simp [cmpI]
/-- 'the first k of both are the same', as the order has it. -/
def CmpTo (xs ys : List Int) (k : Nat) : Prop := cmpL xs ys = cmpL (xs.drop k) (ys.drop k)

theorem isNaN_any (a : Int) (w : World) : Calls Try.prog 151 #[.int .i64 a] w fun e w' => e = .returned (.bool false) ∧ w = w' := by
  have h : (a != a) = false := by simp
  go_enter Try.func151, Try.ntmps151
  go_wp2_with (fail)
  go_ret
  exact ⟨rfl, rfl⟩

set_option maxHeartbeats 400000 in
theorem cmpCompare_any (a b : Int) (w : World) : Calls Try.prog 134 #[.int .i64 a, .int .i64 b] w fun e w' => e = .returned (.int .i64 (cmpI a b)) ∧ w = w' := by
  by_cases h1 : a < b
  · have HE := Lib.hid (show cmpI a b = -1 by simp [cmpI, h1])
    go_enter Try.func134, Try.ntmps134
    go_wp2_with (go_at_call 151; refine (isNaN_any _ _).mono ?_; rintro e w' ⟨rfl, rfl⟩)
    go_ret
    exact ⟨ret_int HE.out.symm, rfl⟩
  · by_cases h2 : b < a
    · have HE := Lib.hid (show cmpI a b = 1 by simp [cmpI, h1, h2])
      go_enter Try.func134, Try.ntmps134
      go_wp2_with (go_at_call 151; refine (isNaN_any _ _).mono ?_; rintro e w' ⟨rfl, rfl⟩)
      go_ret
      exact ⟨ret_int HE.out.symm, rfl⟩
    · have HE := Lib.hid (show cmpI a b = 0 by simp [cmpI, h1, h2])
      go_enter Try.func134, Try.ntmps134
      go_wp2_with (go_at_call 151; refine (isNaN_any _ _).mono ?_; rintro e w' ⟨rfl, rfl⟩)
      go_ret
      exact ⟨ret_int HE.out.symm, rfl⟩

theorem l1Way_any (a b : Int) (w : World) : Calls Try.prog 127 #[.int .i64 a, .int .i64 b] w fun e w' => e = .returned (.int .i64 (cmpI a b)) ∧ w = w' := by
  by_cases h1 : a < b
  · have HE := Lib.hid (show cmpI a b = -1 by simp [cmpI, h1])
    go_enter Try.func127, Try.ntmps127
    go_wp2_with (fail)
    go_ret
    exact ⟨ret_int HE.out.symm, rfl⟩
  · by_cases h2 : b < a
    · have HE := Lib.hid (show cmpI a b = 1 by simp [cmpI, h1, h2])
      go_enter Try.func127, Try.ntmps127
      go_wp2_with (fail)
      go_ret
      exact ⟨ret_int HE.out.symm, rfl⟩
    · have HE := Lib.hid (show cmpI a b = 0 by simp [cmpI, h1, h2])
      go_enter Try.func127, Try.ntmps127
      go_wp2_with (fail)
      go_ret
      exact ⟨ret_int HE.out.symm, rfl⟩

set_option maxHeartbeats 400000 in
theorem slicesCompare_any (va vb : Value) (xs ys : List Int) (w : World) (ha : RdInts w w.heap.size va xs) (hb : RdInts w w.heap.size vb ys) (hr : xs.length * 8 ≤ 140737488351232) (hr2 : ys.length * 8 ≤ 140737488351232) :
    Calls Try.prog 135 #[va, vb] w fun e w' => e = .returned (.int .i64 (cmpL xs ys)) ∧ w = w' := by
  obtain ⟨A, c, rfl, hc, ha⟩ := ha
  obtain ⟨A2, c2, rfl, hc2, hb⟩ := hb
  go_enter Try.func135, Try.ntmps135
  go_wp2_with (fail)
  go_loop [5, 6, 7, 8, 11] (fun _ _ _ _ i => ∃ k : Nat, k ≤ xs.length ∧ i = .int .i64 k ∧ (0 < k → k ≤ ys.length) ∧ CmpTo xs ys k) (fun _ _ _ _ i => xs.length - (intOf i).toNat)
  case atStart => exact ⟨0, Nat.zero_le _, rfl, fun h => absurd h (by omega), rfl⟩
  case round =>
    obtain ⟨k, hk, rfl, hky, hs⟩ := hrel
    by_cases hlt : k < xs.length
    · obtain ⟨b, o, rfl, hbB, hx⟩ := ha (by omega)
      have hck := hx k hlt
      by_cases hlt2 : k < ys.length
      · obtain ⟨b2, o2, rfl, hbB2, hx2⟩ := hb (by omega)
        have hck2 := hx2 k hlt2
        have hge : ¬ ys.length ≤ k := by omega
        clear hx hx2 ha hb
        by_cases he : xs[k] = ys[k]
        · have HS := Lib.hid (show CmpTo xs ys (k + 1) by unfold CmpTo at hs ⊢; rw [hs, cmpL_at hlt hlt2, if_pos he])
          have h0 : (cmpI xs[k] ys[k] != 0) = false := by rw [he, cmpI_self]; rfl
          clear he hs hky
          go_wp2_with (go_at_call 134; refine (cmpCompare_any _ _ _).mono ?_; rintro e w' ⟨rfl, rfl⟩)
          go_round
          case rel => exact ⟨k + 1, by omega, by go_num, fun _ => by omega, HS.out⟩
          case measure => simp [intOf]; omega
        · have HS := Lib.hid (show cmpL xs ys = cmpI xs[k] ys[k] by unfold CmpTo at hs; rw [hs, cmpL_at hlt hlt2, if_neg he])
          have h0 : (cmpI xs[k] ys[k] != 0) = true := by simp [cmpI_ne he]
          clear he hs hky
          go_wp2_with (go_at_call 134; refine (cmpCompare_any _ _ _).mono ?_; rintro e w' ⟨rfl, rfl⟩)
          go_ret
          exact ⟨ret_int HS.out.symm, rfl⟩
      · have HS := Lib.hid (show cmpL xs ys = 1 by unfold CmpTo at hs; rw [hs, cmpL_long hlt (by omega)])
        have hge : ys.length ≤ k := by omega
        clear hs hky hx ha hb
        go_wp2_with (fail)
        go_ret
        exact ⟨ret_int HS.out.symm, rfl⟩
    · have hkn : xs.length = k := by omega
      by_cases hlt2 : xs.length < ys.length
      · have HS := Lib.hid (show cmpL xs ys = -1 by unfold CmpTo at hs; rw [hs, cmpL_short (by omega) (by omega)])
        clear hs hky hkn ha hb
        go_wp2_with (fail)
        go_ret
        exact ⟨ret_int HS.out.symm, rfl⟩
      · have HS := Lib.hid (show cmpL xs ys = 0 by
          unfold CmpTo at hs
          rcases Nat.eq_zero_or_pos k with h0 | h0
          · rw [hs, cmpL_end (by omega) (by omega)]
          · rw [hs, cmpL_end (by omega) (by have := hky h0; omega)])
        clear hs hky hkn ha hb
        go_wp2_with (fail)
        go_ret
        exact ⟨ret_int HS.out.symm, rfl⟩

end Go.Proofs.Ytocpfmbieedpgaa
/-
  The walks of FactOrder: the program's (with cmp.Or) and the specification's.
-/
namespace Go.Proofs.Ytocpfmbieedpgaa
open Go.RowKit

def orI (a b : Int) : Int := if a = 0 then b else a

set_option maxHeartbeats 400000 in
theorem cmpOr_any (v : Value) (a b : Int) (w : World) (h : RdInts w w.heap.size v [a, b]) :
    Calls Try.prog 133 #[v] w fun e w' => e = .returned (.int .i64 (orI a b)) ∧ w = w' := by
  obtain ⟨A, c, rfl, hc, ha⟩ := h
  obtain ⟨bb, o, rfl, hbB, hx⟩ := ha (by simp)
  have h0 : w.cell? ⟨bb, o, none⟩ = some (.int .i64 a) := by simpa using hx 0 (by simp)
  have h1 : w.cell? ⟨bb, o + 1, none⟩ = some (.int .i64 b) := by simpa using hx 1 (by simp)
  clear hx ha
  have hll : ([a, b] : List Int).length = 2 := rfl
  rw [hll]
  go_enter Try.func133, Try.ntmps133
  go_wp2_with (fail)
  go_loop [5, 8] (fun _ i => ∃ k : Nat, k ≤ 2 ∧ i = .int .i64 k ∧ (0 < k → a = 0) ∧ (1 < k → b = 0)) (fun _ i => 2 - (intOf i).toNat)
  case atStart => exact ⟨0, by omega, rfl, fun h => absurd h (by omega), fun h => absurd h (by omega)⟩
  case round =>
    obtain ⟨k, hk, rfl, hk0, hk1⟩ := hrel
    match k, hk with
    | 0, _ =>
      clear hk0 hk1
      by_cases ha0 : a = 0
      · subst ha0
        go_wp2_with (fail)
        go_round
        case rel => exact ⟨1, by omega, rfl, by simp, fun h => absurd h (by omega)⟩
        case measure => simp [intOf]
      · have hb : (a != 0) = true := by simpa using ha0
        have HE := Lib.hid (show orI a b = a by simp [orI, ha0])
        clear ha0
        go_wp2_with (fail)
        go_ret
        exact ⟨ret_int HE.out.symm, rfl⟩
    | 1, _ =>
      have ha0 := hk0 (by omega)
      clear hk0 hk1
      subst ha0
      by_cases hb0 : b = 0
      · subst hb0
        go_wp2_with (fail)
        go_round
        case rel => exact ⟨2, by omega, rfl, by simp, by simp⟩
        case measure => simp [intOf]
      · have hb : (b != 0) = true := by simpa using hb0
        have HE := Lib.hid (show orI 0 b = b by simp [orI])
        clear hb0
        go_wp2_with (fail)
        go_ret
        exact ⟨ret_int HE.out.symm, rfl⟩
    | 2, _ =>
      have ha0 := hk0 (by omega)
      have hb0 := hk1 (by omega)
      clear hk0 hk1
      subst ha0
      subst hb0
      go_wp2_with (fail)
      go_ret
      exact ⟨ret_int rfl, rfl⟩

theorem factOrder_or (f g : LFact) : orI (cmpI f.1 g.1) (cmpL f.2 g.2) = factOrder f g := by
  unfold orI factOrder
  by_cases h : f.1 = g.1
  · rw [if_pos h, h, cmpI_self, if_pos rfl]
  · rw [if_neg h, if_neg (cmpI_ne h)]

set_option maxHeartbeats 400000 in
set_option maxRecDepth 100000 in
theorem implFactOrder_any (v v2 : Value) (f g : LFact) (w : World) (h : RdFact w w.heap.size v f) (h2 : RdFact w w.heap.size v2 g) (hn : f.2.length ≤ 1048576) (hn2 : g.2.length ≤ 1048576) :
    Calls Try.prog 115 #[v, v2] w fun e w' => e = .returned (.int .i64 (factOrder f g)) ∧ Below w.heap.size w w' := by
  obtain ⟨a, rfl, h⟩ := h
  have H := Lib.hid h
  obtain ⟨A, c, rfl, hc, _⟩ := h
  obtain ⟨a, rfl, h2⟩ := h2
  have H2 := Lib.hid h2
  obtain ⟨A2, c2, rfl, hc2, _⟩ := h2
  have HF := Lib.hid (factOrder_or f g)
  go_enter Try.func115, Try.ntmps115
  go_wp2_with (fail)
  obtain ⟨w1, hw1⟩ : ∃ w1, w1 = ((w.alloc (Obj.cells #[Value.int IntKind.i64 f.1, Value.slice A f.2.length c] 118)).alloc (Obj.cells #[Value.int IntKind.i64 g.1, Value.slice A2 g.2.length c2] 118)) := ⟨_, rfl⟩
  have B1 : Below w.heap.size w w1 := by rw [hw1]; exact below2 _ _ _
  have k0 : Blk w1 w.heap.size 118 #[.int .i64 f.1, .slice A f.2.length c] := by rw [hw1]; exact (Blk.new w _ _).alloc _
  have k1 : Blk w1 (w.heap.size + 1) 118 #[.int .i64 g.1, .slice A2 g.2.length c2] := by rw [hw1]; simpa using Blk.new (w.alloc (Obj.cells #[Value.int IntKind.i64 f.1, Value.slice A f.2.length c] 118)) 118 #[.int .i64 g.1, .slice A2 g.2.length c2]
  rw [← hw1]
  clear hw1
  have HS0 := Lib.hid (show ∀ W, Below w1.heap.size w1 W → (Below w1.heap.size w1 W ∧ W.cell? ⟨w.heap.size, 0, none⟩ = some (.int .i64 f.1) ∧ W.cell? ⟨w.heap.size, 1, none⟩ = some (.slice A f.2.length c) ∧ W.cell? ⟨w.heap.size + 1, 0, none⟩ = some (.int .i64 g.1) ∧ W.cell? ⟨w.heap.size + 1, 1, none⟩ = some (.slice A2 g.2.length c2)) from
    fun W hW => ⟨hW, (k0.below hW k0.lt).cell 0, (k0.below hW k0.lt).cell 1, (k1.below hW k1.lt).cell 0, (k1.below hW k1.lt).cell 1⟩)
  go_region_held3 (fun W => Below w1.heap.size w1 W ∧ W.cell? ⟨w.heap.size, 0, none⟩ = some (.int .i64 f.1) ∧ W.cell? ⟨w.heap.size, 1, none⟩ = some (.slice A f.2.length c) ∧ W.cell? ⟨w.heap.size + 1, 0, none⟩ = some (.int .i64 g.1) ∧ W.cell? ⟨w.heap.size + 1, 1, none⟩ = some (.slice A2 g.2.length c2))
    (first | assumption | exact HS0.out _ (Below.refl _ _) | exact HS0.out _ (below1 _ _).drew | exact HS0.out _ (Below.refl _ _).drew | exact HS0.out _ (bthen (And.left (by assumption)) (by assumption)) | (refine HS0.out _ ?_; go_goals; fail))
    (first
      | (go_at_call 134; refine (cmpCompare_any _ _ _).mono ?_; rintro e w' ⟨rfl, rfl⟩)
      | (go_at_call 135; refine (slicesCompare_any _ _ f.2 g.2 _ ?_ ?_ (by omega) (by omega)).mono ?_; exact H.out.on (bthen B1 (And.left (by assumption))); exact H2.out.on (bthen B1 (And.left (by assumption))); rintro e w' ⟨rfl, rfl⟩)
      | (go_at_call 133; refine (cmpOr_any _ (cmpI f.1 g.1) (cmpL f.2 g.2) _ ?_).mono ?_; exact rdInts_pair _ _ _; rintro e w' ⟨rfl, rfl⟩))
  all_goals
    go_wp2_with (fail)
    go_ret
    exact ⟨ret_int HF.out, bthen B1 (And.left (by assumption))⟩

end Go.Proofs.Ytocpfmbieedpgaa
/-
  The walk of the specification's FactOrder.
-/
namespace Go.Proofs.Ytocpfmbieedpgaa
open Go.RowKit

set_option maxHeartbeats 1000000 in
set_option maxRecDepth 100000 in
theorem specFactOrder_any (v v2 : Value) (f g : LFact) (w : World) (h : RdFact w w.heap.size v f) (h2 : RdFact w w.heap.size v2 g) (hn : f.2.length ≤ 1048576) (hn2 : g.2.length ≤ 1048576) :
    Calls Try.prog 111 #[v, v2] w fun e w' => e = .returned (.int .i64 (factOrder f g)) ∧ Below w.heap.size w w' := by
  obtain ⟨p, xs⟩ := f
  obtain ⟨q, ys⟩ := g
  obtain ⟨a, rfl, A, c, rfl, hc, ha⟩ := h
  obtain ⟨a, rfl, A2, c2, rfl, hc2, hb⟩ := h2
  simp only at ha hb hn hn2 hc hc2
  by_cases hp : p = q
  · subst hp
    have hpb : (p != p) = false := by simp
    have HE := Lib.hid (show factOrder (p, xs) (p, ys) = cmpL xs ys by simp [factOrder])
    go_enter Try.func111, Try.ntmps111
    go_wp2_with (fail)
    obtain ⟨w1, hw1⟩ : ∃ w1, w1 = ((w.alloc (Obj.cells #[Value.int IntKind.i64 p, Value.slice A xs.length c] 118)).alloc (Obj.cells #[Value.int IntKind.i64 p, Value.slice A2 ys.length c2] 118)) := ⟨_, rfl⟩
    have B1 : Below w.heap.size w w1 := by rw [hw1]; exact below2 _ _ _
    have k0 : Blk w1 w.heap.size 118 #[.int .i64 p, .slice A xs.length c] := by rw [hw1]; exact (Blk.new w _ _).alloc _
    have k1 : Blk w1 (w.heap.size + 1) 118 #[.int .i64 p, .slice A2 ys.length c2] := by rw [hw1]; simpa using Blk.new (w.alloc (Obj.cells #[Value.int IntKind.i64 p, Value.slice A xs.length c] 118)) 118 #[.int .i64 p, .slice A2 ys.length c2]
    rw [← hw1]
    clear hw1
    go_loopw [5] (fun i wr => ∃ k : Nat, k ≤ xs.length ∧ k ≤ ys.length ∧ i = .int .i64 k ∧ CmpTo xs ys k ∧ Below w1.heap.size w1 wr) (fun i _ => xs.length - (intOf i).toNat)
    case atStart => exact ⟨0, Nat.zero_le _, Nat.zero_le _, rfl, rfl, Below.refl _ _⟩
    case round =>
      obtain ⟨k, hk, hk2, rfl, hs, hbe⟩ := hrel
      have c0 : wr.cell? ⟨w.heap.size, 1, none⟩ = some (.slice A xs.length c) := (k0.below hbe k0.lt).cell 1
      have c1 : wr.cell? ⟨w.heap.size + 1, 1, none⟩ = some (.slice A2 ys.length c2) := (k1.below hbe k1.lt).cell 1
      by_cases hlt : k < xs.length
      · have hd : decide ((k : Int) < (xs.length : Int)) = true := by simp; omega
        by_cases hlt2 : k < ys.length
        · obtain ⟨b, o, rfl, hbB, hx⟩ := ha (by omega)
          obtain ⟨b2, o2, rfl, hbB2, hx2⟩ := hb (by omega)
          have hB := bthen B1 hbe
          have hck : wr.cell? ⟨b, o + k, none⟩ = some (.int .i64 xs[k]) := (hB.cell (p := ⟨b, o + k, none⟩) hbB).trans (hx k hlt)
          have hck2 : wr.cell? ⟨b2, o2 + k, none⟩ = some (.int .i64 ys[k]) := (hB.cell (p := ⟨b2, o2 + k, none⟩) hbB2).trans (hx2 k hlt2)
          clear hx hx2 ha hb hB
          by_cases he : xs[k] = ys[k]
          · have HS := Lib.hid (show CmpTo xs ys (k + 1) by unfold CmpTo at hs ⊢; rw [hs, cmpL_at hlt hlt2, if_pos he])
            have h0 : (xs[k] != ys[k]) = false := by simp [he]
            clear he hs
            go_wp2_with (fail)
            go_quiet (fail)
            go_wp2_with (fail)
            go_roundw
            case rel => exact ⟨k + 1, by omega, by omega, by go_num, HS.out, bdrewN hbe _⟩
            case measure => simp [intOf]; omega
          · have HS := Lib.hid (show cmpL xs ys = cmpI xs[k] ys[k] by unfold CmpTo at hs; rw [hs, cmpL_at hlt hlt2, if_neg he])
            have h0 : (xs[k] != ys[k]) = true := by simp [he]
            clear he hs
            go_wp2_with (fail)
            go_quiet (fail)
            go_wp2_with (fail)
            go_quiet ((go_at_call 127; exact quiet_add_left (l1Way_any _ _ _)))
            go_wp2_with (fail)
            go_ret
            exact ⟨ret_int (by rw [HE.out, HS.out]), bthen B1 (bdrewN (bdrewN hbe _) _)⟩
        · have HS := Lib.hid (show cmpL xs ys = cmpI xs.length ys.length by
            unfold CmpTo at hs
            rw [hs, cmpL_long hlt (by omega), cmpI, if_neg (by omega), if_pos (by omega)])
          clear hs ha hb
          go_wp2_with (go_at_call 127; refine (l1Way_any _ _ _).mono ?_; rintro e w' ⟨rfl, rfl⟩)
          go_ret
          exact ⟨ret_int (by rw [HE.out, HS.out]), bthen B1 hbe⟩
      · have hd : decide ((k : Int) < (xs.length : Int)) = false := by simp; omega
        have HS := Lib.hid (show cmpL xs ys = cmpI xs.length ys.length by
          unfold CmpTo at hs
          by_cases h3 : xs.length < ys.length
          · rw [hs, cmpL_short (by omega) (by omega), cmpI, if_pos (by omega)]
          · rw [hs, cmpL_end (by omega) (by omega), cmpI, if_neg (by omega), if_neg (by omega)])
        clear hs ha hb
        go_wp2_with (go_at_call 127; refine (l1Way_any _ _ _).mono ?_; rintro e w' ⟨rfl, rfl⟩)
        go_ret
        exact ⟨ret_int (by rw [HE.out, HS.out]), bthen B1 hbe⟩
  · have hpb : (p != q) = true := by simp [hp]
    have HE := Lib.hid (show factOrder (p, xs) (q, ys) = cmpI p q by simp [factOrder, hp])
    clear hp ha hb
    go_enter Try.func111, Try.ntmps111
    go_wp2_with (go_at_call 127; refine (l1Way_any _ _ _).mono ?_; rintro e w' ⟨rfl, rfl⟩)
    go_ret
    exact ⟨ret_int HE.out.symm, below2 _ _ _⟩

end Go.Proofs.Ytocpfmbieedpgaa
/-
  The walks of FactsHas: the program's and the specification's.
-/
namespace Go.Proofs.Ytocpfmbieedpgaa
open Go.RowKit

/-- One fact of a list, as a walk reads it. -/
theorem RdFacts.get {w : World} {B c : Nat} {A : Option Addr} {fs : List LFact} (h : RdFacts w B (.slice A fs.length c) fs) {k : Nat} (hk : k < fs.length) : ∃ b o A3 c3, A = some ⟨b, o, none⟩ ∧ b < B ∧
    w.cell? ⟨b, o + k * 2, none⟩ = some (.int .i64 fs[k].1) ∧ w.cell? ⟨b, o + k * 2 + 1, none⟩ = some (.slice A3 fs[k].2.length c3) ∧ RdInts w B (.slice A3 fs[k].2.length c3) fs[k].2 := by
  obtain ⟨A', c', e, hc, h⟩ := h
  injection e with e1 e2 e3
  subst e1
  obtain ⟨b, o, rfl, hb, hx⟩ := h (by omega)
  obtain ⟨a, h1, h2, h3⟩ := hx k hk
  have h4 := h3
  obtain ⟨A3, c3, rfl, _⟩ := h3
  exact ⟨b, o, A3, c3, rfl, hb, h1, h2, h4⟩

def factsHas (fs : List LFact) (f : LFact) : Bool := fs.any fun g => factOrder g f == 0
/-- 'none of the first k is the same'. -/
def HasNot (fs : List LFact) (f : LFact) (k : Nat) : Prop := factsHas (fs.take k) f = false
theorem HasNot.step {fs : List LFact} {f : LFact} {k : Nat} (h : HasNot fs f k) (hk : k < fs.length) (e : factOrder fs[k] f ≠ 0) : HasNot fs f (k + 1) := by
  unfold HasNot factsHas at h ⊢
  rw [take_snoc fs k hk, List.any_append, h]
  simp [e]
theorem HasNot.done {fs : List LFact} {f : LFact} (h : HasNot fs f fs.length) : factsHas fs f = false := by
  unfold HasNot at h
  rwa [List.take_length] at h
theorem has_yes {fs : List LFact} {f : LFact} {k : Nat} (hk : k < fs.length) (e : factOrder fs[k] f = 0) : factsHas fs f = true := by
  unfold factsHas
  rw [List.any_eq_true]
  exact ⟨fs[k], List.getElem_mem hk, by simp [e]⟩

set_option maxHeartbeats 1000000 in
set_option maxRecDepth 100000 in
theorem specFactsHas_any (v v2 : Value) (fs : List LFact) (f : LFact) (w : World) (h : RdFacts w w.heap.size v fs) (h2 : RdFact w w.heap.size v2 f) (hn : fs.length ≤ 1048576) (ht : tot fs ≤ 1048576) (hf : f.2.length ≤ 1048576) :
    Calls Try.prog 150 #[v, v2] w fun e w' => e = .returned (.bool (factsHas fs f)) ∧ Below w.heap.size w w' := by
  have H := Lib.hid h
  have H2 := Lib.hid h2
  obtain ⟨A, c, rfl, hc, _⟩ := h
  obtain ⟨a, rfl, A2, c2, rfl, hc2, _⟩ := h2
  go_enter Try.func150, Try.ntmps150
  go_wp2_with (fail)
  obtain ⟨w1, hw1⟩ : ∃ w1, w1 = (w.alloc (Obj.cells #[Value.int IntKind.i64 f.1, Value.slice A2 f.2.length c2] 118)) := ⟨_, rfl⟩
  have B1 : Below w.heap.size w w1 := by rw [hw1]; exact below1 _ _
  have k0 : Blk w1 w.heap.size 118 #[.int .i64 f.1, .slice A2 f.2.length c2] := by rw [hw1]; exact Blk.new w _ _
  rw [← hw1]
  clear hw1
  go_loopw [5] (fun i wr => ∃ k : Nat, k ≤ fs.length ∧ i = .int .i64 k ∧ HasNot fs f k ∧ Below w1.heap.size w1 wr) (fun i _ => fs.length - (intOf i).toNat)
  case atStart => exact ⟨0, Nat.zero_le _, rfl, by simp [HasNot, factsHas], Below.refl _ _⟩
  case round =>
    obtain ⟨k, hk, rfl, hs, hbe⟩ := hrel
    by_cases hlt : k < fs.length
    · have hB := bthen B1 hbe
      obtain ⟨b, o, A3, c3, rfl, hbB, k1, k2, k3⟩ := (H.out.on hB).get hlt
      have q0 : wr.cell? ⟨w.heap.size, 0, none⟩ = some (.int .i64 f.1) := (k0.below hbe k0.lt).cell 0
      have q1 : wr.cell? ⟨w.heap.size, 1, none⟩ = some (.slice A2 f.2.length c2) := (k0.below hbe k0.lt).cell 1
      have K3 := Lib.hid k3
      have hln := len_le_tot fs k hlt
      clear k3
      go_wp2_with (fail)
      go_still_tail 5, (by kernel_rfl)
      change wpList _ _ _ _ _ wr.drew
      obtain ⟨w2, hw2⟩ : ∃ w2, w2 = wr.drew := ⟨_, rfl⟩
      rw [← hw2]
      have hb2 : Below wr.heap.size wr w2 := by rw [hw2]; exact (Below.refl _ _).drew
      clear hw2
      go_wp2_with (fail)
      refine (specFactOrder_any _ _ fs[k] f _ ⟨_, rfl, K3.out.on hb2⟩ (H2.out.on (bthen hB hb2)) (by omega) hf).mono ?_
      rintro e w3 ⟨rfl, hb3⟩
      have hB3 := bthen (bthen hbe hb2) hb3
      by_cases he : factOrder fs[k] f = 0
      · have hz : (factOrder fs[k] f == 0) = true := by simp [he]
        have HS := Lib.hid (has_yes hlt he)
        clear he hs
        go_wp2_with (fail)
        go_ret
        exact ⟨ret_bool HS.out.symm, bthen B1 hB3⟩
      · have hz : (factOrder fs[k] f == 0) = false := by simp [he]
        have HS := Lib.hid (hs.step hlt he)
        clear he hs
        go_wp2_with (fail)
        go_roundw
        case rel => exact ⟨k + 1, by omega, by go_num, HS.out, hB3⟩
        case measure => simp [intOf]; omega
    · have hkn : k = fs.length := by omega
      have HS := Lib.hid (show factsHas fs f = false from HasNot.done (by rw [← hkn]; exact hs))
      clear hkn hs
      go_wp2_with (fail)
      go_ret
      exact ⟨ret_bool HS.out.symm, bthen B1 hbe⟩

end Go.Proofs.Ytocpfmbieedpgaa
