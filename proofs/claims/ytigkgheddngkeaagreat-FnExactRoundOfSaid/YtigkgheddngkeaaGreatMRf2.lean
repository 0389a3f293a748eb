/-
  Texts that the claim's last one imports, laid together: part 2 of 12. No condition of its own.
-/
import Derived.StillTailTactics
import Derived.Deep.QuietTactic
import Derived.BigQuiet
import Derived.Laws.BitsAllLaws
import Derived.Test.YtigkgheddngkeaaGreatMRf1
/-
  Rows of slices of integers: one that is read, one of the call's own; the relation of a loop that collects them.
-/
namespace Go.Proofs.YtigkgheddngkeaaGreat
open Go.RowKit

theorem Tryz.infoIntS : (Tryz.prog.info? 22).map (fun i => (i.zero, i.size, i.bytes)) = some (some (.slice none 0 0), 1, 24) := by kernel_rfl

/-- A row of slices of integers that is read. -/
def RdRows (w : World) (B : Nat) (v : Value) (xss : List (List Int)) : Prop :=
  ∃ A c, v = .slice A xss.length c ∧ xss.length ≤ c ∧ (0 < xss.length → ∃ b o, A = some ⟨b, o, none⟩ ∧ b < B ∧ ∀ k (h : k < xss.length), ∃ u, w.cell? ⟨b, o + k, none⟩ = some u ∧ RdInts w B u xss[k])
/-- A row of slices of integers in blocks from lo on and below hi; weak: two of them may share a block. -/
def WkRows (w : World) (lo hi : Nat) (v : Value) (xss : List (List Int)) : Prop :=
  ∃ av : List Value, (av.length = xss.length ∧ ∀ i (h : i < xss.length) (h' : i < av.length), OwnInts w lo hi av[i] xss[i]) ∧ w.ownsRow lo 22 1 v xss.length av ∧ ∀ g, v.ownBlock = some g → g < hi
/-- And no two share one. -/
def OwnRows (w : World) (lo hi : Nat) (v : Value) (xss : List (List Int)) : Prop :=
  ∃ av, OwnArgs w lo hi av xss ∧ w.ownsRow lo 22 1 v xss.length av ∧ ∀ g, v.ownBlock = some g → g < hi

section
variable {w w' : World} {lo hi lo' hi' B B' : Nat} {v : Value} {xss : List (List Int)}
theorem RdRows.below (h : RdRows w B v xss) (hb : Below B' w w') (hB : B ≤ B') : RdRows w' B v xss := by
  obtain ⟨A, c, rfl, hc, h⟩ := h
  refine ⟨A, c, rfl, hc, fun hn => ?_⟩
  obtain ⟨b, o, rfl, hlt, hk⟩ := h hn
  refine ⟨b, o, rfl, hlt, fun k hkl => ?_⟩
  obtain ⟨u, h1, h2⟩ := hk k hkl
  exact ⟨u, (hb.cell (p := ⟨b, o + k, none⟩) (by show b < B'; omega)).trans h1, h2.below hb hB⟩
theorem RdRows.more (h : RdRows w B v xss) (hB : B ≤ B') : RdRows w B' v xss := by
  obtain ⟨A, c, rfl, hc, h⟩ := h
  refine ⟨A, c, rfl, hc, fun hn => ?_⟩
  obtain ⟨b, o, rfl, hlt, hk⟩ := h hn
  refine ⟨b, o, rfl, by omega, fun k hkl => ?_⟩
  obtain ⟨u, h1, h2⟩ := hk k hkl
  exact ⟨u, h1, h2.more hB⟩
theorem RdRows.on (h : RdRows w w.heap.size v xss) (hb : Below w.heap.size w w') : RdRows w' w'.heap.size v xss := (h.below hb (Nat.le_refl _)).more hb.size
theorem RdRows.get {A : Option Addr} {c : Nat} (h : RdRows w B (.slice A xss.length c) xss) {k : Nat} (hk : k < xss.length) :
    ∃ b o A2 c2, A = some ⟨b, o, none⟩ ∧ b < B ∧ w.cell? ⟨b, o + k, none⟩ = some (.slice A2 xss[k].length c2) ∧ RdInts w B (.slice A2 xss[k].length c2) xss[k] := by
  obtain ⟨A', c', e, _, h⟩ := h
  injection e with e1 _ _
  subst e1
  obtain ⟨b, o, rfl, hb, hx⟩ := h (by omega)
  obtain ⟨u, h1, h2⟩ := hx k hk
  have h3 := h2
  obtain ⟨A2, c2, rfl, _⟩ := h2
  exact ⟨b, o, A2, c2, rfl, hb, h1, h3⟩
theorem OwnRows.weak (h : OwnRows w lo hi v xss) : WkRows w lo hi v xss := by
  obtain ⟨av, h1, h2, h3⟩ := h
  exact ⟨av, ⟨h1.len, h1.own⟩, h2, h3⟩
theorem WkRows.form (h : WkRows w lo hi v xss) : ∃ A c, v = .slice A xss.length c := by
  obtain ⟨_, _, h, _⟩ := h
  rcases h.2 with ⟨rfl, h0⟩ | ⟨g, cap, _, rfl, _⟩
  · exact ⟨none, 0, by rw [h0]⟩
  · exact ⟨_, _, rfl⟩
theorem WkRows.below (h : WkRows w lo hi v xss) (hb : Below B w w') (hB : hi ≤ B) : WkRows w' lo hi v xss := by
  obtain ⟨av, ⟨h0, h1⟩, h2, h3⟩ := h
  exact ⟨av, ⟨h0, fun i a b => (h1 i a b).below hb hB⟩, ownsRow_below h2 h3 hb hB, h3⟩
theorem WkRows.mono (h : WkRows w lo hi v xss) (h1 : lo' ≤ lo) (h2 : hi ≤ hi') : WkRows w lo' hi' v xss := by
  obtain ⟨av, ⟨h0, ha⟩, hr, hlt⟩ := h
  exact ⟨av, ⟨h0, fun i a b => (ha i a b).mono h1 h2⟩, ownsRow_mono hr h1, fun g hg => by have := hlt g hg; omega⟩
theorem WkRows.only (h : WkRows w lo hi v xss) (ho : Only lo' hi' w w') (hd : hi ≤ lo' ∨ hi' ≤ lo) : WkRows w' lo hi v xss := by
  obtain ⟨av, ⟨h0, ha⟩, hr, hlt⟩ := h
  exact ⟨av, ⟨h0, fun i a b => (ha i a b).only ho hd⟩, ownsRow_only hr fun g hg => ho.block g (hr.lt g hg).2 (by have := hr.lt g hg; have := hlt g hg; omega), hlt⟩
theorem WkRows.rd (h : WkRows w lo hi v xss) : RdRows w hi v xss := by
  obtain ⟨av, ⟨h0, ha⟩, hr, hlt⟩ := h
  have hcells := @World.ownsRow.cells w lo 22 1 v xss.length av hr
  obtain ⟨hlen, hr⟩ := hr
  rcases hr with ⟨rfl, e0⟩ | ⟨g, cap, cur, rfl, hb, hg, hn, hm, hs, ht⟩
  · have : xss = [] := List.eq_nil_of_length_eq_zero e0
    subst this
    exact ⟨none, 0, rfl, by simp, fun h => absurd h (by simp)⟩
  · refine ⟨_, cap, rfl, hn, fun _ => ⟨g, 0, rfl, hlt g rfl, fun k hk => ⟨av[k]'(by omega), ?_, (ha k hk (by omega)).rd⟩⟩⟩
    have := hcells (g := g) rfl k (av[k]'(by omega)) (by simp [show k < av.length by omega])
    rwa [Go.WideShapes.add_plain] at this
theorem OwnRows.below (h : OwnRows w lo hi v xss) (hb : Below B w w') (hB : hi ≤ B) : OwnRows w' lo hi v xss := by
  obtain ⟨av, h1, h2, h3⟩ := h
  exact ⟨av, h1.below hb hB, ownsRow_below h2 h3 hb hB, h3⟩
theorem OwnRows.mono (h : OwnRows w lo hi v xss) (h1 : lo' ≤ lo) (h2 : hi ≤ hi') : OwnRows w lo' hi' v xss := by
  obtain ⟨av, ha, hr, hlt⟩ := h
  exact ⟨av, ha.mono h1 h2, ownsRow_mono hr h1, fun g hg => by have := hlt g hg; omega⟩
theorem OwnRows.only (h : OwnRows w lo hi v xss) (ho : Only lo' hi' w w') (hd : hi ≤ lo' ∨ hi' ≤ lo) : OwnRows w' lo hi v xss := by
  obtain ⟨av, ha, hr, hlt⟩ := h
  exact ⟨av, ⟨ha.len, fun i a b => (ha.own i a b).only ho hd, ha.apart⟩, ownsRow_only hr fun g hg => ho.block g (hr.lt g hg).2 (by have := hr.lt g hg; have := hlt g hg; omega), hlt⟩
theorem OwnRows.rd (h : OwnRows w lo hi v xss) : RdRows w hi v xss := h.weak.rd
theorem OwnRows.form (h : OwnRows w lo hi v xss) : ∃ A c, v = .slice A xss.length c := h.weak.form
end

/-- The block of a row of integers is no block of a row of slices. -/
theorem rowsI_ne {w : World} {lo hi lo' g : Nat} {n : Nat} {v a : Value} {zs : List Value} {xs : List Int} (hr : w.ownsRow lo' 22 1 v n zs) (hv : v.ownBlock = some g) (ha : OwnInts w lo hi a xs) : a.ownBlock ≠ some g := by
  rcases hr.2 with ⟨rfl, _⟩ | ⟨g1, c1, cur1, rfl, _, h1, _⟩
  · cases hv
  · have e : g1 = g := by simpa [Value.ownBlock] using hv
    subst e
    exact blk_ne_row ha.1 (show Blk w g1 22 cur1 from h1) (by decide)

theorem WkRows.get {w : World} {lo hi c : Nat} {A : Option Addr} {xss : List (List Int)} (h : WkRows w lo hi (.slice A xss.length c) xss) {k : Nat} (hk : k < xss.length) :
    ∃ g A2 c2, A = some ⟨g, 0, none⟩ ∧ g < w.heap.size ∧ w.cell? ⟨g, k, none⟩ = some (.slice A2 xss[k].length c2) ∧ OwnInts w lo hi (.slice A2 xss[k].length c2) xss[k] := by
  obtain ⟨av, ⟨h0, ha⟩, hr, hlt⟩ := h
  have hcells := @World.ownsRow.cells w lo 22 1 _ xss.length av hr
  obtain ⟨hlen, hr2⟩ := hr
  rcases hr2 with ⟨e, e0⟩ | ⟨g, cap, cur, e, hb, hg, _⟩
  · omega
  · injection e with e1 _ _
    subst e1
    have h1 := ha k hk (by omega)
    obtain ⟨A2, c2, e2⟩ := h1.form
    have := hcells (g := g) rfl k (av[k]'(by omega)) (by simp [show k < av.length by omega])
    rw [Go.WideShapes.add_plain, Nat.zero_add, e2] at this
    exact ⟨g, A2, c2, rfl, Blk.lt hg, this, e2 ▸ h1⟩

/-- The relation of a loop that collects slices of integers: these lie from lo on, the row is new. -/
structure ColS (lo : Nat) (w wr : World) (xss : List (List Int)) (A : Option Addr) (c : Nat) (av : List Value) : Prop where
  below : Below w.heap.size w wr
  len : av.length = xss.length
  inn : ∀ i (h : i < xss.length) (h' : i < av.length), OwnInts wr lo wr.heap.size av[i] xss[i]
  row : wr.ownsRow w.heap.size 22 1 (.slice A xss.length c) xss.length av
theorem ColS.empty {lo : Nat} {w wr : World} (hb : Below w.heap.size w wr) : ColS lo w (wr.alloc (.cells #[] 22)) [] (some ⟨wr.heap.size, 0, none⟩) 0 [] :=
  ⟨hb.alloc hb.size _, rfl, fun i h => absurd h (by simp), World.ownsRow_made wr #[] 0 hb.size (by decide) rfl⟩
theorem ColS.on {lo : Nat} {w wr w2 : World} {xss : List (List Int)} {A : Option Addr} {c : Nat} {av : List Value} (h : ColS lo w wr xss A c av) (hb : Below wr.heap.size wr w2) : ColS lo w w2 xss A c av :=
  ⟨bthen h.below hb, h.len, fun i a b => ((h.inn i a b).below hb (Nat.le_refl _)).mono (Nat.le_refl _) hb.size, ownsRow_below h.row (fun g hg => (h.row.lt g hg).2) hb (Nat.le_refl _)⟩
theorem ColS.rows {lo : Nat} {w wr : World} {xss : List (List Int)} {A : Option Addr} {c : Nat} {av : List Value} (h : ColS lo w wr xss A c av) (hl : lo ≤ w.heap.size) : WkRows wr lo wr.heap.size (.slice A xss.length c) xss :=
  ⟨av, ⟨h.len, h.inn⟩, ownsRow_mono h.row hl, fun g hg => (h.row.lt g hg).2⟩
theorem ColS.push {lo : Nat} {w wr w2 w4 : World} {xss xss' : List (List Int)} {A : Option Addr} {c g cap : Nat} {xs : List Int} {u : Value} {o : Obj} {av : List Value} (h : ColS lo w wr xss A c av) (e : xss' = xss ++ [xs]) (hb : Below wr.heap.size wr w2) (hu : OwnInts w2 lo w2.heap.size u xs)
    (hg : (w2.alloc o).grownBy w4 (Value.slice A xss.length c).ownBlock) (hown : w4.ownsRow w.heap.size 22 1 (.slice (some ⟨g, 0, none⟩) (xss.length + 1) cap) (xss.length + 1) (av ++ [u])) :
    ColS lo w w4 xss' (some ⟨g, 0, none⟩) cap (av ++ [u]) ∧ xss.length + 1 = xss'.length := by
  subst e
  have h2 := h.on hb
  have hg' := grown_from_alloc hg
  have hl : (xss ++ [xs]).length = xss.length + 1 := by simp
  refine ⟨⟨(h2.below.alloc h2.below.size _).grown hg (by have := h2.below.size; simp; omega) (fun k hk => (h2.row.lt k hk).1), by simp [h.len], fun i h1 h3 => ?_, by rw [hl]; exact hown⟩, hl.symm⟩
  have keep : ∀ {a : Value} {ys : List Int}, OwnInts w2 lo w2.heap.size a ys → OwnInts w4 lo w4.heap.size a ys := fun {a ys} h0 =>
    (h0.kept fun b hbk => hg'.block b (h0.lt hbk).2.2 (fun e => rowsI_ne h2.row e.symm h0 hbk)).mono (Nat.le_refl _) hg'.size
  by_cases e : i < xss.length
  · rw [List.getElem_append_left (by rw [h.len]; exact e), List.getElem_append_left e]
    exact keep (h2.inn i e (by rw [h.len]; exact e))
  · have e2 : i = xss.length := by simp at h1; omega
    subst e2
    have := h.len
    simp [← this]
    exact keep hu

end Go.Proofs.YtigkgheddngkeaaGreat
/-
  Rows of slices of facts: the call's own, each of its lists in an interval of blocks of its own.
-/
namespace Go.Proofs.YtigkgheddngkeaaGreat
open Go.RowKit

theorem Tryz.infoFactS : (Tryz.prog.info? 37).map (fun i => (i.zero, i.size, i.bytes)) = some (some (.slice none 0 0), 1, 24) := by kernel_rfl

/-- A row of slices of facts; list i lies in [P i, Q i), and the row's own block in none of these. -/
structure FFAt (w : World) (lo hi : Nat) (v : Value) (hv : List Value) (FF : List (List LFact)) (P Q : Nat → Nat) : Prop where
  row : w.ownsRow lo 37 1 v FF.length hv
  lt : ∀ g, v.ownBlock = some g → g < hi
  own : ∀ i (h : i < FF.length) (h' : i < hv.length), lo ≤ P i ∧ (P i ≤ Q i ∧ Q i ≤ hi) ∧ OwnFacts w (P i) (Q i) hv[i] FF[i] ∧ ∀ g, v.ownBlock = some g → g < P i ∨ Q i ≤ g
  ord : ∀ i j, i < j → j < FF.length → Q i ≤ P j
def OwnFF (w : World) (lo hi : Nat) (v : Value) (FF : List (List LFact)) : Prop := ∃ hv P Q, FFAt w lo hi v hv FF P Q
section
variable {w w' : World} {lo hi lo' hi' B : Nat} {v v' : Value} {hv : List Value} {FF : List (List LFact)} {F : List LFact} {P Q : Nat → Nat}
theorem FFAt.len (h : FFAt w lo hi v hv FF P Q) : hv.length = FF.length := by have := h.row.1; omega
theorem FFAt.form (h : FFAt w lo hi v hv FF P Q) : ∃ A c, v = .slice A FF.length c := by
  rcases h.row.2 with ⟨rfl, h0⟩ | ⟨g, cap, _, rfl, _⟩
  · exact ⟨none, 0, by rw [h0]⟩
  · exact ⟨_, _, rfl⟩
theorem FFAt.below (h : FFAt w lo hi v hv FF P Q) (hb : Below B w w') (hB : hi ≤ B) : FFAt w' lo hi v hv FF P Q :=
  ⟨ownsRow_below h.row h.lt hb hB, h.lt, fun i a b => by
    obtain ⟨h1, h2, h3, h4⟩ := h.own i a b
    exact ⟨h1, h2, h3.below hb (by omega), h4⟩, h.ord⟩
theorem FFAt.mono (h : FFAt w lo hi v hv FF P Q) (h1 : lo' ≤ lo) (h2 : hi ≤ hi') : FFAt w lo' hi' v hv FF P Q :=
  ⟨ownsRow_mono h.row h1, fun g hg => by have := h.lt g hg; omega, fun i a b => by
    obtain ⟨g1, g2, g3, g4⟩ := h.own i a b
    exact ⟨by omega, ⟨g2.1, by omega⟩, g3, g4⟩, h.ord⟩
theorem OwnFF.form (h : OwnFF w lo hi v FF) : ∃ A c, v = .slice A FF.length c := by
  obtain ⟨_, _, _, h⟩ := h
  exact h.form
theorem OwnFF.below (h : OwnFF w lo hi v FF) (hb : Below B w w') (hB : hi ≤ B) : OwnFF w' lo hi v FF := by
  obtain ⟨hv, P, Q, h⟩ := h
  exact ⟨hv, P, Q, h.below hb hB⟩
theorem OwnFF.mono (h : OwnFF w lo hi v FF) (h1 : lo' ≤ lo) (h2 : hi ≤ hi') : OwnFF w lo' hi' v FF := by
  obtain ⟨hv, P, Q, h⟩ := h
  exact ⟨hv, P, Q, h.mono h1 h2⟩
theorem OwnFacts.rdS {w : World} {lo hi : Nat} {v : Value} {fs : List LFact} (h : OwnFacts w lo hi v fs) : RdFacts w w.heap.size v fs := by
  obtain ⟨av, ha, hr, hlt⟩ := h
  exact (show OwnFacts w lo w.heap.size v fs from ⟨av, ⟨ha.len, fun i a b => ⟨(ha.own i a b).1, fun g hg => ((ha.own i a b).1.lt g hg).2⟩, ha.apart⟩, hr, fun g hg => (hr.lt g hg).2⟩).rd
/-- The header of list k. -/
theorem FFAt.get {A : Option Addr} {c : Nat} (h : FFAt w lo hi (.slice A FF.length c) hv FF P Q) {k : Nat} (hk : k < FF.length) :
    ∃ g A2 c2, A = some ⟨g, 0, none⟩ ∧ g < w.heap.size ∧ lo ≤ g ∧ w.cell? ⟨g, k, none⟩ = some (.slice A2 FF[k].length c2) ∧ OwnFacts w (P k) (Q k) (.slice A2 FF[k].length c2) FF[k] ∧ (g < P k ∨ Q k ≤ g) ∧ hv[k]? = some (.slice A2 FF[k].length c2) := by
  have hl := h.len
  have hcells := @World.ownsRow.cells w lo 37 1 _ FF.length hv h.row
  obtain ⟨hlen, hr2⟩ := h.row
  rcases hr2 with ⟨e, e0⟩ | ⟨g, cap, cur, e, hb, hg, _⟩
  · omega
  · injection e with e1 _ _
    subst e1
    obtain ⟨h1, h2, h3, h4⟩ := h.own k hk (by omega)
    obtain ⟨A2, c2, e2⟩ := h3.form
    have := hcells (g := g) rfl k (hv[k]'(by omega)) (by simp [show k < hv.length by omega])
    rw [Go.WideShapes.add_plain, Nat.zero_add, e2] at this
    exact ⟨g, A2, c2, rfl, Blk.lt hg, hb, this, e2 ▸ h3, h4 g rfl, by rw [← e2]; simp [show k < hv.length by omega]⟩
/-- One list more; what lies apart from the row stays. -/
theorem FFAt.push {w2 w4 : World} {a m : Nat} {u : Value} {o : Obj} (h : FFAt w2 lo hi v hv FF P Q) (hu : OwnFacts w2 a m u F) (ha : hi ≤ a) (hla : lo ≤ a) (ham : a ≤ m) (hm : m ≤ w2.heap.size)
    (hg : (w2.alloc o).grownBy w4 v.ownBlock) (hown : w4.ownsRow lo 37 1 v' (FF.length + 1) (hv ++ [u])) (hat : v'.ownBlock = v.ownBlock ∨ ∀ b, v'.ownBlock = some b → w2.heap.size ≤ b) :
    (∃ P' Q', FFAt w4 lo w4.heap.size v' (hv ++ [u]) (FF ++ [F]) P' Q') ∧ OwnFacts w4 a m u F := by
  have hg' := grown_from_alloc hg
  have hlen := h.len
  have hs4 := hg'.size
  have keep : ∀ {p q : Nat} {x : Value} {G : List LFact}, OwnFacts w2 p q x G → (∀ b, v.ownBlock = some b → b < p ∨ q ≤ b) → OwnFacts w4 p q x G := fun {p q x G} h0 hne => by
    obtain ⟨av, g1, g2, g3⟩ := h0
    refine ⟨av, ⟨g1.len, fun i a b => ?_, g1.apart⟩, ownsRow_only g2 fun b hb' => hg'.block b (g2.lt b hb').2 (fun e => by have := hne b e.symm; have := (g2.lt b hb').1; have := g3 b hb'; omega), g3⟩
    have h1 := g1.own i a b
    exact h1.kept fun b hb' => hg'.block b (h1.lt hb').2.2 (fun e => by have := hne b e.symm; have := h1.lt hb'; omega)
  have hvb : ∀ b, v.ownBlock = some b → b < a := fun b hb' => by have := h.lt b hb'; omega
  have hnew : OwnFacts w4 a m u F := keep hu fun b hb' => .inl (hvb b hb')
  refine ⟨⟨fun i => if i < FF.length then P i else a, fun i => if i < FF.length then Q i else m, ⟨by rw [List.length_append]; exact hown, fun g hg2 => (hown.lt g hg2).2, fun i h1 h2 => ?_, fun i j hij hj => ?_⟩⟩, hnew⟩
  · by_cases e : i < FF.length
    · rw [if_pos e, if_pos e, List.getElem_append_left (by omega), List.getElem_append_left e]
      obtain ⟨g1, g2, g3, g4⟩ := h.own i e (by omega)
      refine ⟨g1, ⟨g2.1, by omega⟩, keep g3 fun b hb' => g4 b hb', fun b hb' => ?_⟩
      rcases hat with hat | hat
      · exact g4 b (by rw [← hat]; exact hb')
      · have := hat b hb'
        omega
    · have e2 : i = FF.length := by simp at h1; omega
      subst e2
      rw [if_neg e, if_neg e]
      have e3 : (hv ++ [u])[FF.length]'h2 = u := by simp [← hlen]
      have e4 : (FF ++ [F])[FF.length]'h1 = F := by simp
      rw [e3, e4]
      refine ⟨hla, ⟨ham, by omega⟩, hnew, fun b hb' => ?_⟩
      rcases hat with hat | hat
      · exact .inl (hvb b (by rw [← hat]; exact hb'))
      · have := hat b hb'
        omega
  · simp at hj
    by_cases e : j < FF.length
    · rw [if_pos (by omega), if_pos e]
      exact h.ord i j hij e
    · rw [if_pos (by omega), if_neg e]
      have hi1 : i < FF.length := by omega
      obtain ⟨g1, g2, g3, g4⟩ := h.own i hi1 (by omega)
      omega
end

end Go.Proofs.YtigkgheddngkeaaGreat
/-
  Words for facts (a number and a list of integers), and the walks of toAtom, eqAtom, szAtom.
-/
namespace Go.Proofs.YtigkgheddngkeaaGreat
open Go.RowKit

set_option maxHeartbeats 400000 in
theorem szAtom_any (v : Value) (f : LFact) (left : Int) (w : World) (h : RdFact w w.heap.size v f) (h0 : 0 ≤ left) (hl : left ≤ 1048576) (hn : f.2.length ≤ 9223372036854775807) :
    Calls Tryz.prog 39 #[v, .int .i64 left] w fun e w' => e = .returned (.int .i64 (szV left f.2.length)) ∧ Below w.heap.size w w' := by
  obtain ⟨a, rfl, A, c, rfl, hc, _⟩ := h
  have hcs := szV_cases left f.2.length
  go_enter Tryz.func39, Tryz.ntmps39
  go_wp2_with (fail)
  refine (szIntS_any _ _ _ _ _ h0 hl hn).mono ?_
  rintro e w1 ⟨rfl, rfl⟩
  rcases hcs with ⟨e1, _⟩ | ⟨e1, _⟩
  · rw [e1]
    have HV := Lib.hid e1
    clear e1
    go_wp2_with (fail)
    go_ret
    exact ⟨ret_int HV.out.symm, (Below.refl _ _).alloc (Nat.le_refl _) _⟩
  · have h1 : ¬ szV left f.2.length < 0 := by omega
    go_wp2_with (fail)
    go_ret
    exact ⟨rfl, (Below.refl _ _).alloc (Nat.le_refl _) _⟩

set_option maxHeartbeats 400000 in
theorem toAtom_any (v : Value) (f : LFact) (w : World) (h : RdFact w w.heap.size v f) (hn : f.2.length * 8 ≤ 140737488351232) :
    Calls Tryz.prog 46 #[v] w fun e w' => ∃ A' c', e = .returned (.agg #[.int .i64 f.1, .slice A' f.2.length c']) ∧ OwnInts w' w.heap.size w'.heap.size (.slice A' f.2.length c') f.2 ∧ Below w.heap.size w w' := by
  obtain ⟨a, rfl, h⟩ := h
  have H := Lib.hid h
  obtain ⟨A, c, rfl, hc, _⟩ := h
  go_enter Tryz.func46, Tryz.ntmps46
  go_wp2_with (fail)
  refine (toIntS_any _ f.2 _ (H.out.on (below3 _ _ _ _)) hn).mono ?_
  rintro e w4 ⟨A4, c4, rfl, ho, hb⟩
  have hB := bthen (below3 _ _ _ _) hb
  have b1 : Blk w4 (w.heap.size + 1) 66 #[.int .i64 0, .slice none 0 0] := ((by simpa using (Blk.new (w.alloc (Obj.cells #[Value.int IntKind.i64 f.fst, Value.slice A f.snd.length c] 59)) _ _).alloc _ : Blk _ _ _ _)).below hb (by simp)
  have b2 : Blk w4 (w.heap.size + 2) 66 #[.int .i64 f.1, .slice none 0 0] := ((by simpa using Blk.new ((w.alloc (Obj.cells #[Value.int IntKind.i64 f.fst, Value.slice A f.snd.length c] 59)).alloc (Obj.cells #[.int .i64 0, .slice none 0 0] 66)) _ _ : Blk _ _ _ _)).below hb (by simp)
  have b1c0 : w4.cell? ⟨w.heap.size + 1, 0, none⟩ = some (.int .i64 0) := b1.cell 0
  have b1c1 : w4.cell? ⟨w.heap.size + 1, 1, none⟩ = some (.slice none 0 0) := b1.cell 1
  have b2c0 : w4.cell? ⟨w.heap.size + 2, 0, none⟩ = some (.int .i64 f.1) := b2.cell 0
  have b2c1 : w4.cell? ⟨w.heap.size + 2, 1, none⟩ = some (.slice none 0 0) := b2.cell 1
  have b1f0 := b1.frozen 0
  have b1f1 := b1.frozen 1
  have b2f0 := b2.frozen 0
  have b2f1 := b2.frozen 1
  go_wp2_with (fail)
  refine bodyPost_ret (v := .agg #[.int .i64 f.1, .slice A4 f.2.length c4]) (by simp [results, Tryz.results46, go_sem, b1c0, b1c1]) rfl ⟨_, _, rfl, ?_, ?_⟩
  · exact (((ho.set (.inl (by simp)) _).set (.inl (by simp)) _).set (.inl (by simp)) _).mono (by simp; omega) (by simp)
  · exact ((hB.setCell (by simp <;> omega) _).setCell (by simp <;> omega) _).setCell (by simp <;> omega) _

set_option maxHeartbeats 400000 in
theorem eqAtom_any (v v2 : Value) (f g : LFact) (w : World) (h : RdFact w w.heap.size v f) (h2 : RdFact w w.heap.size v2 g) (hn : f.2.length * 8 ≤ 140737488351232) (hn2 : g.2.length * 8 ≤ 140737488351232) :
    Calls Tryz.prog 60 #[v, v2] w fun e w' => e = .returned (.bool (decide (f = g))) ∧ Below w.heap.size w w' := by
  obtain ⟨a, rfl, h⟩ := h
  have H := Lib.hid h
  obtain ⟨A, c, rfl, hc, _⟩ := h
  obtain ⟨a, rfl, h2⟩ := h2
  have H2 := Lib.hid h2
  obtain ⟨A2, c2, rfl, hc2, _⟩ := h2
  by_cases hp : f.1 = g.1
  · have hpb : (f.1 != g.1) = false := by simp [hp]
    have HE := Lib.hid (show decide (f = g) = decide (f.2 = g.2) by simp [Prod.ext_iff, hp])
    clear hp
    go_enter Tryz.func60, Tryz.ntmps60
    go_wp2_with (fail)
    refine (eqIntS_any _ _ f.2 g.2 _ (H.out.on (below2 _ _ _)) (H2.out.on (below2 _ _ _)) hn hn2).mono ?_
    rintro e w4 ⟨rfl, hb⟩
    have hB := bthen (below2 _ _ _) hb
    by_cases hd : f.2 = g.2
    · have hdb : decide (f.2 = g.2) = true := by simp [hd]
      have HD := Lib.hid hdb
      clear hd
      go_wp2_with (fail)
      go_ret
      exact ⟨ret_bool (by rw [HE.out, HD.out]), hB⟩
    · have hdb : decide (f.2 = g.2) = false := by simp [hd]
      have HD := Lib.hid hdb
      clear hd
      go_wp2_with (fail)
      go_ret
      exact ⟨ret_bool (by rw [HE.out, HD.out]), hB⟩
  · have hpb : (f.1 != g.1) = true := by simp [hp]
    have HE := Lib.hid (show decide (f = g) = false by simp [Prod.ext_iff, hp])
    clear hp
    go_enter Tryz.func60, Tryz.ntmps60
    go_wp2_with (fail)
    go_ret
    exact ⟨ret_bool HE.out.symm, below2 _ _ _⟩

end Go.Proofs.YtigkgheddngkeaaGreat
/-
  Rows of elements of three cells (literals, rules): what a slice of them reads as, rows of the call's own, and the loop that makes and fills one. No walk.
-/
namespace Go.Proofs.YtigkgheddngkeaaGreat
open Go.RowKit

/-- A literal: its kind, its atom. -/
abbrev LLit := Int × LFact
/-- A rule: its head, its body. -/
abbrev LRule := LFact × List LLit

section
variable {α : Type}

/-- The slice value v reads as the elements xs, each of three cells that read as Q says, in blocks below B. -/
def RdRow (Q : World → Nat → Value → Value → Value → α → Prop) (w : World) (B : Nat) (v : Value) (xs : List α) : Prop :=
  ∃ A c, v = .slice A xs.length c ∧ xs.length ≤ c ∧ (0 < xs.length → ∃ b o, A = some ⟨b, o, none⟩ ∧ b < B ∧ ∀ k (h : k < xs.length), ∃ u0 u1 u2,
    w.cell? ⟨b, o + k * 3, none⟩ = some u0 ∧ w.cell? ⟨b, o + k * 3 + 1, none⟩ = some u1 ∧ w.cell? ⟨b, o + k * 3 + 2, none⟩ = some u2 ∧ Q w B u0 u1 u2 xs[k])

variable {Q : World → Nat → Value → Value → Value → α → Prop}
theorem RdRow.below {w w' : World} {B B' : Nat} {v : Value} {xs : List α} (hQ : ∀ u0 u1 u2 x, Q w B u0 u1 u2 x → Q w' B u0 u1 u2 x) (h : RdRow Q w B v xs) (hb : Below B' w w') (hB : B ≤ B') : RdRow Q w' B v xs := by
  obtain ⟨A, c, rfl, hc, h⟩ := h
  refine ⟨A, c, rfl, hc, fun hn => ?_⟩
  obtain ⟨b, o, rfl, hlt, hk⟩ := h hn
  refine ⟨b, o, rfl, hlt, fun k hkl => ?_⟩
  obtain ⟨u0, u1, u2, h0, h1, h2, h3⟩ := hk k hkl
  exact ⟨u0, u1, u2, (hb.cell (p := ⟨b, o + k * 3, none⟩) (by show b < B'; omega)).trans h0, (hb.cell (p := ⟨b, o + k * 3 + 1, none⟩) (by show b < B'; omega)).trans h1,
    (hb.cell (p := ⟨b, o + k * 3 + 2, none⟩) (by show b < B'; omega)).trans h2, hQ _ _ _ _ h3⟩
theorem RdRow.more {w : World} {B B' : Nat} {v : Value} {xs : List α} (hQ : ∀ u0 u1 u2 x, Q w B u0 u1 u2 x → Q w B' u0 u1 u2 x) (h : RdRow Q w B v xs) (hB : B ≤ B') : RdRow Q w B' v xs := by
  obtain ⟨A, c, rfl, hc, h⟩ := h
  refine ⟨A, c, rfl, hc, fun hn => ?_⟩
  obtain ⟨b, o, rfl, hlt, hk⟩ := h hn
  refine ⟨b, o, rfl, by omega, fun k hkl => ?_⟩
  obtain ⟨u0, u1, u2, h0, h1, h2, h3⟩ := hk k hkl
  exact ⟨u0, u1, u2, h0, h1, h2, hQ _ _ _ _ h3⟩
/-- One element, as a walk reads it. -/
theorem RdRow.get {w : World} {B c : Nat} {A : Option Addr} {xs : List α} (h : RdRow Q w B (.slice A xs.length c) xs) {k : Nat} (hk : k < xs.length) : ∃ b o u0 u1 u2, A = some ⟨b, o, none⟩ ∧ b < B ∧
    w.cell? ⟨b, o + k * 3, none⟩ = some u0 ∧ w.cell? ⟨b, o + k * 3 + 1, none⟩ = some u1 ∧ w.cell? ⟨b, o + k * 3 + 2, none⟩ = some u2 ∧ Q w B u0 u1 u2 xs[k] := by
  obtain ⟨A', c', e, hc, h⟩ := h
  injection e with e1 e2 e3
  subst e1
  obtain ⟨b, o, rfl, hb, hx⟩ := h (by omega)
  obtain ⟨u0, u1, u2, h0, h1, h2, h3⟩ := hx k hk
  exact ⟨b, o, u0, u1, u2, rfl, hb, h0, h1, h2, h3⟩

/-- A row of the call's own, of blocks from lo on and below hi, that may be written. -/
def OwnRow (Q : World → Nat → Nat → Value → Value → Value → α → Prop) (w : World) (lo hi : Nat) (v : Value) (xs : List α) : Prop :=
  ∃ A c, v = .slice A xs.length c ∧ xs.length ≤ c ∧ (0 < xs.length → ∃ b o, A = some ⟨b, o, none⟩ ∧ lo ≤ b ∧ b < hi ∧ ∀ k (h : k < xs.length),
    (w.frozen? ⟨b, o + k * 3, none⟩ = false ∧ w.frozen? ⟨b, o + k * 3 + 1, none⟩ = false) ∧ ∃ u0 u1 u2,
    w.cell? ⟨b, o + k * 3, none⟩ = some u0 ∧ w.cell? ⟨b, o + k * 3 + 1, none⟩ = some u1 ∧ w.cell? ⟨b, o + k * 3 + 2, none⟩ = some u2 ∧ Q w lo hi u0 u1 u2 xs[k])

variable {O : World → Nat → Nat → Value → Value → Value → α → Prop}
theorem OwnRow.keep {w w' : World} {lo hi : Nat} {v : Value} {xs : List α} (hQ : ∀ u0 u1 u2 x, O w lo hi u0 u1 u2 x → O w' lo hi u0 u1 u2 x) (h : OwnRow O w lo hi v xs) (hk : ∀ g, lo ≤ g → g < hi → w'.heap[g]? = w.heap[g]?) : OwnRow O w' lo hi v xs := by
  obtain ⟨A, c, rfl, hc, h⟩ := h
  refine ⟨A, c, rfl, hc, fun hn => ?_⟩
  obtain ⟨b, o, rfl, h1, h2, hx⟩ := h hn
  refine ⟨b, o, rfl, h1, h2, fun k hkl => ?_⟩
  obtain ⟨⟨f0, f1⟩, u0, u1, u2, c0, c1, c2, hq⟩ := hx k hkl
  have hb := hk b h1 h2
  exact ⟨⟨(World.frozen?_of_block (w := w) hb).trans f0, (World.frozen?_of_block (w := w) hb).trans f1⟩, u0, u1, u2, (World.cell?_of_block (w := w) hb).trans c0, (World.cell?_of_block (w := w) hb).trans c1, (World.cell?_of_block (w := w) hb).trans c2, hQ _ _ _ _ hq⟩
theorem OwnRow.mono {w : World} {lo hi lo' hi' : Nat} {v : Value} {xs : List α} (hQ : ∀ u0 u1 u2 x, O w lo hi u0 u1 u2 x → O w lo' hi' u0 u1 u2 x) (h : OwnRow O w lo hi v xs) (h1 : lo' ≤ lo) (h2 : hi ≤ hi') : OwnRow O w lo' hi' v xs := by
  obtain ⟨A, c, rfl, hc, h⟩ := h
  refine ⟨A, c, rfl, hc, fun hn => ?_⟩
  obtain ⟨b, o, rfl, h3, h4, hx⟩ := h hn
  refine ⟨b, o, rfl, by omega, by omega, fun k hkl => ?_⟩
  obtain ⟨f, u0, u1, u2, c0, c1, c2, hq⟩ := hx k hkl
  exact ⟨f, u0, u1, u2, c0, c1, c2, hQ _ _ _ _ hq⟩
theorem OwnRow.rd {w : World} {lo hi : Nat} {v : Value} {xs : List α} (hQ : ∀ u0 u1 u2 x, O w lo hi u0 u1 u2 x → Q w hi u0 u1 u2 x) (h : OwnRow O w lo hi v xs) : RdRow Q w hi v xs := by
  obtain ⟨A, c, rfl, hc, h⟩ := h
  refine ⟨A, c, rfl, hc, fun hn => ?_⟩
  obtain ⟨b, o, rfl, h3, h4, hx⟩ := h hn
  refine ⟨b, o, rfl, h4, fun k hkl => ?_⟩
  obtain ⟨f, u0, u1, u2, c0, c1, c2, hq⟩ := hx k hkl
  exact ⟨u0, u1, u2, c0, c1, c2, hQ _ _ _ _ hq⟩
theorem OwnRow.form {w : World} {lo hi : Nat} {v : Value} {xs : List α} (h : OwnRow O w lo hi v xs) : ∃ A c, v = .slice A xs.length c := by
  obtain ⟨A, c, rfl, _⟩ := h
  exact ⟨A, c, rfl⟩

/-- What holds at the loop that fills a row that make laid: k elements are there. -/
structure ToRow (t : TypeId) (z0 z1 z2 : Value) (O : World → Nat → Nat → Value → Value → Value → α → Prop) (w wr : World) (xs : List α) (k : Nat) : Prop where
  row : ∃ cur : Array Value, Blk wr w.heap.size t cur ∧ (∀ j, j < k → ∀ hx : j < xs.length, ∃ u0 u1 u2, cur[j * 3]? = some u0 ∧ cur[j * 3 + 1]? = some u1 ∧ cur[j * 3 + 2]? = some u2 ∧ O wr (w.heap.size + 1) wr.heap.size u0 u1 u2 xs[j]) ∧
    (∀ j, k ≤ j → j < xs.length → cur[j * 3]? = some z0 ∧ cur[j * 3 + 1]? = some z1 ∧ cur[j * 3 + 2]? = some z2)
  below : Below w.heap.size w wr
  size : w.heap.size + 1 ≤ wr.heap.size

variable {t : TypeId} {z0 z1 z2 : Value}
theorem ToRow.start (w : World) (xs : List α) : ToRow t z0 z1 z2 O w (w.alloc (.cells (madeCells #[z0, z1, z2] (xs.length * 3)) t)) xs 0 :=
  ⟨⟨_, Blk.new _ _ _, fun j hj => absurd hj (by omega), fun j _ hj => by
    have e0 : j * 3 % 3 = 0 := by omega
    have e1 : (j * 3 + 1) % 3 = 1 := by omega
    have e2 : (j * 3 + 2) % 3 = 2 := by omega
    have l0 : j * 3 < xs.length * 3 := by omega
    have l1 : j * 3 + 1 < xs.length * 3 := by omega
    have l2 : j * 3 + 2 < xs.length * 3 := by omega
    simp [madeCells, e0, e1, e2, l0, l1, l2]⟩, below1 _ _, by simp⟩

/-- The cells that the next element will take. -/
theorem ToRow.room {w wr : World} {xs : List α} {k : Nat} (hr : ToRow t z0 z1 z2 O w wr xs k) (hlt : k < xs.length) {w4 : World} (hb : Below wr.heap.size wr w4) :
    w4.cell? ⟨w.heap.size, k * 3, none⟩ = some z0 ∧ w4.cell? ⟨w.heap.size, k * 3 + 1, none⟩ = some z1 ∧ w4.cell? ⟨w.heap.size, k * 3 + 2, none⟩ = some z2 ∧
    w4.frozen? ⟨w.heap.size, k * 3, none⟩ = false ∧ w4.frozen? ⟨w.heap.size, k * 3 + 1, none⟩ = false ∧ w4.frozen? ⟨w.heap.size, k * 3 + 2, none⟩ = false := by
  obtain ⟨⟨cur, hB, _, hz⟩, hbe, hsz⟩ := hr
  have hB4 := hB.below hb (by omega)
  obtain ⟨c0, c1, c2⟩ := hz k (Nat.le_refl _) hlt
  exact ⟨(hB4.cell _).trans c0, (hB4.cell _).trans c1, (hB4.cell _).trans c2, hB4.frozen _, hB4.frozen _, hB4.frozen _⟩

theorem ToRow.step (keep : ∀ {w w' : World} {lo hi : Nat} {u0 u1 u2 : Value} {x : α}, O w lo hi u0 u1 u2 x → (∀ g, lo ≤ g → g < hi → w'.heap[g]? = w.heap[g]?) → O w' lo hi u0 u1 u2 x)
    (mono : ∀ {w : World} {lo hi lo' hi' : Nat} {u0 u1 u2 : Value} {x : α}, O w lo hi u0 u1 u2 x → lo' ≤ lo → hi ≤ hi' → O w lo' hi' u0 u1 u2 x)
    {w wr : World} {xs : List α} {k : Nat} (hr : ToRow t z0 z1 z2 O w wr xs k) (hlt : k < xs.length) {w4 : World} (hb : Below wr.heap.size wr w4) {u0 u1 u2 : Value}
    (ha : O w4 wr.heap.size w4.heap.size u0 u1 u2 xs[k]) : ToRow t z0 z1 z2 O w (((w4.setCell ⟨w.heap.size, k * 3, none⟩ u0).setCell ⟨w.heap.size, k * 3 + 1, none⟩ u1).setCell ⟨w.heap.size, k * 3 + 2, none⟩ u2) xs (k + 1) := by
  obtain ⟨⟨cur, hB, hd, hz⟩, hbe, hsz⟩ := hr
  have hB4 := hB.below hb (by omega)
  have hs4 := hb.size
  have hsame : ∀ g, w.heap.size + 1 ≤ g → (((w4.setCell ⟨w.heap.size, k * 3, none⟩ u0).setCell ⟨w.heap.size, k * 3 + 1, none⟩ u1).setCell ⟨w.heap.size, k * 3 + 2, none⟩ u2).heap[g]? = w4.heap[g]? := fun g hg => by
    rw [Below.heap_setCell _ _ _ _ (by show g ≠ w.heap.size; omega), Below.heap_setCell _ _ _ _ (by show g ≠ w.heap.size; omega), Below.heap_setCell _ _ _ _ (by show g ≠ w.heap.size; omega)]
  have hsz5 : (((w4.setCell ⟨w.heap.size, k * 3, none⟩ u0).setCell ⟨w.heap.size, k * 3 + 1, none⟩ u1).setCell ⟨w.heap.size, k * 3 + 2, none⟩ u2).heap.size = w4.heap.size := by simp
  refine ⟨⟨_, ((hB4.set_ _ _).set_ _ _).set_ _ _, fun j hj hx => ?_, fun j hj hx => ?_⟩, (((hbe.trans (hb.mono hbe.size)).setCell (Nat.le_refl _) _).setCell (Nat.le_refl _) _).setCell (Nat.le_refl _) _, by rw [hsz5]; omega⟩
  · rw [hsz5]
    by_cases e : j = k
    · subst e
      obtain ⟨c0, c1, c2⟩ := hz j (Nat.le_refl _) hx
      have g0 := (Array.getElem?_eq_some_iff.1 c0).1
      have g1 := (Array.getElem?_eq_some_iff.1 c1).1
      have g2 := (Array.getElem?_eq_some_iff.1 c2).1
      refine ⟨u0, u1, u2, ?_, ?_, ?_, keep (mono ha (by omega) (Nat.le_refl _)) fun g h1 _ => hsame g h1⟩
      · simp [g0]
      · simp [g1]
      · simp [g2]
    · obtain ⟨v0, v1, v2, c0, c1, c2, hq⟩ := hd j (by omega) hx
      refine ⟨v0, v1, v2, ?_, ?_, ?_, keep (mono (keep hq fun g _ h2 => hb.block g h2) (Nat.le_refl _) hs4) fun g h1 _ => hsame g h1⟩
      · rw [Array.getElem?_setIfInBounds_ne (by omega), Array.getElem?_setIfInBounds_ne (by omega), Array.getElem?_setIfInBounds_ne (by omega)]; exact c0
      · rw [Array.getElem?_setIfInBounds_ne (by omega), Array.getElem?_setIfInBounds_ne (by omega), Array.getElem?_setIfInBounds_ne (by omega)]; exact c1
      · rw [Array.getElem?_setIfInBounds_ne (by omega), Array.getElem?_setIfInBounds_ne (by omega), Array.getElem?_setIfInBounds_ne (by omega)]; exact c2
  · obtain ⟨c0, c1, c2⟩ := hz j (by omega) hx
    refine ⟨?_, ?_, ?_⟩
    · rw [Array.getElem?_setIfInBounds_ne (by omega), Array.getElem?_setIfInBounds_ne (by omega), Array.getElem?_setIfInBounds_ne (by omega)]; exact c0
    · rw [Array.getElem?_setIfInBounds_ne (by omega), Array.getElem?_setIfInBounds_ne (by omega), Array.getElem?_setIfInBounds_ne (by omega)]; exact c1
    · rw [Array.getElem?_setIfInBounds_ne (by omega), Array.getElem?_setIfInBounds_ne (by omega), Array.getElem?_setIfInBounds_ne (by omega)]; exact c2

theorem ToRow.done (mono : ∀ {w : World} {lo hi lo' hi' : Nat} {u0 u1 u2 : Value} {x : α}, O w lo hi u0 u1 u2 x → lo' ≤ lo → hi ≤ hi' → O w lo' hi' u0 u1 u2 x)
    {w wr : World} {xs : List α} (hr : ToRow t z0 z1 z2 O w wr xs xs.length) : OwnRow O wr w.heap.size wr.heap.size (.slice (some ⟨w.heap.size, 0, none⟩) xs.length xs.length) xs := by
  obtain ⟨⟨cur, hB, hd, _⟩, hbe, hsz⟩ := hr
  refine ⟨_, _, rfl, Nat.le_refl _, fun _ => ⟨_, _, rfl, Nat.le_refl _, by omega, fun k hk => ⟨⟨hB.frozen _, hB.frozen _⟩, ?_⟩⟩⟩
  obtain ⟨u0, u1, u2, c0, c1, c2, hq⟩ := hd k hk hk
  simp only [Nat.zero_add]
  exact ⟨u0, u1, u2, (hB.cell _).trans c0, (hB.cell _).trans c1, (hB.cell _).trans c2, mono hq (by omega) (Nat.le_refl _)⟩
end

theorem OwnInts.keep {w w' : World} {lo hi : Nat} {v : Value} {xs : List Int} (h : OwnInts w lo hi v xs) (hk : ∀ g, lo ≤ g → g < hi → w'.heap[g]? = w.heap[g]?) : OwnInts w' lo hi v xs := by
  have hlo := fun g hg => (h.1.lt g hg).1
  obtain ⟨⟨hlen, h⟩, hlt⟩ := h
  refine ⟨⟨hlen, ?_⟩, hlt⟩
  rcases h with h | ⟨g, cap, cur, rfl, hbg, hg, r⟩
  · exact .inl h
  · exact .inr ⟨g, cap, cur, rfl, hbg, by rw [hk g hbg (hlt g rfl)]; exact hg, r⟩

/-! ### Literals -/
def QLit (w : World) (B : Nat) (u0 u1 u2 : Value) (l : LLit) : Prop := u0 = .int .i64 l.1 ∧ u1 = .int .i64 l.2.1 ∧ RdInts w B u2 l.2.2
def RdLits (w : World) (B : Nat) (v : Value) (ls : List LLit) : Prop := RdRow QLit w B v ls
def RdLit (w : World) (B : Nat) (v : Value) (l : LLit) : Prop := ∃ a, v = .agg #[.int .i64 l.1, .int .i64 l.2.1, a] ∧ RdInts w B a l.2.2
def OLit (w : World) (lo hi : Nat) (u0 u1 u2 : Value) (l : LLit) : Prop := u0 = .int .i64 l.1 ∧ u1 = .int .i64 l.2.1 ∧ OwnInts w lo hi u2 l.2.2
def OwnLits (w : World) (lo hi : Nat) (v : Value) (ls : List LLit) : Prop := OwnRow OLit w lo hi v ls

theorem QLit.below {w w' : World} {B B' : Nat} {u0 u1 u2 : Value} {l : LLit} (h : QLit w B u0 u1 u2 l) (hb : Below B' w w') (hB : B ≤ B') : QLit w' B u0 u1 u2 l := ⟨h.1, h.2.1, h.2.2.below hb hB⟩
theorem QLit.more {w : World} {B B' : Nat} {u0 u1 u2 : Value} {l : LLit} (h : QLit w B u0 u1 u2 l) (hB : B ≤ B') : QLit w B' u0 u1 u2 l := ⟨h.1, h.2.1, h.2.2.more hB⟩
theorem RdLits.below {w w' : World} {B B' : Nat} {v : Value} {ls : List LLit} (h : RdLits w B v ls) (hb : Below B' w w') (hB : B ≤ B') : RdLits w' B v ls := RdRow.below (fun _ _ _ _ q => q.below hb hB) h hb hB
theorem RdLits.more {w : World} {B B' : Nat} {v : Value} {ls : List LLit} (h : RdLits w B v ls) (hB : B ≤ B') : RdLits w B' v ls := RdRow.more (fun _ _ _ _ q => q.more hB) h hB
theorem RdLits.on {w w' : World} {v : Value} {ls : List LLit} (h : RdLits w w.heap.size v ls) (hb : Below w.heap.size w w') : RdLits w' w'.heap.size v ls := (h.below hb (Nat.le_refl _)).more hb.size
theorem RdLit.on {w w' : World} {v : Value} {l : LLit} (h : RdLit w w.heap.size v l) (hb : Below w.heap.size w w') : RdLit w' w'.heap.size v l := by
  obtain ⟨a, rfl, h⟩ := h
  exact ⟨a, rfl, h.on hb⟩
theorem OLit.keep {w w' : World} {lo hi : Nat} {u0 u1 u2 : Value} {l : LLit} (h : OLit w lo hi u0 u1 u2 l) (hk : ∀ g, lo ≤ g → g < hi → w'.heap[g]? = w.heap[g]?) : OLit w' lo hi u0 u1 u2 l := ⟨h.1, h.2.1, h.2.2.keep hk⟩
theorem OLit.mono {w : World} {lo hi lo' hi' : Nat} {u0 u1 u2 : Value} {l : LLit} (h : OLit w lo hi u0 u1 u2 l) (h1 : lo' ≤ lo) (h2 : hi ≤ hi') : OLit w lo' hi' u0 u1 u2 l := ⟨h.1, h.2.1, h.2.2.mono h1 h2⟩
theorem OwnLits.keep {w w' : World} {lo hi : Nat} {v : Value} {ls : List LLit} (h : OwnLits w lo hi v ls) (hk : ∀ g, lo ≤ g → g < hi → w'.heap[g]? = w.heap[g]?) : OwnLits w' lo hi v ls := OwnRow.keep (fun _ _ _ _ q => q.keep hk) h hk
theorem OwnLits.mono {w : World} {lo hi lo' hi' : Nat} {v : Value} {ls : List LLit} (h : OwnLits w lo hi v ls) (h1 : lo' ≤ lo) (h2 : hi ≤ hi') : OwnLits w lo' hi' v ls := OwnRow.mono (fun _ _ _ _ q => q.mono h1 h2) h h1 h2
theorem OwnLits.rd {w : World} {lo hi : Nat} {v : Value} {ls : List LLit} (h : OwnLits w lo hi v ls) : RdLits w hi v ls := OwnRow.rd (fun _ _ _ _ q => ⟨q.1, q.2.1, q.2.2.rd⟩) h
theorem OwnLits.below {w w' : World} {lo hi B : Nat} {v : Value} {ls : List LLit} (h : OwnLits w lo hi v ls) (hb : Below B w w') (hB : hi ≤ B) : OwnLits w' lo hi v ls := h.keep fun g _ h2 => hb.block g (by omega)
theorem OwnLits.only {w w' : World} {lo hi lo' hi' : Nat} {v : Value} {ls : List LLit} (h : OwnLits w lo hi v ls) (ho : Only lo' hi' w w') (hd : hi ≤ lo' ∨ hi' ≤ lo) (hh : hi ≤ w.heap.size) : OwnLits w' lo hi v ls :=
  h.keep fun g h1 h2 => ho.block g (by omega) (by omega)

/-! ### Rules -/
def QRule (w : World) (B : Nat) (u0 u1 u2 : Value) (r : LRule) : Prop := u0 = .int .i64 r.1.1 ∧ RdInts w B u1 r.1.2 ∧ RdLits w B u2 r.2
def RdRules (w : World) (B : Nat) (v : Value) (rs : List LRule) : Prop := RdRow QRule w B v rs
def RdRule (w : World) (B : Nat) (v : Value) (r : LRule) : Prop := ∃ a b, v = .agg #[.int .i64 r.1.1, a, b] ∧ RdInts w B a r.1.2 ∧ RdLits w B b r.2
def ORule (w : World) (lo hi : Nat) (u0 u1 u2 : Value) (r : LRule) : Prop := u0 = .int .i64 r.1.1 ∧ OwnInts w lo hi u1 r.1.2 ∧ OwnLits w lo hi u2 r.2
def OwnRules (w : World) (lo hi : Nat) (v : Value) (rs : List LRule) : Prop := OwnRow ORule w lo hi v rs

theorem QRule.below {w w' : World} {B B' : Nat} {u0 u1 u2 : Value} {r : LRule} (h : QRule w B u0 u1 u2 r) (hb : Below B' w w') (hB : B ≤ B') : QRule w' B u0 u1 u2 r := ⟨h.1, h.2.1.below hb hB, h.2.2.below hb hB⟩
theorem QRule.more {w : World} {B B' : Nat} {u0 u1 u2 : Value} {r : LRule} (h : QRule w B u0 u1 u2 r) (hB : B ≤ B') : QRule w B' u0 u1 u2 r := ⟨h.1, h.2.1.more hB, h.2.2.more hB⟩
theorem RdRules.below {w w' : World} {B B' : Nat} {v : Value} {rs : List LRule} (h : RdRules w B v rs) (hb : Below B' w w') (hB : B ≤ B') : RdRules w' B v rs := RdRow.below (fun _ _ _ _ q => q.below hb hB) h hb hB
theorem RdRules.more {w : World} {B B' : Nat} {v : Value} {rs : List LRule} (h : RdRules w B v rs) (hB : B ≤ B') : RdRules w B' v rs := RdRow.more (fun _ _ _ _ q => q.more hB) h hB
theorem RdRules.on {w w' : World} {v : Value} {rs : List LRule} (h : RdRules w w.heap.size v rs) (hb : Below w.heap.size w w') : RdRules w' w'.heap.size v rs := (h.below hb (Nat.le_refl _)).more hb.size
theorem RdRule.on {w w' : World} {v : Value} {r : LRule} (h : RdRule w w.heap.size v r) (hb : Below w.heap.size w w') : RdRule w' w'.heap.size v r := by
  obtain ⟨a, b, rfl, h1, h2⟩ := h
  exact ⟨a, b, rfl, h1.on hb, h2.on hb⟩
theorem ORule.keep {w w' : World} {lo hi : Nat} {u0 u1 u2 : Value} {r : LRule} (h : ORule w lo hi u0 u1 u2 r) (hk : ∀ g, lo ≤ g → g < hi → w'.heap[g]? = w.heap[g]?) : ORule w' lo hi u0 u1 u2 r := ⟨h.1, h.2.1.keep hk, h.2.2.keep hk⟩
theorem ORule.mono {w : World} {lo hi lo' hi' : Nat} {u0 u1 u2 : Value} {r : LRule} (h : ORule w lo hi u0 u1 u2 r) (h1 : lo' ≤ lo) (h2 : hi ≤ hi') : ORule w lo' hi' u0 u1 u2 r := ⟨h.1, h.2.1.mono h1 h2, h.2.2.mono h1 h2⟩
theorem OwnRules.keep {w w' : World} {lo hi : Nat} {v : Value} {rs : List LRule} (h : OwnRules w lo hi v rs) (hk : ∀ g, lo ≤ g → g < hi → w'.heap[g]? = w.heap[g]?) : OwnRules w' lo hi v rs := OwnRow.keep (fun _ _ _ _ q => q.keep hk) h hk
theorem OwnRules.mono {w : World} {lo hi lo' hi' : Nat} {v : Value} {rs : List LRule} (h : OwnRules w lo hi v rs) (h1 : lo' ≤ lo) (h2 : hi ≤ hi') : OwnRules w lo' hi' v rs := OwnRow.mono (fun _ _ _ _ q => q.mono h1 h2) h h1 h2
theorem OwnRules.rd {w : World} {lo hi : Nat} {v : Value} {rs : List LRule} (h : OwnRules w lo hi v rs) : RdRules w hi v rs := OwnRow.rd (fun _ _ _ _ q => ⟨q.1, q.2.1.rd, q.2.2.rd⟩) h

/-! ### How much there is -/
/-- How many integers literals have together. -/
def totL (ls : List LLit) : Nat := (ls.map fun l => l.2.2.length).sum
/-- What szRule counts of a rule. -/
def szR (r : LRule) : Nat := r.1.2.length + (r.2.length + totL r.2)
def totR (rs : List LRule) : Nat := (rs.map szR).sum
theorem sum_at {α : Type} (f : α → Nat) : ∀ (l : List α) (k : Nat) (h : k < l.length), f l[k] ≤ (l.map f).sum
  | [], _, h => absurd h (by simp)
  | x :: l, 0, _ => by simp
  | x :: l, k + 1, h => by
    have := sum_at f l k (by simpa using h)
    simp only [List.map_cons, List.sum_cons, List.getElem_cons_succ] at this ⊢
    omega
theorem sum_take {α : Type} (f : α → Nat) (l : List α) (k : Nat) (h : k < l.length) : ((l.take (k + 1)).map f).sum = ((l.take k).map f).sum + f l[k] := by
  rw [take_snoc l k h, List.map_append, List.sum_append]
  simp
theorem len_le_totL (ls : List LLit) (k : Nat) (h : k < ls.length) : ls[k].2.2.length ≤ totL ls := sum_at (fun l : LLit => l.2.2.length) ls k h
theorem totL_take (ls : List LLit) (k : Nat) (h : k < ls.length) : totL (ls.take (k + 1)) = totL (ls.take k) + ls[k].2.2.length := sum_take _ ls k h
theorem sz_le_totR (rs : List LRule) (k : Nat) (h : k < rs.length) : szR rs[k] ≤ totR rs := sum_at szR rs k h
theorem totR_take (rs : List LRule) (k : Nat) (h : k < rs.length) : totR (rs.take (k + 1)) = totR (rs.take k) + szR rs[k] := sum_take _ rs k h

end Go.Proofs.YtigkgheddngkeaaGreat
/-
  Terms and variables: the words, and the walks of varTerm, varNumber, isVar.
-/
namespace Go.Proofs.YtigkgheddngkeaaGreat
open Go.RowKit

def termOk (x : Int) : Bool := decide (-4 ≤ x ∧ x ≤ 5)
def isVarB (x : Int) : Bool := decide (-4 ≤ x ∧ x ≤ -1)

/-- 'the first k are so', kept from the walk. -/
def AllTo {α : Type} (p : α → Bool) (xs : List α) (k : Nat) : Prop := (xs.take k).all p = true
theorem AllTo.start {α : Type} {p : α → Bool} {xs : List α} : AllTo p xs 0 := by simp [AllTo]
theorem AllTo.step {α : Type} {p : α → Bool} {xs : List α} {k : Nat} (h : AllTo p xs k) (hk : k < xs.length) (e : p xs[k] = true) : AllTo p xs (k + 1) := by
  unfold AllTo at h ⊢
  rw [take_snoc xs k hk, List.all_append, h]
  simp [e]
theorem AllTo.done {α : Type} {p : α → Bool} {xs : List α} {k : Nat} (h : AllTo p xs k) (hk : k = xs.length) : xs.all p = true := by
  unfold AllTo at h
  rwa [hk, List.take_length] at h
theorem all_not {α : Type} {p : α → Bool} {xs : List α} {k : Nat} (hk : k < xs.length) (e : p xs[k] = false) : xs.all p = false := by
  rw [List.all_eq_false]
  exact ⟨xs[k], List.getElem_mem hk, by simp [e]⟩

theorem varTerm_any (n : Int) (h0 : 0 ≤ n) (h1 : n ≤ 1000) (w : World) : Calls Tryz.prog 129 #[.int .i64 n] w fun e w' => e = .returned (.int .i64 (-1 - n)) ∧ w = w' := by
  go_enter Tryz.func129, Tryz.ntmps129
  go_wp2
  go_ret
  exact ⟨rfl, rfl⟩
theorem varNumber_any (n : Int) (h0 : -4 ≤ n) (h1 : n ≤ -1) (w : World) : Calls Tryz.prog 114 #[.int .i64 n] w fun e w' => e = .returned (.int .i64 (-1 - n)) ∧ w = w' := by
  go_enter Tryz.func114, Tryz.ntmps114
  go_wp2
  go_ret
  exact ⟨rfl, rfl⟩

theorem isVar_any (n : Int) (w : World) : Calls Tryz.prog 112 #[.int .i64 n] w fun e w' => e = .returned (.bool (isVarB n)) ∧ w = w' := by
  by_cases h1 : n < 0
  · have hd : decide (n < 0) = true := by simpa using h1
    by_cases h2 : -4 ≤ n
    · have HE := Lib.hid (show isVarB n = true by simp [isVarB]; omega)
      go_enter Tryz.func112, Tryz.ntmps112
      go_wp2_with (go_at_call 129; refine (varTerm_any 3 (by omega) (by omega) _).mono ?_; rintro e w' ⟨rfl, rfl⟩)
      go_ret
      exact ⟨ret_bool HE.out.symm, rfl⟩
    · have HE := Lib.hid (show isVarB n = false by simp [isVarB]; omega)
      go_enter Tryz.func112, Tryz.ntmps112
      go_wp2_with (go_at_call 129; refine (varTerm_any 3 (by omega) (by omega) _).mono ?_; rintro e w' ⟨rfl, rfl⟩)
      go_ret
      exact ⟨ret_bool (by rw [HE.out]; simp; omega), rfl⟩
  · have hd : decide (n < 0) = false := by simpa using h1
    have HE := Lib.hid (show isVarB n = false by simp [isVarB]; omega)
    go_enter Tryz.func112, Tryz.ntmps112
    go_wp2_with (fail)
    go_ret
    exact ⟨ret_bool HE.out.symm, rfl⟩

theorem isVar_is {n : Int} {b : Bool} (h : isVarB n = b) (w : World) : Calls Tryz.prog 112 #[.int .i64 n] w fun e w' => e = .returned (.bool b) ∧ w = w' := h ▸ isVar_any n w

end Go.Proofs.YtigkgheddngkeaaGreat
/-
  What variables have, plain mathematics: lists of four numbers from -1 to 5, and the words of four fields that the program keeps them in.
-/
namespace Go.Proofs.YtigkgheddngkeaaGreat
open Go.RowKit

/-- One of what a variable may have. -/
def hasB (x : Int) : Bool := decide (-1 ≤ x ∧ x ≤ 5)
def bindOk (bs : List Int) : Bool := decide (bs.length = 4) && bs.all hasB

theorem bindOk_len {bs : List Int} (h : bindOk bs = true) : bs.length = 4 := by
  simp only [bindOk, Bool.and_eq_true, decide_eq_true_eq] at h
  exact h.1
theorem bindOk_all {bs : List Int} (h : bindOk bs = true) : bs.all hasB = true := by
  simp only [bindOk, Bool.and_eq_true] at h
  exact h.2
theorem hasB_at {bs : List Int} (h : bs.all hasB = true) {k : Nat} (hk : k < bs.length) : -1 ≤ bs[k] ∧ bs[k] ≤ 5 := by
  have := List.all_eq_true.1 h bs[k] (List.getElem_mem hk)
  simpa [hasB] using this
theorem bindOk_at {bs : List Int} (h : bindOk bs = true) {k : Nat} (hk : k < bs.length) : -1 ≤ bs[k] ∧ bs[k] ≤ 5 := hasB_at (bindOk_all h) hk
theorem bindOk_iff {bs : List Int} (hl : bs.length = 4) (h : bs.all hasB = true) : bindOk bs = true := by simp [bindOk, hl, h]

/-- What a term has: a constant itself, a variable what it has. -/
def termVal (bs : List Int) (t : Int) : Int := if 0 ≤ t then t else bs.getD (-1 - t).toNat (-1)
theorem termVal_const {bs : List Int} {t : Int} (h : 0 ≤ t) : termVal bs t = t := if_pos h
theorem termVal_var {bs : List Int} {t : Int} (h : t < 0) : termVal bs t = bs.getD (-1 - t).toNat (-1) := if_neg (by omega)
theorem termOk_at {t : Int} (ht : termOk t = true) : -4 ≤ t ∧ t ≤ 5 := by simpa [termOk] using ht
theorem termVal_bounds {bs : List Int} (hb : bindOk bs = true) {t : Int} (ht : termOk t = true) : -1 ≤ termVal bs t ∧ termVal bs t ≤ 5 := by
  have ht' := termOk_at ht
  unfold termVal
  split
  · omega
  · have hl := bindOk_len hb
    have hk : (-1 - t).toNat < bs.length := by omega
    rw [List.getD_eq_getElem?_getD, List.getElem?_eq_getElem hk]
    exact bindOk_at hb hk

/-- The word of a list of four. -/
def encB (bs : List Int) : Nat := (((bs.getD 0 (-1) + 1).toNat * 16 + (bs.getD 1 (-1) + 1).toNat) * 16 + (bs.getD 2 (-1) + 1).toNat) * 16 + (bs.getD 3 (-1) + 1).toNat
/-- Nobody has anything. -/
def noneB : List Int := [-1, -1, -1, -1]
theorem noneB_ok : bindOk noneB = true := by decide
theorem encB_none : encB noneB = 0 := by decide

theorem list4 {bs : List Int} (h : bs.length = 4) : ∃ a b c d, bs = [a, b, c, d] := by
  match bs, h with
  | [a, b, c, d], _ => exact ⟨a, b, c, d, rfl⟩
theorem fin7 {x : Int} (h : -1 ≤ x ∧ x ≤ 5) : ∃ a : Fin 7, (x + 1).toNat = a.val ∧ x = (a.val : Int) - 1 := ⟨⟨(x + 1).toNat, by omega⟩, rfl, by show x = (((x + 1).toNat : Nat) : Int) - 1; omega⟩

theorem or0 : ∀ a b c e : Fin 7, ((0 * 16 + a.val) * 16 + b.val) * 16 + c.val ||| e.val * 4096 = ((e.val * 16 + a.val) * 16 + b.val) * 16 + c.val := by decide +kernel
theorem or1 : ∀ a b c e : Fin 7, ((a.val * 16 + 0) * 16 + b.val) * 16 + c.val ||| e.val * 256 = ((a.val * 16 + e.val) * 16 + b.val) * 16 + c.val := by decide +kernel
theorem or2 : ∀ a b c e : Fin 7, ((a.val * 16 + b.val) * 16 + 0) * 16 + c.val ||| e.val * 16 = ((a.val * 16 + b.val) * 16 + e.val) * 16 + c.val := by decide +kernel
theorem or3 : ∀ a b c e : Fin 7, ((a.val * 16 + b.val) * 16 + c.val) * 16 + 0 ||| e.val = ((a.val * 16 + b.val) * 16 + c.val) * 16 + e.val := by decide +kernel

/-- The word of a variable's constant. -/
def shlB (v : Nat) (c : Int) : Nat := (c + 1).toNat * 2 ^ ((3 - v) * 4)

theorem encB_set {bs : List Int} (h : bindOk bs = true) {v : Nat} (hv : v < 4) (hn : bs.getD v (-1) = -1) {c : Int} (hc : -1 ≤ c ∧ c ≤ 5) : encB bs ||| shlB v c = encB (bs.set v c) := by
  obtain ⟨b0, b1, b2, b3, rfl⟩ := list4 (bindOk_len h)
  have ha := bindOk_all h
  simp only [List.all_cons, List.all_nil, Bool.and_true, Bool.and_eq_true, hasB, decide_eq_true_eq] at ha
  obtain ⟨h0, h1, h2, h3⟩ := ha
  obtain ⟨e, he, he'⟩ := fin7 hc
  obtain ⟨x0, e0, _⟩ := fin7 h0
  obtain ⟨x1, e1, _⟩ := fin7 h1
  obtain ⟨x2, e2, _⟩ := fin7 h2
  obtain ⟨x3, e3, _⟩ := fin7 h3
  match v, hv with
  | 0, _ =>
    simp only [List.getD_cons_zero] at hn
    subst hn
    simp only [encB, shlB, List.getD_cons_zero, List.getD_cons_succ, List.set_cons_zero, he, e1, e2, e3]
    exact or0 x1 x2 x3 e
  | 1, _ =>
    simp only [List.getD_cons_zero, List.getD_cons_succ] at hn
    subst hn
    simp only [encB, shlB, List.getD_cons_zero, List.getD_cons_succ, List.set_cons_zero, List.set_cons_succ, he, e0, e2, e3]
    exact or1 x0 x2 x3 e
  | 2, _ =>
    simp only [List.getD_cons_zero, List.getD_cons_succ] at hn
    subst hn
    simp only [encB, shlB, List.getD_cons_zero, List.getD_cons_succ, List.set_cons_zero, List.set_cons_succ, he, e0, e1, e3]
    exact or2 x0 x1 x3 e
  | 3, _ =>
    simp only [List.getD_cons_zero, List.getD_cons_succ] at hn
    subst hn
    simp only [encB, shlB, List.getD_cons_zero, List.getD_cons_succ, List.set_cons_zero, List.set_cons_succ, he, e0, e1, e2]
    simpa using or3 x0 x1 x2 e

theorem encB_lt {bs : List Int} (h : bindOk bs = true) : encB bs < 65536 := by
  obtain ⟨b0, b1, b2, b3, rfl⟩ := list4 (bindOk_len h)
  have ha := bindOk_all h
  simp only [List.all_cons, List.all_nil, Bool.and_true, Bool.and_eq_true, hasB, decide_eq_true_eq] at ha
  simp only [encB, List.getD_cons_zero, List.getD_cons_succ]
  omega
theorem shlB_lt {v : Nat} (hv : v < 4) {c : Int} (hc : -1 ≤ c ∧ c ≤ 5) : shlB v c < 65536 := by
  unfold shlB
  match v, hv with
  | 0, _ => show (c + 1).toNat * 4096 < 65536; omega
  | 1, _ => show (c + 1).toNat * 256 < 65536; omega
  | 2, _ => show (c + 1).toNat * 16 < 65536; omega
  | 3, _ => show (c + 1).toNat * 1 < 65536; omega

/-- What a variable has, read off the word. -/
def fieldB (m v : Nat) : Nat := m / 2 ^ ((3 - v) * 4) % 16
theorem fieldB_enc {bs : List Int} (h : bindOk bs = true) {v : Nat} (hv : v < 4) : ((fieldB (encB bs) v : Nat) : Int) - 1 = bs.getD v (-1) := by
  obtain ⟨b0, b1, b2, b3, rfl⟩ := list4 (bindOk_len h)
  have ha := bindOk_all h
  simp only [List.all_cons, List.all_nil, Bool.and_true, Bool.and_eq_true, hasB, decide_eq_true_eq] at ha
  match v, hv with
  | 0, _ => simp only [fieldB, encB, List.getD_cons_zero, List.getD_cons_succ]; omega
  | 1, _ => simp only [fieldB, encB, List.getD_cons_zero, List.getD_cons_succ]; omega
  | 2, _ => simp only [fieldB, encB, List.getD_cons_zero, List.getD_cons_succ]; omega
  | 3, _ => simp only [fieldB, encB, List.getD_cons_zero, List.getD_cons_succ]; omega

theorem encB_inj {bs cs : List Int} (h : bindOk bs = true) (h2 : bindOk cs = true) (e : encB bs = encB cs) : bs = cs := by
  apply List.ext_getElem (by rw [bindOk_len h, bindOk_len h2])
  intro v h1 h3
  have hv : v < 4 := by rw [bindOk_len h] at h1; exact h1
  have a := fieldB_enc h hv
  have b := fieldB_enc h2 hv
  rw [e] at a
  have c := a.symm.trans b
  simpa [h1, h3] using c
theorem bindOk_set {bs : List Int} (h : bindOk bs = true) {c : Int} (hc : -1 ≤ c ∧ c ≤ 5) (v : Nat) : bindOk (bs.set v c) = true := by
  refine bindOk_iff (by rw [List.length_set]; exact bindOk_len h) (List.all_eq_true.2 fun x hx => ?_)
  rcases List.mem_or_eq_of_mem_set hx with hx | rfl
  · exact List.all_eq_true.1 (bindOk_all h) x hx
  · simpa [hasB] using hc

/-- The first k of a list, the others as yet without any. -/
def padB (bs : List Int) (k : Nat) : List Int := bs.take k ++ List.replicate (4 - k) (-1)
theorem padB_zero (bs : List Int) : padB bs 0 = noneB := rfl
theorem padB_all {bs : List Int} (h : bs.length = 4) : padB bs 4 = bs := by simp [padB, ← h]
theorem padB_ok {bs : List Int} {k : Nat} (hl : bs.length = 4) (hk : k ≤ 4) (h : (bs.take k).all hasB = true) : bindOk (padB bs k) = true := by
  refine bindOk_iff (by simp [padB, hl]; omega) ?_
  simp only [padB, List.all_append, h, Bool.true_and, List.all_eq_true]
  intro x hx
  rw [List.eq_of_mem_replicate hx]
  rfl
theorem padB_step {bs : List Int} {k : Nat} (hl : bs.length = 4) (hk : k < 4) : (padB bs k).getD k (-1) = -1 ∧ (padB bs k).set k (bs[k]'(by omega)) = padB bs (k + 1) := by
  obtain ⟨b0, b1, b2, b3, rfl⟩ := list4 hl
  match k, hk with
  | 0, _ => exact ⟨rfl, rfl⟩
  | 1, _ => exact ⟨rfl, rfl⟩
  | 2, _ => exact ⟨rfl, rfl⟩
  | 3, _ => exact ⟨rfl, rfl⟩

/-- Bound. -/
def boundL (args bs : List Int) : List Int := if bindOk bs && args.all termOk then args.map (termVal bs) else []
theorem boundL_length (args bs : List Int) : (boundL args bs).length ≤ args.length := by
  unfold boundL
  split <;> simp

end Go.Proofs.YtigkgheddngkeaaGreat
/-
  The walks of FactOk: the program's (with factFits) and the specification's.
-/
namespace Go.Proofs.YtigkgheddngkeaaGreat
open Go.RowKit

def constOk (x : Int) : Bool := decide (0 ≤ x ∧ x ≤ 5)
def factFits (ar : List Int) (f : LFact) : Bool := decide (0 ≤ f.1 ∧ f.1 < ar.length ∧ (f.2.length : Int) = ar.getD f.1.toNat 0) && f.2.all constOk
def factOk (ar : List Int) (f : LFact) : Bool := arityOk ar && factFits ar f

def ConstsTo (xs : List Int) (k : Nat) : Prop := ∀ j, j < k → constOk (xs.getD j 0) = true
theorem ConstsTo.step {xs : List Int} {k : Nat} (h : ConstsTo xs k) (e : constOk (xs.getD k 0) = true) : ConstsTo xs (k + 1) := fun j hj => by
  by_cases h2 : j = k
  · subst h2; exact e
  · exact h j (by omega)
theorem ConstsTo.all {xs : List Int} (h : ConstsTo xs xs.length) : xs.all constOk = true := by
  rw [List.all_eq_true]
  intro x hx
  obtain ⟨j, hj, rfl⟩ := List.getElem_of_mem hx
  have := h j hj
  simpa [hj] using this
theorem consts_not {xs : List Int} {k : Nat} (hk : k < xs.length) (e : constOk xs[k] = false) : xs.all constOk = false := by
  rw [List.all_eq_false]
  exact ⟨xs[k], List.getElem_mem hk, by simp [e]⟩

set_option maxHeartbeats 400000 in
theorem areConstants_any (v : Value) (xs : List Int) (B : Nat) (w : World) (h : RdInts w B v xs) (hn : xs.length ≤ 1048576) :
    Calls Tryz.prog 71 #[v] w fun e w' => e = .returned (.bool (xs.all constOk)) ∧ w = w' := by
  obtain ⟨A, c, rfl, hc, h2⟩ := h
  go_enter Tryz.func71, Tryz.ntmps71
  go_wp2_with (fail)
  go_loop [4, 7] (fun _ i => ∃ k : Nat, k ≤ xs.length ∧ i = .int .i64 k ∧ ConstsTo xs k) (fun _ i => xs.length - (intOf i).toNat)
  case atStart => exact ⟨0, Nat.zero_le _, rfl, fun j hj => absurd hj (by omega)⟩
  case round =>
    obtain ⟨k, hk, rfl, hs⟩ := hrel
    by_cases hlk : k < xs.length
    · obtain ⟨b2, o2, rfl, hbB2, hx2⟩ := h2 (by omega)
      have hck2 : w.cell? ⟨b2, o2 + k, none⟩ = some (.int .i64 xs[k]) := hx2 k hlk
      clear hx2 h2
      by_cases h0 : xs[k] < 0
      · have HE := Lib.hid (consts_not hlk (by simp [constOk]; omega))
        clear hs
        go_wp2_with (fail)
        go_ret
        exact ⟨ret_bool HE.out.symm, rfl⟩
      · have hd : decide (xs[k] < 0) = false := by simpa using h0
        by_cases h2 : 5 < xs[k]
        · have HE := Lib.hid (consts_not hlk (by simp [constOk]; omega))
          clear hs
          go_wp2_with (fail)
          go_ret
          exact ⟨ret_bool HE.out.symm, rfl⟩
        · have HS := Lib.hid (hs.step (by simp [hlk, constOk]; omega))
          clear hs
          go_wp2_with (fail)
          go_round
          case rel => exact ⟨k + 1, by omega, by go_num, HS.out⟩
          case measure => simp [intOf]; omega
    · have hkn : k = xs.length := by omega
      have HE := Lib.hid (show xs.all constOk = true from ConstsTo.all (by rw [← hkn]; exact hs))
      clear hkn hs h2
      go_wp2_with (fail)
      go_ret
      exact ⟨ret_bool HE.out.symm, rfl⟩

set_option maxHeartbeats 400000 in
set_option maxRecDepth 100000 in
theorem factFits_any (v v2 : Value) (ar : List Int) (f : LFact) (w : World) (h : RdInts w w.heap.size v ar) (h2 : RdFact w w.heap.size v2 f) (hn : f.2.length ≤ 1048576) :
    Calls Tryz.prog 50 #[v, v2] w fun e w' => e = .returned (.bool (factFits ar f)) ∧ Below w.heap.size w w' := by
  obtain ⟨pp, xs⟩ := f
  obtain ⟨A, c, rfl, hc, h⟩ := h
  obtain ⟨a, rfl, h2⟩ := h2
  have H2 := Lib.hid h2
  obtain ⟨A2, c2, rfl, hc2, _⟩ := h2
  by_cases h0 : pp < 0
  · have hd : decide (pp < 0) = true := by simpa using h0
    have HE := Lib.hid (show factFits ar (pp, xs) = false by simp [factFits]; omega)
    go_enter Tryz.func50, Tryz.ntmps50
    go_wp2_with (fail)
    go_quiet (fail)
    go_wp2_with (fail)
    go_ret
    exact ⟨ret_bool HE.out.symm, bdrewN (below1 _ _) _⟩
  · have hd : decide (pp < 0) = false := by simpa using h0
    obtain ⟨p, rfl⟩ := Int.eq_ofNat_of_zero_le (Int.not_lt.1 h0)
    by_cases h1 : (ar.length : Int) ≤ p
    · have hd1 : decide ((ar.length : Int) ≤ (p : Int)) = true := by simpa using h1
      have HE := Lib.hid (show factFits ar ((p : Int), xs) = false by simp [factFits]; omega)
      go_enter Tryz.func50, Tryz.ntmps50
      go_wp2_with (fail)
      go_quiet (fail)
      go_wp2_with (fail)
      go_ret
      exact ⟨ret_bool HE.out.symm, bdrewN (below1 _ _) _⟩
    · have hd1 : decide ((ar.length : Int) ≤ (p : Int)) = false := by simpa using h1
      have hlt : p < ar.length := by omega
      have hltI : (p : Int) < (ar.length : Int) := by omega
      obtain ⟨b, o, rfl, hbB, hx⟩ := h (by omega)
      have hck : ∀ O, (w.alloc O).cell? ⟨b, o + p, none⟩ = some (.int .i64 ar[p]) := fun O => (World.cell?_alloc_lt w O ⟨b, o + p, none⟩ hbB).trans (hx p hlt)
      by_cases h3 : (xs.length : Int) = ar[p]
      · have hd3 : ((xs.length : Int) != ar[p]) = false := by simp [h3]
        have H3 := Lib.hid (show factFits ar ((p : Int), xs) = xs.all constOk by simp [factFits, hlt, h3])
        clear h3 hx h
        go_enter Tryz.func50, Tryz.ntmps50
        go_wp2_with (fail)
        go_quiet (fail)
        go_wp2_with (fail)
        refine (areConstants_any _ xs _ _ ((H2.out.below (below1 w _) (Nat.le_refl _)).below (bdrewN (Below.refl _ _) _) (Nat.le_refl _)) hn).mono ?_
        rintro e w1 ⟨rfl, rfl⟩
        go_wp2_with (fail)
        go_ret
        exact ⟨ret_bool H3.out.symm, bdrewN (below1 _ _) _⟩
      · have hd3 : ((xs.length : Int) != ar[p]) = true := by simp [h3]
        have HE := Lib.hid (show factFits ar ((p : Int), xs) = false by simp [factFits, hlt, h3])
        clear h3 hx h
        go_enter Tryz.func50, Tryz.ntmps50
        go_wp2_with (fail)
        go_quiet (fail)
        go_wp2_with (fail)
        go_ret
        exact ⟨ret_bool HE.out.symm, bdrewN (below1 _ _) _⟩

end Go.Proofs.YtigkgheddngkeaaGreat
/-
  HeadOf, plain mathematics; blocks that growth leaves alone.
-/
namespace Go.Proofs.YtigkgheddngkeaaGreat
open Go.RowKit

def headOk (a : LFact) (bs : List Int) : Bool := (bindOk bs && a.2.all termOk) && (a.2.map (termVal bs)).all constOk
def headOf (a : LFact) (bs : List Int) : LFact := if headOk a bs then (a.1, a.2.map (termVal bs)) else (0, [])
theorem headOk_bind {a : LFact} {bs : List Int} (h : bindOk bs = false) : headOk a bs = false := by unfold headOk; rw [h]; rfl
theorem headOk_terms {a : LFact} {bs : List Int} (h : a.2.all termOk = false) : headOk a bs = false := by unfold headOk; rw [h, Bool.and_false]; rfl
theorem headOk_vals {a : LFact} {bs : List Int} (h : (a.2.map (termVal bs)).all constOk = false) : headOk a bs = false := by unfold headOk; rw [h, Bool.and_false]
theorem headOk_yes {a : LFact} {bs : List Int} (h1 : bindOk bs = true) (h2 : a.2.all termOk = true) (h3 : (a.2.map (termVal bs)).all constOk = true) : headOk a bs = true := by unfold headOk; rw [h1, h2, h3]; rfl
theorem headOf_no {a : LFact} {bs : List Int} (h : headOk a bs = false) : headOf a bs = (0, []) := by unfold headOf; rw [h]; rfl
theorem headOf_yes {a : LFact} {bs : List Int} (h : headOk a bs = true) : headOf a bs = (a.1, a.2.map (termVal bs)) := by unfold headOf; rw [h]; rfl
theorem headOf_length (a : LFact) (bs : List Int) : (headOf a bs).2.length ≤ a.2.length := by
  unfold headOf
  split <;> simp

theorem Blk.grown {w w' : World} {g : Nat} {t : TypeId} {cs : Array Value} {row : Option Nat} (h : Blk w g t cs) (hg : w.grownBy w' row) (hne : row ≠ some g) : Blk w' g t cs := (hg.block g h.lt (fun e => hne e.symm)).trans h
/-- A row that is appended to lies in none of the blocks ahead. -/
theorem OwnInts.apart {w : World} {lo hi : Nat} {v : Value} {xs : List Int} (h : OwnInts w lo hi v xs) {g : Nat} (hg : g < lo) : v.ownBlock ≠ some g := fun e => by have := h.lt e; omega

end Go.Proofs.YtigkgheddngkeaaGreat
/-
  The walks of isTerm, areTerms, l2Terms.
-/
namespace Go.Proofs.YtigkgheddngkeaaGreat
open Go.RowKit

theorem isTerm_any (n : Int) (w : World) : Calls Tryz.prog 127 #[.int .i64 n] w fun e w' => e = .returned (.bool (termOk n)) ∧ w = w' := by
  by_cases h1 : isVarB n = true
  · have HE := Lib.hid (show termOk n = true by simp [isVarB] at h1; simp [termOk]; omega)
    go_enter Tryz.func127, Tryz.ntmps127
    go_wp2_with (go_at_call 112; refine (isVar_is h1 _).mono ?_; rintro e w' ⟨rfl, rfl⟩)
    go_ret
    exact ⟨ret_bool HE.out.symm, rfl⟩
  · have h2 : isVarB n = false := by simpa using h1
    by_cases h3 : 0 ≤ n
    · have hd : decide (0 ≤ n) = true := by simpa using h3
      by_cases h4 : n ≤ 5
      · have HE := Lib.hid (show termOk n = true by simp [termOk]; omega)
        go_enter Tryz.func127, Tryz.ntmps127
        go_wp2_with (go_at_call 112; refine (isVar_is h2 _).mono ?_; rintro e w' ⟨rfl, rfl⟩)
        go_ret
        exact ⟨ret_bool HE.out.symm, rfl⟩
      · have HE := Lib.hid (show termOk n = false by simp [termOk]; omega)
        go_enter Tryz.func127, Tryz.ntmps127
        go_wp2_with (go_at_call 112; refine (isVar_is h2 _).mono ?_; rintro e w' ⟨rfl, rfl⟩)
        go_ret
        exact ⟨ret_bool (by rw [HE.out]; simp; omega), rfl⟩
    · have hd : decide (0 ≤ n) = false := by simpa using h3
      have HE := Lib.hid (show termOk n = false by simp [isVarB] at h2; simp [termOk]; omega)
      go_enter Tryz.func127, Tryz.ntmps127
      go_wp2_with (go_at_call 112; refine (isVar_is h2 _).mono ?_; rintro e w' ⟨rfl, rfl⟩)
      go_ret
      exact ⟨ret_bool HE.out.symm, rfl⟩

theorem isTerm_is {n : Int} {b : Bool} (h : termOk n = b) (w : World) : Calls Tryz.prog 127 #[.int .i64 n] w fun e w' => e = .returned (.bool b) ∧ w = w' := h ▸ isTerm_any n w

set_option maxHeartbeats 400000 in
theorem areTerms_any (v : Value) (xs : List Int) (B : Nat) (w : World) (h : RdInts w B v xs) (hr : xs.length ≤ 1048576) :
    Calls Tryz.prog 109 #[v] w fun e w' => e = .returned (.bool (xs.all termOk)) ∧ w = w' := by
  obtain ⟨A, c, rfl, hc, ha⟩ := h
  go_enter Tryz.func109, Tryz.ntmps109
  go_wp2_with (fail)
  go_loop [4, 7] (fun _ i => ∃ k : Nat, k ≤ xs.length ∧ i = .int .i64 k ∧ AllTo termOk xs k) (fun _ i => xs.length - (intOf i).toNat)
  case atStart => exact ⟨0, Nat.zero_le _, rfl, AllTo.start⟩
  case round =>
    obtain ⟨k, hk, rfl, hs⟩ := hrel
    by_cases hlt : k < xs.length
    · obtain ⟨b, o, rfl, hbB, hx⟩ := ha (by omega)
      have hck : w.cell? ⟨b, o + k, none⟩ = some (.int .i64 xs[k]) := hx k hlt
      clear hx ha
      by_cases he : termOk xs[k] = true
      · have HS := Lib.hid (hs.step hlt he)
        clear hs
        go_wp2_with (go_at_call 127; refine (isTerm_is he _).mono ?_; rintro e w' ⟨rfl, rfl⟩)
        go_round
        case rel => exact ⟨k + 1, by omega, by go_num, HS.out⟩
        case measure => simp [intOf]; omega
      · have he' : termOk xs[k] = false := by simpa using he
        have HE := Lib.hid (all_not hlt he')
        clear hs he
        go_wp2_with (go_at_call 127; refine (isTerm_is he' _).mono ?_; rintro e w' ⟨rfl, rfl⟩)
        go_ret
        exact ⟨ret_bool HE.out.symm, rfl⟩
    · have HE := Lib.hid (hs.done (by omega))
      clear hs ha
      go_wp2_with (fail)
      go_ret
      exact ⟨ret_bool HE.out.symm, rfl⟩

set_option maxHeartbeats 400000 in
theorem l2Terms_any (v : Value) (xs : List Int) (B : Nat) (w : World) (h : RdInts w B v xs) (hr : xs.length ≤ 1048576) :
    Calls Tryz.prog 107 #[v] w fun e w' => e = .returned (.bool (xs.all termOk)) ∧ w = w' := by
  obtain ⟨A, c, rfl, hc, ha⟩ := h
  go_enter Tryz.func107, Tryz.ntmps107
  go_wp2_with (fail)
  go_loop [3] (fun i => ∃ k : Nat, k ≤ xs.length ∧ i = .int .i64 k ∧ AllTo termOk xs k) (fun i => xs.length - (intOf i).toNat)
  case atStart => exact ⟨0, Nat.zero_le _, rfl, AllTo.start⟩
  case round =>
    obtain ⟨k, hk, rfl, hs⟩ := hrel
    by_cases hlt : k < xs.length
    · obtain ⟨b, o, rfl, hbB, hx⟩ := ha (by omega)
      have hck : w.cell? ⟨b, o + k, none⟩ = some (.int .i64 xs[k]) := hx k hlt
      clear hx ha
      by_cases he : -4 ≤ xs[k] ∧ xs[k] ≤ 5
      · have HS := Lib.hid (hs.step hlt (by simpa [termOk] using he))
        have HK := Lib.hid (l1In_yes he)
        clear hs he
        go_wp2_with (go_at_call 86; refine (HK.out _).mono ?_; rintro e w' ⟨rfl, rfl⟩)
        go_round
        case rel => exact ⟨k + 1, by omega, by go_num, HS.out⟩
        case measure => simp [intOf]; omega
      · have HE := Lib.hid (all_not hlt (show termOk xs[k] = false by simpa [termOk] using he))
        have HK := Lib.hid (l1In_no he)
        clear hs he
        go_wp2_with (go_at_call 86; refine (HK.out _).mono ?_; rintro e w' ⟨rfl, rfl⟩)
        go_ret
        exact ⟨ret_bool HE.out.symm, rfl⟩
    · have HE := Lib.hid (hs.done (by omega))
      clear hs ha
      go_wp2_with (fail)
      go_ret
      exact ⟨ret_bool HE.out.symm, rfl⟩

end Go.Proofs.YtigkgheddngkeaaGreat
/-
  The specification's l3Bind, l3Term, Bound, l3Copy.
-/
namespace Go.Proofs.YtigkgheddngkeaaGreat
open Go.RowKit

set_option maxHeartbeats 400000 in
theorem l3Bind_any (v : Value) (bs : List Int) (B : Nat) (w : World) (h : RdInts w B v bs) (hr : bs.length ≤ 1048576) :
    Calls Tryz.prog 106 #[v] w fun e w' => e = .returned (.bool (bindOk bs)) ∧ w = w' := by
  obtain ⟨A, c, rfl, hc, ha⟩ := h
  go_enter Tryz.func106, Tryz.ntmps106
  go_wp2_with (fail)
  go_loop [3] (fun i => ∃ k : Nat, k ≤ bs.length ∧ i = .int .i64 k ∧ AllTo hasB bs k) (fun i => bs.length - (intOf i).toNat)
  case atStart => exact ⟨0, Nat.zero_le _, rfl, AllTo.start⟩
  case round =>
    obtain ⟨k, hk, rfl, hs⟩ := hrel
    by_cases hlt : k < bs.length
    · obtain ⟨b, o, rfl, hbB, hx⟩ := ha (by omega)
      have hck : w.cell? ⟨b, o + k, none⟩ = some (.int .i64 bs[k]) := hx k hlt
      clear hx ha
      by_cases he : -1 ≤ bs[k] ∧ bs[k] ≤ 5
      · have HS := Lib.hid (hs.step hlt (by simpa [hasB] using he))
        have HK := Lib.hid (l1In_yes he)
        clear hs he
        go_wp2_with (go_at_call 86; refine (HK.out _).mono ?_; rintro e w' ⟨rfl, rfl⟩)
        go_round
        case rel => exact ⟨k + 1, by omega, by go_num, HS.out⟩
        case measure => simp [intOf]; omega
      · have HE := Lib.hid (show bindOk bs = false by simp [bindOk, all_not hlt (show hasB bs[k] = false by simpa [hasB] using he)])
        have HK := Lib.hid (l1In_no he)
        clear hs he
        go_wp2_with (go_at_call 86; refine (HK.out _).mono ?_; rintro e w' ⟨rfl, rfl⟩)
        go_ret
        exact ⟨ret_bool HE.out.symm, rfl⟩
    · have HE := Lib.hid (hs.done (by omega))
      clear hs ha
      by_cases hl : bs.length = 4
      · have hl1 : ((bs.length : Int) == 4) = true := by simp; omega
        have HB := Lib.hid (bindOk_iff hl HE.out)
        clear hl
        go_wp2_with (fail)
        go_ret
        exact ⟨ret_bool HB.out.symm, rfl⟩
      · have hl1 : ((bs.length : Int) == 4) = false := by simp; omega
        have HB := Lib.hid (show bindOk bs = false by simp [bindOk, hl])
        clear hl
        go_wp2_with (fail)
        go_ret
        exact ⟨ret_bool HB.out.symm, rfl⟩

theorem l3Bind_is {bs : List Int} {ok : Bool} (hok : bindOk bs = ok) (v : Value) (B : Nat) (w : World) (h : RdInts w B v bs) (hr : bs.length ≤ 1048576) :
    Calls Tryz.prog 106 #[v] w fun e w' => e = .returned (.bool ok) ∧ w = w' := hok ▸ l3Bind_any v bs B w h hr

set_option maxHeartbeats 400000 in
theorem l3Term_any (v : Value) (bs : List Int) (t : Int) (B : Nat) (w : World) (h : RdInts w B v bs) (hb : bs.length = 4) (ht : termOk t = true) :
    Calls Tryz.prog 108 #[.int .i64 t, v] w fun e w' => e = .returned (.int .i64 (termVal bs t)) ∧ w = w' := by
  obtain ⟨A, c, rfl, hc, ha⟩ := h
  have htb := termOk_at ht
  by_cases h0 : 0 ≤ t
  · have hd : decide (0 ≤ t) = true := by simpa using h0
    have HE := Lib.hid (termVal_const (bs := bs) h0).symm
    go_enter Tryz.func108, Tryz.ntmps108
    go_wp2_with (fail)
    go_ret
    exact ⟨ret_int HE.out, rfl⟩
  · have hd : decide (0 ≤ t) = false := by simpa using h0
    obtain ⟨j, hj4, rfl⟩ : ∃ j : Nat, j < bs.length ∧ t = -1 - (j : Int) := ⟨(-1 - t).toNat, by omega, by omega⟩
    obtain ⟨b, o, rfl, hbB, hx⟩ := ha (by omega)
    have hck : w.cell? ⟨b, o + j, none⟩ = some (.int .i64 bs[j]) := hx j hj4
    have hjI : (j : Int) < (bs.length : Int) := by omega
    have HE := Lib.hid (show bs[j] = termVal bs (-1 - (j : Int)) by
      rw [termVal_var (by omega), show (-1 - (-1 - (j : Int))).toNat = j by omega]
      simp [hj4])
    have hee : -1 - (-1 - (j : Int)) = (j : Int) := by omega
    clear hx ha hb
    go_enter Tryz.func108, Tryz.ntmps108
    go_wp2_with (fail)
    go_ret
    exact ⟨ret_int HE.out, rfl⟩

end Go.Proofs.YtigkgheddngkeaaGreat
/-
  The walks of szLit, toLit, eqLit, szLitS, toLitS, eqLitS.
-/
namespace Go.Proofs.YtigkgheddngkeaaGreat
open Go.RowKit

set_option maxHeartbeats 400000 in
theorem szLit_any (v : Value) (l : LLit) (left : Int) (w : World) (h : RdLit w w.heap.size v l) (h0 : 0 ≤ left) (hl : left ≤ 1048576) (hn : l.2.2.length ≤ 9223372036854775807) :
    Calls Tryz.prog 62 #[v, .int .i64 left] w fun e w' => e = .returned (.int .i64 (szV left l.2.2.length)) ∧ Below w.heap.size w w' := by
  obtain ⟨a, rfl, h⟩ := h
  have H := Lib.hid h
  obtain ⟨A, c, rfl, hc, _⟩ := h
  have hcs := szV_cases left l.2.2.length
  go_enter Tryz.func62, Tryz.ntmps62
  go_wp2_with (fail)
  refine (szAtom_any _ l.2 _ _ ⟨_, rfl, H.out.on (below1 _ _)⟩ h0 hl hn).mono ?_
  rintro e w1 ⟨rfl, hb⟩
  have hB := bthen (below1 _ _) hb
  rcases hcs with ⟨e1, _⟩ | ⟨e1, _⟩
  · rw [e1]
    have HV := Lib.hid e1
    clear e1
    go_wp2_with (fail)
    go_ret
    exact ⟨ret_int HV.out.symm, hB⟩
  · have h1 : ¬ szV left l.2.2.length < 0 := by omega
    go_wp2_with (fail)
    go_ret
    exact ⟨rfl, hB⟩

set_option maxHeartbeats 400000 in
theorem toLit_any (v : Value) (l : LLit) (w : World) (h : RdLit w w.heap.size v l) (hn : l.2.2.length * 8 ≤ 140737488351232) :
    Calls Tryz.prog 69 #[v] w fun e w' => ∃ A' c', e = .returned (.agg #[.int .i64 l.1, .int .i64 l.2.1, .slice A' l.2.2.length c']) ∧ OwnInts w' w.heap.size w'.heap.size (.slice A' l.2.2.length c') l.2.2 ∧ Below w.heap.size w w' := by
  obtain ⟨a, rfl, h⟩ := h
  have H := Lib.hid h
  obtain ⟨A, c, rfl, hc, _⟩ := h
  go_enter Tryz.func69, Tryz.ntmps69
  go_wp2_with (fail)
  refine (toAtom_any _ l.2 _ ⟨_, rfl, H.out.on (below3 _ _ _ _)⟩ hn).mono ?_
  rintro e w4 ⟨A4, c4, rfl, ho, hb⟩
  have hB := bthen (below3 _ _ _ _) hb
  have b1 : Blk w4 (w.heap.size + 1) 96 #[.int .i64 0, .int .i64 0, .slice none 0 0] := ((by simpa using (Blk.new (w.alloc (Obj.cells #[Value.int IntKind.i64 l.1, Value.int IntKind.i64 l.2.1, Value.slice A l.2.2.length c] 112)) _ _).alloc _ : Blk _ _ _ _)).below hb (by simp)
  have b2 : Blk w4 (w.heap.size + 2) 96 #[.int .i64 l.1, .int .i64 0, .slice none 0 0] := ((by simpa using Blk.new ((w.alloc (Obj.cells #[Value.int IntKind.i64 l.1, Value.int IntKind.i64 l.2.1, Value.slice A l.2.2.length c] 112)).alloc (Obj.cells #[.int .i64 0, .int .i64 0, .slice none 0 0] 96)) _ _ : Blk _ _ _ _)).below hb (by simp)
  have b1c0 : w4.cell? ⟨w.heap.size + 1, 0, none⟩ = some (.int .i64 0) := b1.cell 0
  have b1c1 : w4.cell? ⟨w.heap.size + 1, 1, none⟩ = some (.int .i64 0) := b1.cell 1
  have b1c2 : w4.cell? ⟨w.heap.size + 1, 2, none⟩ = some (.slice none 0 0) := b1.cell 2
  have b2c0 : w4.cell? ⟨w.heap.size + 2, 0, none⟩ = some (.int .i64 l.1) := b2.cell 0
  have b2c1 : w4.cell? ⟨w.heap.size + 2, 1, none⟩ = some (.int .i64 0) := b2.cell 1
  have b2c2 : w4.cell? ⟨w.heap.size + 2, 2, none⟩ = some (.slice none 0 0) := b2.cell 2
  have b1f0 := b1.frozen 0
  have b1f1 := b1.frozen 1
  have b1f2 := b1.frozen 2
  have b2f0 := b2.frozen 0
  have b2f1 := b2.frozen 1
  have b2f2 := b2.frozen 2
  go_wp2_with (fail)
  refine bodyPost_ret (v := .agg #[.int .i64 l.1, .int .i64 l.2.1, .slice A4 l.2.2.length c4]) (by simp [results, Tryz.results69, go_sem, b1c0, b1c1, b1c2]) rfl ⟨_, _, rfl, ?_, ?_⟩
  · refine OwnInts.mono (OwnInts.keep (lo := (((w.alloc (Obj.cells #[Value.int IntKind.i64 l.1, Value.int IntKind.i64 l.2.1, Value.slice A l.2.2.length c] 112)).alloc (Obj.cells #[.int .i64 0, .int .i64 0, .slice none 0 0] 96)).alloc (Obj.cells #[.int .i64 l.1, .int .i64 0, .slice none 0 0] 96)).heap.size) (hi := w4.heap.size) ho ?_) (by simp; omega) (by simp)
    intro g h1 h2
    simp at h1
    repeat (rw [Below.heap_setCell _ _ _ _ (by show g ≠ _; simp only []; omega)])
  · repeat (first | exact hB | refine Below.setCell ?_ (by simp <;> omega) _)

set_option maxHeartbeats 400000 in
theorem eqLit_any (v v2 : Value) (f g : LLit) (w : World) (h : RdLit w w.heap.size v f) (h2 : RdLit w w.heap.size v2 g) (hn : f.2.2.length * 8 ≤ 140737488351232) (hn2 : g.2.2.length * 8 ≤ 140737488351232) :
    Calls Tryz.prog 84 #[v, v2] w fun e w' => e = .returned (.bool (decide (f = g))) ∧ Below w.heap.size w w' := by
  obtain ⟨a, rfl, h⟩ := h
  have H := Lib.hid h
  obtain ⟨A, c, rfl, hc, _⟩ := h
  obtain ⟨a, rfl, h2⟩ := h2
  have H2 := Lib.hid h2
  obtain ⟨A2, c2, rfl, hc2, _⟩ := h2
  by_cases hp : f.1 = g.1
  · have hpb : (f.1 != g.1) = false := by simp [hp]
    have HE := Lib.hid (show decide (f = g) = decide (f.2 = g.2) by simp [Prod.ext_iff, hp])
    clear hp
    go_enter Tryz.func84, Tryz.ntmps84
    go_wp2_with (fail)
    refine (eqAtom_any _ _ f.2 g.2 _ ⟨_, rfl, H.out.on (below2 _ _ _)⟩ ⟨_, rfl, H2.out.on (below2 _ _ _)⟩ hn hn2).mono ?_
    rintro e w4 ⟨rfl, hb⟩
    have hB := bthen (below2 _ _ _) hb
    by_cases hd : f.2 = g.2
    · have hdb : decide (f.2 = g.2) = true := by simp [hd]
      have HD := Lib.hid hdb
      clear hd
      go_wp2_with (fail)
      go_ret
      exact ⟨ret_bool (by rw [HE.out, HD.out]), hB⟩
    · have hdb : decide (f.2 = g.2) = false := by simp [hd]
      have HD := Lib.hid hdb
      clear hd
      go_wp2_with (fail)
      go_ret
      exact ⟨ret_bool (by rw [HE.out, HD.out]), hB⟩
  · have hpb : (f.1 != g.1) = true := by simp [hp]
    have HE := Lib.hid (show decide (f = g) = false by simp [Prod.ext_iff, hp])
    clear hp
    go_enter Tryz.func84, Tryz.ntmps84
    go_wp2_with (fail)
    go_ret
    exact ⟨ret_bool HE.out.symm, below2 _ _ _⟩

theorem Tryz.infoLit : (Tryz.prog.info? 96).map (fun i => (i.zero, i.size, i.bytes)) = some (some (.agg #[.int .i64 0, .int .i64 0, .slice none 0 0]), 3, 40) := by kernel_rfl

set_option maxHeartbeats 400000 in
theorem toLitS_any (v : Value) (ls : List LLit) (w : World) (h : RdLits w w.heap.size v ls) (hl : ls.length ≤ 1048576) (hn : totL ls ≤ 1048576) :
    Calls Tryz.prog 47 #[v] w fun e w' => ∃ A' c', e = .returned (.slice A' ls.length c') ∧ OwnLits w' w.heap.size w'.heap.size (.slice A' ls.length c') ls ∧ Below w.heap.size w w' := by
  obtain ⟨i0, hi0, hz0, hz1, hz2⟩ := info_parts Tryz.infoLit
  have hmk := fun W => run_make_rowN (P := Tryz.prog) 67 96 i0 (.agg #[.int .i64 0, .int .i64 0, .slice none 0 0]) Tryz.underlying67 hi0 hz0 .i64 .i64 ls.length ls.length (Nat.le_refl _) (by rw [hz2]; omega) (by omega) W
  rw [hz1] at hmk
  simp only [Value.cells] at hmk
  have H := Lib.hid h
  obtain ⟨A, c, rfl, hc, _⟩ := h
  go_enter Tryz.func47, Tryz.ntmps47
  go_wp2_with (fail)
  go_loopw [4] (fun i wr => ∃ (k : Nat), k ≤ ls.length ∧ i = .int .i64 k ∧ ToRow 96 (.int .i64 0) (.int .i64 0) (.slice none 0 0) OLit w wr ls k) (fun i _ => ls.length - (intOf i).toNat)
  case atStart => exact ⟨0, Nat.zero_le _, rfl, ToRow.start w ls⟩
  case round =>
    obtain ⟨k, hk, rfl, hr⟩ := hrel
    by_cases hlt : k < ls.length
    · obtain ⟨b, o, u0, u1, u2, rfl, hbB, k0, k1, k2, rfl, rfl, k3⟩ := (H.out.on hr.below).get hlt
      have HA := Lib.hid k3
      obtain ⟨A3, c3, rfl, hc4, _⟩ := k3
      have hln := len_le_totL ls k hlt
      go_wp2_with (fail)
      refine (toLit_any _ ls[k] _ ⟨_, rfl, HA.out⟩ (by omega)).mono ?_
      rintro e w4 ⟨A4, c4, rfl, ho4, hb4⟩
      obtain ⟨r1, r2, r3, r4, r5, r6⟩ := hr.room hlt hb4
      have hstep := hr.step (O := OLit) OLit.keep OLit.mono hlt hb4 (u0 := .int .i64 ls[k].1) (u1 := .int .i64 ls[k].2.1) ⟨rfl, rfl, ho4⟩
      go_wp2_with (fail)
      go_roundw
      case rel => exact ⟨k + 1, by omega, by go_num, hstep⟩
      case measure => simp [intOf]; omega
    · have hkn : k = ls.length := by omega
      have HO := Lib.hid (show OwnLits wr w.heap.size wr.heap.size (.slice (some ⟨w.heap.size, 0, none⟩) ls.length ls.length) ls from ToRow.done (O := OLit) OLit.mono (by have h' := hr; rw [hkn] at h'; exact h'))
      have hbe := hr.below
      clear hkn hr
      go_wp2_with (fail)
      go_ret
      exact ⟨_, _, rfl, HO.out, hbe⟩

/-- 'the first k of both are the same', kept from the walk. -/
def TSame {α : Type} (xs ys : List α) (k : Nat) : Prop := xs.take k = ys.take k
theorem TSame.step {α : Type} {xs ys : List α} {k : Nat} (h : TSame xs ys k) (h1 : k < xs.length) (h2 : k < ys.length) (e : xs[k] = ys[k]) : TSame xs ys (k + 1) := by
  unfold TSame at h ⊢
  rw [take_snoc xs k h1, take_snoc ys k h2, h, e]
theorem TSame.eq {α : Type} {xs ys : List α} (h : TSame xs ys xs.length) (hl : xs.length = ys.length) : xs = ys := by
  unfold TSame at h
  rwa [List.take_length, hl, List.take_length] at h

set_option maxHeartbeats 400000 in
set_option maxRecDepth 100000 in
theorem eqLitS_any (va vb : Value) (xs ys : List LLit) (w : World) (ha : RdLits w w.heap.size va xs) (hb : RdLits w w.heap.size vb ys) (hx : xs.length ≤ 1048576) (hy : ys.length ≤ 1048576) (htx : totL xs ≤ 1048576) (hty : totL ys ≤ 1048576) :
    Calls Tryz.prog 61 #[va, vb] w fun e w' => e = .returned (.bool (decide (xs = ys))) ∧ Below w.heap.size w w' := by
  have HX := Lib.hid ha
  have HY := Lib.hid hb
  obtain ⟨A, c, rfl, hc, _⟩ := ha
  obtain ⟨A2, c2, rfl, hc2, _⟩ := hb
  by_cases hl : xs.length = ys.length
  · have hl1 : ((xs.length : Int) != (ys.length : Int)) = false := by simp [hl]
    have HL := Lib.hid hl
    clear hl
    go_enter Tryz.func61, Tryz.ntmps61
    go_wp2_with (fail)
    go_loopw [5] (fun i wr => ∃ k : Nat, k ≤ xs.length ∧ i = .int .i64 k ∧ TSame xs ys k ∧ Below w.heap.size w wr) (fun i _ => xs.length - (intOf i).toNat)
    case atStart => exact ⟨0, Nat.zero_le _, rfl, rfl, Below.refl _ _⟩
    case round =>
      obtain ⟨k, hk, rfl, hs, hbe⟩ := hrel
      by_cases hlt : k < xs.length
      · have hlt2 : k < ys.length := by have := HL.out; omega
        obtain ⟨b, o, u0, u1, u2, rfl, hbB, k0, k1, k2, rfl, rfl, p3⟩ := (HX.out.on hbe).get hlt
        obtain ⟨b2, o2, v0, v1, v2, rfl, hbB2, m0, m1, m2, rfl, rfl, q3⟩ := (HY.out.on hbe).get hlt2
        have hln := len_le_totL xs k hlt
        have hln2 := len_le_totL ys k hlt2
        have HA := Lib.hid p3
        have HA2 := Lib.hid q3
        obtain ⟨A3, c3, rfl, hc3, _⟩ := p3
        obtain ⟨A4, c4, rfl, hc4, _⟩ := q3
        go_wp2_with (fail)
        go_still_tail 8, (by kernel_rfl)
        change wpList _ _ _ _ _ wr.drew
        obtain ⟨w2, hw2⟩ : ∃ w2, w2 = wr.drew := ⟨_, rfl⟩
        rw [← hw2]
        have hbe2 : Below wr.heap.size wr w2 := by rw [hw2]; exact (Below.refl _ _).drew
        clear hw2
        go_wp2_with (fail)
        refine (eqLit_any _ _ xs[k] ys[k] _ ⟨_, rfl, HA.out.on hbe2⟩ ⟨_, rfl, HA2.out.on hbe2⟩ (by omega) (by omega)).mono ?_
        rintro e w4 ⟨rfl, hb4⟩
        have hB4 := bthen hbe (bthen hbe2 hb4)
        by_cases he : xs[k] = ys[k]
        · have hdb : decide (xs[k] = ys[k]) = true := by simp [he]
          have HS := Lib.hid (hs.step hlt hlt2 he)
          clear he hs
          go_wp2_with (fail)
          go_roundw
          case rel => exact ⟨k + 1, by omega, by go_num, HS.out, hB4⟩
          case measure => simp [intOf]; omega
        · have hdb : decide (xs[k] = ys[k]) = false := by simp [he]
          have HE := Lib.hid (show xs ≠ ys from fun e => he (by subst e; rfl))
          clear he hs
          go_wp2_with (fail)
          go_ret
          exact ⟨ret_bool (by simp [HE.out]), hB4⟩
      · have hkn : k = xs.length := by omega
        have HE := Lib.hid (show xs = ys from TSame.eq (by rw [← hkn]; exact hs) HL.out)
        clear hkn hs
        go_wp2_with (fail)
        go_ret
        exact ⟨ret_bool (by simp [HE.out]), hbe⟩
  · have hl1 : ((xs.length : Int) != (ys.length : Int)) = true := by simp; omega
    have HE := Lib.hid (show xs ≠ ys from fun e => hl (by rw [e]))
    clear hl
    go_enter Tryz.func61, Tryz.ntmps61
    go_wp2_with (fail)
    go_ret
    exact ⟨ret_bool (by simp [HE.out]), Below.refl _ _⟩

/-- What szLitS answers: -1, or what is left when the literals and all their integers are taken. -/
def SzRes (r left : Int) (n : Nat) : Prop := r = -1 ∨ (0 ≤ r ∧ r + n = left)
def SzTo (r left : Int) (n m : Nat) : Prop := 0 ≤ r ∧ r + n + m = left

set_option maxHeartbeats 400000 in
theorem szLitS_any (v : Value) (ls : List LLit) (left : Int) (w : World) (h : RdLits w w.heap.size v ls) (h0 : 0 ≤ left) (hl : left ≤ 1048576) (hn : ls.length ≤ 9223372036854775807) (hm : ∀ k (h : k < ls.length), ls[k].2.2.length ≤ 9223372036854775807) :
    Calls Tryz.prog 40 #[v, .int .i64 left] w fun e w' => ∃ r, e = .returned (.int .i64 r) ∧ SzRes r left (ls.length + totL ls) ∧ Below w.heap.size w w' := by
  have H := Lib.hid h
  obtain ⟨A, c, rfl, hc, _⟩ := h
  by_cases hneg : left - (ls.length : Int) < 0
  · go_enter Tryz.func40, Tryz.ntmps40
    go_wp2_with (fail)
    go_ret
    exact ⟨_, rfl, .inl rfl, Below.refl _ _⟩
  · go_enter Tryz.func40, Tryz.ntmps40
    go_wp2_with (fail)
    go_loopw [1, 5] (fun l i wr => ∃ (k : Nat) (r : Int), k ≤ ls.length ∧ i = .int .i64 k ∧ l = .int .i64 r ∧ SzTo r left ls.length (totL (ls.take k)) ∧ Below w.heap.size w wr) (fun _ i _ => ls.length - (intOf i).toNat)
    case atStart => exact ⟨0, _, Nat.zero_le _, rfl, rfl, ⟨by omega, by simp [totL]⟩, Below.refl _ _⟩
    case round =>
      obtain ⟨k, r, hk, rfl, rfl, hs, hbe⟩ := hrel
      by_cases hlt : k < ls.length
      · obtain ⟨b, o, u0, u1, u2, rfl, hbB, k0, k1, k2, rfl, rfl, p3⟩ := (H.out.on hbe).get hlt
        have HA := Lib.hid p3
        obtain ⟨A3, c3, rfl, hc3, _⟩ := p3
        have hmk := hm k hlt
        have htk := totL_take ls k hlt
        have hcs := szV_cases r ls[k].2.2.length
        have hr0 := hs.1
        have hr1 := hs.2
        have HT := Lib.hid (And.intro htk hr1)
        clear htk hr1
        go_wp2_with (fail)
        refine (szLit_any _ ls[k] r _ ⟨_, rfl, HA.out⟩ hr0 (by have := HT.out; omega) hmk).mono ?_
        rintro e w4 ⟨rfl, hb4⟩
        have hB4 := bthen hbe hb4
        rcases hcs with ⟨e1, _⟩ | ⟨e1, e2⟩
        · rw [e1]
          clear e1
          go_wp2_with (fail)
          go_ret
          exact ⟨_, rfl, .inl rfl, hB4⟩
        · have h1 : ¬ szV r ls[k].2.2.length < 0 := by omega
          have HS := Lib.hid (show SzTo (szV r ls[k].2.2.length) left ls.length (totL (ls.take (k + 1))) from ⟨e1, by have := HT.out; omega⟩)
          clear e2
          go_wp2_with (fail)
          go_roundw
          case rel => exact ⟨k + 1, _, by omega, by go_num, rfl, HS.out, hB4⟩
          case measure => simp [intOf]; omega
      · have hkn : k = ls.length := by omega
        have HE := Lib.hid (show SzRes r left (ls.length + totL ls) from .inr ⟨hs.1, by have := hs.2; rw [hkn, List.take_length] at this; omega⟩)
        clear hkn hs
        go_wp2_with (fail)
        go_ret
        exact ⟨_, rfl, HE.out, hbe⟩

end Go.Proofs.YtigkgheddngkeaaGreat
/-
  Sets of variables: as words of four bits (the program's), as rows of four bools (the specification's). The words, and the walks of argVars, bodyVars, ruleVars.
-/
namespace Go.Proofs.YtigkgheddngkeaaGreat
open Go.RowKit

/-- One more term's variable. -/
def orV (m : Nat) (t : Int) : Nat := if isVarB t then m ||| 2 ^ (-1 - t).toNat else m
def maskFrom (m : Nat) (xs : List Int) : Nat := xs.foldl orV m
def maskOf (xs : List Int) : Nat := maskFrom 0 xs
def bodyMask (ls : List LLit) : Nat := ls.foldl (fun m l => m ||| maskOf l.2.2) 0
def yesMask (ls : List LLit) : Nat := ls.foldl (fun m l => if l.1 = 0 then m ||| maskOf l.2.2 else m) 0
def ruleMask (r : LRule) : Nat := maskOf r.1.2 ||| bodyMask r.2

theorem orV_or (a b : Nat) (t : Int) : orV (a ||| b) t = a ||| orV b t := by
  unfold orV
  split
  · rw [Nat.or_assoc]
  · rfl
theorem maskFrom_or (a b : Nat) : ∀ xs : List Int, maskFrom (a ||| b) xs = a ||| maskFrom b xs
  | [] => rfl
  | t :: xs => by
    show maskFrom (orV (a ||| b) t) xs = a ||| maskFrom (orV b t) xs
    rw [orV_or, maskFrom_or a (orV b t) xs]
theorem maskFrom_eq (a : Nat) (xs : List Int) : maskFrom a xs = a ||| maskOf xs := by
  have := maskFrom_or a 0 xs
  rwa [Nat.or_zero] at this
theorem or_lt16 {a b : Nat} (ha : a < 16) (hb : b < 16) : a ||| b < 16 := Nat.or_lt_two_pow (n := 4) ha hb
theorem pow_var_lt {t : Int} (h : isVarB t = true) : 2 ^ (-1 - t).toNat < 16 := by
  have h4 : (-1 - t).toNat < 4 := by simp [isVarB] at h; omega
  exact Nat.pow_lt_pow_right (by omega) h4
theorem orV_lt {m : Nat} {t : Int} (hm : m < 16) : orV m t < 16 := by
  unfold orV
  split
  · rename_i h
    exact or_lt16 hm (pow_var_lt h)
  · exact hm
theorem maskFrom_lt : ∀ (xs : List Int) {m : Nat}, m < 16 → maskFrom m xs < 16
  | [], _, h => h
  | _ :: xs, _, h => maskFrom_lt xs (orV_lt h)
theorem maskOf_lt (xs : List Int) : maskOf xs < 16 := maskFrom_lt xs (by omega)
theorem maskOf_take {xs : List Int} {k : Nat} (h : k < xs.length) : maskOf (xs.take (k + 1)) = orV (maskOf (xs.take k)) xs[k] := by
  unfold maskOf maskFrom
  rw [take_snoc xs k h, List.foldl_append]
  rfl
theorem bodyMask_take {ls : List LLit} {k : Nat} (h : k < ls.length) : bodyMask (ls.take (k + 1)) = bodyMask (ls.take k) ||| maskOf ls[k].2.2 := by
  unfold bodyMask
  rw [take_snoc ls k h, List.foldl_append]
  rfl
theorem yesMask_take {ls : List LLit} {k : Nat} (h : k < ls.length) : yesMask (ls.take (k + 1)) = if ls[k].1 = 0 then yesMask (ls.take k) ||| maskOf ls[k].2.2 else yesMask (ls.take k) := by
  unfold yesMask
  rw [take_snoc ls k h, List.foldl_append]
  rfl
theorem bodyMask_lt : ∀ (n : Nat) (ls : List LLit), n ≤ ls.length → bodyMask (ls.take n) < 16
  | 0, _, _ => by simp [bodyMask]
  | n + 1, ls, h => by
    rw [bodyMask_take (by omega)]
    exact or_lt16 (bodyMask_lt n ls (by omega)) (maskOf_lt _)
theorem yesMask_lt : ∀ (n : Nat) (ls : List LLit), n ≤ ls.length → yesMask (ls.take n) < 16
  | 0, _, _ => by simp [yesMask]
  | n + 1, ls, h => by
    rw [yesMask_take (by omega)]
    split
    · exact or_lt16 (yesMask_lt n ls (by omega)) (maskOf_lt _)
    · exact yesMask_lt n ls (by omega)
theorem bodyMask_lt' (ls : List LLit) : bodyMask ls < 16 := by
  have := bodyMask_lt ls.length ls (Nat.le_refl _)
  rwa [List.take_length] at this
theorem yesMask_lt' (ls : List LLit) : yesMask ls < 16 := by
  have := yesMask_lt ls.length ls (Nat.le_refl _)
  rwa [List.take_length] at this
theorem ruleMask_lt (r : LRule) : ruleMask r < 16 := or_lt16 (maskOf_lt _) (bodyMask_lt' _)

theorem or_word {a b : Nat} (ha : a < 16) (hb : b < 16) : bits .or .u64 (a : Int) (b : Int) = ((a ||| b : Nat) : Int) := u64_or_nat a b (by omega) (by omega)
/-- The walk's word for one more variable. -/
theorem orV_word {m : Nat} {t : Int} (hm : m < 16) (h : isVarB t = true) : bits .or .u64 (m : Int) (IntKind.u64.wrap (1 * 2 ^ (-1 - t).toNat)) = ((orV m t : Nat) : Int) := by
  have h4 : (-1 - t).toNat < 4 := by simp [isVarB] at h; omega
  have hw : IntKind.u64.wrap (1 * 2 ^ (-1 - t).toNat) = ((2 ^ (-1 - t).toNat : Nat) : Int) := by
    generalize (-1 - t).toNat = n at h4
    match n, h4 with
    | 0, _ => rfl
    | 1, _ => rfl
    | 2, _ => rfl
    | 3, _ => rfl
  rw [hw, or_word hm (pow_var_lt h)]
  simp [orV, h]

set_option maxHeartbeats 400000 in
theorem argVars_any (v : Value) (xs : List Int) (B : Nat) (w : World) (h : RdInts w B v xs) (hr : xs.length ≤ 1048576) :
    Calls Tryz.prog 96 #[v] w fun e w' => e = .returned (.int .u64 (maskOf xs : Nat)) ∧ w = w' := by
  obtain ⟨A, c, rfl, hc, ha⟩ := h
  go_enter Tryz.func96, Tryz.ntmps96
  go_wp2_with (fail)
  go_loop [3, 5, 8] (fun m _ i => ∃ (k : Nat) (z : Int), k ≤ xs.length ∧ i = .int .i64 k ∧ m = .int .u64 z ∧ z = (maskOf (xs.take k) : Nat)) (fun _ _ i => xs.length - (intOf i).toNat)
  case atStart => exact ⟨0, 0, Nat.zero_le _, rfl, rfl, rfl⟩
  case round =>
    obtain ⟨k, z, hk, rfl, rfl, hz⟩ := hrel
    by_cases hlt : k < xs.length
    · obtain ⟨b, o, rfl, hbB, hx⟩ := ha (by omega)
      have hck : w.cell? ⟨b, o + k, none⟩ = some (.int .i64 xs[k]) := hx k hlt
      have hml := maskOf_lt (xs.take k)
      clear hx ha
      by_cases he : isVarB xs[k] = true
      · have HK := Lib.hid (isVar_is he)
        have HV := Lib.hid (show -4 ≤ xs[k] ∧ xs[k] ≤ -1 by simpa [isVarB] using he)
        have h0 : 0 ≤ -1 - xs[k] := by have := HV.out; omega
        have h64 : -1 - xs[k] ≤ 64 := by have := HV.out; omega
        have HZ := Lib.hid (show bits .or .u64 z (IntKind.u64.wrap (2 ^ (-1 - xs[k]).toNat)) = (maskOf (xs.take (k + 1)) : Nat) by have hw := orV_word hml he; rw [Int.one_mul] at hw; rw [hz, hw, maskOf_take hlt])
        clear hz he hml
        go_wp2_with (first | (go_at_call 112; refine (HK.out _).mono ?_; rintro e w' ⟨rfl, rfl⟩) | (go_at_call 114; refine (varNumber_any _ HV.out.1 HV.out.2 _).mono ?_; rintro e w' ⟨rfl, rfl⟩))
        go_round
        case rel => exact ⟨k + 1, _, by omega, by go_num, rfl, HZ.out⟩
        case measure => simp [intOf]; omega
      · have he' : isVarB xs[k] = false := by simpa using he
        have HK := Lib.hid (isVar_is he')
        have HZ := Lib.hid (show z = (maskOf (xs.take (k + 1)) : Nat) by rw [hz, maskOf_take hlt]; simp [orV, he'])
        clear hz he
        go_wp2_with (go_at_call 112; refine (HK.out _).mono ?_; rintro e w' ⟨rfl, rfl⟩)
        go_round
        case rel => exact ⟨k + 1, _, by omega, by go_num, rfl, HZ.out⟩
        case measure => simp [intOf]; omega
    · have HE := Lib.hid (show z = (maskOf xs : Nat) by rw [hz, show k = xs.length by omega, List.take_length])
      clear hz ha
      go_wp2_with (fail)
      go_ret
      exact ⟨ret_int HE.out, rfl⟩

set_option maxHeartbeats 400000 in
theorem bodyVars_any (v : Value) (ls : List LLit) (w : World) (h : RdLits w w.heap.size v ls) (hr : ls.length ≤ 1048576) (ht : totL ls ≤ 1048576) :
    Calls Tryz.prog 128 #[v] w fun e w' => e = .returned (.int .u64 (bodyMask ls : Nat)) ∧ Below w.heap.size w w' := by
  have H := Lib.hid h
  obtain ⟨A, c, rfl, hc, _⟩ := h
  go_enter Tryz.func128, Tryz.ntmps128
  go_wp2_with (fail)
  go_loopw [3, 5, 8] (fun m _ i wr => ∃ (k : Nat) (z : Int), k ≤ ls.length ∧ i = .int .i64 k ∧ m = .int .u64 z ∧ z = (bodyMask (ls.take k) : Nat) ∧ Below w.heap.size w wr) (fun _ _ i _ => ls.length - (intOf i).toNat)
  case atStart => exact ⟨0, 0, Nat.zero_le _, rfl, rfl, rfl, Below.refl _ _⟩
  case round =>
    obtain ⟨k, z, hk, rfl, rfl, hz, hbe⟩ := hrel
    by_cases hlt : k < ls.length
    · obtain ⟨b, o, u0, u1, u2, rfl, hbB, k0, k1, k2, rfl, rfl, p3⟩ := (H.out.on hbe).get hlt
      have HA := Lib.hid p3
      obtain ⟨A3, c3, rfl, hc3, _⟩ := p3
      have hle := len_le_totL ls k hlt
      have hml := bodyMask_lt k ls hk
      have HZ := Lib.hid (show bits .or .u64 z ((maskOf ls[k].2.2 : Nat) : Int) = (bodyMask (ls.take (k + 1)) : Nat) by rw [hz, or_word hml (maskOf_lt _), bodyMask_take hlt])
      clear hz hml
      go_wp2_with (go_at_call 96; refine (argVars_any _ ls[k].2.2 _ _ (HA.out.on (below1 _ _)) (by omega)).mono ?_; rintro e w' ⟨rfl, rfl⟩)
      go_roundw
      case rel => exact ⟨k + 1, _, by omega, by go_num, rfl, HZ.out, bthen hbe (below1 _ _)⟩
      case measure => simp [intOf]; omega
    · have HE := Lib.hid (show z = (bodyMask ls : Nat) by rw [hz, show k = ls.length by omega, List.take_length])
      clear hz
      go_wp2_with (fail)
      go_ret
      exact ⟨ret_int HE.out, hbe⟩

theorem later_int {P : Program} {f : FuncId} {args : Array Value} {w0 : World} {x : Later w0} {u v : Value} (h : Calls P f args x.val fun e w' => e = .returned u ∧ Below x.val.heap.size x.val w') (e : u = v) :
    Calls P f args x.val fun e w'' => e = .returned v ∧ ∃ y : Later w0, w'' = y.val := later_of (e ▸ h)

end Go.Proofs.YtigkgheddngkeaaGreat
/-
  The walks of yesVars and of the program's RuleSafe.
-/
namespace Go.Proofs.YtigkgheddngkeaaGreat
open Go.RowKit

set_option maxHeartbeats 400000 in
theorem yesVars_any (v : Value) (ls : List LLit) (w : World) (h : RdLits w w.heap.size v ls) (hr : ls.length ≤ 1048576) (ht : totL ls ≤ 1048576) :
    Calls Tryz.prog 111 #[v] w fun e w' => e = .returned (.int .u64 (yesMask ls : Nat)) ∧ Below w.heap.size w w' := by
  have H := Lib.hid h
  obtain ⟨A, c, rfl, hc, _⟩ := h
  go_enter Tryz.func111, Tryz.ntmps111
  go_wp2_with (fail)
  go_loopw [3, 5, 8] (fun m _ i wr => ∃ (k : Nat) (z : Int), k ≤ ls.length ∧ i = .int .i64 k ∧ m = .int .u64 z ∧ z = (yesMask (ls.take k) : Nat) ∧ Below w.heap.size w wr) (fun _ _ i _ => ls.length - (intOf i).toNat)
  case atStart => exact ⟨0, 0, Nat.zero_le _, rfl, rfl, rfl, Below.refl _ _⟩
  case round =>
    obtain ⟨k, z, hk, rfl, rfl, hz, hbe⟩ := hrel
    by_cases hlt : k < ls.length
    · obtain ⟨b, o, u0, u1, u2, rfl, hbB, k0, k1, k2, rfl, rfl, p3⟩ := (H.out.on hbe).get hlt
      have HA := Lib.hid p3
      obtain ⟨A3, c3, rfl, hc3, _⟩ := p3
      have hle := len_le_totL ls k hlt
      have hml := yesMask_lt k ls hk
      by_cases h0 : ls[k].1 = 0
      · have hd : (ls[k].1 == 0) = true := by simpa using h0
        have HZ := Lib.hid (show bits .or .u64 z ((maskOf ls[k].2.2 : Nat) : Int) = (yesMask (ls.take (k + 1)) : Nat) by rw [hz, or_word hml (maskOf_lt _), yesMask_take hlt, if_pos h0])
        clear hz hml h0
        go_wp2_with (go_at_call 96; refine (argVars_any _ ls[k].2.2 _ _ (HA.out.on (below1 _ _)) (by omega)).mono ?_; rintro e w' ⟨rfl, rfl⟩)
        go_roundw
        case rel => exact ⟨k + 1, _, by omega, by go_num, rfl, HZ.out, bthen hbe (below1 _ _)⟩
        case measure => simp [intOf]; omega
      · have hd : (ls[k].1 == 0) = false := by simpa using h0
        have HZ := Lib.hid (show z = (yesMask (ls.take (k + 1)) : Nat) by rw [hz, yesMask_take hlt, if_neg h0])
        clear hz hml h0
        go_wp2_with (fail)
        go_roundw
        case rel => exact ⟨k + 1, _, by omega, by go_num, rfl, HZ.out, bthen hbe (below1 _ _)⟩
        case measure => simp [intOf]; omega
    · have HE := Lib.hid (show z = (yesMask ls : Nat) by rw [hz, show k = ls.length by omega, List.take_length])
      clear hz
      go_wp2_with (fail)
      go_ret
      exact ⟨ret_int HE.out, hbe⟩

/-- What RuleSafe answers. -/
def ruleSafe (r : LRule) : Bool := bits .andNot .u64 ((ruleMask r : Nat) : Int) ((yesMask r.2 : Nat) : Int) == 0

end Go.Proofs.YtigkgheddngkeaaGreat
/-
  The specification's sets of variables: rows of four bools. The walks of l2Mark, l2Marks.
-/
namespace Go.Proofs.YtigkgheddngkeaaGreat
open Go.RowKit

/-- Block g is the row of the bits of m. -/
def MkRow (w : World) (g m : Nat) : Prop := Blk w g 4 #[.bool (m.testBit 0), .bool (m.testBit 1), .bool (m.testBit 2), .bool (m.testBit 3)]
theorem MkRow.cell {w : World} {g m : Nat} (h : MkRow w g m) {i : Nat} (hi : i < 4) : w.cell? ⟨g, i, none⟩ = some (.bool (m.testBit i)) := by
  rw [Blk.cell h i]
  match i, hi with
  | 0, _ => rfl
  | 1, _ => rfl
  | 2, _ => rfl
  | 3, _ => rfl
theorem MkRow.frozen {w : World} {g m : Nat} (h : MkRow w g m) (i : Nat) : w.frozen? ⟨g, i, none⟩ = false := Blk.frozen h i
theorem MkRow.lt {w : World} {g m : Nat} (h : MkRow w g m) : g < w.heap.size := Blk.lt h
theorem MkRow.below {B : Nat} {w w' : World} {g m : Nat} (h : MkRow w g m) (hb : Below B w w') (hg : g < B) : MkRow w' g m := Blk.below h hb hg
theorem MkRow.set {w : World} {g m : Nat} (h : MkRow w g m) {j : Nat} (hj : j < 4) : MkRow (w.setCell ⟨g, j, none⟩ (.bool true)) g (m ||| 2 ^ j) := by
  have h2 := Blk.set_ h j (.bool true)
  unfold MkRow
  match j, hj with
  | 0, _ => simpa [Nat.testBit_or, show Nat.testBit 1 1 = false from rfl, show Nat.testBit 1 2 = false from rfl, show Nat.testBit 1 3 = false from rfl] using h2
  | 1, _ => simpa [Nat.testBit_or, show Nat.testBit 2 1 = true from rfl, show Nat.testBit 2 2 = false from rfl, show Nat.testBit 2 3 = false from rfl] using h2
  | 2, _ => simpa [Nat.testBit_or, show Nat.testBit 4 1 = false from rfl, show Nat.testBit 4 2 = true from rfl, show Nat.testBit 4 3 = false from rfl] using h2
  | 3, _ => simpa [Nat.testBit_or, show Nat.testBit 8 1 = false from rfl, show Nat.testBit 8 2 = false from rfl, show Nat.testBit 8 3 = true from rfl] using h2
theorem maskFrom_take {xs : List Int} {m k : Nat} (h : k < xs.length) : maskFrom m (xs.take (k + 1)) = orV (maskFrom m (xs.take k)) xs[k] := by
  unfold maskFrom
  rw [take_snoc xs k h, List.foldl_append]
  rfl
theorem MkRow.var {w : World} {g m : Nat} (h : MkRow w g m) {t : Int} {j : Nat} (hj : j < 4) (ht : t = -1 - (j : Int)) : MkRow (w.setCell ⟨g, j, none⟩ (.bool true)) g (orV m t) := by
  have hv : isVarB t = true := by simp [isVarB]; omega
  have hn : (-1 - t).toNat = j := by omega
  unfold orV
  rw [if_pos hv, hn]
  exact h.set hj

set_option maxHeartbeats 400000 in
theorem l2Mark_any (g m : Nat) (v : Value) (xs : List Int) (w : World) (hm : MkRow w g m) (h : RdInts w g v xs) (hr : xs.length ≤ 1048576) :
    Calls Tryz.prog 122 #[.slice (some ⟨g, 0, none⟩) 4 4, v] w fun e w' => e = .returned (.tuple #[]) ∧ MkRow w' g (maskFrom m xs) ∧ Only g (g + 1) w w' := by
  have H := Lib.hid h
  have HM := Lib.hid hm
  clear hm
  obtain ⟨A, c, rfl, hc, _⟩ := h
  go_enter Tryz.func122, Tryz.ntmps122
  go_wp2_with (fail)
  go_loopw [4] (fun i wr => ∃ k : Nat, k ≤ xs.length ∧ i = .int .i64 k ∧ MkRow wr g (maskFrom m (xs.take k)) ∧ Only g (g + 1) w wr) (fun i _ => xs.length - (intOf i).toNat)
  case atStart => exact ⟨0, Nat.zero_le _, rfl, HM.out, Only.refl _ _ _⟩
  case round =>
    obtain ⟨k, hk, rfl, hx, hon⟩ := hrel
    have hg := HM.out.lt
    by_cases hlt : k < xs.length
    · obtain ⟨A', c', e, _, hr2⟩ := H.out.below (hon.below (Nat.le_refl g) (by omega)) (Nat.le_refl g)
      injection e with e1 _ e3
      subst e1
      subst e3
      obtain ⟨b, o, rfl, hbB, hr2⟩ := hr2 (by omega)
      have hck : wr.cell? ⟨b, o + k, none⟩ = some (.int .i64 xs[k]) := hr2 k hlt
      have htk := maskFrom_take (m := m) hlt
      clear hr2
      by_cases he : -4 ≤ xs[k] ∧ xs[k] ≤ -1
      · have hv : xs[k] = -1 - ((0 : Nat) : Int) ∨ xs[k] = -1 - ((1 : Nat) : Int) ∨ xs[k] = -1 - ((2 : Nat) : Int) ∨ xs[k] = -1 - ((3 : Nat) : Int) := by omega
        have c0 := hx.cell (i := 0) (by omega)
        have c1 := hx.cell (i := 1) (by omega)
        have c2 := hx.cell (i := 2) (by omega)
        have c3 := hx.cell (i := 3) (by omega)
        have f0 := hx.frozen 0
        have f1 := hx.frozen 1
        have f2 := hx.frozen 2
        have f3 := hx.frozen 3
        have HK := Lib.hid (l1In_yes he)
        have HX := Lib.hid (And.intro hx (And.intro hon htk))
        clear he hx hon htk
        rcases hv with hv | hv | hv | hv
        all_goals
          have HV := Lib.hid hv
          rw [hv] at hck
          simp at hck
          clear hv
        · go_wp2_with (go_at_call 86; refine (l1In_yes (by omega) _).mono ?_; rintro e w' ⟨rfl, rfl⟩)
          go_roundw
          case rel => exact ⟨k + 1, by omega, by go_num, by rw [HX.out.2.2]; exact HX.out.1.var (by omega) HV.out, HX.out.2.1.setCell (by simp) _⟩
          case measure => simp [intOf]; omega
        · go_wp2_with (go_at_call 86; refine (l1In_yes (by omega) _).mono ?_; rintro e w' ⟨rfl, rfl⟩)
          go_roundw
          case rel => exact ⟨k + 1, by omega, by go_num, by rw [HX.out.2.2]; exact HX.out.1.var (by omega) HV.out, HX.out.2.1.setCell (by simp) _⟩
          case measure => simp [intOf]; omega
        · go_wp2_with (go_at_call 86; refine (l1In_yes (by omega) _).mono ?_; rintro e w' ⟨rfl, rfl⟩)
          go_roundw
          case rel => exact ⟨k + 1, by omega, by go_num, by rw [HX.out.2.2]; exact HX.out.1.var (by omega) HV.out, HX.out.2.1.setCell (by simp) _⟩
          case measure => simp [intOf]; omega
        · go_wp2_with (go_at_call 86; refine (l1In_yes (by omega) _).mono ?_; rintro e w' ⟨rfl, rfl⟩)
          go_roundw
          case rel => exact ⟨k + 1, by omega, by go_num, by rw [HX.out.2.2]; exact HX.out.1.var (by omega) HV.out, HX.out.2.1.setCell (by simp) _⟩
          case measure => simp [intOf]; omega
      · have HK := Lib.hid (l1In_no he)
        have HX := Lib.hid (show MkRow wr g (maskFrom m (xs.take (k + 1))) by rw [htk]; unfold orV; rw [if_neg (by simp [isVarB]; omega)]; exact hx)
        clear he hx htk
        go_wp2_with (go_at_call 86; refine (HK.out _).mono ?_; rintro e w' ⟨rfl, rfl⟩)
        go_roundw
        case rel => exact ⟨k + 1, by omega, by go_num, HX.out, hon⟩
        case measure => simp [intOf]; omega
    · have HX := Lib.hid (show MkRow wr g (maskFrom m xs) by rw [show k = xs.length by omega, List.take_length] at hx; exact hx)
      clear hx
      go_wp2_with (fail)
      go_end0
      exact ⟨rfl, HX.out, hon⟩

theorem MkRow.only {lo hi : Nat} {w w' : World} {g m : Nat} (h : MkRow w g m) (ho : Only lo hi w w') (hg : g < lo ∨ hi ≤ g) : MkRow w' g m := (ho.block g h.lt hg).trans h
theorem made4 : madeCells #[Value.bool false] 4 = #[.bool false, .bool false, .bool false, .bool false] := by
  apply Array.ext
  · simp [madeCells]
  · intro i h1 h2
    simp [madeCells]
    match i, h2 with
    | 0, _ => rfl
    | 1, _ => rfl
    | 2, _ => rfl
    | 3, _ => rfl
theorem MkRow.made (w : World) : MkRow (w.alloc (.cells (madeCells #[.bool false] 4) 4)) w.heap.size 0 := by
  rw [made4]
  exact Blk.new w _ _
theorem Tryz.infoBool : (Tryz.prog.info? 4).map (fun i => (i.zero, i.size, i.bytes)) = some (some (.bool false), 1, 1) := by kernel_rfl

theorem make4 (W : World) : (Instr.makeSlice 164 (.int .i64 4) (.int .i64 4)).run Tryz.prog W = .ok (.slice (some ⟨W.heap.size, 0, none⟩) 4 4) (W.alloc (.cells (madeCells #[.bool false] 4) 4)) := by
  obtain ⟨i0, hi0, hz0, hz1, hz2⟩ := info_parts Tryz.infoBool
  have hmk := run_make_rowN (P := Tryz.prog) 164 4 i0 (.bool false) Tryz.underlying164 hi0 hz0 .i64 .i64 4 4 (Nat.le_refl _) (by rw [hz2]; omega) (by omega) W
  rw [hz1] at hmk
  simp only [Value.cells, Nat.mul_one] at hmk
  exact hmk

set_option maxHeartbeats 1000000 in
set_option maxRecDepth 100000 in
theorem l2Marks_any (v : Value) (r : LRule) (w : World) (h : RdRule w w.heap.size v r) (hr : szR r ≤ 1048576) :
    Calls Tryz.prog 123 #[v] w fun e w' => ∃ g, e = .returned (.slice (some ⟨g, 0, none⟩) 4 4) ∧ MkRow w' g (ruleMask r) ∧ w.heap.size ≤ g ∧ Below w.heap.size w w' := by
  have hmk := make4
  obtain ⟨a, b, rfl, h, h2⟩ := h
  unfold szR at hr
  have H := Lib.hid h
  have H2 := Lib.hid h2
  obtain ⟨A, c, rfl, hc, _⟩ := h
  obtain ⟨A2, c2, rfl, hcc, _⟩ := h2
  go_enter Tryz.func123, Tryz.ntmps123
  go_wp2_with (fail)
  obtain ⟨w1, hw1⟩ : ∃ w1, w1 = w.alloc (Obj.cells #[Value.int IntKind.i64 r.1.1, Value.slice A r.1.2.length c, Value.slice A2 r.2.length c2] 69) := ⟨_, rfl⟩
  have B1 : Below w.heap.size w w1 := by rw [hw1]; exact below1 _ _
  have s1 : w1.heap.size = w.heap.size + 1 := by rw [hw1]; simp
  have x1 : Blk w1 w.heap.size 69 #[.int .i64 r.1.1, .slice A r.1.2.length c, .slice A2 r.2.length c2] := by rw [hw1]; exact Blk.new w _ _
  obtain ⟨w2, hw2⟩ : ∃ w2, w2 = w1.alloc (Obj.cells (madeCells #[Value.bool false] 4) 4) := ⟨_, rfl⟩
  have m2 : MkRow w2 (w.heap.size + 1) 0 := by rw [hw2, ← s1]; exact MkRow.made _
  have b2 : Below w1.heap.size w1 w2 := by rw [hw2]; exact below1 _ _
  have x2 := x1.below b2 x1.lt
  have B2 := bthen B1 b2
  rw [← hw1, ← hw2]
  clear hw1 hw2
  refine (l2Mark_any (w.heap.size + 1) 0 _ r.1.2 _ m2 ((H.out.below B2 (Nat.le_refl _)).more (by omega)) (by omega)).mono ?_
  rintro e w3 ⟨rfl, m3, on3⟩
  have x3 := x2.only on3 (.inl (by omega))
  have B3 : Below w.heap.size w w3 := Only.then_ B2 on3 (by omega)
  have q3 : w3.cell? ⟨w.heap.size, 2, none⟩ = some (.slice A2 r.2.length c2) := x3.cell 2
  rw [maskFrom_eq, Nat.zero_or] at m3
  clear x1 x2 m2
  go_wp2_with (fail)
  go_loopw [4] (fun i wr => ∃ k : Nat, k ≤ r.2.length ∧ i = .int .i64 k ∧ MkRow wr (w.heap.size + 1) (maskOf r.1.2 ||| bodyMask (r.2.take k)) ∧ Only (w.heap.size + 1) (w.heap.size + 2) w3 wr) (fun i _ => r.2.length - (intOf i).toNat)
  case atStart => exact ⟨0, Nat.zero_le _, rfl, by simpa [bodyMask] using m3, Only.refl _ _ _⟩
  case round =>
    obtain ⟨k, hk, rfl, hm, hon⟩ := hrel
    have BW : Below w.heap.size w wr := Only.then_ B3 hon (by omega)
    have xr := x3.only hon (.inl (by omega))
    have q2 : wr.cell? ⟨w.heap.size, 2, none⟩ = some (.slice A2 r.2.length c2) := xr.cell 2
    clear q3
    by_cases hlt : k < r.2.length
    · obtain ⟨b, o, u0, u1, u2, rfl, hbB, k0, k1, k2, rfl, rfl, p3⟩ := (H2.out.below BW (Nat.le_refl _)).get hlt
      have HA := Lib.hid p3
      obtain ⟨A3, c3, rfl, hc3, _⟩ := p3
      have hle := len_le_totL r.2 k hlt
      go_wp2_with (fail)
      refine (l2Mark_any (w.heap.size + 1) _ _ r.2[k].2.2 _ hm (HA.out.more (by omega)) (by omega)).mono ?_
      rintro e w4 ⟨rfl, m4, on4⟩
      rw [maskFrom_eq, Nat.or_assoc, ← bodyMask_take hlt] at m4
      go_wp2_with (fail)
      go_roundw
      case rel => exact ⟨k + 1, by omega, by go_num, m4, hon.trans on4⟩
      case measure => simp [intOf]; omega
    · have HX := Lib.hid (show MkRow wr (w.heap.size + 1) (ruleMask r) by rw [show k = r.2.length by omega, List.take_length] at hm; exact hm)
      clear hm
      go_wp2_with (fail)
      go_ret
      exact ⟨_, rfl, HX.out, by omega, BW⟩

end Go.Proofs.YtigkgheddngkeaaGreat
/-
  The walk of the specification's RuleSafe.
-/
namespace Go.Proofs.YtigkgheddngkeaaGreat
open Go.RowKit

def safeTo (a b k : Nat) : Bool := (List.range k).all fun i => !(a.testBit i && !b.testBit i)
theorem safe_bits : ∀ a b : Fin 16, (bits .andNot .u64 ((a.val : Nat) : Int) ((b.val : Nat) : Int) == 0) = safeTo a.val b.val 4 := by decide +kernel
theorem ruleSafe_eq (r : LRule) : ruleSafe r = safeTo (ruleMask r) (yesMask r.2) 4 := safe_bits ⟨ruleMask r, ruleMask_lt r⟩ ⟨yesMask r.2, yesMask_lt' r.2⟩
theorem safeTo_step {a b k : Nat} (h : safeTo a b k = true) (e : (a.testBit k && !b.testBit k) = false) : safeTo a b (k + 1) = true := by
  unfold safeTo at h ⊢
  rw [List.range_succ, List.all_append, h, Bool.true_and]
  simp only [List.all_cons, List.all_nil, e]
  rfl
theorem safeTo_not {a b k : Nat} (hk : k < 4) (e : (a.testBit k && !b.testBit k) = true) : safeTo a b 4 = false := by
  unfold safeTo
  rw [List.all_eq_false]
  exact ⟨k, List.mem_range.2 hk, by simp [e]⟩

set_option maxHeartbeats 1000000 in
set_option maxRecDepth 100000 in
theorem specRuleSafe_any (v : Value) (r : LRule) (w : World) (h : RdRule w w.heap.size v r) (hr : szR r ≤ 1048576) :
    Calls Tryz.prog 101 #[v] w fun e w' => e = .returned (.bool (ruleSafe r)) ∧ Below w.heap.size w w' := by
  have hmk := make4
  obtain ⟨a, b, rfl, h, h2⟩ := h
  have hsz := hr
  unfold szR at hr
  have H := Lib.hid h
  have H2 := Lib.hid h2
  obtain ⟨A, c, rfl, hc, _⟩ := h
  obtain ⟨A2, c2, rfl, hcc, _⟩ := h2
  go_enter Tryz.func101, Tryz.ntmps101
  go_wp2_with (fail)
  obtain ⟨w1, hw1⟩ : ∃ w1, w1 = w.alloc (Obj.cells #[Value.int IntKind.i64 r.1.1, Value.slice A r.1.2.length c, Value.slice A2 r.2.length c2] 69) := ⟨_, rfl⟩
  have B1 : Below w.heap.size w w1 := by rw [hw1]; exact below1 _ _
  have s1 : w1.heap.size = w.heap.size + 1 := by rw [hw1]; simp
  have x1 : Blk w1 w.heap.size 69 #[.int .i64 r.1.1, .slice A r.1.2.length c, .slice A2 r.2.length c2] := by rw [hw1]; exact Blk.new w _ _
  obtain ⟨w2, hw2⟩ : ∃ w2, w2 = w1.alloc (Obj.cells (madeCells #[Value.bool false] 4) 4) := ⟨_, rfl⟩
  have m2 : MkRow w2 (w.heap.size + 1) 0 := by rw [hw2, ← s1]; exact MkRow.made _
  have b2 : Below w1.heap.size w1 w2 := by rw [hw2]; exact below1 _ _
  have x2 := x1.below b2 x1.lt
  have B2 := bthen B1 b2
  have s2 : w2.heap.size = w.heap.size + 2 := by rw [hw2]; simp [s1]
  rw [← hw1, ← hw2]
  clear hw1 hw2
  go_loopw [4] (fun i wr => ∃ k : Nat, k ≤ r.2.length ∧ i = .int .i64 k ∧ MkRow wr (w.heap.size + 1) (yesMask (r.2.take k)) ∧ Only (w.heap.size + 1) (w.heap.size + 2) w2 wr) (fun i _ => r.2.length - (intOf i).toNat)
  case atStart => exact ⟨0, Nat.zero_le _, rfl, by simpa [yesMask] using m2, Only.refl _ _ _⟩
  case round =>
    obtain ⟨k, hk, rfl, hm, hon⟩ := hrel
    have BW : Below w.heap.size w wr := Only.then_ B2 hon (by omega)
    have xr := x2.only hon (.inl (by omega))
    have q0 : wr.cell? ⟨w.heap.size, 0, none⟩ = some (.int .i64 r.1.1) := xr.cell 0
    have q1 : wr.cell? ⟨w.heap.size, 1, none⟩ = some (.slice A r.1.2.length c) := xr.cell 1
    have q2 : wr.cell? ⟨w.heap.size, 2, none⟩ = some (.slice A2 r.2.length c2) := xr.cell 2
    by_cases hlt : k < r.2.length
    · obtain ⟨b, o, u0, u1, u2, rfl, hbB, k0, k1, k2, rfl, rfl, p3⟩ := (H2.out.below BW (Nat.le_refl _)).get hlt
      have HA := Lib.hid p3
      obtain ⟨A3, c3, rfl, hc3, _⟩ := p3
      have hle := len_le_totL r.2 k hlt
      have hty := yesMask_take hlt
      by_cases h0 : r.2[k].1 = 0
      · have hd : (r.2[k].1 == 0) = true := by simpa using h0
        rw [if_pos h0] at hty
        clear h0
        go_wp2_with (fail)
        refine (l2Mark_any (w.heap.size + 1) _ _ r.2[k].2.2 _ hm (HA.out.more (by omega)) (by omega)).mono ?_
        rintro e w4 ⟨rfl, m4, on4⟩
        rw [maskFrom_eq, ← hty] at m4
        clear hty
        go_wp2_with (fail)
        go_roundw
        case rel => exact ⟨k + 1, by omega, by go_num, m4, hon.trans on4⟩
        case measure => simp [intOf]; omega
      · have hd : (r.2[k].1 == 0) = false := by simpa using h0
        rw [if_neg h0] at hty
        rw [← hty] at hm
        have HM := Lib.hid hm
        clear hty hm h0
        go_wp2_with (fail)
        go_roundw
        case rel => exact ⟨k + 1, by omega, by go_num, HM.out, hon⟩
        case measure => simp [intOf]; omega
    · have HX := Lib.hid (show MkRow wr (w.heap.size + 1) (yesMask r.2) by rw [show k = r.2.length by omega, List.take_length] at hm; exact hm)
      have hgs := hm.lt
      clear hm
      go_wp2_with (fail)
      refine (l2Marks_any _ r _ ⟨_, _, rfl, H.out.on BW, H2.out.on BW⟩ hsz).mono ?_
      rintro e w5 ⟨g2, rfl, m5, hg2, hb5⟩
      have B5 := bthen BW hb5
      have y5 := HX.out.below hb5 hgs
      have HE := Lib.hid (ruleSafe_eq r)
      go_wp2_with (fail)
      go_loop [6] (fun i => ∃ k : Nat, k ≤ 4 ∧ i = .int .i64 k ∧ safeTo (ruleMask r) (yesMask r.2) k = true) (fun i => 4 - (intOf i).toNat)
      case atStart => exact ⟨0, Nat.zero_le _, rfl, by simp [safeTo]⟩
      case round =>
        obtain ⟨j, hj, rfl, hs⟩ := hrel
        by_cases hjl : j < 4
        · have c5 := m5.cell hjl
          have d5 := y5.cell hjl
          cases ha : (ruleMask r).testBit j
          · rw [ha] at c5
            have HS := Lib.hid (safeTo_step hs (by rw [ha]; rfl))
            clear hs ha
            go_wp2_with (fail)
            go_round
            case rel => exact ⟨j + 1, by omega, by go_num, HS.out⟩
            case measure => simp [intOf]; omega
          · rw [ha] at c5
            cases hb : (yesMask r.2).testBit j
            · rw [hb] at d5
              have HS := Lib.hid (safeTo_not hjl (show ((ruleMask r).testBit j && !(yesMask r.2).testBit j) = true by rw [ha, hb]; rfl))
              clear hs ha hb
              go_wp2_with (fail)
              go_ret
              exact ⟨ret_bool (by rw [HE.out, HS.out]), B5⟩
            · rw [hb] at d5
              have HS := Lib.hid (safeTo_step hs (by rw [ha, hb]; rfl))
              clear hs ha hb
              go_wp2_with (fail)
              go_round
              case rel => exact ⟨j + 1, by omega, by go_num, HS.out⟩
              case measure => simp [intOf]; omega
        · have HS := Lib.hid (show safeTo (ruleMask r) (yesMask r.2) 4 = true by rw [show j = 4 by omega] at hs; exact hs)
          clear hs
          go_wp2_with (fail)
          go_ret
          exact ⟨ret_bool (by rw [HE.out, HS.out]), B5⟩

end Go.Proofs.YtigkgheddngkeaaGreat
/-
  The walks of the program's words of what variables have: bindingShift, with, constant, value.
-/
namespace Go.Proofs.YtigkgheddngkeaaGreat
open Go.RowKit

theorem shift_any (v : Int) (h0 : 0 ≤ v) (h1 : v ≤ 3) (w : World) : Calls Tryz.prog 130 #[.int .i64 v] w fun e w' => e = .returned (.int .i64 ((3 - v) * 4)) ∧ w = w' := by
  go_enter Tryz.func130, Tryz.ntmps130
  go_wp2
  go_ret
  exact ⟨rfl, rfl⟩

theorem shl_word {v : Nat} (hv : v < 4) {c : Int} (hc : -1 ≤ c ∧ c ≤ 5) : (c + 1) * 2 ^ ((3 - v) * 4) % 4294967296 = ((shlB v c : Nat) : Int) := by
  unfold shlB
  match v, hv with
  | 0, _ => show (c + 1) * 4096 % 4294967296 = (((c + 1).toNat * 4096 : Nat) : Int); omega
  | 1, _ => show (c + 1) * 256 % 4294967296 = (((c + 1).toNat * 256 : Nat) : Int); omega
  | 2, _ => show (c + 1) * 16 % 4294967296 = (((c + 1).toNat * 16 : Nat) : Int); omega
  | 3, _ => show (c + 1) * 1 % 4294967296 = (((c + 1).toNat * 1 : Nat) : Int); omega
theorem or_word32 {a b : Nat} (ha : a < 65536) (hb : b < 65536) : bits .or .u32 (a : Int) (b : Int) = ((a ||| b : Nat) : Int) := u32_or_nat a b (by omega) (by omega)
theorem field_word {m v : Nat} (hm : m < 65536) : bits .and .u32 ((m : Int) / 2 ^ ((3 - v) * 4)) 15 = ((fieldB m v : Nat) : Int) := by
  have h := u32_and_nat (m / 2 ^ ((3 - v) * 4)) 15 (Nat.lt_of_le_of_lt (Nat.div_le_self _ _) (by omega)) (by omega)
  have e : (15 : Nat) = 2 ^ 4 - 1 := rfl
  rw [e, Nat.and_two_pow_sub_one_eq_mod] at h
  simpa [fieldB] using h
theorem fieldB_lt (m v : Nat) : fieldB m v < 16 := Nat.mod_lt _ (by omega)

theorem with_any (m v : Nat) (c : Int) (hm : m < 65536) (hv : v < 4) (hc : -1 ≤ c ∧ c ≤ 5) (w : World) :
    Calls Tryz.prog 146 #[.int .u32 (m : Nat), .int .i64 (v : Nat), .int .i64 c] w fun e w' => e = .returned (.int .u32 ((m ||| shlB v c : Nat) : Int)) ∧ w = w' := by
  go_enter Tryz.func146, Tryz.ntmps146
  go_wp2_with (go_at_call 130; refine (shift_any _ (by omega) (by omega) _).mono ?_; rintro e w' ⟨rfl, rfl⟩)
  go_ret
  exact ⟨ret_int (by rw [shl_word hv hc, or_word32 hm (shlB_lt hv hc)]), rfl⟩

theorem constant_any (m v : Nat) (hm : m < 65536) (hv : v < 4) (w : World) :
    Calls Tryz.prog 113 #[.int .u32 (m : Nat), .int .i64 (v : Nat)] w fun e w' => e = .returned (.int .i64 ((fieldB m v : Nat) - 1)) ∧ w = w' := by
  go_enter Tryz.func113, Tryz.ntmps113
  go_wp2_with (go_at_call 130; refine (shift_any _ (by omega) (by omega) _).mono ?_; rintro e w' ⟨rfl, rfl⟩)
  go_ret
  exact ⟨ret_int (by have := fieldB_lt m v; rw [field_word hm, IntWalk.wrap64_in (fieldB m v : Nat) (by omega), IntWalk.wrap64_in _ (by omega)]), rfl⟩

theorem value_any (bs : List Int) (hb : bindOk bs = true) (t : Int) (ht : termOk t = true) (w : World) :
    Calls Tryz.prog 93 #[.int .u32 (encB bs : Nat), .int .i64 t] w fun e w' => e = .returned (.int .i64 (termVal bs t)) ∧ w = w' := by
  have htb := termOk_at ht
  by_cases h1 : isVarB t = true
  · have hv : -4 ≤ t ∧ t ≤ -1 := by simpa [isVarB] using h1
    obtain ⟨v, hv4, rfl⟩ : ∃ v : Nat, v < 4 ∧ t = -1 - (v : Int) := ⟨(-1 - t).toNat, by omega, by omega⟩
    have HE := Lib.hid (show ((fieldB (encB bs) v : Nat) : Int) - 1 = termVal bs (-1 - (v : Int)) by
      rw [fieldB_enc hb hv4, termVal_var (by omega)]
      congr 1
      omega)
    have HN := Lib.hid (show -1 - (-1 - (v : Int)) = (v : Int) by omega)
    have hlt := encB_lt hb
    generalize encB bs = m at HE hlt
    go_enter Tryz.func93, Tryz.ntmps93
    go_wp2_with (first | (go_at_call 112; refine (isVar_is h1 _).mono ?_; rintro e w' ⟨rfl, rfl⟩) | (go_at_call 114; refine (varNumber_any _ hv.1 hv.2 _).mono ?_; rintro e w' ⟨rfl, rfl⟩; rw [HN.out]) | (go_at_call 113; refine (constant_any _ _ hlt hv4 _).mono ?_; rintro e w' ⟨rfl, rfl⟩))
    go_ret
    exact ⟨ret_int HE.out, rfl⟩
  · have h2 : isVarB t = false := by simpa using h1
    have h0 : 0 ≤ t := by simp [isVarB] at h2; omega
    have HE := Lib.hid (termVal_const (bs := bs) h0).symm
    go_enter Tryz.func93, Tryz.ntmps93
    go_wp2_with (go_at_call 112; refine (isVar_is h2 _).mono ?_; rintro e w' ⟨rfl, rfl⟩)
    go_ret
    exact ⟨ret_int HE.out, rfl⟩

end Go.Proofs.YtigkgheddngkeaaGreat
/-
  The walks of bindingOf, values, numbers.
-/
namespace Go.Proofs.YtigkgheddngkeaaGreat
open Go.RowKit

set_option maxHeartbeats 400000 in
theorem values_any (v : Value) (bs args : List Int) (hb : bindOk bs = true) (ht : args.all termOk = true) (w : World) (h : RdInts w w.heap.size v args) (hr : args.length ≤ 1048576) :
    Calls Tryz.prog 79 #[.int .u32 (encB bs : Nat), v] w fun e w' => ∃ A' c', e = .returned (.slice A' args.length c') ∧ OwnInts w' w.heap.size w'.heap.size (.slice A' args.length c') (args.map (termVal bs)) ∧ Below w.heap.size w w' := by
  obtain ⟨A, c, rfl, hc, hcell⟩ := h
  have hmk := run_make_row' (P := Tryz.prog) 22 3 (.int .i64 0) 8 Tryz.underlying22 Tryz.infoInt rfl .i64 .i64 args.length (by omega) (by omega)
  have HV := Lib.hid (fun t ht => value_any bs hb t ht)
  generalize encB bs = m at HV
  obtain ⟨ys, hys⟩ : ∃ ys, ys = args.map (termVal bs) := ⟨_, rfl⟩
  have hyl : ys.length = args.length := by rw [hys]; simp
  have HY := Lib.hid hys
  have HYL := Lib.hid hyl
  clear hys hyl
  go_enter Tryz.func79, Tryz.ntmps79
  go_wp2_with (fail)
  go_loopw [6, 7, 13] (fun _ _ i wr => ∃ k : Nat, k ≤ args.length ∧ i = .int .i64 k ∧ wr.rowIs w.heap.size 3 args.length (fun j => if j < k then .int .i64 (ys.getD j 0) else .int .i64 0) ∧ Below w.heap.size w wr)
    (fun _ _ i _ => args.length - (intOf i).toNat)
  case atStart => exact ⟨0, Nat.zero_le _, rfl, (World.rowIs_made w _ _ _).congr (fun j _ => by simp), (Below.refl _ _).alloc (Nat.le_refl _) _⟩
  case round =>
    obtain ⟨k, hk, rfl, hrow, hb⟩ := hrel
    by_cases hlt : k < args.length
    · obtain ⟨b, o, rfl, hbB, hx⟩ := hcell (by omega)
      have hck : wr.cell? ⟨b, o + k, none⟩ = some (.int .i64 args[k]) := (hb.cell (p := ⟨b, o + k, none⟩) hbB).trans (hx k hlt)
      have hok : termOk args[k] = true := List.all_eq_true.1 ht _ (List.getElem_mem hlt)
      have hc2 := hrow.cell hlt
      have hf2 := hrow.frozen k
      have HV2 := Lib.hid (HV.out _ hok)
      have HG := Lib.hid (show ys.getD k 0 = termVal bs args[k] by rw [HY.out]; simp [hlt])
      clear hx
      have HR := Lib.hid hrow
      clear hrow hok
      go_wp2_with (go_at_call 93; refine (HV2.out _).mono ?_; rintro e w' ⟨rfl, rfl⟩)
      go_roundw
      case rel =>
        refine ⟨k + 1, by omega, by go_num, (HR.out.set k _).congr (fun j hj => ?_), hb.setCell (Nat.le_refl _) _⟩
        by_cases e : j = k
        · subst e
          simp only [if_true]
          rw [if_pos (by omega), HG.out]
        · rw [if_neg e]
          by_cases h2 : j < k
          · rw [if_pos h2, if_pos (by omega)]
          · rw [if_neg h2, if_neg (by omega)]
      case measure => simp [intOf]; omega
    · have hkn : k = args.length := by omega
      have HO : OwnInts wr w.heap.size wr.heap.size (.slice (some ⟨w.heap.size, 0, none⟩) ys.length ys.length) ys :=
        OwnInts.of_rowIs (by rw [HYL.out]; exact hrow.congr (fun j hj => by rw [if_pos (by omega)])) (Nat.le_refl _) hrow.lt (by have := HYL.out; unfold maxLen; omega)
      rw [HYL.out, HY.out] at HO
      clear hrow hcell
      have HH := Lib.hid HO
      clear HO
      clear hkn
      go_wp2_with (fail)
      go_ret
      exact ⟨_, _, rfl, HH.out, hb⟩

theorem bs_getD {bs : List Int} {j : Nat} (hl : bs.length = 4) (hj : j < 4) : bs.getD j (-1) = bs.getD j 0 := by
  rw [List.getD_eq_getElem?_getD, List.getD_eq_getElem?_getD, List.getElem?_eq_getElem (by omega)]
  rfl

theorem make4i (W : World) : (Instr.makeSlice 22 (.int .i64 4) (.int .i64 4)).run Tryz.prog W = .ok (.slice (some ⟨W.heap.size, 0, none⟩) 4 4) (W.alloc (.cells (madeCells #[.int .i64 0] 4) 3)) :=
  run_make_row' (P := Tryz.prog) 22 3 (.int .i64 0) 8 Tryz.underlying22 Tryz.infoInt rfl .i64 .i64 4 (by omega) (by omega) W

end Go.Proofs.YtigkgheddngkeaaGreat
/-
  The program's Bound.
-/
namespace Go.Proofs.YtigkgheddngkeaaGreat
open Go.RowKit

theorem areTerms_is {xs : List Int} {b : Bool} (e : xs.all termOk = b) (v : Value) (B : Nat) (w : World) (h : RdInts w B v xs) (hr : xs.length ≤ 1048576) :
    Calls Tryz.prog 109 #[v] w fun e w' => e = .returned (.bool b) ∧ w = w' := e ▸ areTerms_any v xs B w h hr

end Go.Proofs.YtigkgheddngkeaaGreat
