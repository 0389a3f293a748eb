/-
  Texts that the claim's last one imports, laid together: part 5 of 9. No condition of its own.
-/
import Derived.Laws.BitsAllLaws
import Derived.StillTailTactics
import Derived.Deep.QuietTactic
import Derived.BigQuiet
import Derived.Deep.RegionLaw
import Derived.Deep.DeepCutAuto
import Derived.Test.YtokmmloakahkhaaDoorMLk1
import Derived.Test.YtokmmloakahkhaaDoorMLk2
import Derived.Test.YtokmmloakahkhaaDoorMLk3
import Derived.Test.YtokmmloakahkhaaDoorMLk4
/-
  Rows of slices of integers: one that is read, one of the call's own; the relation of a loop that collects them.
-/
namespace Go.Proofs.YtokmmloakahkhaaDoor
open Go.RowKit

theorem Tryd.infoIntS : (Tryd.prog.info? 23).map (fun i => (i.zero, i.size, i.bytes)) = some (some (.slice none 0 0), 1, 24) := by kernel_rfl

/-- A row of slices of integers that is read. -/
def RdRows (w : World) (B : Nat) (v : Value) (xss : List (List Int)) : Prop :=
  ∃ A c, v = .slice A xss.length c ∧ xss.length ≤ c ∧ (0 < xss.length → ∃ b o, A = some ⟨b, o, none⟩ ∧ b < B ∧ ∀ k (h : k < xss.length), ∃ u, w.cell? ⟨b, o + k, none⟩ = some u ∧ RdInts w B u xss[k])
/-- A row of slices of integers in blocks from lo on and below hi; weak: two of them may share a block. -/
def WkRows (w : World) (lo hi : Nat) (v : Value) (xss : List (List Int)) : Prop :=
  ∃ av : List Value, (av.length = xss.length ∧ ∀ i (h : i < xss.length) (h' : i < av.length), OwnInts w lo hi av[i] xss[i]) ∧ w.ownsRow lo 23 1 v xss.length av ∧ ∀ g, v.ownBlock = some g → g < hi
/-- And no two share one. -/
def OwnRows (w : World) (lo hi : Nat) (v : Value) (xss : List (List Int)) : Prop :=
  ∃ av, OwnArgs w lo hi av xss ∧ w.ownsRow lo 23 1 v xss.length av ∧ ∀ g, v.ownBlock = some g → g < hi

section
variable {w w' : World} {lo hi lo' hi' B B' : Nat} {v : Value} {xss : List (List Int)}
theorem RdRows.below (h : RdRows w B v xss) (hb : Below B' w w') (hB : B ≤ B') : RdRows w' B v xss := by
  obtain ⟨A, c, rfl, hc, h⟩ := h
  refine ⟨A, c, rfl, hc, fun hn => ?_⟩
  obtain ⟨b, o, rfl, hlt, hk⟩ := h hn
  refine ⟨b, o, rfl, hlt, fun k hkl => ?_⟩
  obtain ⟨u, h1, h2⟩ := hk k hkl
  exact ⟨u, (hb.cell (p := ⟨b, o + k, none⟩) (by show b < B'; omega)).trans h1, h2.below hb hB⟩
theorem RdRows.more (h : RdRows w B v xss) (hB : B ≤ B') : RdRows w B' v xss := by
  obtain ⟨A, c, rfl, hc, h⟩ := h
  refine ⟨A, c, rfl, hc, fun hn => ?_⟩
  obtain ⟨b, o, rfl, hlt, hk⟩ := h hn
  refine ⟨b, o, rfl, by omega, fun k hkl => ?_⟩
  obtain ⟨u, h1, h2⟩ := hk k hkl
  exact ⟨u, h1, h2.more hB⟩
theorem RdRows.on (h : RdRows w w.heap.size v xss) (hb : Below w.heap.size w w') : RdRows w' w'.heap.size v xss := (h.below hb (Nat.le_refl _)).more hb.size
theorem RdRows.get {A : Option Addr} {c : Nat} (h : RdRows w B (.slice A xss.length c) xss) {k : Nat} (hk : k < xss.length) :
    ∃ b o A2 c2, A = some ⟨b, o, none⟩ ∧ b < B ∧ w.cell? ⟨b, o + k, none⟩ = some (.slice A2 xss[k].length c2) ∧ RdInts w B (.slice A2 xss[k].length c2) xss[k] := by
  obtain ⟨A', c', e, _, h⟩ := h
  injection e with e1 _ _
  subst e1
  obtain ⟨b, o, rfl, hb, hx⟩ := h (by omega)
  obtain ⟨u, h1, h2⟩ := hx k hk
  have h3 := h2
  obtain ⟨A2, c2, rfl, _⟩ := h2
  exact ⟨b, o, A2, c2, rfl, hb, h1, h3⟩
theorem OwnRows.weak (h : OwnRows w lo hi v xss) : WkRows w lo hi v xss := by
  obtain ⟨av, h1, h2, h3⟩ := h
  exact ⟨av, ⟨h1.len, h1.own⟩, h2, h3⟩
theorem WkRows.form (h : WkRows w lo hi v xss) : ∃ A c, v = .slice A xss.length c := by
  obtain ⟨_, _, h, _⟩ := h
  rcases h.2 with ⟨rfl, h0⟩ | ⟨g, cap, _, rfl, _⟩
  · exact ⟨none, 0, by rw [h0]⟩
  · exact ⟨_, _, rfl⟩
theorem WkRows.below (h : WkRows w lo hi v xss) (hb : Below B w w') (hB : hi ≤ B) : WkRows w' lo hi v xss := by
  obtain ⟨av, ⟨h0, h1⟩, h2, h3⟩ := h
  exact ⟨av, ⟨h0, fun i a b => (h1 i a b).below hb hB⟩, ownsRow_below h2 h3 hb hB, h3⟩
theorem WkRows.mono (h : WkRows w lo hi v xss) (h1 : lo' ≤ lo) (h2 : hi ≤ hi') : WkRows w lo' hi' v xss := by
  obtain ⟨av, ⟨h0, ha⟩, hr, hlt⟩ := h
  exact ⟨av, ⟨h0, fun i a b => (ha i a b).mono h1 h2⟩, ownsRow_mono hr h1, fun g hg => by have := hlt g hg; omega⟩
theorem WkRows.only (h : WkRows w lo hi v xss) (ho : Only lo' hi' w w') (hd : hi ≤ lo' ∨ hi' ≤ lo) : WkRows w' lo hi v xss := by
  obtain ⟨av, ⟨h0, ha⟩, hr, hlt⟩ := h
  exact ⟨av, ⟨h0, fun i a b => (ha i a b).only ho hd⟩, ownsRow_only hr fun g hg => ho.block g (hr.lt g hg).2 (by have := hr.lt g hg; have := hlt g hg; omega), hlt⟩
theorem WkRows.rd (h : WkRows w lo hi v xss) : RdRows w hi v xss := by
  obtain ⟨av, ⟨h0, ha⟩, hr, hlt⟩ := h
  have hcells := @World.ownsRow.cells w lo 23 1 v xss.length av hr
  obtain ⟨hlen, hr⟩ := hr
  rcases hr with ⟨rfl, e0⟩ | ⟨g, cap, cur, rfl, hb, hg, hn, hm, hs, ht⟩
  · have : xss = [] := List.eq_nil_of_length_eq_zero e0
    subst this
    exact ⟨none, 0, rfl, by simp, fun h => absurd h (by simp)⟩
  · refine ⟨_, cap, rfl, hn, fun _ => ⟨g, 0, rfl, hlt g rfl, fun k hk => ⟨av[k]'(by omega), ?_, (ha k hk (by omega)).rd⟩⟩⟩
    have := hcells (g := g) rfl k (av[k]'(by omega)) (by simp [show k < av.length by omega])
    rwa [Go.WideShapes.add_plain] at this
theorem OwnRows.below (h : OwnRows w lo hi v xss) (hb : Below B w w') (hB : hi ≤ B) : OwnRows w' lo hi v xss := by
  obtain ⟨av, h1, h2, h3⟩ := h
  exact ⟨av, h1.below hb hB, ownsRow_below h2 h3 hb hB, h3⟩
theorem OwnRows.mono (h : OwnRows w lo hi v xss) (h1 : lo' ≤ lo) (h2 : hi ≤ hi') : OwnRows w lo' hi' v xss := by
  obtain ⟨av, ha, hr, hlt⟩ := h
  exact ⟨av, ha.mono h1 h2, ownsRow_mono hr h1, fun g hg => by have := hlt g hg; omega⟩
theorem OwnRows.only (h : OwnRows w lo hi v xss) (ho : Only lo' hi' w w') (hd : hi ≤ lo' ∨ hi' ≤ lo) : OwnRows w' lo hi v xss := by
  obtain ⟨av, ha, hr, hlt⟩ := h
  exact ⟨av, ⟨ha.len, fun i a b => (ha.own i a b).only ho hd, ha.apart⟩, ownsRow_only hr fun g hg => ho.block g (hr.lt g hg).2 (by have := hr.lt g hg; have := hlt g hg; omega), hlt⟩
theorem OwnRows.rd (h : OwnRows w lo hi v xss) : RdRows w hi v xss := h.weak.rd
theorem OwnRows.form (h : OwnRows w lo hi v xss) : ∃ A c, v = .slice A xss.length c := h.weak.form
end

/-- The block of a row of integers is no block of a row of slices. -/
theorem rowsI_ne {w : World} {lo hi lo' g : Nat} {n : Nat} {v a : Value} {zs : List Value} {xs : List Int} (hr : w.ownsRow lo' 23 1 v n zs) (hv : v.ownBlock = some g) (ha : OwnInts w lo hi a xs) : a.ownBlock ≠ some g := by
  rcases hr.2 with ⟨rfl, _⟩ | ⟨g1, c1, cur1, rfl, _, h1, _⟩
  · cases hv
  · have e : g1 = g := by simpa [Value.ownBlock] using hv
    subst e
    exact blk_ne_row ha.1 (show Blk w g1 23 cur1 from h1) (by decide)

theorem WkRows.get {w : World} {lo hi c : Nat} {A : Option Addr} {xss : List (List Int)} (h : WkRows w lo hi (.slice A xss.length c) xss) {k : Nat} (hk : k < xss.length) :
    ∃ g A2 c2, A = some ⟨g, 0, none⟩ ∧ g < w.heap.size ∧ w.cell? ⟨g, k, none⟩ = some (.slice A2 xss[k].length c2) ∧ OwnInts w lo hi (.slice A2 xss[k].length c2) xss[k] := by
  obtain ⟨av, ⟨h0, ha⟩, hr, hlt⟩ := h
  have hcells := @World.ownsRow.cells w lo 23 1 _ xss.length av hr
  obtain ⟨hlen, hr2⟩ := hr
  rcases hr2 with ⟨e, e0⟩ | ⟨g, cap, cur, e, hb, hg, _⟩
  · omega
  · injection e with e1 _ _
    subst e1
    have h1 := ha k hk (by omega)
    obtain ⟨A2, c2, e2⟩ := h1.form
    have := hcells (g := g) rfl k (av[k]'(by omega)) (by simp [show k < av.length by omega])
    rw [Go.WideShapes.add_plain, Nat.zero_add, e2] at this
    exact ⟨g, A2, c2, rfl, Blk.lt hg, this, e2 ▸ h1⟩

/-- The relation of a loop that collects slices of integers: these lie from lo on, the row is new. -/
structure ColS (lo : Nat) (w wr : World) (xss : List (List Int)) (A : Option Addr) (c : Nat) (av : List Value) : Prop where
  below : Below w.heap.size w wr
  len : av.length = xss.length
  inn : ∀ i (h : i < xss.length) (h' : i < av.length), OwnInts wr lo wr.heap.size av[i] xss[i]
  row : wr.ownsRow w.heap.size 23 1 (.slice A xss.length c) xss.length av
theorem ColS.empty {lo : Nat} {w wr : World} (hb : Below w.heap.size w wr) : ColS lo w (wr.alloc (.cells #[] 23)) [] (some ⟨wr.heap.size, 0, none⟩) 0 [] :=
  ⟨hb.alloc hb.size _, rfl, fun i h => absurd h (by simp), World.ownsRow_made wr #[] 0 hb.size (by decide) rfl⟩
theorem ColS.on {lo : Nat} {w wr w2 : World} {xss : List (List Int)} {A : Option Addr} {c : Nat} {av : List Value} (h : ColS lo w wr xss A c av) (hb : Below wr.heap.size wr w2) : ColS lo w w2 xss A c av :=
  ⟨bthen h.below hb, h.len, fun i a b => ((h.inn i a b).below hb (Nat.le_refl _)).mono (Nat.le_refl _) hb.size, ownsRow_below h.row (fun g hg => (h.row.lt g hg).2) hb (Nat.le_refl _)⟩
theorem ColS.rows {lo : Nat} {w wr : World} {xss : List (List Int)} {A : Option Addr} {c : Nat} {av : List Value} (h : ColS lo w wr xss A c av) (hl : lo ≤ w.heap.size) : WkRows wr lo wr.heap.size (.slice A xss.length c) xss :=
  ⟨av, ⟨h.len, h.inn⟩, ownsRow_mono h.row hl, fun g hg => (h.row.lt g hg).2⟩
theorem ColS.push {lo : Nat} {w wr w2 w4 : World} {xss xss' : List (List Int)} {A : Option Addr} {c g cap : Nat} {xs : List Int} {u : Value} {o : Obj} {av : List Value} (h : ColS lo w wr xss A c av) (e : xss' = xss ++ [xs]) (hb : Below wr.heap.size wr w2) (hu : OwnInts w2 lo w2.heap.size u xs)
    (hg : (w2.alloc o).grownBy w4 (Value.slice A xss.length c).ownBlock) (hown : w4.ownsRow w.heap.size 23 1 (.slice (some ⟨g, 0, none⟩) (xss.length + 1) cap) (xss.length + 1) (av ++ [u])) :
    ColS lo w w4 xss' (some ⟨g, 0, none⟩) cap (av ++ [u]) ∧ xss.length + 1 = xss'.length := by
  subst e
  have h2 := h.on hb
  have hg' := grown_from_alloc hg
  have hl : (xss ++ [xs]).length = xss.length + 1 := by simp
  refine ⟨⟨(h2.below.alloc h2.below.size _).grown hg (by have := h2.below.size; simp; omega) (fun k hk => (h2.row.lt k hk).1), by simp [h.len], fun i h1 h3 => ?_, by rw [hl]; exact hown⟩, hl.symm⟩
  have keep : ∀ {a : Value} {ys : List Int}, OwnInts w2 lo w2.heap.size a ys → OwnInts w4 lo w4.heap.size a ys := fun {a ys} h0 =>
    (h0.kept fun b hbk => hg'.block b (h0.lt hbk).2.2 (fun e => rowsI_ne h2.row e.symm h0 hbk)).mono (Nat.le_refl _) hg'.size
  by_cases e : i < xss.length
  · rw [List.getElem_append_left (by rw [h.len]; exact e), List.getElem_append_left e]
    exact keep (h2.inn i e (by rw [h.len]; exact e))
  · have e2 : i = xss.length := by simp at h1; omega
    subst e2
    have := h.len
    simp [← this]
    exact keep hu

end Go.Proofs.YtokmmloakahkhaaDoor
/-
  What variables have, plain mathematics: lists of four numbers from -1 to 5, and the words of four fields that the program keeps them in.
-/
namespace Go.Proofs.YtokmmloakahkhaaDoor
open Go.RowKit

/-- One of what a variable may have. -/
def hasB (x : Int) : Bool := decide (-1 ≤ x ∧ x ≤ 5)
def bindOk (bs : List Int) : Bool := decide (bs.length = 4) && bs.all hasB

theorem bindOk_len {bs : List Int} (h : bindOk bs = true) : bs.length = 4 := by
  simp only [bindOk, Bool.and_eq_true, decide_eq_true_eq] at h
  exact h.1
theorem bindOk_all {bs : List Int} (h : bindOk bs = true) : bs.all hasB = true := by
  simp only [bindOk, Bool.and_eq_true] at h
  exact h.2
theorem hasB_at {bs : List Int} (h : bs.all hasB = true) {k : Nat} (hk : k < bs.length) : -1 ≤ bs[k] ∧ bs[k] ≤ 5 := by
  have := List.all_eq_true.1 h bs[k] (List.getElem_mem hk)
  simpa [hasB] using this
theorem bindOk_at {bs : List Int} (h : bindOk bs = true) {k : Nat} (hk : k < bs.length) : -1 ≤ bs[k] ∧ bs[k] ≤ 5 := hasB_at (bindOk_all h) hk
theorem bindOk_iff {bs : List Int} (hl : bs.length = 4) (h : bs.all hasB = true) : bindOk bs = true := by simp [bindOk, hl, h]

/-- What a term has: a constant itself, a variable what it has. -/
def termVal (bs : List Int) (t : Int) : Int := if 0 ≤ t then t else bs.getD (-1 - t).toNat (-1)
theorem termVal_const {bs : List Int} {t : Int} (h : 0 ≤ t) : termVal bs t = t := if_pos h
theorem termVal_var {bs : List Int} {t : Int} (h : t < 0) : termVal bs t = bs.getD (-1 - t).toNat (-1) := if_neg (by omega)
theorem termOk_at {t : Int} (ht : termOk t = true) : -4 ≤ t ∧ t ≤ 5 := by simpa [termOk] using ht
theorem termVal_bounds {bs : List Int} (hb : bindOk bs = true) {t : Int} (ht : termOk t = true) : -1 ≤ termVal bs t ∧ termVal bs t ≤ 5 := by
  have ht' := termOk_at ht
  unfold termVal
  split
  · omega
  · have hl := bindOk_len hb
    have hk : (-1 - t).toNat < bs.length := by omega
    rw [List.getD_eq_getElem?_getD, List.getElem?_eq_getElem hk]
    exact bindOk_at hb hk

/-- The word of a list of four. -/
def encB (bs : List Int) : Nat := (((bs.getD 0 (-1) + 1).toNat * 16 + (bs.getD 1 (-1) + 1).toNat) * 16 + (bs.getD 2 (-1) + 1).toNat) * 16 + (bs.getD 3 (-1) + 1).toNat
/-- Nobody has anything. -/
def noneB : List Int := [-1, -1, -1, -1]
theorem noneB_ok : bindOk noneB = true := by decide
theorem encB_none : encB noneB = 0 := by decide

theorem list4 {bs : List Int} (h : bs.length = 4) : ∃ a b c d, bs = [a, b, c, d] := by
  match bs, h with
  | [a, b, c, d], _ => exact ⟨a, b, c, d, rfl⟩
theorem fin7 {x : Int} (h : -1 ≤ x ∧ x ≤ 5) : ∃ a : Fin 7, (x + 1).toNat = a.val ∧ x = (a.val : Int) - 1 := ⟨⟨(x + 1).toNat, by omega⟩, rfl, by show x = (((x + 1).toNat : Nat) : Int) - 1; omega⟩

theorem or0 : ∀ a b c e : Fin 7, ((0 * 16 + a.val) * 16 + b.val) * 16 + c.val ||| e.val * 4096 = ((e.val * 16 + a.val) * 16 + b.val) * 16 + c.val := by decide +kernel
theorem or1 : ∀ a b c e : Fin 7, ((a.val * 16 + 0) * 16 + b.val) * 16 + c.val ||| e.val * 256 = ((a.val * 16 + e.val) * 16 + b.val) * 16 + c.val := by decide +kernel
theorem or2 : ∀ a b c e : Fin 7, ((a.val * 16 + b.val) * 16 + 0) * 16 + c.val ||| e.val * 16 = ((a.val * 16 + b.val) * 16 + e.val) * 16 + c.val := by decide +kernel
theorem or3 : ∀ a b c e : Fin 7, ((a.val * 16 + b.val) * 16 + c.val) * 16 + 0 ||| e.val = ((a.val * 16 + b.val) * 16 + c.val) * 16 + e.val := by decide +kernel

/-- The word of a variable's constant. -/
def shlB (v : Nat) (c : Int) : Nat := (c + 1).toNat * 2 ^ ((3 - v) * 4)

theorem encB_set {bs : List Int} (h : bindOk bs = true) {v : Nat} (hv : v < 4) (hn : bs.getD v (-1) = -1) {c : Int} (hc : -1 ≤ c ∧ c ≤ 5) : encB bs ||| shlB v c = encB (bs.set v c) := by
  obtain ⟨b0, b1, b2, b3, rfl⟩ := list4 (bindOk_len h)
  have ha := bindOk_all h
  simp only [List.all_cons, List.all_nil, Bool.and_true, Bool.and_eq_true, hasB, decide_eq_true_eq] at ha
  obtain ⟨h0, h1, h2, h3⟩ := ha
  obtain ⟨e, he, he'⟩ := fin7 hc
  obtain ⟨x0, e0, _⟩ := fin7 h0
  obtain ⟨x1, e1, _⟩ := fin7 h1
  obtain ⟨x2, e2, _⟩ := fin7 h2
  obtain ⟨x3, e3, _⟩ := fin7 h3
  match v, hv with
  | 0, _ =>
    simp only [List.getD_cons_zero] at hn
    subst hn
    simp only [encB, shlB, List.getD_cons_zero, List.getD_cons_succ, List.set_cons_zero, he, e1, e2, e3]
    exact or0 x1 x2 x3 e
  | 1, _ =>
    simp only [List.getD_cons_zero, List.getD_cons_succ] at hn
    subst hn
    simp only [encB, shlB, List.getD_cons_zero, List.getD_cons_succ, List.set_cons_zero, List.set_cons_succ, he, e0, e2, e3]
    exact or1 x0 x2 x3 e
  | 2, _ =>
    simp only [List.getD_cons_zero, List.getD_cons_succ] at hn
    subst hn
    simp only [encB, shlB, List.getD_cons_zero, List.getD_cons_succ, List.set_cons_zero, List.set_cons_succ, he, e0, e1, e3]
    exact or2 x0 x1 x3 e
  | 3, _ =>
    simp only [List.getD_cons_zero, List.getD_cons_succ] at hn
    subst hn
    simp only [encB, shlB, List.getD_cons_zero, List.getD_cons_succ, List.set_cons_zero, List.set_cons_succ, he, e0, e1, e2]
    simpa using or3 x0 x1 x2 e

theorem encB_lt {bs : List Int} (h : bindOk bs = true) : encB bs < 65536 := by
  obtain ⟨b0, b1, b2, b3, rfl⟩ := list4 (bindOk_len h)
  have ha := bindOk_all h
  simp only [List.all_cons, List.all_nil, Bool.and_true, Bool.and_eq_true, hasB, decide_eq_true_eq] at ha
  simp only [encB, List.getD_cons_zero, List.getD_cons_succ]
  omega
theorem shlB_lt {v : Nat} (hv : v < 4) {c : Int} (hc : -1 ≤ c ∧ c ≤ 5) : shlB v c < 65536 := by
  unfold shlB
  match v, hv with
  | 0, _ => show (c + 1).toNat * 4096 < 65536; omega
  | 1, _ => show (c + 1).toNat * 256 < 65536; omega
  | 2, _ => show (c + 1).toNat * 16 < 65536; omega
  | 3, _ => show (c + 1).toNat * 1 < 65536; omega

/-- What a variable has, read off the word. -/
def fieldB (m v : Nat) : Nat := m / 2 ^ ((3 - v) * 4) % 16
theorem fieldB_enc {bs : List Int} (h : bindOk bs = true) {v : Nat} (hv : v < 4) : ((fieldB (encB bs) v : Nat) : Int) - 1 = bs.getD v (-1) := by
  obtain ⟨b0, b1, b2, b3, rfl⟩ := list4 (bindOk_len h)
  have ha := bindOk_all h
  simp only [List.all_cons, List.all_nil, Bool.and_true, Bool.and_eq_true, hasB, decide_eq_true_eq] at ha
  match v, hv with
  | 0, _ => simp only [fieldB, encB, List.getD_cons_zero, List.getD_cons_succ]; omega
  | 1, _ => simp only [fieldB, encB, List.getD_cons_zero, List.getD_cons_succ]; omega
  | 2, _ => simp only [fieldB, encB, List.getD_cons_zero, List.getD_cons_succ]; omega
  | 3, _ => simp only [fieldB, encB, List.getD_cons_zero, List.getD_cons_succ]; omega

theorem encB_inj {bs cs : List Int} (h : bindOk bs = true) (h2 : bindOk cs = true) (e : encB bs = encB cs) : bs = cs := by
  apply List.ext_getElem (by rw [bindOk_len h, bindOk_len h2])
  intro v h1 h3
  have hv : v < 4 := by rw [bindOk_len h] at h1; exact h1
  have a := fieldB_enc h hv
  have b := fieldB_enc h2 hv
  rw [e] at a
  have c := a.symm.trans b
  simpa [h1, h3] using c
theorem bindOk_set {bs : List Int} (h : bindOk bs = true) {c : Int} (hc : -1 ≤ c ∧ c ≤ 5) (v : Nat) : bindOk (bs.set v c) = true := by
  refine bindOk_iff (by rw [List.length_set]; exact bindOk_len h) (List.all_eq_true.2 fun x hx => ?_)
  rcases List.mem_or_eq_of_mem_set hx with hx | rfl
  · exact List.all_eq_true.1 (bindOk_all h) x hx
  · simpa [hasB] using hc

/-- The first k of a list, the others as yet without any. -/
def padB (bs : List Int) (k : Nat) : List Int := bs.take k ++ List.replicate (4 - k) (-1)
theorem padB_zero (bs : List Int) : padB bs 0 = noneB := rfl
theorem padB_all {bs : List Int} (h : bs.length = 4) : padB bs 4 = bs := by simp [padB, ← h]
theorem padB_ok {bs : List Int} {k : Nat} (hl : bs.length = 4) (hk : k ≤ 4) (h : (bs.take k).all hasB = true) : bindOk (padB bs k) = true := by
  refine bindOk_iff (by simp [padB, hl]; omega) ?_
  simp only [padB, List.all_append, h, Bool.true_and, List.all_eq_true]
  intro x hx
  rw [List.eq_of_mem_replicate hx]
  rfl
theorem padB_step {bs : List Int} {k : Nat} (hl : bs.length = 4) (hk : k < 4) : (padB bs k).getD k (-1) = -1 ∧ (padB bs k).set k (bs[k]'(by omega)) = padB bs (k + 1) := by
  obtain ⟨b0, b1, b2, b3, rfl⟩ := list4 hl
  match k, hk with
  | 0, _ => exact ⟨rfl, rfl⟩
  | 1, _ => exact ⟨rfl, rfl⟩
  | 2, _ => exact ⟨rfl, rfl⟩
  | 3, _ => exact ⟨rfl, rfl⟩

/-- Bound. -/
def boundL (args bs : List Int) : List Int := if bindOk bs && args.all termOk then args.map (termVal bs) else []
theorem boundL_length (args bs : List Int) : (boundL args bs).length ≤ args.length := by
  unfold boundL
  split <;> simp

end Go.Proofs.YtokmmloakahkhaaDoor
/-
  The walks of FactOk: the program's (with factFits) and the specification's.
-/
namespace Go.Proofs.YtokmmloakahkhaaDoor
open Go.RowKit

def constOk (x : Int) : Bool := decide (0 ≤ x ∧ x ≤ 5)
def factFits (ar : List Int) (f : LFact) : Bool := decide (0 ≤ f.1 ∧ f.1 < ar.length ∧ (f.2.length : Int) = ar.getD f.1.toNat 0) && f.2.all constOk
def factOk (ar : List Int) (f : LFact) : Bool := arityOk ar && factFits ar f

def ConstsTo (xs : List Int) (k : Nat) : Prop := ∀ j, j < k → constOk (xs.getD j 0) = true
theorem ConstsTo.step {xs : List Int} {k : Nat} (h : ConstsTo xs k) (e : constOk (xs.getD k 0) = true) : ConstsTo xs (k + 1) := fun j hj => by
  by_cases h2 : j = k
  · subst h2; exact e
  · exact h j (by omega)
theorem ConstsTo.all {xs : List Int} (h : ConstsTo xs xs.length) : xs.all constOk = true := by
  rw [List.all_eq_true]
  intro x hx
  obtain ⟨j, hj, rfl⟩ := List.getElem_of_mem hx
  have := h j hj
  simpa [hj] using this
theorem consts_not {xs : List Int} {k : Nat} (hk : k < xs.length) (e : constOk xs[k] = false) : xs.all constOk = false := by
  rw [List.all_eq_false]
  exact ⟨xs[k], List.getElem_mem hk, by simp [e]⟩

end Go.Proofs.YtokmmloakahkhaaDoor
/-
  HeadOf, plain mathematics; blocks that growth leaves alone.
-/
namespace Go.Proofs.YtokmmloakahkhaaDoor
open Go.RowKit

def headOk (a : LFact) (bs : List Int) : Bool := (bindOk bs && a.2.all termOk) && (a.2.map (termVal bs)).all constOk
def headOf (a : LFact) (bs : List Int) : LFact := if headOk a bs then (a.1, a.2.map (termVal bs)) else (0, [])
theorem headOk_bind {a : LFact} {bs : List Int} (h : bindOk bs = false) : headOk a bs = false := by unfold headOk; rw [h]; rfl
theorem headOk_terms {a : LFact} {bs : List Int} (h : a.2.all termOk = false) : headOk a bs = false := by unfold headOk; rw [h, Bool.and_false]; rfl
theorem headOk_vals {a : LFact} {bs : List Int} (h : (a.2.map (termVal bs)).all constOk = false) : headOk a bs = false := by unfold headOk; rw [h, Bool.and_false]
theorem headOk_yes {a : LFact} {bs : List Int} (h1 : bindOk bs = true) (h2 : a.2.all termOk = true) (h3 : (a.2.map (termVal bs)).all constOk = true) : headOk a bs = true := by unfold headOk; rw [h1, h2, h3]; rfl
theorem headOf_no {a : LFact} {bs : List Int} (h : headOk a bs = false) : headOf a bs = (0, []) := by unfold headOf; rw [h]; rfl
theorem headOf_yes {a : LFact} {bs : List Int} (h : headOk a bs = true) : headOf a bs = (a.1, a.2.map (termVal bs)) := by unfold headOf; rw [h]; rfl
theorem headOf_length (a : LFact) (bs : List Int) : (headOf a bs).2.length ≤ a.2.length := by
  unfold headOf
  split <;> simp

theorem Blk.grown {w w' : World} {g : Nat} {t : TypeId} {cs : Array Value} {row : Option Nat} (h : Blk w g t cs) (hg : w.grownBy w' row) (hne : row ≠ some g) : Blk w' g t cs := (hg.block g h.lt (fun e => hne e.symm)).trans h
/-- A row that is appended to lies in none of the blocks ahead. -/
theorem OwnInts.apart {w : World} {lo hi : Nat} {v : Value} {xs : List Int} (h : OwnInts w lo hi v xs) {g : Nat} (hg : g < lo) : v.ownBlock ≠ some g := fun e => by have := h.lt e; omega

end Go.Proofs.YtokmmloakahkhaaDoor
/-
  The specification's l3Bind, l3Term, Bound, l3Copy.
-/
namespace Go.Proofs.YtokmmloakahkhaaDoor
open Go.RowKit

end Go.Proofs.YtokmmloakahkhaaDoor
/-
  The walks of the program's words of what variables have: bindingShift, with, constant, value.
-/
namespace Go.Proofs.YtokmmloakahkhaaDoor
open Go.RowKit

theorem shl_word {v : Nat} (hv : v < 4) {c : Int} (hc : -1 ≤ c ∧ c ≤ 5) : (c + 1) * 2 ^ ((3 - v) * 4) % 4294967296 = ((shlB v c : Nat) : Int) := by
  unfold shlB
  match v, hv with
  | 0, _ => show (c + 1) * 4096 % 4294967296 = (((c + 1).toNat * 4096 : Nat) : Int); omega
  | 1, _ => show (c + 1) * 256 % 4294967296 = (((c + 1).toNat * 256 : Nat) : Int); omega
  | 2, _ => show (c + 1) * 16 % 4294967296 = (((c + 1).toNat * 16 : Nat) : Int); omega
  | 3, _ => show (c + 1) * 1 % 4294967296 = (((c + 1).toNat * 1 : Nat) : Int); omega
theorem or_word32 {a b : Nat} (ha : a < 65536) (hb : b < 65536) : bits .or .u32 (a : Int) (b : Int) = ((a ||| b : Nat) : Int) := u32_or_nat a b (by omega) (by omega)
theorem field_word {m v : Nat} (hm : m < 65536) : bits .and .u32 ((m : Int) / 2 ^ ((3 - v) * 4)) 15 = ((fieldB m v : Nat) : Int) := by
  have h := u32_and_nat (m / 2 ^ ((3 - v) * 4)) 15 (Nat.lt_of_le_of_lt (Nat.div_le_self _ _) (by omega)) (by omega)
  have e : (15 : Nat) = 2 ^ 4 - 1 := rfl
  rw [e, Nat.and_two_pow_sub_one_eq_mod] at h
  simpa [fieldB] using h
theorem fieldB_lt (m v : Nat) : fieldB m v < 16 := Nat.mod_lt _ (by omega)

end Go.Proofs.YtokmmloakahkhaaDoor
/-
  The walks of bindingOf, values, numbers.
-/
namespace Go.Proofs.YtokmmloakahkhaaDoor
open Go.RowKit

theorem bs_getD {bs : List Int} {j : Nat} (hl : bs.length = 4) (hj : j < 4) : bs.getD j (-1) = bs.getD j 0 := by
  rw [List.getD_eq_getElem?_getD, List.getD_eq_getElem?_getD, List.getElem?_eq_getElem (by omega)]
  rfl

theorem make4i (W : World) : (Instr.makeSlice 23 (.int .i64 4) (.int .i64 4)).run Tryd.prog W = .ok (.slice (some ⟨W.heap.size, 0, none⟩) 4 4) (W.alloc (.cells (madeCells #[.int .i64 0] 4) 3)) :=
  run_make_row' (P := Tryd.prog) 23 3 (.int .i64 0) 8 Tryd.underlying23 Tryd.infoInt rfl .i64 .i64 4 (by omega) (by omega) W

end Go.Proofs.YtokmmloakahkhaaDoor
/-
  The program's Bound.
-/
namespace Go.Proofs.YtokmmloakahkhaaDoor
open Go.RowKit

theorem areTerms_is {xs : List Int} {b : Bool} (e : xs.all termOk = b) (v : Value) (B : Nat) (w : World) (h : RdInts w B v xs) (hr : xs.length ≤ 1048576) :
    Calls Tryd.prog 87 #[v] w fun e w' => e = .returned (.bool b) ∧ w = w' := e ▸ areTerms_any v xs B w h hr

end Go.Proofs.YtokmmloakahkhaaDoor
/-
  Both BodySafe.
-/
namespace Go.Proofs.YtokmmloakahkhaaDoor
open Go.RowKit

def litFine (l : LLit) : Bool := decide (0 ≤ l.1 ∧ l.1 ≤ 3) && l.2.2.all termOk
def bodySafe (ls : List LLit) : Bool := (ls.all litFine && decide (ls.length ≤ 4)) && ruleSafe ((0, []), ls)
theorem litFine_kind {l : LLit} (h : ¬ (0 ≤ l.1 ∧ l.1 ≤ 3)) : litFine l = false := by simp [litFine, h]
theorem litFine_terms {l : LLit} (h : l.2.2.all termOk = false) : litFine l = false := by unfold litFine; rw [h, Bool.and_false]
theorem litFine_yes {l : LLit} (h : 0 ≤ l.1 ∧ l.1 ≤ 3) (h2 : l.2.2.all termOk = true) : litFine l = true := by unfold litFine; rw [h2, decide_eq_true h]; rfl
theorem ruleMask_body (ls : List LLit) : ruleMask ((0, []), ls) = bodyMask ls := by simp [ruleMask, maskOf, maskFrom]
theorem bodySafe_not {ls : List LLit} {k : Nat} (hk : k < ls.length) (e : litFine ls[k] = false) : bodySafe ls = false := by
  unfold bodySafe
  rw [all_not hk e]
  rfl
theorem l2Terms_is {xs : List Int} {b : Bool} (e : xs.all termOk = b) (v : Value) (B : Nat) (w : World) (h : RdInts w B v xs) (hr : xs.length ≤ 1048576) :
    Calls Tryd.prog 83 #[v] w fun e w' => e = .returned (.bool b) ∧ w = w' := e ▸ l2Terms_any v xs B w h hr

set_option maxHeartbeats 1000000 in
set_option maxRecDepth 100000 in
theorem specBodySafe_any (v : Value) (ls : List LLit) (w : World) (h : RdLits w w.heap.size v ls) (hr : ls.length + totL ls ≤ 1048576) :
    Calls Tryd.prog 60 #[v] w fun e w' => e = .returned (.bool (bodySafe ls)) ∧ Below w.heap.size w w' := by
  have H := Lib.hid h
  obtain ⟨A, c, rfl, hc, _⟩ := h
  obtain ⟨R, hR⟩ : ∃ R, R = bodySafe ls := ⟨_, rfl⟩
  rw [← hR]
  have HR := Lib.hid hR
  clear hR
  go_enter Tryd.func60, Tryd.ntmps60
  go_wp2_with (fail)
  go_loop [3] (fun i => ∃ k : Nat, k ≤ ls.length ∧ i = .int .i64 k ∧ AllTo litFine ls k) (fun i => ls.length - (intOf i).toNat)
  case atStart => exact ⟨0, Nat.zero_le _, rfl, AllTo.start⟩
  case round =>
    obtain ⟨k, hk, rfl, hs⟩ := hrel
    by_cases hlt : k < ls.length
    · obtain ⟨b, o, u0, u1, u2, rfl, hbB, k0, k1, k2, rfl, rfl, p3⟩ := H.out.get hlt
      have HA := Lib.hid p3
      obtain ⟨A3, c3, rfl, hc3, _⟩ := p3
      have hle := len_le_totL ls k hlt
      by_cases he : 0 ≤ ls[k].1 ∧ ls[k].1 ≤ 3
      · have HK := Lib.hid (l1In_yes he)
        by_cases ht : ls[k].2.2.all termOk = true
        · have HS := Lib.hid (hs.step hlt (litFine_yes he ht))
          have HT := Lib.hid (l2Terms_is ht _ _ w HA.out (by omega))
          clear hs he ht
          go_wp2_with (first | (go_at_call 58; refine (HK.out _).mono ?_; rintro e w' ⟨rfl, rfl⟩) | (go_at_call 83; refine HT.out.mono ?_; rintro e w' ⟨rfl, rfl⟩))
          go_round
          case rel => exact ⟨k + 1, by omega, by go_num, HS.out⟩
          case measure => simp [intOf]; omega
        · have ht' : ls[k].2.2.all termOk = false := by simpa using ht
          have HE := Lib.hid (bodySafe_not hlt (litFine_terms ht'))
          have HT := Lib.hid (l2Terms_is ht' _ _ w HA.out (by omega))
          clear hs he ht ht'
          go_wp2_with (first | (go_at_call 58; refine (HK.out _).mono ?_; rintro e w' ⟨rfl, rfl⟩) | (go_at_call 83; refine HT.out.mono ?_; rintro e w' ⟨rfl, rfl⟩))
          go_ret
          exact ⟨ret_bool (by rw [HR.out, HE.out]), Below.refl _ _⟩
      · have HE := Lib.hid (bodySafe_not hlt (litFine_kind he))
        have HK := Lib.hid (l1In_no he)
        clear hs he
        go_wp2_with (go_at_call 58; refine (HK.out _).mono ?_; rintro e w' ⟨rfl, rfl⟩)
        go_ret
        exact ⟨ret_bool (by rw [HR.out, HE.out]), Below.refl _ _⟩
    · have HE := Lib.hid (hs.done (by omega))
      clear hs
      by_cases hl : ls.length ≤ 4
      · have hlI : (ls.length : Int) ≤ 4 := by omega
        have HY := Lib.hid (show R = ruleSafe ((0, []), ls) by rw [HR.out]; unfold bodySafe; rw [HE.out, decide_eq_true hl]; rfl)
        have HC := Lib.hid (specRuleSafe_any (.agg #[.int .i64 0, .slice none 0 0, .slice A ls.length c]) ((0, []), ls) w ⟨_, _, rfl, ⟨none, 0, rfl, Nat.zero_le _, fun h => absurd h (by simp)⟩, H.out⟩ (by simpa [szR] using hr))
        go_wp2_with (go_at_call 78; refine HC.out.mono ?_; rintro e w1 ⟨rfl, hb1⟩; have HB := Lib.hid hb1; clear hb1)
        go_ret
        exact ⟨ret_bool HY.out.symm, HB.out⟩
      · have hlI : ¬ (ls.length : Int) ≤ 4 := by omega
        have HY := Lib.hid (show R = false by rw [HR.out]; unfold bodySafe; rw [decide_eq_false hl, Bool.and_false]; rfl)
        clear hl
        go_wp2_with (fail)
        go_ret
        exact ⟨ret_bool HY.out.symm, Below.refl _ _⟩

set_option maxHeartbeats 1000000 in
set_option maxRecDepth 100000 in
theorem implBodySafe_any (v : Value) (ls : List LLit) (w : World) (h : RdLits w w.heap.size v ls) (hr : ls.length + totL ls ≤ 1048576) :
    Calls Tryd.prog 64 #[v] w fun e w' => e = .returned (.bool (bodySafe ls)) ∧ Below w.heap.size w w' := by
  have H := Lib.hid h
  obtain ⟨A, c, rfl, hc, _⟩ := h
  obtain ⟨R, hR⟩ : ∃ R, R = bodySafe ls := ⟨_, rfl⟩
  rw [← hR]
  have HR := Lib.hid hR
  clear hR
  by_cases hl : ls.length ≤ 4
  · have hlI : ¬ 4 < (ls.length : Int) := by omega
    have HL := Lib.hid hl
    go_enter Tryd.func64, Tryd.ntmps64
    go_wp2_with (fail)
    go_loopw [4, 10] (fun _ i wr => ∃ k : Nat, k ≤ ls.length ∧ i = .int .i64 k ∧ AllTo litFine ls k ∧ Below w.heap.size w wr) (fun _ i _ => ls.length - (intOf i).toNat)
    case atStart => exact ⟨0, Nat.zero_le _, rfl, AllTo.start, Below.refl _ _⟩
    case round =>
      obtain ⟨k, hk, rfl, hs, hbe⟩ := hrel
      by_cases hlt : k < ls.length
      · obtain ⟨b, o, u0, u1, u2, rfl, hbB, k0, k1, k2, rfl, rfl, p3⟩ := (H.out.on hbe).get hlt
        have HA := Lib.hid p3
        obtain ⟨A3, c3, rfl, hc3, _⟩ := p3
        have hle := len_le_totL ls k hlt
        by_cases h0 : ls[k].1 < 0
        · have HE := Lib.hid (bodySafe_not hlt (litFine_kind (by omega)))
          clear hs
          go_wp2_with (fail)
          go_ret
          exact ⟨ret_bool (by rw [HR.out, HE.out]), bthen hbe (below1 _ _)⟩
        · have hd : decide (ls[k].1 < 0) = false := by simpa using h0
          by_cases h3 : 3 < ls[k].1
          · have HE := Lib.hid (bodySafe_not hlt (litFine_kind (by omega)))
            clear hs
            go_wp2_with (fail)
            go_ret
            exact ⟨ret_bool (by rw [HR.out, HE.out]), bthen hbe (below1 _ _)⟩
          · have hd3 : decide (3 < ls[k].1) = false := by simpa using h3
            by_cases ht : ls[k].2.2.all termOk = true
            · have HS := Lib.hid (hs.step hlt (litFine_yes (by omega) ht))
              have HT := Lib.hid (fun W (hW : Below wr.heap.size wr W) => areTerms_is ht _ _ W (HA.out.on hW) (by omega))
              clear hs ht
              go_wp2_with (go_at_call 87; refine (HT.out _ (below1 _ _)).mono ?_; rintro e w' ⟨rfl, rfl⟩)
              go_roundw
              case rel => exact ⟨k + 1, by omega, by go_num, HS.out, bthen hbe (below1 _ _)⟩
              case measure => simp [intOf]; omega
            · have ht' : ls[k].2.2.all termOk = false := by simpa using ht
              have HE := Lib.hid (bodySafe_not hlt (litFine_terms ht'))
              have HT := Lib.hid (fun W (hW : Below wr.heap.size wr W) => areTerms_is ht' _ _ W (HA.out.on hW) (by omega))
              clear hs ht ht'
              go_wp2_with (go_at_call 87; refine (HT.out _ (below1 _ _)).mono ?_; rintro e w' ⟨rfl, rfl⟩)
              go_ret
              exact ⟨ret_bool (by rw [HR.out, HE.out]), bthen hbe (below1 _ _)⟩
      · have HE := Lib.hid (hs.done (by omega))
        have HY := Lib.hid (show R = ruleSafe ((0, []), ls) by rw [HR.out]; unfold bodySafe; rw [HE.out, decide_eq_true HL.out]; rfl)
        have HZ := Lib.hid (show ruleSafe ((0, []), ls) = (bits .andNot .u64 ((bodyMask ls : Nat) : Int) ((yesMask ls : Nat) : Int) == 0) by unfold ruleSafe; rw [ruleMask_body])
        clear hs
        go_wp2_with (fail)
        refine (bodyVars_any _ ls _ (H.out.on hbe) (by omega) (by omega)).mono ?_
        rintro e w1 ⟨rfl, hb1⟩
        have B1 := bthen hbe hb1
        go_wp2_with (fail)
        refine (yesVars_any _ ls _ (H.out.on B1) (by omega) (by omega)).mono ?_
        rintro e w2 ⟨rfl, hb2⟩
        have B2 := bthen B1 hb2
        go_wp2_with (fail)
        go_ret
        exact ⟨ret_bool (by rw [HY.out, HZ.out]), B2⟩
  · have hlI : 4 < (ls.length : Int) := by omega
    have HY := Lib.hid (show R = false by rw [HR.out]; unfold bodySafe; rw [decide_eq_false hl, Bool.and_false]; rfl)
    clear hl
    go_enter Tryd.func64, Tryd.ntmps64
    go_wp2_with (fail)
    go_ret
    exact ⟨ret_bool HY.out.symm, Below.refl _ _⟩

end Go.Proofs.YtokmmloakahkhaaDoor
/-
  The specification's HeadOf.
-/
namespace Go.Proofs.YtokmmloakahkhaaDoor
open Go.RowKit

theorem zeroI (w : World) (lo hi : Nat) : OwnInts w lo hi (.slice none 0 0) [] := ⟨World.ownsRow_nil _ _ _ _, fun g hg => by cases hg⟩

end Go.Proofs.YtokmmloakahkhaaDoor
/-
  The program's HeadOf.
-/
namespace Go.Proofs.YtokmmloakahkhaaDoor
open Go.RowKit

end Go.Proofs.YtokmmloakahkhaaDoor
/-
  Matching an atom with a fact, plain mathematics.
-/
namespace Go.Proofs.YtokmmloakahkhaaDoor
open Go.RowKit

/-- One term against one constant. -/
def stepM (bs : List Int) (t c : Int) : Option (List Int) :=
  if termVal bs t = c then some bs else if termVal bs t = -1 then some (bs.set (-1 - t).toNat c) else none
def matchTo (bs xs ys : List Int) : Nat → Option (List Int)
  | 0 => some bs
  | k + 1 => (matchTo bs xs ys k).bind fun b => stepM b (xs.getD k 0) (ys.getD k 0)
def matchL (a f : LFact) (bs : List Int) : Option (List Int) :=
  if a.1 = f.1 ∧ a.2.length = f.2.length then matchTo bs a.2 f.2 a.2.length else none

theorem stepM_ok {bs b : List Int} (h : bindOk bs = true) {t c : Int} (hc : -1 ≤ c ∧ c ≤ 5) (e : stepM bs t c = some b) : bindOk b = true := by
  unfold stepM at e
  split at e
  · injection e with e
    rwa [← e]
  · split at e
    · injection e with e
      rw [← e]
      exact bindOk_set h hc _
    · cases e
theorem matchTo_step {bs xs ys b : List Int} {k : Nat} (h : matchTo bs xs ys k = some b) (h1 : k < xs.length) (h2 : k < ys.length) : matchTo bs xs ys (k + 1) = stepM b xs[k] ys[k] := by
  show (matchTo bs xs ys k).bind _ = _
  rw [h]
  simp [h1, h2]
theorem matchTo_none {bs xs ys : List Int} {k : Nat} (h : matchTo bs xs ys k = none) : ∀ n, k ≤ n → matchTo bs xs ys n = none
  | 0, hn => by
    have : k = 0 := by omega
    subst this
    exact h
  | n + 1, hn => by
    by_cases e : k = n + 1
    · rw [← e]; exact h
    · show (matchTo bs xs ys n).bind _ = none
      rw [matchTo_none h n (by omega)]
      rfl
theorem matchL_eq {a f : LFact} {bs : List Int} (h1 : a.1 = f.1) (h2 : a.2.length = f.2.length) : matchL a f bs = matchTo bs a.2 f.2 a.2.length := if_pos ⟨h1, h2⟩
theorem matchL_pred {a f : LFact} {bs : List Int} (h : a.1 ≠ f.1) : matchL a f bs = none := if_neg fun e => h e.1
theorem matchL_len {a f : LFact} {bs : List Int} (h : a.2.length ≠ f.2.length) : matchL a f bs = none := if_neg fun e => h e.2
theorem matchL_stop {a f : LFact} {bs : List Int} {k : Nat} (h1 : a.1 = f.1) (h2 : a.2.length = f.2.length) (hk : k < a.2.length) (e : matchTo bs a.2 f.2 (k + 1) = none) : matchL a f bs = none := by
  rw [matchL_eq h1 h2]
  exact matchTo_none e _ hk
theorem stepM_same {bs : List Int} {t c : Int} (h : termVal bs t = c) : stepM bs t c = some bs := if_pos h
theorem stepM_new {bs : List Int} {t c : Int} (h : termVal bs t = -1) (hc : c ≠ -1) : stepM bs t c = some (bs.set (-1 - t).toNat c) := by
  unfold stepM
  rw [if_neg (by omega), if_pos h]
theorem stepM_no {bs : List Int} {t c : Int} (h : termVal bs t ≠ c) (h2 : termVal bs t ≠ -1) : stepM bs t c = none := by
  unfold stepM
  rw [if_neg h, if_neg h2]
theorem termVal_free {bs : List Int} {t : Int} (ht : termOk t = true) (h : termVal bs t = -1) : -4 ≤ t ∧ t ≤ -1 ∧ bs.getD (-1 - t).toNat (-1) = -1 := by
  have htb := termOk_at ht
  have h0 : t < 0 := by
    rcases Int.lt_or_le t 0 with h1 | h1
    · exact h1
    · rw [termVal_const h1] at h
      omega
  rw [termVal_var h0] at h
  exact ⟨htb.1, by omega, h⟩

end Go.Proofs.YtokmmloakahkhaaDoor
/-
  The specification's l3Copy, l3Match.
-/
namespace Go.Proofs.YtokmmloakahkhaaDoor
open Go.RowKit

/-- A row of one's own that is not empty: its block, its cells. -/
theorem OwnInts.at_ {w : World} {lo hi c n : Nat} {A : Option Addr} {xs : List Int} (h : OwnInts w lo hi (.slice A n c) xs) (hn : 0 < xs.length) :
    ∃ g, A = some ⟨g, 0, none⟩ ∧ lo ≤ g ∧ g < hi ∧ g < w.heap.size ∧ (∀ k (hk : k < xs.length), w.cell? ⟨g, k, none⟩ = some (.int .i64 xs[k])) ∧ ∀ k, w.frozen? ⟨g, k, none⟩ = false := by
  obtain ⟨g, cap, e, _, _⟩ := h.1.form hn
  injection e with e1 e2 e3
  subst e1
  subst e2
  obtain ⟨l1, l2, l3⟩ := h.lt (g := g) rfl
  obtain ⟨A', c', e, _, hx⟩ := h.rd
  injection e with e1 _ _
  obtain ⟨b, o, e2, _, hx⟩ := hx hn
  rw [← e1] at e2
  injection e2 with e2
  injection e2 with e2 e3 _
  subst e2
  subst e3
  exact ⟨g, rfl, l1, l2, l3, fun k hk => by simpa using hx k hk, fun k => World.ownsRow.frozenAt h.1 k⟩

theorem OwnInts.atG {w : World} {lo hi c n g : Nat} {xs : List Int} (h : OwnInts w lo hi (.slice (some ⟨g, 0, none⟩) n c) xs) (hn : 0 < xs.length) :
    lo ≤ g ∧ g < hi ∧ g < w.heap.size ∧ (∀ k (hk : k < xs.length), w.cell? ⟨g, k, none⟩ = some (.int .i64 xs[k])) ∧ ∀ k, w.frozen? ⟨g, k, none⟩ = false := by
  obtain ⟨g', e, h'⟩ := h.at_ hn
  injection e with e
  injection e with e _ _
  subst e
  exact h'

set_option maxHeartbeats 1000000 in
set_option maxRecDepth 100000 in
theorem l3Copy_any (v : Value) (xs : List Int) (w : World) (h : RdInts w w.heap.size v xs) (hr : xs.length ≤ 1048576) :
    Calls Tryd.prog 51 #[v] w fun e w' => ∃ A' c', e = .returned (.slice A' xs.length c') ∧ OwnInts w' w.heap.size w'.heap.size (.slice A' xs.length c') xs ∧ Below w.heap.size w w' := by
  obtain ⟨i0, hi0, hz0, hz1, hz2⟩ := info_parts Tryd.infoInt
  have H := Lib.hid h
  obtain ⟨A, c, rfl, hc, _⟩ := h
  have C0 := Lib.hid (ColI.empty (Below.refl w.heap.size w))
  go_enter Tryd.func51, Tryd.ntmps51
  go_wp2_with (fail)
  go_loopw [3, 4] (fun o i wr => ∃ (k : Nat) (A' : Option Addr) (c' : Nat), k ≤ xs.length ∧ i = .int .i64 k ∧ o = .slice A' (xs.take k).length c' ∧ ColI w wr (xs.take k) A' c') (fun _ i _ => xs.length - (intOf i).toNat)
  case atStart => exact ⟨0, _, 0, Nat.zero_le _, rfl, rfl, C0.out⟩
  case round =>
    obtain ⟨k, A', c', hk, rfl, rfl, hr'⟩ := hrel
    have hln : (xs.take k).length ≤ k := by simp; omega
    by_cases hlt : k < xs.length
    · have hre := H.out.below hr'.below (Nat.le_refl _)
      obtain ⟨A3, c3, e3, _, hx⟩ := hre
      injection e3 with e3 _ e4
      subst e3 e4
      obtain ⟨b, o, rfl, hbB, hx⟩ := hx (by omega)
      have hck : wr.cell? ⟨b, o + k, none⟩ = some (.int .i64 xs[k]) := hx k hlt
      have HS := Lib.hid (take_snoc xs k hlt)
      have HP := Lib.hid hr'
      clear hx hr'
      obtain ⟨x, hx⟩ : ∃ x, x = xs[k] := ⟨_, rfl⟩
      rw [← hx] at hck HS
      clear hx
      obtain ⟨zs, hzs⟩ : ∃ zs, zs = xs.take k := ⟨_, rfl⟩
      have HZ := Lib.hid hzs
      rw [← hzs] at HP hln ⊢
      clear hzs
      go_wp2_with (at_builtin; refine wpList_append_lies _ rfl (.tmp 12) (.tmp 17) 23 rfl w.heap.size 3 i0 (.int .i64 0) 1 8 Tryd.underlying23 hi0 hz0 hz1 hz2 rfl (by decide) (.slice A' zs.length c') zs.length (zs.map (Value.int .i64)) rfl ?c1 ⟨_, 0, none⟩ 1 1 [.int .i64 x] rfl rfl (news1s _ _ _ _ (by simp)) ?c2 (by omega) (by unfold maxLen; omega) (by omega) ?c3 _ rfl ?_)
      case c1 => exact HP.out.own.1.alloc _
      case c2 => first | rfl | (intro u hu; simp at hu; subst hu; rfl)
      case c3 => have := HP.out.below.size; simp; omega
      intro g cap w4 hown hg _ _
      have hcol := HP.out.push (Below.refl _ _) hg hown
      rw [HZ.out, ← HS.out] at hcol
      have hlen : zs.length + 1 = (xs.take (k + 1)).length := by rw [HS.out, HZ.out]; simp
      rw [hlen]
      have HC := Lib.hid hcol
      clear hcol hlen hown hg
      go_wp2_with (fail)
      go_roundw
      case rel => exact ⟨k + 1, _, _, by omega, by go_num, rfl, HC.out⟩
      case measure => simp [intOf]; omega
    · have hkn : k = xs.length := by omega
      have HZ := Lib.hid (show xs.take k = xs by rw [hkn, List.take_length])
      have HO := Lib.hid hr'
      rw [HZ.out] at HO ⊢
      clear hkn hr'
      go_wp2_with (fail)
      go_ret
      exact ⟨_, _, rfl, HO.out.own, HO.out.below⟩

end Go.Proofs.YtokmmloakahkhaaDoor
/-
  Both Holds.
-/
namespace Go.Proofs.YtokmmloakahkhaaDoor
open Go.RowKit

/-- LitSame, LitLess: both have constants, and are the same, or the first is less. -/
def cmpB (k a b : Int) : Bool := (decide (0 ≤ a) && decide (0 ≤ b)) && (if k = 2 then decide (a = b) else decide (a < b))
def litHolds (fs : List LFact) (l : LLit) (bs : List Int) : Bool :=
  if l.1 = 2 ∨ l.1 = 3 then decide (l.2.2.length = 2) && cmpB l.1 (termVal bs (l.2.2.getD 0 0)) (termVal bs (l.2.2.getD 1 0))
  else (headOk l.2 bs && decide (0 ≤ l.1 ∧ l.1 ≤ 1)) && (factsHas fs (headOf l.2 bs) == decide (l.1 = 0))
def holdsB (fs : List LFact) (l : LLit) (bs : List Int) : Bool := (bindOk bs && l.2.2.all termOk) && litHolds fs l bs

theorem cmpB_neg {k a b : Int} (h : a < 0) : cmpB k a b = false := by unfold cmpB; rw [decide_eq_false (show ¬ 0 ≤ a by omega)]; rfl
theorem cmpB_neg2 {k a b : Int} (h : b < 0) : cmpB k a b = false := by unfold cmpB; rw [decide_eq_false (show ¬ 0 ≤ b by omega), Bool.and_false]; rfl
theorem cmpB_same {a b : Int} (h : 0 ≤ a) (h2 : 0 ≤ b) : cmpB 2 a b = decide (a = b) := by unfold cmpB; rw [decide_eq_true h, decide_eq_true h2]; simp
theorem cmpB_less {a b : Int} (h : 0 ≤ a) (h2 : 0 ≤ b) : cmpB 3 a b = decide (a < b) := by unfold cmpB; rw [decide_eq_true h, decide_eq_true h2]; simp

/-- Two values, and what a comparison of them answers. -/
theorem cmpB_cases (k a b : Int) (hk : k = 2 ∨ k = 3) : (a < 0 ∧ cmpB k a b = false) ∨ (0 ≤ a ∧ b < 0 ∧ cmpB k a b = false) ∨ (0 ≤ a ∧ 0 ≤ b ∧ cmpB k a b = (if k = 2 then a == b else decide (a < b))) := by
  rcases Int.lt_or_le a 0 with h | h
  · exact .inl ⟨h, cmpB_neg h⟩
  · rcases Int.lt_or_le b 0 with h2 | h2
    · exact .inr (.inl ⟨h, h2, cmpB_neg2 h2⟩)
    · refine .inr (.inr ⟨h, h2, ?_⟩)
      rcases hk with rfl | rfl
      · rw [cmpB_same h h2]
        rfl
      · rw [cmpB_less h h2]
        rfl

end Go.Proofs.YtokmmloakahkhaaDoor
/-
  Both Holds: literals that an atom holds, or does not.
-/
namespace Go.Proofs.YtokmmloakahkhaaDoor
open Go.RowKit

theorem l1In_is {n lo hi : Int} {b : Bool} (h : decide (lo ≤ n ∧ n ≤ hi) = b) (w : World) : Calls Tryd.prog 58 #[.int .i64 n, .int .i64 lo, .int .i64 hi] w fun e w' => e = .returned (.bool b) ∧ w = w' := h ▸ l1In_any n lo hi w

end Go.Proofs.YtokmmloakahkhaaDoor
/-
  The specification's l3Row, l3None, l3Try.
-/
namespace Go.Proofs.YtokmmloakahkhaaDoor
open Go.RowKit

end Go.Proofs.YtokmmloakahkhaaDoor
/-
  The walk of DrawMatch.
-/
namespace Go.Proofs.YtokmmloakahkhaaDoor
open Go.RowKit

theorem RdBytes.onM {w w' : World} {v : Value} {bs : List Nat} (h : RdBytes w w.heap.size v bs) (hb : Below w.heap.size w w') : RdBytes w' w'.heap.size v bs := by
  obtain ⟨A, c, rfl, hc, hx⟩ := h.off (w' := w') (fun k hk => hb.block k hk)
  refine ⟨A, c, rfl, hc, fun hn => ?_⟩
  obtain ⟨b, o, rfl, hlt, hk⟩ := hx hn
  exact ⟨b, o, rfl, by have := hb.size; omega, hk⟩

section
variable {w w0 wr w' w4 : World} {g bf base q : Nat} {bs : List Nat} {p : Int} {A : Option Addr} {c : Nat} {zs : List Int}
end

/-- What the two results' stores leave. -/
theorem matchDone {w W : World} {ra rb lo hi : Nat} {ta tb : TypeId} {a f : LFact} {va vf vb : Value} {ys : List Int} (RA : Blk W ra ta #[.int .i64 0, .slice none 0 0]) (RB : Blk W rb tb #[.int .i64 0, .slice none 0 0]) (hab : ra ≠ rb) (B : Below w.heap.size w W) (h1 : w.heap.size ≤ ra) (h2 : w.heap.size ≤ rb)
    (ha : ra < lo) (hb : rb < lo) (oa : OwnInts W lo hi va a.2) (of : OwnInts W lo hi vf f.2) (ob : OwnInts W lo hi vb ys) (hh : hi ≤ W.heap.size) {Wf : World} (hW : Wf = (((W.setCell ⟨ra, 0, none⟩ (.int .i64 a.1)).setCell ⟨ra, 1, none⟩ va).setCell ⟨rb, 0, none⟩ (.int .i64 f.1)).setCell ⟨rb, 1, none⟩ vf) :
    Wf.cell? ⟨ra, 0, none⟩ = some (.int .i64 a.1) ∧ Wf.cell? ⟨ra, 1, none⟩ = some va ∧ Wf.cell? ⟨rb, 0, none⟩ = some (.int .i64 f.1) ∧ Wf.cell? ⟨rb, 1, none⟩ = some vf ∧
    RdInts Wf Wf.heap.size va a.2 ∧ RdInts Wf Wf.heap.size vf f.2 ∧ RdInts Wf Wf.heap.size vb ys ∧ Below w.heap.size w Wf := by
  subst hW
  have A2 := (RA.set_ 0 (.int .i64 a.1)).set_ 1 va
  have B2 := (((RB.far (p := ⟨ra, 0, none⟩) (fun e => hab e.symm) (.int .i64 a.1)).far (p := ⟨ra, 1, none⟩) (fun e => hab e.symm) va).set_ 0 (.int .i64 f.1)).set_ 1 vf
  have A3 := (A2.far (p := ⟨rb, 0, none⟩) hab (.int .i64 f.1)).far (p := ⟨rb, 1, none⟩) hab vf
  have rows : ∀ {v : Value} {xs : List Int}, OwnInts W lo hi v xs → RdInts ((((W.setCell ⟨ra, 0, none⟩ (.int .i64 a.1)).setCell ⟨ra, 1, none⟩ va).setCell ⟨rb, 0, none⟩ (.int .i64 f.1)).setCell ⟨rb, 1, none⟩ vf) ((((W.setCell ⟨ra, 0, none⟩ (.int .i64 a.1)).setCell ⟨ra, 1, none⟩ va).setCell ⟨rb, 0, none⟩ (.int .i64 f.1)).setCell ⟨rb, 1, none⟩ vf).heap.size v xs := fun h =>
    ((((h.set (p := ⟨ra, 0, none⟩) (.inl ha) _).set (p := ⟨ra, 1, none⟩) (.inl ha) _).set (p := ⟨rb, 0, none⟩) (.inl hb) _).set (p := ⟨rb, 1, none⟩) (.inl hb) _).rd.more (by simpa using hh)
  refine ⟨by rw [A3.cell 0]; simp, by rw [A3.cell 1]; simp, by rw [B2.cell 0]; simp, by rw [B2.cell 1]; simp, rows oa, rows of, rows ob, ?_⟩
  exact (((B.setCell h1 _).setCell h1 _).setCell h2 _).setCell h2 _

end Go.Proofs.YtokmmloakahkhaaDoor
/-
  The walk of DrawProgramOk.
-/
namespace Go.Proofs.YtokmmloakahkhaaDoor
open Go.RowKit

theorem szP_es {ar : List Int} {es : List Ent} (h : AnyOk ar es) : szP (ar, es.map (·.1)) ≤ 100 := by
  obtain ⟨_, h2, _, _, h5, h6⟩ := h
  have hr : ∀ l : List Ent, (∀ e ∈ l, e.1.1.2.length ≤ 3 ∧ e.1.2.length ≤ 4 ∧ totL e.1.2 ≤ 8 ∧ KindsOk e.1.2) → totR (l.map (·.1)) ≤ l.length * 15 := fun l => by
    induction l with
    | nil => intro _; simp [totR]
    | cons e l ih =>
      intro h
      have h1 := ih fun x hx => h x (List.mem_cons_of_mem _ hx)
      obtain ⟨h2, h3, h4, _⟩ := h e (List.mem_cons_self ..)
      have e1 : totR ((e :: l).map (·.1)) = szR e.1 + totR (l.map (·.1)) := by simp [totR]
      rw [e1, List.length_cons]
      unfold szR
      omega
  have := hr es h6
  unfold szP
  rw [List.length_map]
  show ar.length + (es.length + totR (es.map (·.1))) ≤ 100
  omega

end Go.Proofs.YtokmmloakahkhaaDoor
/-
  The draws of DrawLinksOf, DrawGroupsOf, DrawLayersOf, DrawRecursive: programs that lie apart from what was.
-/
namespace Go.Proofs.YtokmmloakahkhaaDoor
open Go.RowKit

/-- A drawn program: in blocks of the call's own. -/
def DrawnP (lo : Nat) (w : World) (v : Value) (p : LProg) : Prop :=
  ∃ (A Ar : Option Addr) (c cr B : Nat) (es : List Ent), v = .agg #[.slice A p.1.length c, .slice Ar es.length cr] ∧ es.map (·.1) = p.2 ∧ AnyOk p.1 es ∧ lo ≤ B ∧ B ≤ w.heap.size ∧ OwnInts w lo B (.slice A p.1.length c) p.1 ∧ RowR B w es Ar cr
section
variable {lo lo' : Nat} {w w' : World} {v : Value} {p : LProg}
theorem DrawnP.keep (h : DrawnP lo w v p) (hs : w.heap.size ≤ w'.heap.size) (hk : ∀ k, lo ≤ k → k < w.heap.size → w'.heap[k]? = w.heap[k]?) : DrawnP lo w' v p := by
  obtain ⟨A, Ar, c, cr, B, es, e1, e2, e3, e4, e5, e6, e7⟩ := h
  exact ⟨A, Ar, c, cr, B, es, e1, e2, e3, e4, Nat.le_trans e5 hs, e6.keep fun k k1 k2 => hk k k1 (by omega), e7.keep hs fun k k1 k2 => hk k (by omega) k2⟩
theorem DrawnP.mono (h : DrawnP lo w v p) (hl : lo' ≤ lo) : DrawnP lo' w v p := by
  obtain ⟨A, Ar, c, cr, B, es, e1, e2, e3, e4, e5, e6, e7⟩ := h
  exact ⟨A, Ar, c, cr, B, es, e1, e2, e3, Nat.le_trans hl e4, e5, e6.mono hl (Nat.le_refl _), e7⟩
theorem DrawnP.sz (h : DrawnP lo w v p) : szP p ≤ 100 := by
  obtain ⟨A, Ar, c, cr, B, es, e1, e2, e3, _⟩ := h
  have := szP_es e3
  rw [e2] at this
  exact this
theorem DrawnP.kinds (h : DrawnP lo w v p) : ∀ r ∈ p.2, KindsOk r.2 := by
  obtain ⟨A, Ar, c, cr, B, es, e1, e2, e3, _⟩ := h
  intro r hr
  rw [← e2] at hr
  obtain ⟨e, he, rfl⟩ := List.mem_map.1 hr
  exact (e3.2.2.2.2.2 e he).2.2.2
theorem DrawnP.rd (h : DrawnP lo w v p) : ∃ (A A2 : Option Addr) (c c2 : Nat), v = .agg #[.slice A p.1.length c, .slice A2 p.2.length c2] ∧ RdInts w w.heap.size (.slice A p.1.length c) p.1 ∧ RdRules w w.heap.size (.slice A2 p.2.length c2) p.2 := by
  obtain ⟨A, Ar, c, cr, B, es, e1, e2, e3, e4, e5, e6, e7⟩ := h
  have hl : es.length = p.2.length := by rw [← e2]; simp
  refine ⟨A, Ar, c, cr, by rw [e1, hl], (e6.mono (Nat.le_refl _) e5).rd, ?_⟩
  have := e7.rules.rd
  rw [e2, hl] at this
  exact this
end

set_option maxHeartbeats 4000000 in
set_option maxRecDepth 100000 in
theorem drawLinksOf_any (v : Value) (code : List Nat) (w : World) (h : RdBytes w w.heap.size v code) (hby : ∀ b ∈ code, b < 256) (hn : code.length ≤ 1073741824) :
    Calls Tryd.prog 27 #[v] w fun e w' => ∃ (u : Value) (p : LProg), e = .returned u ∧ DrawnP w.heap.size w' u p ∧ Below w.heap.size w w' := by
  have HV := Lib.hid h
  clear h
  go_enter Tryd.func27, Tryd.ntmps27
  go_upto_region 1 with fail
  obtain ⟨w0, hw0⟩ : ∃ w0, w0 = w.alloc (Obj.cells #[Value.slice none 0 0, Value.slice none 0 0] 26) := ⟨_, rfl⟩
  have RA0 : Blk w0 w.heap.size 26 #[.slice none 0 0, .slice none 0 0] := by rw [hw0]; exact Blk.new _ _ _
  have B0 : Below w.heap.size w w0 := by rw [hw0]; exact below1 _ _
  have hs0 : w0.heap.size = w.heap.size + 1 := by rw [hw0]; simp
  rw [← hw0]
  clear hw0
  obtain ⟨g, hg⟩ : ∃ g, g = w0.heap.size := ⟨_, rfl⟩
  have HRA := Lib.hid RA0
  have HB0 := Lib.hid B0
  have HS0 := Lib.hid hs0
  clear RA0 B0 hs0
  go_wp2_with (first
    | (go_at_call 49; refine (l40Open_any v code w0 (HV.out.onM HB0.out) hby hn).mono ?_
       rintro e w1 ⟨rfl, hr1, hb1⟩
       rw [← hg] at hr1 ⊢
       have hg1 : g < w1.heap.size := hr1.lt
       have HG := Lib.hid (show w.heap.size < g by rw [hg, HS0.out]; omega)
       have HB1 := Lib.hid (bthen HB0.out hb1)
       have HR1 := Lib.hid hr1
       have HRA1 := Lib.hid (HRA.out.below hb1 HRA.out.lt)
       obtain ⟨bs, hbs⟩ : ∃ bs, bs = code.take 2000 := ⟨_, rfl⟩
       rw [← hbs] at HR1
       clear hb1 hr1 hbs hg)
    | (go_at_call 50; refine (l2Any_any g bs 0 2 w1 HR1.out (by omega)).mono ?_
       rintro e w2 ⟨A, Ar, c, cr, B, q, ar, es, rfl, hok, hq, hB, hB2, h1, h2, h3, h4⟩
       have HOK := Lib.hid hok
       have HQ := Lib.hid (And.intro hB (And.intro hB2 (And.intro h1 (And.intro h2 (And.intro h3 h4)))))
       have HRA2 := Lib.hid (HRA1.out.only h4 (.inl HG.out))
       have j0 : w2.cell? ⟨w.heap.size, 0, none⟩ = some (.slice none 0 0) := HRA2.out.cell 0
       have j1 : w2.cell? ⟨w.heap.size, 1, none⟩ = some (.slice none 0 0) := HRA2.out.cell 1
       have l0 := HRA2.out.frozen 0
       have l1 := HRA2.out.frozen 1
       clear hok hB hB2 h1 h2 h3 h4))
  obtain ⟨W, hW⟩ : ∃ W, W = (w2.setCell ⟨w.heap.size, 0, none⟩ (.slice A ar.length c)).setCell ⟨w.heap.size, 1, none⟩ (.slice Ar es.length cr) := ⟨_, rfl⟩
  rw [← hW]
  have hbk := (HRA2.out.set_ 0 (.slice A ar.length c)).set_ 1 (.slice Ar es.length cr)
  rw [← hW] at hbk
  have d0 : W.cell? ⟨w.heap.size, 0, none⟩ = some (.slice A ar.length c) := by rw [hbk.cell 0]; simp
  have d1 : W.cell? ⟨w.heap.size, 1, none⟩ = some (.slice Ar es.length cr) := by rw [hbk.cell 1]; simp
  have hgg := HG.out
  obtain ⟨hB, hB2, h1, h2, h3, h4⟩ := HQ.out
  have hk : ∀ k, g < k → W.heap[k]? = w2.heap[k]? := fun k k1 => by
    rw [hW]
    exact (Below.heap_setCell _ _ _ k (by show k ≠ w.heap.size; omega)).trans (Below.heap_setCell _ _ _ k (by show k ≠ w.heap.size; omega))
  have hsz : w2.heap.size = W.heap.size := by rw [hW]; simp
  have hBW : Below w.heap.size w W := by rw [hW]; exact ((Only.then_ HB1.out h4 (by omega)).setCell (Nat.le_refl _) _).setCell (Nat.le_refl _) _
  refine bodyPost_ret (v := .agg #[.slice A ar.length c, .slice Ar es.length cr]) (by simp [results, Tryd.results27, go_sem, d0, d1]) rfl ?_
  refine ⟨_, (ar, es.map (·.1)), rfl, ?_, hBW⟩
  refine DrawnP.keep (w := w2) ?_ (Nat.le_of_eq hsz) ?_ |>.mono (lo := w1.heap.size) (by omega)
  · exact ⟨A, Ar, c, cr, B, es, rfl, rfl, HOK.out, hB, hB2, h1, h2⟩
  · exact fun k k1 _ => hk k (by omega)

-- those that hand it on
set_option maxHeartbeats 4000000 in
set_option maxRecDepth 100000 in
theorem drawGroupsOf_any (v : Value) (code : List Nat) (w : World) (h : RdBytes w w.heap.size v code) (hby : ∀ b ∈ code, b < 256) (hn : code.length ≤ 1073741824) :
    Calls Tryd.prog 19 #[v] w fun e w' => ∃ (u : Value) (p : LProg), e = .returned u ∧ DrawnP w.heap.size w' u p ∧ Below w.heap.size w w' := by
  have HV := Lib.hid h
  clear h
  go_enter Tryd.func19, Tryd.ntmps19
  go_upto_region 1 with fail
  obtain ⟨w0, hw0⟩ : ∃ w0, w0 = w.alloc (Obj.cells #[Value.slice none 0 0, Value.slice none 0 0] 26) := ⟨_, rfl⟩
  have HRA := Lib.hid (show Blk w0 w.heap.size 26 #[.slice none 0 0, .slice none 0 0] by rw [hw0]; exact Blk.new _ _ _)
  have HB0 := Lib.hid (show Below w.heap.size w w0 by rw [hw0]; exact below1 _ _)
  have HS0 := Lib.hid (show w0.heap.size = w.heap.size + 1 by rw [hw0]; simp)
  rw [← hw0]
  clear hw0
  go_wp2_with (go_at_call 27; refine (drawLinksOf_any v code w0 (HV.out.onM HB0.out) hby hn).mono ?_
               rintro e w1 ⟨u, p, rfl, hd, hb1⟩
               obtain ⟨A, Ar, c, cr, B, es, rfl, e2, e3⟩ := hd
               have HD := Lib.hid (And.intro e2 e3)
               have HB1 := Lib.hid hb1
               have HRA1 := Lib.hid (HRA.out.below hb1 HRA.out.lt)
               have j0 : w1.cell? ⟨w.heap.size, 0, none⟩ = some (.slice none 0 0) := HRA1.out.cell 0
               have j1 : w1.cell? ⟨w.heap.size, 1, none⟩ = some (.slice none 0 0) := HRA1.out.cell 1
               have l0 := HRA1.out.frozen 0
               have l1 := HRA1.out.frozen 1
               clear e2 e3 hb1)
  obtain ⟨W, hW⟩ : ∃ W, W = (w1.setCell ⟨w.heap.size, 0, none⟩ (.slice A p.1.length c)).setCell ⟨w.heap.size, 1, none⟩ (.slice Ar es.length cr) := ⟨_, rfl⟩
  rw [← hW]
  have hbk := (HRA1.out.set_ 0 (.slice A p.1.length c)).set_ 1 (.slice Ar es.length cr)
  rw [← hW] at hbk
  have d0 : W.cell? ⟨w.heap.size, 0, none⟩ = some (.slice A p.1.length c) := by rw [hbk.cell 0]; simp
  have d1 : W.cell? ⟨w.heap.size, 1, none⟩ = some (.slice Ar es.length cr) := by rw [hbk.cell 1]; simp
  have hs := HS0.out
  have hsz : w1.heap.size = W.heap.size := by rw [hW]; simp
  have hBW : Below w.heap.size w W := by rw [hW]; exact ((bthen HB0.out HB1.out).setCell (Nat.le_refl _) _).setCell (Nat.le_refl _) _
  refine bodyPost_ret (v := .agg #[.slice A p.1.length c, .slice Ar es.length cr]) (by simp [results, Tryd.results19, go_sem, d0, d1]) rfl ?_
  refine ⟨_, p, rfl, ?_, hBW⟩
  refine DrawnP.keep (w := w1) ?_ (Nat.le_of_eq hsz) ?_ |>.mono (lo := w0.heap.size) (by omega)
  · exact ⟨A, Ar, c, cr, B, es, rfl, HD.out.1, HD.out.2⟩
  · intro k k1 _
    rw [hW]
    exact (Below.heap_setCell _ _ _ k (by show k ≠ w.heap.size; omega)).trans (Below.heap_setCell _ _ _ k (by show k ≠ w.heap.size; omega))

set_option maxHeartbeats 4000000 in
set_option maxRecDepth 100000 in
theorem drawLayersOf_any (v : Value) (code : List Nat) (w : World) (h : RdBytes w w.heap.size v code) (hby : ∀ b ∈ code, b < 256) (hn : code.length ≤ 1073741824) :
    Calls Tryd.prog 8 #[v] w fun e w' => ∃ (u : Value) (p : LProg), e = .returned u ∧ DrawnP w.heap.size w' u p ∧ Below w.heap.size w w' := by
  have HV := Lib.hid h
  clear h
  go_enter Tryd.func8, Tryd.ntmps8
  go_upto_region 1 with fail
  obtain ⟨w0, hw0⟩ : ∃ w0, w0 = w.alloc (Obj.cells #[Value.slice none 0 0, Value.slice none 0 0] 26) := ⟨_, rfl⟩
  have HRA := Lib.hid (show Blk w0 w.heap.size 26 #[.slice none 0 0, .slice none 0 0] by rw [hw0]; exact Blk.new _ _ _)
  have HB0 := Lib.hid (show Below w.heap.size w w0 by rw [hw0]; exact below1 _ _)
  have HS0 := Lib.hid (show w0.heap.size = w.heap.size + 1 by rw [hw0]; simp)
  rw [← hw0]
  clear hw0
  go_wp2_with (go_at_call 27; refine (drawLinksOf_any v code w0 (HV.out.onM HB0.out) hby hn).mono ?_
               rintro e w1 ⟨u, p, rfl, hd, hb1⟩
               obtain ⟨A, Ar, c, cr, B, es, rfl, e2, e3⟩ := hd
               have HD := Lib.hid (And.intro e2 e3)
               have HB1 := Lib.hid hb1
               have HRA1 := Lib.hid (HRA.out.below hb1 HRA.out.lt)
               have j0 : w1.cell? ⟨w.heap.size, 0, none⟩ = some (.slice none 0 0) := HRA1.out.cell 0
               have j1 : w1.cell? ⟨w.heap.size, 1, none⟩ = some (.slice none 0 0) := HRA1.out.cell 1
               have l0 := HRA1.out.frozen 0
               have l1 := HRA1.out.frozen 1
               clear e2 e3 hb1)
  obtain ⟨W, hW⟩ : ∃ W, W = (w1.setCell ⟨w.heap.size, 0, none⟩ (.slice A p.1.length c)).setCell ⟨w.heap.size, 1, none⟩ (.slice Ar es.length cr) := ⟨_, rfl⟩
  rw [← hW]
  have hbk := (HRA1.out.set_ 0 (.slice A p.1.length c)).set_ 1 (.slice Ar es.length cr)
  rw [← hW] at hbk
  have d0 : W.cell? ⟨w.heap.size, 0, none⟩ = some (.slice A p.1.length c) := by rw [hbk.cell 0]; simp
  have d1 : W.cell? ⟨w.heap.size, 1, none⟩ = some (.slice Ar es.length cr) := by rw [hbk.cell 1]; simp
  have hs := HS0.out
  have hsz : w1.heap.size = W.heap.size := by rw [hW]; simp
  have hBW : Below w.heap.size w W := by rw [hW]; exact ((bthen HB0.out HB1.out).setCell (Nat.le_refl _) _).setCell (Nat.le_refl _) _
  refine bodyPost_ret (v := .agg #[.slice A p.1.length c, .slice Ar es.length cr]) (by simp [results, Tryd.results8, go_sem, d0, d1]) rfl ?_
  refine ⟨_, p, rfl, ?_, hBW⟩
  refine DrawnP.keep (w := w1) ?_ (Nat.le_of_eq hsz) ?_ |>.mono (lo := w0.heap.size) (by omega)
  · exact ⟨A, Ar, c, cr, B, es, rfl, HD.out.1, HD.out.2⟩
  · intro k k1 _
    rw [hW]
    exact (Below.heap_setCell _ _ _ k (by show k ≠ w.heap.size; omega)).trans (Below.heap_setCell _ _ _ k (by show k ≠ w.heap.size; omega))


set_option maxHeartbeats 4000000 in
set_option maxRecDepth 100000 in
theorem drawRecursive_any (v : Value) (code : List Nat) (w : World) (h : RdBytes w w.heap.size v code) (hby : ∀ b ∈ code, b < 256) (hn : code.length ≤ 1073741824) :
    Calls Tryd.prog 28 #[v] w fun e w' => ∃ (u : Value) (p : LProg) (x : Int), e = .returned (.tuple #[u, .int .i64 x]) ∧ DrawnP w.heap.size w' u p ∧ Below w.heap.size w w' := by
  have HV := Lib.hid h
  clear h
  go_enter Tryd.func28, Tryd.ntmps28
  go_upto_region 1 with fail
  obtain ⟨w0, hw0⟩ : ∃ w0, w0 = w.alloc (Obj.cells #[Value.slice none 0 0, Value.slice none 0 0] 26) := ⟨_, rfl⟩
  have HRA := Lib.hid (show Blk w0 w.heap.size 26 #[.slice none 0 0, .slice none 0 0] by rw [hw0]; exact Blk.new _ _ _)
  have HB0 := Lib.hid (show Below w.heap.size w w0 by rw [hw0]; exact below1 _ _)
  have HS0 := Lib.hid (show w0.heap.size = w.heap.size + 1 by rw [hw0]; simp)
  rw [← hw0]
  clear hw0
  obtain ⟨g, hg⟩ : ∃ g, g = w0.heap.size := ⟨_, rfl⟩
  go_upto_region 3 with (first
    | (go_at_call 49; refine (l40Open_any v code w0 (HV.out.onM HB0.out) hby hn).mono ?_
       rintro e w1 ⟨rfl, hr1, hb1⟩
       rw [← hg] at hr1 ⊢
       have hg1 : g < w1.heap.size := hr1.lt
       have HG := Lib.hid (show w.heap.size < g by rw [hg, HS0.out]; omega)
       have HB1 := Lib.hid (bthen HB0.out hb1)
       have HR1 := Lib.hid hr1
       have HRA1 := Lib.hid (HRA.out.below hb1 HRA.out.lt)
       obtain ⟨bs, hbs⟩ : ∃ bs, bs = code.take 2000 := ⟨_, rfl⟩
       rw [← hbs] at HR1
       clear hb1 hr1 hbs hg)
    | (go_at_call 50; refine (l2Any_any g bs 0 2 w1 HR1.out (by omega)).mono ?_
       rintro e w2 ⟨A, Ar, c, cr, B, q, ar, es, rfl, hok, hq, hB, hB2, h1, h2, h3, h4⟩
       have HOK := Lib.hid hok
       have HQ := Lib.hid (And.intro hB (And.intro hB2 (And.intro h1 (And.intro h2 (And.intro h3 h4)))))
       have HRA2 := Lib.hid (HRA1.out.only h4 (.inl HG.out))
       have hg2 : g < w2.heap.size := h3.lt
       clear hok hB hB2 h1 h2 h3 h4))
  obtain ⟨w3, hw3⟩ : ∃ w3, w3 = w2.alloc (.cells #[.slice A ar.length c, .slice Ar es.length cr] 26) := ⟨_, rfl⟩
  have b23 : Below w2.heap.size w2 w3 := by rw [hw3]; exact below1 _ _
  have XD : Blk w3 w2.heap.size 26 #[.slice A ar.length c, .slice Ar es.length cr] := by rw [hw3]; exact Blk.new _ _ _
  rw [← hw3]
  clear hw3
  obtain ⟨SS, hSS⟩ : ∃ SS : World → Prop, SS = (fun W => W.cell? ⟨w2.heap.size, 0, none⟩ = some (.slice A ar.length c) ∧ W.cell? ⟨w2.heap.size, 1, none⟩ = some (.slice Ar es.length cr)) := ⟨_, rfl⟩
  have HB := Lib.hid (show ∀ W, SS W → (W.cell? ⟨w2.heap.size, 0, none⟩ = some (.slice A ar.length c) ∧ W.cell? ⟨w2.heap.size, 1, none⟩ = some (.slice Ar es.length cr)) from by rw [hSS]; exact fun W hW => hW)
  have HS := Lib.hid (show ∀ W, Only g (g + 1) w3 W → SS W from by
    rw [hSS]
    intro W hW
    have y := hW.blk XD (by omega)
    exact ⟨y.cell 0, y.cell 1⟩)
  have O23 := Lib.hid (And.intro b23 (show Rdr w3 g bs q from HQ.out.2.2.2.2.1.below b23 hg2))
  clear hSS b23 XD
  refine wp_region_rel SS 4 6 (by kernel_rfl) rfl ?_
  obtain ⟨wy, hwy⟩ : ∃ wy, wy = w3.drew := ⟨_, rfl⟩
  have OY : Only g (g + 1) w3 wy := by rw [hwy]; exact ⟨rfl, rfl, rfl, Nat.le_refl _, fun _ _ _ => rfl⟩
  have RY : Rdr wy g bs q := by rw [hwy]; exact O23.out.2
  rw [← hwy]
  clear hwy
  have S0 := HS.out _ OY
  refine wpAnyR_take (i := 0) (oi := _) ?va0 rfl rfl (by kernel_rfl) (fun _ _ _ h => h) rfl ?hya0 S0 ?resta0
  case hya0 => (intro W hW; obtain ⟨d0, d1⟩ := HB.out W hW; go_simp; (try with_reducible rfl))
  try simp only [List.setIfInBounds_toArray, List.set_cons_zero, List.set_cons_succ]
  refine wpAnyR_pure (i := 1) (oi := _) ?va1 rfl rfl (by kernel_rfl) (by decide) (fun _ _ _ h => h) rfl ?hya1 (fun _ => S0) ?resta1
  case hya1 => (intro W; go_simp; (try with_reducible rfl))
  try simp only [List.setIfInBounds_toArray, List.set_cons_zero, List.set_cons_succ]
  refine wpAnyR_one (i := 2) (by kernel_rfl) rfl (fun K hK => ?_)
  try rw [if_pos (show Region.wanted _ _ = true from rfl)]
  go_simp
  refine (pick_any g bs q 7 wy RY (by omega) (by omega)).mono ?_
  rintro e w4 ⟨⟨x, rfl, hx⟩, hpk⟩
  have hxr := hx.1 (by omega)
  have hwr : IntKind.i64.wrap (x - 1) = x - 1 := by
    unfold IntKind.wrap
    simp [IntKind.bits, IntKind.signed] <;> omega
  have O4 := Lib.hid (OY.trans hpk.2)
  have S1 := HS.out _ O4.out
  have hRA3 := HRA2.out.below O23.out.1 HRA2.out.lt
  have hgg := HG.out
  have HRA4 := Lib.hid (O4.out.blk hRA3 (.inl (by omega)))
  have j0 : w4.cell? ⟨w.heap.size, 0, none⟩ = some (.slice none 0 0) := HRA4.out.cell 0
  have j1 : w4.cell? ⟨w.heap.size, 1, none⟩ = some (.slice none 0 0) := HRA4.out.cell 1
  have l0 := HRA4.out.frozen 0
  have l1 := HRA4.out.frozen 1
  clear hx hpk hRA3
  refine hK.out _ _ (fun _ => S1) ?_
  clear hK K
  try simp only [List.setIfInBounds_toArray, List.set_cons_zero, List.set_cons_succ, Act.put]
  refine wpAnyR_pure (i := 3) (oi := _) (.int .i64 (x - 1)) rfl rfl (by kernel_rfl) (by decide) (fun _ _ _ h => h) rfl ?hyb3 (fun _ => S1) ?restb3
  case hyb3 => (intro W; go_simp; (try simp))
  try simp only [List.setIfInBounds_toArray, List.set_cons_zero, List.set_cons_succ]
  refine wpAnyR_one (i := 4) (by kernel_rfl) rfl (fun K hK => ?_)
  try rw [if_pos (show Region.wanted _ _ = true from rfl)]
  go_simp
  refine hK.out _ _ (fun hf => absurd hf (by decide)) ?_
  clear hK K
  try simp only [List.setIfInBounds_toArray, List.set_cons_zero, List.set_cons_succ, Act.put]
  refine wpAnyR_one (i := 5) (by kernel_rfl) rfl (fun K hK => ?_)
  go_simp
  refine hK.out _ _ (fun hf => absurd hf (by decide)) ?_
  clear hK K
  refine wpAnyR_done (by kernel_rfl) ?_
  go_wp2_with fail
  obtain ⟨W, hW⟩ : ∃ W, W = (w4.setCell ⟨w.heap.size, 0, none⟩ (.slice A ar.length c)).setCell ⟨w.heap.size, 1, none⟩ (.slice Ar es.length cr) := ⟨_, rfl⟩
  rw [← hW]
  have hbk := (HRA4.out.set_ 0 (.slice A ar.length c)).set_ 1 (.slice Ar es.length cr)
  rw [← hW] at hbk
  have d0 : W.cell? ⟨w.heap.size, 0, none⟩ = some (.slice A ar.length c) := by rw [hbk.cell 0]; simp
  have d1 : W.cell? ⟨w.heap.size, 1, none⟩ = some (.slice Ar es.length cr) := by rw [hbk.cell 1]; simp
  obtain ⟨hB, hB2, h1, h2, h3, h4⟩ := HQ.out
  have hsz : w4.heap.size = W.heap.size := by rw [hW]; simp
  have s2 := O23.out.1.size
  have s4 := O4.out.size
  have hk : ∀ k, g < k → k < w2.heap.size → W.heap[k]? = w2.heap[k]? := fun k k1 k2 => by
    have e1 : W.heap[k]? = w4.heap[k]? := by
      rw [hW]
      exact (Below.heap_setCell _ _ _ k (by show k ≠ w.heap.size; omega)).trans (Below.heap_setCell _ _ _ k (by show k ≠ w.heap.size; omega))
    exact (e1.trans (O4.out.block k (by omega) (by omega))).trans (O23.out.1.block k k2)
  have hB3 : Below w.heap.size w w3 := bthen (Only.then_ HB1.out h4 (by omega)) O23.out.1
  have hBW : Below w.heap.size w W := by rw [hW]; exact ((Only.then_ hB3 O4.out (by omega)).setCell (Nat.le_refl _) _).setCell (Nat.le_refl _) _
  refine bodyPost_ret (v := .tuple #[.agg #[.slice A ar.length c, .slice Ar es.length cr], .int .i64 (x - 1)]) (by simp [results, Tryd.results28, go_sem, d0, d1]) rfl ?_
  refine ⟨_, (ar, es.map (·.1)), x - 1, rfl, ?_, hBW⟩
  refine DrawnP.keep (w := w2) ?_ (by omega) ?_ |>.mono (lo := w1.heap.size) (by omega)
  · exact ⟨A, Ar, c, cr, B, es, rfl, rfl, HOK.out, hB, hB2, h1, h2⟩
  · exact fun k k1 k2 => hk k (by omega) k2

end Go.Proofs.YtokmmloakahkhaaDoor
/-
  Groups of what asks each other, found depth-first with a stack of parts: plain mathematics.
-/
namespace Go.Proofs.YtokmmloakahkhaaDoor

/-- One asks another, over others or at once. -/
inductive Rch (ask : Nat → Nat) : Nat → Nat → Prop
  | one {u v} : (ask u).testBit v = true → Rch ask u v
  | step {u v q} : (ask u).testBit v = true → Rch ask v q → Rch ask u q
theorem Rch.trans {ask : Nat → Nat} {u v q : Nat} (h : Rch ask u v) (k : Rch ask v q) : Rch ask u q := by
  induction h with
  | one e => exact .step e k
  | step e _ ih => exact .step e (ih k)
/-- The same, or reached. -/
def Ra (ask : Nat → Nat) (u v : Nat) : Prop := u = v ∨ Rch ask u v
theorem Ra.trans {ask : Nat → Nat} {u v q : Nat} (h : Ra ask u v) (k : Ra ask v q) : Ra ask u q := by
  rcases h with rfl | h
  · exact k
  · rcases k with rfl | k
    · exact .inr h
    · exact .inr (h.trans k)
theorem Ra.rch {ask : Nat → Nat} {u v q : Nat} (h : Ra ask u v) (k : Rch ask v q) : Rch ask u q := by
  rcases h with rfl | h
  · exact k
  · exact h.trans k

/-- What the walk over predicates holds: the stack's top comes first. -/
structure GW where
  met : Nat
  done : Nat
  stk : List Nat
  groups : List Nat
  group : List Nat
  reach : List Nat

/-- Parts from the top on become one, as far as that which has a predicate. -/
def joinR (tw : Nat) : List Nat → List Nat
  | [] => []
  | [a] => [a]
  | a :: b :: r => if a.testBit tw then a :: b :: r else joinR tw ((b ||| a) :: r)
termination_by l => l.length

def has (x n : Nat) : Prop := x.testBit n = true
instance (x n : Nat) : Decidable (has x n) := by unfold has; infer_instance
theorem has_or {x y n : Nat} : has (x ||| y) n ↔ has x n ∨ has y n := by simp [has, Nat.testBit_or]
theorem has_pow {m n : Nat} : has (2 ^ m) n ↔ m = n := by simp [has, Nat.testBit_two_pow]
def Apart (x y : Nat) : Prop := ∀ n, has x n → has y n → False

/-- What joinR gives. -/
theorem joinR_spec (tw : Nat) : ∀ (l : List Nat) (g : Nat), g ∈ l → has g tw → ∃ t pre y rest, joinR tw l = t :: rest ∧ l = pre ++ y :: rest ∧ has y tw ∧ ∀ n, has t n ↔ has y n ∨ ∃ x ∈ pre, has x n := by
  intro l
  induction h : l.length using Nat.strongRecOn generalizing l with
  | _ m ih =>
    intro g hg ht
    match l, h with
    | [], _ => cases hg
    | [a], _ =>
      have e : g = a := by simpa using hg
      subst e
      exact ⟨g, [], g, [], by simp [joinR], rfl, ht, fun n => by simp⟩
    | a :: b :: r, h =>
      by_cases e : a.testBit tw = true
      · exact ⟨a, [], a, b :: r, by rw [joinR, if_pos e], rfl, e, fun n => by simp⟩
      · have hg2 : g = b ∨ g ∈ r := by
          rcases List.mem_cons.1 hg with rfl | h2
          · exact absurd ht e
          · exact List.mem_cons.1 h2
        have hm : ∃ g' ∈ (b ||| a) :: r, has g' tw := by
          rcases hg2 with rfl | h2
          · exact ⟨_, List.mem_cons_self .., has_or.2 (.inl ht)⟩
          · exact ⟨g, List.mem_cons_of_mem _ h2, ht⟩
        obtain ⟨g', hg', ht'⟩ := hm
        obtain ⟨t, pre, y, rest, e1, e2, e3, e4⟩ := ih _ (by rw [← h]; simp) ((b ||| a) :: r) rfl g' hg' ht'
        rcases pre with _ | ⟨x, pre'⟩
        · rw [List.nil_append, List.cons.injEq] at e2
          obtain ⟨rfl, rfl⟩ := e2
          refine ⟨t, [a], b, r, by rw [joinR, if_neg e]; exact e1, rfl, (has_or.1 e3).resolve_right e, fun n => ?_⟩
          rw [e4 n]
          simp [has_or]
        · rw [List.cons_append, List.cons.injEq] at e2
          obtain ⟨rfl, rfl⟩ := e2
          refine ⟨t, a :: b :: pre', y, rest, by rw [joinR, if_neg e]; exact e1, rfl, e3, fun n => ?_⟩
          rw [e4 n]
          simp only [List.mem_cons, exists_eq_or_imp, has_or]
          constructor
          · rintro (h | (h | h) | h)
            · exact .inl h
            · exact .inr (.inr (.inl h))
            · exact .inr (.inl h)
            · exact .inr (.inr (.inr h))
          · rintro (h | h | h | h)
            · exact .inl h
            · exact .inr (.inl (.inr h))
            · exact .inr (.inl (.inl h))
            · exact .inr (.inr h)

/-- A part: all in it reach each other. -/
def Tied (ask : Nat → Nat) (g : Nat) : Prop := ∀ u v, has g u → has g v → Ra ask u v
/-- All in one reach all in another. -/
def Leads (ask : Nat → Nat) (a b : Nat) : Prop := ∀ u v, has a u → has b v → Rch ask u v

/-- What the stack keeps. -/
structure Stk (ask : Nat → Nat) (s : GW) : Prop where
  sub : ∀ q, has s.met q ↔ has s.done q ∨ ∃ g ∈ s.stk, has g q
  off : ∀ g ∈ s.stk, Apart s.done g
  apart : s.stk.Pairwise Apart
  tied : ∀ g ∈ s.stk, Tied ask g
  some : ∀ g ∈ s.stk, ∃ q, has g q
  leads : s.stk.Pairwise fun a b => Leads ask b a
  closed : ∀ u v, has s.done u → has (ask u) v → has s.done v

theorem apart_sym {x y : Nat} (h : Apart x y) : Apart y x := fun n a b => h n b a

/-- Parts joined. -/
theorem Stk.join {ask : Nat → Nat} {s : GW} (h : Stk ask s) {t : Nat} {pre rest : List Nat} (hs : s.stk = pre ++ rest) (ht : ∀ n, has t n ↔ ∃ x ∈ pre, has x n) (hp : pre ≠ [])
    (hb : ∀ a b, a ∈ pre → b ∈ pre → ∀ u v, has a u → has b v → Ra ask u v) : Stk ask { s with stk := t :: rest } := by
  have hap := h.apart
  have hld := h.leads
  rw [hs, List.pairwise_append] at hap hld
  refine ⟨fun q => ?_, fun g hg => ?_, ?_, fun g hg => ?_, fun g hg => ?_, ?_, h.closed⟩
  · rw [h.sub q, hs]
    simp only [List.mem_append, List.mem_cons, exists_eq_or_imp, ht]
    constructor
    · rintro (h1 | ⟨g, h1 | h1, h2⟩)
      · exact .inl h1
      · exact .inr (.inl ⟨g, h1, h2⟩)
      · exact .inr (.inr ⟨g, h1, h2⟩)
    · rintro (h1 | ⟨g, h1, h2⟩ | ⟨g, h1, h2⟩)
      · exact .inl h1
      · exact .inr ⟨g, .inl h1, h2⟩
      · exact .inr ⟨g, .inr h1, h2⟩
  · rcases List.mem_cons.1 hg with rfl | hg
    · intro n h1 h2
      obtain ⟨x, hx, h3⟩ := (ht n).1 h2
      exact h.off x (by rw [hs]; exact List.mem_append_left _ hx) n h1 h3
    · exact h.off g (by rw [hs]; exact List.mem_append_right _ hg)
  · refine List.pairwise_cons.2 ⟨fun g hg n h1 h2 => ?_, hap.2.1⟩
    obtain ⟨x, hx, h3⟩ := (ht n).1 h1
    exact hap.2.2 x hx g hg n h3 h2
  · rcases List.mem_cons.1 hg with rfl | hg
    · intro u v hu hv
      obtain ⟨x, hx, h3⟩ := (ht u).1 hu
      obtain ⟨y, hy, h4⟩ := (ht v).1 hv
      exact hb x y hx hy u v h3 h4
    · exact h.tied g (by rw [hs]; exact List.mem_append_right _ hg)
  · rcases List.mem_cons.1 hg with rfl | hg
    · obtain ⟨x, pre', rfl⟩ := List.exists_cons_of_ne_nil hp
      obtain ⟨q, hq⟩ := h.some x (by rw [hs]; simp)
      exact ⟨q, (ht q).2 ⟨x, by simp, hq⟩⟩
    · exact h.some g (by rw [hs]; exact List.mem_append_right _ hg)
  · refine List.pairwise_cons.2 ⟨fun g hg u v hu hv => ?_, hld.2.1⟩
    obtain ⟨x, hx, h3⟩ := (ht v).1 hv
    exact hld.2.2 x hx g hg u v hu h3

/-- The numbers of a word's bits. -/
def bitsN (x : Nat) : List Nat := (List.range 64).filter fun j => x.testBit j
theorem bitsN_mem {x n : Nat} : n ∈ bitsN x ↔ n < 64 ∧ has x n := by simp [bitsN, has]
/-- A word without another one's bits. -/
def lessN (a b : Nat) : Nat := a ^^^ (a &&& b)
theorem has_less {a b n : Nat} : has (lessN a b) n ↔ has a n ∧ ¬ has b n := by
  unfold has lessN
  rw [Nat.testBit_xor, Nat.testBit_and]
  cases a.testBit n <;> cases b.testBit n <;> simp
def setAll (l : List Nat) (ps : List Nat) (x : Nat) : List Nat := ps.foldl (fun l p => l.set p x) l
theorem setAll_len (x : Nat) : ∀ (ps l : List Nat), (setAll l ps x).length = l.length
  | [], _ => rfl
  | p :: ps, l => by
    show (setAll (l.set p x) ps x).length = _
    rw [setAll_len x ps, List.length_set]
theorem setAll_at (x q : Nat) : ∀ (ps l : List Nat), q < l.length → (setAll l ps x).getD q 0 = if q ∈ ps then x else l.getD q 0
  | [], l, _ => by simp [setAll]
  | p :: ps, l, h => by
    show (setAll (l.set p x) ps x).getD q 0 = _
    rw [setAll_at x q ps _ (by simpa using h)]
    by_cases e : q ∈ ps
    · simp [e]
    · by_cases e2 : q = p
      · subst e2
        simp [e, List.getD_eq_getElem?_getD, h]
      · simp [e, e2, List.getD_eq_getElem?_getD, List.getElem?_set_ne (fun h : p = q => e2 h.symm)]
/-- All that a part asks at once, and over others that are done. -/
def reachF (ask : Nat → Nat) (reach : List Nat) (g : Nat) : Nat :=
  (bitsN (lessN ((bitsN g).foldl (fun r p => r ||| ask p) 0) g)).foldl (fun r t => r ||| reach.getD t 0) ((bitsN g).foldl (fun r p => r ||| ask p) 0)
theorem has_fold (h : Nat → Nat) (n : Nat) : ∀ (l : List Nat) (r : Nat), has (l.foldl (fun r p => r ||| h p) r) n ↔ has r n ∨ ∃ p ∈ l, has (h p) n
  | [], r => by simp
  | p :: l, r => by
    rw [List.foldl_cons, has_fold h n l, has_or]
    simp [or_assoc]
def finishF (ask : Nat → Nat) (g : Nat) (s : GW) : GW :=
  { s with done := s.done ||| g, groups := s.groups ++ [g], group := setAll s.group (bitsN g) g, reach := setAll s.reach (bitsN g) (reachF ask s.reach g) }
def stepF (rec : Nat → GW → GW) (s : GW) (tw : Nat) : GW := if s.met.testBit tw then (if s.done.testBit tw then s else { s with stk := joinR tw s.stk }) else rec tw s
def leaveF (ask : Nat → Nat) (n : Nat) (s : GW) : GW := if n < s.stk.length then { finishF ask (s.stk.headD 0) s with stk := s.stk.tail } else s
def beginF (v : Nat) (s : GW) : GW := { s with met := s.met ||| 2 ^ v, stk := 2 ^ v :: s.stk }
/-- The visit of a predicate. -/
def visitF (ask : Nat → Nat) : Nat → Nat → GW → GW
  | 0, _, s => s
  | f + 1, v, s => leaveF ask s.stk.length ((bitsN (ask v)).foldl (stepF (visitF ask f)) (beginF v s))

/-- What holds between visits. -/
structure Inv (ask : Nat → Nat) (n : Nat) (s : GW) : Prop extends Stk ask s where
  lim : ∀ q, has s.met q → q < n
  rch : ∀ p q, has s.done p → (has (s.reach.getD p 0) q ↔ Rch ask p q)
  grp : ∀ p q, has s.done p → (has (s.group.getD p 0) q ↔ q = p ∨ (Rch ask p q ∧ Rch ask q p))
  len : s.group.length = 24 ∧ s.reach.length = 24
  told : ∀ q, has s.done q ↔ ∃ g ∈ s.groups, has g q
  own : ∀ g ∈ s.groups, (∃ q, has g q) ∧ ∀ q, has g q → s.group.getD q 0 = g
  apartG : s.groups.Pairwise Apart
  order : ∀ i (h : i < s.groups.length) u x, has s.groups[i] u → has (ask u) x → ∃ j, ∃ h : j < s.groups.length, j ≤ i ∧ has s.groups[j] x

/-- What is asked lies behind, or in the same part. -/
def Seen (ask : Nat → Nat) (s : GW) (u : Nat) : Prop := ∀ x, has (ask u) x → has s.done x ∨ ∃ g ∈ s.stk, has g u ∧ has g x
/-- Parts stay, or become one. -/
def Merged (a b : List Nat) (v : Nat) : Prop := ∃ t pre rest, a = pre ++ rest ∧ pre ≠ [] ∧ b = t :: rest ∧ has t v ∧ ∀ g ∈ pre, ∀ q, has g q → has t q
structure Post (ask : Nat → Nat) (n v : Nat) (s s' : GW) : Prop where
  inv : Inv ask n s'
  met : ∀ q, has s.met q → has s'.met q
  me : has s'.met v
  done : ∀ q, has s.done q → has s'.done q
  seen : ∀ u, has s'.met u → ¬ has s.met u → Seen ask s' u
  stk : s'.stk = s.stk ∨ Merged s.stk s'.stk v

theorem Merged.keep {a b : List Nat} {v : Nat} (h : Merged a b v) : ∀ g ∈ a, ∃ g' ∈ b, ∀ q, has g q → has g' q := by
  obtain ⟨t, pre, rest, rfl, _, rfl, _, h3⟩ := h
  intro g hg
  rcases List.mem_append.1 hg with h1 | h1
  · exact ⟨t, List.mem_cons_self .., h3 g h1⟩
  · exact ⟨g, List.mem_cons_of_mem _ h1, fun _ h => h⟩
theorem Seen.keep {ask : Nat → Nat} {s s' : GW} {u : Nat} (h : Seen ask s u) (hd : ∀ q, has s.done q → has s'.done q) (hk : ∀ g ∈ s.stk, (∃ g' ∈ s'.stk, ∀ q, has g q → has g' q) ∨ ∀ q, has g q → has s'.done q) : Seen ask s' u := by
  intro x hx
  rcases h x hx with h1 | ⟨g, hg, h1, h2⟩
  · exact .inl (hd x h1)
  · rcases hk g hg with ⟨g', hg', h3⟩ | h3
    · exact .inr ⟨g', hg', h3 u h1, h3 x h2⟩
    · exact .inl (h3 x h2)

/-- What holds while a predicate's links are followed: X are the ones that have been. -/
structure Mid (ask : Nat → Nat) (n v : Nat) (s s' : GW) (X : List Nat) : Prop where
  inv : Inv ask n s'
  met : ∀ q, has s.met q → has s'.met q
  me : has s'.met v
  done : ∀ q, has s.done q → has s'.done q
  seen : ∀ u, has s'.met u → ¬ has s.met u → u ≠ v → Seen ask s' u
  stk : ∃ t pre rest, s.stk = pre ++ rest ∧ s'.stk = t :: rest ∧ has t v ∧ (∀ g ∈ pre, ∀ q, has g q → has t q) ∧ ∀ x ∈ X, has s'.done x ∨ has t x

def cntU (n met : Nat) : Nat := ((List.range n).filter fun q => !met.testBit q).length
theorem cntU_mono {n a b : Nat} (h : ∀ q, has a q → has b q) : cntU n b ≤ cntU n a := by
  unfold cntU
  apply List.Sublist.length_le
  have : (List.range n).filter (fun q => !b.testBit q) = ((List.range n).filter (fun q => !a.testBit q)).filter (fun q => !b.testBit q) := by
    rw [List.filter_filter]
    apply List.filter_congr
    intro q _
    have h1 := h q
    unfold has at h1
    cases ha : a.testBit q <;> cases hb : b.testBit q <;> simp_all
  rw [this]
  exact List.filter_sublist
theorem cntU_less {n v a b : Nat} (h : ∀ q, has a q → has b q) (hv : v < n) (h1 : ¬ has a v) (h2 : has b v) : cntU n b < cntU n a := by
  have h3 : cntU n b ≤ cntU n (a ||| 2 ^ v) := cntU_mono fun q hq => (has_or.1 hq).elim (h q) fun e => by rw [has_pow] at e; exact e ▸ h2
  refine Nat.lt_of_le_of_lt h3 ?_
  unfold cntU
  rw [← List.countP_eq_length_filter, ← List.countP_eq_length_filter]
  have e : List.range n = List.range v ++ (v :: (List.range (n - v - 1)).map (· + (v + 1))) := by
    have : n = v + (1 + (n - v - 1)) := by omega
    conv => lhs; rw [this]
    rw [List.range_add, List.range_add, List.map_append, List.map_map]
    simp [Function.comp_def, Nat.add_comm, Nat.add_left_comm]
  have hle : ∀ l : List Nat, List.countP (fun q => !(a ||| 2 ^ v).testBit q) l ≤ List.countP (fun q => !a.testBit q) l := fun l => by
    apply List.countP_mono_left
    intro q _ hq
    simp [Nat.testBit_or] at hq ⊢
    exact hq.1
  rw [e, List.countP_append, List.countP_append, List.countP_cons, List.countP_cons]
  have l1 := hle (List.range v)
  have l2 := hle ((List.range (n - v - 1)).map (· + (v + 1)))
  have e1 : (!(a ||| 2 ^ v).testBit v) = false := by simp [Nat.testBit_or]
  have e2 : (!a.testBit v) = true := by simpa [has] using h1
  rw [e1, e2]
  simp only [if_true, Bool.false_eq_true, if_false]
  omega

/-- A predicate is begun. -/
theorem Mid.begin {ask : Nat → Nat} {n v : Nat} {s : GW} (h : Inv ask n s) (hv : v < n) (hm : ¬ has s.met v) (hl : ∀ g ∈ s.stk, ∀ u, has g u → Rch ask u v) : Mid ask n v s (beginF v s) [] := by
  have h1 : ∀ q, has (s.met ||| 2 ^ v) q ↔ has s.met q ∨ v = q := fun q => by rw [has_or, has_pow]
  refine ⟨⟨⟨?_, ?_, ?_, ?_, ?_, ?_, h.closed⟩, ?_, h.rch, h.grp, h.len, h.told, h.own, h.apartG, h.order⟩, fun q hq => (h1 q).2 (.inl hq), (h1 v).2 (.inr rfl), fun _ h => h, ?_, ?_⟩
  · intro q
    show has (s.met ||| 2 ^ v) q ↔ has s.done q ∨ ∃ g ∈ 2 ^ v :: s.stk, has g q
    rw [h1, h.sub q]
    simp only [List.mem_cons, exists_eq_or_imp, has_pow]
    constructor
    · rintro ((h | h) | h)
      · exact .inl h
      · exact .inr (.inr h)
      · exact .inr (.inl h)
    · rintro (h | h | h)
      · exact .inl (.inl h)
      · exact .inr h
      · exact .inl (.inr h)
  · intro g hg n' hd hn
    rcases List.mem_cons.1 hg with rfl | hg
    · rw [has_pow] at hn
      exact hm ((h.sub v).2 (.inl (hn ▸ hd)))
    · exact h.off g hg n' hd hn
  · refine List.pairwise_cons.2 ⟨fun g hg n' a b => ?_, h.apart⟩
    rw [has_pow] at a
    exact hm ((h.sub v).2 (.inr ⟨g, hg, a ▸ b⟩))
  · intro g hg
    rcases List.mem_cons.1 hg with rfl | hg
    · intro a b ha hb
      rw [has_pow] at ha hb
      exact .inl (ha ▸ hb)
    · exact h.tied g hg
  · intro g hg
    rcases List.mem_cons.1 hg with rfl | hg
    · exact ⟨v, has_pow.2 rfl⟩
    · exact h.some g hg
  · refine List.pairwise_cons.2 ⟨fun g hg u v' hu hv' => ?_, h.leads⟩
    rw [has_pow] at hv'
    exact hv' ▸ hl g hg u hu
  · intro q hq
    rcases (h1 q).1 hq with h2 | rfl
    · exact h.lim q h2
    · exact hv
  · intro u hu hn hne
    rcases (h1 u).1 hu with h2 | rfl
    · exact absurd h2 hn
    · exact absurd rfl hne
  · exact ⟨2 ^ v, [], s.stk, rfl, rfl, has_pow.2 rfl, by simp, by simp⟩

/-- Two parts of the stack lead from the lower to the upper one; one part leads within. -/
theorem Stk.up {ask : Nat → Nat} {s : GW} (h : Stk ask s) {t : Nat} {rest : List Nat} (hs : s.stk = t :: rest) {g : Nat} (hg : g ∈ s.stk) : ∀ u v, has g u → has t v → Ra ask u v := by
  intro u v hu hv
  rw [hs] at hg
  rcases List.mem_cons.1 hg with rfl | hg
  · exact h.tied g (by rw [hs]; simp) u v hu hv
  · have := h.leads
    rw [hs, List.pairwise_cons] at this
    exact .inr (this.1 g hg u v hu hv)

theorem Mid.step {ask : Nat → Nat} {n v f tw : Nat} {s s' : GW} {X : List Nat} {rec : Nat → GW → GW} (hask : ∀ u x, has (ask u) x → x < n) (h : Mid ask n v s s' X) (hto : has (ask v) tw) (hc : cntU n s'.met ≤ f)
    (hrec : ∀ tw s2, Inv ask n s2 → tw < n → ¬ has s2.met tw → (∀ g ∈ s2.stk, ∀ u, has g u → Rch ask u tw) → cntU n s2.met ≤ f → Post ask n tw s2 (rec tw s2)) : Mid ask n v s (stepF rec s' tw) (tw :: X) := by
  obtain ⟨t, pre, rest, e1, e2, e3, e4, e5⟩ := h.stk
  have hlead : ∀ g ∈ s'.stk, ∀ u, has g u → Rch ask u tw := fun g hg u hu => (h.inv.toStk.up e2 hg u v hu e3).rch (.one hto)
  unfold stepF
  by_cases hm : s'.met.testBit tw = true
  · rw [if_pos hm]
    by_cases hd : s'.done.testBit tw = true
    · rw [if_pos hd]
      exact ⟨h.inv, h.met, h.me, h.done, h.seen, t, pre, rest, e1, e2, e3, e4, fun x hx => by
        rcases List.mem_cons.1 hx with rfl | hx
        · exact .inl hd
        · exact e5 x hx⟩
    · rw [if_neg hd]
      rcases (h.inv.sub tw).1 hm with hd' | ⟨g, hg, ht⟩
      · exact absurd hd' hd
      obtain ⟨t', pre', y, rest', j1, j2, j3, j4⟩ := joinR_spec tw s'.stk g hg ht
      have j2' : s'.stk = (pre' ++ [y]) ++ rest' := by rw [j2]; simp
      have hmem : ∀ x ∈ pre' ++ [y], x ∈ s'.stk := fun x hx => by rw [j2']; exact List.mem_append_left _ hx
      have j4' : ∀ n, has t' n ↔ ∃ x ∈ pre' ++ [y], has x n := fun n => by
        rw [j4]
        simp only [List.mem_append, List.mem_singleton]
        constructor
        · rintro (h | ⟨x, h1, h2⟩)
          · exact ⟨y, .inr rfl, h⟩
          · exact ⟨x, .inl h1, h2⟩
        · rintro ⟨x, h1 | rfl, h2⟩
          · exact .inr ⟨x, h1, h2⟩
          · exact .inl h2
      -- what is joined is reached from what is asked
      have hback : ∀ a ∈ pre' ++ [y], ∀ u, has a u → Ra ask v u := by
        intro a ha u hu
        refine .inr ?_
        have hs : Ra ask tw u := by
          rcases List.mem_append.1 ha with h1 | h1
          · have hl := h.inv.leads
            rw [j2, List.pairwise_append] at hl
            exact .inr (hl.2.2 a h1 y (List.mem_cons_self ..) tw u j3 hu)
          · rw [List.mem_singleton] at h1
            subst h1
            exact h.inv.tied a (hmem a ha) tw u j3 hu
        rcases hs with rfl | hs
        · exact .one hto
        · exact .step hto hs
      have hst := h.inv.toStk.join j2' j4' (by simp) (fun a b ha hb u u' hu hu' => (h.inv.toStk.up e2 (hmem a ha) u v hu e3).trans (hback b hb u' hu'))
      -- the top is among what is joined
      have htin : ∃ z, pre' ++ [y] = t :: z ∧ rest = z ++ rest' := by
        cases hp : pre' ++ [y] with
        | nil => simp at hp
        | cons x z =>
          rw [e2, hp, List.cons_append, List.cons.injEq] at j2'
          exact ⟨z, by rw [j2'.1], j2'.2⟩
      obtain ⟨z, hz1, hz2⟩ := htin
      have hsub : ∀ x ∈ t :: z, ∀ q, has x q → has t' q := fun x hx q hq => (j4' q).2 ⟨x, by rw [hz1]; exact hx, hq⟩
      have hkeep : ∀ g ∈ s'.stk, ∃ g' ∈ joinR tw s'.stk, ∀ q, has g q → has g' q := fun g hg => by
        rw [j1]
        rw [j2', List.mem_append, hz1] at hg
        rcases hg with h1 | h1
        · exact ⟨t', List.mem_cons_self .., hsub g h1⟩
        · exact ⟨g, List.mem_cons_of_mem _ h1, fun _ h => h⟩
      rw [← j1] at hst
      refine ⟨⟨hst, h.inv.lim, h.inv.rch, h.inv.grp, h.inv.len, h.inv.told, h.inv.own, h.inv.apartG, h.inv.order⟩, h.met, h.me, h.done, fun u hu hn hne => (h.seen u hu hn hne).keep (fun _ h => h) (fun g hg => .inl (hkeep g hg)), t', pre ++ z, rest', ?_, j1, hsub t (List.mem_cons_self ..) v e3, ?_, ?_⟩
      · rw [e1, hz2, List.append_assoc]
      · intro x hx q hq
        rcases List.mem_append.1 hx with h1 | h1
        · exact hsub t (List.mem_cons_self ..) q (e4 x h1 q hq)
        · exact hsub x (List.mem_cons_of_mem _ h1) q hq
      · intro x hx
        rcases List.mem_cons.1 hx with rfl | hx
        · exact .inr ((j4 x).2 (.inl j3))
        · exact (e5 x hx).imp id fun h1 => hsub t (List.mem_cons_self ..) x h1
  · rw [if_neg hm]
    have hp := hrec tw s' h.inv (hask v tw hto) hm hlead hc
    have hkeep : ∀ g ∈ s'.stk, ∃ g' ∈ (rec tw s').stk, ∀ q, has g q → has g' q := fun g hg => by
      rcases hp.stk with e | hmg
      · exact ⟨g, by rw [e]; exact hg, fun _ h => h⟩
      · exact hmg.keep g hg
    refine ⟨hp.inv, fun q hq => hp.met q (h.met q hq), hp.met v h.me, fun q hq => hp.done q (h.done q hq), fun u hu hn hne => ?_, ?_⟩
    · by_cases hu' : has s'.met u
      · exact (h.seen u hu' hn hne).keep hp.done (fun g hg => .inl (hkeep g hg))
      · exact hp.seen u hu hu'
    · rcases hp.stk with e | ⟨t', pre', rest', m1, m2, m3, m4, m5⟩
      · refine ⟨t, pre, rest, e1, by rw [e, e2], e3, e4, fun x hx => ?_⟩
        rcases List.mem_cons.1 hx with rfl | hx
        · rcases (hp.inv.sub x).1 hp.me with h1 | ⟨g, hg, h1⟩
          · exact .inl h1
          · rw [e] at hg
            exact absurd ((h.inv.sub x).2 (.inr ⟨g, hg, h1⟩)) hm
        · exact (e5 x hx).imp (hp.done x) id
      · obtain ⟨z, rfl, hz⟩ : ∃ z, pre' = t :: z ∧ rest = z ++ rest' := by
          cases pre' with
          | nil => exact absurd rfl m2
          | cons x z =>
            rw [e2, List.cons_append, List.cons.injEq] at m1
            exact ⟨z, by rw [m1.1], m1.2⟩
        refine ⟨t', pre ++ z, rest', by rw [e1, hz, List.append_assoc], m3, m5 t (List.mem_cons_self ..) v e3, ?_, ?_⟩
        · intro x hx q hq
          rcases List.mem_append.1 hx with h1 | h1
          · exact m5 t (List.mem_cons_self ..) q (e4 x h1 q hq)
          · exact m5 x (List.mem_cons_of_mem _ h1) q hq
        · intro x hx
          rcases List.mem_cons.1 hx with rfl | hx
          · exact .inr m4
          · exact (e5 x hx).imp (hp.done x) fun h1 => m5 t (List.mem_cons_self ..) x h1

theorem has_reachF {ask : Nat → Nat} {reach : List Nat} {g q : Nat} (hg : ∀ x, has g x → x < 64) (ha : ∀ u x, has (ask u) x → x < 64) :
    has (reachF ask reach g) q ↔ (∃ u, has g u ∧ has (ask u) q) ∨ ∃ x, (∃ u, has g u ∧ has (ask u) x) ∧ ¬ has g x ∧ has (reach.getD x 0) q := by
  have h0 : ∀ q, has ((bitsN g).foldl (fun r p => r ||| ask p) 0) q ↔ ∃ u, has g u ∧ has (ask u) q := fun q => by
    rw [has_fold]
    constructor
    · rintro (h | ⟨p, hp, h⟩)
      · simp [has] at h
      · exact ⟨p, (bitsN_mem.1 hp).2, h⟩
    · rintro ⟨p, hp, h⟩
      exact .inr ⟨p, bitsN_mem.2 ⟨hg p hp, hp⟩, h⟩
  unfold reachF
  rw [has_fold, h0]
  constructor
  · rintro (h | ⟨x, hx, h⟩)
    · exact .inl h
    · have := (bitsN_mem.1 hx).2
      rw [has_less, h0] at this
      exact .inr ⟨x, this.1, this.2, h⟩
  · rintro (h | ⟨x, ⟨u, h1, h2⟩, h3, h⟩)
    · exact .inl h
    · exact .inr ⟨x, bitsN_mem.2 ⟨ha u x h2, has_less.2 ⟨(h0 x).2 ⟨u, h1, h2⟩, h3⟩⟩, h⟩

/-- A part whose links lead to it or to what is done is a group. -/
theorem part_rch {ask : Nat → Nat} {n : Nat} {s : GW} {t : Nat} (h : Inv ask n s) (hn : n ≤ 24) (hask : ∀ u x, has (ask u) x → x < n) (htm : ∀ u, has t u → has s.met u) (htd : Apart s.done t) (htie : Tied ask t) (hs : ∀ u x, has t u → has (ask u) x → has s.done x ∨ has t x) :
    (∀ u q, has t u → (has (reachF ask s.reach t) q ↔ Rch ask u q)) ∧ ∀ u q, has t u → (has t q ↔ q = u ∨ (Rch ask u q ∧ Rch ask q u)) := by
  have hl : ∀ x, has t x → x < 64 := fun x hx => by have := h.lim x (htm x hx); omega
  have hcl : ∀ u q, Rch ask u q → (has s.done u → has s.done q) := fun u q hr => by
    induction hr with
    | one e => exact fun hd => h.closed _ _ hd e
    | step e _ ih => exact fun hd => ih (h.closed _ _ hd e)
  have hto : ∀ u q, Rch ask u q → has t u → has s.done q ∨ has t q := fun u q hr => by
    induction hr with
    | one e => exact fun hu => hs _ _ hu e
    | step e hr ih =>
      intro hu
      rcases hs _ _ hu e with h1 | h1
      · exact .inl (hcl _ _ hr h1)
      · exact ih h1
  refine ⟨fun u q hu => ?_, fun u q hu => ⟨fun hq => ?_, fun hq => ?_⟩⟩
  · rw [has_reachF hl (fun u x hx => by have := hask u x hx; omega)]
    constructor
    · rintro (⟨u', h1, h2⟩ | ⟨x, ⟨u', h1, h2⟩, h3, h4⟩)
      · exact (htie u u' hu h1).rch (.one h2)
      · have hx : has s.done x := (hs u' x h1 h2).resolve_right h3
        exact (htie u u' hu h1).rch (.step h2 ((h.rch x q hx).1 h4))
    · intro hr
      clear hcl hto
      induction hr with
      | one e => exact .inl ⟨_, hu, e⟩
      | @step u x q e hr ih =>
        rcases hs _ _ hu e with h1 | h1
        · exact .inr ⟨x, ⟨_, hu, e⟩, fun ht => htd x h1 ht, (h.rch x q h1).2 hr⟩
        · exact ih h1
  · rcases htie u q hu hq with rfl | h1
    · exact .inl rfl
    · rcases htie q u hq hu with rfl | h2
      · exact .inl rfl
      · exact .inr ⟨h1, h2⟩
  · rcases hq with rfl | ⟨h1, h2⟩
    · exact hu
    · rcases hto u q h1 hu with h3 | h3
      · exact absurd hu fun hu => htd u (hcl q u h2 h3) hu
      · exact h3

theorem Mid.leave {ask : Nat → Nat} {n v : Nat} {s s' : GW} {X : List Nat} (hn : n ≤ 24) (hask : ∀ u x, has (ask u) x → x < n) (h0 : Inv ask n s) (hv : ¬ has s.met v) (h : Mid ask n v s s' X) (hX : ∀ x, has (ask v) x → x ∈ X) : Post ask n v s (leaveF ask s.stk.length s') := by
  obtain ⟨t, pre, rest, e1, e2, e3, e4, e5⟩ := h.stk
  have htS : t ∈ s'.stk := by rw [e2]; exact List.mem_cons_self ..
  have htm : ∀ u, has t u → has s'.met u := fun u hu => (h.inv.sub u).2 (.inr ⟨t, htS, hu⟩)
  have honly : ∀ g ∈ s'.stk, ∀ u, has t u → has g u → g = t := fun g hg u hu hgu => by
    rw [e2] at hg
    rcases List.mem_cons.1 hg with rfl | hg
    · rfl
    · have := h.inv.apart
      rw [e2, List.pairwise_cons] at this
      exact absurd hgu fun hgu => this.1 g hg u hu hgu
  rcases pre with _ | ⟨g0, pre⟩
  · rw [List.nil_append] at e1
    have hlen : s.stk.length < s'.stk.length := by rw [e2, ← e1]; simp
    have hleave : leaveF ask s.stk.length s' = { finishF ask t s' with stk := s.stk } := by
      unfold leaveF
      rw [if_pos hlen, e2, e1]
      rfl
    rw [hleave]
    have hnew : ∀ u, has t u → ¬ has s.met u := fun u hu hm => by
      rcases (h0.sub u).1 hm with hd | ⟨g, hg, hgu⟩
      · exact h.inv.off t htS u (h.done u hd) hu
      · have := honly g (by rw [e2, ← e1]; exact List.mem_cons_of_mem _ hg) u hu hgu
        subst this
        have h2 := h.inv.apart
        rw [e2, ← e1, List.pairwise_cons] at h2
        exact h2.1 g hg u hu hgu
    have hs : ∀ u x, has t u → has (ask u) x → has s'.done x ∨ has t x := fun u x hu hx => by
      by_cases e : u = v
      · subst e
        exact e5 x (hX x hx)
      · rcases h.seen u (htm u hu) (hnew u hu) e x hx with h1 | ⟨g, hg, h1, h2⟩
        · exact .inl h1
        · exact .inr (honly g hg u hu h1 ▸ h2)
    have htd := h.inv.off t htS
    obtain ⟨P1, P2⟩ := part_rch h.inv hn hask htm htd (h.inv.tied t htS) hs
    have hlim : ∀ u, has s'.met u → u < 24 := fun u hu => by have := h.inv.lim u hu; omega
    have hbt : ∀ u, u ∈ bitsN t ↔ has t u := fun u => bitsN_mem.trans ⟨fun h => h.2, fun hu => ⟨by have := hlim u (htm u hu); omega, hu⟩⟩
    have hdm : ∀ u, has s'.done u → has s'.met u := fun u hu => (h.inv.sub u).2 (.inl hu)
    have hgr : ∀ u, has s'.met u → (setAll s'.group (bitsN t) t).getD u 0 = if has t u then t else s'.group.getD u 0 := fun u hu => by
      rw [setAll_at _ _ _ _ (by rw [h.inv.len.1]; exact hlim u hu)]
      simp only [hbt]
    have hrr : ∀ u, has s'.met u → (setAll s'.reach (bitsN t) (reachF ask s'.reach t)).getD u 0 = if has t u then reachF ask s'.reach t else s'.reach.getD u 0 := fun u hu => by
      rw [setAll_at _ _ _ _ (by rw [h.inv.len.2]; exact hlim u hu)]
      simp only [hbt]
    have hap := h.inv.apart
    rw [e2, ← e1, List.pairwise_cons] at hap
    have hld := h.inv.leads
    rw [e2, ← e1, List.pairwise_cons] at hld
    have hin : ∀ g ∈ s.stk, g ∈ s'.stk := fun g hg => by rw [e2, ← e1]; exact List.mem_cons_of_mem _ hg
    have hdo : ∀ q, has (s'.done ||| t) q ↔ has s'.done q ∨ has t q := fun q => has_or
    refine ⟨⟨⟨fun q => ?_, fun g hg q hd hq => ?_, hap.2, fun g hg => h.inv.tied g (hin g hg), fun g hg => h.inv.some g (hin g hg), hld.2, fun u x hd hx => ?_⟩, h.inv.lim, fun p q hd => ?_, fun p q hd => ?_, ?_, fun q => ?_, fun g hg => ?_, ?_, fun i hi u x hu hx => ?_⟩, h.met, h.me, fun q hq => (hdo q).2 (.inl (h.done q hq)), fun u hu hm => ?_, .inl rfl⟩
    · show has s'.met q ↔ has (s'.done ||| t) q ∨ ∃ g ∈ s.stk, has g q
      rw [h.inv.sub q, hdo, e2, ← e1]
      simp only [List.mem_cons, exists_eq_or_imp, or_assoc]
    · rcases (hdo q).1 hd with h1 | h1
      · exact h.inv.off g (hin g hg) q h1 hq
      · exact hap.1 g hg q h1 hq
    · rcases (hdo u).1 hd with h1 | h1
      · exact (hdo x).2 (.inl (h.inv.closed u x h1 hx))
      · exact (hdo x).2 (hs u x h1 hx)
    · show has ((setAll s'.reach (bitsN t) (reachF ask s'.reach t)).getD p 0) q ↔ _
      rcases (hdo p).1 hd with h1 | h1
      · rw [hrr p (hdm p h1), if_neg (fun ht => htd p h1 ht)]
        exact h.inv.rch p q h1
      · rw [hrr p (htm p h1), if_pos h1]
        exact P1 p q h1
    · show has ((setAll s'.group (bitsN t) t).getD p 0) q ↔ _
      rcases (hdo p).1 hd with h1 | h1
      · rw [hgr p (hdm p h1), if_neg (fun ht => htd p h1 ht)]
        exact h.inv.grp p q h1
      · rw [hgr p (htm p h1), if_pos h1]
        exact P2 p q h1
    · exact ⟨by show (setAll _ _ _).length = 24; rw [setAll_len]; exact h.inv.len.1, by show (setAll _ _ _).length = 24; rw [setAll_len]; exact h.inv.len.2⟩
    · show has (s'.done ||| t) q ↔ ∃ g ∈ s'.groups ++ [t], has g q
      rw [hdo, h.inv.told q]
      simp only [List.mem_append, List.mem_singleton]
      constructor
      · rintro (⟨g, h1, h2⟩ | h1)
        · exact ⟨g, .inl h1, h2⟩
        · exact ⟨t, .inr rfl, h1⟩
      · rintro ⟨g, h1 | rfl, h2⟩
        · exact .inl ⟨g, h1, h2⟩
        · exact .inr h2
    · rcases List.mem_append.1 hg with h1 | h1
      · refine ⟨(h.inv.own g h1).1, fun q hq => ?_⟩
        have hd : has s'.done q := (h.inv.told q).2 ⟨g, h1, hq⟩
        show (setAll s'.group (bitsN t) t).getD q 0 = g
        rw [hgr q (hdm q hd), if_neg (fun ht => htd q hd ht)]
        exact (h.inv.own g h1).2 q hq
      · rw [List.mem_singleton] at h1
        subst h1
        refine ⟨⟨v, e3⟩, fun q hq => ?_⟩
        show (setAll s'.group (bitsN g) g).getD q 0 = g
        rw [hgr q (htm q hq), if_pos hq]
    · show (s'.groups ++ [t]).Pairwise Apart
      rw [List.pairwise_append]
      refine ⟨h.inv.apartG, List.pairwise_singleton _ _, fun g hg t' ht' q h1 h2 => ?_⟩
      rw [List.mem_singleton] at ht'
      subst ht'
      exact htd q ((h.inv.told q).2 ⟨g, hg, h1⟩) h2
    · have hu3 : ∀ hi3 : i < (s'.groups ++ [t]).length, has ((s'.groups ++ [t])[i]'hi3) u := fun _ => hu
      show ∃ j, ∃ h : j < (s'.groups ++ [t]).length, j ≤ i ∧ has (s'.groups ++ [t])[j] x
      have hi2 : i < (s'.groups ++ [t]).length := hi
      have hu2 := hu3 hi2
      rw [List.length_append, List.length_singleton] at hi2
      by_cases hlt : i < s'.groups.length
      · rw [List.getElem_append_left hlt] at hu2
        obtain ⟨j, hj, hji, hx2⟩ := h.inv.order i hlt u x hu2 hx
        exact ⟨j, by simp; omega, hji, by rw [List.getElem_append_left hj]; exact hx2⟩
      · have hie : i = s'.groups.length := by omega
        subst hie
        rw [List.getElem_append_right (Nat.le_refl _)] at hu2
        simp only [Nat.sub_self, List.getElem_cons_zero] at hu2
        rcases hs u x hu2 hx with h1 | h1
        · obtain ⟨g, hg, hx2⟩ := (h.inv.told x).1 h1
          obtain ⟨j, hj, rfl⟩ := List.getElem_of_mem hg
          exact ⟨j, by simp; omega, by omega, by rw [List.getElem_append_left hj]; exact hx2⟩
        · exact ⟨s'.groups.length, by simp, Nat.le_refl _, by rw [List.getElem_append_right (Nat.le_refl _)]; simpa using h1⟩
    · by_cases e : u = v
      · subst e
        exact fun x hx => .inl ((hdo x).2 (e5 x (hX x hx)))
      · refine (h.seen u hu hm e).keep (fun q hq => (hdo q).2 (.inl hq)) fun g hg => ?_
        rw [e2, ← e1] at hg
        rcases List.mem_cons.1 hg with rfl | hg
        · exact .inr fun q hq => (hdo q).2 (.inr hq)
        · exact .inl ⟨g, hg, fun _ h => h⟩
  · have hlen : ¬ s.stk.length < s'.stk.length := by rw [e2, e1]; simp
    have hleave : leaveF ask s.stk.length s' = s' := by
      unfold leaveF
      rw [if_neg hlen]
    rw [hleave]
    refine ⟨h.inv, h.met, h.me, h.done, fun u hu hm => ?_, .inr ⟨t, g0 :: pre, rest, e1, by simp, e2, e3, e4⟩⟩
    by_cases e : u = v
    · subst e
      exact fun x hx => (e5 x (hX x hx)).imp id fun h1 => ⟨t, htS, e3, h1⟩
    · exact h.seen u hu hm e

/-- The stack never grows by a visit. -/
theorem joinR_len (tw : Nat) : ∀ l : List Nat, (joinR tw l).length ≤ l.length ∧ (l ≠ [] → joinR tw l ≠ []) := by
  intro l
  induction h : l.length using Nat.strongRecOn generalizing l with
  | _ m ih =>
    match l, h with
    | [], _ => simp [joinR]
    | [a], h => simp [joinR] at h ⊢; omega
    | a :: b :: r, h =>
      rw [joinR]
      split
      · simp at h ⊢; omega
      · obtain ⟨h1, h2⟩ := ih _ (by rw [← h]; simp) ((b ||| a) :: r) rfl
        exact ⟨by simp at h h1 ⊢; omega, fun _ => h2 (by simp)⟩

/-- What the visits of a row of links keep. -/
theorem Mid.fold {ask : Nat → Nat} {n v f : Nat} {s : GW} (hask : ∀ u x, has (ask u) x → x < n)
    (hrec : ∀ tw s2, Inv ask n s2 → tw < n → ¬ has s2.met tw → (∀ g ∈ s2.stk, ∀ u, has g u → Rch ask u tw) → cntU n s2.met ≤ f → Post ask n tw s2 (visitF ask f tw s2))
    (hv : v < n) (hm : ¬ has s.met v) (hc : cntU n s.met ≤ f + 1) : ∀ (l : List Nat) (s' : GW) (X : List Nat), (∀ x ∈ l, has (ask v) x) → Mid ask n v s s' X → Mid ask n v s (l.foldl (stepF (visitF ask f)) s') (l.reverse ++ X)
  | [], s', X, _, h => by simpa using h
  | x :: l, s', X, hl, h => by
    have hc' : cntU n s'.met ≤ f := by have := cntU_less h.met hv hm h.me; omega
    have := Mid.fold hask hrec hv hm hc l (stepF (visitF ask f) s' x) (x :: X) (fun y hy => hl y (List.mem_cons_of_mem _ hy)) (h.step hask (hl x (List.mem_cons_self ..)) hc' hrec)
    simpa using this

theorem visit_post {ask : Nat → Nat} {n : Nat} (hn : n ≤ 24) (hask : ∀ u x, has (ask u) x → x < n) : ∀ (f v : Nat) (s : GW), Inv ask n s → v < n → ¬ has s.met v → (∀ g ∈ s.stk, ∀ u, has g u → Rch ask u v) → cntU n s.met ≤ f → Post ask n v s (visitF ask f v s)
  | 0, v, s, _, hv, hm, _, hc => by
    have := cntU_less (n := n) (v := v) (a := s.met) (b := s.met ||| 2 ^ v) (fun q hq => has_or.2 (.inl hq)) hv hm (has_or.2 (.inr (has_pow.2 rfl)))
    omega
  | f + 1, v, s, hi, hv, hm, hl, hc => by
    have h1 := Mid.fold hask (fun tw s2 => visit_post hn hask f tw s2) hv hm hc (bitsN (ask v)) (beginF v s) [] (fun x hx => (bitsN_mem.1 hx).2) (Mid.begin hi hv hm hl)
    exact h1.leave hn hask hi hm fun x hx => by
      simp only [List.append_nil, List.mem_reverse]
      exact bitsN_mem.2 ⟨by have := hask v x hx; omega, hx⟩

/-- The walk over all predicates. -/
def startW : GW := ⟨0, 0, [], [], List.replicate 24 0, List.replicate 24 0⟩
def walkF (ask : Nat → Nat) (n k : Nat) : GW := (List.range k).foldl (fun s p => if s.met.testBit p then s else visitF ask n p s) startW
theorem not_has_zero (q : Nat) : ¬ has 0 q := by simp [has]
theorem walk_inv {ask : Nat → Nat} {n : Nat} (hn : n ≤ 24) (hask : ∀ u x, has (ask u) x → x < n) : ∀ k, k ≤ n → Inv ask n (walkF ask n k) ∧ (walkF ask n k).stk = [] ∧ ∀ p, p < k → has (walkF ask n k).met p
  | 0, _ => by
    refine ⟨⟨⟨fun q => ?_, fun g hg => (by cases hg), List.Pairwise.nil, fun g hg => (by cases hg), fun g hg => (by cases hg), List.Pairwise.nil, fun u v h => absurd h (not_has_zero u)⟩, fun q h => absurd h (not_has_zero q), fun p q h => absurd h (not_has_zero p), fun p q h => absurd h (not_has_zero p), ⟨rfl, rfl⟩, fun q => ?_, fun g hg => (by cases hg), List.Pairwise.nil, fun i h => absurd h (Nat.not_lt_zero _)⟩, rfl, fun p h => absurd h (Nat.not_lt_zero _)⟩
    · exact ⟨fun h => absurd h (not_has_zero q), fun h => by
        rcases h with h | ⟨g, hg, _⟩
        · exact absurd h (not_has_zero q)
        · cases hg⟩
    · exact ⟨fun h => absurd h (not_has_zero q), fun ⟨g, hg, _⟩ => by cases hg⟩
  | k + 1, hk => by
    obtain ⟨h1, h2, h3⟩ := walk_inv hn hask k (by omega)
    have e : walkF ask n (k + 1) = if (walkF ask n k).met.testBit k then walkF ask n k else visitF ask n k (walkF ask n k) := by
      unfold walkF
      rw [List.range_succ, List.foldl_append]
      rfl
    rw [e]
    by_cases hm : (walkF ask n k).met.testBit k = true
    · rw [if_pos hm]
      exact ⟨h1, h2, fun p hp => by
        by_cases e : p = k
        · subst e; exact hm
        · exact h3 p (by omega)⟩
    · rw [if_neg hm]
      have hp := visit_post hn hask n k _ h1 (by omega) hm (fun g hg => by rw [h2] at hg; cases hg) (by unfold cntU; exact Nat.le_trans (List.length_filter_le _ _) (by simp))
      refine ⟨hp.inv, ?_, fun p hp' => ?_⟩
      · rcases hp.stk with e | ⟨t, pre, rest, m1, m2, _⟩
        · rw [e, h2]
        · rw [h2] at m1
          exact absurd (List.append_eq_nil_iff.1 m1.symm).1 m2
      · by_cases e : p = k
        · subst e; exact hp.me
        · exact hp.met p (h3 p (by omega))

/-- What the walk over all predicates finds. -/
theorem walk_all {ask : Nat → Nat} {n : Nat} (hn : n ≤ 24) (hask : ∀ u x, has (ask u) x → x < n) : Inv ask n (walkF ask n n) ∧ (∀ p, p < n → has (walkF ask n n).done p) ∧ (walkF ask n n).stk = [] := by
  obtain ⟨h1, h2, h3⟩ := walk_inv hn hask n (Nat.le_refl _)
  refine ⟨h1, fun p hp => ?_, h2⟩
  rcases (h1.sub p).1 (h3 p hp) with h | ⟨g, hg, _⟩
  · exact h
  · rw [h2] at hg; cases hg

end Go.Proofs.YtokmmloakahkhaaDoor
/-
  Who asks whom: plain mathematics.
-/
namespace Go.Proofs.YtokmmloakahkhaaDoor
open Go.RowKit

/-- A head's predicate, and a literal that it stands above. -/
abbrev LAsk := Int × LLit
def asksOf (rs : List LRule) : List LAsk := rs.flatMap fun r => r.2.map fun l => (r.1.1, l)
def asked (kd : Int) (ps : List LAsk) (i k : Nat) : Bool := ps.any fun x => decide (x.1 = (i : Int) ∧ x.2.1 = kd ∧ x.2.2.1 = (k : Int))
theorem asked_snoc (kd : Int) (ps : List LAsk) (x : LAsk) (i k : Nat) : asked kd (ps ++ [x]) i k = (asked kd ps i k || decide (x.1 = (i : Int) ∧ x.2.1 = kd ∧ x.2.2.1 = (k : Int))) := by simp [asked]
/-- Within n predicates. -/
def AskFits (n : Nat) (x : LAsk) : Prop := (0 ≤ x.1 ∧ x.1 < n) ∧ (x.2.1 = 0 ∨ x.2.1 = 1 → 0 ≤ x.2.2.1 ∧ x.2.2.1 < n)
def askMask (kd : Int) (ps : List LAsk) (i : Nat) : Nat := ps.foldl (fun m x => if x.1 = (i : Int) ∧ x.2.1 = kd then m ||| 2 ^ x.2.2.1.toNat else m) 0
theorem askMask_snoc (kd : Int) (ps : List LAsk) (x : LAsk) (i : Nat) : askMask kd (ps ++ [x]) i = if x.1 = (i : Int) ∧ x.2.1 = kd then askMask kd ps i ||| 2 ^ x.2.2.1.toNat else askMask kd ps i := by simp [askMask]
theorem has_mask_from {n : Nat} {kd : Int} (hk : kd = 0 ∨ kd = 1) (i k : Nat) : ∀ (ps : List LAsk) (m : Nat), (∀ x ∈ ps, AskFits n x) → (has (ps.foldl (fun m x => if x.1 = (i : Int) ∧ x.2.1 = kd then m ||| 2 ^ x.2.2.1.toNat else m) m) k ↔ has m k ∨ asked kd ps i k = true)
  | [], m, _ => by simp [asked]
  | x :: ps, m, h => by
    have h2 := (h x (List.mem_cons_self ..)).2
    have ea : asked kd (x :: ps) i k = (decide (x.1 = (i : Int) ∧ x.2.1 = kd ∧ x.2.2.1 = (k : Int)) || asked kd ps i k) := rfl
    rw [List.foldl_cons, has_mask_from hk i k ps _ fun y hy => h y (List.mem_cons_of_mem _ hy), ea, Bool.or_eq_true, decide_eq_true_eq]
    by_cases e : x.1 = (i : Int) ∧ x.2.1 = kd
    · rw [if_pos e, has_or, has_pow]
      have h3 := h2 (by rcases hk with rfl | rfl <;> simp [e.2])
      constructor
      · rintro ((h | h) | h)
        · exact .inl h
        · exact .inr (.inl ⟨e.1, e.2, by omega⟩)
        · exact .inr (.inr h)
      · rintro (h | h | h)
        · exact .inl (.inl h)
        · exact .inl (.inr (by omega))
        · exact .inr h
    · rw [if_neg e]
      constructor
      · rintro (h | h)
        · exact .inl h
        · exact .inr (.inr h)
      · rintro (h | h | h)
        · exact .inl h
        · exact absurd ⟨h.1, h.2.1⟩ e
        · exact .inr h
theorem has_mask {n : Nat} {kd : Int} (hk : kd = 0 ∨ kd = 1) (i k : Nat) (ps : List LAsk) (h : ∀ x ∈ ps, AskFits n x) : has (askMask kd ps i) k ↔ asked kd ps i k = true := by
  unfold askMask
  rw [has_mask_from hk i k ps 0 h]
  simp [has]
theorem asked_lt {n : Nat} {kd : Int} (hk : kd = 0 ∨ kd = 1) {i k : Nat} {ps : List LAsk} (h : ∀ x ∈ ps, AskFits n x) (ha : asked kd ps i k = true) : i < n ∧ k < n := by
  unfold asked at ha
  rw [List.any_eq_true] at ha
  obtain ⟨x, hx, e⟩ := ha
  rw [decide_eq_true_eq] at e
  have h1 := h x hx
  have h2 := h1.2 (by rcases hk with rfl | rfl <;> simp [e.2.1])
  have := h1.1
  omega
theorem word_of_bits {x n : Nat} (h : ∀ k, has x k → k < n) : x < 2 ^ n := by
  apply Nat.lt_pow_two_of_testBit
  intro i hi
  have := h i
  unfold has at this
  cases e : x.testBit i
  · rfl
  · have := this e
    omega
theorem askMask_lt {n : Nat} {kd : Int} (hn : n ≤ 24) (hk : kd = 0 ∨ kd = 1) {i : Nat} {ps : List LAsk} (h : ∀ x ∈ ps, AskFits n x) : askMask kd ps i < 16777216 := by
  have h1 := word_of_bits (x := askMask kd ps i) (n := n) fun k hx => (asked_lt hk h ((has_mask hk i k ps h).1 hx)).2
  exact Nat.lt_of_lt_of_le h1 (Nat.pow_le_pow_right (by decide) hn)
def askWords (kd : Int) (ps : List LAsk) : List Nat := (List.range 24).map (askMask kd ps)
theorem askWords_len (kd : Int) (ps : List LAsk) : (askWords kd ps).length = 24 := by simp [askWords]
theorem askWords_at {kd : Int} {ps : List LAsk} {i : Nat} (h : i < 24) : (askWords kd ps).getD i 0 = askMask kd ps i := by simp [askWords, h]
theorem askWords_no {kd : Int} {ps : List LAsk} {x : LAsk} (h : x.2.1 ≠ kd) : askWords kd (ps ++ [x]) = askWords kd ps := by
  unfold askWords
  apply List.map_congr_left
  intro i _
  rw [askMask_snoc, if_neg (fun e => h e.2)]
theorem askWords_yes {kd : Int} {ps : List LAsk} {x : LAsk} (h : x.2.1 = kd) {p : Nat} (hp : x.1 = (p : Int)) : askWords kd (ps ++ [x]) = (askWords kd ps).set p (askMask kd ps p ||| 2 ^ x.2.2.1.toNat) := by
  apply List.ext_getElem
  · simp [askWords]
  · intro i h1 h2
    have hi : i < 24 := by simpa [askWords] using h1
    rw [List.getElem_set]
    simp only [askWords, List.getElem_map, List.getElem_range, askMask_snoc]
    by_cases e : p = i
    · subst e
      rw [if_pos rfl, if_pos ⟨hp, h⟩]
    · rw [if_neg e, if_neg (fun e2 => e (by have := e2.1; omega))]

/-- What stands in the specification's table. -/
def cellV (ps : List LAsk) (i k : Nat) : Nat := (if asked 0 ps i k then 1 else 0) + (if asked 1 ps i k then 2 else 0)
theorem cellV_le (ps : List LAsk) (i k : Nat) : cellV ps i k ≤ 3 := by unfold cellV; split <;> split <;> omega
theorem cellV_snoc (ps : List LAsk) (x : LAsk) (i k : Nat) : cellV (ps ++ [x]) i k =
    if x.1 = (i : Int) ∧ x.2.2.1 = (k : Int) then (if x.2.1 = 0 ∧ cellV ps i k % 2 = 0 then cellV ps i k + 1 else if x.2.1 = 1 ∧ cellV ps i k < 2 then cellV ps i k + 2 else cellV ps i k) else cellV ps i k := by
  unfold cellV
  rw [asked_snoc, asked_snoc]
  by_cases e : x.1 = (i : Int) ∧ x.2.2.1 = (k : Int)
  · rw [if_pos e]
    have e0 : decide (x.1 = (i : Int) ∧ x.2.1 = 0 ∧ x.2.2.1 = (k : Int)) = decide (x.2.1 = 0) := by simp [e.1, e.2]
    have e1 : decide (x.1 = (i : Int) ∧ x.2.1 = 1 ∧ x.2.2.1 = (k : Int)) = decide (x.2.1 = 1) := by simp [e.1, e.2]
    rw [e0, e1]
    by_cases h0 : x.2.1 = 0
    · have h1 : ¬ x.2.1 = 1 := by omega
      cases asked 0 ps i k <;> cases asked 1 ps i k <;> simp [h0]
    · by_cases h1 : x.2.1 = 1
      · cases asked 0 ps i k <;> cases asked 1 ps i k <;> simp [h1]
      · cases asked 0 ps i k <;> cases asked 1 ps i k <;> simp [h0, h1]
  · rw [if_neg e]
    have e0 : decide (x.1 = (i : Int) ∧ x.2.1 = 0 ∧ x.2.2.1 = (k : Int)) = false := by simp; intro a _; exact fun b => e ⟨a, b⟩
    have e1 : decide (x.1 = (i : Int) ∧ x.2.1 = 1 ∧ x.2.2.1 = (k : Int)) = false := by simp; intro a _; exact fun b => e ⟨a, b⟩
    rw [e0, e1]
    simp

/-- A link: who asks, who is asked, whether that something does not hold. -/
abbrev LLink := Int × Int × Bool
def linkAt (ps : List LAsk) (i k : Nat) : List LLink := (if asked 0 ps i k then [((i : Int), (k : Int), false)] else []) ++ (if asked 1 ps i k then [((i : Int), (k : Int), true)] else [])
def linksFrom (n : Nat) (ps : List LAsk) (i : Nat) : List LLink := (List.range n).flatMap (linkAt ps i)
def linksL (n m : Nat) (ps : List LAsk) : List LLink := (List.range m).flatMap (linksFrom n ps)
def linksOf (p : LProg) : List LLink := if progOk p then linksL p.1.length p.1.length (asksOf p.2) else []
theorem linkAt_len (ps : List LAsk) (i k : Nat) : (linkAt ps i k).length ≤ 2 := by
  unfold linkAt
  split <;> split <;> simp
theorem flatMap_len {α β : Type} {f : α → List β} {m : Nat} (h : ∀ x, (f x).length ≤ m) : ∀ l : List α, (l.flatMap f).length ≤ l.length * m
  | [] => by simp
  | x :: l => by
    have := flatMap_len h l
    have := h x
    rw [List.flatMap_cons, List.length_append, List.length_cons, Nat.succ_mul]
    omega
theorem linksFrom_len (n : Nat) (ps : List LAsk) (i : Nat) : (linksFrom n ps i).length ≤ n * 2 := by
  have := flatMap_len (linkAt_len ps i) (List.range n)
  simpa [linksFrom] using this
theorem linksL_len (n m : Nat) (ps : List LAsk) : (linksL n m ps).length ≤ m * (n * 2) := by
  have := flatMap_len (linksFrom_len n ps) (List.range m)
  simpa [linksL] using this
theorem linksL_snoc (n m : Nat) (ps : List LAsk) : linksL n (m + 1) ps = linksL n m ps ++ linksFrom n ps m := by simp [linksL, List.range_succ]
theorem linksFrom_snoc (n : Nat) (ps : List LAsk) (i : Nat) : linksFrom (n + 1) ps i = linksFrom n ps i ++ linkAt ps i n := by simp [linksFrom, List.range_succ]

theorem flatMap_filter {α β : Type} {f : α → List β} {q : α → Bool} : ∀ (l : List α), (∀ x ∈ l, q x = false → f x = []) → (l.filter q).flatMap f = l.flatMap f
  | [], _ => rfl
  | x :: l, h => by
    have ih := flatMap_filter l fun y hy => h y (List.mem_cons_of_mem _ hy)
    cases e : q x
    · rw [List.filter_cons_of_neg (by simp [e]), List.flatMap_cons, h x (List.mem_cons_self ..) e, ih]
      rfl
    · rw [List.filter_cons_of_pos e, List.flatMap_cons, List.flatMap_cons, ih]
/-- The links by the bits of what is asked. -/
theorem linksFrom_bits {n : Nat} (hn : n ≤ 24) {ps : List LAsk} (h : ∀ x ∈ ps, AskFits n x) (i : Nat) : (bitsN (askMask 0 ps i ||| askMask 1 ps i)).flatMap (linkAt ps i) = linksFrom n ps i := by
  have hno : ∀ k, ¬ has (askMask 0 ps i ||| askMask 1 ps i) k → linkAt ps i k = [] := fun k hk => by
    rw [has_or, has_mask (.inl rfl) i k ps h, has_mask (.inr rfl) i k ps h] at hk
    have h0 : asked 0 ps i k = false := by simpa using fun e => hk (.inl e)
    have h1 : asked 1 ps i k = false := by simpa using fun e => hk (.inr e)
    simp [linkAt, h0, h1]
  unfold bitsN linksFrom
  rw [flatMap_filter _ fun k _ hk => hno k (by unfold has; simp [hk])]
  obtain ⟨d, hd⟩ : ∃ d, 64 = n + d := ⟨64 - n, by omega⟩
  rw [hd, List.range_add, List.flatMap_append]
  have : ((List.range d).map (n + ·)).flatMap (linkAt ps i) = [] := by
    rw [List.flatMap_eq_nil_iff]
    intro k hk
    obtain ⟨j, _, rfl⟩ := List.mem_map.1 hk
    refine hno _ fun hb => ?_
    rw [has_or, has_mask (.inl rfl) i _ ps h, has_mask (.inr rfl) i _ ps h] at hb
    rcases hb with hb | hb
    · have := (asked_lt (.inl rfl) h hb).2; omega
    · have := (asked_lt (.inr rfl) h hb).2; omega
  rw [this, List.append_nil]

/-- The links of a checked program stay within its predicates. -/
theorem asksOf_fits {p : LProg} (h : progOk p = true) : p.1.length ≤ 24 ∧ ∀ x ∈ asksOf p.2, AskFits p.1.length x := by
  simp only [progOk, arityOk, Bool.and_eq_true, decide_eq_true_eq, List.all_eq_true] at h
  refine ⟨h.1.1, fun x hx => ?_⟩
  unfold asksOf at hx
  obtain ⟨r, hr, hx⟩ := List.mem_flatMap.1 hx
  obtain ⟨l, hl, rfl⟩ := List.mem_map.1 hx
  have hf := h.2.2 r hr
  simp only [ruleFits, atomFits, Bool.and_eq_true, decide_eq_true_eq, List.all_eq_true] at hf
  refine ⟨⟨hf.1.1.1, hf.1.1.2.1⟩, fun hk => ?_⟩
  have h2 := hf.2.2.1 l hl
  unfold litFits at h2
  rw [if_pos hk] at h2
  simp only [atomFits, Bool.and_eq_true, decide_eq_true_eq] at h2
  exact ⟨h2.1.1, h2.1.2.1⟩

/-- What the links ask of layers. -/
def fitBad (ls : List Int) (ps : List LAsk) (i k : Nat) : Bool := (decide (0 < cellV ps i k) && decide (ls.getD i 0 < ls.getD k 0)) || (decide (1 < cellV ps i k) && decide (ls.getD k 0 = ls.getD i 0))
def linkBad (ls : List Int) (l : LLink) : Bool := decide (ls.getD l.1.toNat 0 < ls.getD l.2.1.toNat 0) || (decide (ls.getD l.2.1.toNat 0 = ls.getD l.1.toNat 0) && l.2.2)
def layersFit (p : LProg) (ls : List Int) : Bool := (progOk p && decide (ls.length = p.1.length)) && (ls.all (fun x => decide (0 ≤ x)) && !(linksOf p).any (linkBad ls))
theorem linkAt_bad (ls : List Int) (ps : List LAsk) (i k : Nat) : (linkAt ps i k).any (linkBad ls) = fitBad ls ps i k := by
  unfold linkAt fitBad cellV linkBad
  cases asked 0 ps i k <;> cases asked 1 ps i k <;> simp
theorem links_bad {p : LProg} (h : progOk p = true) (ls : List Int) : (linksOf p).any (linkBad ls) = (List.range p.1.length).any fun i => (List.range p.1.length).any fun k => fitBad ls (asksOf p.2) i k := by
  unfold linksOf linksL
  rw [if_pos h, List.any_flatMap]
  congr 1
  funext i
  unfold linksFrom
  rw [List.any_flatMap]
  congr 1
  funext k
  exact linkAt_bad ls _ i k

end Go.Proofs.YtokmmloakahkhaaDoor
