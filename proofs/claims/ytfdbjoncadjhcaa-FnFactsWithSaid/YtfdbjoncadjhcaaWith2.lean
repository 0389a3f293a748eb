/-
  Texts that the claim's last one imports, laid together: part 2 of 3. No condition of its own.
-/
import Derived.OrdersHeld
import Derived.Deep.RegionHeld3
import Derived.StillTailTactics
import Derived.Deep.QuietTactic
import Derived.BigQuiet
import Derived.Deep.Quiet
import Derived.Shelf.SlSortCmp.WholeK
import Derived.Shelf.Spec.SlicesGrow
import Derived.Shelf.LaySoft
import Derived.Shelf.Lay
import Derived.Test.YtfdbjoncadjhcaaChecked
import Derived.Lib.AppendZerosOnto
import Derived.Shelf.RegionOpenPlain
import Derived.Sort.Grow
import Derived.Laws.IdiomCopy
import Derived.Test.YtfdbjoncadjhcaaWith1
/-
  Regions that draw their order and end in a store to a cell that they load: the condition on the world holds until operation t has come up, and is released then. Laws of any program.
-/
namespace Go.Proofs.Ytfdbjoncadjhcaa
open Go

section
variable {P : Program} {ops : Array Oper} {Q : Exit → Act → World → Prop} {md : Region.Mode} {S : World → Prop} {t : Nat}

/-- Whatever order is picked from here on, and S holds behind each operation that is carried out, until t has come up. -/
def wpAnyR (P : Program) (md : Region.Mode) (ops : Array Oper) (Q : Exit → Act → World → Prop) (S : World → Prop) (t : Nat) : Nat → Array Bool → Act → World → Prop
  | 0, listed, a, w => Region.ready md ops listed = [] ∧ Q .normal a w
  | fuel + 1, listed, a, w =>
    (Region.ready md ops listed = [] → Q .normal a w) ∧
    ∀ i ∈ Region.ready md ops listed, wpOp P ops Q i (fun a' w' => ((listed.setIfInBounds i true).getD t true = false → S w') ∧ wpAnyR P md ops Q S t fuel (listed.setIfInBounds i true) a' w') a w

theorem wpAny_of_rel : ∀ (fuel : Nat) (listed : Array Bool) (a : Act) (w : World), wpAnyR P md ops Q S t fuel listed a w → wpAny P md ops Q fuel listed a w
  | 0, _, _, _, h => h
  | fuel + 1, _, _, _, h => ⟨h.1, fun i hi => wpOp_mono (fun a' w' h' => wpAny_of_rel fuel _ a' w' h'.2) (h.2 i hi)⟩

/-- None of D has come up, and each waits for i or for one of D. -/
def blockedB (md : Region.Mode) (ops : Array Oper) (listed : Array Bool) (i : Nat) (D : List Nat) : Bool :=
  !D.contains i && D.all fun d => !listed.getD d true && ((ops[d]?).map fun o => o.after.any fun e => Region.binds md e && (e.on == i || D.contains e.on)).getD false

/-- None of D may come up while i has not. -/
theorem not_ready_of_blocked {listed : Array Bool} {i : Nat} {D : List Nat} (h : blockedB md ops listed i D = true) (hi : listed.getD i true = false) {d : Nat} (hd : d ∈ D) : d ∉ Region.ready md ops listed := by
  intro hr
  obtain ⟨_, o, ho, hall⟩ := mem_ready.1 hr
  simp only [blockedB, Bool.and_eq_true, List.all_eq_true] at h
  have h2 := (h.2 d hd).2
  rw [ho] at h2
  simp only [Option.map_some, Option.getD_some, Array.any_eq_true', Bool.and_eq_true, Bool.or_eq_true, beq_iff_eq] at h2
  obtain ⟨e, he, hb, hon⟩ := h2
  have hl := hall e he hb
  have un : ∀ k : Nat, listed.getD k true = false → listed.getD k false = true → False := by
    intro k h1 h2
    rcases Nat.lt_or_ge k listed.size with h' | h'
    · simp [h'] at h1 h2
      rw [h1] at h2
      cases h2
    · simp [Array.getElem?_eq_none h'] at h1
  rcases hon with e1 | e1
  · rw [e1] at hl
    exact un i hi hl
  · have h3 := (h.2 e.on (by simpa using e1)).1
    exact un _ (by simpa using h3) hl

theorem blocked_set {listed : Array Bool} {i j : Nat} {D : List Nat} (h : blockedB md ops listed i D = true) (hj : j ∉ D) : blockedB md ops (listed.setIfInBounds j true) i D = true := by
  simp only [blockedB, Bool.and_eq_true, List.all_eq_true] at h ⊢
  refine ⟨h.1, fun d hd => ?_⟩
  have := h.2 d hd
  refine ⟨?_, this.2⟩
  rw [getD_set_ne true (show j ≠ d from fun e => hj (by rw [e]; exact hd))]
  exact this.1

theorem wpAnyR_first {i : Nat} {oi : Oper} {v : Value} {D : List Nat} (hi : ops[i]? = some oi) (hsel : ∀ (j : Nat) (o : Oper) cs b, ops[j]? = some o → o.op ≠ .select cs b)
    (hQ : ∀ c a w, Q (.panic c) (a.put oi.dst v) w → Q (.panic c) a w) (ht : t ∈ D) :
    ∀ (fuel : Nat) (listed : Array Bool) (a : Act) (w : World),
      (∀ j oj, ops[j]? = some oj → j ≠ i → listed.getD j true = false → (∀ e ∈ oj.after, Region.binds md e = true → e.on ≠ i) → oi.apart ops oj = true) →
      i ∈ Region.ready md ops listed → blockedB md ops listed i D = true → YieldsIf P ops S oi v a → S w →
      wpAnyR P md ops Q S t fuel (listed.setIfInBounds i true) (a.put oi.dst v) w → wpAnyR P md ops Q S t (fuel + 1) listed a w := by
  intro fuel
  induction fuel with
  | zero =>
    intro listed a w _ hr hbl hy hS H
    refine ⟨fun h => (by rw [h] at hr; cases hr), fun j hj => ?_⟩
    by_cases hji : j = i
    · subst hji; exact hy.wpOp hi hS ⟨fun _ => hS, H⟩
    · have := ready_mono hj hji
      rw [H.1] at this
      cases this
  | succ fuel ih =>
    intro listed a w hfree hr hbl hy hS H
    refine ⟨fun h => (by rw [h] at hr; cases hr), fun j hj => ?_⟩
    by_cases hji : j = i
    · subst hji; exact hy.wpOp hi hS ⟨fun _ => hS, H⟩
    · have h1 := H.2 j (ready_mono hj hji)
      have hjD : j ∉ D := fun hd => not_ready_of_blocked hbl (mem_ready.1 hr).1 hd hj
      have hiD : i ∉ D := by
        simp only [blockedB, Bool.and_eq_true] at hbl
        simpa using hbl.1
      have htl : listed.getD t true = false := by
        simp only [blockedB, Bool.and_eq_true, List.all_eq_true] at hbl
        simpa using (hbl.2 t ht).1
      have htl2 : ((listed.setIfInBounds i true).setIfInBounds j true).getD t true = false := by
        rw [getD_set_ne true (show j ≠ t from fun e => hjD (by rw [e]; exact ht)), getD_set_ne true (show i ≠ t from fun e => hiD (by rw [e]; exact ht))]
        exact htl
      obtain ⟨hjun, oj, hoj, hall⟩ := mem_ready.1 hj
      have hnot : ∀ e ∈ oj.after, Region.binds md e = true → e.on ≠ i := fun e he hb heq => by
        have h1 := hall e he hb
        have h0 := (mem_ready.1 hr).1
        rw [heq] at h1
        rcases Nat.lt_or_ge i listed.size with h' | h'
        · simp [h'] at h0 h1; rw [h0] at h1; cases h1
        · simp [Array.getElem?_eq_none h'] at h1
      have h2 := wpOp_putIf hoj (hfree j oj hoj hji hjun hnot) (fun cs b => hsel i oi cs b hi) (fun cs b => hsel j oj cs b hoj) hQ hy h1
      have hfree' : ∀ k ok, ops[k]? = some ok → k ≠ i → (listed.setIfInBounds j true).getD k true = false →
          (∀ e ∈ ok.after, Region.binds md e = true → e.on ≠ i) → oi.apart ops ok = true := fun k ok hk hki hun hno => by
        refine hfree k ok hk hki ?_ hno
        by_cases hjk : j = k
        · subst hjk; exact hjun
        · rw [getD_set_ne true hjk] at hun; exact hun
      refine wpOp_mono (fun a' w' h3 => ⟨fun _ => h3.2.1 htl2, ih (listed.setIfInBounds j true) a' w' hfree' (ready_mono hr (Ne.symm hji)) (blocked_set hbl hjD) h3.1 (h3.2.1 htl2) ?_⟩) h2
      rw [Array.setIfInBounds_comm _ _ hji]
      exact h3.2.2

/-- What waits for i, at once or over others. -/
def descOf (md : Region.Mode) (ops : Array Oper) (i : Nat) : List Nat :=
  (List.range ops.size).foldl (fun D k => if ((ops[k]?).map fun o => o.after.any fun e => Region.binds md e && (e.on == i || D.contains e.on)).getD false then D ++ [k] else D) []
/-- All that is asked of a take, as one Bool. -/
def takeOk (md : Region.Mode) (ops : Array Oper) (listed : Array Bool) (i t : Nat) : Bool :=
  Region.noSelect ops && Region.free md ops listed i && (Region.ready md ops listed).contains i && blockedB md ops listed i (descOf md ops i) && (descOf md ops i).contains t
def pureOk (md : Region.Mode) (ops : Array Oper) (listed : Array Bool) (i : Nat) : Bool :=
  Region.noSelect ops && Region.free md ops listed i && (Region.ready md ops listed).contains i

/-- Take number i first: what it reads holds in every world that meets S, and t waits for it. -/
theorem wpAnyR_take {i d : Nat} {oi : Oper} (v : Value) {fuel : Nat} {listed : Array Bool} {a : Act} {w : World} (hi : ops[i]? = some oi) (hd : oi.dst = some d)
    (hok : takeOk md ops listed i t = true)
    (hQ : ∀ c a w, Q (.panic c) (a.put oi.dst v) w → Q (.panic c) a w) (hw : Region.wanted oi (yielded ops a.tmps) = true) (hy : ∀ w, S w → (execOp a.eval oi).run P w = .ok (.value v) w) (hS : S w)
    (h : wpAnyR P md ops Q S t fuel (listed.setIfInBounds i true) { a with tmps := a.tmps.setIfInBounds d v } w) : wpAnyR P md ops Q S t (fuel + 1) listed a w := by
  have h : wpAnyR P md ops Q S t fuel (listed.setIfInBounds i true) (a.put oi.dst v) w := by rw [hd]; exact h
  simp only [takeOk, Bool.and_eq_true] at hok
  obtain ⟨⟨⟨⟨h1, h2⟩, h3⟩, h4⟩, h5⟩ := hok
  exact wpAnyR_first hi (Region.noSelect_spec h1) hQ (by simpa using h5) fuel listed a w (Region.free_spec hi h2) (by simpa using h3) h4 (.inl ⟨hw, hy⟩) hS h

theorem wpAnyR_first0 {i : Nat} {oi : Oper} {v : Value} (hi : ops[i]? = some oi) (hsel : ∀ (j : Nat) (o : Oper) cs b, ops[j]? = some o → o.op ≠ .select cs b)
    (hQ : ∀ c a w, Q (.panic c) (a.put oi.dst v) w → Q (.panic c) a w) :
    ∀ (fuel : Nat) (listed : Array Bool) (a : Act) (w : World),
      (∀ j oj, ops[j]? = some oj → j ≠ i → listed.getD j true = false → (∀ e ∈ oj.after, Region.binds md e = true → e.on ≠ i) → oi.apart ops oj = true) →
      i ∈ Region.ready md ops listed → YieldsIf P ops (fun _ => True) oi v a → (listed.getD t true = false → S w) → t ≠ i →
      wpAnyR P md ops Q S t fuel (listed.setIfInBounds i true) (a.put oi.dst v) w → wpAnyR P md ops Q S t (fuel + 1) listed a w := by
  intro fuel
  induction fuel with
  | zero =>
    intro listed a w _ hr hy hS hti H
    refine ⟨fun h => (by rw [h] at hr; cases hr), fun j hj => ?_⟩
    by_cases hji : j = i
    · subst hji; exact hy.wpOp hi trivial ⟨fun h => hS (by rwa [getD_set_ne true (Ne.symm hti)] at h), H⟩
    · have := ready_mono hj hji
      rw [H.1] at this
      cases this
  | succ fuel ih =>
    intro listed a w hfree hr hy hS hti H
    refine ⟨fun h => (by rw [h] at hr; cases hr), fun j hj => ?_⟩
    by_cases hji : j = i
    · subst hji; exact hy.wpOp hi trivial ⟨fun h => hS (by rwa [getD_set_ne true (Ne.symm hti)] at h), H⟩
    · have h1 := H.2 j (ready_mono hj hji)
      obtain ⟨hjun, oj, hoj, hall⟩ := mem_ready.1 hj
      have hnot : ∀ e ∈ oj.after, Region.binds md e = true → e.on ≠ i := fun e he hb heq => by
        have h1 := hall e he hb
        have h0 := (mem_ready.1 hr).1
        rw [heq] at h1
        rcases Nat.lt_or_ge i listed.size with h' | h'
        · simp [h'] at h0 h1; rw [h0] at h1; cases h1
        · simp [Array.getElem?_eq_none h'] at h1
      have h2 := wpOp_putIf hoj (hfree j oj hoj hji hjun hnot) (fun cs b => hsel i oi cs b hi) (fun cs b => hsel j oj cs b hoj) hQ hy h1
      have hfree' : ∀ k ok, ops[k]? = some ok → k ≠ i → (listed.setIfInBounds j true).getD k true = false →
          (∀ e ∈ ok.after, Region.binds md e = true → e.on ≠ i) → oi.apart ops ok = true := fun k ok hk hki hun hno => by
        refine hfree k ok hk hki ?_ hno
        by_cases hjk : j = k
        · subst hjk; exact hjun
        · rw [getD_set_ne true hjk] at hun; exact hun
      have hback : ∀ {W : World}, (((listed.setIfInBounds i true).setIfInBounds j true).getD t true = false → S W) → ((listed.setIfInBounds j true).getD t true = false → S W) := fun h hl => h (by
        rw [Array.setIfInBounds_comm _ _ (Ne.symm hji), getD_set_ne true (Ne.symm hti)]
        exact hl)
      refine wpOp_mono (fun a' w' h3 => ⟨hback h3.2.1, ih (listed.setIfInBounds j true) a' w' hfree' (ready_mono hr (Ne.symm hji)) h3.1 (hback h3.2.1) hti ?_⟩) h2
      rw [Array.setIfInBounds_comm _ _ hji]
      exact h3.2.2
/-- Take number i first: it yields its value in whatever world. -/
theorem wpAnyR_pure {i d : Nat} {oi : Oper} (v : Value) {fuel : Nat} {listed : Array Bool} {a : Act} {w : World} (hi : ops[i]? = some oi) (hd : oi.dst = some d)
    (hok : pureOk md ops listed i = true) (hti : t ≠ i)
    (hQ : ∀ c a w, Q (.panic c) (a.put oi.dst v) w → Q (.panic c) a w) (hw : Region.wanted oi (yielded ops a.tmps) = true) (hy : ∀ w, (execOp a.eval oi).run P w = .ok (.value v) w) (hS : listed.getD t true = false → S w)
    (h : wpAnyR P md ops Q S t fuel (listed.setIfInBounds i true) { a with tmps := a.tmps.setIfInBounds d v } w) : wpAnyR P md ops Q S t (fuel + 1) listed a w := by
  have h : wpAnyR P md ops Q S t fuel (listed.setIfInBounds i true) (a.put oi.dst v) w := by rw [hd]; exact h
  simp only [pureOk, Bool.and_eq_true] at hok
  obtain ⟨⟨h1, h2⟩, h3⟩ := hok
  exact wpAnyR_first0 hi (Region.noSelect_spec h1) hQ fuel listed a w (Region.free_spec hi h2) (by simpa using h3) (.inl ⟨hw, fun w _ => hy w⟩) hS hti h

/-- The one that may come up. -/
theorem wpAnyR_one {i : Nat} {o : Oper} {fuel : Nat} {listed : Array Bool} {a : Act} {w : World} (hr : Region.ready md ops listed = [i]) (ho : ops[i]? = some o)
    (h : ∀ K' : Act → World → Prop, Shut (∀ a w, ((listed.setIfInBounds i true).getD t true = false → S w) → wpAnyR P md ops Q S t fuel (listed.setIfInBounds i true) a w → K' a w) → if Region.wanted o (yielded ops a.tmps) = true then Oper.wp P o a w K' Q else K' (a.put o.dst undef) w) :
    wpAnyR P md ops Q S t (fuel + 1) listed a w := by
  refine ⟨fun h0 => (by rw [hr] at h0; cases h0), fun j hj => ?_⟩
  rw [hr] at hj
  obtain rfl : j = i := by simpa using hj
  exact wpOp_step ho (fun K' hK => h K' (fun a w hS hW => hK a w ⟨hS, hW⟩))

theorem wpAnyR_done {fuel : Nat} {listed : Array Bool} {a : Act} {w : World} (hr : Region.ready md ops listed = []) (h : Q .normal a w) : wpAnyR P md ops Q S t fuel listed a w := by
  cases fuel with
  | zero => exact ⟨hr, h⟩
  | succ fuel => exact ⟨fun _ => h, fun j hj => (by rw [hr] at hj; cases hj)⟩

theorem wp_region_rel (S : World → Prop) (t n : Nat) {id : Nat} {a : Act} {w : World} (hm : P.follows .mixedOrders = true) (hn : ops.size = n)
    (h : wpAnyR P .any ops Q S t n (Array.replicate n false) a w.drew) : (Code.region id ops true).wp P Q a w :=
  wp_region_any hm (wpAny_of_rel _ _ _ _ (hn ▸ h))

end
end Go.Proofs.Ytfdbjoncadjhcaa
/-
  A fact drawn.
-/
namespace Go.Proofs.Ytfdbjoncadjhcaa
open Go.RowKit

/-- What l1Fact keeps: r is the result's block, r + 1 the fact's. -/
structure FaRel (w wr : World) (g : Nat) (bs : List Nat) (p : Nat) (A : Option Addr) (c : Nat) (f : LFact) : Prop where
  res : Blk wr w.heap.size 26 #[.int .i64 0, .slice none 0 0]
  fact : Blk wr (w.heap.size + 1) 26 #[.int .i64 f.1, .slice A f.2.length c]
  own : wr.ownsRow (w.heap.size + 2) 3 1 (.slice A f.2.length c) f.2.length (f.2.map (Value.int .i64))
  rdr : Rdr wr g bs p
  only : Only g (g + 1) w wr

theorem FaRel.start {w : World} {g : Nat} {bs : List Nat} {p : Nat} (h : Rdr w g bs p) :
    FaRel w ((w.alloc (Obj.cells #[Value.int IntKind.i64 0, Value.slice none 0 0] 26)).alloc (Obj.cells #[Value.int IntKind.i64 0, Value.slice none 0 0] 26)) g bs p none 0 (0, []) :=
  ⟨(Blk.new w _ _).alloc _, by simpa using Blk.new (w.alloc (Obj.cells #[Value.int IntKind.i64 0, Value.slice none 0 0] 26)) 26 #[.int .i64 0, .slice none 0 0], World.ownsRow_nil _ _ _ _, h.below (below2 w _ _) h.lt, Only.of_below (below2 w _ _)⟩

/-- A pick keeps the rest. -/
theorem FaRel.pick {w wr w' : World} {g : Nat} {bs : List Nat} {p : Nat} {A : Option Addr} {c : Nat} {f : LFact} (h : FaRel w wr g bs p A c f) (hg : g < w.heap.size) (hk : Picked wr w' g bs p) : FaRel w w' g bs (p + 1) A c f :=
  ⟨h.res.only hk.2 (by omega), h.fact.only hk.2 (by omega), ownsRow_only h.own (fun b hb => hk.2.block b (h.own.lt b hb).2 (by have := (h.own.lt b hb).1; omega)), hk.1, h.only.trans hk.2⟩

/-- The predicate stored. -/
theorem FaRel.pred {w wr : World} {g : Nat} {bs : List Nat} {p : Nat} {A : Option Addr} {c : Nat} {f : LFact} (h : FaRel w wr g bs p A c f) (hg : g < w.heap.size) (x : Int) : FaRel w (wr.setCell ⟨w.heap.size + 1, 0, none⟩ (.int .i64 x)) g bs p A c (x, f.2) :=
  ⟨h.res.far (by show w.heap.size ≠ w.heap.size + 1; omega) _, h.fact.set_ 0 _, ownsRow_only h.own (fun b hb => Below.heap_setCell _ _ _ _ (by have := (h.own.lt b hb).1; show b ≠ w.heap.size + 1; omega)),
    h.rdr.same fun k hk => Below.heap_setCell _ _ _ _ (by show k ≠ w.heap.size + 1; omega),
    ⟨h.only.os, h.only.tape, h.only.output, by simpa using h.only.size, fun k hk hn => (Below.heap_setCell _ _ _ _ (by show k ≠ w.heap.size + 1; omega)).trans (h.only.block k hk hn)⟩⟩

/-- A new block keeps all. -/
theorem FaRel.alloc {w wr : World} {g : Nat} {bs : List Nat} {p : Nat} {A : Option Addr} {c : Nat} {f : LFact} (h : FaRel w wr g bs p A c f) (o : Obj) : FaRel w (wr.alloc o) g bs p A c f :=
  ⟨h.res.alloc o, h.fact.alloc o, h.own.alloc o, h.rdr.below (below1 wr o) h.rdr.lt, h.only.trans (Only.of_below (below1 wr o))⟩
theorem FaRel.drewN {w wr : World} {g : Nat} {bs : List Nat} {p : Nat} {A : Option Addr} {c : Nat} {f : LFact} (h : FaRel w wr g bs p A c f) (n : Nat) : FaRel w (wr.drewN n) g bs p A c f :=
  ⟨h.res, h.fact, h.own, h.rdr, ⟨h.only.os, h.only.tape, h.only.output, h.only.size, h.only.block⟩⟩

theorem FaRel.drew {w wr : World} {g : Nat} {bs : List Nat} {p : Nat} {A : Option Addr} {c : Nat} {f : LFact} (h : FaRel w wr g bs p A c f) : FaRel w wr.drew g bs p A c f :=
  ⟨h.res, h.fact, h.own, h.rdr, ⟨h.only.os, h.only.tape, h.only.output, h.only.size, h.only.block⟩⟩

theorem FaRel.push {w wr w4 : World} {g : Nat} {bs : List Nat} {p : Nat} {A : Option Addr} {c : Nat} {P : Int} {xs : List Int} (h : FaRel w wr g bs p A c (P, xs)) (hg : g < w.heap.size)
    (hgr : wr.grownBy w4 (Value.slice A xs.length c).ownBlock) {g2 cap : Nat} {x : Int} (hown : w4.ownsRow (w.heap.size + 2) 3 1 (.slice (some ⟨g2, 0, none⟩) (xs.length + 1) cap) (xs.length + 1) (xs.map (Value.int .i64) ++ [.int .i64 x])) :
    FaRel w (w4.setCell ⟨w.heap.size + 1, 1, none⟩ (.slice (some ⟨g2, 0, none⟩) (xs.length + 1) cap)) g bs p (some ⟨g2, 0, none⟩) cap (P, xs ++ [x]) := by
  have hs := h.fact.lt
  have hlow : ∀ b, b < w.heap.size + 2 → w4.heap[b]? = wr.heap[b]? := fun b hb => hgr.block b (by omega) (fun e => by have := (h.own.lt b e.symm).1; omega)
  have hlow2 : ∀ b, b < w.heap.size + 1 → (w4.setCell ⟨w.heap.size + 1, 1, none⟩ (.slice (some ⟨g2, 0, none⟩) (xs.length + 1) cap)).heap[b]? = wr.heap[b]? := fun b hb =>
    (Below.heap_setCell _ _ _ _ (by show b ≠ w.heap.size + 1; omega)).trans (hlow b (by omega))
  refine ⟨(hlow2 _ (by omega)).trans h.res, ?_, ?_, h.rdr.same fun k hk => hlow2 k (by omega), ⟨hgr.os.trans h.only.os, hgr.tape.trans h.only.tape, hgr.output.trans h.only.output, Nat.le_trans h.only.size (Nat.le_trans hgr.size (by simp)), fun k hk hn => (hlow2 k (by omega)).trans (h.only.block k hk hn)⟩⟩
  · have := (show Blk w4 (w.heap.size + 1) 26 _ from (hlow _ (by omega)).trans h.fact).set_ 1 (.slice (some ⟨g2, 0, none⟩) (xs.length + 1) cap)
    simpa using this
  · simpa using ownsRow_only hown (fun b hb => Below.heap_setCell _ _ _ _ (by have := (hown.lt b hb).1; show b ≠ w.heap.size + 1; omega))

theorem FaRel.keepFact {w wr w4 : World} {g : Nat} {bs : List Nat} {p : Nat} {A : Option Addr} {c : Nat} {f : LFact} (h : FaRel w wr g bs p A c f) (hgr : wr.grownBy w4 (Value.slice A f.2.length c).ownBlock) : Blk w4 (w.heap.size + 1) 26 #[.int .i64 f.1, .slice A f.2.length c] :=
  (hgr.block _ h.fact.lt (fun e => by have := (h.own.lt _ e.symm).1; omega)).trans h.fact

theorem num3_any (g : Nat) (bs : List Nat) (p b : Nat) (x y z : Int) (w : World) (h : Rdr w g bs p) (hp : p ≤ 1073741824) (hb : Blk w b 3 #[.int .i64 x, .int .i64 y, .int .i64 z]) (hne : b ≠ g) :
    Calls Try.prog 60 #[.pointer (some ⟨g, 0, none⟩), .slice (some ⟨b, 0, none⟩) 3 3] w fun e w' => (∃ x, e = .returned (.int .i64 x)) ∧ Picked w w' g bs p :=
  (num_any g bs p b _ [x, y, z] 3 w h hp hb rfl hne rfl (by simp) (by simp)).mono fun _ _ ⟨⟨u, he, _⟩, hk⟩ => ⟨⟨u, he⟩, hk⟩

theorem FaRel.pick_calls {w W : World} {g : Nat} {bs : List Nat} {q : Nat} {A : Option Addr} {c : Nat} {f : LFact} (h : FaRel w W g bs q A c f) (hg : g < w.heap.size) (hq : q ≤ 1073741824) (n : Int) (hn : n ≤ 1073741824) :
    Calls Try.prog 47 #[.pointer (some ⟨g, 0, none⟩), .int .i64 n] W fun e w' => ∃ v, e = .returned v ∧ (∃ x, v = .int .i64 x) ∧ FaRel w w' g bs (q + 1) A c f :=
  (pick_any g bs q n W h.rdr hq hn).mono fun _ _ ⟨⟨x, he, _⟩, hk⟩ => ⟨_, he, ⟨x, rfl⟩, h.pick hg hk⟩
theorem FaRel.num_calls {w W : World} {g : Nat} {bs : List Nat} {q : Nat} {A : Option Addr} {c : Nat} {f : LFact} (h : FaRel w W g bs q A c f) (hg : g < w.heap.size) (hq : q ≤ 1073741824) (x y z : Int) :
    Calls Try.prog 60 #[.pointer (some ⟨g, 0, none⟩), .slice (some ⟨W.heap.size, 0, none⟩) 3 3] (W.alloc (.cells #[.int .i64 x, .int .i64 y, .int .i64 z] 3)) fun e w' => ∃ v, e = .returned v ∧ (∃ x, v = .int .i64 x) ∧ FaRel w w' g bs (q + 1) A c f :=
  (num3_any g bs q W.heap.size x y z _ (h.alloc _).rdr hq (Blk.new _ _ _) (Nat.ne_of_gt h.rdr.lt)).mono fun _ _ ⟨⟨u, he⟩, hk⟩ => ⟨_, he, ⟨u, rfl⟩, (h.alloc _).pick hg hk⟩

/-- A round is done. -/
def FaStep (w wx : World) (g : Nat) (bs : List Nat) (p : Nat) (P : Int) (k : Nat) : Prop := ∃ (A : Option Addr) (c : Nat) (xs : List Int) (q : Nat), xs.length = k + 1 ∧ q ≤ p + 1 + 4 * (k + 1) ∧ FaRel w wx g bs q A c (P, xs)

/-- Some fact stands, of at most m arguments. -/
def FaNow (w wx : World) (g : Nat) (bs : List Nat) (p m q0 : Nat) : Prop := ∃ (A : Option Addr) (c : Nat) (f : LFact) (q : Nat), f.2.length ≤ m ∧ q ≤ p + q0 ∧ FaRel w wx g bs q A c f

/-- A row of one or more begins at its block. -/
theorem FaRel.form {w W : World} {g : Nat} {bs : List Nat} {q : Nat} {A : Option Addr} {c : Nat} {f : LFact} (h : FaRel w W g bs q A c f) (hn : 0 < f.2.length) : ∃ g2, A = some ⟨g2, 0, none⟩ := by
  obtain ⟨g2, cap, e, _⟩ := h.own.form hn
  injection e with e1 _ _
  exact ⟨g2, e1⟩
theorem FaRel.head {w W : World} {g : Nat} {bs : List Nat} {q g2 c : Nat} {f : LFact} (h : FaRel w W g bs q (some ⟨g2, 0, none⟩) c f) (hn : 0 < f.2.length) : W.cell? ⟨g2, 0, none⟩ = some (.int .i64 (f.2[0]'hn)) ∧ W.frozen? ⟨g2, 0, none⟩ = false := by
  refine ⟨?_, h.own.frozenAt 0⟩
  rw [h.own.cellAt 0 (by omega)]
  simp [hn]
/-- The first place is set anew. -/
theorem FaRel.first {w W : World} {g : Nat} {bs : List Nat} {q g2 c : Nat} {f : LFact} (h : FaRel w W g bs q (some ⟨g2, 0, none⟩) c f) (hg : g < w.heap.size) (x : Int) :
    FaRel w (W.setCell ⟨g2, 0, none⟩ (.int .i64 x)) g bs q (some ⟨g2, 0, none⟩) c (f.1, f.2.set 0 x) := by
  have hb := (h.own.lt g2 rfl).1
  have hs := h.own.stored 0 (.int .i64 x)
  refine ⟨h.res.far (by show w.heap.size ≠ g2; omega) _, ?_, ?_, h.rdr.same fun k hk => Below.heap_setCell _ _ _ _ (by show k ≠ g2; omega),
    ⟨h.only.os, h.only.tape, h.only.output, by simpa using h.only.size, fun k hk hn => (Below.heap_setCell _ _ _ _ (by show k ≠ g2; omega)).trans (h.only.block k hk hn)⟩⟩
  · simpa using h.fact.far (p := ⟨g2, 0, none⟩) (by show w.heap.size + 1 ≠ g2; omega) (.int .i64 x)
  · have := hs.1
    rw [← List.map_set] at this
    simpa using this
/-- The result is laid. -/
theorem FaRel.done {w W : World} {g : Nat} {bs : List Nat} {q : Nat} {A : Option Addr} {c : Nat} {f : LFact} (h : FaRel w W g bs q A c f) (hg : g < w.heap.size) :
    ((W.setCell ⟨w.heap.size, 0, none⟩ (.int .i64 f.1)).setCell ⟨w.heap.size, 1, none⟩ (.slice A f.2.length c)).ownsRow (w.heap.size + 2) 3 1 (.slice A f.2.length c) f.2.length (f.2.map (Value.int .i64)) ∧
    Rdr ((W.setCell ⟨w.heap.size, 0, none⟩ (.int .i64 f.1)).setCell ⟨w.heap.size, 1, none⟩ (.slice A f.2.length c)) g bs q ∧
    Only g (g + 1) w ((W.setCell ⟨w.heap.size, 0, none⟩ (.int .i64 f.1)).setCell ⟨w.heap.size, 1, none⟩ (.slice A f.2.length c)) ∧
    Blk ((W.setCell ⟨w.heap.size, 0, none⟩ (.int .i64 f.1)).setCell ⟨w.heap.size, 1, none⟩ (.slice A f.2.length c)) w.heap.size 26 #[.int .i64 f.1, .slice A f.2.length c] := by
  have hb : ∀ k, k ≠ w.heap.size → ((W.setCell ⟨w.heap.size, 0, none⟩ (.int .i64 f.1)).setCell ⟨w.heap.size, 1, none⟩ (.slice A f.2.length c)).heap[k]? = W.heap[k]? := fun k hk =>
    (Below.heap_setCell _ _ _ _ (by show k ≠ w.heap.size; exact hk)).trans (Below.heap_setCell _ _ _ _ (by show k ≠ w.heap.size; exact hk))
  refine ⟨ownsRow_only h.own (fun b hb' => hb b (by have := (h.own.lt b hb').1; omega)), h.rdr.same fun k hk => hb k (by omega), ⟨h.only.os, h.only.tape, h.only.output, by simpa using h.only.size, fun k hk hn => (hb k (by omega)).trans (h.only.block k hk hn)⟩, ?_⟩
  have := (h.res.set_ 0 (.int .i64 f.1)).set_ 1 (.slice A f.2.length c)
  simpa using this

set_option maxHeartbeats 8000000 in
set_option maxRecDepth 100000 in
theorem l1Fact_any (g : Nat) (bs : List Nat) (p : Nat) (v : Value) (ar : List Int) (w : World) (h : Rdr w g bs p) (hp : p ≤ 1048576) (ha : RdInts w w.heap.size v ar) (hv : ∀ w', Only g (g + 1) w w' → RdInts w' w'.heap.size v ar) (hr : ∀ x ∈ ar, 0 ≤ x ∧ x ≤ 2) (hl : ar.length ≤ 1048576) :
    Calls Try.prog 48 #[.pointer (some ⟨g, 0, none⟩), v] w fun e w' => ∃ (A : Option Addr) (c : Nat) (f : LFact) (q : Nat), e = .returned (.agg #[.int .i64 f.1, .slice A f.2.length c]) ∧ f.2.length ≤ 3 ∧ q ≤ p + 20 ∧
      w'.ownsRow (w.heap.size + 2) 3 1 (.slice A f.2.length c) f.2.length (f.2.map (Value.int .i64)) ∧ Rdr w' g bs q ∧ Only g (g + 1) w w' := by
  obtain ⟨i0, hi0, hz0, hz1, hz2⟩ := info_parts Try.infoInt
  have H := Lib.hid h
  have hgl := h.lt
  have HV := Lib.hid hv
  have HS := Lib.hid (FaRel.start h)
  obtain ⟨A0, c0, rfl, hc, hx⟩ := ha
  clear h hv hx
  go_enter Try.func48, Try.ntmps48
  go_upto_if 11 with (fail)
  go_cut [] (fun wx => FaNow w wx g bs p 2 9)
  case first =>
    by_cases h0 : 0 < ar.length
    · have hd : decide ((0 : Int) < ar.length) = true := by simpa using h0
      go_wp2_with (fail)
      refine (pick_any g bs p _ _ HS.out.rdr (by omega) (by omega)).mono ?_
      rintro e w1 ⟨⟨x, rfl, hx1⟩, hpk⟩
      obtain ⟨j, rfl⟩ : ∃ j : Nat, x = (j : Int) := ⟨x.toNat, by have := hx1.1 (by omega); omega⟩
      have hj : j < ar.length := by have := hx1.1 (by omega); omega
      have hf := HS.out.pick hgl hpk
      have HF := Lib.hid (hf.pred hgl (j : Int))
      have k0 : w1.cell? ⟨w.heap.size + 1, 0, none⟩ = some (.int .i64 0) := hf.fact.cell 0
      have k1 : w1.frozen? ⟨w.heap.size + 1, 0, none⟩ = false := hf.fact.frozen 0
      clear hf hpk hx1
      have hjr := hr _ (List.getElem_mem hj)
      obtain ⟨m, hm⟩ : ∃ m : Nat, ar[j] = (m : Int) := ⟨ar[j].toNat, by omega⟩
      have hm2 : m ≤ 2 := by omega
      clear hjr
      go_wp2_with (fail)
      go_loopw [6] (fun i wr => ∃ (k : Nat) (A : Option Addr) (c : Nat) (xs : List Int) (q : Nat), k ≤ m ∧ i = .int .i64 k ∧ xs.length = k ∧ q ≤ p + 1 + 4 * k ∧ FaRel w wr g bs q A c ((j : Int), xs)) (fun i _ => m - (intOf i).toNat)
      case atStart => exact ⟨0, none, 0, [], p + 1, Nat.zero_le _, rfl, rfl, by omega, HF.out⟩
      case round =>
        obtain ⟨k, A, c, xs, q, hk, rfl, hxl, hq, hfr⟩ := hrel
        have k2 : wr.cell? ⟨w.heap.size + 1, 0, none⟩ = some (.int .i64 (j : Int)) := hfr.fact.cell 0
        obtain ⟨A', c', e0, hc', hcell⟩ := HV.out wr hfr.only
        injection e0 with e1 _ e2
        subst e1
        subst e2
        obtain ⟨b, o, rfl, hbB, hx⟩ := hcell (by omega)
        have k3 : wr.cell? ⟨b, o + j, none⟩ = some (.int .i64 (m : Int)) := by rw [hx j hj, hm]
        have HR := Lib.hid hfr
        clear hcell hx hfr
        subst hxl
        by_cases hlt : xs.length < m
        · go_upto_region 7 with (fail)
          obtain ⟨SS, hSS⟩ : ∃ SS : World → Prop, SS = (fun W => W.cell? ⟨w.heap.size + 1, 1, none⟩ = some (.slice A xs.length c)) := ⟨_, rfl⟩
          have HS1 := Lib.hid (show ∀ W, W.cell? ⟨w.heap.size + 1, 1, none⟩ = some (.slice A xs.length c) → SS W from by rw [hSS]; exact fun _ h => h)
          have HS2 := Lib.hid (show ∀ W, SS W → W.cell? ⟨w.heap.size + 1, 1, none⟩ = some (.slice A xs.length c) from by rw [hSS]; exact fun _ h => h)
          clear hSS
          have F0 := Lib.hid HR.out.drew
          have S0 := Lib.hid (HS1.out _ (F0.out.fact.cell 1))
          refine wp_region_rel SS 14 15 (by kernel_rfl) rfl ?_
          refine wpAnyR_pure (i := 0) (oi := _) ?v0 rfl rfl (by kernel_rfl) (by decide) (fun _ _ _ h => h) rfl ?hy0 (fun _ => S0.out) ?rest0
          case hy0 => (intro W; go_simp; (try with_reducible rfl))
          simp only [List.setIfInBounds_toArray, List.set_cons_zero, List.set_cons_succ]
          refine wpAnyR_take (i := 1) (oi := _) ?v1 rfl rfl (by kernel_rfl) (fun _ _ _ h => h) rfl ?hy1 S0.out ?rest1
          case hy1 => (intro W hW; have e1 := HS2.out W hW; go_simp; (try with_reducible rfl))
          simp only [List.setIfInBounds_toArray, List.set_cons_zero, List.set_cons_succ]
          refine wpAnyR_pure (i := 2) (oi := _) ?v2 rfl rfl (by kernel_rfl) (by decide) (fun _ _ _ h => h) rfl ?hy2 (fun _ => S0.out) ?rest2
          case hy2 => (intro W; go_simp; (try with_reducible rfl))
          simp only [List.setIfInBounds_toArray, List.set_cons_zero, List.set_cons_succ]
          refine wpAnyR_pure (i := 3) (oi := _) ?v3 rfl rfl (by kernel_rfl) (by decide) (fun _ _ _ h => h) rfl ?hy3 (fun _ => S0.out) ?rest3
          case hy3 => (intro W; go_simp; (try with_reducible rfl))
          simp only [List.setIfInBounds_toArray, List.set_cons_zero, List.set_cons_succ]
          refine wpAnyR_pure (i := 5) (oi := _) ?v5 rfl rfl (by kernel_rfl) (by decide) (fun _ _ _ h => h) rfl ?hy5 (fun _ => S0.out) ?rest5
          case hy5 => (intro W; go_simp; (try with_reducible rfl))
          simp only [List.setIfInBounds_toArray, List.set_cons_zero, List.set_cons_succ]
          refine wpAnyR_pure (i := 7) (oi := _) ?v7 rfl rfl (by kernel_rfl) (by decide) (fun _ _ _ h => h) rfl ?hy7 (fun _ => S0.out) ?rest7
          case hy7 => (intro W; go_simp; (try with_reducible rfl))
          simp only [List.setIfInBounds_toArray, List.set_cons_zero, List.set_cons_succ]
          refine wpAnyR_one (i := 4) (by kernel_rfl) rfl (fun K hK => ?_)
          go_simp
          refine (FaRel.pick_calls F0.out hgl (by omega) 3 (by omega)).mono ?_
          rintro e w4 ⟨v4, rfl, ⟨x4, rfl⟩, hf4⟩
          have F4 := Lib.hid hf4
          have S4 := Lib.hid (HS1.out _ (hf4.fact.cell 1))
          clear hf4
          refine hK.out _ _ (fun _ => S4.out) ?_
          clear hK K
          try simp only [List.setIfInBounds_toArray, List.set_cons_zero, List.set_cons_succ, Act.put]
          refine wpAnyR_one (i := 6) (by kernel_rfl) rfl (fun K hK => ?_)
          go_simp
          refine (FaRel.pick_calls F4.out hgl (by omega) 3 (by omega)).mono ?_
          rintro e w6 ⟨v6, rfl, ⟨x6, rfl⟩, hf6⟩
          have F6 := Lib.hid hf6
          have S6 := Lib.hid (HS1.out _ (hf6.fact.cell 1))
          clear hf6
          refine hK.out _ _ (fun _ => S6.out) ?_
          clear hK K
          try simp only [List.setIfInBounds_toArray, List.set_cons_zero, List.set_cons_succ, Act.put]
          refine wpAnyR_one (i := 8) (by kernel_rfl) rfl (fun K hK => ?_)
          go_simp
          refine (FaRel.pick_calls F6.out hgl (by omega) 6 (by omega)).mono ?_
          rintro e w8 ⟨v8, rfl, ⟨x8, rfl⟩, hf8⟩
          have F8 := Lib.hid hf8
          have S8 := Lib.hid (HS1.out _ ((hf8.alloc (.cells #[.int .i64 x4, .int .i64 x6, .int .i64 x8] 3)).fact.cell 1))
          clear hf8
          refine hK.out _ _ (fun _ => HS1.out _ (F8.out.fact.cell 1)) ?_
          clear hK K
          try simp only [List.setIfInBounds_toArray, List.set_cons_zero, List.set_cons_succ, Act.put]
          refine wpAnyR_one (i := 9) (by kernel_rfl) rfl (fun K hK => ?_)
          go_simp
          refine hK.out _ _ (fun _ => S8.out) ?_
          clear hK K
          try simp only [List.setIfInBounds_toArray, List.set_cons_zero, List.set_cons_succ, Act.put]
          refine wpAnyR_one (i := 10) (by kernel_rfl) rfl (fun K hK => ?_)
          go_simp
          refine (FaRel.num_calls F8.out hgl (by omega) x4 x6 x8).mono ?_
          rintro e w9 ⟨v9, rfl, ⟨x9, rfl⟩, hf9⟩
          have F9 := Lib.hid hf9
          clear hf9
          refine hK.out _ _ (fun _ => HS1.out _ (F9.out.fact.cell 1)) ?_
          clear hK K
          try simp only [List.setIfInBounds_toArray, List.set_cons_zero, List.set_cons_succ, Act.put]
          refine wpAnyR_one (i := 11) (by kernel_rfl) rfl (fun K hK => ?_)
          go_simp
          refine hK.out _ _ (fun _ => HS1.out _ ((F9.out.alloc _).fact.cell 1)) ?_
          clear hK K
          try simp only [List.setIfInBounds_toArray, List.set_cons_zero, List.set_cons_succ, Act.put]
          refine wpAnyR_one (i := 12) (by kernel_rfl) rfl (fun K hK => ?_)
          refine step_append_lies _ rfl (.tmp 27) (.tmp 37) 23 rfl (w.heap.size + 2) 3 i0 (.int .i64 0) 1 8 Try.underlying23 hi0 hz0 hz1 hz2 rfl (by decide) (.slice A xs.length c) xs.length (xs.map (Value.int .i64)) rfl ?c1 ⟨w9.heap.size, 0, none⟩ 1 1 [.int .i64 x9] rfl rfl ?c4 ?c2 (by omega) (by unfold maxLen; omega) (by omega) ?c3 _ rfl ?c5
          case c1 => exact (F9.out.alloc _).own
          case c4 => exact cell_one_new _ _ _
          case c2 => intro u hu; simp at hu; subst hu; rfl
          case c3 => exact (F9.out.alloc _).fact.lt
          case c5 =>
            intro g2 cap w5 hown hgr _ _
            have HST := Lib.hid (FaRel.push (F9.out.alloc _) hgl hgr hown)
            have hkf := FaRel.keepFact (F9.out.alloc _) hgr
            have e1 : w5.cell? ⟨w.heap.size + 1, 1, none⟩ = some (.slice A xs.length c) := hkf.cell 1
            have e2 := hkf.frozen 1
            clear hkf hown hgr
            refine hK.out _ _ (fun _ => HS1.out _ e1) ?_
            clear hK K
            try simp only [List.setIfInBounds_toArray, Act.put]
            refine wpAnyR_pure (i := 13) (oi := _) ?v13 rfl rfl (by kernel_rfl) (by decide) (fun _ _ _ h => h) rfl ?hy13 (fun _ => HS1.out _ e1) ?rest13
            case hy13 => (intro W; go_simp; (try with_reducible rfl))
            try simp only [List.setIfInBounds_toArray, List.set_cons_zero, List.set_cons_succ]
            refine wpAnyR_one (i := 14) (by kernel_rfl) rfl (fun K hK => ?_)
            go_simp
            refine hK.out _ _ (fun hf => absurd hf (by decide)) ?_
            clear hK K
            refine wpAnyR_done (by kernel_rfl) ?_
            go_wp2_with (fail)
            go_roundw
            case rel => exact ⟨xs.length + 1, _, _, _, _, by omega, by go_num, by simp, by omega, HST.out⟩
            case measure => simp [intOf]; omega
        · have hkn : xs.length = m := by omega
          have hdk : decide ((xs.length : Int) < (m : Int)) = false := by simp; omega
          go_wp2_with (fail)
          go_meet
          exact ⟨A, c, ((j : Int), xs), q, by show xs.length ≤ 2; omega, by omega, HR.out⟩
    · have hd : decide ((0 : Int) < ar.length) = false := by simpa using h0
      go_wp2_with (fail)
      go_meet
      exact ⟨none, 0, (0, []), p, by simp, by omega, HS.out⟩
  case rest =>
    obtain ⟨A, c, f, q, hfl, hq, hf⟩ := hcut
    have F0' := Lib.hid hf
    clear hf HS HV
    go_wp2_with (fail)
    refine (FaRel.pick_calls F0'.out hgl (by omega) 40 (by omega)).mono ?_
    rintro e w1 ⟨v1, rfl, ⟨x1, rfl⟩, hf1⟩
    have F1 := Lib.hid hf1
    clear hf1
    go_upto_if 42 with (fail)
    go_cut [] (fun wx => FaNow w wx g bs p 3 20)
    case first =>
      by_cases h1 : x1 = 0
      · subst h1
        go_wp2_with (fail)
        refine (FaRel.pick_calls F1.out hgl (by omega) 3 (by omega)).mono ?_
        rintro e w2 ⟨v2, rfl, ⟨x2, rfl⟩, hf2⟩
        have F2 := Lib.hid hf2
        clear hf2
        by_cases h2 : x2 = 0
        · subst h2
          go_wp2_with (fail)
          refine (FaRel.num_calls F2.out hgl (by omega) (-1) (ar.length : Int) 30).mono ?_
          rintro e w3 ⟨v3, rfl, ⟨x3, rfl⟩, hf3⟩
          have HF := Lib.hid (hf3.pred hgl x3)
          have k0 : w3.cell? ⟨w.heap.size + 1, 0, none⟩ = some (.int .i64 f.1) := hf3.fact.cell 0
          have k1 : w3.frozen? ⟨w.heap.size + 1, 0, none⟩ = false := hf3.fact.frozen 0
          clear hf3
          go_wp2_with (fail)
          go_meet
          exact ⟨A, c, (x3, f.2), _, by show f.2.length ≤ 3; omega, by omega, HF.out⟩
        · have hd2 : (x2 == 0) = false := by simpa using h2
          by_cases h3 : x2 = 1
          · subst h3
            go_upto_region 13 with (fail)
            obtain ⟨SS, hSS⟩ : ∃ SS : World → Prop, SS = (fun W => W.cell? ⟨w.heap.size + 1, 1, none⟩ = some (.slice A f.2.length c)) := ⟨_, rfl⟩
            have HS1 := Lib.hid (show ∀ W, W.cell? ⟨w.heap.size + 1, 1, none⟩ = some (.slice A f.2.length c) → SS W from by rw [hSS]; exact fun _ h => h)
            have HS2 := Lib.hid (show ∀ W, SS W → W.cell? ⟨w.heap.size + 1, 1, none⟩ = some (.slice A f.2.length c) from by rw [hSS]; exact fun _ h => h)
            clear hSS
            have F0 := Lib.hid F2.out.drew
            have S0 := Lib.hid (HS1.out _ (F0.out.fact.cell 1))
            refine wp_region_rel SS 8 9 (by kernel_rfl) rfl ?_
            refine wpAnyR_pure (i := 0) (oi := _) ?v0b rfl rfl (by kernel_rfl) (by decide) (fun _ _ _ h => h) rfl ?hy0b (fun _ => S0.out) ?rest0b
            case hy0b => (intro W; go_simp; (try with_reducible rfl))
            try simp only [List.setIfInBounds_toArray, List.set_cons_zero, List.set_cons_succ]
            refine wpAnyR_take (i := 1) (oi := _) ?v1b rfl rfl (by kernel_rfl) (fun _ _ _ h => h) rfl ?hy1b S0.out ?rest1b
            case hy1b => (intro W hW; have e1 := HS2.out W hW; go_simp; (try with_reducible rfl))
            try simp only [List.setIfInBounds_toArray, List.set_cons_zero, List.set_cons_succ]
            refine wpAnyR_pure (i := 2) (oi := _) ?v2b rfl rfl (by kernel_rfl) (by decide) (fun _ _ _ h => h) rfl ?hy2b (fun _ => S0.out) ?rest2b
            case hy2b => (intro W; go_simp; (try with_reducible rfl))
            try simp only [List.setIfInBounds_toArray, List.set_cons_zero, List.set_cons_succ]
            refine wpAnyR_one (i := 3) (by kernel_rfl) rfl (fun K hK => ?_)
            go_simp
            refine hK.out _ _ (fun _ => HS1.out _ ((F0.out.alloc _).fact.cell 1)) ?_
            clear hK K
            try simp only [List.setIfInBounds_toArray, List.set_cons_zero, List.set_cons_succ, Act.put]
            refine wpAnyR_one (i := 4) (by kernel_rfl) rfl (fun K hK => ?_)
            go_simp
            refine (FaRel.num_calls F0.out hgl (by omega) 0 6 (-1)).mono ?_
            rintro e w9 ⟨v9, rfl, ⟨x9, rfl⟩, hf9⟩
            have F9 := Lib.hid hf9
            clear hf9
            refine hK.out _ _ (fun _ => HS1.out _ (F9.out.fact.cell 1)) ?_
            clear hK K
            try simp only [List.setIfInBounds_toArray, List.set_cons_zero, List.set_cons_succ, Act.put]
            refine wpAnyR_one (i := 5) (by kernel_rfl) rfl (fun K hK => ?_)
            go_simp
            refine hK.out _ _ (fun _ => HS1.out _ ((F9.out.alloc _).fact.cell 1)) ?_
            clear hK K
            try simp only [List.setIfInBounds_toArray, List.set_cons_zero, List.set_cons_succ, Act.put]
            refine wpAnyR_one (i := 6) (by kernel_rfl) rfl (fun K hK => ?_)
            refine step_append_lies _ rfl (.tmp 56) (.tmp 60) 23 rfl (w.heap.size + 2) 3 i0 (.int .i64 0) 1 8 Try.underlying23 hi0 hz0 hz1 hz2 rfl (by decide) (.slice A f.2.length c) f.2.length (f.2.map (Value.int .i64)) rfl ?c1b ⟨w9.heap.size, 0, none⟩ 1 1 [.int .i64 x9] rfl rfl ?c4b ?c2b (by omega) (by unfold maxLen; omega) (by omega) ?c3b _ rfl ?c5b
            case c1b => exact (F9.out.alloc _).own
            case c4b => exact cell_one_new _ _ _
            case c2b => intro u hu; simp at hu; subst hu; rfl
            case c3b => exact (F9.out.alloc _).fact.lt
            case c5b =>
              intro g2 cap w5 hown hgr _ _
              have HST := Lib.hid (FaRel.push (P := f.1) (xs := f.2) (F9.out.alloc _) hgl hgr hown)
              have hkf := FaRel.keepFact (F9.out.alloc _) hgr
              have e1 : w5.cell? ⟨w.heap.size + 1, 1, none⟩ = some (.slice A f.2.length c) := hkf.cell 1
              have e2 := hkf.frozen 1
              clear hkf hown hgr
              refine hK.out _ _ (fun _ => HS1.out _ e1) ?_
              clear hK K
              try simp only [List.setIfInBounds_toArray, Act.put]
              refine wpAnyR_pure (i := 7) (oi := _) ?v7b rfl rfl (by kernel_rfl) (by decide) (fun _ _ _ h => h) rfl ?hy7b (fun _ => HS1.out _ e1) ?rest7b
              case hy7b => (intro W; go_simp; (try with_reducible rfl))
              try simp only [List.setIfInBounds_toArray, List.set_cons_zero, List.set_cons_succ]
              refine wpAnyR_one (i := 8) (by kernel_rfl) rfl (fun K hK => ?_)
              go_simp
              refine hK.out _ _ (fun hf => absurd hf (by decide)) ?_
              clear hK K
              refine wpAnyR_done (by kernel_rfl) ?_
              go_wp2_with (fail)
              go_meet
              exact ⟨_, _, (f.1, f.2 ++ [x9]), _, by simp; omega, by omega, HST.out⟩
          · have hd3 : (x2 == 1) = false := by simpa using h3
            have k1 : w2.cell? ⟨w.heap.size + 1, 1, none⟩ = some (.slice A f.2.length c) := F2.out.fact.cell 1
            by_cases hn0 : 0 < f.2.length
            · have hdn : decide ((0 : Int) < f.2.length) = true := by simpa using hn0
              obtain ⟨g2, rfl⟩ := F2.out.form hn0
              go_upto_region 15 with (fail)
              obtain ⟨SS, hSS⟩ : ∃ SS : World → Prop, SS = (fun W => W.cell? ⟨w.heap.size + 1, 1, none⟩ = some (.slice (some ⟨g2, 0, none⟩) f.2.length c)) := ⟨_, rfl⟩
              have HS1 := Lib.hid (show ∀ W, W.cell? ⟨w.heap.size + 1, 1, none⟩ = some (.slice (some ⟨g2, 0, none⟩) f.2.length c) → SS W from by rw [hSS]; exact fun _ h => h)
              have HS2 := Lib.hid (show ∀ W, SS W → W.cell? ⟨w.heap.size + 1, 1, none⟩ = some (.slice (some ⟨g2, 0, none⟩) f.2.length c) from by rw [hSS]; exact fun _ h => h)
              clear hSS
              have F0 := Lib.hid F2.out.drew
              have S0 := Lib.hid (HS1.out _ (F0.out.fact.cell 1))
              have hpos : (0 : Int) < (f.2.length : Int) := by omega
              refine wp_region_rel SS 6 7 (by kernel_rfl) rfl ?_
              refine wpAnyR_pure (i := 0) (oi := _) ?v0d rfl rfl (by kernel_rfl) (by decide) (fun _ _ _ h => h) rfl ?hy0d (fun _ => S0.out) ?rest0d
              case hy0d => (intro W; go_simp; (try with_reducible rfl))
              try simp only [List.setIfInBounds_toArray, List.set_cons_zero, List.set_cons_succ]
              refine wpAnyR_take (i := 1) (oi := _) ?v1d rfl rfl (by kernel_rfl) (fun _ _ _ h => h) rfl ?hy1d S0.out ?rest1d
              case hy1d => (intro W hW; have e1 := HS2.out W hW; go_simp; (try with_reducible rfl))
              try simp only [List.setIfInBounds_toArray, List.set_cons_zero, List.set_cons_succ]
              refine wpAnyR_pure (i := 2) (oi := _) ?v2d rfl rfl (by kernel_rfl) (by decide) (fun _ _ _ h => h) rfl ?hy2d (fun _ => S0.out) ?rest2d
              case hy2d => (intro W; go_simp; (try with_reducible rfl))
              try simp only [List.setIfInBounds_toArray, List.set_cons_zero, List.set_cons_succ]
              refine wpAnyR_one (i := 3) (by kernel_rfl) rfl (fun K hK => ?_)
              go_simp
              refine hK.out _ _ (fun _ => HS1.out _ ((F0.out.alloc _).fact.cell 1)) ?_
              clear hK K
              try simp only [List.setIfInBounds_toArray, List.set_cons_zero, List.set_cons_succ, Act.put]
              refine wpAnyR_one (i := 4) (by kernel_rfl) rfl (fun K hK => ?_)
              go_simp
              refine (FaRel.num_calls F0.out hgl (by omega) 6 (-1) 5).mono ?_
              rintro e w9 ⟨v9, rfl, ⟨x9, rfl⟩, hf9⟩
              have F9 := Lib.hid hf9
              have HST := Lib.hid (hf9.first hgl x9)
              obtain ⟨e1, e2⟩ := hf9.head hn0
              clear hf9
              refine hK.out _ _ (fun _ => HS1.out _ (F9.out.fact.cell 1)) ?_
              clear hK K
              try simp only [List.setIfInBounds_toArray, List.set_cons_zero, List.set_cons_succ, Act.put]
              refine wpAnyR_pure (i := 5) (oi := _) (.pointer (some ⟨g2, 0, none⟩)) rfl rfl (by kernel_rfl) (by decide) (fun _ _ _ h => h) rfl ?hy5d (fun _ => HS1.out _ (F9.out.fact.cell 1)) ?rest5d
              case hy5d => (intro W; go_simp; (try with_reducible rfl))
              try simp only [List.setIfInBounds_toArray, List.set_cons_zero, List.set_cons_succ]
              refine wpAnyR_one (i := 6) (by kernel_rfl) rfl (fun K hK => ?_)
              go_simp
              refine hK.out _ _ (fun hf => absurd hf (by decide)) ?_
              clear hK K
              refine wpAnyR_done (by kernel_rfl) ?_
              go_wp2_with (fail)
              go_meet
              exact ⟨_, _, (f.1, f.2.set 0 x9), _, by simp; omega, by omega, HST.out⟩
            · have hdn : decide ((0 : Int) < f.2.length) = false := by simpa using hn0
              go_wp2_with (fail)
              go_meet
              exact ⟨A, c, f, _, by omega, by omega, F2.out⟩
      · have hd1 : (x1 == 0) = false := by simpa using h1
        go_wp2_with (fail)
        go_meet
        exact ⟨A, c, f, _, by omega, by omega, F1.out⟩
    case rest =>
      obtain ⟨A, c, f, q, hfl, hq, hf⟩ := hcut
      have k0 : wc.cell? ⟨w.heap.size + 1, 0, none⟩ = some (.int .i64 f.1) := hf.fact.cell 0
      have k1 : wc.cell? ⟨w.heap.size + 1, 1, none⟩ = some (.slice A f.2.length c) := hf.fact.cell 1
      have j0 : wc.cell? ⟨w.heap.size, 0, none⟩ = some (.int .i64 0) := hf.res.cell 0
      have j1 : wc.cell? ⟨w.heap.size, 1, none⟩ = some (.slice none 0 0) := hf.res.cell 1
      have l0 := hf.res.frozen 0
      have l1 := hf.res.frozen 1
      obtain ⟨hd0, hd1, hd2, hd3⟩ := hf.done hgl
      have HD := Lib.hid (And.intro hd0 (And.intro hd1 hd2))
      obtain ⟨W, hW⟩ : ∃ W, W = (wc.setCell ⟨w.heap.size, 0, none⟩ (.int .i64 f.1)).setCell ⟨w.heap.size, 1, none⟩ (.slice A f.2.length c) := ⟨_, rfl⟩
      rw [← hW] at HD
      have d0 : W.cell? ⟨w.heap.size, 0, none⟩ = some (.int .i64 f.1) := by rw [hW, hd3.cell 0]; rfl
      have d1 : W.cell? ⟨w.heap.size, 1, none⟩ = some (.slice A f.2.length c) := by rw [hW, hd3.cell 1]; rfl
      have HW := Lib.hid hW
      clear hW hd0 hd1 hd2 hd3 hf
      go_wp2_with (fail)
      rw [← HW.out]
      refine bodyPost_ret (v := .agg #[.int .i64 f.1, .slice A f.2.length c]) (by simp [results, Try.results48, go_sem, d0, d1]) rfl ?_
      obtain ⟨h1, h2, h3⟩ := HD.out
      exact ⟨A, c, f, q, rfl, hfl, by omega, h1, h2, h3⟩

end Go.Proofs.Ytfdbjoncadjhcaa
/-
  A fact drawn, its arguments in a row of the call's own.
-/
namespace Go.Proofs.Ytfdbjoncadjhcaa
open Go.RowKit

theorem OwnInts.offG {w W : World} {lo hi g : Nat} {v : Value} {xs : List Int} (h : OwnInts w lo hi v xs) (k : Only g (g + 1) w W) (hg : g < lo) : OwnInts W lo hi v xs :=
  h.kept fun b hb => k.block b (h.1.lt b hb).2 (.inr (by have := (h.1.lt b hb).1; omega))
theorem DrRel.ints {w wr : World} {g : Nat} {bs : List Nat} {p k : Nat} {A : Option Addr} {c : Nat} {xs : List Int} (h : DrRel w wr g bs p k A c xs) : OwnInts wr w.heap.size wr.heap.size (.slice A k c) xs :=
  ⟨by rw [h.len]; exact h.own, fun b hb => (h.own.lt b hb).2⟩

theorem l1Fact_own (g : Nat) (bs : List Nat) (p lo hi : Nat) (v : Value) (ar : List Int) (w : World) (h : Rdr w g bs p) (hp : p ≤ 1048576) (ha : OwnInts w lo hi v ar) (hg : g < lo) (hh : hi ≤ w.heap.size) (hr : ∀ x ∈ ar, 0 ≤ x ∧ x ≤ 2) (hl : ar.length ≤ 1048576) :
    Calls Try.prog 48 #[.pointer (some ⟨g, 0, none⟩), v] w fun e w' => ∃ (A : Option Addr) (c : Nat) (f : LFact) (q : Nat), e = .returned (.agg #[.int .i64 f.1, .slice A f.2.length c]) ∧ f.2.length ≤ 3 ∧ q ≤ p + 20 ∧
      OwnInts w' w.heap.size w'.heap.size (.slice A f.2.length c) f.2 ∧ Rdr w' g bs q ∧ Only g (g + 1) w w' :=
  (l1Fact_any g bs p v ar w h hp (ha.rd.more hh) (fun _ k => (ha.offG k hg).rd.more (Nat.le_trans hh k.size)) hr hl).mono fun _ _ ⟨A, c, f, q, he, hf, hq, ho, hR, hO⟩ =>
    ⟨A, c, f, q, he, hf, hq, (show OwnInts _ _ _ _ _ from ⟨ho, fun b hb => (ho.lt b hb).2⟩).mono (Nat.le_add_right _ 2) (Nat.le_refl _), hR, hO⟩

end Go.Proofs.Ytfdbjoncadjhcaa
/-
  The walks of FactOk: the program's (with factFits) and the specification's.
-/
namespace Go.Proofs.Ytfdbjoncadjhcaa
open Go.RowKit

def constOk (x : Int) : Bool := decide (0 ≤ x ∧ x ≤ 5)
def factFits (ar : List Int) (f : LFact) : Bool := decide (0 ≤ f.1 ∧ f.1 < ar.length ∧ (f.2.length : Int) = ar.getD f.1.toNat 0) && f.2.all constOk
def factOk (ar : List Int) (f : LFact) : Bool := arityOk ar && factFits ar f

def ConstsTo (xs : List Int) (k : Nat) : Prop := ∀ j, j < k → constOk (xs.getD j 0) = true
theorem ConstsTo.step {xs : List Int} {k : Nat} (h : ConstsTo xs k) (e : constOk (xs.getD k 0) = true) : ConstsTo xs (k + 1) := fun j hj => by
  by_cases h2 : j = k
  · subst h2; exact e
  · exact h j (by omega)
theorem ConstsTo.all {xs : List Int} (h : ConstsTo xs xs.length) : xs.all constOk = true := by
  rw [List.all_eq_true]
  intro x hx
  obtain ⟨j, hj, rfl⟩ := List.getElem_of_mem hx
  have := h j hj
  simpa [hj] using this
theorem consts_not {xs : List Int} {k : Nat} (hk : k < xs.length) (e : constOk xs[k] = false) : xs.all constOk = false := by
  rw [List.all_eq_false]
  exact ⟨xs[k], List.getElem_mem hk, by simp [e]⟩

set_option maxHeartbeats 400000 in
theorem areConstants_any (v : Value) (xs : List Int) (B : Nat) (w : World) (h : RdInts w B v xs) (hn : xs.length ≤ 1048576) :
    Calls Try.prog 53 #[v] w fun e w' => e = .returned (.bool (xs.all constOk)) ∧ w = w' := by
  obtain ⟨A, c, rfl, hc, h2⟩ := h
  go_enter Try.func53, Try.ntmps53
  go_wp2_with (fail)
  go_loop [4, 7] (fun _ i => ∃ k : Nat, k ≤ xs.length ∧ i = .int .i64 k ∧ ConstsTo xs k) (fun _ i => xs.length - (intOf i).toNat)
  case atStart => exact ⟨0, Nat.zero_le _, rfl, fun j hj => absurd hj (by omega)⟩
  case round =>
    obtain ⟨k, hk, rfl, hs⟩ := hrel
    by_cases hlk : k < xs.length
    · obtain ⟨b2, o2, rfl, hbB2, hx2⟩ := h2 (by omega)
      have hck2 : w.cell? ⟨b2, o2 + k, none⟩ = some (.int .i64 xs[k]) := hx2 k hlk
      clear hx2 h2
      by_cases h0 : xs[k] < 0
      · have HE := Lib.hid (consts_not hlk (by simp [constOk]; omega))
        clear hs
        go_wp2_with (fail)
        go_ret
        exact ⟨ret_bool HE.out.symm, rfl⟩
      · have hd : decide (xs[k] < 0) = false := by simpa using h0
        by_cases h2 : 5 < xs[k]
        · have HE := Lib.hid (consts_not hlk (by simp [constOk]; omega))
          clear hs
          go_wp2_with (fail)
          go_ret
          exact ⟨ret_bool HE.out.symm, rfl⟩
        · have HS := Lib.hid (hs.step (by simp [hlk, constOk]; omega))
          clear hs
          go_wp2_with (fail)
          go_round
          case rel => exact ⟨k + 1, by omega, by go_num, HS.out⟩
          case measure => simp [intOf]; omega
    · have hkn : k = xs.length := by omega
      have HE := Lib.hid (show xs.all constOk = true from ConstsTo.all (by rw [← hkn]; exact hs))
      clear hkn hs h2
      go_wp2_with (fail)
      go_ret
      exact ⟨ret_bool HE.out.symm, rfl⟩

set_option maxHeartbeats 400000 in
set_option maxRecDepth 100000 in
theorem factFits_any (v v2 : Value) (ar : List Int) (f : LFact) (w : World) (h : RdInts w w.heap.size v ar) (h2 : RdFact w w.heap.size v2 f) (hn : f.2.length ≤ 1048576) :
    Calls Try.prog 70 #[v, v2] w fun e w' => e = .returned (.bool (factFits ar f)) ∧ Below w.heap.size w w' := by
  obtain ⟨pp, xs⟩ := f
  obtain ⟨A, c, rfl, hc, h⟩ := h
  obtain ⟨a, rfl, h2⟩ := h2
  have H2 := Lib.hid h2
  obtain ⟨A2, c2, rfl, hc2, _⟩ := h2
  by_cases h0 : pp < 0
  · have hd : decide (pp < 0) = true := by simpa using h0
    have HE := Lib.hid (show factFits ar (pp, xs) = false by simp [factFits]; omega)
    go_enter Try.func70, Try.ntmps70
    go_wp2_with (fail)
    go_quiet (fail)
    go_wp2_with (fail)
    go_ret
    exact ⟨ret_bool HE.out.symm, bdrewN (below1 _ _) _⟩
  · have hd : decide (pp < 0) = false := by simpa using h0
    obtain ⟨p, rfl⟩ := Int.eq_ofNat_of_zero_le (Int.not_lt.1 h0)
    by_cases h1 : (ar.length : Int) ≤ p
    · have hd1 : decide ((ar.length : Int) ≤ (p : Int)) = true := by simpa using h1
      have HE := Lib.hid (show factFits ar ((p : Int), xs) = false by simp [factFits]; omega)
      go_enter Try.func70, Try.ntmps70
      go_wp2_with (fail)
      go_quiet (fail)
      go_wp2_with (fail)
      go_ret
      exact ⟨ret_bool HE.out.symm, bdrewN (below1 _ _) _⟩
    · have hd1 : decide ((ar.length : Int) ≤ (p : Int)) = false := by simpa using h1
      have hlt : p < ar.length := by omega
      have hltI : (p : Int) < (ar.length : Int) := by omega
      obtain ⟨b, o, rfl, hbB, hx⟩ := h (by omega)
      have hck : ∀ O, (w.alloc O).cell? ⟨b, o + p, none⟩ = some (.int .i64 ar[p]) := fun O => (World.cell?_alloc_lt w O ⟨b, o + p, none⟩ hbB).trans (hx p hlt)
      by_cases h3 : (xs.length : Int) = ar[p]
      · have hd3 : ((xs.length : Int) != ar[p]) = false := by simp [h3]
        have H3 := Lib.hid (show factFits ar ((p : Int), xs) = xs.all constOk by simp [factFits, hlt, h3])
        clear h3 hx h
        go_enter Try.func70, Try.ntmps70
        go_wp2_with (fail)
        go_quiet (fail)
        go_wp2_with (fail)
        refine (areConstants_any _ xs _ _ ((H2.out.below (below1 w _) (Nat.le_refl _)).below (bdrewN (Below.refl _ _) _) (Nat.le_refl _)) hn).mono ?_
        rintro e w1 ⟨rfl, rfl⟩
        go_wp2_with (fail)
        go_ret
        exact ⟨ret_bool H3.out.symm, bdrewN (below1 _ _) _⟩
      · have hd3 : ((xs.length : Int) != ar[p]) = true := by simp [h3]
        have HE := Lib.hid (show factFits ar ((p : Int), xs) = false by simp [factFits, hlt, h3])
        clear h3 hx h
        go_enter Try.func70, Try.ntmps70
        go_wp2_with (fail)
        go_quiet (fail)
        go_wp2_with (fail)
        go_ret
        exact ⟨ret_bool HE.out.symm, bdrewN (below1 _ _) _⟩

set_option maxHeartbeats 400000 in
theorem implFactOk_any (v v2 : Value) (ar : List Int) (f : LFact) (w : World) (h : RdInts w w.heap.size v ar) (h2 : RdFact w w.heap.size v2 f) (hr : ar.length ≤ 1048576) (hn : f.2.length ≤ 1048576) :
    Calls Try.prog 29 #[v, v2] w fun e w' => e = .returned (.bool (factOk ar f)) ∧ Below w.heap.size w w' := by
  have H := Lib.hid h
  have H2 := Lib.hid h2
  obtain ⟨A, c, rfl, hc, _⟩ := h
  obtain ⟨a, rfl, A2, c2, rfl, hc2, _⟩ := h2
  go_enter Try.func29, Try.ntmps29
  go_wp2_with (fail)
  refine (arityOk_any _ ar _ (H.out.on (below1 _ _)) (by omega)).mono ?_
  rintro e w4 ⟨rfl, hb4⟩
  have hB4 := bthen (below1 _ _) hb4
  have hblk : Blk w4 w.heap.size 26 #[.int .i64 f.1, .slice A2 f.2.length c2] := (Blk.new w _ _).below hb4 (by simp)
  have hc0 : w4.cell? ⟨w.heap.size, 0, none⟩ = some (.int .i64 f.1) := hblk.cell 0
  have hc1 : w4.cell? ⟨w.heap.size, 1, none⟩ = some (.slice A2 f.2.length c2) := hblk.cell 1
  by_cases ha : arityOk ar = true
  · rw [ha]
    have HA := Lib.hid ha
    clear ha
    go_wp2_with (fail)
    refine (factFits_any _ _ ar f _ (H.out.on hB4) (H2.out.on hB4) hn).mono ?_
    rintro e w5 ⟨rfl, hb5⟩
    go_wp2_with (fail)
    go_ret
    exact ⟨ret_bool (by unfold factOk; rw [HA.out]; simp), bthen hB4 hb5⟩
  · rw [show arityOk ar = false by simpa using ha]
    have HA := Lib.hid (show arityOk ar = false by simpa using ha)
    clear ha
    go_wp2_with (fail)
    go_ret
    exact ⟨ret_bool (by unfold factOk; rw [HA.out]; simp), hB4⟩

end Go.Proofs.Ytfdbjoncadjhcaa
/-
  The walk of the specification's FactOk.
-/
namespace Go.Proofs.Ytfdbjoncadjhcaa
open Go.RowKit

set_option maxHeartbeats 400000 in
set_option maxRecDepth 100000 in
theorem specFactOk_any (v v2 : Value) (ar : List Int) (f : LFact) (w : World) (h : RdInts w w.heap.size v ar) (h2 : RdFact w w.heap.size v2 f) (hr : ar.length ≤ 1048576) (hn : f.2.length ≤ 1048576) :
    Calls Try.prog 71 #[v, v2] w fun e w' => e = .returned (.bool (factOk ar f)) ∧ Below w.heap.size w w' := by
  have H := Lib.hid h
  have H2 := Lib.hid h2
  obtain ⟨pp, xs⟩ := f
  obtain ⟨A, c, rfl, hc, h⟩ := h
  obtain ⟨a, rfl, A2, c2, rfl, hc2, h2⟩ := h2
  by_cases ha : arityOk ar = true
  · have CA : ∀ W, Below w.heap.size w W → Calls Try.prog 28 #[.slice A ar.length c] W fun e w' => e = .returned (.bool true) ∧ w' = W := fun W hW =>
      (specArityOk_any _ ar W (H.out.on hW) (by omega)).mono fun e w' ⟨he, hw⟩ => ⟨by rw [he, ha], hw.symm⟩
    have HCA := Lib.hid CA
    have HA := Lib.hid ha
    clear CA ha
    by_cases hp : 0 ≤ pp ∧ pp ≤ (ar.length : Int) - 1
    · have HCL := Lib.hid (l1In_yes hp)
      obtain ⟨p, rfl⟩ := Int.eq_ofNat_of_zero_le hp.1
      have hlt : p < ar.length := by omega
      have hltI : (p : Int) < (ar.length : Int) := by omega
      obtain ⟨b, o, rfl, hbB, hx⟩ := h (by omega)
      have hck : ∀ O, (w.alloc O).cell? ⟨b, o + p, none⟩ = some (.int .i64 ar[p]) := fun O => (World.cell?_alloc_lt w O ⟨b, o + p, none⟩ hbB).trans (hx p hlt)
      clear hp
      by_cases h3 : (xs.length : Int) = ar[p]
      · have hd3 : ((xs.length : Int) != ar[p]) = false := by simp [h3]
        have H3 := Lib.hid (show factOk ar ((p : Int), xs) = xs.all constOk by simp [factOk, HA.out, factFits, hlt, h3])
        clear h3 hx h
        go_enter Try.func71, Try.ntmps71
        go_wp2_with (fail)
        go_quiet (first | (go_at_call 28; exact Calls.quiet_of_same (HCA.out _ (bdrewN (below1 _ _) _))) | (go_at_call 73; exact quiet_left (HCL.out _)))
        go_wp2_with (fail)
        obtain ⟨w1, hw1⟩ : ∃ w1, w1 = (w.alloc (Obj.cells #[Value.int IntKind.i64 ↑p, Value.slice A2 xs.length c2] 26)).drewN nq := ⟨_, rfl⟩
        rw [← hw1]
        have hbe : Below w.heap.size w w1 := by rw [hw1]; exact bdrewN (below1 _ _) _
        have hblk : Blk w1 w.heap.size 26 #[.int .i64 p, .slice A2 xs.length c2] := by rw [hw1]; exact (Blk.new w _ _).drewN _
        have hc1 : w1.cell? ⟨w.heap.size, 1, none⟩ = some (.slice A2 xs.length c2) := hblk.cell 1
        clear hw1 hck
        go_loop [5] (fun i => ∃ k : Nat, k ≤ xs.length ∧ i = .int .i64 k ∧ ConstsTo xs k) (fun i => xs.length - (intOf i).toNat)
        case atStart => exact ⟨0, Nat.zero_le _, rfl, fun j hj => absurd hj (by omega)⟩
        case round =>
          obtain ⟨k, hk, rfl, hs⟩ := hrel
          by_cases hlk : k < xs.length
          · obtain ⟨b2, o2, rfl, hbB2, hx2⟩ := h2 (by show 0 < xs.length; omega)
            have hck2 : w1.cell? ⟨b2, o2 + k, none⟩ = some (.int .i64 xs[k]) := (hbe.cell (p := ⟨b2, o2 + k, none⟩) hbB2).trans (hx2 k hlk)
            clear hx2 h2
            by_cases he : 0 ≤ xs[k] ∧ xs[k] ≤ 5
            · have HS := Lib.hid (hs.step (by simpa [hlk, constOk] using he))
              have HK := Lib.hid (l1In_yes he)
              clear hs he
              go_wp2_with (go_at_call 73; refine (HK.out _).mono ?_; rintro e w' ⟨rfl, rfl⟩)
              go_round
              case rel => exact ⟨k + 1, by omega, by go_num, HS.out⟩
              case measure => simp [intOf]; omega
            · have HE := Lib.hid (consts_not hlk (by simpa [constOk] using he))
              have HK := Lib.hid (l1In_no he)
              clear hs he
              go_wp2_with (go_at_call 73; refine (HK.out _).mono ?_; rintro e w' ⟨rfl, rfl⟩)
              go_ret
              exact ⟨ret_bool (by rw [H3.out, HE.out]), hbe⟩
          · have hkn : k = xs.length := by omega
            have HE := Lib.hid (show xs.all constOk = true from ConstsTo.all (by rw [← hkn]; exact hs))
            clear hkn hs h2
            go_wp2_with (fail)
            go_ret
            exact ⟨ret_bool (by rw [H3.out, HE.out]), hbe⟩
      · have hd3 : ((xs.length : Int) != ar[p]) = true := by simp [h3]
        have HE := Lib.hid (show factOk ar ((p : Int), xs) = false by simp [factOk, factFits, hlt, h3])
        clear h3 hx h
        go_enter Try.func71, Try.ntmps71
        go_wp2_with (fail)
        go_quiet (first | (go_at_call 28; exact Calls.quiet_of_same (HCA.out _ (bdrewN (below1 _ _) _))) | (go_at_call 73; exact quiet_left (HCL.out _)))
        go_wp2_with (fail)
        go_ret
        exact ⟨ret_bool HE.out.symm, bdrewN (below1 _ _) _⟩
    · have HCL := Lib.hid (l1In_no hp)
      have HE := Lib.hid (show factOk ar (pp, xs) = false by simp [factOk, factFits]; omega)
      clear hp
      go_enter Try.func71, Try.ntmps71
      go_wp2_with (fail)
      go_quiet (first | (go_at_call 28; exact Calls.quiet_of_same (HCA.out _ (bdrewN (below1 _ _) _))) | (go_at_call 73; exact quiet_left (HCL.out _)))
      go_wp2_with (fail)
      go_ret
      exact ⟨ret_bool HE.out.symm, bdrewN (below1 _ _) _⟩
  · have CA : ∀ W, Below w.heap.size w W → Calls Try.prog 28 #[.slice A ar.length c] W fun e w' => e = .returned (.bool false) ∧ w' = W := fun W hW =>
      (specArityOk_any _ ar W (H.out.on hW) (by omega)).mono fun e w' ⟨he, hw⟩ => ⟨by rw [he, show arityOk ar = false by simpa using ha], hw.symm⟩
    have HCA := Lib.hid CA
    have HE := Lib.hid (show factOk ar (pp, xs) = false by simp [factOk, ha])
    clear CA ha
    go_enter Try.func71, Try.ntmps71
    go_wp2_with (fail)
    go_quiet (first | (go_at_call 28; exact Calls.quiet_of_same (HCA.out _ (bdrewN (below1 _ _) _))))
    go_wp2_with (fail)
    go_ret
    exact ⟨ret_bool HE.out.symm, bdrewN (below1 _ _) _⟩

end Go.Proofs.Ytfdbjoncadjhcaa
/-
  Regions that draw their order and whose callees return plain values and keep all that was there: one walk of the text's order serves every order. The class of worlds: those that keep what was there.
-/
namespace Go.Proofs.Ytfdbjoncadjhcaa
open Go.RowKit

/-- A world that keeps all that was there in w0. -/
def Later (w0 : World) : Type := { W : World // Below w0.heap.size w0 W }

instance (w0 : World) : Nonempty (Later w0) := ⟨⟨w0, Below.refl _ _⟩⟩

theorem wp_region_later {P : Program} {id : Nat} {Q : Exit → Act → World → Prop} {a : Act} {w0 : World} {l : List Oper} (hm : P.follows .mixedOrders = true) (hB : Region.lexB .any l.toArray = true)
    (h : wpQuiet P l.toArray (fun w' => ∃ x : Later w0, w' = x.val) (fun a' => ∀ w', (∃ x : Later w0, w' = x.val) → Q .normal a' w') l a) : (Code.region id l.toArray true).wp P Q a w0 :=
  wp_region_quiet (C := fun w' => ∃ x : Later w0, w' = x.val) hm hB ⟨⟨_, (Below.refl _ _).drew⟩, rfl⟩ (by simpa using h)

theorem later_cell {w0 : World} {a : Addr} {v : Value} (h : w0.cell? a = some v) (x : Later w0) : x.val.cell? a = some v := (x.2.cell (World.block_lt_of_cell? _ _ h)).trans h
/-- A callee's contract, met in a later world. -/
theorem later_of {P : Program} {f : FuncId} {args : Array Value} {w0 : World} {x : Later w0} {v : Value} (h : Calls P f args x.val fun e w' => e = .returned v ∧ Below x.val.heap.size x.val w') :
    Calls P f args x.val fun e w'' => e = .returned v ∧ ∃ y : Later w0, w'' = y.val :=
  h.mono fun _ w' ⟨he, hb⟩ => ⟨he, ⟨w', bthen x.2 hb⟩, rfl⟩
theorem later_same {P : Program} {f : FuncId} {args : Array Value} {w0 : World} {x : Later w0} {v : Value} (h : Calls P f args x.val fun e w' => e = .returned v ∧ x.val = w') :
    Calls P f args x.val fun e w'' => e = .returned v ∧ ∃ y : Later w0, w'' = y.val :=
  h.mono fun _ _ ⟨he, hb⟩ => ⟨he, x, hb.symm⟩

end Go.Proofs.Ytfdbjoncadjhcaa
/-
  The walk of the specification's FactsWith.
-/
namespace Go.Proofs.Ytfdbjoncadjhcaa
open Go.RowKit

/-- append of one copied fact onto the row that a loop collects. -/
theorem wpList_push {ops : Array Oper} {rest : List Oper} {op : Oper} {a : Act} {Q : Exit → Act → World → Prop} (hgd : op.guard = none) (s x : Operand)
    (ho : op.op = .call { callee := .builtin .append, args := #[s, x], argTypes := #[39, 39] })
    {w wr w2 : World} {gs : List LFact} {A A4 : Option Addr} {c c4 : Nat} {av : List Value} {f : LFact} (h : ColRel w wr gs A c av) (hb : Below wr.heap.size wr w2) (ha : OwnInts w2 wr.heap.size w2.heap.size (.slice A4 f.2.length c4) f.2)
    {n : Nat} (hnl : n = gs.length) (hs : a.eval s = .slice A n c) (hx : a.eval x = .slice (some ⟨w2.heap.size, 0, none⟩) 1 1) (hn : gs.length ≤ 1073741824)
    (K : ∀ g cap w4 av', ColRel w w4 (gs ++ [f]) (some ⟨g, 0, none⟩) cap av' → w2.grownBy w4 (Value.slice A gs.length c).ownBlock → wpList Try.prog ops Q rest (a.put op.dst (.slice (some ⟨g, 0, none⟩) (n + 1) cap)) w4) :
    wpList Try.prog ops Q (op :: rest) a (w2.alloc (.cells #[.int .i64 f.1, .slice A4 f.2.length c4] 26)) := by
  subst hnl
  obtain ⟨i0, hi0, hz0, hz1, hz2⟩ := info_parts Try.infoFact
  refine wpList_append_lies _ hgd s x 39 ho w.heap.size 26 i0 (.agg #[.int .i64 0, .slice none 0 0]) 2 32 Try.underlying39 hi0 hz0 hz1 hz2 rfl (by decide) (.slice A gs.length c) gs.length (flat gs av) hs ?_ ⟨w2.heap.size, 0, none⟩ 1 1 [.int .i64 f.1, .slice A4 f.2.length c4] hx rfl (news2 _ _ _ _) ?_ (by omega) (by unfold maxLen; omega) (by omega) ?_ _ rfl ?_
  · exact (ownsRow_below h.own.row h.own.lt hb (Nat.le_refl _)).alloc _
  · intro u hu
    simp at hu
    rcases hu with rfl | rfl <;> rfl
  · have := h.below.size
    have := hb.size
    simp
    omega
  intro g cap w4 hown hg _ _
  obtain ⟨av', hcol, _⟩ := h.push rfl hb ha hg hown
  exact K g cap w4 av' hcol (grown_from_alloc hg)

def withStep (f : LFact) (s : List LFact × Bool) (g : LFact) : List LFact × Bool :=
  ((if s.2 = false ∧ factOrder f g ≤ 0 then s.1 ++ [f] else s.1) ++ (if factOrder f g = 0 then [] else [g]), s.2 || decide (factOrder f g ≤ 0))
def withTo (fs : List LFact) (f : LFact) (k : Nat) : List LFact × Bool := (fs.take k).foldl (withStep f) ([], false)
def factsWith (fs : List LFact) (f : LFact) : List LFact := if (withTo fs f fs.length).2 then (withTo fs f fs.length).1 else (withTo fs f fs.length).1 ++ [f]
theorem withTo_step {fs : List LFact} {f : LFact} {k : Nat} (h : k < fs.length) : withTo fs f (k + 1) = withStep f (withTo fs f k) fs[k] := by
  unfold withTo
  rw [take_snoc fs k h, List.foldl_append]
  rfl
theorem withTo_bound (fs : List LFact) (f : LFact) : ∀ k, k ≤ fs.length → (withTo fs f k).1.length ≤ k + (if (withTo fs f k).2 then 1 else 0) ∧ tot (withTo fs f k).1 ≤ tot (fs.take k) + (if (withTo fs f k).2 then f.2.length else 0)
  | 0, _ => by simp [withTo, tot]
  | k + 1, hk => by
    have ih := withTo_bound fs f k (by omega)
    rw [withTo_step (by omega), tot_take fs k (by omega)]
    obtain ⟨h1, h2⟩ := ih
    unfold withStep
    cases hp : (withTo fs f k).2 <;> by_cases h0 : factOrder f fs[k] = 0 <;> by_cases hle : factOrder f fs[k] ≤ 0 <;> simp [hp, h0, hle, tot_append, tot_cons] at h1 h2 ⊢ <;> simp [tot] at h2 ⊢ <;> omega

theorem factsWith_bound (fs : List LFact) (f : LFact) : (factsWith fs f).length ≤ fs.length + 1 ∧ tot (factsWith fs f) ≤ tot fs + f.2.length := by
  have h := withTo_bound fs f fs.length (Nat.le_refl _)
  rw [List.take_length] at h
  unfold factsWith
  cases hp : (withTo fs f fs.length).2 <;> simp [hp, tot_append, tot_cons] at h ⊢ <;> simp [tot] at h ⊢ <;> omega

end Go.Proofs.Ytfdbjoncadjhcaa
/-
  The walk of the specification's FactsWith.
-/
namespace Go.Proofs.Ytfdbjoncadjhcaa
open Go.RowKit

/-- What a loop of FactsWith knows at its head, k facts on. -/
structure WithRel (w1 wr : World) (fs : List LFact) (f : LFact) (k : Nat) (st : List LFact × Bool) (A : Option Addr) (c : Nat) (av : List Value) : Prop where
  col : ColRel w1 wr st.1 A c av
  st : st = withTo fs f k

theorem With.next {fs : List LFact} {f : LFact} {k : Nat} {st st' : List LFact × Bool} (h : st = withTo fs f k) (hk : k < fs.length) (e : st' = withStep f st fs[k]) : st' = withTo fs f (k + 1) := by rw [withTo_step hk, ← h, e]

set_option maxHeartbeats 2000000 in
set_option maxRecDepth 100000 in
theorem specFactsWith_any (v v2 : Value) (fs : List LFact) (f : LFact) (w : World) (h : RdFacts w w.heap.size v fs) (h2 : RdFact w w.heap.size v2 f) (hn : fs.length ≤ 1048576) (ht : tot fs ≤ 1048576) (hf : f.2.length ≤ 1048576) :
    Calls Try.prog 33 #[v, v2] w fun e w' => ∃ A' c', e = .returned (.slice A' (factsWith fs f).length c') ∧ OwnFacts w' w.heap.size w'.heap.size (.slice A' (factsWith fs f).length c') (factsWith fs f) ∧ Below w.heap.size w w' := by
  have H := Lib.hid h
  have H2 := Lib.hid h2
  obtain ⟨A, c, rfl, hc, _⟩ := h
  obtain ⟨a, rfl, A2, c2, rfl, hc2, _⟩ := h2
  go_enter Try.func33, Try.ntmps33
  go_wp2_with (fail)
  obtain ⟨w1, hw1⟩ : ∃ w1, w1 = (w.alloc (Obj.cells #[Value.int IntKind.i64 f.1, Value.slice A2 f.2.length c2] 26)) := ⟨_, rfl⟩
  have B1 : Below w.heap.size w w1 := by rw [hw1]; exact below1 _ _
  have k0 : Blk w1 w.heap.size 26 #[.int .i64 f.1, .slice A2 f.2.length c2] := by rw [hw1]; exact Blk.new w _ _
  have hz1 : w.heap.size + 1 = w1.heap.size := by rw [hw1]; simp
  rw [← hw1]
  clear hw1
  simp only [hz1]
  have HZ := Lib.hid hz1
  clear hz1
  go_loopw [5, 6, 7, 8] (fun o p i _ wr => ∃ (k : Nat) (st : List LFact × Bool) (A' : Option Addr) (c' : Nat) (av : List Value), k ≤ fs.length ∧ i = .int .i64 k ∧ p = .bool st.2 ∧ o = .slice A' st.1.length c' ∧ WithRel w1 wr fs f k st A' c' av) (fun _ _ i _ _ => fs.length - (intOf i).toNat)
  case atStart => exact ⟨0, ([], false), _, 0, [], Nat.zero_le _, rfl, rfl, rfl, ColRel.empty w1, rfl⟩
  case round =>
    obtain ⟨k, ⟨gs, pb⟩, A', c', av, hk, rfl, rfl, rfl, hcol, hst⟩ := hrel
    have hbd := withTo_bound fs f k hk
    rw [← hst] at hbd
    have hgl : gs.length ≤ 2097152 := by have := hbd.1; simp only at this; split at this <;> omega
    clear hbd
    have HST := Lib.hid hst
    clear hst
    by_cases hlt : k < fs.length
    · obtain ⟨b, o, A3, c3, rfl, hbB, k1, k2, k3⟩ := H.out.get hlt
      have hln := len_le_tot fs k hlt
      have K3 := Lib.hid (show RdFact w w.heap.size (.agg #[.int .i64 fs[k].1, .slice A3 fs[k].2.length c3]) fs[k] from ⟨_, rfl, k3⟩)
      have M1 : ∀ W, Below w.heap.size w W → W.cell? ⟨b, o + k * 2, none⟩ = some (.int .i64 fs[k].1) := fun W hW => (hW.cell (p := ⟨b, o + k * 2, none⟩) hbB).trans k1
      have M2 : ∀ W, Below w.heap.size w W → W.cell? ⟨b, o + k * 2 + 1, none⟩ = some (.slice A3 fs[k].2.length c3) := fun W hW => (hW.cell (p := ⟨b, o + k * 2 + 1, none⟩) hbB).trans k2
      have N1 : ∀ W, Below w1.heap.size w1 W → W.cell? ⟨w.heap.size, 0, none⟩ = some (.int .i64 f.1) := fun W hW => (k0.below hW k0.lt).cell 0
      have N2 : ∀ W, Below w1.heap.size w1 W → W.cell? ⟨w.heap.size, 1, none⟩ = some (.slice A2 f.2.length c2) := fun W hW => (k0.below hW k0.lt).cell 1
      have hB := bthen B1 hcol.below
      have L1 := later_cell (M1 _ hB)
      have L2 := later_cell (M2 _ hB)
      have L3 := later_cell (N1 _ hcol.below)
      have L4 := later_cell (N2 _ hcol.below)
      obtain ⟨q, hq⟩ : ∃ q, q = factOrder f fs[k] := ⟨_, rfl⟩
      have CO := Lib.hid (fun x : Later wr => (specFactOrder_any _ _ f fs[k] x.val ((H2.out.on hB).on x.2) ((K3.out.on hB).on x.2) hf (by omega)).mono fun e w' (hh : e = .returned (.int .i64 (factOrder f fs[k])) ∧ Below x.val.heap.size x.val w') => (⟨by rw [hh.1, hq], hh.2⟩ : e = .returned (.int .i64 q) ∧ Below x.val.heap.size x.val w'))
      have HQ := Lib.hid hq
      have HC := Lib.hid hcol
      have HM := Lib.hid (And.intro M1 (And.intro M2 (And.intro N1 N2)))
      clear hq hcol k1 k2 k3 M1 M2 N1 N2
      go_wp2_with (fail)
      refine wp_region_later (by kernel_rfl) (by kernel_rfl) ?_
      repeat (go_big_quiet_step ((go_at_call 72; exact later_of (CO.out _))))
      refine wpQuiet_nil ?_
      rintro _ ⟨xq, rfl⟩
      obtain ⟨w2, hw2⟩ : ∃ w2, w2 = xq.val := ⟨_, rfl⟩
      have hb2 : Below wr.heap.size wr w2 := by rw [hw2]; exact xq.2
      rw [← hw2]
      have HC2 := Lib.hid (HC.out.on hb2)
      clear hw2 L1 L2 L3 L4 CO
      obtain ⟨M1, M2, N1, N2⟩ := HM.out
      have P2 := HC2.out.below
      have hB2 := bthen B1 P2
      have m1 := M1 _ hB2
      have m2 := M2 _ hB2
      have n1 := N1 _ P2
      have n2 := N2 _ P2
      clear M1 M2 N1 N2
      cases pb with
      | true =>
        by_cases hq0 : q = 0
        · have t1 : (q != 0) = false := by simp [hq0]
          have HS := Lib.hid (show ((gs, true) : List LFact × Bool) = withStep f (gs, true) fs[k] by simp [withStep, ← HQ.out, hq0])
          clear hq0
          go_wp2_with (fail)
          go_roundw
          case rel => exact ⟨k + 1, (gs, true), _, _, _, by omega, by go_num, rfl, rfl, ⟨HC2.out, With.next HST.out hlt HS.out⟩⟩
          case measure => simp [intOf]; omega
        · have t1 : (q != 0) = true := by simp [hq0]
          have HS := Lib.hid (show ((gs ++ [fs[k]], true) : List LFact × Bool) = withStep f (gs, true) fs[k] by simp [withStep, ← HQ.out, hq0])
          clear hq0
          go_wp2_with (fail)
          refine (l1Copy_any _ fs[k] _ (K3.out.on hB2) (by omega)).mono ?_
          rintro e w3 ⟨A4, c4, rfl, ho4, hb4⟩
          go_wp2_with (at_builtin; refine wpList_push rfl (.tmp 35) (.tmp 41) rfl HC2.out hb4 ho4 rfl rfl rfl (by omega) ?_; intro g4 cap4 w4 av4 hcol4 hgr4)
          have HC4 := Lib.hid hcol4
          clear hcol4 hgr4
          go_roundw
          case rel => exact ⟨k + 1, (gs ++ [fs[k]], true), _, _, _, by omega, by go_num, rfl, by simp, ⟨HC4.out, With.next HST.out hlt HS.out⟩⟩
          case measure => simp [intOf]; omega
      | false =>
        rcases Int.lt_trichotomy q 0 with hq0 | hq0 | hq0
        · have t1 : (q != 0) = true := by simp; omega
          have t2 : decide (q ≤ 0) = true := by simp; omega
          have HS := Lib.hid (show (((gs ++ [f]) ++ [fs[k]], true) : List LFact × Bool) = withStep f (gs, false) fs[k] by
            have e1 : q ≠ 0 := by omega
            have e2 : q ≤ 0 := by omega
            simp [withStep, ← HQ.out, e1, e2])
          clear hq0
          go_wp2_with (fail)
          refine (l1Copy_any _ f _ (H2.out.on hB2) (by omega)).mono ?_
          rintro e w3 ⟨A4, c4, rfl, ho4, hb4⟩
          go_wp2_with (at_builtin; refine wpList_push rfl (.tmp 28) (.tmp 31) rfl HC2.out hb4 ho4 rfl rfl rfl (by omega) ?_; intro g4 cap4 w4 av4 hcol4 hgr4; have m3 := HM.out.1 _ (bthen B1 hcol4.below); have m4 := HM.out.2.1 _ (bthen B1 hcol4.below); have HC4 := Lib.hid hcol4; clear hcol4 hgr4)
          refine (l1Copy_any _ fs[k] _ (K3.out.on (bthen B1 HC4.out.below)) (by omega)).mono ?_
          rintro e w5 ⟨A6, c6, rfl, ho6, hb6⟩
          go_wp2_with (at_builtin; refine wpList_push rfl (.tmp 35) (.tmp 41) rfl HC4.out hb6 ho6 (by simp) rfl rfl (by simp; omega) ?_; intro g6 cap6 w6 av6 hcol6 hgr6; have HC6 := Lib.hid hcol6; clear hcol6 hgr6)
          go_roundw
          case rel => exact ⟨k + 1, ((gs ++ [f]) ++ [fs[k]], true), _, _, _, by omega, by go_num, rfl, by simp, ⟨HC6.out, With.next HST.out hlt HS.out⟩⟩
          case measure => simp [intOf]; omega
        · have t1 : (q != 0) = false := by simp [hq0]
          have t2 : decide (q ≤ 0) = true := by simp; omega
          have HS := Lib.hid (show ((gs ++ [f], true) : List LFact × Bool) = withStep f (gs, false) fs[k] by simp [withStep, ← HQ.out, hq0])
          clear hq0
          go_wp2_with (fail)
          refine (l1Copy_any _ f _ (H2.out.on hB2) (by omega)).mono ?_
          rintro e w3 ⟨A4, c4, rfl, ho4, hb4⟩
          go_wp2_with (at_builtin; refine wpList_push rfl (.tmp 28) (.tmp 31) rfl HC2.out hb4 ho4 rfl rfl rfl (by omega) ?_; intro g4 cap4 w4 av4 hcol4 hgr4; have HC4 := Lib.hid hcol4; clear hcol4 hgr4)
          go_roundw
          case rel => exact ⟨k + 1, (gs ++ [f], true), _, _, _, by omega, by go_num, rfl, by simp, ⟨HC4.out, With.next HST.out hlt HS.out⟩⟩
          case measure => simp [intOf]; omega
        · have t1 : (q != 0) = true := by simp; omega
          have t2 : decide (q ≤ 0) = false := by simp; omega
          have HS := Lib.hid (show ((gs ++ [fs[k]], false) : List LFact × Bool) = withStep f (gs, false) fs[k] by
            have e1 : q ≠ 0 := by omega
            have e2 : ¬ q ≤ 0 := by omega
            simp [withStep, ← HQ.out, e1, e2])
          clear hq0
          go_wp2_with (fail)
          refine (l1Copy_any _ fs[k] _ (K3.out.on hB2) (by omega)).mono ?_
          rintro e w3 ⟨A4, c4, rfl, ho4, hb4⟩
          go_wp2_with (at_builtin; refine wpList_push rfl (.tmp 35) (.tmp 41) rfl HC2.out hb4 ho4 rfl rfl rfl (by omega) ?_; intro g4 cap4 w4 av4 hcol4 hgr4; have HC4 := Lib.hid hcol4; clear hcol4 hgr4)
          go_roundw
          case rel => exact ⟨k + 1, (gs ++ [fs[k]], false), _, _, _, by omega, by go_num, rfl, by simp, ⟨HC4.out, With.next HST.out hlt HS.out⟩⟩
          case measure => simp [intOf]; omega
    · have hkn : fs.length = k := by omega
      have HB := Lib.hid (bthen B1 hcol.below)
      have hz1 : w.heap.size ≤ w1.heap.size := B1.size
      have n1 : wr.cell? ⟨w.heap.size, 0, none⟩ = some (.int .i64 f.1) := (k0.below hcol.below k0.lt).cell 0
      have n2 : wr.cell? ⟨w.heap.size, 1, none⟩ = some (.slice A2 f.2.length c2) := (k0.below hcol.below k0.lt).cell 1
      have HC := Lib.hid hcol
      cases pb with
      | true =>
        have HE := Lib.hid (show factsWith fs f = gs by unfold factsWith; rw [hkn, ← HST.out]; rfl)
        clear hcol hkn
        go_wp2_with (fail)
        go_ret
        rw [HE.out]
        exact ⟨_, _, rfl, HC.out.own.own.mono hz1 (Nat.le_refl _), HB.out⟩
      | false =>
        have HE := Lib.hid (show factsWith fs f = gs ++ [f] by unfold factsWith; rw [hkn, ← HST.out]; rfl)
        clear hcol hkn
        go_wp2_with (fail)
        refine (l1Copy_any _ f _ (H2.out.on HB.out) (by omega)).mono ?_
        rintro e w3 ⟨A4, c4, rfl, ho4, hb4⟩
        go_wp2_with (at_builtin; refine wpList_push rfl (.tmp 45) (.tmp 48) rfl HC.out hb4 ho4 rfl rfl rfl (by omega) ?_; intro g4 cap4 w4 av4 hcol4 hgr4; have HC4 := Lib.hid hcol4; clear hcol4 hgr4)
        go_ret
        rw [HE.out]
        exact ⟨some ⟨g4, 0, none⟩, cap4, by simp, HC4.out.own.own.mono hz1 (Nat.le_refl _), bthen B1 HC4.out.below⟩

end Go.Proofs.Ytfdbjoncadjhcaa
/-
  The library's sort is not laid in this seat: no function of it is called. No condition.
-/

/-
  append of a slice of facts that is read, nil and empty let in, onto a row of the call's own: the headers are shared.
-/
namespace Go.Proofs.Ytfdbjoncadjhcaa
open Go.RowKit

/-- The headers av read as the facts' rows. -/
def RdArgs (w : World) (B : Nat) (av : List Value) (fs : List LFact) : Prop := av.length = fs.length ∧ ∀ k (_ : k < fs.length) (h' : k < av.length) (h : k < fs.length), RdInts w B av[k] fs[k].2
theorem RdArgs.nil (w : World) (B : Nat) : RdArgs w B [] [] := ⟨rfl, fun k h => absurd h (by simp)⟩
theorem RdArgs.on {w w' : World} {av : List Value} {fs : List LFact} (h : RdArgs w w.heap.size av fs) (hb : Below w.heap.size w w') : RdArgs w' w'.heap.size av fs := ⟨h.1, fun k h1 h2 h3 => (h.2 k h1 h2 h3).on hb⟩
theorem RdArgs.append {w : World} {B : Nat} {av av2 : List Value} {fs fs2 : List LFact} (h : RdArgs w B av fs) (h2 : RdArgs w B av2 fs2) : RdArgs w B (av ++ av2) (fs ++ fs2) := by
  refine ⟨by simp [h.1, h2.1], fun k _ h' hk => ?_⟩
  by_cases e : k < fs.length
  · have e' : k < av.length := by rw [h.1]; exact e
    rw [List.getElem_append_left e', List.getElem_append_left e]
    exact h.2 k e e' e
  · have e' : ¬ k < av.length := by rw [h.1]; exact e
    have l1 := h.1
    simp only [List.length_append] at h' hk
    rw [List.getElem_append_right (by omega), List.getElem_append_right (by omega)]
    have := h2.2 (k - fs.length) (by omega) (by omega) (by omega)
    simpa [l1] using this
theorem flat_append : ∀ (fs : List LFact) (av : List Value) (_ : av.length = fs.length) (fs2 : List LFact) (av2 : List Value), flat (fs ++ fs2) (av ++ av2) = flat fs av ++ flat fs2 av2
  | [], [], _, _, _ => by simp [flat]
  | [], _ :: _, h, _, _ => by simp at h
  | _ :: _, [], h, _, _ => by simp at h
  | f :: fs, a :: av, h, fs2, av2 => by simp [flat, flat_append fs av (by simpa using h) fs2 av2]

/-- What is read at a slice of facts, cell by cell. -/
def CellsAt (w : World) (A : Option Addr) (cs : List Value) : Prop := (A = none → cs = []) ∧ ∀ ad, A = some ad → ∀ j u, cs[j]? = some u → w.cell? (ad.add j) = some u

theorem flat_get (fs : List LFact) (av : List Value) (h : av.length = fs.length) (j : Nat) (u : Value) (hu : (flat fs av)[j]? = some u) :
    ∃ k, ∃ (hk : k < fs.length) (hk' : k < av.length), (j = k * 2 ∧ u = .int .i64 fs[k].1) ∨ (j = k * 2 + 1 ∧ u = av[k]) := by
  have hl := flat_length fs av h
  have hj : j < fs.length * 2 := by
    rcases Nat.lt_or_ge j (fs.length * 2) with h1 | h1
    · exact h1
    · rw [List.getElem?_eq_none (by omega)] at hu
      cases hu
  have hk : j / 2 < fs.length := by omega
  obtain ⟨c0, c1⟩ := flat_at fs av h (j / 2) hk (by omega)
  refine ⟨j / 2, hk, by omega, ?_⟩
  by_cases e : j % 2 = 0
  · left
    have e1 : j = j / 2 * 2 := by omega
    refine ⟨e1, ?_⟩
    rw [e1, c0] at hu
    exact (Option.some.inj hu).symm
  · right
    have e1 : j = j / 2 * 2 + 1 := by omega
    refine ⟨e1, ?_⟩
    rw [e1, c1] at hu
    exact (Option.some.inj hu).symm

theorem RdFacts.heads {w : World} {B : Nat} {v : Value} {fs : List LFact} (h : RdFacts w B v fs) : ∃ A c av, v = .slice A fs.length c ∧ RdArgs w B av fs ∧ CellsAt w A (flat fs av) := by
  obtain ⟨A, c, rfl, hc, h⟩ := h
  rcases Nat.eq_zero_or_pos fs.length with h0 | h0
  · have : fs = [] := List.eq_nil_of_length_eq_zero h0
    subst this
    exact ⟨A, c, [], rfl, RdArgs.nil _ _, fun _ => rfl, fun ad _ j u hu => by simp [flat] at hu⟩
  · obtain ⟨b, o, rfl, hb, hx⟩ := h h0
    let av : List Value := (List.finRange fs.length).map fun k => (hx k.1 k.2).choose
    have hl : av.length = fs.length := by simp [av]
    have hav : ∀ k (h : k < fs.length) (h' : k < av.length), av[k] = (hx k h).choose := fun k h h' => by simp [av]
    refine ⟨_, c, av, rfl, ⟨hl, fun k _ h' hk => ?_⟩, fun e => (by cases e), fun ad e j u hu => ?_⟩
    · rw [hav k hk h']
      exact (hx k hk).choose_spec.2.2
    · injection e with e
      subst e
      obtain ⟨k, hk, hk', h1⟩ := flat_get fs av hl j u hu
      rw [Go.WideShapes.add_plain]
      rcases h1 with ⟨rfl, rfl⟩ | ⟨rfl, rfl⟩
      · exact (hx k hk).choose_spec.1
      · rw [hav k hk hk']
        exact (hx k hk).choose_spec.2.1

theorem flat_one (fs : List LFact) (av : List Value) {w : World} {B : Nat} (h : RdArgs w B av fs) : ∀ u ∈ flat fs av, u.oneCell' = true := by
  intro u hu
  obtain ⟨j, hj, e⟩ := List.getElem_of_mem hu
  obtain ⟨k, hk, hk', h1⟩ := flat_get fs av h.1 j u (by rw [List.getElem?_eq_getElem hj, e])
  rcases h1 with ⟨_, rfl⟩ | ⟨_, rfl⟩
  · rfl
  · obtain ⟨A, c, e, _⟩ := h.2 k hk hk' hk
    rw [e]
    rfl

theorem run_append_facts {P : Program} (w : World) (base : Nat) (t ty e : TypeId) (i : TypeInfo) (z : Value) (bytes : Nat) (ht : P.underlying t = some (.slice e)) (hi : P.info? e = some i) (hz : i.zero = some z)
    (hsize : i.size = 2) (hby : i.bytes = bytes) (hzs : z.cells.size = 2)
    (v : Value) (n : Nat) (xs : List Value) (hown : w.ownsRow base e 2 v n xs) (A : Option Addr) (c : Nat) (fs : List LFact) (av : List Value) (B : Nat) (ha : RdArgs w B av fs) (hx : CellsAt w A (flat fs av))
    (h63 : n + fs.length ≤ maxLen) (hbytes : (n + fs.length) * bytes ≤ 140737488355328) (hbase : base ≤ w.heap.size) :
    ∃ A' c' w', (Builtin.append_ #[t, t] ty #[v, .slice A fs.length c]).run P w = .ok (.slice A' (n + fs.length) c') w' ∧ w'.ownsRow base e 2 (.slice A' (n + fs.length) c') (n + fs.length) (xs ++ flat fs av) ∧ w.grownBy w' v.ownBlock ∧
      ((Value.slice A' (n + fs.length) c').ownBlock = v.ownBlock ∨ (Value.slice A' (n + fs.length) c').ownBlock = some w.heap.size) := by
  have hform : ∀ {w' : World} {v' : Value} {m : Nat} {zs : List Value}, w'.ownsRow base e 2 v' m zs → ∃ A c, v' = .slice A m c := by
    intro w' v' m zs h
    rcases h.2 with ⟨rfl, h0⟩ | ⟨g, cap, _, rfl, _⟩
    · exact ⟨none, 0, by rw [h0]⟩
    · exact ⟨_, _, rfl⟩
  rcases A with _ | ad
  · have h0 := hx.1 rfl
    have hl := flat_length fs av ha.1
    rw [h0] at hl
    have hfs : fs = [] := List.eq_nil_of_length_eq_zero (by simp at hl; omega)
    subst hfs
    obtain ⟨A', c', hv⟩ := hform hown
    refine ⟨A', c', w, ?_, by simpa [flat, ← hv] using hown, World.grownBy.refl w _, .inl (by simp only [List.length_nil, Nat.add_zero]; rw [hv])⟩
    simp only [List.length_nil, Nat.add_zero]
    rw [← hv]
    exact run_append_nilsrc w base t ty e i 2 ht hi v n xs hown c
  · obtain ⟨v', w', hrun, h2, h3, _, h5⟩ := run_append_own_at (P := P) w base t ty e i z 2 bytes ht hi hz hsize hby hzs (by decide) v n xs hown ad fs.length c (flat fs av) (flat_length fs av ha.1) (hx.2 ad rfl)
      (flat_one fs av ha) h63 hbytes hbase
    obtain ⟨A', c', hv⟩ := hform h2
    subst hv
    exact ⟨A', c', w', hrun, h2, h3, h5⟩

theorem wpList_append_facts {P : Program} {w : World} {ops : Array Oper} {rest : List Oper} {o : Oper} {a : Act} {Q : Exit → Act → World → Prop} (hgd : o.guard = none) (s x : Operand) (t : TypeId)
    (ho : o.op = .call { callee := .builtin .append, args := #[s, x], argTypes := #[t, t] })
    (base : Nat) (e : TypeId) (i : TypeInfo) (z : Value) (bytes : Nat) (ht : P.underlying t = some (.slice e)) (hi : P.info? e = some i) (hz : i.zero = some z)
    (hsize : i.size = 2) (hby : i.bytes = bytes) (hzs : z.cells.size = 2)
    (v : Value) (n : Nat) (xs : List Value) (hs : a.eval s = v) (hown : w.ownsRow base e 2 v n xs) (A : Option Addr) (c : Nat) (fs : List LFact) (av : List Value) (B : Nat) (hx : a.eval x = .slice A fs.length c) (ha : RdArgs w B av fs) (hc : CellsAt w A (flat fs av))
    (h63 : n + fs.length ≤ maxLen) (hbytes : (n + fs.length) * bytes ≤ 140737488355328) (hbase : base ≤ w.heap.size)
    (h : ∀ A' c' w', w'.ownsRow base e 2 (.slice A' (n + fs.length) c') (n + fs.length) (xs ++ flat fs av) → w.grownBy w' v.ownBlock →
      ((Value.slice A' (n + fs.length) c').ownBlock = v.ownBlock ∨ (Value.slice A' (n + fs.length) c').ownBlock = some w.heap.size) → wpList P ops Q rest (a.put o.dst (.slice A' (n + fs.length) c')) w') : wpList P ops Q (o :: rest) a w := by
  refine wpList_plain hgd fun _ hK => ?_
  obtain ⟨A', c', w', hrun, h2, h3, h4⟩ := run_append_facts (P := P) w base t o.type e i z bytes ht hi hz hsize hby hzs v n xs hown A c fs av B ha hc h63 hbytes hbase
  unfold Oper.wp execOp
  simp only [ho, resolve, invoke, builtin, Sem.run_bind, Sem.run_pure, Result.andThen_ok, List.map_toArray, List.map_cons, List.map_nil, hs, hx, hrun]
  exact hK _ _ (h A' c' w' h2 h3 h4)

end Go.Proofs.Ytfdbjoncadjhcaa
/-
  slices.Clone at facts: a row of the call's own whose headers are the given ones.
-/
namespace Go.Proofs.Ytfdbjoncadjhcaa
open Go.RowKit

theorem CellsAt.on {w w' : World} {A : Option Addr} {cs : List Value} (h : CellsAt w A cs) (hb : Below w.heap.size w w') : CellsAt w' A cs :=
  ⟨h.1, fun ad e j u hu => (hb.cell (World.block_lt_of_cell? _ _ (h.2 ad e j u hu))).trans (h.2 ad e j u hu)⟩

/-- A row of the call's own, from base on, that holds facts whose headers are av; they read in w. -/
structure RowF (w : World) (base : Nat) (A : Option Addr) (c : Nat) (fs : List LFact) (av : List Value) : Prop where
  row : w.ownsRow base 26 2 (.slice A fs.length c) fs.length (flat fs av)
  rd : RdArgs w w.heap.size av fs

theorem RowF.on {w w' : World} {base : Nat} {A : Option Addr} {c : Nat} {fs : List LFact} {av : List Value} (h : RowF w base A c fs av) (hb : Below w.heap.size w w') : RowF w' base A c fs av :=
  ⟨ownsRow_below h.row (fun g hg => (h.row.lt g hg).2) hb (Nat.le_refl _), h.rd.on hb⟩
theorem RowF.mono {w : World} {base base' : Nat} {A : Option Addr} {c : Nat} {fs : List LFact} {av : List Value} (h : RowF w base A c fs av) (hb : base' ≤ base) : RowF w base' A c fs av := ⟨ownsRow_mono h.row hb, h.rd⟩
theorem RowF.facts {w : World} {base : Nat} {A : Option Addr} {c : Nat} {fs : List LFact} {av : List Value} (h : RowF w base A c fs av) : RdFacts w w.heap.size (.slice A fs.length c) fs := by
  have hcells := @World.ownsRow.cells w base 26 2 (.slice A fs.length c) fs.length (flat fs av) h.row
  have hlt := h.row.lt
  have hl := h.rd.1
  rcases h.row.2 with ⟨e, h0⟩ | ⟨g, cap, cur, e, hb, hgg, hn, _⟩
  · injection e with e1 _ e3
    subst e1
    subst e3
    exact ⟨none, 0, rfl, by omega, fun hp => by omega⟩
  · injection e with e1 _ e3
    subst e1
    subst e3
    refine ⟨_, _, rfl, hn, fun _ => ⟨g, 0, rfl, (hlt g rfl).2, fun k hk => ?_⟩⟩
    obtain ⟨c0, c1⟩ := flat_at fs av hl k hk (by omega)
    have d0 := hcells (g := g) rfl _ _ c0
    have d1 := hcells (g := g) rfl _ _ c1
    rw [Go.WideShapes.add_plain] at d0 d1
    exact ⟨_, d0, d1, h.rd.2 k hk (by omega) hk⟩

theorem facts_eqlSome (ad : Addr) (n c : Nat) (w : World) : (binOp .eql 39 (.slice (some ad) n c) (.slice none 0 0)).run Try.prog w = .ok (.bool false) w := by kernel_rfl
theorem facts_eqlNil (n c : Nat) (w : World) : (binOp .eql 39 (.slice none n c) (.slice none 0 0)).run Try.prog w = .ok (.bool true) w := by kernel_rfl

end Go.Proofs.Ytfdbjoncadjhcaa
/-
  slices.Grow of the nil slice, slices.Clone, slices.Concat of two slices: at facts.
-/
namespace Go.Proofs.Ytfdbjoncadjhcaa
open Go.RowKit

theorem size_zeroPairs (n : Nat) : (Builtin.zeroCells #[Value.int IntKind.i64 0, Value.slice none 0 0] n).size = n * 2 := by simp [Builtin.zeroCells]

/-- What has been laid behind each other after k of two slices. -/
def joinF (xs ys : List LFact) (k : Nat) : List LFact := if k = 0 then [] else if k = 1 then xs else xs ++ ys
def joinV (xs ys : List Value) (k : Nat) : List Value := if k = 0 then [] else if k = 1 then xs else xs ++ ys
def joinN (n m k : Nat) : Nat := if k = 0 then 0 else if k = 1 then n else n + m

end Go.Proofs.Ytfdbjoncadjhcaa
/-
  FactOrder's contract with its worlds written out: draws on, and blocks behind.
-/
namespace Go.Proofs.Ytfdbjoncadjhcaa
open Go.RowKit Go.Sort

/-- W is w some draws on, with blocks laid behind it. -/
def Gr (w W : World) : Prop := ∃ q os, W = grow (w.drewN q) os
theorem Gr.refl (w : World) : Gr w w := ⟨0, #[], by simp [grow, World.drewN]⟩
theorem Gr.alloc {w W : World} (h : Gr w W) (o : Obj) : Gr w (W.alloc o) := by
  obtain ⟨q, os, rfl⟩ := h
  exact ⟨q, os.push o, by simp [grow, World.alloc]⟩
theorem Gr.drew {w W : World} (h : Gr w W) : Gr w W.drew := by
  obtain ⟨q, os, rfl⟩ := h
  exact ⟨q + 1, os, rfl⟩
theorem Gr.drewN {w W : World} (h : Gr w W) (n : Nat) : Gr w (W.drewN n) := by
  obtain ⟨q, os, rfl⟩ := h
  exact ⟨q + n, os, by simp [grow, World.drewN, Nat.add_assoc]⟩
theorem Gr.trans {w w1 W : World} (h : Gr w w1) (k : Gr w1 W) : Gr w W := by
  obtain ⟨q, os, rfl⟩ := h
  obtain ⟨q', os', rfl⟩ := k
  exact ⟨q + q', os ++ os', by simp [grow, World.drewN, Nat.add_assoc, Array.append_assoc]⟩
theorem Gr.below {w W : World} (h : Gr w W) : Below w.heap.size w W := by
  obtain ⟨q, os, rfl⟩ := h
  exact ⟨rfl, rfl, rfl, by simp [grow, World.drewN], fun k hk => by simp [grow, World.drewN, Array.getElem?_append, hk]⟩

set_option maxHeartbeats 400000 in
set_option maxRecDepth 100000 in
theorem implFactOrder_grow (v v2 : Value) (f g : LFact) (w : World) (h : RdFact w w.heap.size v f) (h2 : RdFact w w.heap.size v2 g) (hn : f.2.length ≤ 1048576) (hn2 : g.2.length ≤ 1048576) :
    Calls Try.prog 16 #[v, v2] w fun e w' => e = .returned (.int .i64 (factOrder f g)) ∧ Gr w w' := by
  obtain ⟨a, rfl, h⟩ := h
  have H := Lib.hid h
  obtain ⟨A, c, rfl, hc, _⟩ := h
  obtain ⟨a, rfl, h2⟩ := h2
  have H2 := Lib.hid h2
  obtain ⟨A2, c2, rfl, hc2, _⟩ := h2
  have HF := Lib.hid (factOrder_or f g)
  go_enter Try.func16, Try.ntmps16
  go_wp2_with (fail)
  obtain ⟨w1, hw1⟩ : ∃ w1, w1 = ((w.alloc (Obj.cells #[Value.int IntKind.i64 f.1, Value.slice A f.2.length c] 26)).alloc (Obj.cells #[Value.int IntKind.i64 g.1, Value.slice A2 g.2.length c2] 26)) := ⟨_, rfl⟩
  have B1 : Gr w w1 := by rw [hw1]; exact ((Gr.refl _).alloc _).alloc _
  have k0 : Blk w1 w.heap.size 26 #[.int .i64 f.1, .slice A f.2.length c] := by rw [hw1]; exact (Blk.new w _ _).alloc _
  have k1 : Blk w1 (w.heap.size + 1) 26 #[.int .i64 g.1, .slice A2 g.2.length c2] := by rw [hw1]; simpa using Blk.new (w.alloc (Obj.cells #[Value.int IntKind.i64 f.1, Value.slice A f.2.length c] 26)) 26 #[.int .i64 g.1, .slice A2 g.2.length c2]
  rw [← hw1]
  clear hw1
  have HS0 := Lib.hid (show ∀ W, Gr w1 W → (Gr w1 W ∧ W.cell? ⟨w.heap.size, 0, none⟩ = some (.int .i64 f.1) ∧ W.cell? ⟨w.heap.size, 1, none⟩ = some (.slice A f.2.length c) ∧ W.cell? ⟨w.heap.size + 1, 0, none⟩ = some (.int .i64 g.1) ∧ W.cell? ⟨w.heap.size + 1, 1, none⟩ = some (.slice A2 g.2.length c2)) from
    fun W hW => ⟨hW, (k0.below hW.below k0.lt).cell 0, (k0.below hW.below k0.lt).cell 1, (k1.below hW.below k1.lt).cell 0, (k1.below hW.below k1.lt).cell 1⟩)
  go_region_held3 (fun W => Gr w1 W ∧ W.cell? ⟨w.heap.size, 0, none⟩ = some (.int .i64 f.1) ∧ W.cell? ⟨w.heap.size, 1, none⟩ = some (.slice A f.2.length c) ∧ W.cell? ⟨w.heap.size + 1, 0, none⟩ = some (.int .i64 g.1) ∧ W.cell? ⟨w.heap.size + 1, 1, none⟩ = some (.slice A2 g.2.length c2))
    (first | assumption | exact HS0.out _ (Gr.refl _) | exact HS0.out _ ((Gr.refl _).alloc _).drew | exact HS0.out _ (Gr.refl _).drew | exact HS0.out _ ((And.left (by assumption) : Gr w1 _).alloc _) | exact HS0.out _ (And.left (by assumption) : Gr w1 _).drew | (refine HS0.out _ ?_; go_goals; fail))
    (first
      | (go_at_call 64; refine (cmpCompare_any _ _ _).mono ?_; rintro e w' ⟨rfl, rfl⟩)
      | (go_at_call 65; refine (slicesCompare_any _ _ f.2 g.2 _ ?_ ?_ (by omega) (by omega)).mono ?_; exact H.out.on (bthen B1.below (And.left (by assumption) : Gr w1 _).below); exact H2.out.on (bthen B1.below (And.left (by assumption) : Gr w1 _).below); rintro e w' ⟨rfl, rfl⟩)
      | (go_at_call 63; refine (cmpOr_any _ (cmpI f.1 g.1) (cmpL f.2 g.2) _ ?_).mono ?_; exact rdInts_pair _ _ _; rintro e w' ⟨rfl, rfl⟩))
  all_goals
    go_wp2_with (fail)
    go_ret
    exact ⟨ret_int HF.out, B1.trans (And.left (by assumption))⟩

end Go.Proofs.Ytfdbjoncadjhcaa
/-
  Facts in order, plain mathematics: the order, lists that ascend, FactsWith on them, and that their members determine them.
-/
namespace Go.Proofs.Ytfdbjoncadjhcaa

theorem cmpI_neg {a b : Int} : cmpI a b < 0 ↔ a < b := by
  unfold cmpI
  split
  · simp; assumption
  · split <;> simp <;> omega
theorem cmpI_pos {a b : Int} : 0 < cmpI a b ↔ b < a := by
  unfold cmpI
  split
  · simp; omega
  · split <;> simp <;> omega
theorem cmpL_eq : ∀ {xs ys : List Int}, cmpL xs ys = 0 → xs = ys
  | [], [], _ => rfl
  | [], _ :: _, h => by simp [cmpL] at h
  | _ :: _, [], h => by simp [cmpL] at h
  | x :: xs, y :: ys, h => by
    unfold cmpL at h
    split at h
    · rename_i e
      rw [e, cmpL_eq h]
    · exact absurd (cmpI_zero h) (by assumption)
theorem cmpL_refl : ∀ xs : List Int, cmpL xs xs = 0
  | [] => rfl
  | x :: xs => by simp [cmpL, cmpL_refl xs]
theorem cmpL_flip : ∀ {xs ys : List Int}, cmpL xs ys < 0 ↔ 0 < cmpL ys xs
  | [], [] => by simp [cmpL]
  | [], _ :: _ => by simp [cmpL]
  | _ :: _, [] => by simp [cmpL]
  | x :: xs, y :: ys => by
    unfold cmpL
    by_cases e : x = y
    · subst e
      simpa using cmpL_flip
    · rw [if_neg e, if_neg (fun h => e h.symm), cmpI_neg, cmpI_pos]
theorem cmpL_less : ∀ {xs ys zs : List Int}, cmpL xs ys < 0 → cmpL ys zs < 0 → cmpL xs zs < 0
  | [], [], _, h, _ => by simp [cmpL] at h
  | [], _ :: _, [], _, h => by simp [cmpL] at h
  | [], _ :: _, _ :: _, _, _ => by simp [cmpL]
  | _ :: _, [], _, h, _ => by simp [cmpL] at h
  | _ :: _, _ :: _, [], _, h => by simp [cmpL] at h
  | x :: xs, y :: ys, z :: zs, h1, h2 => by
    unfold cmpL at h1 h2 ⊢
    by_cases e1 : x = y
    · subst e1
      by_cases e2 : x = z
      · simp only [e2, if_true] at h1 h2 ⊢
        exact cmpL_less h1 h2
      · simpa [e2] using h2
    · by_cases e2 : y = z
      · subst e2
        simpa [e1] using h1
      · rw [if_neg e1] at h1
        rw [if_neg e2] at h2
        rw [cmpI_neg] at h1 h2
        rw [if_neg (by omega), cmpI_neg]
        omega

theorem order_eq {f g : LFact} (h : factOrder f g = 0) : f = g := by
  unfold factOrder at h
  split at h
  · exact Prod.ext (by assumption) (cmpL_eq h)
  · exact absurd (cmpI_zero h) (by assumption)
theorem order_refl (f : LFact) : factOrder f f = 0 := by simp [factOrder, cmpL_refl]
theorem order_flip {f g : LFact} : factOrder f g < 0 ↔ 0 < factOrder g f := by
  unfold factOrder
  by_cases e : f.1 = g.1
  · rw [if_pos e, if_pos e.symm]
    exact cmpL_flip
  · rw [if_neg e, if_neg (fun h => e h.symm), cmpI_neg, cmpI_pos]
theorem order_less {f g h : LFact} (h1 : factOrder f g < 0) (h2 : factOrder g h < 0) : factOrder f h < 0 := by
  unfold factOrder at h1 h2 ⊢
  by_cases e1 : f.1 = g.1
  · by_cases e2 : g.1 = h.1
    · rw [if_pos e1] at h1
      rw [if_pos e2] at h2
      rw [if_pos (e1.trans e2)]
      exact cmpL_less h1 h2
    · rw [if_neg e2] at h2
      rw [if_neg (fun e => e2 (e1.symm.trans e)), e1]
      exact h2
  · by_cases e2 : g.1 = h.1
    · rw [if_neg e1] at h1
      rw [if_neg (fun e => e1 (e.trans e2.symm)), ← e2]
      exact h1
    · rw [if_neg e1, cmpI_neg] at h1
      rw [if_neg e2, cmpI_neg] at h2
      rw [if_neg (by omega), cmpI_neg]
      omega
theorem order_cases (f g : LFact) : factOrder f g < 0 ∨ f = g ∨ factOrder g f < 0 := by
  rcases Int.lt_trichotomy (factOrder f g) 0 with h | h | h
  · exact .inl h
  · exact .inr (.inl (order_eq h))
  · exact .inr (.inr (order_flip.2 h))

/-- The list ascends, each fact once. -/
def Asc (l : List LFact) : Prop := l.Pairwise fun f g => factOrder f g < 0

/-- Lists that ascend and have the same members are the same. -/
theorem Asc.unique : ∀ {l m : List LFact}, Asc l → Asc m → (∀ f, f ∈ l ↔ f ∈ m) → l = m
  | [], [], _, _, _ => rfl
  | [], g :: m, _, _, h => absurd ((h g).2 (List.mem_cons_self ..)) (by simp)
  | f :: l, [], _, _, h => absurd ((h f).1 (List.mem_cons_self ..)) (by simp)
  | f :: l, g :: m, hl, hm, h => by
    have hl' := List.pairwise_cons.1 hl
    have hm' := List.pairwise_cons.1 hm
    have e : f = g := by
      rcases List.mem_cons.1 ((h f).1 (List.mem_cons_self ..)) with e | e
      · exact e
      rcases List.mem_cons.1 ((h g).2 (List.mem_cons_self ..)) with e' | e'
      · exact e'.symm
      have h1 := hm'.1 f e
      have h2 := hl'.1 g e'
      have := order_less h1 h2
      rw [order_refl] at this
      omega
    subst e
    refine congrArg (f :: ·) (Asc.unique hl'.2 hm'.2 fun x => ⟨fun hx => ?_, fun hx => ?_⟩)
    · rcases List.mem_cons.1 ((h x).1 (List.mem_cons_of_mem _ hx)) with e | e
      · subst e
        have := hl'.1 x hx
        rw [order_refl] at this
        omega
      · exact e
    · rcases List.mem_cons.1 ((h x).2 (List.mem_cons_of_mem _ hx)) with e | e
      · subst e
        have := hm'.1 x hx
        rw [order_refl] at this
        omega
      · exact e

/-- Insertion. -/
def ins (f : LFact) : List LFact → List LFact
  | [] => [f]
  | g :: l => if factOrder f g < 0 then f :: g :: l else if factOrder f g = 0 then f :: l else g :: ins f l

theorem ins_mem (f : LFact) : ∀ (l : List LFact) (x : LFact), x ∈ ins f l ↔ x = f ∨ x ∈ l
  | [], x => by simp [ins]
  | g :: l, x => by
    unfold ins
    split
    · simp
    · split
      · have e := order_eq (by assumption : factOrder f g = 0)
        subst e
        simp
      · simp [ins_mem f l x]
        constructor
        · rintro (h | h | h) <;> simp [h]
        · rintro (h | h | h) <;> simp [h]
theorem Asc.ins {f : LFact} : ∀ {l : List LFact}, Asc l → Asc (ins f l)
  | [], _ => by simp [Go.Proofs.Ytfdbjoncadjhcaa.ins, Asc]
  | g :: l, h => by
    have h' := List.pairwise_cons.1 h
    unfold Go.Proofs.Ytfdbjoncadjhcaa.ins
    split
    · rename_i hlt
      refine List.pairwise_cons.2 ⟨fun x hx => ?_, h⟩
      rcases List.mem_cons.1 hx with e | e
      · rw [e]; exact hlt
      · exact order_less hlt (h'.1 x e)
    · split
      · have e := order_eq (by assumption : factOrder f g = 0)
        subst e
        exact h
      · refine List.pairwise_cons.2 ⟨fun x hx => ?_, Asc.ins h'.2⟩
        rcases (ins_mem f l x).1 hx with e | e
        · subst e
          rcases order_cases x g with h1 | h1 | h1
          · exact absurd h1 (by assumption)
          · subst h1
            exact absurd (order_refl x) (by assumption)
          · exact h1
        · exact h'.1 x e

/-- FactsWith's fold, from a state where the fact is placed already and the rest ascends behind it. -/
theorem withStep_placed (f : LFact) : ∀ (l : List LFact) (out : List LFact), (∀ g ∈ l, factOrder f g ≠ 0) → l.foldl (withStep f) (out, true) = (out ++ l, true)
  | [], out, _ => by simp
  | g :: l, out, h => by
    have h0 := h g (List.mem_cons_self ..)
    simp only [List.foldl_cons, withStep]
    simp [h0]
    rw [withStep_placed f l (out ++ [g]) fun x hx => h x (List.mem_cons_of_mem _ hx)]
    simp

def endW (f : LFact) (s : List LFact × Bool) : List LFact := if s.2 then s.1 else s.1 ++ [f]
theorem withStep_fold (f : LFact) : ∀ (l : List LFact) (out : List LFact), Asc l → endW f (l.foldl (withStep f) (out, false)) = out ++ ins f l
  | [], out, _ => by simp [ins, endW]
  | g :: l, out, h => by
    have h' := List.pairwise_cons.1 h
    simp only [List.foldl_cons]
    rcases Int.lt_trichotomy (factOrder f g) 0 with h1 | h1 | h1
    · have e : withStep f (out, false) g = (out ++ [f] ++ [g], true) := by
        simp [withStep, show factOrder f g ≤ 0 by omega, show factOrder f g ≠ 0 by omega]
      rw [e, withStep_placed f l _ fun x hx => by have := order_less h1 (h'.1 x hx); omega]
      simp [ins, h1, endW]
    · have e : withStep f (out, false) g = (out ++ [f], true) := by
        simp [withStep, h1]
      have e2 := order_eq h1
      subst e2
      rw [e, withStep_placed f l _ fun x hx => by have := h'.1 x hx; omega]
      simp [ins, order_refl, endW]
    · have e : withStep f (out, false) g = (out ++ [g], false) := by
        simp [withStep, show ¬ factOrder f g ≤ 0 by omega, show factOrder f g ≠ 0 by omega]
      rw [e, withStep_fold f l _ h'.2]
      simp [ins, show ¬ factOrder f g < 0 by omega, show factOrder f g ≠ 0 by omega]

/-- FactsWith on a list that ascends is insertion. -/
theorem Asc.with_ {l : List LFact} (h : Asc l) (f : LFact) : factsWith l f = Go.Proofs.Ytfdbjoncadjhcaa.ins f l := by
  have := withStep_fold f l [] h
  unfold endW at this
  unfold factsWith withTo
  rw [List.take_length]
  simpa using this

/-- Facts laid into a list, one after another. -/
def setOf (l : List LFact) : List LFact := l.foldl factsWith []
theorem foldWith : ∀ (l : List LFact) (out : List LFact), Asc out → Asc (l.foldl factsWith out) ∧ ∀ x, x ∈ l.foldl factsWith out ↔ x ∈ out ∨ x ∈ l
  | [], out, h => by simpa using h
  | f :: l, out, h => by
    have h1 : Asc (factsWith out f) := by rw [h.with_ f]; exact h.ins
    obtain ⟨h2, h3⟩ := foldWith l _ h1
    refine ⟨h2, fun x => ?_⟩
    rw [List.foldl_cons, h3 x, h.with_ f, ins_mem]
    simp only [List.mem_cons]
    constructor
    · rintro ((h | h) | h) <;> simp [h]
    · rintro (h | h | h) <;> simp [h]
theorem setOf_asc (l : List LFact) : Asc (setOf l) := (foldWith l [] List.Pairwise.nil).1
theorem setOf_mem (l : List LFact) (x : LFact) : x ∈ setOf l ↔ x ∈ l := by
  rw [setOf, (foldWith l [] List.Pairwise.nil).2 x]
  simp

/-- The list ascends, a fact perhaps more than once. -/
def Up (l : List LFact) : Prop := l.Pairwise fun f g => factOrder f g ≤ 0
/-- Of equal neighbours the last one. -/
def compactL : List LFact → List LFact
  | [] => []
  | [f] => [f]
  | f :: g :: l => if factOrder f g = 0 then compactL (g :: l) else f :: compactL (g :: l)
theorem compactL_mem : ∀ (l : List LFact) (x : LFact), x ∈ compactL l ↔ x ∈ l
  | [], x => by simp [compactL]
  | [f], x => by simp [compactL]
  | f :: g :: l, x => by
    unfold compactL
    split
    · have e := order_eq (by assumption : factOrder f g = 0)
      subst e
      rw [compactL_mem (f :: l) x]
      simp
    · rw [List.mem_cons, compactL_mem (g :: l) x]
      simp
theorem Up.asc : ∀ {l : List LFact}, Up l → Asc (compactL l)
  | [], _ => List.Pairwise.nil
  | [f], _ => by simp [compactL, Asc]
  | f :: g :: l, h => by
    have h' := List.pairwise_cons.1 h
    unfold compactL
    split
    · exact Up.asc h'.2
    · refine List.pairwise_cons.2 ⟨fun x hx => ?_, Up.asc h'.2⟩
      rw [compactL_mem] at hx
      have hfg : factOrder f g < 0 := by
        have := h'.1 g (List.mem_cons_self ..)
        omega
      rcases List.mem_cons.1 hx with e | e
      · rw [e]; exact hfg
      · have h2 := (List.pairwise_cons.1 h'.2).1 x e
        rcases Int.lt_trichotomy (factOrder g x) 0 with h3 | h3 | h3
        · exact order_less hfg h3
        · rw [← order_eq h3]; exact hfg
        · omega

/-- Sorted and compacted, and laid one after another: the same. -/
theorem compact_setOf {s l : List LFact} (h : Up s) (hm : ∀ x, x ∈ s ↔ x ∈ l) : compactL s = setOf l :=
  h.asc.unique (setOf_asc l) fun x => by rw [compactL_mem, setOf_mem, hm]
theorem compact_filter {s l : List LFact} (h : Up s) (hm : ∀ x, x ∈ s ↔ x ∈ l) (p : LFact → Bool) : (compactL s).filter p = setOf (l.filter p) :=
  Asc.unique (h.asc.filter p) (setOf_asc _) fun x => by rw [List.mem_filter, compactL_mem, setOf_mem, List.mem_filter, hm]

end Go.Proofs.Ytfdbjoncadjhcaa
/-
  slices.SortFunc at facts by FactOrder: a permutation, ascending.
-/
namespace Go.Proofs.Ytfdbjoncadjhcaa
open Go.RowKit Go.Sort

/-- An element of the row: a fact, its header, which reads in blocks below g. -/
def El (w : World) (g : Nat) : Type := { x : LFact × Value // RdInts w g x.2 x.1.2 ∧ x.1.2.length ≤ 1048576 }
instance (w : World) (g : Nat) : Inhabited (El w g) := ⟨⟨((0, []), .slice none 0 0), ⟨none, 0, rfl, by simp, fun h => absurd h (by simp)⟩, by simp⟩⟩
def encE {w : World} {g : Nat} (x : El w g) : List Value := [.int .i64 x.1.1.1, x.1.2]
def cfE {w : World} {g : Nat} (x y : El w g) : Int := factOrder x.1.1 y.1.1

section
variable {w : World} {g : Nat}
theorem ltE (x y : El w g) : ltOf cfE x y = decide (factOrder x.1.1 y.1.1 < 0) := rfl
theorem swoE : SWO (ltOf (cfE (w := w) (g := g))) where
  irrefl x := by rw [ltE, order_refl]; rfl
  trans x y z h1 h2 := by
    rw [ltE] at *
    exact decide_eq_true (order_less (of_decide_eq_true h1) (of_decide_eq_true h2))
  ntrans x y z h1 h2 := by
    rw [ltE] at *
    refine decide_eq_false fun h3 => ?_
    have h1 := of_decide_eq_false h1
    have h2 := of_decide_eq_false h2
    rcases order_cases x.1.1 y.1.1 with h | h | h
    · exact h1 h
    · rw [h] at h3
      exact h2 h3
    · exact h2 (order_less h h3)

theorem below_sortWorld {α : Type} [Inhabited α] (enc : α → List Value) (m : Nat) (dk : Array α) (os : Array Obj) : Only g (g + 1) w (sortWorldK enc 2 w g 0 m dk os) := by
  refine ⟨rfl, rfl, rfl, ?_, fun k hk ho => ?_⟩
  · simp [sortWorldK, putRowK, putRow, mapBlock, Sort.grow, Sort.ahead]
  · have hne : ¬ g = k := by omega
    simp only [sortWorldK, putRowK, putRow, mapBlock, Sort.grow, Sort.ahead, Array.getElem?_append, Array.size_modify, Array.getElem?_modify, hne, if_false]
    rw [if_pos hk]

theorem flatE : ∀ (l : List (El w g)), (flatK encE 2 l.toArray).toList = flat (l.map (·.1.1)) (l.map (·.1.2)) := by
  intro l
  have hl : (l.map fun x : El w g => x.1.2).length = (l.map fun x : El w g => x.1.1).length := by simp
  have hfl := flat_length (l.map fun x : El w g => x.1.1) (l.map fun x : El w g => x.1.2) hl
  simp only [List.length_map] at hfl
  have hsz : (flatK encE 2 l.toArray).size = l.length * 2 := by simp
  apply List.ext_getElem
  · rw [Array.length_toList, hsz, hfl]
  · intro t h1 h2
    rw [Array.length_toList, hsz] at h1
    have hk : t / 2 < l.length := by omega
    obtain ⟨c0, c1⟩ := flat_at (l.map fun x : El w g => x.1.1) (l.map fun x : El w g => x.1.2) hl (t / 2) (by simpa using hk) (by simpa using hk)
    have hget : (flatK encE 2 l.toArray)[t]'(by rw [hsz]; exact h1) = (encE l[t / 2])[t % 2]! := by
      have := get_flatK (encE (w := w) (g := g)) 2 l.toArray t (by simpa using h1)
      rw [getElem!_pos _ _ (by rw [hsz]; exact h1)] at this
      rw [this]
      congr 2
      rw [getElem!_pos _ _ (by simpa using hk)]
      simp
    rw [Array.getElem_toList, hget]
    apply Option.some.inj
    rw [← List.getElem?_eq_getElem h2]
    rcases (show t % 2 = 0 ∨ t % 2 = 1 by omega) with e | e
    · have et : t = t / 2 * 2 := by omega
      rw [e]
      conv => rhs; rw [et, c0]
      simp [encE]
    · have et : t = t / 2 * 2 + 1 := by omega
      rw [e]
      conv => rhs; rw [et, c1]
      simp [encE]

theorem elems {fs : List LFact} {av : List Value} (h : RdArgs w g av fs) (hl : ∀ k (hk : k < fs.length), fs[k].2.length ≤ 1048576) : ∃ l : List (El w g), l.map (·.1.1) = fs ∧ l.map (·.1.2) = av := by
  let F : Fin fs.length → El w g := fun i => ⟨(fs[i.1], av[i.1]'(by have := i.2; have := h.1; omega)), h.2 i.1 i.2 _ i.2, hl i.1 i.2⟩
  refine ⟨List.ofFn F, ?_, ?_⟩
  · apply List.ext_getElem
    · rw [List.length_map, List.length_ofFn]
    · intro k k1 k2
      rw [List.getElem_map, List.getElem_ofFn]
  · apply List.ext_getElem
    · rw [List.length_map, List.length_ofFn, h.1]
    · intro k k1 k2
      rw [List.getElem_map, List.getElem_ofFn]

theorem rdE (l : List (El w g)) : RdArgs w g (l.map (·.1.2)) (l.map (·.1.1)) := ⟨by simp, fun k _ h2 h3 => by simpa using (l[k]'(by simpa using h3)).2.1⟩
end

theorem RdArgs.below {w w' : World} {B B' : Nat} {av : List Value} {fs : List LFact} (h : RdArgs w B av fs) (hb : Below B' w w') (hB : B ≤ B') : RdArgs w' B av fs := ⟨h.1, fun k h1 h2 h3 => (h.2 k h1 h2 h3).below hb hB⟩
theorem RdArgs.more {w : World} {B B' : Nat} {av : List Value} {fs : List LFact} (h : RdArgs w B av fs) (hB : B ≤ B') : RdArgs w B' av fs := ⟨h.1, fun k h1 h2 h3 => (h.2 k h1 h2 h3).more hB⟩

/-- The row at block g, from its start, holds facts with these headers. -/
def AtRow (w : World) (g cap : Nat) (fs : List LFact) (av : List Value) : Prop :=
  ∃ cur, w.heap[g]? = some (.cells cur 26 (0, 0)) ∧ fs.length ≤ cap ∧ cap ≤ maxLen ∧ cur.size = cap * 2 ∧ cur.toList.take (fs.length * 2) = flat fs av
theorem AtRow.lt {w : World} {g cap : Nat} {fs : List LFact} {av : List Value} (h : AtRow w g cap fs av) : g < w.heap.size := by
  obtain ⟨cur, hg, _⟩ := h
  exact Blk.lt hg
theorem RowF.at_ {w : World} {base c : Nat} {A : Option Addr} {fs : List LFact} {av : List Value} (h : RowF w base A c fs av) (hn : 0 < fs.length) : ∃ g, A = some ⟨g, 0, none⟩ ∧ base ≤ g ∧ AtRow w g c fs av := by
  rcases h.row.2 with ⟨_, h0⟩ | ⟨g, cap, cur, e, hb, hgg, r1, r2, r3, r4⟩
  · omega
  · injection e with e1 _ e3
    subst e1
    subst e3
    exact ⟨g, rfl, hb, cur, hgg, r1, r2, r3, r4⟩
theorem AtRow.row {w : World} {base g c : Nat} {fs : List LFact} {av : List Value} (h : AtRow w g c fs av) (hl : av.length = fs.length) (hb : base ≤ g) : w.ownsRow base 26 2 (.slice (some ⟨g, 0, none⟩) fs.length c) fs.length (flat fs av) := by
  obtain ⟨cur, hg, h1, h2, h3, h4⟩ := h
  exact ⟨flat_length _ _ hl, .inr ⟨g, c, cur, rfl, hb, hg, h1, h2, h3, h4⟩⟩
theorem AtRow.cell {w : World} {g c : Nat} {fs : List LFact} {av : List Value} (h : AtRow w g c fs av) {j : Nat} (hj : j < fs.length * 2) : w.cell? ⟨g, j, none⟩ = (flat fs av)[j]? := by
  obtain ⟨cur, hg, h1, h2, h3, h4⟩ := h
  rw [Blk.cell hg, ← h4, List.getElem?_take_of_lt hj, Array.getElem?_toList]
theorem AtRow.frozen {w : World} {g c : Nat} {fs : List LFact} {av : List Value} (h : AtRow w g c fs av) (j : Nat) : w.frozen? ⟨g, j, none⟩ = false := by
  obtain ⟨cur, hg, _⟩ := h
  exact Blk.frozen hg j

end Go.Proofs.Ytfdbjoncadjhcaa
/-
  sameFact.
-/
namespace Go.Proofs.Ytfdbjoncadjhcaa
open Go.RowKit Go.Sort

end Go.Proofs.Ytfdbjoncadjhcaa
/-
  Compacting, plain mathematics; a row of facts under stores.
-/
namespace Go.Proofs.Ytfdbjoncadjhcaa
open Go.RowKit Go.Sort

theorem same_iff (f g : LFact) : (factOrder f g == 0) = decide (f = g) := by
  by_cases h : f = g
  · subst h
    simp [order_refl]
  · rw [decide_eq_false h]
    simpa using fun e => h (order_eq e)

theorem compactL_snoc : ∀ (l : List LFact) (a b : LFact), compactL (l ++ [a, b]) = if a = b then compactL (l ++ [a]) else compactL (l ++ [a]) ++ [b]
  | [], a, b => by
    by_cases h : a = b
    · subst h
      simp [compactL, order_refl]
    · have : factOrder a b ≠ 0 := fun e => h (order_eq e)
      simp [compactL, this, h]
  | [x], a, b => by
    have ih := compactL_snoc [] a b
    simp only [List.nil_append] at ih
    show compactL (x :: a :: [b]) = _
    by_cases hx : factOrder x a = 0
    · rw [compactL, if_pos hx]
      show compactL [a, b] = _
      rw [ih, show compactL ([x] ++ [a]) = compactL [a] by simp [compactL, hx]]
    · rw [compactL, if_neg hx]
      show x :: compactL [a, b] = _
      rw [ih, show compactL ([x] ++ [a]) = x :: compactL [a] by simp [compactL, hx]]
      split <;> rfl
  | x :: y :: l, a, b => by
    have ih := compactL_snoc (y :: l) a b
    have e1 : x :: y :: l ++ [a, b] = x :: (y :: (l ++ [a, b])) := rfl
    have e2 : x :: y :: l ++ [a] = x :: (y :: (l ++ [a])) := rfl
    have e3 : y :: l ++ [a, b] = y :: (l ++ [a, b]) := rfl
    have e4 : y :: l ++ [a] = y :: (l ++ [a]) := rfl
    rw [e3, e4] at ih
    rw [e1, e2]
    by_cases hx : factOrder x y = 0
    · rw [compactL, if_pos hx, ih, compactL, if_pos hx]
    · rw [compactL, if_neg hx, ih, compactL, if_neg hx]
      split <;> rfl
/-- One more place. -/
theorem compact_step {fs : List LFact} {j : Nat} (h : j + 1 < fs.length) : compactL (fs.take (j + 2)) = if fs[j] = fs[j + 1] then compactL (fs.take (j + 1)) else compactL (fs.take (j + 1)) ++ [fs[j + 1]] := by
  have e1 : fs.take (j + 2) = fs.take j ++ [fs[j], fs[j + 1]] := by
    rw [take_snoc fs (j + 1) h, take_snoc fs j (by omega), List.append_assoc]
    rfl
  have e2 : fs.take (j + 1) = fs.take j ++ [fs[j]] := take_snoc fs j (by omega)
  rw [e1, e2]
  exact compactL_snoc _ _ _
theorem compactL_length_le : ∀ l : List LFact, (compactL l).length ≤ l.length
  | [] => by simp [compactL]
  | [f] => by simp [compactL]
  | f :: g :: l => by
    have := compactL_length_le (g :: l)
    unfold compactL
    split <;> simp at this ⊢ <;> omega

theorem flat_set_v : ∀ (fs : List LFact) (av : List Value) (j : Nat) (a : Value), av.length = fs.length → j < fs.length → flat fs (av.set j a) = (flat fs av).set (j * 2 + 1) a
  | [], _, j, _, _, h => absurd h (by simp)
  | _ :: _, [], _, _, h, _ => by simp at h
  | f :: fs, b :: av, 0, a, _, _ => by simp [flat]
  | f :: fs, b :: av, j + 1, a, h, hj => by
    have := flat_set_v fs av j a (by simpa using h) (by simpa using hj)
    rw [show (j + 1) * 2 + 1 = j * 2 + 1 + 1 + 1 by omega]
    simp [flat, this]

section
variable {w w' : World} {g c : Nat} {fs : List LFact} {av : List Value}
theorem AtRow.keep (h : AtRow w g c fs av) (hk : w'.heap[g]? = w.heap[g]?) : AtRow w' g c fs av := by
  obtain ⟨cur, hg, r⟩ := h
  exact ⟨cur, hk.trans hg, r⟩
theorem AtRow.below {B : Nat} (h : AtRow w g c fs av) (hb : Below B w w') (hB : g < B) : AtRow w' g c fs av := h.keep (hb.block g hB)
theorem AtRow.len (h : AtRow w g c fs av) : fs.length ≤ c := by
  obtain ⟨cur, _, h1, _⟩ := h
  exact h1
/-- A fact laid at a place. -/
theorem AtRow.set (h : AtRow w g c fs av) (hl : av.length = fs.length) {k : Nat} (hk : k < fs.length) (f : LFact) (a : Value) : AtRow ((w.setCell ⟨g, k * 2, none⟩ (.int .i64 f.1)).setCell ⟨g, k * 2 + 1, none⟩ a) g c (fs.set k f) (av.set k a) := by
  obtain ⟨cur, hg, h1, h2, h3, h4⟩ := h
  have s1 := Blk.set_ (show Blk w g 26 cur from hg) (k * 2) (.int .i64 f.1)
  have s2 := s1.set_ (k * 2 + 1) a
  refine ⟨_, s2, by simpa using h1, h2, by simpa using h3, ?_⟩
  rw [flat_set_v (fs.set k f) av k a (by simpa using hl) (by simpa using hk), flat_set fs av k f hl, ← h4]
  apply List.ext_getElem?
  intro j
  simp only [List.length_set, List.getElem?_take, Array.getElem?_toList, Array.getElem?_setIfInBounds, List.getElem?_set, Array.size_setIfInBounds, List.length_take, Array.length_toList]
  have hb : fs.length * 2 ≤ cur.size := by omega
  by_cases e1 : k * 2 + 1 = j
  · subst e1
    have : k * 2 + 1 < fs.length * 2 := by omega
    have h5 : k * 2 + 1 < cur.size := by omega
    simp [this, h5]
    omega
  · by_cases e2 : k * 2 = j
    · subst e2
      have : k * 2 < fs.length * 2 := by omega
      have h5 : k * 2 < cur.size := by omega
      simp [this, h5]
      omega
    · by_cases h6 : j < fs.length * 2
      · simp [e1, e2, h6]
      · simp [e1, e2, h6]
/-- The first m alone. -/
theorem AtRow.take (h : AtRow w g c fs av) (hl : av.length = fs.length) {m : Nat} (hm : m ≤ fs.length) : AtRow w g c (fs.take m) (av.take m) := by
  obtain ⟨cur, hg, h1, h2, h3, h4⟩ := h
  refine ⟨cur, hg, by simp; omega, h2, h3, ?_⟩
  have hlm : (fs.take m).length = m := by simp; omega
  rw [hlm]
  have e : flat fs av = flat (fs.take m) (av.take m) ++ flat (fs.drop m) (av.drop m) := by
    rw [← flat_append _ _ (by simp [hl]), List.take_append_drop, List.take_append_drop]
  have hfl := flat_length (fs.take m) (av.take m) (by simp [hl])
  rw [hlm] at hfl
  rw [e] at h4
  have := congrArg (List.take (m * 2)) h4
  rw [List.take_take, show min (m * 2) (fs.length * 2) = m * 2 by omega, List.take_append_of_le_length (by omega), ← hfl, List.take_length] at this
  rw [← hfl]
  exact this
end

theorem setCells_heap (g : Nat) : ∀ (vs : List Value) (o : Nat) (w : World) (cur : Array Value) (t : TypeId), w.heap[g]? = some (.cells cur t (0, 0)) →
    ∃ cur', (w.setCells g o vs).heap[g]? = some (.cells cur' t (0, 0)) ∧ cur'.size = cur.size ∧ (∀ j, j < o → cur'[j]? = cur[j]?) ∧ Only g (g + 1) w (w.setCells g o vs)
  | [], _, w, cur, t, h => ⟨cur, h, rfl, fun _ _ => rfl, Only.refl _ _ _⟩
  | v :: vs, o, w, cur, t, h => by
    obtain ⟨cur', h1, h2, h3, h4⟩ := setCells_heap g vs (o + 1) (w.setCell ⟨g, o, none⟩ v) _ t (Blk.set_ (show Blk w g t cur from h) o v)
    refine ⟨cur', h1, by simpa using h2, fun j hj => ?_, (Only.setCell (p := ⟨g, o, none⟩) (Only.refl g (g + 1) w) ⟨Nat.le_refl g, Nat.lt_succ_self g⟩ v).trans h4⟩
    rw [h3 j (by omega), Array.getElem?_setIfInBounds]
    rw [if_neg (by omega)]

/-- clear of the places from k on. -/
theorem run_clear_facts {w : World} {g c : Nat} {fs : List LFact} {av : List Value} (h : AtRow w g c fs av) {k : Nat} (hk : k < fs.length) (d : Nat) :
    ∃ W, (∀ ty, (Builtin.clear_ #[39] ty #[.slice (some ⟨g, k * 2, none⟩) (fs.length - k) d]).run Try.prog w = .ok (.tuple #[]) W) ∧ Only g (g + 1) w W ∧ ((av.length = fs.length) → AtRow W g c (fs.take k) (av.take k)) := by
  obtain ⟨cur, hg, h1, h2, h3, h4⟩ := h
  have hz : ∀ W, (zeroValue 26).run Try.prog W = .ok (.agg #[.int .i64 0, .slice none 0 0]) W := Try.zeroValue26
  obtain ⟨zc, hzc⟩ : ∃ zc, zc = (Builtin.zeroCells #[Value.int IntKind.i64 0, Value.slice none 0 0] (fs.length - k)).toList := ⟨_, rfl⟩
  have hzl : zc.length = (fs.length - k) * 2 := by rw [hzc, Array.length_toList, size_zeroPairs]
  have hz1 : ∀ v ∈ zc, v.oneCell' = true := by
    intro v hv
    rw [hzc] at hv
    simp [Builtin.zeroCells] at hv
    obtain ⟨i, _, hi⟩ := hv
    rcases (show i % 2 = 0 ∨ i % 2 = 1 by omega) with e | e
    · rw [e] at hi
      simp at hi
      rw [← hi]
      rfl
    · rw [e] at hi
      simp at hi
      rw [← hi]
      rfl
  have hst := run_storeCells_cells (P := Try.prog) g (k * 2) zc 0 w (fun j hj => by
      rw [Blk.cell hg, Array.getElem?_eq_getElem (by omega)]
      rfl) (fun j _ => Blk.frozen hg _) hz1
  rw [Nat.add_zero] at hst
  obtain ⟨cur', g1, g2, g3, g4⟩ := setCells_heap g zc (k * 2) w cur _ hg
  refine ⟨w.setCells g (k * 2) zc, fun ty => ?_, g4, fun hl => ?_⟩
  · obtain ⟨m, hm⟩ : ∃ m, fs.length - k = m + 1 := ⟨fs.length - k - 1, by omega⟩
    rw [hm] at hzc ⊢
    simp only [Builtin.clear_]
    simp [run_underlying Try.underlying39, hz, Value.cells, ← hzc, hst]
  · have hA : AtRow w g c fs av := ⟨cur, hg, h1, h2, h3, h4⟩
    obtain ⟨_, hg', _, _, _, h4'⟩ := hA.take hl (Nat.le_of_lt hk)
    rw [hg] at hg'
    injection hg' with hg'
    injection hg' with hg' _ _
    subst hg'
    refine ⟨cur', g1, by simp; omega, h2, by rw [g2]; exact h3, ?_⟩
    rw [← h4']
    have hlk : (fs.take k).length = k := by simp; omega
    rw [hlk]
    apply List.ext_getElem?
    intro j
    rw [List.getElem?_take, List.getElem?_take]
    split
    · rw [Array.getElem?_toList, Array.getElem?_toList]
      exact g3 j (by omega)
    · rfl

end Go.Proofs.Ytfdbjoncadjhcaa
