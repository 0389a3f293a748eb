/-
  Texts that the claim's last one imports, laid together: part 2 of 8. No condition of its own.
-/
import Derived.OrdersHeld
import Derived.Deep.RegionHeld3
import Derived.StillTailTactics
import Derived.Deep.QuietTactic
import Derived.BigQuiet
import Derived.Test.YtofkcmihcgmmpaaChecked
import Derived.ProofKit
import Derived.OpenShut
import Derived.ChangeOld
import Derived.WalkKit
import Derived.Deep.Slices
import Derived.Deep.Fields
import Derived.ChangeSame
import Derived.Lib.SmallJoins
import Derived.KernelRfl
import Derived.Test.YtofkcmihcgmmpaaMHo1
/-
  Regions that draw their order and end in a store to a cell that they load: the condition on the world holds until operation t has come up, and is released then. Laws of any program.
-/
namespace Go.Proofs.Ytofkcmihcgmmpaa
open Go

section
variable {P : Program} {ops : Array Oper} {Q : Exit → Act → World → Prop} {md : Region.Mode} {S : World → Prop} {t : Nat}

/-- Whatever order is picked from here on, and S holds behind each operation that is carried out, until t has come up. -/
def wpAnyR (P : Program) (md : Region.Mode) (ops : Array Oper) (Q : Exit → Act → World → Prop) (S : World → Prop) (t : Nat) : Nat → Array Bool → Act → World → Prop
  | 0, listed, a, w => Region.ready md ops listed = [] ∧ Q .normal a w
  | fuel + 1, listed, a, w =>
    (Region.ready md ops listed = [] → Q .normal a w) ∧
    ∀ i ∈ Region.ready md ops listed, wpOp P ops Q i (fun a' w' => ((listed.setIfInBounds i true).getD t true = false → S w') ∧ wpAnyR P md ops Q S t fuel (listed.setIfInBounds i true) a' w') a w

theorem wpAny_of_rel : ∀ (fuel : Nat) (listed : Array Bool) (a : Act) (w : World), wpAnyR P md ops Q S t fuel listed a w → wpAny P md ops Q fuel listed a w
  | 0, _, _, _, h => h
  | fuel + 1, _, _, _, h => ⟨h.1, fun i hi => wpOp_mono (fun a' w' h' => wpAny_of_rel fuel _ a' w' h'.2) (h.2 i hi)⟩

/-- None of D has come up, and each waits for i or for one of D. -/
def blockedB (md : Region.Mode) (ops : Array Oper) (listed : Array Bool) (i : Nat) (D : List Nat) : Bool :=
  !D.contains i && D.all fun d => !listed.getD d true && ((ops[d]?).map fun o => o.after.any fun e => Region.binds md e && (e.on == i || D.contains e.on)).getD false

/-- None of D may come up while i has not. -/
theorem not_ready_of_blocked {listed : Array Bool} {i : Nat} {D : List Nat} (h : blockedB md ops listed i D = true) (hi : listed.getD i true = false) {d : Nat} (hd : d ∈ D) : d ∉ Region.ready md ops listed := by
  intro hr
  obtain ⟨_, o, ho, hall⟩ := mem_ready.1 hr
  simp only [blockedB, Bool.and_eq_true, List.all_eq_true] at h
  have h2 := (h.2 d hd).2
  rw [ho] at h2
  simp only [Option.map_some, Option.getD_some, Array.any_eq_true', Bool.and_eq_true, Bool.or_eq_true, beq_iff_eq] at h2
  obtain ⟨e, he, hb, hon⟩ := h2
  have hl := hall e he hb
  have un : ∀ k : Nat, listed.getD k true = false → listed.getD k false = true → False := by
    intro k h1 h2
    rcases Nat.lt_or_ge k listed.size with h' | h'
    · simp [h'] at h1 h2
      rw [h1] at h2
      cases h2
    · simp [Array.getElem?_eq_none h'] at h1
  rcases hon with e1 | e1
  · rw [e1] at hl
    exact un i hi hl
  · have h3 := (h.2 e.on (by simpa using e1)).1
    exact un _ (by simpa using h3) hl

theorem blocked_set {listed : Array Bool} {i j : Nat} {D : List Nat} (h : blockedB md ops listed i D = true) (hj : j ∉ D) : blockedB md ops (listed.setIfInBounds j true) i D = true := by
  simp only [blockedB, Bool.and_eq_true, List.all_eq_true] at h ⊢
  refine ⟨h.1, fun d hd => ?_⟩
  have := h.2 d hd
  refine ⟨?_, this.2⟩
  rw [getD_set_ne true (show j ≠ d from fun e => hj (by rw [e]; exact hd))]
  exact this.1

theorem wpAnyR_first {i : Nat} {oi : Oper} {v : Value} {D : List Nat} (hi : ops[i]? = some oi) (hsel : ∀ (j : Nat) (o : Oper) cs b, ops[j]? = some o → o.op ≠ .select cs b)
    (hQ : ∀ c a w, Q (.panic c) (a.put oi.dst v) w → Q (.panic c) a w) (ht : t ∈ D) :
    ∀ (fuel : Nat) (listed : Array Bool) (a : Act) (w : World),
      (∀ j oj, ops[j]? = some oj → j ≠ i → listed.getD j true = false → (∀ e ∈ oj.after, Region.binds md e = true → e.on ≠ i) → oi.apart ops oj = true) →
      i ∈ Region.ready md ops listed → blockedB md ops listed i D = true → YieldsIf P ops S oi v a → S w →
      wpAnyR P md ops Q S t fuel (listed.setIfInBounds i true) (a.put oi.dst v) w → wpAnyR P md ops Q S t (fuel + 1) listed a w := by
  intro fuel
  induction fuel with
  | zero =>
    intro listed a w _ hr hbl hy hS H
    refine ⟨fun h => (by rw [h] at hr; cases hr), fun j hj => ?_⟩
    by_cases hji : j = i
    · subst hji; exact hy.wpOp hi hS ⟨fun _ => hS, H⟩
    · have := ready_mono hj hji
      rw [H.1] at this
      cases this
  | succ fuel ih =>
    intro listed a w hfree hr hbl hy hS H
    refine ⟨fun h => (by rw [h] at hr; cases hr), fun j hj => ?_⟩
    by_cases hji : j = i
    · subst hji; exact hy.wpOp hi hS ⟨fun _ => hS, H⟩
    · have h1 := H.2 j (ready_mono hj hji)
      have hjD : j ∉ D := fun hd => not_ready_of_blocked hbl (mem_ready.1 hr).1 hd hj
      have hiD : i ∉ D := by
        simp only [blockedB, Bool.and_eq_true] at hbl
        simpa using hbl.1
      have htl : listed.getD t true = false := by
        simp only [blockedB, Bool.and_eq_true, List.all_eq_true] at hbl
        simpa using (hbl.2 t ht).1
      have htl2 : ((listed.setIfInBounds i true).setIfInBounds j true).getD t true = false := by
        rw [getD_set_ne true (show j ≠ t from fun e => hjD (by rw [e]; exact ht)), getD_set_ne true (show i ≠ t from fun e => hiD (by rw [e]; exact ht))]
        exact htl
      obtain ⟨hjun, oj, hoj, hall⟩ := mem_ready.1 hj
      have hnot : ∀ e ∈ oj.after, Region.binds md e = true → e.on ≠ i := fun e he hb heq => by
        have h1 := hall e he hb
        have h0 := (mem_ready.1 hr).1
        rw [heq] at h1
        rcases Nat.lt_or_ge i listed.size with h' | h'
        · simp [h'] at h0 h1; rw [h0] at h1; cases h1
        · simp [Array.getElem?_eq_none h'] at h1
      have h2 := wpOp_putIf hoj (hfree j oj hoj hji hjun hnot) (fun cs b => hsel i oi cs b hi) (fun cs b => hsel j oj cs b hoj) hQ hy h1
      have hfree' : ∀ k ok, ops[k]? = some ok → k ≠ i → (listed.setIfInBounds j true).getD k true = false →
          (∀ e ∈ ok.after, Region.binds md e = true → e.on ≠ i) → oi.apart ops ok = true := fun k ok hk hki hun hno => by
        refine hfree k ok hk hki ?_ hno
        by_cases hjk : j = k
        · subst hjk; exact hjun
        · rw [getD_set_ne true hjk] at hun; exact hun
      refine wpOp_mono (fun a' w' h3 => ⟨fun _ => h3.2.1 htl2, ih (listed.setIfInBounds j true) a' w' hfree' (ready_mono hr (Ne.symm hji)) (blocked_set hbl hjD) h3.1 (h3.2.1 htl2) ?_⟩) h2
      rw [Array.setIfInBounds_comm _ _ hji]
      exact h3.2.2

/-- What waits for i, at once or over others. -/
def descOf (md : Region.Mode) (ops : Array Oper) (i : Nat) : List Nat :=
  (List.range ops.size).foldl (fun D k => if ((ops[k]?).map fun o => o.after.any fun e => Region.binds md e && (e.on == i || D.contains e.on)).getD false then D ++ [k] else D) []
/-- All that is asked of a take, as one Bool. -/
def takeOk (md : Region.Mode) (ops : Array Oper) (listed : Array Bool) (i t : Nat) : Bool :=
  Region.noSelect ops && Region.free md ops listed i && (Region.ready md ops listed).contains i && blockedB md ops listed i (descOf md ops i) && (descOf md ops i).contains t
def pureOk (md : Region.Mode) (ops : Array Oper) (listed : Array Bool) (i : Nat) : Bool :=
  Region.noSelect ops && Region.free md ops listed i && (Region.ready md ops listed).contains i

/-- Take number i first: what it reads holds in every world that meets S, and t waits for it. -/
theorem wpAnyR_take {i d : Nat} {oi : Oper} (v : Value) {fuel : Nat} {listed : Array Bool} {a : Act} {w : World} (hi : ops[i]? = some oi) (hd : oi.dst = some d)
    (hok : takeOk md ops listed i t = true)
    (hQ : ∀ c a w, Q (.panic c) (a.put oi.dst v) w → Q (.panic c) a w) (hw : Region.wanted oi (yielded ops a.tmps) = true) (hy : ∀ w, S w → (execOp a.eval oi).run P w = .ok (.value v) w) (hS : S w)
    (h : wpAnyR P md ops Q S t fuel (listed.setIfInBounds i true) { a with tmps := a.tmps.setIfInBounds d v } w) : wpAnyR P md ops Q S t (fuel + 1) listed a w := by
  have h : wpAnyR P md ops Q S t fuel (listed.setIfInBounds i true) (a.put oi.dst v) w := by rw [hd]; exact h
  simp only [takeOk, Bool.and_eq_true] at hok
  obtain ⟨⟨⟨⟨h1, h2⟩, h3⟩, h4⟩, h5⟩ := hok
  exact wpAnyR_first hi (Region.noSelect_spec h1) hQ (by simpa using h5) fuel listed a w (Region.free_spec hi h2) (by simpa using h3) h4 (.inl ⟨hw, hy⟩) hS h

theorem wpAnyR_first0 {i : Nat} {oi : Oper} {v : Value} (hi : ops[i]? = some oi) (hsel : ∀ (j : Nat) (o : Oper) cs b, ops[j]? = some o → o.op ≠ .select cs b)
    (hQ : ∀ c a w, Q (.panic c) (a.put oi.dst v) w → Q (.panic c) a w) :
    ∀ (fuel : Nat) (listed : Array Bool) (a : Act) (w : World),
      (∀ j oj, ops[j]? = some oj → j ≠ i → listed.getD j true = false → (∀ e ∈ oj.after, Region.binds md e = true → e.on ≠ i) → oi.apart ops oj = true) →
      i ∈ Region.ready md ops listed → YieldsIf P ops (fun _ => True) oi v a → (listed.getD t true = false → S w) → t ≠ i →
      wpAnyR P md ops Q S t fuel (listed.setIfInBounds i true) (a.put oi.dst v) w → wpAnyR P md ops Q S t (fuel + 1) listed a w := by
  intro fuel
  induction fuel with
  | zero =>
    intro listed a w _ hr hy hS hti H
    refine ⟨fun h => (by rw [h] at hr; cases hr), fun j hj => ?_⟩
    by_cases hji : j = i
    · subst hji; exact hy.wpOp hi trivial ⟨fun h => hS (by rwa [getD_set_ne true (Ne.symm hti)] at h), H⟩
    · have := ready_mono hj hji
      rw [H.1] at this
      cases this
  | succ fuel ih =>
    intro listed a w hfree hr hy hS hti H
    refine ⟨fun h => (by rw [h] at hr; cases hr), fun j hj => ?_⟩
    by_cases hji : j = i
    · subst hji; exact hy.wpOp hi trivial ⟨fun h => hS (by rwa [getD_set_ne true (Ne.symm hti)] at h), H⟩
    · have h1 := H.2 j (ready_mono hj hji)
      obtain ⟨hjun, oj, hoj, hall⟩ := mem_ready.1 hj
      have hnot : ∀ e ∈ oj.after, Region.binds md e = true → e.on ≠ i := fun e he hb heq => by
        have h1 := hall e he hb
        have h0 := (mem_ready.1 hr).1
        rw [heq] at h1
        rcases Nat.lt_or_ge i listed.size with h' | h'
        · simp [h'] at h0 h1; rw [h0] at h1; cases h1
        · simp [Array.getElem?_eq_none h'] at h1
      have h2 := wpOp_putIf hoj (hfree j oj hoj hji hjun hnot) (fun cs b => hsel i oi cs b hi) (fun cs b => hsel j oj cs b hoj) hQ hy h1
      have hfree' : ∀ k ok, ops[k]? = some ok → k ≠ i → (listed.setIfInBounds j true).getD k true = false →
          (∀ e ∈ ok.after, Region.binds md e = true → e.on ≠ i) → oi.apart ops ok = true := fun k ok hk hki hun hno => by
        refine hfree k ok hk hki ?_ hno
        by_cases hjk : j = k
        · subst hjk; exact hjun
        · rw [getD_set_ne true hjk] at hun; exact hun
      have hback : ∀ {W : World}, (((listed.setIfInBounds i true).setIfInBounds j true).getD t true = false → S W) → ((listed.setIfInBounds j true).getD t true = false → S W) := fun h hl => h (by
        rw [Array.setIfInBounds_comm _ _ (Ne.symm hji), getD_set_ne true (Ne.symm hti)]
        exact hl)
      refine wpOp_mono (fun a' w' h3 => ⟨hback h3.2.1, ih (listed.setIfInBounds j true) a' w' hfree' (ready_mono hr (Ne.symm hji)) h3.1 (hback h3.2.1) hti ?_⟩) h2
      rw [Array.setIfInBounds_comm _ _ hji]
      exact h3.2.2
/-- Take number i first: it yields its value in whatever world. -/
theorem wpAnyR_pure {i d : Nat} {oi : Oper} (v : Value) {fuel : Nat} {listed : Array Bool} {a : Act} {w : World} (hi : ops[i]? = some oi) (hd : oi.dst = some d)
    (hok : pureOk md ops listed i = true) (hti : t ≠ i)
    (hQ : ∀ c a w, Q (.panic c) (a.put oi.dst v) w → Q (.panic c) a w) (hw : Region.wanted oi (yielded ops a.tmps) = true) (hy : ∀ w, (execOp a.eval oi).run P w = .ok (.value v) w) (hS : listed.getD t true = false → S w)
    (h : wpAnyR P md ops Q S t fuel (listed.setIfInBounds i true) { a with tmps := a.tmps.setIfInBounds d v } w) : wpAnyR P md ops Q S t (fuel + 1) listed a w := by
  have h : wpAnyR P md ops Q S t fuel (listed.setIfInBounds i true) (a.put oi.dst v) w := by rw [hd]; exact h
  simp only [pureOk, Bool.and_eq_true] at hok
  obtain ⟨⟨h1, h2⟩, h3⟩ := hok
  exact wpAnyR_first0 hi (Region.noSelect_spec h1) hQ fuel listed a w (Region.free_spec hi h2) (by simpa using h3) (.inl ⟨hw, fun w _ => hy w⟩) hS hti h

/-- The one that may come up. -/
theorem wpAnyR_one {i : Nat} {o : Oper} {fuel : Nat} {listed : Array Bool} {a : Act} {w : World} (hr : Region.ready md ops listed = [i]) (ho : ops[i]? = some o)
    (h : ∀ K' : Act → World → Prop, Shut (∀ a w, ((listed.setIfInBounds i true).getD t true = false → S w) → wpAnyR P md ops Q S t fuel (listed.setIfInBounds i true) a w → K' a w) → if Region.wanted o (yielded ops a.tmps) = true then Oper.wp P o a w K' Q else K' (a.put o.dst undef) w) :
    wpAnyR P md ops Q S t (fuel + 1) listed a w := by
  refine ⟨fun h0 => (by rw [hr] at h0; cases h0), fun j hj => ?_⟩
  rw [hr] at hj
  obtain rfl : j = i := by simpa using hj
  exact wpOp_step ho (fun K' hK => h K' (fun a w hS hW => hK a w ⟨hS, hW⟩))

/-- The two that may come up. -/
theorem wpAnyR_two {i j : Nat} {oi oj : Oper} {fuel : Nat} {listed : Array Bool} {a : Act} {w : World} (hr : Region.ready md ops listed = [i, j]) (hi : ops[i]? = some oi) (hj : ops[j]? = some oj)
    (h1 : ∀ K' : Act → World → Prop, Shut (∀ a w, ((listed.setIfInBounds i true).getD t true = false → S w) → wpAnyR P md ops Q S t fuel (listed.setIfInBounds i true) a w → K' a w) → if Region.wanted oi (yielded ops a.tmps) = true then Oper.wp P oi a w K' Q else K' (a.put oi.dst undef) w)
    (h2 : ∀ K' : Act → World → Prop, Shut (∀ a w, ((listed.setIfInBounds j true).getD t true = false → S w) → wpAnyR P md ops Q S t fuel (listed.setIfInBounds j true) a w → K' a w) → if Region.wanted oj (yielded ops a.tmps) = true then Oper.wp P oj a w K' Q else K' (a.put oj.dst undef) w) :
    wpAnyR P md ops Q S t (fuel + 1) listed a w := by
  refine ⟨fun h0 => (by rw [hr] at h0; cases h0), fun k hk => ?_⟩
  rw [hr] at hk
  rcases List.mem_cons.1 hk with rfl | hk
  · exact wpOp_step hi (fun K' hK => h1 K' (fun a w hS hW => hK a w ⟨hS, hW⟩))
  · obtain rfl : k = j := by simpa using hk
    exact wpOp_step hj (fun K' hK => h2 K' (fun a w hS hW => hK a w ⟨hS, hW⟩))

theorem wpAnyR_done {fuel : Nat} {listed : Array Bool} {a : Act} {w : World} (hr : Region.ready md ops listed = []) (h : Q .normal a w) : wpAnyR P md ops Q S t fuel listed a w := by
  cases fuel with
  | zero => exact ⟨hr, h⟩
  | succ fuel => exact ⟨fun _ => h, fun j hj => (by rw [hr] at hj; cases hj)⟩

theorem wp_region_rel (S : World → Prop) (t n : Nat) {id : Nat} {a : Act} {w : World} (hm : P.follows .mixedOrders = true) (hn : ops.size = n)
    (h : wpAnyR P .any ops Q S t n (Array.replicate n false) a w.drew) : (Code.region id ops true).wp P Q a w :=
  wp_region_any hm (wpAny_of_rel _ _ _ _ (hn ▸ h))

end
end Go.Proofs.Ytofkcmihcgmmpaa
/-
  A fact drawn.
-/
namespace Go.Proofs.Ytofkcmihcgmmpaa
open Go.RowKit

/-- What l1Fact keeps: r is the result's block, r + 1 the fact's. -/
structure FaRel (w wr : World) (g : Nat) (bs : List Nat) (p : Nat) (A : Option Addr) (c : Nat) (f : LFact) : Prop where
  res : Blk wr w.heap.size 34 #[.int .i64 0, .slice none 0 0]
  fact : Blk wr (w.heap.size + 1) 34 #[.int .i64 f.1, .slice A f.2.length c]
  own : wr.ownsRow (w.heap.size + 2) 3 1 (.slice A f.2.length c) f.2.length (f.2.map (Value.int .i64))
  rdr : Rdr wr g bs p
  only : Only g (g + 1) w wr

theorem FaRel.start {w : World} {g : Nat} {bs : List Nat} {p : Nat} (h : Rdr w g bs p) :
    FaRel w ((w.alloc (Obj.cells #[Value.int IntKind.i64 0, Value.slice none 0 0] 34)).alloc (Obj.cells #[Value.int IntKind.i64 0, Value.slice none 0 0] 34)) g bs p none 0 (0, []) :=
  ⟨(Blk.new w _ _).alloc _, by simpa using Blk.new (w.alloc (Obj.cells #[Value.int IntKind.i64 0, Value.slice none 0 0] 34)) 34 #[.int .i64 0, .slice none 0 0], World.ownsRow_nil _ _ _ _, h.below (below2 w _ _) h.lt, Only.of_below (below2 w _ _)⟩

/-- A pick keeps the rest. -/
theorem FaRel.pick {w wr w' : World} {g : Nat} {bs : List Nat} {p : Nat} {A : Option Addr} {c : Nat} {f : LFact} (h : FaRel w wr g bs p A c f) (hg : g < w.heap.size) (hk : Picked wr w' g bs p) : FaRel w w' g bs (p + 1) A c f :=
  ⟨h.res.only hk.2 (by omega), h.fact.only hk.2 (by omega), ownsRow_only h.own (fun b hb => hk.2.block b (h.own.lt b hb).2 (by have := (h.own.lt b hb).1; omega)), hk.1, h.only.trans hk.2⟩

/-- The predicate stored. -/
theorem FaRel.pred {w wr : World} {g : Nat} {bs : List Nat} {p : Nat} {A : Option Addr} {c : Nat} {f : LFact} (h : FaRel w wr g bs p A c f) (hg : g < w.heap.size) (x : Int) : FaRel w (wr.setCell ⟨w.heap.size + 1, 0, none⟩ (.int .i64 x)) g bs p A c (x, f.2) :=
  ⟨h.res.far (by show w.heap.size ≠ w.heap.size + 1; omega) _, h.fact.set_ 0 _, ownsRow_only h.own (fun b hb => Below.heap_setCell _ _ _ _ (by have := (h.own.lt b hb).1; show b ≠ w.heap.size + 1; omega)),
    h.rdr.same fun k hk => Below.heap_setCell _ _ _ _ (by show k ≠ w.heap.size + 1; omega),
    ⟨h.only.os, h.only.tape, h.only.output, by simpa using h.only.size, fun k hk hn => (Below.heap_setCell _ _ _ _ (by show k ≠ w.heap.size + 1; omega)).trans (h.only.block k hk hn)⟩⟩

/-- A new block keeps all. -/
theorem FaRel.alloc {w wr : World} {g : Nat} {bs : List Nat} {p : Nat} {A : Option Addr} {c : Nat} {f : LFact} (h : FaRel w wr g bs p A c f) (o : Obj) : FaRel w (wr.alloc o) g bs p A c f :=
  ⟨h.res.alloc o, h.fact.alloc o, h.own.alloc o, h.rdr.below (below1 wr o) h.rdr.lt, h.only.trans (Only.of_below (below1 wr o))⟩
theorem FaRel.drewN {w wr : World} {g : Nat} {bs : List Nat} {p : Nat} {A : Option Addr} {c : Nat} {f : LFact} (h : FaRel w wr g bs p A c f) (n : Nat) : FaRel w (wr.drewN n) g bs p A c f :=
  ⟨h.res, h.fact, h.own, h.rdr, ⟨h.only.os, h.only.tape, h.only.output, h.only.size, h.only.block⟩⟩

theorem FaRel.drew {w wr : World} {g : Nat} {bs : List Nat} {p : Nat} {A : Option Addr} {c : Nat} {f : LFact} (h : FaRel w wr g bs p A c f) : FaRel w wr.drew g bs p A c f :=
  ⟨h.res, h.fact, h.own, h.rdr, ⟨h.only.os, h.only.tape, h.only.output, h.only.size, h.only.block⟩⟩

theorem FaRel.push {w wr w4 : World} {g : Nat} {bs : List Nat} {p : Nat} {A : Option Addr} {c : Nat} {P : Int} {xs : List Int} (h : FaRel w wr g bs p A c (P, xs)) (hg : g < w.heap.size)
    (hgr : wr.grownBy w4 (Value.slice A xs.length c).ownBlock) {g2 cap : Nat} {x : Int} (hown : w4.ownsRow (w.heap.size + 2) 3 1 (.slice (some ⟨g2, 0, none⟩) (xs.length + 1) cap) (xs.length + 1) (xs.map (Value.int .i64) ++ [.int .i64 x])) :
    FaRel w (w4.setCell ⟨w.heap.size + 1, 1, none⟩ (.slice (some ⟨g2, 0, none⟩) (xs.length + 1) cap)) g bs p (some ⟨g2, 0, none⟩) cap (P, xs ++ [x]) := by
  have hs := h.fact.lt
  have hlow : ∀ b, b < w.heap.size + 2 → w4.heap[b]? = wr.heap[b]? := fun b hb => hgr.block b (by omega) (fun e => by have := (h.own.lt b e.symm).1; omega)
  have hlow2 : ∀ b, b < w.heap.size + 1 → (w4.setCell ⟨w.heap.size + 1, 1, none⟩ (.slice (some ⟨g2, 0, none⟩) (xs.length + 1) cap)).heap[b]? = wr.heap[b]? := fun b hb =>
    (Below.heap_setCell _ _ _ _ (by show b ≠ w.heap.size + 1; omega)).trans (hlow b (by omega))
  refine ⟨(hlow2 _ (by omega)).trans h.res, ?_, ?_, h.rdr.same fun k hk => hlow2 k (by omega), ⟨hgr.os.trans h.only.os, hgr.tape.trans h.only.tape, hgr.output.trans h.only.output, Nat.le_trans h.only.size (Nat.le_trans hgr.size (by simp)), fun k hk hn => (hlow2 k (by omega)).trans (h.only.block k hk hn)⟩⟩
  · have := (show Blk w4 (w.heap.size + 1) 34 _ from (hlow _ (by omega)).trans h.fact).set_ 1 (.slice (some ⟨g2, 0, none⟩) (xs.length + 1) cap)
    simpa using this
  · simpa using ownsRow_only hown (fun b hb => Below.heap_setCell _ _ _ _ (by have := (hown.lt b hb).1; show b ≠ w.heap.size + 1; omega))

theorem FaRel.keepFact {w wr w4 : World} {g : Nat} {bs : List Nat} {p : Nat} {A : Option Addr} {c : Nat} {f : LFact} (h : FaRel w wr g bs p A c f) (hgr : wr.grownBy w4 (Value.slice A f.2.length c).ownBlock) : Blk w4 (w.heap.size + 1) 34 #[.int .i64 f.1, .slice A f.2.length c] :=
  (hgr.block _ h.fact.lt (fun e => by have := (h.own.lt _ e.symm).1; omega)).trans h.fact

theorem num3_any (g : Nat) (bs : List Nat) (p b : Nat) (x y z : Int) (w : World) (h : Rdr w g bs p) (hp : p ≤ 1073741824) (hb : Blk w b 3 #[.int .i64 x, .int .i64 y, .int .i64 z]) (hne : b ≠ g) :
    Calls Try.prog 36 #[.pointer (some ⟨g, 0, none⟩), .slice (some ⟨b, 0, none⟩) 3 3] w fun e w' => (∃ x, e = .returned (.int .i64 x)) ∧ Picked w w' g bs p :=
  (num_any g bs p b _ [x, y, z] 3 w h hp hb rfl hne rfl (by simp) (by simp)).mono fun _ _ ⟨⟨u, he, _⟩, hk⟩ => ⟨⟨u, he⟩, hk⟩

theorem FaRel.pick_calls {w W : World} {g : Nat} {bs : List Nat} {q : Nat} {A : Option Addr} {c : Nat} {f : LFact} (h : FaRel w W g bs q A c f) (hg : g < w.heap.size) (hq : q ≤ 1073741824) (n : Int) (hn : n ≤ 1073741824) :
    Calls Try.prog 14 #[.pointer (some ⟨g, 0, none⟩), .int .i64 n] W fun e w' => ∃ v, e = .returned v ∧ (∃ x, v = .int .i64 x) ∧ FaRel w w' g bs (q + 1) A c f :=
  (pick_any g bs q n W h.rdr hq hn).mono fun _ _ ⟨⟨x, he, _⟩, hk⟩ => ⟨_, he, ⟨x, rfl⟩, h.pick hg hk⟩
theorem FaRel.num_calls {w W : World} {g : Nat} {bs : List Nat} {q : Nat} {A : Option Addr} {c : Nat} {f : LFact} (h : FaRel w W g bs q A c f) (hg : g < w.heap.size) (hq : q ≤ 1073741824) (x y z : Int) :
    Calls Try.prog 36 #[.pointer (some ⟨g, 0, none⟩), .slice (some ⟨W.heap.size, 0, none⟩) 3 3] (W.alloc (.cells #[.int .i64 x, .int .i64 y, .int .i64 z] 3)) fun e w' => ∃ v, e = .returned v ∧ (∃ x, v = .int .i64 x) ∧ FaRel w w' g bs (q + 1) A c f :=
  (num3_any g bs q W.heap.size x y z _ (h.alloc _).rdr hq (Blk.new _ _ _) (Nat.ne_of_gt h.rdr.lt)).mono fun _ _ ⟨⟨u, he⟩, hk⟩ => ⟨_, he, ⟨u, rfl⟩, (h.alloc _).pick hg hk⟩

/-- A round is done. -/
def FaStep (w wx : World) (g : Nat) (bs : List Nat) (p : Nat) (P : Int) (k : Nat) : Prop := ∃ (A : Option Addr) (c : Nat) (xs : List Int) (q : Nat), xs.length = k + 1 ∧ q ≤ p + 1 + 4 * (k + 1) ∧ FaRel w wx g bs q A c (P, xs)

/-- Some fact stands, of at most m arguments. -/
def FaNow (w wx : World) (g : Nat) (bs : List Nat) (p m q0 : Nat) : Prop := ∃ (A : Option Addr) (c : Nat) (f : LFact) (q : Nat), f.2.length ≤ m ∧ q ≤ p + q0 ∧ FaRel w wx g bs q A c f

/-- A row of one or more begins at its block. -/
theorem FaRel.form {w W : World} {g : Nat} {bs : List Nat} {q : Nat} {A : Option Addr} {c : Nat} {f : LFact} (h : FaRel w W g bs q A c f) (hn : 0 < f.2.length) : ∃ g2, A = some ⟨g2, 0, none⟩ := by
  obtain ⟨g2, cap, e, _⟩ := h.own.form hn
  injection e with e1 _ _
  exact ⟨g2, e1⟩
theorem FaRel.head {w W : World} {g : Nat} {bs : List Nat} {q g2 c : Nat} {f : LFact} (h : FaRel w W g bs q (some ⟨g2, 0, none⟩) c f) (hn : 0 < f.2.length) : W.cell? ⟨g2, 0, none⟩ = some (.int .i64 (f.2[0]'hn)) ∧ W.frozen? ⟨g2, 0, none⟩ = false := by
  refine ⟨?_, h.own.frozenAt 0⟩
  rw [h.own.cellAt 0 (by omega)]
  simp [hn]
/-- The first place is set anew. -/
theorem FaRel.first {w W : World} {g : Nat} {bs : List Nat} {q g2 c : Nat} {f : LFact} (h : FaRel w W g bs q (some ⟨g2, 0, none⟩) c f) (hg : g < w.heap.size) (x : Int) :
    FaRel w (W.setCell ⟨g2, 0, none⟩ (.int .i64 x)) g bs q (some ⟨g2, 0, none⟩) c (f.1, f.2.set 0 x) := by
  have hb := (h.own.lt g2 rfl).1
  have hs := h.own.stored 0 (.int .i64 x)
  refine ⟨h.res.far (by show w.heap.size ≠ g2; omega) _, ?_, ?_, h.rdr.same fun k hk => Below.heap_setCell _ _ _ _ (by show k ≠ g2; omega),
    ⟨h.only.os, h.only.tape, h.only.output, by simpa using h.only.size, fun k hk hn => (Below.heap_setCell _ _ _ _ (by show k ≠ g2; omega)).trans (h.only.block k hk hn)⟩⟩
  · simpa using h.fact.far (p := ⟨g2, 0, none⟩) (by show w.heap.size + 1 ≠ g2; omega) (.int .i64 x)
  · have := hs.1
    rw [← List.map_set] at this
    simpa using this
/-- The result is laid. -/
theorem FaRel.done {w W : World} {g : Nat} {bs : List Nat} {q : Nat} {A : Option Addr} {c : Nat} {f : LFact} (h : FaRel w W g bs q A c f) (hg : g < w.heap.size) :
    ((W.setCell ⟨w.heap.size, 0, none⟩ (.int .i64 f.1)).setCell ⟨w.heap.size, 1, none⟩ (.slice A f.2.length c)).ownsRow (w.heap.size + 2) 3 1 (.slice A f.2.length c) f.2.length (f.2.map (Value.int .i64)) ∧
    Rdr ((W.setCell ⟨w.heap.size, 0, none⟩ (.int .i64 f.1)).setCell ⟨w.heap.size, 1, none⟩ (.slice A f.2.length c)) g bs q ∧
    Only g (g + 1) w ((W.setCell ⟨w.heap.size, 0, none⟩ (.int .i64 f.1)).setCell ⟨w.heap.size, 1, none⟩ (.slice A f.2.length c)) ∧
    Blk ((W.setCell ⟨w.heap.size, 0, none⟩ (.int .i64 f.1)).setCell ⟨w.heap.size, 1, none⟩ (.slice A f.2.length c)) w.heap.size 34 #[.int .i64 f.1, .slice A f.2.length c] := by
  have hb : ∀ k, k ≠ w.heap.size → ((W.setCell ⟨w.heap.size, 0, none⟩ (.int .i64 f.1)).setCell ⟨w.heap.size, 1, none⟩ (.slice A f.2.length c)).heap[k]? = W.heap[k]? := fun k hk =>
    (Below.heap_setCell _ _ _ _ (by show k ≠ w.heap.size; exact hk)).trans (Below.heap_setCell _ _ _ _ (by show k ≠ w.heap.size; exact hk))
  refine ⟨ownsRow_only h.own (fun b hb' => hb b (by have := (h.own.lt b hb').1; omega)), h.rdr.same fun k hk => hb k (by omega), ⟨h.only.os, h.only.tape, h.only.output, by simpa using h.only.size, fun k hk hn => (hb k (by omega)).trans (h.only.block k hk hn)⟩, ?_⟩
  have := (h.res.set_ 0 (.int .i64 f.1)).set_ 1 (.slice A f.2.length c)
  simpa using this

set_option maxHeartbeats 8000000 in
set_option maxRecDepth 100000 in
theorem l1Fact_any (g : Nat) (bs : List Nat) (p : Nat) (v : Value) (ar : List Int) (w : World) (h : Rdr w g bs p) (hp : p ≤ 1048576) (ha : RdInts w w.heap.size v ar) (hv : ∀ w', Only g (g + 1) w w' → RdInts w' w'.heap.size v ar) (hr : ∀ x ∈ ar, 0 ≤ x ∧ x ≤ 2) (hl : ar.length ≤ 1048576) :
    Calls Try.prog 39 #[.pointer (some ⟨g, 0, none⟩), v] w fun e w' => ∃ (A : Option Addr) (c : Nat) (f : LFact) (q : Nat), e = .returned (.agg #[.int .i64 f.1, .slice A f.2.length c]) ∧ f.2.length ≤ 3 ∧ q ≤ p + 20 ∧
      w'.ownsRow (w.heap.size + 2) 3 1 (.slice A f.2.length c) f.2.length (f.2.map (Value.int .i64)) ∧ Rdr w' g bs q ∧ Only g (g + 1) w w' := by
  obtain ⟨i0, hi0, hz0, hz1, hz2⟩ := info_parts Try.infoInt
  have H := Lib.hid h
  have hgl := h.lt
  have HV := Lib.hid hv
  have HS := Lib.hid (FaRel.start h)
  obtain ⟨A0, c0, rfl, hc, hx⟩ := ha
  clear h hv hx
  go_enter Try.func39, Try.ntmps39
  go_upto_if 11 with (fail)
  go_cut [] (fun wx => FaNow w wx g bs p 2 9)
  case first =>
    by_cases h0 : 0 < ar.length
    · have hd : decide ((0 : Int) < ar.length) = true := by simpa using h0
      go_wp2_with (fail)
      refine (pick_any g bs p _ _ HS.out.rdr (by omega) (by omega)).mono ?_
      rintro e w1 ⟨⟨x, rfl, hx1⟩, hpk⟩
      obtain ⟨j, rfl⟩ : ∃ j : Nat, x = (j : Int) := ⟨x.toNat, by have := hx1.1 (by omega); omega⟩
      have hj : j < ar.length := by have := hx1.1 (by omega); omega
      have hf := HS.out.pick hgl hpk
      have HF := Lib.hid (hf.pred hgl (j : Int))
      have k0 : w1.cell? ⟨w.heap.size + 1, 0, none⟩ = some (.int .i64 0) := hf.fact.cell 0
      have k1 : w1.frozen? ⟨w.heap.size + 1, 0, none⟩ = false := hf.fact.frozen 0
      clear hf hpk hx1
      have hjr := hr _ (List.getElem_mem hj)
      obtain ⟨m, hm⟩ : ∃ m : Nat, ar[j] = (m : Int) := ⟨ar[j].toNat, by omega⟩
      have hm2 : m ≤ 2 := by omega
      clear hjr
      go_wp2_with (fail)
      go_loopw [6] (fun i wr => ∃ (k : Nat) (A : Option Addr) (c : Nat) (xs : List Int) (q : Nat), k ≤ m ∧ i = .int .i64 k ∧ xs.length = k ∧ q ≤ p + 1 + 4 * k ∧ FaRel w wr g bs q A c ((j : Int), xs)) (fun i _ => m - (intOf i).toNat)
      case atStart => exact ⟨0, none, 0, [], p + 1, Nat.zero_le _, rfl, rfl, by omega, HF.out⟩
      case round =>
        obtain ⟨k, A, c, xs, q, hk, rfl, hxl, hq, hfr⟩ := hrel
        have k2 : wr.cell? ⟨w.heap.size + 1, 0, none⟩ = some (.int .i64 (j : Int)) := hfr.fact.cell 0
        obtain ⟨A', c', e0, hc', hcell⟩ := HV.out wr hfr.only
        injection e0 with e1 _ e2
        subst e1
        subst e2
        obtain ⟨b, o, rfl, hbB, hx⟩ := hcell (by omega)
        have k3 : wr.cell? ⟨b, o + j, none⟩ = some (.int .i64 (m : Int)) := by rw [hx j hj, hm]
        have HR := Lib.hid hfr
        clear hcell hx hfr
        subst hxl
        by_cases hlt : xs.length < m
        · go_upto_region 7 with (fail)
          obtain ⟨SS, hSS⟩ : ∃ SS : World → Prop, SS = (fun W => W.cell? ⟨w.heap.size + 1, 1, none⟩ = some (.slice A xs.length c)) := ⟨_, rfl⟩
          have HS1 := Lib.hid (show ∀ W, W.cell? ⟨w.heap.size + 1, 1, none⟩ = some (.slice A xs.length c) → SS W from by rw [hSS]; exact fun _ h => h)
          have HS2 := Lib.hid (show ∀ W, SS W → W.cell? ⟨w.heap.size + 1, 1, none⟩ = some (.slice A xs.length c) from by rw [hSS]; exact fun _ h => h)
          clear hSS
          have F0 := Lib.hid HR.out.drew
          have S0 := Lib.hid (HS1.out _ (F0.out.fact.cell 1))
          refine wp_region_rel SS 14 15 (by kernel_rfl) rfl ?_
          refine wpAnyR_pure (i := 0) (oi := _) ?v0 rfl rfl (by kernel_rfl) (by decide) (fun _ _ _ h => h) rfl ?hy0 (fun _ => S0.out) ?rest0
          case hy0 => (intro W; go_simp; (try with_reducible rfl))
          simp only [List.setIfInBounds_toArray, List.set_cons_zero, List.set_cons_succ]
          refine wpAnyR_take (i := 1) (oi := _) ?v1 rfl rfl (by kernel_rfl) (fun _ _ _ h => h) rfl ?hy1 S0.out ?rest1
          case hy1 => (intro W hW; have e1 := HS2.out W hW; go_simp; (try with_reducible rfl))
          simp only [List.setIfInBounds_toArray, List.set_cons_zero, List.set_cons_succ]
          refine wpAnyR_pure (i := 2) (oi := _) ?v2 rfl rfl (by kernel_rfl) (by decide) (fun _ _ _ h => h) rfl ?hy2 (fun _ => S0.out) ?rest2
          case hy2 => (intro W; go_simp; (try with_reducible rfl))
          simp only [List.setIfInBounds_toArray, List.set_cons_zero, List.set_cons_succ]
          refine wpAnyR_pure (i := 3) (oi := _) ?v3 rfl rfl (by kernel_rfl) (by decide) (fun _ _ _ h => h) rfl ?hy3 (fun _ => S0.out) ?rest3
          case hy3 => (intro W; go_simp; (try with_reducible rfl))
          simp only [List.setIfInBounds_toArray, List.set_cons_zero, List.set_cons_succ]
          refine wpAnyR_pure (i := 5) (oi := _) ?v5 rfl rfl (by kernel_rfl) (by decide) (fun _ _ _ h => h) rfl ?hy5 (fun _ => S0.out) ?rest5
          case hy5 => (intro W; go_simp; (try with_reducible rfl))
          simp only [List.setIfInBounds_toArray, List.set_cons_zero, List.set_cons_succ]
          refine wpAnyR_pure (i := 7) (oi := _) ?v7 rfl rfl (by kernel_rfl) (by decide) (fun _ _ _ h => h) rfl ?hy7 (fun _ => S0.out) ?rest7
          case hy7 => (intro W; go_simp; (try with_reducible rfl))
          simp only [List.setIfInBounds_toArray, List.set_cons_zero, List.set_cons_succ]
          refine wpAnyR_one (i := 4) (by kernel_rfl) rfl (fun K hK => ?_)
          go_simp
          refine (FaRel.pick_calls F0.out hgl (by omega) 3 (by omega)).mono ?_
          rintro e w4 ⟨v4, rfl, ⟨x4, rfl⟩, hf4⟩
          have F4 := Lib.hid hf4
          have S4 := Lib.hid (HS1.out _ (hf4.fact.cell 1))
          clear hf4
          refine hK.out _ _ (fun _ => S4.out) ?_
          clear hK K
          try simp only [List.setIfInBounds_toArray, List.set_cons_zero, List.set_cons_succ, Act.put]
          refine wpAnyR_one (i := 6) (by kernel_rfl) rfl (fun K hK => ?_)
          go_simp
          refine (FaRel.pick_calls F4.out hgl (by omega) 3 (by omega)).mono ?_
          rintro e w6 ⟨v6, rfl, ⟨x6, rfl⟩, hf6⟩
          have F6 := Lib.hid hf6
          have S6 := Lib.hid (HS1.out _ (hf6.fact.cell 1))
          clear hf6
          refine hK.out _ _ (fun _ => S6.out) ?_
          clear hK K
          try simp only [List.setIfInBounds_toArray, List.set_cons_zero, List.set_cons_succ, Act.put]
          refine wpAnyR_one (i := 8) (by kernel_rfl) rfl (fun K hK => ?_)
          go_simp
          refine (FaRel.pick_calls F6.out hgl (by omega) 6 (by omega)).mono ?_
          rintro e w8 ⟨v8, rfl, ⟨x8, rfl⟩, hf8⟩
          have F8 := Lib.hid hf8
          have S8 := Lib.hid (HS1.out _ ((hf8.alloc (.cells #[.int .i64 x4, .int .i64 x6, .int .i64 x8] 3)).fact.cell 1))
          clear hf8
          refine hK.out _ _ (fun _ => HS1.out _ (F8.out.fact.cell 1)) ?_
          clear hK K
          try simp only [List.setIfInBounds_toArray, List.set_cons_zero, List.set_cons_succ, Act.put]
          refine wpAnyR_one (i := 9) (by kernel_rfl) rfl (fun K hK => ?_)
          go_simp
          refine hK.out _ _ (fun _ => S8.out) ?_
          clear hK K
          try simp only [List.setIfInBounds_toArray, List.set_cons_zero, List.set_cons_succ, Act.put]
          refine wpAnyR_one (i := 10) (by kernel_rfl) rfl (fun K hK => ?_)
          go_simp
          refine (FaRel.num_calls F8.out hgl (by omega) x4 x6 x8).mono ?_
          rintro e w9 ⟨v9, rfl, ⟨x9, rfl⟩, hf9⟩
          have F9 := Lib.hid hf9
          clear hf9
          refine hK.out _ _ (fun _ => HS1.out _ (F9.out.fact.cell 1)) ?_
          clear hK K
          try simp only [List.setIfInBounds_toArray, List.set_cons_zero, List.set_cons_succ, Act.put]
          refine wpAnyR_one (i := 11) (by kernel_rfl) rfl (fun K hK => ?_)
          go_simp
          refine hK.out _ _ (fun _ => HS1.out _ ((F9.out.alloc _).fact.cell 1)) ?_
          clear hK K
          try simp only [List.setIfInBounds_toArray, List.set_cons_zero, List.set_cons_succ, Act.put]
          refine wpAnyR_one (i := 12) (by kernel_rfl) rfl (fun K hK => ?_)
          refine step_append_lies _ rfl (.tmp 27) (.tmp 37) 24 rfl (w.heap.size + 2) 3 i0 (.int .i64 0) 1 8 Try.underlying24 hi0 hz0 hz1 hz2 rfl (by decide) (.slice A xs.length c) xs.length (xs.map (Value.int .i64)) rfl ?c1 ⟨w9.heap.size, 0, none⟩ 1 1 [.int .i64 x9] rfl rfl ?c4 ?c2 (by omega) (by unfold maxLen; omega) (by omega) ?c3 _ rfl ?c5
          case c1 => exact (F9.out.alloc _).own
          case c4 => exact cell_one_new _ _ _
          case c2 => intro u hu; simp at hu; subst hu; rfl
          case c3 => exact (F9.out.alloc _).fact.lt
          case c5 =>
            intro g2 cap w5 hown hgr _ _
            have HST := Lib.hid (FaRel.push (F9.out.alloc _) hgl hgr hown)
            have hkf := FaRel.keepFact (F9.out.alloc _) hgr
            have e1 : w5.cell? ⟨w.heap.size + 1, 1, none⟩ = some (.slice A xs.length c) := hkf.cell 1
            have e2 := hkf.frozen 1
            clear hkf hown hgr
            refine hK.out _ _ (fun _ => HS1.out _ e1) ?_
            clear hK K
            try simp only [List.setIfInBounds_toArray, Act.put]
            refine wpAnyR_pure (i := 13) (oi := _) ?v13 rfl rfl (by kernel_rfl) (by decide) (fun _ _ _ h => h) rfl ?hy13 (fun _ => HS1.out _ e1) ?rest13
            case hy13 => (intro W; go_simp; (try with_reducible rfl))
            try simp only [List.setIfInBounds_toArray, List.set_cons_zero, List.set_cons_succ]
            refine wpAnyR_one (i := 14) (by kernel_rfl) rfl (fun K hK => ?_)
            go_simp
            refine hK.out _ _ (fun hf => absurd hf (by decide)) ?_
            clear hK K
            refine wpAnyR_done (by kernel_rfl) ?_
            go_wp2_with (fail)
            go_roundw
            case rel => exact ⟨xs.length + 1, _, _, _, _, by omega, by go_num, by simp, by omega, HST.out⟩
            case measure => simp [intOf]; omega
        · have hkn : xs.length = m := by omega
          have hdk : decide ((xs.length : Int) < (m : Int)) = false := by simp; omega
          go_wp2_with (fail)
          go_meet
          exact ⟨A, c, ((j : Int), xs), q, by show xs.length ≤ 2; omega, by omega, HR.out⟩
    · have hd : decide ((0 : Int) < ar.length) = false := by simpa using h0
      go_wp2_with (fail)
      go_meet
      exact ⟨none, 0, (0, []), p, by simp, by omega, HS.out⟩
  case rest =>
    obtain ⟨A, c, f, q, hfl, hq, hf⟩ := hcut
    have F0' := Lib.hid hf
    clear hf HS HV
    go_wp2_with (fail)
    refine (FaRel.pick_calls F0'.out hgl (by omega) 40 (by omega)).mono ?_
    rintro e w1 ⟨v1, rfl, ⟨x1, rfl⟩, hf1⟩
    have F1 := Lib.hid hf1
    clear hf1
    go_upto_if 42 with (fail)
    go_cut [] (fun wx => FaNow w wx g bs p 3 20)
    case first =>
      by_cases h1 : x1 = 0
      · subst h1
        go_wp2_with (fail)
        refine (FaRel.pick_calls F1.out hgl (by omega) 3 (by omega)).mono ?_
        rintro e w2 ⟨v2, rfl, ⟨x2, rfl⟩, hf2⟩
        have F2 := Lib.hid hf2
        clear hf2
        by_cases h2 : x2 = 0
        · subst h2
          go_wp2_with (fail)
          refine (FaRel.num_calls F2.out hgl (by omega) (-1) (ar.length : Int) 30).mono ?_
          rintro e w3 ⟨v3, rfl, ⟨x3, rfl⟩, hf3⟩
          have HF := Lib.hid (hf3.pred hgl x3)
          have k0 : w3.cell? ⟨w.heap.size + 1, 0, none⟩ = some (.int .i64 f.1) := hf3.fact.cell 0
          have k1 : w3.frozen? ⟨w.heap.size + 1, 0, none⟩ = false := hf3.fact.frozen 0
          clear hf3
          go_wp2_with (fail)
          go_meet
          exact ⟨A, c, (x3, f.2), _, by show f.2.length ≤ 3; omega, by omega, HF.out⟩
        · have hd2 : (x2 == 0) = false := by simpa using h2
          by_cases h3 : x2 = 1
          · subst h3
            go_upto_region 13 with (fail)
            obtain ⟨SS, hSS⟩ : ∃ SS : World → Prop, SS = (fun W => W.cell? ⟨w.heap.size + 1, 1, none⟩ = some (.slice A f.2.length c)) := ⟨_, rfl⟩
            have HS1 := Lib.hid (show ∀ W, W.cell? ⟨w.heap.size + 1, 1, none⟩ = some (.slice A f.2.length c) → SS W from by rw [hSS]; exact fun _ h => h)
            have HS2 := Lib.hid (show ∀ W, SS W → W.cell? ⟨w.heap.size + 1, 1, none⟩ = some (.slice A f.2.length c) from by rw [hSS]; exact fun _ h => h)
            clear hSS
            have F0 := Lib.hid F2.out.drew
            have S0 := Lib.hid (HS1.out _ (F0.out.fact.cell 1))
            refine wp_region_rel SS 8 9 (by kernel_rfl) rfl ?_
            refine wpAnyR_pure (i := 0) (oi := _) ?v0b rfl rfl (by kernel_rfl) (by decide) (fun _ _ _ h => h) rfl ?hy0b (fun _ => S0.out) ?rest0b
            case hy0b => (intro W; go_simp; (try with_reducible rfl))
            try simp only [List.setIfInBounds_toArray, List.set_cons_zero, List.set_cons_succ]
            refine wpAnyR_take (i := 1) (oi := _) ?v1b rfl rfl (by kernel_rfl) (fun _ _ _ h => h) rfl ?hy1b S0.out ?rest1b
            case hy1b => (intro W hW; have e1 := HS2.out W hW; go_simp; (try with_reducible rfl))
            try simp only [List.setIfInBounds_toArray, List.set_cons_zero, List.set_cons_succ]
            refine wpAnyR_pure (i := 2) (oi := _) ?v2b rfl rfl (by kernel_rfl) (by decide) (fun _ _ _ h => h) rfl ?hy2b (fun _ => S0.out) ?rest2b
            case hy2b => (intro W; go_simp; (try with_reducible rfl))
            try simp only [List.setIfInBounds_toArray, List.set_cons_zero, List.set_cons_succ]
            refine wpAnyR_one (i := 3) (by kernel_rfl) rfl (fun K hK => ?_)
            go_simp
            refine hK.out _ _ (fun _ => HS1.out _ ((F0.out.alloc _).fact.cell 1)) ?_
            clear hK K
            try simp only [List.setIfInBounds_toArray, List.set_cons_zero, List.set_cons_succ, Act.put]
            refine wpAnyR_one (i := 4) (by kernel_rfl) rfl (fun K hK => ?_)
            go_simp
            refine (FaRel.num_calls F0.out hgl (by omega) 0 6 (-1)).mono ?_
            rintro e w9 ⟨v9, rfl, ⟨x9, rfl⟩, hf9⟩
            have F9 := Lib.hid hf9
            clear hf9
            refine hK.out _ _ (fun _ => HS1.out _ (F9.out.fact.cell 1)) ?_
            clear hK K
            try simp only [List.setIfInBounds_toArray, List.set_cons_zero, List.set_cons_succ, Act.put]
            refine wpAnyR_one (i := 5) (by kernel_rfl) rfl (fun K hK => ?_)
            go_simp
            refine hK.out _ _ (fun _ => HS1.out _ ((F9.out.alloc _).fact.cell 1)) ?_
            clear hK K
            try simp only [List.setIfInBounds_toArray, List.set_cons_zero, List.set_cons_succ, Act.put]
            refine wpAnyR_one (i := 6) (by kernel_rfl) rfl (fun K hK => ?_)
            refine step_append_lies _ rfl (.tmp 56) (.tmp 60) 24 rfl (w.heap.size + 2) 3 i0 (.int .i64 0) 1 8 Try.underlying24 hi0 hz0 hz1 hz2 rfl (by decide) (.slice A f.2.length c) f.2.length (f.2.map (Value.int .i64)) rfl ?c1b ⟨w9.heap.size, 0, none⟩ 1 1 [.int .i64 x9] rfl rfl ?c4b ?c2b (by omega) (by unfold maxLen; omega) (by omega) ?c3b _ rfl ?c5b
            case c1b => exact (F9.out.alloc _).own
            case c4b => exact cell_one_new _ _ _
            case c2b => intro u hu; simp at hu; subst hu; rfl
            case c3b => exact (F9.out.alloc _).fact.lt
            case c5b =>
              intro g2 cap w5 hown hgr _ _
              have HST := Lib.hid (FaRel.push (P := f.1) (xs := f.2) (F9.out.alloc _) hgl hgr hown)
              have hkf := FaRel.keepFact (F9.out.alloc _) hgr
              have e1 : w5.cell? ⟨w.heap.size + 1, 1, none⟩ = some (.slice A f.2.length c) := hkf.cell 1
              have e2 := hkf.frozen 1
              clear hkf hown hgr
              refine hK.out _ _ (fun _ => HS1.out _ e1) ?_
              clear hK K
              try simp only [List.setIfInBounds_toArray, Act.put]
              refine wpAnyR_pure (i := 7) (oi := _) ?v7b rfl rfl (by kernel_rfl) (by decide) (fun _ _ _ h => h) rfl ?hy7b (fun _ => HS1.out _ e1) ?rest7b
              case hy7b => (intro W; go_simp; (try with_reducible rfl))
              try simp only [List.setIfInBounds_toArray, List.set_cons_zero, List.set_cons_succ]
              refine wpAnyR_one (i := 8) (by kernel_rfl) rfl (fun K hK => ?_)
              go_simp
              refine hK.out _ _ (fun hf => absurd hf (by decide)) ?_
              clear hK K
              refine wpAnyR_done (by kernel_rfl) ?_
              go_wp2_with (fail)
              go_meet
              exact ⟨_, _, (f.1, f.2 ++ [x9]), _, by simp; omega, by omega, HST.out⟩
          · have hd3 : (x2 == 1) = false := by simpa using h3
            have k1 : w2.cell? ⟨w.heap.size + 1, 1, none⟩ = some (.slice A f.2.length c) := F2.out.fact.cell 1
            by_cases hn0 : 0 < f.2.length
            · have hdn : decide ((0 : Int) < f.2.length) = true := by simpa using hn0
              obtain ⟨g2, rfl⟩ := F2.out.form hn0
              go_upto_region 15 with (fail)
              obtain ⟨SS, hSS⟩ : ∃ SS : World → Prop, SS = (fun W => W.cell? ⟨w.heap.size + 1, 1, none⟩ = some (.slice (some ⟨g2, 0, none⟩) f.2.length c)) := ⟨_, rfl⟩
              have HS1 := Lib.hid (show ∀ W, W.cell? ⟨w.heap.size + 1, 1, none⟩ = some (.slice (some ⟨g2, 0, none⟩) f.2.length c) → SS W from by rw [hSS]; exact fun _ h => h)
              have HS2 := Lib.hid (show ∀ W, SS W → W.cell? ⟨w.heap.size + 1, 1, none⟩ = some (.slice (some ⟨g2, 0, none⟩) f.2.length c) from by rw [hSS]; exact fun _ h => h)
              clear hSS
              have F0 := Lib.hid F2.out.drew
              have S0 := Lib.hid (HS1.out _ (F0.out.fact.cell 1))
              have hpos : (0 : Int) < (f.2.length : Int) := by omega
              refine wp_region_rel SS 6 7 (by kernel_rfl) rfl ?_
              refine wpAnyR_pure (i := 0) (oi := _) ?v0d rfl rfl (by kernel_rfl) (by decide) (fun _ _ _ h => h) rfl ?hy0d (fun _ => S0.out) ?rest0d
              case hy0d => (intro W; go_simp; (try with_reducible rfl))
              try simp only [List.setIfInBounds_toArray, List.set_cons_zero, List.set_cons_succ]
              refine wpAnyR_take (i := 1) (oi := _) ?v1d rfl rfl (by kernel_rfl) (fun _ _ _ h => h) rfl ?hy1d S0.out ?rest1d
              case hy1d => (intro W hW; have e1 := HS2.out W hW; go_simp; (try with_reducible rfl))
              try simp only [List.setIfInBounds_toArray, List.set_cons_zero, List.set_cons_succ]
              refine wpAnyR_pure (i := 2) (oi := _) ?v2d rfl rfl (by kernel_rfl) (by decide) (fun _ _ _ h => h) rfl ?hy2d (fun _ => S0.out) ?rest2d
              case hy2d => (intro W; go_simp; (try with_reducible rfl))
              try simp only [List.setIfInBounds_toArray, List.set_cons_zero, List.set_cons_succ]
              refine wpAnyR_one (i := 3) (by kernel_rfl) rfl (fun K hK => ?_)
              go_simp
              refine hK.out _ _ (fun _ => HS1.out _ ((F0.out.alloc _).fact.cell 1)) ?_
              clear hK K
              try simp only [List.setIfInBounds_toArray, List.set_cons_zero, List.set_cons_succ, Act.put]
              refine wpAnyR_one (i := 4) (by kernel_rfl) rfl (fun K hK => ?_)
              go_simp
              refine (FaRel.num_calls F0.out hgl (by omega) 6 (-1) 5).mono ?_
              rintro e w9 ⟨v9, rfl, ⟨x9, rfl⟩, hf9⟩
              have F9 := Lib.hid hf9
              have HST := Lib.hid (hf9.first hgl x9)
              obtain ⟨e1, e2⟩ := hf9.head hn0
              clear hf9
              refine hK.out _ _ (fun _ => HS1.out _ (F9.out.fact.cell 1)) ?_
              clear hK K
              try simp only [List.setIfInBounds_toArray, List.set_cons_zero, List.set_cons_succ, Act.put]
              refine wpAnyR_pure (i := 5) (oi := _) (.pointer (some ⟨g2, 0, none⟩)) rfl rfl (by kernel_rfl) (by decide) (fun _ _ _ h => h) rfl ?hy5d (fun _ => HS1.out _ (F9.out.fact.cell 1)) ?rest5d
              case hy5d => (intro W; go_simp; (try with_reducible rfl))
              try simp only [List.setIfInBounds_toArray, List.set_cons_zero, List.set_cons_succ]
              refine wpAnyR_one (i := 6) (by kernel_rfl) rfl (fun K hK => ?_)
              go_simp
              refine hK.out _ _ (fun hf => absurd hf (by decide)) ?_
              clear hK K
              refine wpAnyR_done (by kernel_rfl) ?_
              go_wp2_with (fail)
              go_meet
              exact ⟨_, _, (f.1, f.2.set 0 x9), _, by simp; omega, by omega, HST.out⟩
            · have hdn : decide ((0 : Int) < f.2.length) = false := by simpa using hn0
              go_wp2_with (fail)
              go_meet
              exact ⟨A, c, f, _, by omega, by omega, F2.out⟩
      · have hd1 : (x1 == 0) = false := by simpa using h1
        go_wp2_with (fail)
        go_meet
        exact ⟨A, c, f, _, by omega, by omega, F1.out⟩
    case rest =>
      obtain ⟨A, c, f, q, hfl, hq, hf⟩ := hcut
      have k0 : wc.cell? ⟨w.heap.size + 1, 0, none⟩ = some (.int .i64 f.1) := hf.fact.cell 0
      have k1 : wc.cell? ⟨w.heap.size + 1, 1, none⟩ = some (.slice A f.2.length c) := hf.fact.cell 1
      have j0 : wc.cell? ⟨w.heap.size, 0, none⟩ = some (.int .i64 0) := hf.res.cell 0
      have j1 : wc.cell? ⟨w.heap.size, 1, none⟩ = some (.slice none 0 0) := hf.res.cell 1
      have l0 := hf.res.frozen 0
      have l1 := hf.res.frozen 1
      obtain ⟨hd0, hd1, hd2, hd3⟩ := hf.done hgl
      have HD := Lib.hid (And.intro hd0 (And.intro hd1 hd2))
      obtain ⟨W, hW⟩ : ∃ W, W = (wc.setCell ⟨w.heap.size, 0, none⟩ (.int .i64 f.1)).setCell ⟨w.heap.size, 1, none⟩ (.slice A f.2.length c) := ⟨_, rfl⟩
      rw [← hW] at HD
      have d0 : W.cell? ⟨w.heap.size, 0, none⟩ = some (.int .i64 f.1) := by rw [hW, hd3.cell 0]; rfl
      have d1 : W.cell? ⟨w.heap.size, 1, none⟩ = some (.slice A f.2.length c) := by rw [hW, hd3.cell 1]; rfl
      have HW := Lib.hid hW
      clear hW hd0 hd1 hd2 hd3 hf
      go_wp2_with (fail)
      rw [← HW.out]
      refine bodyPost_ret (v := .agg #[.int .i64 f.1, .slice A f.2.length c]) (by simp [results, Try.results39, go_sem, d0, d1]) rfl ?_
      obtain ⟨h1, h2, h3⟩ := HD.out
      exact ⟨A, c, f, q, rfl, hfl, by omega, h1, h2, h3⟩

end Go.Proofs.Ytofkcmihcgmmpaa
/-
  A fact drawn, its arguments in a row of the call's own.
-/
namespace Go.Proofs.Ytofkcmihcgmmpaa
open Go.RowKit

theorem OwnInts.offG {w W : World} {lo hi g : Nat} {v : Value} {xs : List Int} (h : OwnInts w lo hi v xs) (k : Only g (g + 1) w W) (hg : g < lo) : OwnInts W lo hi v xs :=
  h.kept fun b hb => k.block b (h.1.lt b hb).2 (.inr (by have := (h.1.lt b hb).1; omega))
theorem DrRel.ints {w wr : World} {g : Nat} {bs : List Nat} {p k : Nat} {A : Option Addr} {c : Nat} {xs : List Int} (h : DrRel w wr g bs p k A c xs) : OwnInts wr w.heap.size wr.heap.size (.slice A k c) xs :=
  ⟨by rw [h.len]; exact h.own, fun b hb => (h.own.lt b hb).2⟩

theorem l1Fact_own (g : Nat) (bs : List Nat) (p lo hi : Nat) (v : Value) (ar : List Int) (w : World) (h : Rdr w g bs p) (hp : p ≤ 1048576) (ha : OwnInts w lo hi v ar) (hg : g < lo) (hh : hi ≤ w.heap.size) (hr : ∀ x ∈ ar, 0 ≤ x ∧ x ≤ 2) (hl : ar.length ≤ 1048576) :
    Calls Try.prog 39 #[.pointer (some ⟨g, 0, none⟩), v] w fun e w' => ∃ (A : Option Addr) (c : Nat) (f : LFact) (q : Nat), e = .returned (.agg #[.int .i64 f.1, .slice A f.2.length c]) ∧ f.2.length ≤ 3 ∧ q ≤ p + 20 ∧
      OwnInts w' w.heap.size w'.heap.size (.slice A f.2.length c) f.2 ∧ Rdr w' g bs q ∧ Only g (g + 1) w w' :=
  (l1Fact_any g bs p v ar w h hp (ha.rd.more hh) (fun _ k => (ha.offG k hg).rd.more (Nat.le_trans hh k.size)) hr hl).mono fun _ _ ⟨A, c, f, q, he, hf, hq, ho, hR, hO⟩ =>
    ⟨A, c, f, q, he, hf, hq, (show OwnInts _ _ _ _ _ from ⟨ho, fun b hb => (ho.lt b hb).2⟩).mono (Nat.le_add_right _ 2) (Nat.le_refl _), hR, hO⟩

end Go.Proofs.Ytofkcmihcgmmpaa
/-
  A row of integers that a draw makes: the words; the walk of l3Draw.
-/
namespace Go.Proofs.Ytofkcmihcgmmpaa
open Go.RowKit

/-- What a draw of integers keeps: the row lies from w on, the reader is read on. -/
structure DrI (w wr : World) (g : Nat) (bs : List Nat) (q : Nat) (A : Option Addr) (c : Nat) (xs : List Int) : Prop where
  own : OwnInts wr w.heap.size wr.heap.size (.slice A xs.length c) xs
  rdr : Rdr wr g bs q
  only : Only g (g + 1) w wr
section
variable {w wr w' w4 : World} {g q : Nat} {bs : List Nat} {A : Option Addr} {c : Nat} {xs : List Int}
theorem DrI.empty (h : Rdr w g bs q) : DrI w (w.alloc (.cells #[] 3)) g bs q (some ⟨w.heap.size, 0, none⟩) 0 [] :=
  ⟨⟨World.ownsRow_made w #[] 0 (Nat.le_refl _) (by decide) rfl, fun b hb => by simp [Value.ownBlock] at hb; subst hb; simp⟩, h.below (below1 _ _) h.lt, Only.of_below (below1 _ _)⟩
theorem DrI.on (h : DrI w wr g bs q A c xs) (hb : Below wr.heap.size wr w') : DrI w w' g bs q A c xs :=
  ⟨(h.own.below hb (Nat.le_refl _)).mono (Nat.le_refl _) hb.size, h.rdr.below hb h.rdr.lt, h.only.trans (Only.of_below hb)⟩
theorem DrI.pick (h : DrI w wr g bs q A c xs) (hg : g < w.heap.size) (hk : Picked wr w' g bs q) : DrI w w' g bs (q + 1) A c xs :=
  ⟨(h.own.only hk.2 (.inr (by omega))).mono (Nat.le_refl _) hk.2.size, hk.1, h.only.trans hk.2⟩
theorem DrI.low (h : DrI w wr g bs q A c xs) (hg : wr.grownBy w' (Value.slice A xs.length c).ownBlock) : ∀ b, b < w.heap.size → w'.heap[b]? = wr.heap[b]? := fun b hb =>
  hg.block b (by have := h.only.size; omega) (fun e => by have := (h.own.lt e.symm).1; omega)
theorem DrI.push {g2 cap : Nat} {x : Int} {o : Obj} (h : DrI w wr g bs q A c xs) (hgw : g < w.heap.size) (hg : (wr.alloc o).grownBy w4 (Value.slice A xs.length c).ownBlock)
    (hown : w4.ownsRow w.heap.size 3 1 (.slice (some ⟨g2, 0, none⟩) (xs.length + 1) cap) (xs.length + 1) (xs.map (Value.int .i64) ++ [.int .i64 x])) : DrI w w4 g bs q (some ⟨g2, 0, none⟩) cap (xs ++ [x]) := by
  have hg2 := grown_from_alloc hg
  have hlow := h.low hg2
  have hl : (xs ++ [x]).length = xs.length + 1 := by simp
  refine ⟨?_, h.rdr.same fun k hk => hlow k (by omega), ?_⟩
  · rw [hl]
    exact ⟨by simpa using hown, fun b hb => (hown.lt b hb).2⟩
  · exact ⟨hg2.os.trans h.only.os, hg2.tape.trans h.only.tape, hg2.output.trans h.only.output, Nat.le_trans h.only.size hg2.size, fun b hb hn => (hlow b hb).trans (h.only.block b hb hn)⟩
theorem DrI.form (h : DrI w wr g bs q A c xs) (hn : 0 < xs.length) : ∃ b, A = some ⟨b, 0, none⟩ ∧ w.heap.size ≤ b := by
  rcases h.own.1.2 with ⟨e, h0⟩ | ⟨b, cap, cur, e, hb, _⟩
  · omega
  · injection e with e _ _
    exact ⟨b, e, hb⟩
theorem DrI.cap (h : DrI w wr g bs q A c xs) : xs.length ≤ c := by
  obtain ⟨A', c', e, hc, _⟩ := h.own.rd
  injection e with _ _ e
  omega
theorem DrI.cell {b : Nat} (h : DrI w wr g bs q (some ⟨b, 0, none⟩) c xs) {j : Nat} (hj : j < xs.length) : wr.cell? ⟨b, j, none⟩ = some (.int .i64 xs[j]) ∧ wr.frozen? ⟨b, j, none⟩ = false := by
  refine ⟨?_, h.own.1.frozenAt j⟩
  rw [h.own.1.cellAt j (by omega)]
  simp [hj]
theorem DrI.set {b : Nat} (h : DrI w wr g bs q (some ⟨b, 0, none⟩) c xs) (hgw : g < w.heap.size) {j : Nat} (hj : j < xs.length) (x : Int) : DrI w (wr.setCell ⟨b, j, none⟩ (.int .i64 x)) g bs q (some ⟨b, 0, none⟩) c (xs.set j x) := by
  have hb := (h.own.lt (g := b) rfl)
  refine ⟨?_, h.rdr.same fun k hk => Below.heap_setCell _ _ _ _ (by show k ≠ b; omega), ⟨h.only.os, h.only.tape, h.only.output, by simpa using h.only.size, fun k hk hn => (Below.heap_setCell _ _ _ _ (by show k ≠ b; omega)).trans (h.only.block k hk hn)⟩⟩
  have := h.own.store rfl hj x
  simpa using this
theorem DrI.take {b n : Nat} (h : DrI w wr g bs q (some ⟨b, 0, none⟩) c xs) (hn : n ≤ xs.length) : DrI w wr g bs q (some ⟨b, 0, none⟩) c (xs.take n) := by
  refine ⟨?_, h.rdr, h.only⟩
  have hl : (xs.take n).length = n := by rw [List.length_take]; omega
  rw [hl]
  refine ⟨⟨by first | (simp; done) | (simp; omega), .inr ?_⟩, h.own.2⟩
  rcases h.own.1.2 with ⟨e, _⟩ | ⟨b', cap, cur, e, hb, hg, hnc, hcm, hcs, ht⟩
  · cases e
  · injection e with e1 e2 e3
    injection e1 with e1
    injection e1 with e1 _ _
    subst e1
    subst e3
    refine ⟨b, c, cur, by rw [hl], hb, hg, by omega, hcm, hcs, ?_⟩
    rw [hl]
    have := congrArg (List.take n) ht
    rw [List.take_take] at this
    simp only [Nat.mul_one] at this ⊢
    rw [show min n xs.length = n by omega] at this
    rw [this, List.map_take]
theorem DrI.same (h : DrI w wr g bs q A c xs) : RdInts wr wr.heap.size (.slice A xs.length c) xs := h.own.rd
end

set_option maxHeartbeats 2000000 in
set_option maxRecDepth 100000 in
theorem l3Draw_any (g : Nat) (bs : List Nat) (p : Nat) (w : World) (h : Rdr w g bs p) (hp : p ≤ 1048576) :
    Calls Try.prog 15 #[.pointer (some ⟨g, 0, none⟩)] w fun e w' => ∃ (A : Option Addr) (c : Nat) (xs : List Int) (q : Nat), e = .returned (.slice A xs.length c) ∧ xs.length ≤ 4 ∧ q ≤ p + 20 ∧ DrI w w' g bs q A c xs := by
  obtain ⟨i0, hi0, hz0, hz1, hz2⟩ := info_parts Try.infoInt
  have H := Lib.hid h
  have hgl := h.lt
  clear h
  go_enter Try.func15, Try.ntmps15
  go_wp2_with (fail)
  go_loopw [3, 4] (fun o i wr => ∃ (k : Nat) (A : Option Addr) (c : Nat) (xs : List Int), k ≤ 4 ∧ i = .int .i64 k ∧ xs.length = k ∧ o = .slice A xs.length c ∧ DrI w wr g bs (p + 3 * k) A c xs) (fun _ i _ => 4 - (intOf i).toNat)
  case atStart => exact ⟨0, _, 0, [], Nat.zero_le _, rfl, rfl, rfl, DrI.empty H.out⟩
  case round =>
    obtain ⟨k, A, c, xs, hk, rfl, hxl, rfl, hr⟩ := hrel
    have HXL := Lib.hid hxl
    have hxl4 : xs.length ≤ 4 := by omega
    clear hxl
    by_cases hlt : k < 4
    · have HP := Lib.hid hr
      have hws := hr.only.size
      clear hr
      have hki : decide ((k : Int) < 4) = true := by simp; omega
      go_wp2_with (fail)
      refine (pick_any g bs (p + 3 * k) 3 _ HP.out.rdr (by omega) (by omega)).mono ?_
      rintro e w1 ⟨⟨x1, rfl, _⟩, hp1⟩
      have H1 := Lib.hid (HP.out.pick hgl hp1)
      clear hp1
      go_wp2_with (fail)
      refine (pick_any g bs (p + 3 * k + 1) 6 _ H1.out.rdr (by omega) (by omega)).mono ?_
      rintro e w2 ⟨⟨x2, rfl, _⟩, hp2⟩
      have H2 := Lib.hid (H1.out.pick hgl hp2)
      clear hp2
      go_wp2_with (fail)
      have H3 := Lib.hid (H2.out.on (below1 w2 (.cells #[.int .i64 (-1), .int .i64 x1, .int .i64 x2] 3)))
      refine (num_any g bs (p + 3 * k + 1 + 1) _ _ [-1, x1, x2] 3 _ H3.out.rdr (by omega) (Blk.new _ _ _) rfl (by have := H2.out.only.size; omega) rfl (by simp) (by simp)).mono ?_
      rintro e w4 ⟨⟨x3, rfl, _⟩, hp4⟩
      have H4 := Lib.hid (H3.out.pick hgl hp4)
      have hs4 := H4.out.only.size
      clear hp4
      go_wp2_with (at_builtin; refine wpList_append_lies _ rfl (.tmp 10) (.tmp 18) 24 rfl w.heap.size 3 i0 (.int .i64 0) 1 8 Try.underlying24 hi0 hz0 hz1 hz2 rfl (by decide) (.slice A xs.length c) xs.length (xs.map (Value.int .i64)) rfl ?c1 ⟨w4.heap.size, 0, none⟩ 1 1 [.int .i64 x3] rfl rfl (cell_one_new _ _ _) ?c2 (by omega) (by unfold maxLen; omega) (by omega) ?c3 _ rfl ?_)
      case c1 => exact H4.out.own.1.alloc _
      case c2 => intro u hu; simp at hu; subst hu; rfl
      case c3 => simp; omega
      intro g2 cap w5 hown hgr _ _
      have HC := Lib.hid (H4.out.push hgl hgr hown)
      obtain ⟨ys, hys⟩ : ∃ ys, ys = xs ++ [x3] := ⟨_, rfl⟩
      have hle : xs.length + 1 = ys.length := by rw [hys]; simp
      have HYL := Lib.hid (show ys.length = k + 1 by rw [hys]; have := HXL.out; simp; omega)
      rw [hle]
      rw [← hys] at HC
      clear hown hgr hys hle
      go_wp2_with (fail)
      go_roundw
      case rel => exact ⟨k + 1, _, _, ys, by omega, by go_num, HYL.out, rfl, HC.out⟩
      case measure => simp [intOf]; omega
    · have hk4 : k = 4 := by omega
      subst hk4
      have HP := Lib.hid hr
      have hx4 : 0 < xs.length := by have := HXL.out; omega
      obtain ⟨b, rfl, hb⟩ := hr.form hx4
      have hcapi : (3 : Int) ≤ (c : Int) := by have := hr.cap; have := HXL.out; omega
      clear hr
      go_wp2_with (fail)
      refine (pick_any g bs (p + 3 * 4) 24 _ HP.out.rdr (by omega) (by omega)).mono ?_
      rintro e w1 ⟨⟨y1, rfl, _⟩, hp1⟩
      have H1 := Lib.hid (HP.out.pick hgl hp1)
      clear hp1
      by_cases hy1 : y1 = 0
      · have hya : (y1 == 0) = true := by simp [hy1]
        clear hy1
        go_wp2_with (fail)
        have H3 := Lib.hid (H1.out.on (below1 w1 (.cells #[.int .i64 6, .int .i64 (-2)] 3)))
        refine (num_any g bs (p + 3 * 4 + 1) _ _ [6, -2] 2 _ H3.out.rdr (by omega) (Blk.new _ _ _) rfl (by have := H1.out.only.size; omega) rfl (by simp) (by simp)).mono ?_
        rintro e w5 ⟨⟨z, rfl, _⟩, hp5⟩
        have H5 := Lib.hid (H3.out.pick hgl hp5)
        clear hp5
        obtain ⟨k1, k2⟩ := H5.out.cell hx4
        have H6 := Lib.hid (H5.out.set hgl hx4 z)
        have hxp : (0 : Int) < xs.length := by omega
        go_wp2_with (fail)
        refine (pick_any g bs (p + 3 * 4 + 1 + 1) 24 _ H6.out.rdr (by omega) (by omega)).mono ?_
        rintro e w9 ⟨⟨y2, rfl, _⟩, hp9⟩
        have H9 := Lib.hid (H6.out.pick hgl hp9)
        clear hp9
        by_cases hy2 : y2 = 0
        · have hyb : (y2 == 0) = true := by simp [hy2]
          clear hy2
          go_wp2_with (fail)
          go_ret
          have hl3 : ((xs.set 0 z).take 3).length = 3 := by rw [List.length_take, List.length_set]; have := HXL.out; omega
          exact ⟨_, _, (xs.set 0 z).take 3, _, by rw [hl3]; rfl, by omega, by omega, H9.out.take (by have := HXL.out; (try rw [List.length_set]); omega)⟩
        · have hyb : (y2 == 0) = false := by simp [hy2]
          clear hy2
          go_wp2_with (fail)
          go_ret
          exact ⟨_, _, (xs.set 0 z), _, by rw [List.length_set]; rfl, by rw [List.length_set]; omega, by omega, H9.out⟩
      · have hya : (y1 == 0) = false := by simp [hy1]
        clear hy1
        go_wp2_with (fail)
        refine (pick_any g bs (p + 3 * 4 + 1) 24 _ H1.out.rdr (by omega) (by omega)).mono ?_
        rintro e w9 ⟨⟨y2, rfl, _⟩, hp9⟩
        have H9 := Lib.hid (H1.out.pick hgl hp9)
        clear hp9
        by_cases hy2 : y2 = 0
        · have hyb : (y2 == 0) = true := by simp [hy2]
          clear hy2
          go_wp2_with (fail)
          go_ret
          have hl3 : (xs.take 3).length = 3 := by rw [List.length_take]; have := HXL.out; omega
          exact ⟨_, _, xs.take 3, _, by rw [hl3]; rfl, by omega, by omega, H9.out.take (by have := HXL.out; (try rw [List.length_set]); omega)⟩
        · have hyb : (y2 == 0) = false := by simp [hy2]
          clear hy2
          go_wp2_with (fail)
          go_ret
          exact ⟨_, _, xs, _, rfl, hxl4, by omega, H9.out⟩

end Go.Proofs.Ytofkcmihcgmmpaa
/-
  An atom drawn: the words; the walk of l2Draw.
-/
namespace Go.Proofs.Ytofkcmihcgmmpaa
open Go.RowKit

/-- What l2Draw keeps: r is the result's block, r + 1 the fact's. -/
structure AoRel (w wr : World) (g : Nat) (bs : List Nat) (p : Nat) (A : Option Addr) (c : Nat) (f : LFact) : Prop where
  res : Blk wr w.heap.size 26 #[.int .i64 0, .slice none 0 0]
  fact : Blk wr (w.heap.size + 1) 26 #[.int .i64 f.1, .slice A f.2.length c]
  own : wr.ownsRow (w.heap.size + 2) 3 1 (.slice A f.2.length c) f.2.length (f.2.map (Value.int .i64))
  rdr : Rdr wr g bs p
  only : Only g (g + 1) w wr

theorem AoRel.start {w : World} {g : Nat} {bs : List Nat} {p : Nat} (h : Rdr w g bs p) :
    AoRel w ((w.alloc (Obj.cells #[Value.int IntKind.i64 0, Value.slice none 0 0] 26)).alloc (Obj.cells #[Value.int IntKind.i64 0, Value.slice none 0 0] 26)) g bs p none 0 (0, []) :=
  ⟨(Blk.new w _ _).alloc _, by simpa using Blk.new (w.alloc (Obj.cells #[Value.int IntKind.i64 0, Value.slice none 0 0] 26)) 26 #[.int .i64 0, .slice none 0 0], World.ownsRow_nil _ _ _ _, h.below (below2 w _ _) h.lt, Only.of_below (below2 w _ _)⟩

/-- A pick keeps the rest. -/
theorem AoRel.pick {w wr w' : World} {g : Nat} {bs : List Nat} {p : Nat} {A : Option Addr} {c : Nat} {f : LFact} (h : AoRel w wr g bs p A c f) (hg : g < w.heap.size) (hk : Picked wr w' g bs p) : AoRel w w' g bs (p + 1) A c f :=
  ⟨h.res.only hk.2 (by omega), h.fact.only hk.2 (by omega), ownsRow_only h.own (fun b hb => hk.2.block b (h.own.lt b hb).2 (by have := (h.own.lt b hb).1; omega)), hk.1, h.only.trans hk.2⟩

/-- The predicate stored. -/
theorem AoRel.pred {w wr : World} {g : Nat} {bs : List Nat} {p : Nat} {A : Option Addr} {c : Nat} {f : LFact} (h : AoRel w wr g bs p A c f) (hg : g < w.heap.size) (x : Int) : AoRel w (wr.setCell ⟨w.heap.size + 1, 0, none⟩ (.int .i64 x)) g bs p A c (x, f.2) :=
  ⟨h.res.far (by show w.heap.size ≠ w.heap.size + 1; omega) _, h.fact.set_ 0 _, ownsRow_only h.own (fun b hb => Below.heap_setCell _ _ _ _ (by have := (h.own.lt b hb).1; show b ≠ w.heap.size + 1; omega)),
    h.rdr.same fun k hk => Below.heap_setCell _ _ _ _ (by show k ≠ w.heap.size + 1; omega),
    ⟨h.only.os, h.only.tape, h.only.output, by simpa using h.only.size, fun k hk hn => (Below.heap_setCell _ _ _ _ (by show k ≠ w.heap.size + 1; omega)).trans (h.only.block k hk hn)⟩⟩

/-- A new block keeps all. -/
theorem AoRel.alloc {w wr : World} {g : Nat} {bs : List Nat} {p : Nat} {A : Option Addr} {c : Nat} {f : LFact} (h : AoRel w wr g bs p A c f) (o : Obj) : AoRel w (wr.alloc o) g bs p A c f :=
  ⟨h.res.alloc o, h.fact.alloc o, h.own.alloc o, h.rdr.below (below1 wr o) h.rdr.lt, h.only.trans (Only.of_below (below1 wr o))⟩
theorem AoRel.drewN {w wr : World} {g : Nat} {bs : List Nat} {p : Nat} {A : Option Addr} {c : Nat} {f : LFact} (h : AoRel w wr g bs p A c f) (n : Nat) : AoRel w (wr.drewN n) g bs p A c f :=
  ⟨h.res, h.fact, h.own, h.rdr, ⟨h.only.os, h.only.tape, h.only.output, h.only.size, h.only.block⟩⟩

theorem AoRel.drew {w wr : World} {g : Nat} {bs : List Nat} {p : Nat} {A : Option Addr} {c : Nat} {f : LFact} (h : AoRel w wr g bs p A c f) : AoRel w wr.drew g bs p A c f :=
  ⟨h.res, h.fact, h.own, h.rdr, ⟨h.only.os, h.only.tape, h.only.output, h.only.size, h.only.block⟩⟩

theorem AoRel.push {w wr w4 : World} {g : Nat} {bs : List Nat} {p : Nat} {A : Option Addr} {c : Nat} {P : Int} {xs : List Int} (h : AoRel w wr g bs p A c (P, xs)) (hg : g < w.heap.size)
    (hgr : wr.grownBy w4 (Value.slice A xs.length c).ownBlock) {g2 cap : Nat} {x : Int} (hown : w4.ownsRow (w.heap.size + 2) 3 1 (.slice (some ⟨g2, 0, none⟩) (xs.length + 1) cap) (xs.length + 1) (xs.map (Value.int .i64) ++ [.int .i64 x])) :
    AoRel w (w4.setCell ⟨w.heap.size + 1, 1, none⟩ (.slice (some ⟨g2, 0, none⟩) (xs.length + 1) cap)) g bs p (some ⟨g2, 0, none⟩) cap (P, xs ++ [x]) := by
  have hs := h.fact.lt
  have hlow : ∀ b, b < w.heap.size + 2 → w4.heap[b]? = wr.heap[b]? := fun b hb => hgr.block b (by omega) (fun e => by have := (h.own.lt b e.symm).1; omega)
  have hlow2 : ∀ b, b < w.heap.size + 1 → (w4.setCell ⟨w.heap.size + 1, 1, none⟩ (.slice (some ⟨g2, 0, none⟩) (xs.length + 1) cap)).heap[b]? = wr.heap[b]? := fun b hb =>
    (Below.heap_setCell _ _ _ _ (by show b ≠ w.heap.size + 1; omega)).trans (hlow b (by omega))
  refine ⟨(hlow2 _ (by omega)).trans h.res, ?_, ?_, h.rdr.same fun k hk => hlow2 k (by omega), ⟨hgr.os.trans h.only.os, hgr.tape.trans h.only.tape, hgr.output.trans h.only.output, Nat.le_trans h.only.size (Nat.le_trans hgr.size (by simp)), fun k hk hn => (hlow2 k (by omega)).trans (h.only.block k hk hn)⟩⟩
  · have := (show Blk w4 (w.heap.size + 1) 26 _ from (hlow _ (by omega)).trans h.fact).set_ 1 (.slice (some ⟨g2, 0, none⟩) (xs.length + 1) cap)
    simpa using this
  · simpa using ownsRow_only hown (fun b hb => Below.heap_setCell _ _ _ _ (by have := (hown.lt b hb).1; show b ≠ w.heap.size + 1; omega))

theorem AoRel.keepFact {w wr w4 : World} {g : Nat} {bs : List Nat} {p : Nat} {A : Option Addr} {c : Nat} {f : LFact} (h : AoRel w wr g bs p A c f) (hgr : wr.grownBy w4 (Value.slice A f.2.length c).ownBlock) : Blk w4 (w.heap.size + 1) 26 #[.int .i64 f.1, .slice A f.2.length c] :=
  (hgr.block _ h.fact.lt (fun e => by have := (h.own.lt _ e.symm).1; omega)).trans h.fact

/-- A row of one or more begins at its block. -/
theorem AoRel.form {w W : World} {g : Nat} {bs : List Nat} {q : Nat} {A : Option Addr} {c : Nat} {f : LFact} (h : AoRel w W g bs q A c f) (hn : 0 < f.2.length) : ∃ g2, A = some ⟨g2, 0, none⟩ := by
  obtain ⟨g2, cap, e, _⟩ := h.own.form hn
  injection e with e1 _ _
  exact ⟨g2, e1⟩
theorem AoRel.head {w W : World} {g : Nat} {bs : List Nat} {q g2 c : Nat} {f : LFact} (h : AoRel w W g bs q (some ⟨g2, 0, none⟩) c f) (hn : 0 < f.2.length) : W.cell? ⟨g2, 0, none⟩ = some (.int .i64 (f.2[0]'hn)) ∧ W.frozen? ⟨g2, 0, none⟩ = false := by
  refine ⟨?_, h.own.frozenAt 0⟩
  rw [h.own.cellAt 0 (by omega)]
  simp [hn]
/-- The first place is set anew. -/
theorem AoRel.first {w W : World} {g : Nat} {bs : List Nat} {q g2 c : Nat} {f : LFact} (h : AoRel w W g bs q (some ⟨g2, 0, none⟩) c f) (hg : g < w.heap.size) (x : Int) :
    AoRel w (W.setCell ⟨g2, 0, none⟩ (.int .i64 x)) g bs q (some ⟨g2, 0, none⟩) c (f.1, f.2.set 0 x) := by
  have hb := (h.own.lt g2 rfl).1
  have hs := h.own.stored 0 (.int .i64 x)
  refine ⟨h.res.far (by show w.heap.size ≠ g2; omega) _, ?_, ?_, h.rdr.same fun k hk => Below.heap_setCell _ _ _ _ (by show k ≠ g2; omega),
    ⟨h.only.os, h.only.tape, h.only.output, by simpa using h.only.size, fun k hk hn => (Below.heap_setCell _ _ _ _ (by show k ≠ g2; omega)).trans (h.only.block k hk hn)⟩⟩
  · simpa using h.fact.far (p := ⟨g2, 0, none⟩) (by show w.heap.size + 1 ≠ g2; omega) (.int .i64 x)
  · have := hs.1
    rw [← List.map_set] at this
    simpa using this
/-- The result is laid. -/
theorem AoRel.done {w W : World} {g : Nat} {bs : List Nat} {q : Nat} {A : Option Addr} {c : Nat} {f : LFact} (h : AoRel w W g bs q A c f) (hg : g < w.heap.size) :
    ((W.setCell ⟨w.heap.size, 0, none⟩ (.int .i64 f.1)).setCell ⟨w.heap.size, 1, none⟩ (.slice A f.2.length c)).ownsRow (w.heap.size + 2) 3 1 (.slice A f.2.length c) f.2.length (f.2.map (Value.int .i64)) ∧
    Rdr ((W.setCell ⟨w.heap.size, 0, none⟩ (.int .i64 f.1)).setCell ⟨w.heap.size, 1, none⟩ (.slice A f.2.length c)) g bs q ∧
    Only g (g + 1) w ((W.setCell ⟨w.heap.size, 0, none⟩ (.int .i64 f.1)).setCell ⟨w.heap.size, 1, none⟩ (.slice A f.2.length c)) ∧
    Blk ((W.setCell ⟨w.heap.size, 0, none⟩ (.int .i64 f.1)).setCell ⟨w.heap.size, 1, none⟩ (.slice A f.2.length c)) w.heap.size 26 #[.int .i64 f.1, .slice A f.2.length c] := by
  have hb : ∀ k, k ≠ w.heap.size → ((W.setCell ⟨w.heap.size, 0, none⟩ (.int .i64 f.1)).setCell ⟨w.heap.size, 1, none⟩ (.slice A f.2.length c)).heap[k]? = W.heap[k]? := fun k hk =>
    (Below.heap_setCell _ _ _ _ (by show k ≠ w.heap.size; exact hk)).trans (Below.heap_setCell _ _ _ _ (by show k ≠ w.heap.size; exact hk))
  refine ⟨ownsRow_only h.own (fun b hb' => hb b (by have := (h.own.lt b hb').1; omega)), h.rdr.same fun k hk => hb k (by omega), ⟨h.only.os, h.only.tape, h.only.output, by simpa using h.only.size, fun k hk hn => (hb k (by omega)).trans (h.only.block k hk hn)⟩, ?_⟩
  have := (h.res.set_ 0 (.int .i64 f.1)).set_ 1 (.slice A f.2.length c)
  simpa using this


theorem AoRel.startAt {w : World} {g : Nat} {bs : List Nat} {p : Nat} (h : Rdr w g bs p) (x : Int) :
    AoRel w ((w.alloc (Obj.cells #[Value.int IntKind.i64 0, Value.slice none 0 0] 26)).alloc (Obj.cells #[Value.int IntKind.i64 x, Value.slice none 0 0] 26)) g bs p none 0 (x, []) :=
  ⟨(Blk.new w _ _).alloc _, by simpa using Blk.new (w.alloc (Obj.cells #[Value.int IntKind.i64 0, Value.slice none 0 0] 26)) 26 #[.int .i64 x, .slice none 0 0], World.ownsRow_nil _ _ _ _, h.below (below2 w _ _) h.lt, Only.of_below (below2 w _ _)⟩

set_option maxHeartbeats 4000000 in
set_option maxRecDepth 100000 in
theorem l2Draw_any (g : Nat) (bs : List Nat) (p lo hi j m n : Nat) (v : Value) (ar : List Int) (w : World) (h : Rdr w g bs p) (hp : p ≤ 1048576) (ha : OwnInts w lo hi v ar) (hg : g < lo) (_hh : hi ≤ w.heap.size) (hj : j < ar.length) (hm : ar[j] = (m : Int)) (hm2 : m ≤ 2) (hl : ar.length ≤ 1048576) (hn : n ≤ 3) :
    Calls Try.prog 38 #[.pointer (some ⟨g, 0, none⟩), v, .int .i64 j, .int .i64 n] w fun e w' => ∃ (A : Option Addr) (c : Nat) (xs : List Int) (q : Nat), e = .returned (.agg #[.int .i64 j, .slice A xs.length c]) ∧ (xs.length ≤ 2 ∧ ∀ t ∈ xs, -4 ≤ t ∧ t ≤ 5) ∧ q ≤ p + 6 ∧
      OwnInts w' w.heap.size w'.heap.size (.slice A xs.length c) xs ∧ Rdr w' g bs q ∧ Only g (g + 1) w w' := by
  obtain ⟨i0, hi0, hz0, hz1, hz2⟩ := info_parts Try.infoInt
  have hgl := h.lt
  have HOW := Lib.hid ha
  have HM := Lib.hid hm
  have HS := Lib.hid (AoRel.startAt h (j : Int))
  obtain ⟨A0, c0, hv0⟩ := ha.form
  subst hv0
  clear h ha hm
  go_enter Try.func38, Try.ntmps38
  go_wp2_with (fail)
  go_loopw [10] (fun i wr => ∃ (k : Nat) (A : Option Addr) (c : Nat) (xs : List Int) (q : Nat), k ≤ m ∧ i = .int .i64 k ∧ (xs.length = k ∧ ∀ t ∈ xs, -4 ≤ t ∧ t ≤ 5) ∧ q ≤ p + 3 * k ∧ AoRel w wr g bs q A c ((j : Int), xs)) (fun i _ => m - (intOf i).toNat)
  case atStart => exact ⟨0, none, 0, [], p, Nat.zero_le _, rfl, ⟨rfl, fun t ht => absurd ht (by simp)⟩, by omega, HS.out⟩
  case round =>
    obtain ⟨k, A, c, xs, q, hk, rfl, ⟨hxl, hxt⟩, hq, hfr⟩ := hrel
    have HXT := Lib.hid hxt
    clear hxt
    have HXL := Lib.hid hxl
    have hxl2 : xs.length ≤ 2 := by omega
    have how := HOW.out.only hfr.only (.inr (by omega))
    obtain ⟨A', c', e0, hc', hcell⟩ := how.rd
    injection e0 with e1 e3 e2
    clear e3
    subst e1
    subst e2
    obtain ⟨b, o, rfl, hbB, hx⟩ := hcell (by omega)
    have k3 : wr.cell? ⟨b, o + j, none⟩ = some (.int .i64 (m : Int)) := by rw [hx j hj, HM.out]
    have HR := Lib.hid hfr
    clear hcell hx hfr how hxl
    by_cases hlt : k < m
    · go_wp2_with (fail)
      refine (pick_any g bs q 3 _ HR.out.rdr (by omega) (by omega)).mono ?_
      rintro e w1 ⟨⟨x1, rfl, hx1⟩, hp1⟩
      have HX1 := Lib.hid (show ∀ t ∈ xs ++ [x1], -4 ≤ t ∧ t ≤ 5 from fun t ht => by
        rcases List.mem_append.1 ht with ht | ht
        · exact HXT.out t ht
        · have := hx1.1 (by omega)
          rw [List.mem_singleton.1 ht]
          omega)
      clear hx1
      have H1 := Lib.hid (HR.out.pick hgl hp1)
      clear hp1
      by_cases hn0 : 0 < n
      · have hnb : decide ((0 : Int) < (n : Int)) = true := by simpa using hn0
        go_wp2_with (fail)
        refine (pick_any g bs (q + 1) 5 _ H1.out.rdr (by omega) (by omega)).mono ?_
        rintro e w2 ⟨⟨x2, rfl, _⟩, hp2⟩
        have H2 := Lib.hid (H1.out.pick hgl hp2)
        clear hp2
        by_cases hx2 : 0 < x2
        · have hxb : decide (0 < x2) = true := by simpa using hx2
          go_wp2_with (fail)
          refine (pick_any g bs (q + 1 + 1) n _ H2.out.rdr (by omega) (by omega)).mono ?_
          rintro e w3 ⟨⟨x3, rfl, hx3⟩, hp3⟩
          have hx3r : 0 ≤ x3 ∧ x3 < n := hx3.1 (by omega)
          obtain ⟨wS, rfl⟩ : ∃ wS, wS = w3 := ⟨_, rfl⟩
          have H3 := Lib.hid (H2.out.pick hgl hp3)
          have hw3 : IntKind.i64.wrap (-1 - x3) = -1 - x3 := by
            unfold IntKind.wrap
            simp [IntKind.bits, IntKind.signed] <;> omega
          have HX3 := Lib.hid (show ∀ t ∈ xs ++ [(-1 - x3)], -4 ≤ t ∧ t ≤ 5 from fun t ht => by
            rcases List.mem_append.1 ht with ht | ht
            · exact HXT.out t ht
            · rw [List.mem_singleton.1 ht]
              omega)
          clear hp3 hx3
          have a1 : wS.cell? ⟨w.heap.size + 1, 1, none⟩ = some (.slice A xs.length c) := H3.out.fact.cell 1
          go_wp2_with (at_builtin; refine wpList_append_lies _ rfl (.tmp 36) (.tmp 38) 24 rfl (w.heap.size + 2) 3 i0 (.int .i64 0) 1 8 Try.underlying24 hi0 hz0 hz1 hz2 rfl (by decide) (.slice A xs.length c) xs.length (xs.map (Value.int .i64)) rfl ?c1 ⟨wS.heap.size, 0, none⟩ 1 1 [.int .i64 (-1 - x3)] rfl rfl (cell_one_new _ _ _) ?c2 (by omega) (by unfold maxLen; omega) (by omega) ?c3 _ rfl ?_)
          case c1 => exact (H3.out.alloc _).own
          case c2 => intro u hu; simp at hu; subst hu; rfl
          case c3 => exact (H3.out.alloc _).fact.lt
          intro g2 cap w5 hown hgr _ _
          have HST := Lib.hid (AoRel.push (H3.out.alloc _) hgl hgr hown)
          have hkf := AoRel.keepFact (H3.out.alloc _) hgr
          have e1 : w5.cell? ⟨w.heap.size + 1, 1, none⟩ = some (.slice A xs.length c) := hkf.cell 1
          have e2 := hkf.frozen 1
          clear hkf hown hgr
          go_wp2_with (fail)
          go_roundw
          case rel => exact ⟨k + 1, _, _, xs ++ [(-1 - x3)], q + 1 + 1 + 1, by omega, by go_num, ⟨by simp; exact HXL.out, HX3.out⟩, by omega, by simpa using HST.out⟩
          case measure => simp [intOf]; omega
        · have hxb : decide (0 < x2) = false := by simpa using hx2
          obtain ⟨wS, rfl⟩ : ∃ wS, wS = w2 := ⟨_, rfl⟩
          have a1 : wS.cell? ⟨w.heap.size + 1, 1, none⟩ = some (.slice A xs.length c) := H2.out.fact.cell 1
          go_wp2_with (at_builtin; refine wpList_append_lies _ rfl (.tmp 36) (.tmp 38) 24 rfl (w.heap.size + 2) 3 i0 (.int .i64 0) 1 8 Try.underlying24 hi0 hz0 hz1 hz2 rfl (by decide) (.slice A xs.length c) xs.length (xs.map (Value.int .i64)) rfl ?c1 ⟨wS.heap.size, 0, none⟩ 1 1 [.int .i64 x1] rfl rfl (cell_one_new _ _ _) ?c2 (by omega) (by unfold maxLen; omega) (by omega) ?c3 _ rfl ?_)
          case c1 => exact (H2.out.alloc _).own
          case c2 => intro u hu; simp at hu; subst hu; rfl
          case c3 => exact (H2.out.alloc _).fact.lt
          intro g2 cap w5 hown hgr _ _
          have HST := Lib.hid (AoRel.push (H2.out.alloc _) hgl hgr hown)
          have hkf := AoRel.keepFact (H2.out.alloc _) hgr
          have e1 : w5.cell? ⟨w.heap.size + 1, 1, none⟩ = some (.slice A xs.length c) := hkf.cell 1
          have e2 := hkf.frozen 1
          clear hkf hown hgr
          go_wp2_with (fail)
          go_roundw
          case rel => exact ⟨k + 1, _, _, xs ++ [x1], q + 1 + 1, by omega, by go_num, ⟨by simp; exact HXL.out, HX1.out⟩, by omega, by simpa using HST.out⟩
          case measure => simp [intOf]; omega
      · have hnb : decide ((0 : Int) < (n : Int)) = false := by simpa using hn0
        obtain ⟨wS, rfl⟩ : ∃ wS, wS = w1 := ⟨_, rfl⟩
        have a1 : wS.cell? ⟨w.heap.size + 1, 1, none⟩ = some (.slice A xs.length c) := H1.out.fact.cell 1
        go_wp2_with (at_builtin; refine wpList_append_lies _ rfl (.tmp 36) (.tmp 38) 24 rfl (w.heap.size + 2) 3 i0 (.int .i64 0) 1 8 Try.underlying24 hi0 hz0 hz1 hz2 rfl (by decide) (.slice A xs.length c) xs.length (xs.map (Value.int .i64)) rfl ?c1 ⟨wS.heap.size, 0, none⟩ 1 1 [.int .i64 x1] rfl rfl (cell_one_new _ _ _) ?c2 (by omega) (by unfold maxLen; omega) (by omega) ?c3 _ rfl ?_)
        case c1 => exact (H1.out.alloc _).own
        case c2 => intro u hu; simp at hu; subst hu; rfl
        case c3 => exact (H1.out.alloc _).fact.lt
        intro g2 cap w5 hown hgr _ _
        have HST := Lib.hid (AoRel.push (H1.out.alloc _) hgl hgr hown)
        have hkf := AoRel.keepFact (H1.out.alloc _) hgr
        have e1 : w5.cell? ⟨w.heap.size + 1, 1, none⟩ = some (.slice A xs.length c) := hkf.cell 1
        have e2 := hkf.frozen 1
        clear hkf hown hgr
        go_wp2_with (fail)
        go_roundw
        case rel => exact ⟨k + 1, _, _, xs ++ [x1], q + 1, by omega, by go_num, ⟨by simp; exact HXL.out, HX1.out⟩, by omega, by simpa using HST.out⟩
        case measure => simp [intOf]; omega
    · have hkn : xs.length = m := by have := HXL.out; omega
      have hf := HR.out
      have q0 : wr.cell? ⟨w.heap.size + 1, 0, none⟩ = some (.int .i64 (j : Int)) := hf.fact.cell 0
      have q1 : wr.cell? ⟨w.heap.size + 1, 1, none⟩ = some (.slice A xs.length c) := hf.fact.cell 1
      have j0 : wr.cell? ⟨w.heap.size, 0, none⟩ = some (.int .i64 0) := hf.res.cell 0
      have j1 : wr.cell? ⟨w.heap.size, 1, none⟩ = some (.slice none 0 0) := hf.res.cell 1
      have l0 := hf.res.frozen 0
      have l1 := hf.res.frozen 1
      obtain ⟨hd0, hd1, hd2, hd3⟩ := hf.done hgl
      have HD := Lib.hid (And.intro hd0 (And.intro hd1 hd2))
      obtain ⟨W, hW⟩ : ∃ W, W = (wr.setCell ⟨w.heap.size, 0, none⟩ (.int .i64 (j : Int))).setCell ⟨w.heap.size, 1, none⟩ (.slice A xs.length c) := ⟨_, rfl⟩
      have HD := Lib.hid (show W.ownsRow (w.heap.size + 2) 3 1 (.slice A xs.length c) xs.length (xs.map (Value.int .i64)) ∧ Rdr W g bs q ∧ Only g (g + 1) w W from by rw [hW]; exact HD.out)
      have d0 : W.cell? ⟨w.heap.size, 0, none⟩ = some (.int .i64 (j : Int)) := by rw [hW]; exact hd3.cell 0
      have d1 : W.cell? ⟨w.heap.size, 1, none⟩ = some (.slice A xs.length c) := by rw [hW]; exact hd3.cell 1
      have HW := Lib.hid hW
      clear hW hd0 hd1 hd2 hd3 hf hkn
      go_wp2_with (fail)
      rw [← HW.out]
      refine bodyPost_ret (v := .agg #[.int .i64 (j : Int), .slice A xs.length c]) (by simp [results, Try.results38, go_sem, d0, d1]) rfl ?_
      obtain ⟨h1, h2, h3⟩ := HD.out
      exact ⟨A, c, xs, rfl, ⟨hxl2, HXT.out⟩, q, by omega, (show OwnInts _ _ _ _ _ from ⟨h1, fun b hb => (h1.lt b hb).2⟩).mono (Nat.le_add_right _ 2) (Nat.le_refl _), h2, h3⟩

end Go.Proofs.Ytofkcmihcgmmpaa
/-
  Words for facts (a number and a list of integers), and the walks of toAtom, eqAtom, szAtom.
-/
namespace Go.Proofs.Ytofkcmihcgmmpaa
open Go.RowKit

end Go.Proofs.Ytofkcmihcgmmpaa
/-
  Rows of elements of three cells (literals, rules): what a slice of them reads as, rows of the call's own, and the loop that makes and fills one. No walk.
-/
namespace Go.Proofs.Ytofkcmihcgmmpaa
open Go.RowKit

/-- A literal: its kind, its atom. -/
abbrev LLit := Int × LFact
/-- A rule: its head, its body. -/
abbrev LRule := LFact × List LLit

section
variable {α : Type}

/-- The slice value v reads as the elements xs, each of three cells that read as Q says, in blocks below B. -/
def RdRow (Q : World → Nat → Value → Value → Value → α → Prop) (w : World) (B : Nat) (v : Value) (xs : List α) : Prop :=
  ∃ A c, v = .slice A xs.length c ∧ xs.length ≤ c ∧ (0 < xs.length → ∃ b o, A = some ⟨b, o, none⟩ ∧ b < B ∧ ∀ k (h : k < xs.length), ∃ u0 u1 u2,
    w.cell? ⟨b, o + k * 3, none⟩ = some u0 ∧ w.cell? ⟨b, o + k * 3 + 1, none⟩ = some u1 ∧ w.cell? ⟨b, o + k * 3 + 2, none⟩ = some u2 ∧ Q w B u0 u1 u2 xs[k])

variable {Q : World → Nat → Value → Value → Value → α → Prop}
theorem RdRow.below {w w' : World} {B B' : Nat} {v : Value} {xs : List α} (hQ : ∀ u0 u1 u2 x, Q w B u0 u1 u2 x → Q w' B u0 u1 u2 x) (h : RdRow Q w B v xs) (hb : Below B' w w') (hB : B ≤ B') : RdRow Q w' B v xs := by
  obtain ⟨A, c, rfl, hc, h⟩ := h
  refine ⟨A, c, rfl, hc, fun hn => ?_⟩
  obtain ⟨b, o, rfl, hlt, hk⟩ := h hn
  refine ⟨b, o, rfl, hlt, fun k hkl => ?_⟩
  obtain ⟨u0, u1, u2, h0, h1, h2, h3⟩ := hk k hkl
  exact ⟨u0, u1, u2, (hb.cell (p := ⟨b, o + k * 3, none⟩) (by show b < B'; omega)).trans h0, (hb.cell (p := ⟨b, o + k * 3 + 1, none⟩) (by show b < B'; omega)).trans h1,
    (hb.cell (p := ⟨b, o + k * 3 + 2, none⟩) (by show b < B'; omega)).trans h2, hQ _ _ _ _ h3⟩
theorem RdRow.more {w : World} {B B' : Nat} {v : Value} {xs : List α} (hQ : ∀ u0 u1 u2 x, Q w B u0 u1 u2 x → Q w B' u0 u1 u2 x) (h : RdRow Q w B v xs) (hB : B ≤ B') : RdRow Q w B' v xs := by
  obtain ⟨A, c, rfl, hc, h⟩ := h
  refine ⟨A, c, rfl, hc, fun hn => ?_⟩
  obtain ⟨b, o, rfl, hlt, hk⟩ := h hn
  refine ⟨b, o, rfl, by omega, fun k hkl => ?_⟩
  obtain ⟨u0, u1, u2, h0, h1, h2, h3⟩ := hk k hkl
  exact ⟨u0, u1, u2, h0, h1, h2, hQ _ _ _ _ h3⟩
/-- One element, as a walk reads it. -/
theorem RdRow.get {w : World} {B c : Nat} {A : Option Addr} {xs : List α} (h : RdRow Q w B (.slice A xs.length c) xs) {k : Nat} (hk : k < xs.length) : ∃ b o u0 u1 u2, A = some ⟨b, o, none⟩ ∧ b < B ∧
    w.cell? ⟨b, o + k * 3, none⟩ = some u0 ∧ w.cell? ⟨b, o + k * 3 + 1, none⟩ = some u1 ∧ w.cell? ⟨b, o + k * 3 + 2, none⟩ = some u2 ∧ Q w B u0 u1 u2 xs[k] := by
  obtain ⟨A', c', e, hc, h⟩ := h
  injection e with e1 e2 e3
  subst e1
  obtain ⟨b, o, rfl, hb, hx⟩ := h (by omega)
  obtain ⟨u0, u1, u2, h0, h1, h2, h3⟩ := hx k hk
  exact ⟨b, o, u0, u1, u2, rfl, hb, h0, h1, h2, h3⟩

/-- A row of the call's own, of blocks from lo on and below hi, that may be written. -/
def OwnRow (Q : World → Nat → Nat → Value → Value → Value → α → Prop) (w : World) (lo hi : Nat) (v : Value) (xs : List α) : Prop :=
  ∃ A c, v = .slice A xs.length c ∧ xs.length ≤ c ∧ (0 < xs.length → ∃ b o, A = some ⟨b, o, none⟩ ∧ lo ≤ b ∧ b < hi ∧ ∀ k (h : k < xs.length),
    (w.frozen? ⟨b, o + k * 3, none⟩ = false ∧ w.frozen? ⟨b, o + k * 3 + 1, none⟩ = false) ∧ ∃ u0 u1 u2,
    w.cell? ⟨b, o + k * 3, none⟩ = some u0 ∧ w.cell? ⟨b, o + k * 3 + 1, none⟩ = some u1 ∧ w.cell? ⟨b, o + k * 3 + 2, none⟩ = some u2 ∧ Q w lo hi u0 u1 u2 xs[k])

variable {O : World → Nat → Nat → Value → Value → Value → α → Prop}
theorem OwnRow.keep {w w' : World} {lo hi : Nat} {v : Value} {xs : List α} (hQ : ∀ u0 u1 u2 x, O w lo hi u0 u1 u2 x → O w' lo hi u0 u1 u2 x) (h : OwnRow O w lo hi v xs) (hk : ∀ g, lo ≤ g → g < hi → w'.heap[g]? = w.heap[g]?) : OwnRow O w' lo hi v xs := by
  obtain ⟨A, c, rfl, hc, h⟩ := h
  refine ⟨A, c, rfl, hc, fun hn => ?_⟩
  obtain ⟨b, o, rfl, h1, h2, hx⟩ := h hn
  refine ⟨b, o, rfl, h1, h2, fun k hkl => ?_⟩
  obtain ⟨⟨f0, f1⟩, u0, u1, u2, c0, c1, c2, hq⟩ := hx k hkl
  have hb := hk b h1 h2
  exact ⟨⟨(World.frozen?_of_block (w := w) hb).trans f0, (World.frozen?_of_block (w := w) hb).trans f1⟩, u0, u1, u2, (World.cell?_of_block (w := w) hb).trans c0, (World.cell?_of_block (w := w) hb).trans c1, (World.cell?_of_block (w := w) hb).trans c2, hQ _ _ _ _ hq⟩
theorem OwnRow.mono {w : World} {lo hi lo' hi' : Nat} {v : Value} {xs : List α} (hQ : ∀ u0 u1 u2 x, O w lo hi u0 u1 u2 x → O w lo' hi' u0 u1 u2 x) (h : OwnRow O w lo hi v xs) (h1 : lo' ≤ lo) (h2 : hi ≤ hi') : OwnRow O w lo' hi' v xs := by
  obtain ⟨A, c, rfl, hc, h⟩ := h
  refine ⟨A, c, rfl, hc, fun hn => ?_⟩
  obtain ⟨b, o, rfl, h3, h4, hx⟩ := h hn
  refine ⟨b, o, rfl, by omega, by omega, fun k hkl => ?_⟩
  obtain ⟨f, u0, u1, u2, c0, c1, c2, hq⟩ := hx k hkl
  exact ⟨f, u0, u1, u2, c0, c1, c2, hQ _ _ _ _ hq⟩
theorem OwnRow.rd {w : World} {lo hi : Nat} {v : Value} {xs : List α} (hQ : ∀ u0 u1 u2 x, O w lo hi u0 u1 u2 x → Q w hi u0 u1 u2 x) (h : OwnRow O w lo hi v xs) : RdRow Q w hi v xs := by
  obtain ⟨A, c, rfl, hc, h⟩ := h
  refine ⟨A, c, rfl, hc, fun hn => ?_⟩
  obtain ⟨b, o, rfl, h3, h4, hx⟩ := h hn
  refine ⟨b, o, rfl, h4, fun k hkl => ?_⟩
  obtain ⟨f, u0, u1, u2, c0, c1, c2, hq⟩ := hx k hkl
  exact ⟨u0, u1, u2, c0, c1, c2, hQ _ _ _ _ hq⟩
theorem OwnRow.form {w : World} {lo hi : Nat} {v : Value} {xs : List α} (h : OwnRow O w lo hi v xs) : ∃ A c, v = .slice A xs.length c := by
  obtain ⟨A, c, rfl, _⟩ := h
  exact ⟨A, c, rfl⟩

/-- What holds at the loop that fills a row that make laid: k elements are there. -/
structure ToRow (t : TypeId) (z0 z1 z2 : Value) (O : World → Nat → Nat → Value → Value → Value → α → Prop) (w wr : World) (xs : List α) (k : Nat) : Prop where
  row : ∃ cur : Array Value, Blk wr w.heap.size t cur ∧ (∀ j, j < k → ∀ hx : j < xs.length, ∃ u0 u1 u2, cur[j * 3]? = some u0 ∧ cur[j * 3 + 1]? = some u1 ∧ cur[j * 3 + 2]? = some u2 ∧ O wr (w.heap.size + 1) wr.heap.size u0 u1 u2 xs[j]) ∧
    (∀ j, k ≤ j → j < xs.length → cur[j * 3]? = some z0 ∧ cur[j * 3 + 1]? = some z1 ∧ cur[j * 3 + 2]? = some z2)
  below : Below w.heap.size w wr
  size : w.heap.size + 1 ≤ wr.heap.size

variable {t : TypeId} {z0 z1 z2 : Value}
theorem ToRow.start (w : World) (xs : List α) : ToRow t z0 z1 z2 O w (w.alloc (.cells (madeCells #[z0, z1, z2] (xs.length * 3)) t)) xs 0 :=
  ⟨⟨_, Blk.new _ _ _, fun j hj => absurd hj (by omega), fun j _ hj => by
    have e0 : j * 3 % 3 = 0 := by omega
    have e1 : (j * 3 + 1) % 3 = 1 := by omega
    have e2 : (j * 3 + 2) % 3 = 2 := by omega
    have l0 : j * 3 < xs.length * 3 := by omega
    have l1 : j * 3 + 1 < xs.length * 3 := by omega
    have l2 : j * 3 + 2 < xs.length * 3 := by omega
    simp [madeCells, e0, e1, e2, l0, l1, l2]⟩, below1 _ _, by simp⟩

/-- The cells that the next element will take. -/
theorem ToRow.room {w wr : World} {xs : List α} {k : Nat} (hr : ToRow t z0 z1 z2 O w wr xs k) (hlt : k < xs.length) {w4 : World} (hb : Below wr.heap.size wr w4) :
    w4.cell? ⟨w.heap.size, k * 3, none⟩ = some z0 ∧ w4.cell? ⟨w.heap.size, k * 3 + 1, none⟩ = some z1 ∧ w4.cell? ⟨w.heap.size, k * 3 + 2, none⟩ = some z2 ∧
    w4.frozen? ⟨w.heap.size, k * 3, none⟩ = false ∧ w4.frozen? ⟨w.heap.size, k * 3 + 1, none⟩ = false ∧ w4.frozen? ⟨w.heap.size, k * 3 + 2, none⟩ = false := by
  obtain ⟨⟨cur, hB, _, hz⟩, hbe, hsz⟩ := hr
  have hB4 := hB.below hb (by omega)
  obtain ⟨c0, c1, c2⟩ := hz k (Nat.le_refl _) hlt
  exact ⟨(hB4.cell _).trans c0, (hB4.cell _).trans c1, (hB4.cell _).trans c2, hB4.frozen _, hB4.frozen _, hB4.frozen _⟩

theorem ToRow.step (keep : ∀ {w w' : World} {lo hi : Nat} {u0 u1 u2 : Value} {x : α}, O w lo hi u0 u1 u2 x → (∀ g, lo ≤ g → g < hi → w'.heap[g]? = w.heap[g]?) → O w' lo hi u0 u1 u2 x)
    (mono : ∀ {w : World} {lo hi lo' hi' : Nat} {u0 u1 u2 : Value} {x : α}, O w lo hi u0 u1 u2 x → lo' ≤ lo → hi ≤ hi' → O w lo' hi' u0 u1 u2 x)
    {w wr : World} {xs : List α} {k : Nat} (hr : ToRow t z0 z1 z2 O w wr xs k) (hlt : k < xs.length) {w4 : World} (hb : Below wr.heap.size wr w4) {u0 u1 u2 : Value}
    (ha : O w4 wr.heap.size w4.heap.size u0 u1 u2 xs[k]) : ToRow t z0 z1 z2 O w (((w4.setCell ⟨w.heap.size, k * 3, none⟩ u0).setCell ⟨w.heap.size, k * 3 + 1, none⟩ u1).setCell ⟨w.heap.size, k * 3 + 2, none⟩ u2) xs (k + 1) := by
  obtain ⟨⟨cur, hB, hd, hz⟩, hbe, hsz⟩ := hr
  have hB4 := hB.below hb (by omega)
  have hs4 := hb.size
  have hsame : ∀ g, w.heap.size + 1 ≤ g → (((w4.setCell ⟨w.heap.size, k * 3, none⟩ u0).setCell ⟨w.heap.size, k * 3 + 1, none⟩ u1).setCell ⟨w.heap.size, k * 3 + 2, none⟩ u2).heap[g]? = w4.heap[g]? := fun g hg => by
    rw [Below.heap_setCell _ _ _ _ (by show g ≠ w.heap.size; omega), Below.heap_setCell _ _ _ _ (by show g ≠ w.heap.size; omega), Below.heap_setCell _ _ _ _ (by show g ≠ w.heap.size; omega)]
  have hsz5 : (((w4.setCell ⟨w.heap.size, k * 3, none⟩ u0).setCell ⟨w.heap.size, k * 3 + 1, none⟩ u1).setCell ⟨w.heap.size, k * 3 + 2, none⟩ u2).heap.size = w4.heap.size := by simp
  refine ⟨⟨_, ((hB4.set_ _ _).set_ _ _).set_ _ _, fun j hj hx => ?_, fun j hj hx => ?_⟩, (((hbe.trans (hb.mono hbe.size)).setCell (Nat.le_refl _) _).setCell (Nat.le_refl _) _).setCell (Nat.le_refl _) _, by rw [hsz5]; omega⟩
  · rw [hsz5]
    by_cases e : j = k
    · subst e
      obtain ⟨c0, c1, c2⟩ := hz j (Nat.le_refl _) hx
      have g0 := (Array.getElem?_eq_some_iff.1 c0).1
      have g1 := (Array.getElem?_eq_some_iff.1 c1).1
      have g2 := (Array.getElem?_eq_some_iff.1 c2).1
      refine ⟨u0, u1, u2, ?_, ?_, ?_, keep (mono ha (by omega) (Nat.le_refl _)) fun g h1 _ => hsame g h1⟩
      · simp [g0]
      · simp [g1]
      · simp [g2]
    · obtain ⟨v0, v1, v2, c0, c1, c2, hq⟩ := hd j (by omega) hx
      refine ⟨v0, v1, v2, ?_, ?_, ?_, keep (mono (keep hq fun g _ h2 => hb.block g h2) (Nat.le_refl _) hs4) fun g h1 _ => hsame g h1⟩
      · rw [Array.getElem?_setIfInBounds_ne (by omega), Array.getElem?_setIfInBounds_ne (by omega), Array.getElem?_setIfInBounds_ne (by omega)]; exact c0
      · rw [Array.getElem?_setIfInBounds_ne (by omega), Array.getElem?_setIfInBounds_ne (by omega), Array.getElem?_setIfInBounds_ne (by omega)]; exact c1
      · rw [Array.getElem?_setIfInBounds_ne (by omega), Array.getElem?_setIfInBounds_ne (by omega), Array.getElem?_setIfInBounds_ne (by omega)]; exact c2
  · obtain ⟨c0, c1, c2⟩ := hz j (by omega) hx
    refine ⟨?_, ?_, ?_⟩
    · rw [Array.getElem?_setIfInBounds_ne (by omega), Array.getElem?_setIfInBounds_ne (by omega), Array.getElem?_setIfInBounds_ne (by omega)]; exact c0
    · rw [Array.getElem?_setIfInBounds_ne (by omega), Array.getElem?_setIfInBounds_ne (by omega), Array.getElem?_setIfInBounds_ne (by omega)]; exact c1
    · rw [Array.getElem?_setIfInBounds_ne (by omega), Array.getElem?_setIfInBounds_ne (by omega), Array.getElem?_setIfInBounds_ne (by omega)]; exact c2

theorem ToRow.done (mono : ∀ {w : World} {lo hi lo' hi' : Nat} {u0 u1 u2 : Value} {x : α}, O w lo hi u0 u1 u2 x → lo' ≤ lo → hi ≤ hi' → O w lo' hi' u0 u1 u2 x)
    {w wr : World} {xs : List α} (hr : ToRow t z0 z1 z2 O w wr xs xs.length) : OwnRow O wr w.heap.size wr.heap.size (.slice (some ⟨w.heap.size, 0, none⟩) xs.length xs.length) xs := by
  obtain ⟨⟨cur, hB, hd, _⟩, hbe, hsz⟩ := hr
  refine ⟨_, _, rfl, Nat.le_refl _, fun _ => ⟨_, _, rfl, Nat.le_refl _, by omega, fun k hk => ⟨⟨hB.frozen _, hB.frozen _⟩, ?_⟩⟩⟩
  obtain ⟨u0, u1, u2, c0, c1, c2, hq⟩ := hd k hk hk
  simp only [Nat.zero_add]
  exact ⟨u0, u1, u2, (hB.cell _).trans c0, (hB.cell _).trans c1, (hB.cell _).trans c2, mono hq (by omega) (Nat.le_refl _)⟩
end

theorem OwnInts.keep {w w' : World} {lo hi : Nat} {v : Value} {xs : List Int} (h : OwnInts w lo hi v xs) (hk : ∀ g, lo ≤ g → g < hi → w'.heap[g]? = w.heap[g]?) : OwnInts w' lo hi v xs := by
  have hlo := fun g hg => (h.1.lt g hg).1
  obtain ⟨⟨hlen, h⟩, hlt⟩ := h
  refine ⟨⟨hlen, ?_⟩, hlt⟩
  rcases h with h | ⟨g, cap, cur, rfl, hbg, hg, r⟩
  · exact .inl h
  · exact .inr ⟨g, cap, cur, rfl, hbg, by rw [hk g hbg (hlt g rfl)]; exact hg, r⟩

/-! ### Literals -/
def QLit (w : World) (B : Nat) (u0 u1 u2 : Value) (l : LLit) : Prop := u0 = .int .i64 l.1 ∧ u1 = .int .i64 l.2.1 ∧ RdInts w B u2 l.2.2
def RdLits (w : World) (B : Nat) (v : Value) (ls : List LLit) : Prop := RdRow QLit w B v ls
def RdLit (w : World) (B : Nat) (v : Value) (l : LLit) : Prop := ∃ a, v = .agg #[.int .i64 l.1, .int .i64 l.2.1, a] ∧ RdInts w B a l.2.2
def OLit (w : World) (lo hi : Nat) (u0 u1 u2 : Value) (l : LLit) : Prop := u0 = .int .i64 l.1 ∧ u1 = .int .i64 l.2.1 ∧ OwnInts w lo hi u2 l.2.2
def OwnLits (w : World) (lo hi : Nat) (v : Value) (ls : List LLit) : Prop := OwnRow OLit w lo hi v ls

theorem QLit.below {w w' : World} {B B' : Nat} {u0 u1 u2 : Value} {l : LLit} (h : QLit w B u0 u1 u2 l) (hb : Below B' w w') (hB : B ≤ B') : QLit w' B u0 u1 u2 l := ⟨h.1, h.2.1, h.2.2.below hb hB⟩
theorem QLit.more {w : World} {B B' : Nat} {u0 u1 u2 : Value} {l : LLit} (h : QLit w B u0 u1 u2 l) (hB : B ≤ B') : QLit w B' u0 u1 u2 l := ⟨h.1, h.2.1, h.2.2.more hB⟩
theorem RdLits.below {w w' : World} {B B' : Nat} {v : Value} {ls : List LLit} (h : RdLits w B v ls) (hb : Below B' w w') (hB : B ≤ B') : RdLits w' B v ls := RdRow.below (fun _ _ _ _ q => q.below hb hB) h hb hB
theorem RdLits.more {w : World} {B B' : Nat} {v : Value} {ls : List LLit} (h : RdLits w B v ls) (hB : B ≤ B') : RdLits w B' v ls := RdRow.more (fun _ _ _ _ q => q.more hB) h hB
theorem RdLits.on {w w' : World} {v : Value} {ls : List LLit} (h : RdLits w w.heap.size v ls) (hb : Below w.heap.size w w') : RdLits w' w'.heap.size v ls := (h.below hb (Nat.le_refl _)).more hb.size
theorem RdLit.on {w w' : World} {v : Value} {l : LLit} (h : RdLit w w.heap.size v l) (hb : Below w.heap.size w w') : RdLit w' w'.heap.size v l := by
  obtain ⟨a, rfl, h⟩ := h
  exact ⟨a, rfl, h.on hb⟩
theorem OLit.keep {w w' : World} {lo hi : Nat} {u0 u1 u2 : Value} {l : LLit} (h : OLit w lo hi u0 u1 u2 l) (hk : ∀ g, lo ≤ g → g < hi → w'.heap[g]? = w.heap[g]?) : OLit w' lo hi u0 u1 u2 l := ⟨h.1, h.2.1, h.2.2.keep hk⟩
theorem OLit.mono {w : World} {lo hi lo' hi' : Nat} {u0 u1 u2 : Value} {l : LLit} (h : OLit w lo hi u0 u1 u2 l) (h1 : lo' ≤ lo) (h2 : hi ≤ hi') : OLit w lo' hi' u0 u1 u2 l := ⟨h.1, h.2.1, h.2.2.mono h1 h2⟩
theorem OwnLits.keep {w w' : World} {lo hi : Nat} {v : Value} {ls : List LLit} (h : OwnLits w lo hi v ls) (hk : ∀ g, lo ≤ g → g < hi → w'.heap[g]? = w.heap[g]?) : OwnLits w' lo hi v ls := OwnRow.keep (fun _ _ _ _ q => q.keep hk) h hk
theorem OwnLits.mono {w : World} {lo hi lo' hi' : Nat} {v : Value} {ls : List LLit} (h : OwnLits w lo hi v ls) (h1 : lo' ≤ lo) (h2 : hi ≤ hi') : OwnLits w lo' hi' v ls := OwnRow.mono (fun _ _ _ _ q => q.mono h1 h2) h h1 h2
theorem OwnLits.rd {w : World} {lo hi : Nat} {v : Value} {ls : List LLit} (h : OwnLits w lo hi v ls) : RdLits w hi v ls := OwnRow.rd (fun _ _ _ _ q => ⟨q.1, q.2.1, q.2.2.rd⟩) h
theorem OwnLits.below {w w' : World} {lo hi B : Nat} {v : Value} {ls : List LLit} (h : OwnLits w lo hi v ls) (hb : Below B w w') (hB : hi ≤ B) : OwnLits w' lo hi v ls := h.keep fun g _ h2 => hb.block g (by omega)
theorem OwnLits.only {w w' : World} {lo hi lo' hi' : Nat} {v : Value} {ls : List LLit} (h : OwnLits w lo hi v ls) (ho : Only lo' hi' w w') (hd : hi ≤ lo' ∨ hi' ≤ lo) (hh : hi ≤ w.heap.size) : OwnLits w' lo hi v ls :=
  h.keep fun g h1 h2 => ho.block g (by omega) (by omega)

/-! ### Rules -/
def QRule (w : World) (B : Nat) (u0 u1 u2 : Value) (r : LRule) : Prop := u0 = .int .i64 r.1.1 ∧ RdInts w B u1 r.1.2 ∧ RdLits w B u2 r.2
def RdRules (w : World) (B : Nat) (v : Value) (rs : List LRule) : Prop := RdRow QRule w B v rs
def RdRule (w : World) (B : Nat) (v : Value) (r : LRule) : Prop := ∃ a b, v = .agg #[.int .i64 r.1.1, a, b] ∧ RdInts w B a r.1.2 ∧ RdLits w B b r.2
def ORule (w : World) (lo hi : Nat) (u0 u1 u2 : Value) (r : LRule) : Prop := u0 = .int .i64 r.1.1 ∧ OwnInts w lo hi u1 r.1.2 ∧ OwnLits w lo hi u2 r.2
def OwnRules (w : World) (lo hi : Nat) (v : Value) (rs : List LRule) : Prop := OwnRow ORule w lo hi v rs

theorem QRule.below {w w' : World} {B B' : Nat} {u0 u1 u2 : Value} {r : LRule} (h : QRule w B u0 u1 u2 r) (hb : Below B' w w') (hB : B ≤ B') : QRule w' B u0 u1 u2 r := ⟨h.1, h.2.1.below hb hB, h.2.2.below hb hB⟩
theorem QRule.more {w : World} {B B' : Nat} {u0 u1 u2 : Value} {r : LRule} (h : QRule w B u0 u1 u2 r) (hB : B ≤ B') : QRule w B' u0 u1 u2 r := ⟨h.1, h.2.1.more hB, h.2.2.more hB⟩
theorem RdRules.below {w w' : World} {B B' : Nat} {v : Value} {rs : List LRule} (h : RdRules w B v rs) (hb : Below B' w w') (hB : B ≤ B') : RdRules w' B v rs := RdRow.below (fun _ _ _ _ q => q.below hb hB) h hb hB
theorem RdRules.more {w : World} {B B' : Nat} {v : Value} {rs : List LRule} (h : RdRules w B v rs) (hB : B ≤ B') : RdRules w B' v rs := RdRow.more (fun _ _ _ _ q => q.more hB) h hB
theorem RdRules.on {w w' : World} {v : Value} {rs : List LRule} (h : RdRules w w.heap.size v rs) (hb : Below w.heap.size w w') : RdRules w' w'.heap.size v rs := (h.below hb (Nat.le_refl _)).more hb.size
theorem RdRule.on {w w' : World} {v : Value} {r : LRule} (h : RdRule w w.heap.size v r) (hb : Below w.heap.size w w') : RdRule w' w'.heap.size v r := by
  obtain ⟨a, b, rfl, h1, h2⟩ := h
  exact ⟨a, b, rfl, h1.on hb, h2.on hb⟩
theorem ORule.keep {w w' : World} {lo hi : Nat} {u0 u1 u2 : Value} {r : LRule} (h : ORule w lo hi u0 u1 u2 r) (hk : ∀ g, lo ≤ g → g < hi → w'.heap[g]? = w.heap[g]?) : ORule w' lo hi u0 u1 u2 r := ⟨h.1, h.2.1.keep hk, h.2.2.keep hk⟩
theorem ORule.mono {w : World} {lo hi lo' hi' : Nat} {u0 u1 u2 : Value} {r : LRule} (h : ORule w lo hi u0 u1 u2 r) (h1 : lo' ≤ lo) (h2 : hi ≤ hi') : ORule w lo' hi' u0 u1 u2 r := ⟨h.1, h.2.1.mono h1 h2, h.2.2.mono h1 h2⟩
theorem OwnRules.keep {w w' : World} {lo hi : Nat} {v : Value} {rs : List LRule} (h : OwnRules w lo hi v rs) (hk : ∀ g, lo ≤ g → g < hi → w'.heap[g]? = w.heap[g]?) : OwnRules w' lo hi v rs := OwnRow.keep (fun _ _ _ _ q => q.keep hk) h hk
theorem OwnRules.mono {w : World} {lo hi lo' hi' : Nat} {v : Value} {rs : List LRule} (h : OwnRules w lo hi v rs) (h1 : lo' ≤ lo) (h2 : hi ≤ hi') : OwnRules w lo' hi' v rs := OwnRow.mono (fun _ _ _ _ q => q.mono h1 h2) h h1 h2
theorem OwnRules.rd {w : World} {lo hi : Nat} {v : Value} {rs : List LRule} (h : OwnRules w lo hi v rs) : RdRules w hi v rs := OwnRow.rd (fun _ _ _ _ q => ⟨q.1, q.2.1.rd, q.2.2.rd⟩) h

/-! ### How much there is -/
/-- How many integers literals have together. -/
def totL (ls : List LLit) : Nat := (ls.map fun l => l.2.2.length).sum
/-- What szRule counts of a rule. -/
def szR (r : LRule) : Nat := r.1.2.length + (r.2.length + totL r.2)
def totR (rs : List LRule) : Nat := (rs.map szR).sum
theorem sum_at {α : Type} (f : α → Nat) : ∀ (l : List α) (k : Nat) (h : k < l.length), f l[k] ≤ (l.map f).sum
  | [], _, h => absurd h (by simp)
  | x :: l, 0, _ => by simp
  | x :: l, k + 1, h => by
    have := sum_at f l k (by simpa using h)
    simp only [List.map_cons, List.sum_cons, List.getElem_cons_succ] at this ⊢
    omega
theorem sum_take {α : Type} (f : α → Nat) (l : List α) (k : Nat) (h : k < l.length) : ((l.take (k + 1)).map f).sum = ((l.take k).map f).sum + f l[k] := by
  rw [take_snoc l k h, List.map_append, List.sum_append]
  simp
theorem len_le_totL (ls : List LLit) (k : Nat) (h : k < ls.length) : ls[k].2.2.length ≤ totL ls := sum_at (fun l : LLit => l.2.2.length) ls k h
theorem totL_take (ls : List LLit) (k : Nat) (h : k < ls.length) : totL (ls.take (k + 1)) = totL (ls.take k) + ls[k].2.2.length := sum_take _ ls k h
theorem sz_le_totR (rs : List LRule) (k : Nat) (h : k < rs.length) : szR rs[k] ≤ totR rs := sum_at szR rs k h
theorem totR_take (rs : List LRule) (k : Nat) (h : k < rs.length) : totR (rs.take (k + 1)) = totR (rs.take k) + szR rs[k] := sum_take _ rs k h

end Go.Proofs.Ytofkcmihcgmmpaa
/-
  The walks of szLit, toLit, eqLit, szLitS, toLitS, eqLitS.
-/
namespace Go.Proofs.Ytofkcmihcgmmpaa
open Go.RowKit

theorem Try.infoLit : (Try.prog.info? 28).map (fun i => (i.zero, i.size, i.bytes)) = some (some (.agg #[.int .i64 0, .int .i64 0, .slice none 0 0]), 3, 40) := by kernel_rfl

/-- 'the first k of both are the same', kept from the walk. -/
def TSame {α : Type} (xs ys : List α) (k : Nat) : Prop := xs.take k = ys.take k
theorem TSame.step {α : Type} {xs ys : List α} {k : Nat} (h : TSame xs ys k) (h1 : k < xs.length) (h2 : k < ys.length) (e : xs[k] = ys[k]) : TSame xs ys (k + 1) := by
  unfold TSame at h ⊢
  rw [take_snoc xs k h1, take_snoc ys k h2, h, e]
theorem TSame.eq {α : Type} {xs ys : List α} (h : TSame xs ys xs.length) (hl : xs.length = ys.length) : xs = ys := by
  unfold TSame at h
  rwa [List.take_length, hl, List.take_length] at h

/-- What szLitS answers: -1, or what is left when the literals and all their integers are taken. -/
def SzRes (r left : Int) (n : Nat) : Prop := r = -1 ∨ (0 ≤ r ∧ r + n = left)
def SzTo (r left : Int) (n m : Nat) : Prop := 0 ≤ r ∧ r + n + m = left

end Go.Proofs.Ytofkcmihcgmmpaa
/-
  The walks of szRule, toRule, eqRule.
-/
namespace Go.Proofs.Ytofkcmihcgmmpaa
open Go.RowKit

/-- What is asked of a rule that came in. -/
def ruleLens (r : LRule) : Prop := r.1.2.length ≤ 9223372036854775807 ∧ r.2.length ≤ 9223372036854775807 ∧ ∀ k (h : k < r.2.length), r.2[k].2.2.length ≤ 9223372036854775807

theorem OwnInts.far {w : World} {lo hi : Nat} {v : Value} {xs : List Int} (h : OwnInts w lo hi v xs) {p : Addr} (hp : p.block < lo) (u : Value) : OwnInts (w.setCell p u) lo hi v xs := h.set (.inl hp) u
theorem OwnLits.far {w : World} {lo hi : Nat} {v : Value} {ls : List LLit} (h : OwnLits w lo hi v ls) {p : Addr} (hp : p.block < lo) (u : Value) : OwnLits (w.setCell p u) lo hi v ls :=
  h.keep fun g h1 _ => Below.heap_setCell _ _ _ _ (by omega)

end Go.Proofs.Ytofkcmihcgmmpaa
/-
  Terms and variables: the words, and the walks of varTerm, varNumber, isVar.
-/
namespace Go.Proofs.Ytofkcmihcgmmpaa
open Go.RowKit

def termOk (x : Int) : Bool := decide (-4 ≤ x ∧ x ≤ 5)
def isVarB (x : Int) : Bool := decide (-4 ≤ x ∧ x ≤ -1)

/-- 'the first k are so', kept from the walk. -/
def AllTo {α : Type} (p : α → Bool) (xs : List α) (k : Nat) : Prop := (xs.take k).all p = true
theorem AllTo.start {α : Type} {p : α → Bool} {xs : List α} : AllTo p xs 0 := by simp [AllTo]
theorem AllTo.step {α : Type} {p : α → Bool} {xs : List α} {k : Nat} (h : AllTo p xs k) (hk : k < xs.length) (e : p xs[k] = true) : AllTo p xs (k + 1) := by
  unfold AllTo at h ⊢
  rw [take_snoc xs k hk, List.all_append, h]
  simp [e]
theorem AllTo.done {α : Type} {p : α → Bool} {xs : List α} {k : Nat} (h : AllTo p xs k) (hk : k = xs.length) : xs.all p = true := by
  unfold AllTo at h
  rwa [hk, List.take_length] at h
theorem all_not {α : Type} {p : α → Bool} {xs : List α} {k : Nat} (hk : k < xs.length) (e : p xs[k] = false) : xs.all p = false := by
  rw [List.all_eq_false]
  exact ⟨xs[k], List.getElem_mem hk, by simp [e]⟩

theorem varTerm_any (n : Int) (h0 : 0 ≤ n) (h1 : n ≤ 1000) (w : World) : Calls Try.prog 57 #[.int .i64 n] w fun e w' => e = .returned (.int .i64 (-1 - n)) ∧ w = w' := by
  go_enter Try.func57, Try.ntmps57
  go_wp2
  go_ret
  exact ⟨rfl, rfl⟩
theorem varNumber_any (n : Int) (h0 : -4 ≤ n) (h1 : n ≤ -1) (w : World) : Calls Try.prog 52 #[.int .i64 n] w fun e w' => e = .returned (.int .i64 (-1 - n)) ∧ w = w' := by
  go_enter Try.func52, Try.ntmps52
  go_wp2
  go_ret
  exact ⟨rfl, rfl⟩

theorem isVar_any (n : Int) (w : World) : Calls Try.prog 50 #[.int .i64 n] w fun e w' => e = .returned (.bool (isVarB n)) ∧ w = w' := by
  by_cases h1 : n < 0
  · have hd : decide (n < 0) = true := by simpa using h1
    by_cases h2 : -4 ≤ n
    · have HE := Lib.hid (show isVarB n = true by simp [isVarB]; omega)
      go_enter Try.func50, Try.ntmps50
      go_wp2_with (go_at_call 57; refine (varTerm_any 3 (by omega) (by omega) _).mono ?_; rintro e w' ⟨rfl, rfl⟩)
      go_ret
      exact ⟨ret_bool HE.out.symm, rfl⟩
    · have HE := Lib.hid (show isVarB n = false by simp [isVarB]; omega)
      go_enter Try.func50, Try.ntmps50
      go_wp2_with (go_at_call 57; refine (varTerm_any 3 (by omega) (by omega) _).mono ?_; rintro e w' ⟨rfl, rfl⟩)
      go_ret
      exact ⟨ret_bool (by rw [HE.out]; simp; omega), rfl⟩
  · have hd : decide (n < 0) = false := by simpa using h1
    have HE := Lib.hid (show isVarB n = false by simp [isVarB]; omega)
    go_enter Try.func50, Try.ntmps50
    go_wp2_with (fail)
    go_ret
    exact ⟨ret_bool HE.out.symm, rfl⟩

theorem isVar_is {n : Int} {b : Bool} (h : isVarB n = b) (w : World) : Calls Try.prog 50 #[.int .i64 n] w fun e w' => e = .returned (.bool b) ∧ w = w' := h ▸ isVar_any n w

end Go.Proofs.Ytofkcmihcgmmpaa
/-
  The walks of isTerm, areTerms, l2Terms.
-/
namespace Go.Proofs.Ytofkcmihcgmmpaa
open Go.RowKit

theorem isTerm_any (n : Int) (w : World) : Calls Try.prog 41 #[.int .i64 n] w fun e w' => e = .returned (.bool (termOk n)) ∧ w = w' := by
  by_cases h1 : isVarB n = true
  · have HE := Lib.hid (show termOk n = true by simp [isVarB] at h1; simp [termOk]; omega)
    go_enter Try.func41, Try.ntmps41
    go_wp2_with (go_at_call 50; refine (isVar_is h1 _).mono ?_; rintro e w' ⟨rfl, rfl⟩)
    go_ret
    exact ⟨ret_bool HE.out.symm, rfl⟩
  · have h2 : isVarB n = false := by simpa using h1
    by_cases h3 : 0 ≤ n
    · have hd : decide (0 ≤ n) = true := by simpa using h3
      by_cases h4 : n ≤ 5
      · have HE := Lib.hid (show termOk n = true by simp [termOk]; omega)
        go_enter Try.func41, Try.ntmps41
        go_wp2_with (go_at_call 50; refine (isVar_is h2 _).mono ?_; rintro e w' ⟨rfl, rfl⟩)
        go_ret
        exact ⟨ret_bool HE.out.symm, rfl⟩
      · have HE := Lib.hid (show termOk n = false by simp [termOk]; omega)
        go_enter Try.func41, Try.ntmps41
        go_wp2_with (go_at_call 50; refine (isVar_is h2 _).mono ?_; rintro e w' ⟨rfl, rfl⟩)
        go_ret
        exact ⟨ret_bool (by rw [HE.out]; simp; omega), rfl⟩
    · have hd : decide (0 ≤ n) = false := by simpa using h3
      have HE := Lib.hid (show termOk n = false by simp [isVarB] at h2; simp [termOk]; omega)
      go_enter Try.func41, Try.ntmps41
      go_wp2_with (go_at_call 50; refine (isVar_is h2 _).mono ?_; rintro e w' ⟨rfl, rfl⟩)
      go_ret
      exact ⟨ret_bool HE.out.symm, rfl⟩

theorem isTerm_is {n : Int} {b : Bool} (h : termOk n = b) (w : World) : Calls Try.prog 41 #[.int .i64 n] w fun e w' => e = .returned (.bool b) ∧ w = w' := h ▸ isTerm_any n w

set_option maxHeartbeats 400000 in
theorem areTerms_any (v : Value) (xs : List Int) (B : Nat) (w : World) (h : RdInts w B v xs) (hr : xs.length ≤ 1048576) :
    Calls Try.prog 22 #[v] w fun e w' => e = .returned (.bool (xs.all termOk)) ∧ w = w' := by
  obtain ⟨A, c, rfl, hc, ha⟩ := h
  go_enter Try.func22, Try.ntmps22
  go_wp2_with (fail)
  go_loop [4, 7] (fun _ i => ∃ k : Nat, k ≤ xs.length ∧ i = .int .i64 k ∧ AllTo termOk xs k) (fun _ i => xs.length - (intOf i).toNat)
  case atStart => exact ⟨0, Nat.zero_le _, rfl, AllTo.start⟩
  case round =>
    obtain ⟨k, hk, rfl, hs⟩ := hrel
    by_cases hlt : k < xs.length
    · obtain ⟨b, o, rfl, hbB, hx⟩ := ha (by omega)
      have hck : w.cell? ⟨b, o + k, none⟩ = some (.int .i64 xs[k]) := hx k hlt
      clear hx ha
      by_cases he : termOk xs[k] = true
      · have HS := Lib.hid (hs.step hlt he)
        clear hs
        go_wp2_with (go_at_call 41; refine (isTerm_is he _).mono ?_; rintro e w' ⟨rfl, rfl⟩)
        go_round
        case rel => exact ⟨k + 1, by omega, by go_num, HS.out⟩
        case measure => simp [intOf]; omega
      · have he' : termOk xs[k] = false := by simpa using he
        have HE := Lib.hid (all_not hlt he')
        clear hs he
        go_wp2_with (go_at_call 41; refine (isTerm_is he' _).mono ?_; rintro e w' ⟨rfl, rfl⟩)
        go_ret
        exact ⟨ret_bool HE.out.symm, rfl⟩
    · have HE := Lib.hid (hs.done (by omega))
      clear hs ha
      go_wp2_with (fail)
      go_ret
      exact ⟨ret_bool HE.out.symm, rfl⟩

set_option maxHeartbeats 400000 in
theorem l2Terms_any (v : Value) (xs : List Int) (B : Nat) (w : World) (h : RdInts w B v xs) (hr : xs.length ≤ 1048576) :
    Calls Try.prog 26 #[v] w fun e w' => e = .returned (.bool (xs.all termOk)) ∧ w = w' := by
  obtain ⟨A, c, rfl, hc, ha⟩ := h
  go_enter Try.func26, Try.ntmps26
  go_wp2_with (fail)
  go_loop [3] (fun i => ∃ k : Nat, k ≤ xs.length ∧ i = .int .i64 k ∧ AllTo termOk xs k) (fun i => xs.length - (intOf i).toNat)
  case atStart => exact ⟨0, Nat.zero_le _, rfl, AllTo.start⟩
  case round =>
    obtain ⟨k, hk, rfl, hs⟩ := hrel
    by_cases hlt : k < xs.length
    · obtain ⟨b, o, rfl, hbB, hx⟩ := ha (by omega)
      have hck : w.cell? ⟨b, o + k, none⟩ = some (.int .i64 xs[k]) := hx k hlt
      clear hx ha
      by_cases he : -4 ≤ xs[k] ∧ xs[k] ≤ 5
      · have HS := Lib.hid (hs.step hlt (by simpa [termOk] using he))
        have HK := Lib.hid (l1In_yes he)
        clear hs he
        go_wp2_with (go_at_call 43; refine (HK.out _).mono ?_; rintro e w' ⟨rfl, rfl⟩)
        go_round
        case rel => exact ⟨k + 1, by omega, by go_num, HS.out⟩
        case measure => simp [intOf]; omega
      · have HE := Lib.hid (all_not hlt (show termOk xs[k] = false by simpa [termOk] using he))
        have HK := Lib.hid (l1In_no he)
        clear hs he
        go_wp2_with (go_at_call 43; refine (HK.out _).mono ?_; rintro e w' ⟨rfl, rfl⟩)
        go_ret
        exact ⟨ret_bool HE.out.symm, rfl⟩
    · have HE := Lib.hid (hs.done (by omega))
      clear hs ha
      go_wp2_with (fail)
      go_ret
      exact ⟨ret_bool HE.out.symm, rfl⟩

end Go.Proofs.Ytofkcmihcgmmpaa
/-
  The walks of isTerm, areTerms, l2Terms, atomFits, and of both AtomOk.
-/
namespace Go.Proofs.Ytofkcmihcgmmpaa
open Go.RowKit

def atomFits (ar : List Int) (f : LFact) : Bool := decide (0 ≤ f.1 ∧ f.1 < ar.length ∧ (f.2.length : Int) = ar.getD f.1.toNat 0) && f.2.all termOk
def atomOk (ar : List Int) (f : LFact) : Bool := arityOk ar && atomFits ar f

end Go.Proofs.Ytofkcmihcgmmpaa
/-
  Renaming, in plain words: what each variable becomes, in the order in which they come.
-/
namespace Go.Proofs.Ytofkcmihcgmmpaa
open Go.RowKit

/-- What the four variables have become (0: nothing yet), and how many have come. -/
abbrev Ren := List Int × Nat
def renStep (s : Ren) (t : Int) : Ren := if isVarB t && s.1.getD (-1 - t).toNat 0 == 0 then (s.1.set (-1 - t).toNat (-1 - (s.2 : Int)), s.2 + 1) else s
def renList (s : Ren) (xs : List Int) : Ren := xs.foldl renStep s
def look (s : Ren) (t : Int) : Int := if isVarB t then s.1.getD (-1 - t).toNat 0 else t
/-- What comes out while the variables come. -/
def renOut (s : Ren) (xs : List Int) : List Int := (List.range xs.length).map fun j => look (renList s (xs.take (j + 1))) (xs.getD j 0)
def renBody (s : Ren) (ls : List LLit) : Ren := ls.foldl (fun s l => renList s l.2.2) s
def ren0 : Ren := ([0, 0, 0, 0], 0)
def renRule (r : LRule) : Ren := renBody (renList ren0 r.1.2) r.2
def lookLit (s : Ren) (l : LLit) : LLit := (l.1, (l.2.1, l.2.2.map (look s)))
def termsOk (r : LRule) : Bool := (r.2.all fun l => l.2.2.all termOk) && r.1.2.all termOk
def renamed (r : LRule) : LRule := if termsOk r then ((r.1.1, r.1.2.map (look (renRule r))), r.2.map (lookLit (renRule r))) else ((0, []), [])

theorem var_lt {t : Int} (h : isVarB t = true) : (-1 - t).toNat < 4 := by simp [isVarB] at h; omega
theorem renStep_len {s : Ren} {t : Int} (h : s.1.length = 4) : (renStep s t).1.length = 4 := by
  unfold renStep
  split <;> simp [h]
theorem renList_len : ∀ (xs : List Int) {s : Ren}, s.1.length = 4 → (renList s xs).1.length = 4
  | [], _, h => h
  | _ :: xs, _, h => renList_len xs (renStep_len h)
theorem renList_take {xs : List Int} {k : Nat} (s : Ren) (h : k < xs.length) : renList s (xs.take (k + 1)) = renStep (renList s (xs.take k)) xs[k] := by
  unfold renList
  rw [take_snoc xs k h, List.foldl_append]
  rfl
theorem renBody_take {ls : List LLit} {k : Nat} (s : Ren) (h : k < ls.length) : renBody s (ls.take (k + 1)) = renList (renBody s (ls.take k)) ls[k].2.2 := by
  unfold renBody
  rw [take_snoc ls k h, List.foldl_append]
  rfl
theorem renBody_len : ∀ (ls : List LLit) {s : Ren}, s.1.length = 4 → (renBody s ls).1.length = 4
  | [], _, h => h
  | l :: ls, _, h => renBody_len ls (renList_len l.2.2 h)

/-- What has come stays as it is. -/
def Ext (s s' : Ren) : Prop := ∀ i, s.1.getD i 0 ≠ 0 → s'.1.getD i 0 = s.1.getD i 0
theorem Ext.refl (s : Ren) : Ext s s := fun _ _ => rfl
theorem Ext.trans {s s1 s2 : Ren} (h : Ext s s1) (k : Ext s1 s2) : Ext s s2 := fun i hi => by
  have := h i hi
  rw [k i (by rw [this]; exact hi), this]
theorem Ext.step (s : Ren) (t : Int) : Ext s (renStep s t) := fun i hi => by
  unfold renStep
  split
  · rename_i h
    simp only [Bool.and_eq_true, beq_iff_eq] at h
    have hne : (-1 - t).toNat ≠ i := fun e => hi (e ▸ h.2)
    simp only [List.getD_eq_getElem?_getD, List.getElem?_set_ne hne]
  · rfl
theorem Ext.list : ∀ (xs : List Int) (s : Ren), Ext s (renList s xs)
  | [], s => Ext.refl s
  | t :: xs, s => (Ext.step s t).trans (Ext.list xs _)
theorem Ext.body : ∀ (ls : List LLit) (s : Ren), Ext s (renBody s ls)
  | [], s => Ext.refl s
  | l :: ls, s => (Ext.list l.2.2 s).trans (Ext.body ls _)
theorem renList_append (s : Ren) (xs ys : List Int) : renList s (xs ++ ys) = renList (renList s xs) ys := by simp [renList, List.foldl_append]
theorem renBody_append (s : Ren) (xs ys : List LLit) : renBody s (xs ++ ys) = renBody (renBody s xs) ys := by simp [renBody, List.foldl_append]
/-- A variable that has come has become something. -/
theorem renStep_ne {s : Ren} {t : Int} (h : s.1.length = 4) (hv : isVarB t = true) : (renStep s t).1.getD (-1 - t).toNat 0 ≠ 0 := by
  have h4 := var_lt hv
  unfold renStep
  split
  · rw [List.getD_eq_getElem?_getD, List.getElem?_set_self (by omega)]
    simp
    omega
  · rename_i hn
    intro e
    exact hn (by rw [hv, e]; rfl)
theorem look_ext {s S : Ren} {t : Int} (h : s.1.length = 4) (he : Ext (renStep s t) S) : look (renStep s t) t = look S t := by
  unfold look
  split
  · rename_i hv
    exact (he _ (renStep_ne h hv)).symm
  · rfl
theorem renOut_eq {s S : Ren} {xs : List Int} (h : s.1.length = 4) (he : Ext (renList s xs) S) : renOut s xs = xs.map (look S) := by
  apply List.ext_getElem (by simp [renOut])
  intro j h1 h2
  have hj : j < xs.length := by simpa using h2
  simp only [renOut, List.getElem_map, List.getElem_range]
  rw [renList_take s hj]
  have e1 : xs.getD j 0 = xs[j] := by simp [hj]
  rw [e1]
  refine look_ext (renList_len _ h) (Ext.trans ?_ he)
  rw [← renList_take s hj]
  have := renList_append s (xs.take (j + 1)) (xs.drop (j + 1))
  rw [List.take_append_drop] at this
  rw [this]
  exact Ext.list _ _
theorem renOut_length (s : Ren) (xs : List Int) : (renOut s xs).length = xs.length := by simp [renOut]

/-- The program's way: while they come. -/
def renLits (s : Ren) (ls : List LLit) : List LLit := (List.range ls.length).map fun j => ((ls.getD j (0, (0, []))).1, ((ls.getD j (0, (0, []))).2.1, renOut (renBody s (ls.take j)) (ls.getD j (0, (0, []))).2.2))
theorem renLits_eq {s S : Ren} {ls : List LLit} (h : s.1.length = 4) (he : Ext (renBody s ls) S) : renLits s ls = ls.map (lookLit S) := by
  apply List.ext_getElem (by simp [renLits])
  intro j h1 h2
  have hj : j < ls.length := by simpa using h2
  have e1 : ls.getD j (0, (0, [])) = ls[j] := by simp [hj]
  simp only [renLits, List.getElem_map, List.getElem_range, e1, lookLit]
  congr 2
  refine renOut_eq (renBody_len _ h) (Ext.trans ?_ he)
  rw [← renBody_take s hj]
  have := renBody_append s (ls.take (j + 1)) (ls.drop (j + 1))
  rw [List.take_append_drop] at this
  rw [this]
  exact Ext.body _ _
theorem renamed_yes {r : LRule} (h : termsOk r = true) : renamed r = ((r.1.1, renOut ren0 r.1.2), renLits (renList ren0 r.1.2) r.2) := by
  unfold renamed
  rw [if_pos h]
  have h0 : ren0.1.length = 4 := rfl
  rw [renOut_eq (S := renRule r) h0 (Ext.body _ _), renLits_eq (S := renRule r) (renList_len _ h0) (Ext.refl _)]
theorem renamed_no {r : LRule} (h : termsOk r = false) : renamed r = ((0, []), []) := by
  unfold renamed
  rw [h]
  rfl
theorem renamed_head (r : LRule) : (renamed r).1.2.length ≤ r.1.2.length := by
  unfold renamed
  split <;> simp
theorem renamed_szR (r : LRule) : szR (renamed r) ≤ szR r := by
  unfold renamed
  split
  · unfold szR totL
    simp only [List.length_map, List.map_map]
    have : ((fun l : LLit => l.2.2.length) ∘ lookLit (renRule r)) = fun l : LLit => l.2.2.length := by
      funext l
      simp [lookLit]
    rw [this]
    omega
  · simp [szR, totL]

end Go.Proofs.Ytofkcmihcgmmpaa
/-
  What comes in, opened: integers.
-/
namespace Go.Proofs.Ytofkcmihcgmmpaa
open Go.ChangeShapes Go.WideShapes Go.ChangeAt Go.RowKit Go.Joins Go.Deep

theorem Try.own : ownKnob Try.prog.godebug = none := by kernel_rfl
theorem Try.laidOut : laidOutB Try.prog = true := by kernel_rfl
theorem Try.cells3 : Try.prog.cellsOf 3 = 1 := by kernel_rfl
theorem Try.cells24 : Try.prog.cellsOf 24 = 1 := by kernel_rfl

section
variable {H : Type} {enc : TypeId × Value → H} {W : World}

/-- What is known of a slice of integers that came in. -/
def InInts (W : World) (v : Value) (xs : List Int) : Prop := RdInts W W.heap.size v xs ∧ xs.length ≤ maxLen

/-- The cells of a slice of integers. -/
theorem open_inInts_cells {fuel : Nat} {v : Value} {x : DataW H × List MemPlace} (h : DataW.trod enc Try.prog W 0 (fun _ => true) true fuel 24 [v] = some x) : ∃ xs, InInts W v xs := by
  rcases open_ints Try.underlying24 Try.underlying3 Try.cells3 h with ⟨hcs, _⟩ | ⟨a, len, cap, zs, hcs, _, hl, hm, hz, _, hcell, _⟩
  · simp at hcs
    subst hcs
    exact ⟨[], ⟨none, 0, rfl, by simp, fun h => absurd h (by simp)⟩, by simp⟩
  · simp at hcs
    subst hcs
    simp at hz
    refine ⟨zs.take len, ⟨some a, cap, ?_, by simp; omega, fun hn => ?_⟩, by simp; omega⟩
    · congr 1
      simp
      omega
    · have hlen : (zs.take len).length = len := by simp; omega
      obtain ⟨b, o, rfl, hc⟩ := ints_at hcell (by omega)
      refine ⟨b, o, rfl, World.block_lt_of_cell? _ _ (hc 0 (by omega)), fun k hk => ?_⟩
      rw [hc k (by omega)]
      simp [show k < zs.length by omega]

set_option maxRecDepth 100000 in
theorem open_inInts {v : Value} {d : DataW H} {p : List MemPlace} {b0 : Nat} (hv : Value.okWide Try.prog W .any b0 24 v) (h : DataW.Trod enc Try.prog W 0 (fun _ => true) true 24 v d p) :
    ∃ xs, InInts W v xs := by
  obtain ⟨a, len, cap, rfl⟩ := okWide_slice Try.underlying24 hv
  obtain ⟨fuel, hf⟩ := h
  exact open_inInts_cells (by simpa [Value.cells] using hf)

/-- What is known of an int that came in. -/
def InInt (v : Value) (n : Int) : Prop := v = .int .i64 n ∧ -9223372036854775808 ≤ n ∧ n ≤ 9223372036854775807

set_option maxRecDepth 100000 in
theorem open_inInt {v : Value} {d : DataW H} {p : List MemPlace} {b0 : Nat} (hv : Value.okWide Try.prog W .any b0 3 v) (h : DataW.Trod enc Try.prog W 0 (fun _ => true) true 3 v d p) : ∃ n, InInt v n := by
  obtain ⟨n, rfl, _, _, hw⟩ := open_int Try.underlying3 hv h
  exact ⟨n, rfl, bounds_i64 hw⟩
end

end Go.Proofs.Ytofkcmihcgmmpaa
/-
  What comes in, opened: atoms.
-/
namespace Go.Proofs.Ytofkcmihcgmmpaa
open Go.ChangeShapes Go.WideShapes Go.ChangeAt Go.RowKit Go.Joins Go.Deep

section
variable {H : Type} {enc : TypeId × Value → H} {W : World}

def InAtom (W : World) (v : Value) (f : LFact) : Prop := RdFact W W.heap.size v f ∧ f.2.length ≤ maxLen

end

end Go.Proofs.Ytofkcmihcgmmpaa
/-
  What comes in, opened: literals.
-/
namespace Go.Proofs.Ytofkcmihcgmmpaa
open Go.ChangeShapes Go.WideShapes Go.ChangeAt Go.RowKit Go.Joins Go.Deep

section
variable {H : Type} {enc : TypeId × Value → H} {W : World}

def InLit (W : World) (v : Value) (l : LLit) : Prop := RdLit W W.heap.size v l ∧ l.2.2.length ≤ maxLen

def bodyFits (ls : List LLit) : Prop := ls.length ≤ maxLen ∧ ∀ k (h : k < ls.length), ls[k].2.2.length ≤ maxLen

/-- A slice of elements of three cells. -/
theorem open_row_cells {α : Type} [Inhabited α] {t e : TypeId} {Q : World → Nat → Value → Value → Value → α → Prop} {N : α → Prop} (ht : Try.prog.underlying t = some (.slice e)) (hc : Try.prog.cellsOf e = 3)
    (hQ : ∀ {fuel : Nat} {v0 v1 v2 : Value} {x : DataW H × List MemPlace}, DataW.trod enc Try.prog W 0 (fun _ => true) true fuel e [v0, v1, v2] = some x → ∃ y : α, Q W W.heap.size v0 v1 v2 y ∧ N y)
    {fuel : Nat} {v : Value} {x : DataW H × List MemPlace} (h : DataW.trod enc Try.prog W 0 (fun _ => true) true fuel t [v] = some x) :
    ∃ xs : List α, RdRow Q W W.heap.size v xs ∧ xs.length ≤ maxLen ∧ ∀ k (h : k < xs.length), N xs[k] := by
  rcases open_slice ht h with ⟨hcs, _⟩ | ⟨a, len, cap, m, n, D, Pl, hcs, _, hl, hm, hmm, _, hx⟩
  · simp at hcs
    subst hcs
    exact ⟨[], ⟨none, 0, rfl, by simp, fun h => absurd h (by simp)⟩, by simp, fun k h => absurd h (by simp)⟩
  · simp at hcs
    subst hcs
    simp at hmm
    subst hmm
    rw [hc] at hx
    obtain ⟨F, hF⟩ := choose_lt (α := Value × Value × Value × α) (n := m) (p := fun i q => W.cell? (a.add (i * 3)) = some q.1 ∧ W.cell? (a.add (i * 3 + 1)) = some q.2.1 ∧ W.cell? (a.add (i * 3 + 2)) = some q.2.2.1 ∧ Q W W.heap.size q.1 q.2.1 q.2.2.1 q.2.2.2 ∧ N q.2.2.2) (fun i hi => by
      obtain ⟨cs', h1, h2⟩ := hx i hi
      obtain ⟨_, hlen, hcell⟩ := World.cells?_some h1
      match cs', hlen with
      | [v0, v1, v2], _ =>
        have e0 := hcell 0 (by omega)
        have e1 := hcell 1 (by omega)
        have e2 := hcell 2 (by omega)
        rw [add_add] at e0 e1 e2
        obtain ⟨y, hy, hn⟩ := hQ h2
        exact ⟨(v0, v1, v2, y), by simpa using e0, by simpa using e1, by simpa using e2, hy, hn⟩)
    refine ⟨(List.range len).map fun i => (F i).2.2.2, ⟨some a, m, by simp, by simpa using hl, fun hn => ?_⟩, by simp; omega, fun k hk => ?_⟩
    · simp at hn
      obtain ⟨b, off, spot⟩ := a
      have hspot : spot = none := by simpa [Addr.add] using World.cell?_spot (hF 0 (by omega)).1
      subst hspot
      have hb : b < W.heap.size := by simpa [Addr.add] using World.block_lt_of_cell? _ _ (hF 0 (by omega)).1
      refine ⟨b, off, rfl, hb, fun k hk => ?_⟩
      simp at hk
      obtain ⟨c0, c1, c2, hq, _⟩ := hF k (by omega)
      rw [Go.WideShapes.add_plain] at c0 c1 c2
      exact ⟨_, _, _, by simpa using c0, by simpa [Nat.add_assoc] using c1, by simpa [Nat.add_assoc] using c2, by simpa using hq⟩
    · simp at hk ⊢
      exact (hF k (by omega)).2.2.2.2

def InLits (W : World) (v : Value) (ls : List LLit) : Prop := RdLits W W.heap.size v ls ∧ bodyFits ls
end

end Go.Proofs.Ytofkcmihcgmmpaa
/-
  What comes in, opened: rules.
-/
namespace Go.Proofs.Ytofkcmihcgmmpaa
open Go.ChangeShapes Go.WideShapes Go.ChangeAt Go.RowKit Go.Joins Go.Deep

section
variable {H : Type} {enc : TypeId × Value → H} {W : World}

def ruleFitsIn (r : LRule) : Prop := r.1.2.length ≤ maxLen ∧ bodyFits r.2

def InRule (W : World) (v : Value) (r : LRule) : Prop := RdRule W W.heap.size v r ∧ ruleFitsIn r

end

end Go.Proofs.Ytofkcmihcgmmpaa
