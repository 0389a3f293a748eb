/-
  Texts that the claim's last one imports, laid together: part 3 of 13. No condition of its own.
-/
import Derived.OrdersHeld
import Derived.Deep.RegionHeld3
import Derived.StillTailTactics
import Derived.Deep.QuietTactic
import Derived.BigQuiet
import Derived.Test.YtokmmloakahkhaaGreatDoorMCs1
import Derived.Test.YtokmmloakahkhaaGreatDoorMCs2
/-
  Regions that draw their order and end in a store to a cell that they load: the condition on the world holds until operation t has come up, and is released then. Laws of any program.
-/
namespace Go.Proofs.YtokmmloakahkhaaGreatDoor
open Go

section
variable {P : Program} {ops : Array Oper} {Q : Exit → Act → World → Prop} {md : Region.Mode} {S : World → Prop} {t : Nat}

/-- Whatever order is picked from here on, and S holds behind each operation that is carried out, until t has come up. -/
def wpAnyR (P : Program) (md : Region.Mode) (ops : Array Oper) (Q : Exit → Act → World → Prop) (S : World → Prop) (t : Nat) : Nat → Array Bool → Act → World → Prop
  | 0, listed, a, w => Region.ready md ops listed = [] ∧ Q .normal a w
  | fuel + 1, listed, a, w =>
    (Region.ready md ops listed = [] → Q .normal a w) ∧
    ∀ i ∈ Region.ready md ops listed, wpOp P ops Q i (fun a' w' => ((listed.setIfInBounds i true).getD t true = false → S w') ∧ wpAnyR P md ops Q S t fuel (listed.setIfInBounds i true) a' w') a w

theorem wpAny_of_rel : ∀ (fuel : Nat) (listed : Array Bool) (a : Act) (w : World), wpAnyR P md ops Q S t fuel listed a w → wpAny P md ops Q fuel listed a w
  | 0, _, _, _, h => h
  | fuel + 1, _, _, _, h => ⟨h.1, fun i hi => wpOp_mono (fun a' w' h' => wpAny_of_rel fuel _ a' w' h'.2) (h.2 i hi)⟩

/-- None of D has come up, and each waits for i or for one of D. -/
def blockedB (md : Region.Mode) (ops : Array Oper) (listed : Array Bool) (i : Nat) (D : List Nat) : Bool :=
  !D.contains i && D.all fun d => !listed.getD d true && ((ops[d]?).map fun o => o.after.any fun e => Region.binds md e && (e.on == i || D.contains e.on)).getD false

/-- None of D may come up while i has not. -/
theorem not_ready_of_blocked {listed : Array Bool} {i : Nat} {D : List Nat} (h : blockedB md ops listed i D = true) (hi : listed.getD i true = false) {d : Nat} (hd : d ∈ D) : d ∉ Region.ready md ops listed := by
  intro hr
  obtain ⟨_, o, ho, hall⟩ := mem_ready.1 hr
  simp only [blockedB, Bool.and_eq_true, List.all_eq_true] at h
  have h2 := (h.2 d hd).2
  rw [ho] at h2
  simp only [Option.map_some, Option.getD_some, Array.any_eq_true', Bool.and_eq_true, Bool.or_eq_true, beq_iff_eq] at h2
  obtain ⟨e, he, hb, hon⟩ := h2
  have hl := hall e he hb
  have un : ∀ k : Nat, listed.getD k true = false → listed.getD k false = true → False := by
    intro k h1 h2
    rcases Nat.lt_or_ge k listed.size with h' | h'
    · simp [h'] at h1 h2
      rw [h1] at h2
      cases h2
    · simp [Array.getElem?_eq_none h'] at h1
  rcases hon with e1 | e1
  · rw [e1] at hl
    exact un i hi hl
  · have h3 := (h.2 e.on (by simpa using e1)).1
    exact un _ (by simpa using h3) hl

theorem blocked_set {listed : Array Bool} {i j : Nat} {D : List Nat} (h : blockedB md ops listed i D = true) (hj : j ∉ D) : blockedB md ops (listed.setIfInBounds j true) i D = true := by
  simp only [blockedB, Bool.and_eq_true, List.all_eq_true] at h ⊢
  refine ⟨h.1, fun d hd => ?_⟩
  have := h.2 d hd
  refine ⟨?_, this.2⟩
  rw [getD_set_ne true (show j ≠ d from fun e => hj (by rw [e]; exact hd))]
  exact this.1

theorem wpAnyR_first {i : Nat} {oi : Oper} {v : Value} {D : List Nat} (hi : ops[i]? = some oi) (hsel : ∀ (j : Nat) (o : Oper) cs b, ops[j]? = some o → o.op ≠ .select cs b)
    (hQ : ∀ c a w, Q (.panic c) (a.put oi.dst v) w → Q (.panic c) a w) (ht : t ∈ D) :
    ∀ (fuel : Nat) (listed : Array Bool) (a : Act) (w : World),
      (∀ j oj, ops[j]? = some oj → j ≠ i → listed.getD j true = false → (∀ e ∈ oj.after, Region.binds md e = true → e.on ≠ i) → oi.apart ops oj = true) →
      i ∈ Region.ready md ops listed → blockedB md ops listed i D = true → YieldsIf P ops S oi v a → S w →
      wpAnyR P md ops Q S t fuel (listed.setIfInBounds i true) (a.put oi.dst v) w → wpAnyR P md ops Q S t (fuel + 1) listed a w := by
  intro fuel
  induction fuel with
  | zero =>
    intro listed a w _ hr hbl hy hS H
    refine ⟨fun h => (by rw [h] at hr; cases hr), fun j hj => ?_⟩
    by_cases hji : j = i
    · subst hji; exact hy.wpOp hi hS ⟨fun _ => hS, H⟩
    · have := ready_mono hj hji
      rw [H.1] at this
      cases this
  | succ fuel ih =>
    intro listed a w hfree hr hbl hy hS H
    refine ⟨fun h => (by rw [h] at hr; cases hr), fun j hj => ?_⟩
    by_cases hji : j = i
    · subst hji; exact hy.wpOp hi hS ⟨fun _ => hS, H⟩
    · have h1 := H.2 j (ready_mono hj hji)
      have hjD : j ∉ D := fun hd => not_ready_of_blocked hbl (mem_ready.1 hr).1 hd hj
      have hiD : i ∉ D := by
        simp only [blockedB, Bool.and_eq_true] at hbl
        simpa using hbl.1
      have htl : listed.getD t true = false := by
        simp only [blockedB, Bool.and_eq_true, List.all_eq_true] at hbl
        simpa using (hbl.2 t ht).1
      have htl2 : ((listed.setIfInBounds i true).setIfInBounds j true).getD t true = false := by
        rw [getD_set_ne true (show j ≠ t from fun e => hjD (by rw [e]; exact ht)), getD_set_ne true (show i ≠ t from fun e => hiD (by rw [e]; exact ht))]
        exact htl
      obtain ⟨hjun, oj, hoj, hall⟩ := mem_ready.1 hj
      have hnot : ∀ e ∈ oj.after, Region.binds md e = true → e.on ≠ i := fun e he hb heq => by
        have h1 := hall e he hb
        have h0 := (mem_ready.1 hr).1
        rw [heq] at h1
        rcases Nat.lt_or_ge i listed.size with h' | h'
        · simp [h'] at h0 h1; rw [h0] at h1; cases h1
        · simp [Array.getElem?_eq_none h'] at h1
      have h2 := wpOp_putIf hoj (hfree j oj hoj hji hjun hnot) (fun cs b => hsel i oi cs b hi) (fun cs b => hsel j oj cs b hoj) hQ hy h1
      have hfree' : ∀ k ok, ops[k]? = some ok → k ≠ i → (listed.setIfInBounds j true).getD k true = false →
          (∀ e ∈ ok.after, Region.binds md e = true → e.on ≠ i) → oi.apart ops ok = true := fun k ok hk hki hun hno => by
        refine hfree k ok hk hki ?_ hno
        by_cases hjk : j = k
        · subst hjk; exact hjun
        · rw [getD_set_ne true hjk] at hun; exact hun
      refine wpOp_mono (fun a' w' h3 => ⟨fun _ => h3.2.1 htl2, ih (listed.setIfInBounds j true) a' w' hfree' (ready_mono hr (Ne.symm hji)) (blocked_set hbl hjD) h3.1 (h3.2.1 htl2) ?_⟩) h2
      rw [Array.setIfInBounds_comm _ _ hji]
      exact h3.2.2

/-- What waits for i, at once or over others. -/
def descOf (md : Region.Mode) (ops : Array Oper) (i : Nat) : List Nat :=
  (List.range ops.size).foldl (fun D k => if ((ops[k]?).map fun o => o.after.any fun e => Region.binds md e && (e.on == i || D.contains e.on)).getD false then D ++ [k] else D) []
/-- All that is asked of a take, as one Bool. -/
def takeOk (md : Region.Mode) (ops : Array Oper) (listed : Array Bool) (i t : Nat) : Bool :=
  Region.noSelect ops && Region.free md ops listed i && (Region.ready md ops listed).contains i && blockedB md ops listed i (descOf md ops i) && (descOf md ops i).contains t
def pureOk (md : Region.Mode) (ops : Array Oper) (listed : Array Bool) (i : Nat) : Bool :=
  Region.noSelect ops && Region.free md ops listed i && (Region.ready md ops listed).contains i

/-- Take number i first: what it reads holds in every world that meets S, and t waits for it. -/
theorem wpAnyR_take {i d : Nat} {oi : Oper} (v : Value) {fuel : Nat} {listed : Array Bool} {a : Act} {w : World} (hi : ops[i]? = some oi) (hd : oi.dst = some d)
    (hok : takeOk md ops listed i t = true)
    (hQ : ∀ c a w, Q (.panic c) (a.put oi.dst v) w → Q (.panic c) a w) (hw : Region.wanted oi (yielded ops a.tmps) = true) (hy : ∀ w, S w → (execOp a.eval oi).run P w = .ok (.value v) w) (hS : S w)
    (h : wpAnyR P md ops Q S t fuel (listed.setIfInBounds i true) { a with tmps := a.tmps.setIfInBounds d v } w) : wpAnyR P md ops Q S t (fuel + 1) listed a w := by
  have h : wpAnyR P md ops Q S t fuel (listed.setIfInBounds i true) (a.put oi.dst v) w := by rw [hd]; exact h
  simp only [takeOk, Bool.and_eq_true] at hok
  obtain ⟨⟨⟨⟨h1, h2⟩, h3⟩, h4⟩, h5⟩ := hok
  exact wpAnyR_first hi (Region.noSelect_spec h1) hQ (by simpa using h5) fuel listed a w (Region.free_spec hi h2) (by simpa using h3) h4 (.inl ⟨hw, hy⟩) hS h

theorem wpAnyR_first0 {i : Nat} {oi : Oper} {v : Value} (hi : ops[i]? = some oi) (hsel : ∀ (j : Nat) (o : Oper) cs b, ops[j]? = some o → o.op ≠ .select cs b)
    (hQ : ∀ c a w, Q (.panic c) (a.put oi.dst v) w → Q (.panic c) a w) :
    ∀ (fuel : Nat) (listed : Array Bool) (a : Act) (w : World),
      (∀ j oj, ops[j]? = some oj → j ≠ i → listed.getD j true = false → (∀ e ∈ oj.after, Region.binds md e = true → e.on ≠ i) → oi.apart ops oj = true) →
      i ∈ Region.ready md ops listed → YieldsIf P ops (fun _ => True) oi v a → (listed.getD t true = false → S w) → t ≠ i →
      wpAnyR P md ops Q S t fuel (listed.setIfInBounds i true) (a.put oi.dst v) w → wpAnyR P md ops Q S t (fuel + 1) listed a w := by
  intro fuel
  induction fuel with
  | zero =>
    intro listed a w _ hr hy hS hti H
    refine ⟨fun h => (by rw [h] at hr; cases hr), fun j hj => ?_⟩
    by_cases hji : j = i
    · subst hji; exact hy.wpOp hi trivial ⟨fun h => hS (by rwa [getD_set_ne true (Ne.symm hti)] at h), H⟩
    · have := ready_mono hj hji
      rw [H.1] at this
      cases this
  | succ fuel ih =>
    intro listed a w hfree hr hy hS hti H
    refine ⟨fun h => (by rw [h] at hr; cases hr), fun j hj => ?_⟩
    by_cases hji : j = i
    · subst hji; exact hy.wpOp hi trivial ⟨fun h => hS (by rwa [getD_set_ne true (Ne.symm hti)] at h), H⟩
    · have h1 := H.2 j (ready_mono hj hji)
      obtain ⟨hjun, oj, hoj, hall⟩ := mem_ready.1 hj
      have hnot : ∀ e ∈ oj.after, Region.binds md e = true → e.on ≠ i := fun e he hb heq => by
        have h1 := hall e he hb
        have h0 := (mem_ready.1 hr).1
        rw [heq] at h1
        rcases Nat.lt_or_ge i listed.size with h' | h'
        · simp [h'] at h0 h1; rw [h0] at h1; cases h1
        · simp [Array.getElem?_eq_none h'] at h1
      have h2 := wpOp_putIf hoj (hfree j oj hoj hji hjun hnot) (fun cs b => hsel i oi cs b hi) (fun cs b => hsel j oj cs b hoj) hQ hy h1
      have hfree' : ∀ k ok, ops[k]? = some ok → k ≠ i → (listed.setIfInBounds j true).getD k true = false →
          (∀ e ∈ ok.after, Region.binds md e = true → e.on ≠ i) → oi.apart ops ok = true := fun k ok hk hki hun hno => by
        refine hfree k ok hk hki ?_ hno
        by_cases hjk : j = k
        · subst hjk; exact hjun
        · rw [getD_set_ne true hjk] at hun; exact hun
      have hback : ∀ {W : World}, (((listed.setIfInBounds i true).setIfInBounds j true).getD t true = false → S W) → ((listed.setIfInBounds j true).getD t true = false → S W) := fun h hl => h (by
        rw [Array.setIfInBounds_comm _ _ (Ne.symm hji), getD_set_ne true (Ne.symm hti)]
        exact hl)
      refine wpOp_mono (fun a' w' h3 => ⟨hback h3.2.1, ih (listed.setIfInBounds j true) a' w' hfree' (ready_mono hr (Ne.symm hji)) h3.1 (hback h3.2.1) hti ?_⟩) h2
      rw [Array.setIfInBounds_comm _ _ hji]
      exact h3.2.2
/-- Take number i first: it yields its value in whatever world. -/
theorem wpAnyR_pure {i d : Nat} {oi : Oper} (v : Value) {fuel : Nat} {listed : Array Bool} {a : Act} {w : World} (hi : ops[i]? = some oi) (hd : oi.dst = some d)
    (hok : pureOk md ops listed i = true) (hti : t ≠ i)
    (hQ : ∀ c a w, Q (.panic c) (a.put oi.dst v) w → Q (.panic c) a w) (hw : Region.wanted oi (yielded ops a.tmps) = true) (hy : ∀ w, (execOp a.eval oi).run P w = .ok (.value v) w) (hS : listed.getD t true = false → S w)
    (h : wpAnyR P md ops Q S t fuel (listed.setIfInBounds i true) { a with tmps := a.tmps.setIfInBounds d v } w) : wpAnyR P md ops Q S t (fuel + 1) listed a w := by
  have h : wpAnyR P md ops Q S t fuel (listed.setIfInBounds i true) (a.put oi.dst v) w := by rw [hd]; exact h
  simp only [pureOk, Bool.and_eq_true] at hok
  obtain ⟨⟨h1, h2⟩, h3⟩ := hok
  exact wpAnyR_first0 hi (Region.noSelect_spec h1) hQ fuel listed a w (Region.free_spec hi h2) (by simpa using h3) (.inl ⟨hw, fun w _ => hy w⟩) hS hti h

/-- The one that may come up. -/
theorem wpAnyR_one {i : Nat} {o : Oper} {fuel : Nat} {listed : Array Bool} {a : Act} {w : World} (hr : Region.ready md ops listed = [i]) (ho : ops[i]? = some o)
    (h : ∀ K' : Act → World → Prop, Shut (∀ a w, ((listed.setIfInBounds i true).getD t true = false → S w) → wpAnyR P md ops Q S t fuel (listed.setIfInBounds i true) a w → K' a w) → if Region.wanted o (yielded ops a.tmps) = true then Oper.wp P o a w K' Q else K' (a.put o.dst undef) w) :
    wpAnyR P md ops Q S t (fuel + 1) listed a w := by
  refine ⟨fun h0 => (by rw [hr] at h0; cases h0), fun j hj => ?_⟩
  rw [hr] at hj
  obtain rfl : j = i := by simpa using hj
  exact wpOp_step ho (fun K' hK => h K' (fun a w hS hW => hK a w ⟨hS, hW⟩))

/-- The two that may come up. -/
theorem wpAnyR_two {i j : Nat} {oi oj : Oper} {fuel : Nat} {listed : Array Bool} {a : Act} {w : World} (hr : Region.ready md ops listed = [i, j]) (hi : ops[i]? = some oi) (hj : ops[j]? = some oj)
    (h1 : ∀ K' : Act → World → Prop, Shut (∀ a w, ((listed.setIfInBounds i true).getD t true = false → S w) → wpAnyR P md ops Q S t fuel (listed.setIfInBounds i true) a w → K' a w) → if Region.wanted oi (yielded ops a.tmps) = true then Oper.wp P oi a w K' Q else K' (a.put oi.dst undef) w)
    (h2 : ∀ K' : Act → World → Prop, Shut (∀ a w, ((listed.setIfInBounds j true).getD t true = false → S w) → wpAnyR P md ops Q S t fuel (listed.setIfInBounds j true) a w → K' a w) → if Region.wanted oj (yielded ops a.tmps) = true then Oper.wp P oj a w K' Q else K' (a.put oj.dst undef) w) :
    wpAnyR P md ops Q S t (fuel + 1) listed a w := by
  refine ⟨fun h0 => (by rw [hr] at h0; cases h0), fun k hk => ?_⟩
  rw [hr] at hk
  rcases List.mem_cons.1 hk with rfl | hk
  · exact wpOp_step hi (fun K' hK => h1 K' (fun a w hS hW => hK a w ⟨hS, hW⟩))
  · obtain rfl : k = j := by simpa using hk
    exact wpOp_step hj (fun K' hK => h2 K' (fun a w hS hW => hK a w ⟨hS, hW⟩))

theorem wpAnyR_done {fuel : Nat} {listed : Array Bool} {a : Act} {w : World} (hr : Region.ready md ops listed = []) (h : Q .normal a w) : wpAnyR P md ops Q S t fuel listed a w := by
  cases fuel with
  | zero => exact ⟨hr, h⟩
  | succ fuel => exact ⟨fun _ => h, fun j hj => (by rw [hr] at hj; cases hj)⟩

theorem wp_region_rel (S : World → Prop) (t n : Nat) {id : Nat} {a : Act} {w : World} (hm : P.follows .mixedOrders = true) (hn : ops.size = n)
    (h : wpAnyR P .any ops Q S t n (Array.replicate n false) a w.drew) : (Code.region id ops true).wp P Q a w :=
  wp_region_any hm (wpAny_of_rel _ _ _ _ (hn ▸ h))

end
end Go.Proofs.YtokmmloakahkhaaGreatDoor
/-
  A fact drawn.
-/
namespace Go.Proofs.YtokmmloakahkhaaGreatDoor
open Go.RowKit

/-- What l1Fact keeps: r is the result's block, r + 1 the fact's. -/
structure FaRel (w wr : World) (g : Nat) (bs : List Nat) (p : Nat) (A : Option Addr) (c : Nat) (f : LFact) : Prop where
  res : Blk wr w.heap.size 41 #[.int .i64 0, .slice none 0 0]
  fact : Blk wr (w.heap.size + 1) 41 #[.int .i64 f.1, .slice A f.2.length c]
  own : wr.ownsRow (w.heap.size + 2) 3 1 (.slice A f.2.length c) f.2.length (f.2.map (Value.int .i64))
  rdr : Rdr wr g bs p
  only : Only g (g + 1) w wr

theorem FaRel.start {w : World} {g : Nat} {bs : List Nat} {p : Nat} (h : Rdr w g bs p) :
    FaRel w ((w.alloc (Obj.cells #[Value.int IntKind.i64 0, Value.slice none 0 0] 41)).alloc (Obj.cells #[Value.int IntKind.i64 0, Value.slice none 0 0] 41)) g bs p none 0 (0, []) :=
  ⟨(Blk.new w _ _).alloc _, by simpa using Blk.new (w.alloc (Obj.cells #[Value.int IntKind.i64 0, Value.slice none 0 0] 41)) 41 #[.int .i64 0, .slice none 0 0], World.ownsRow_nil _ _ _ _, h.below (below2 w _ _) h.lt, Only.of_below (below2 w _ _)⟩

/-- A pick keeps the rest. -/
theorem FaRel.pick {w wr w' : World} {g : Nat} {bs : List Nat} {p : Nat} {A : Option Addr} {c : Nat} {f : LFact} (h : FaRel w wr g bs p A c f) (hg : g < w.heap.size) (hk : Picked wr w' g bs p) : FaRel w w' g bs (p + 1) A c f :=
  ⟨h.res.only hk.2 (by omega), h.fact.only hk.2 (by omega), ownsRow_only h.own (fun b hb => hk.2.block b (h.own.lt b hb).2 (by have := (h.own.lt b hb).1; omega)), hk.1, h.only.trans hk.2⟩

/-- The predicate stored. -/
theorem FaRel.pred {w wr : World} {g : Nat} {bs : List Nat} {p : Nat} {A : Option Addr} {c : Nat} {f : LFact} (h : FaRel w wr g bs p A c f) (hg : g < w.heap.size) (x : Int) : FaRel w (wr.setCell ⟨w.heap.size + 1, 0, none⟩ (.int .i64 x)) g bs p A c (x, f.2) :=
  ⟨h.res.far (by show w.heap.size ≠ w.heap.size + 1; omega) _, h.fact.set_ 0 _, ownsRow_only h.own (fun b hb => Below.heap_setCell _ _ _ _ (by have := (h.own.lt b hb).1; show b ≠ w.heap.size + 1; omega)),
    h.rdr.same fun k hk => Below.heap_setCell _ _ _ _ (by show k ≠ w.heap.size + 1; omega),
    ⟨h.only.os, h.only.tape, h.only.output, by simpa using h.only.size, fun k hk hn => (Below.heap_setCell _ _ _ _ (by show k ≠ w.heap.size + 1; omega)).trans (h.only.block k hk hn)⟩⟩

/-- A new block keeps all. -/
theorem FaRel.alloc {w wr : World} {g : Nat} {bs : List Nat} {p : Nat} {A : Option Addr} {c : Nat} {f : LFact} (h : FaRel w wr g bs p A c f) (o : Obj) : FaRel w (wr.alloc o) g bs p A c f :=
  ⟨h.res.alloc o, h.fact.alloc o, h.own.alloc o, h.rdr.below (below1 wr o) h.rdr.lt, h.only.trans (Only.of_below (below1 wr o))⟩
theorem FaRel.drewN {w wr : World} {g : Nat} {bs : List Nat} {p : Nat} {A : Option Addr} {c : Nat} {f : LFact} (h : FaRel w wr g bs p A c f) (n : Nat) : FaRel w (wr.drewN n) g bs p A c f :=
  ⟨h.res, h.fact, h.own, h.rdr, ⟨h.only.os, h.only.tape, h.only.output, h.only.size, h.only.block⟩⟩

theorem FaRel.drew {w wr : World} {g : Nat} {bs : List Nat} {p : Nat} {A : Option Addr} {c : Nat} {f : LFact} (h : FaRel w wr g bs p A c f) : FaRel w wr.drew g bs p A c f :=
  ⟨h.res, h.fact, h.own, h.rdr, ⟨h.only.os, h.only.tape, h.only.output, h.only.size, h.only.block⟩⟩

theorem FaRel.push {w wr w4 : World} {g : Nat} {bs : List Nat} {p : Nat} {A : Option Addr} {c : Nat} {P : Int} {xs : List Int} (h : FaRel w wr g bs p A c (P, xs)) (hg : g < w.heap.size)
    (hgr : wr.grownBy w4 (Value.slice A xs.length c).ownBlock) {g2 cap : Nat} {x : Int} (hown : w4.ownsRow (w.heap.size + 2) 3 1 (.slice (some ⟨g2, 0, none⟩) (xs.length + 1) cap) (xs.length + 1) (xs.map (Value.int .i64) ++ [.int .i64 x])) :
    FaRel w (w4.setCell ⟨w.heap.size + 1, 1, none⟩ (.slice (some ⟨g2, 0, none⟩) (xs.length + 1) cap)) g bs p (some ⟨g2, 0, none⟩) cap (P, xs ++ [x]) := by
  have hs := h.fact.lt
  have hlow : ∀ b, b < w.heap.size + 2 → w4.heap[b]? = wr.heap[b]? := fun b hb => hgr.block b (by omega) (fun e => by have := (h.own.lt b e.symm).1; omega)
  have hlow2 : ∀ b, b < w.heap.size + 1 → (w4.setCell ⟨w.heap.size + 1, 1, none⟩ (.slice (some ⟨g2, 0, none⟩) (xs.length + 1) cap)).heap[b]? = wr.heap[b]? := fun b hb =>
    (Below.heap_setCell _ _ _ _ (by show b ≠ w.heap.size + 1; omega)).trans (hlow b (by omega))
  refine ⟨(hlow2 _ (by omega)).trans h.res, ?_, ?_, h.rdr.same fun k hk => hlow2 k (by omega), ⟨hgr.os.trans h.only.os, hgr.tape.trans h.only.tape, hgr.output.trans h.only.output, Nat.le_trans h.only.size (Nat.le_trans hgr.size (by simp)), fun k hk hn => (hlow2 k (by omega)).trans (h.only.block k hk hn)⟩⟩
  · have := (show Blk w4 (w.heap.size + 1) 41 _ from (hlow _ (by omega)).trans h.fact).set_ 1 (.slice (some ⟨g2, 0, none⟩) (xs.length + 1) cap)
    simpa using this
  · simpa using ownsRow_only hown (fun b hb => Below.heap_setCell _ _ _ _ (by have := (hown.lt b hb).1; show b ≠ w.heap.size + 1; omega))

theorem FaRel.keepFact {w wr w4 : World} {g : Nat} {bs : List Nat} {p : Nat} {A : Option Addr} {c : Nat} {f : LFact} (h : FaRel w wr g bs p A c f) (hgr : wr.grownBy w4 (Value.slice A f.2.length c).ownBlock) : Blk w4 (w.heap.size + 1) 41 #[.int .i64 f.1, .slice A f.2.length c] :=
  (hgr.block _ h.fact.lt (fun e => by have := (h.own.lt _ e.symm).1; omega)).trans h.fact

theorem num3_any (g : Nat) (bs : List Nat) (p b : Nat) (x y z : Int) (w : World) (h : Rdr w g bs p) (hp : p ≤ 1073741824) (hb : Blk w b 3 #[.int .i64 x, .int .i64 y, .int .i64 z]) (hne : b ≠ g) :
    Calls Tryz.prog 153 #[.pointer (some ⟨g, 0, none⟩), .slice (some ⟨b, 0, none⟩) 3 3] w fun e w' => (∃ x, e = .returned (.int .i64 x)) ∧ Picked w w' g bs p :=
  (num_any g bs p b _ [x, y, z] 3 w h hp hb rfl hne rfl (by simp) (by simp)).mono fun _ _ ⟨⟨u, he, _⟩, hk⟩ => ⟨⟨u, he⟩, hk⟩

theorem FaRel.pick_calls {w W : World} {g : Nat} {bs : List Nat} {q : Nat} {A : Option Addr} {c : Nat} {f : LFact} (h : FaRel w W g bs q A c f) (hg : g < w.heap.size) (hq : q ≤ 1073741824) (n : Int) (hn : n ≤ 1073741824) :
    Calls Tryz.prog 120 #[.pointer (some ⟨g, 0, none⟩), .int .i64 n] W fun e w' => ∃ v, e = .returned v ∧ (∃ x, v = .int .i64 x) ∧ FaRel w w' g bs (q + 1) A c f :=
  (pick_any g bs q n W h.rdr hq hn).mono fun _ _ ⟨⟨x, he, _⟩, hk⟩ => ⟨_, he, ⟨x, rfl⟩, h.pick hg hk⟩
theorem FaRel.num_calls {w W : World} {g : Nat} {bs : List Nat} {q : Nat} {A : Option Addr} {c : Nat} {f : LFact} (h : FaRel w W g bs q A c f) (hg : g < w.heap.size) (hq : q ≤ 1073741824) (x y z : Int) :
    Calls Tryz.prog 153 #[.pointer (some ⟨g, 0, none⟩), .slice (some ⟨W.heap.size, 0, none⟩) 3 3] (W.alloc (.cells #[.int .i64 x, .int .i64 y, .int .i64 z] 3)) fun e w' => ∃ v, e = .returned v ∧ (∃ x, v = .int .i64 x) ∧ FaRel w w' g bs (q + 1) A c f :=
  (num3_any g bs q W.heap.size x y z _ (h.alloc _).rdr hq (Blk.new _ _ _) (Nat.ne_of_gt h.rdr.lt)).mono fun _ _ ⟨⟨u, he⟩, hk⟩ => ⟨_, he, ⟨u, rfl⟩, (h.alloc _).pick hg hk⟩

/-- A round is done. -/
def FaStep (w wx : World) (g : Nat) (bs : List Nat) (p : Nat) (P : Int) (k : Nat) : Prop := ∃ (A : Option Addr) (c : Nat) (xs : List Int) (q : Nat), xs.length = k + 1 ∧ q ≤ p + 1 + 4 * (k + 1) ∧ FaRel w wx g bs q A c (P, xs)

/-- Some fact stands, of at most m arguments. -/
def FaNow (w wx : World) (g : Nat) (bs : List Nat) (p m q0 : Nat) : Prop := ∃ (A : Option Addr) (c : Nat) (f : LFact) (q : Nat), f.2.length ≤ m ∧ q ≤ p + q0 ∧ FaRel w wx g bs q A c f

/-- A row of one or more begins at its block. -/
theorem FaRel.form {w W : World} {g : Nat} {bs : List Nat} {q : Nat} {A : Option Addr} {c : Nat} {f : LFact} (h : FaRel w W g bs q A c f) (hn : 0 < f.2.length) : ∃ g2, A = some ⟨g2, 0, none⟩ := by
  obtain ⟨g2, cap, e, _⟩ := h.own.form hn
  injection e with e1 _ _
  exact ⟨g2, e1⟩
theorem FaRel.head {w W : World} {g : Nat} {bs : List Nat} {q g2 c : Nat} {f : LFact} (h : FaRel w W g bs q (some ⟨g2, 0, none⟩) c f) (hn : 0 < f.2.length) : W.cell? ⟨g2, 0, none⟩ = some (.int .i64 (f.2[0]'hn)) ∧ W.frozen? ⟨g2, 0, none⟩ = false := by
  refine ⟨?_, h.own.frozenAt 0⟩
  rw [h.own.cellAt 0 (by omega)]
  simp [hn]
/-- The first place is set anew. -/
theorem FaRel.first {w W : World} {g : Nat} {bs : List Nat} {q g2 c : Nat} {f : LFact} (h : FaRel w W g bs q (some ⟨g2, 0, none⟩) c f) (hg : g < w.heap.size) (x : Int) :
    FaRel w (W.setCell ⟨g2, 0, none⟩ (.int .i64 x)) g bs q (some ⟨g2, 0, none⟩) c (f.1, f.2.set 0 x) := by
  have hb := (h.own.lt g2 rfl).1
  have hs := h.own.stored 0 (.int .i64 x)
  refine ⟨h.res.far (by show w.heap.size ≠ g2; omega) _, ?_, ?_, h.rdr.same fun k hk => Below.heap_setCell _ _ _ _ (by show k ≠ g2; omega),
    ⟨h.only.os, h.only.tape, h.only.output, by simpa using h.only.size, fun k hk hn => (Below.heap_setCell _ _ _ _ (by show k ≠ g2; omega)).trans (h.only.block k hk hn)⟩⟩
  · simpa using h.fact.far (p := ⟨g2, 0, none⟩) (by show w.heap.size + 1 ≠ g2; omega) (.int .i64 x)
  · have := hs.1
    rw [← List.map_set] at this
    simpa using this
/-- The result is laid. -/
theorem FaRel.done {w W : World} {g : Nat} {bs : List Nat} {q : Nat} {A : Option Addr} {c : Nat} {f : LFact} (h : FaRel w W g bs q A c f) (hg : g < w.heap.size) :
    ((W.setCell ⟨w.heap.size, 0, none⟩ (.int .i64 f.1)).setCell ⟨w.heap.size, 1, none⟩ (.slice A f.2.length c)).ownsRow (w.heap.size + 2) 3 1 (.slice A f.2.length c) f.2.length (f.2.map (Value.int .i64)) ∧
    Rdr ((W.setCell ⟨w.heap.size, 0, none⟩ (.int .i64 f.1)).setCell ⟨w.heap.size, 1, none⟩ (.slice A f.2.length c)) g bs q ∧
    Only g (g + 1) w ((W.setCell ⟨w.heap.size, 0, none⟩ (.int .i64 f.1)).setCell ⟨w.heap.size, 1, none⟩ (.slice A f.2.length c)) ∧
    Blk ((W.setCell ⟨w.heap.size, 0, none⟩ (.int .i64 f.1)).setCell ⟨w.heap.size, 1, none⟩ (.slice A f.2.length c)) w.heap.size 41 #[.int .i64 f.1, .slice A f.2.length c] := by
  have hb : ∀ k, k ≠ w.heap.size → ((W.setCell ⟨w.heap.size, 0, none⟩ (.int .i64 f.1)).setCell ⟨w.heap.size, 1, none⟩ (.slice A f.2.length c)).heap[k]? = W.heap[k]? := fun k hk =>
    (Below.heap_setCell _ _ _ _ (by show k ≠ w.heap.size; exact hk)).trans (Below.heap_setCell _ _ _ _ (by show k ≠ w.heap.size; exact hk))
  refine ⟨ownsRow_only h.own (fun b hb' => hb b (by have := (h.own.lt b hb').1; omega)), h.rdr.same fun k hk => hb k (by omega), ⟨h.only.os, h.only.tape, h.only.output, by simpa using h.only.size, fun k hk hn => (hb k (by omega)).trans (h.only.block k hk hn)⟩, ?_⟩
  have := (h.res.set_ 0 (.int .i64 f.1)).set_ 1 (.slice A f.2.length c)
  simpa using this

set_option maxHeartbeats 8000000 in
set_option maxRecDepth 100000 in
theorem l1Fact_any (g : Nat) (bs : List Nat) (p : Nat) (v : Value) (ar : List Int) (w : World) (h : Rdr w g bs p) (hp : p ≤ 1048576) (ha : RdInts w w.heap.size v ar) (hv : ∀ w', Only g (g + 1) w w' → RdInts w' w'.heap.size v ar) (hr : ∀ x ∈ ar, 0 ≤ x ∧ x ≤ 2) (hl : ar.length ≤ 1048576) :
    Calls Tryz.prog 154 #[.pointer (some ⟨g, 0, none⟩), v] w fun e w' => ∃ (A : Option Addr) (c : Nat) (f : LFact) (q : Nat), e = .returned (.agg #[.int .i64 f.1, .slice A f.2.length c]) ∧ f.2.length ≤ 3 ∧ q ≤ p + 20 ∧
      w'.ownsRow (w.heap.size + 2) 3 1 (.slice A f.2.length c) f.2.length (f.2.map (Value.int .i64)) ∧ Rdr w' g bs q ∧ Only g (g + 1) w w' := by
  obtain ⟨i0, hi0, hz0, hz1, hz2⟩ := info_parts Tryz.infoInt
  have H := Lib.hid h
  have hgl := h.lt
  have HV := Lib.hid hv
  have HS := Lib.hid (FaRel.start h)
  obtain ⟨A0, c0, rfl, hc, hx⟩ := ha
  clear h hv hx
  go_enter Tryz.func154, Tryz.ntmps154
  go_upto_if 11 with (fail)
  go_cut [] (fun wx => FaNow w wx g bs p 2 9)
  case first =>
    by_cases h0 : 0 < ar.length
    · have hd : decide ((0 : Int) < ar.length) = true := by simpa using h0
      go_wp2_with (fail)
      refine (pick_any g bs p _ _ HS.out.rdr (by omega) (by omega)).mono ?_
      rintro e w1 ⟨⟨x, rfl, hx1⟩, hpk⟩
      obtain ⟨j, rfl⟩ : ∃ j : Nat, x = (j : Int) := ⟨x.toNat, by have := hx1.1 (by omega); omega⟩
      have hj : j < ar.length := by have := hx1.1 (by omega); omega
      have hf := HS.out.pick hgl hpk
      have HF := Lib.hid (hf.pred hgl (j : Int))
      have k0 : w1.cell? ⟨w.heap.size + 1, 0, none⟩ = some (.int .i64 0) := hf.fact.cell 0
      have k1 : w1.frozen? ⟨w.heap.size + 1, 0, none⟩ = false := hf.fact.frozen 0
      clear hf hpk hx1
      have hjr := hr _ (List.getElem_mem hj)
      obtain ⟨m, hm⟩ : ∃ m : Nat, ar[j] = (m : Int) := ⟨ar[j].toNat, by omega⟩
      have hm2 : m ≤ 2 := by omega
      clear hjr
      go_wp2_with (fail)
      go_loopw [6] (fun i wr => ∃ (k : Nat) (A : Option Addr) (c : Nat) (xs : List Int) (q : Nat), k ≤ m ∧ i = .int .i64 k ∧ xs.length = k ∧ q ≤ p + 1 + 4 * k ∧ FaRel w wr g bs q A c ((j : Int), xs)) (fun i _ => m - (intOf i).toNat)
      case atStart => exact ⟨0, none, 0, [], p + 1, Nat.zero_le _, rfl, rfl, by omega, HF.out⟩
      case round =>
        obtain ⟨k, A, c, xs, q, hk, rfl, hxl, hq, hfr⟩ := hrel
        have k2 : wr.cell? ⟨w.heap.size + 1, 0, none⟩ = some (.int .i64 (j : Int)) := hfr.fact.cell 0
        obtain ⟨A', c', e0, hc', hcell⟩ := HV.out wr hfr.only
        injection e0 with e1 _ e2
        subst e1
        subst e2
        obtain ⟨b, o, rfl, hbB, hx⟩ := hcell (by omega)
        have k3 : wr.cell? ⟨b, o + j, none⟩ = some (.int .i64 (m : Int)) := by rw [hx j hj, hm]
        have HR := Lib.hid hfr
        clear hcell hx hfr
        subst hxl
        by_cases hlt : xs.length < m
        · go_upto_region 7 with (fail)
          obtain ⟨SS, hSS⟩ : ∃ SS : World → Prop, SS = (fun W => W.cell? ⟨w.heap.size + 1, 1, none⟩ = some (.slice A xs.length c)) := ⟨_, rfl⟩
          have HS1 := Lib.hid (show ∀ W, W.cell? ⟨w.heap.size + 1, 1, none⟩ = some (.slice A xs.length c) → SS W from by rw [hSS]; exact fun _ h => h)
          have HS2 := Lib.hid (show ∀ W, SS W → W.cell? ⟨w.heap.size + 1, 1, none⟩ = some (.slice A xs.length c) from by rw [hSS]; exact fun _ h => h)
          clear hSS
          have F0 := Lib.hid HR.out.drew
          have S0 := Lib.hid (HS1.out _ (F0.out.fact.cell 1))
          refine wp_region_rel SS 14 15 (by kernel_rfl) rfl ?_
          refine wpAnyR_pure (i := 0) (oi := _) ?v0 rfl rfl (by kernel_rfl) (by decide) (fun _ _ _ h => h) rfl ?hy0 (fun _ => S0.out) ?rest0
          case hy0 => (intro W; go_simp; (try with_reducible rfl))
          simp only [List.setIfInBounds_toArray, List.set_cons_zero, List.set_cons_succ]
          refine wpAnyR_take (i := 1) (oi := _) ?v1 rfl rfl (by kernel_rfl) (fun _ _ _ h => h) rfl ?hy1 S0.out ?rest1
          case hy1 => (intro W hW; have e1 := HS2.out W hW; go_simp; (try with_reducible rfl))
          simp only [List.setIfInBounds_toArray, List.set_cons_zero, List.set_cons_succ]
          refine wpAnyR_pure (i := 2) (oi := _) ?v2 rfl rfl (by kernel_rfl) (by decide) (fun _ _ _ h => h) rfl ?hy2 (fun _ => S0.out) ?rest2
          case hy2 => (intro W; go_simp; (try with_reducible rfl))
          simp only [List.setIfInBounds_toArray, List.set_cons_zero, List.set_cons_succ]
          refine wpAnyR_pure (i := 3) (oi := _) ?v3 rfl rfl (by kernel_rfl) (by decide) (fun _ _ _ h => h) rfl ?hy3 (fun _ => S0.out) ?rest3
          case hy3 => (intro W; go_simp; (try with_reducible rfl))
          simp only [List.setIfInBounds_toArray, List.set_cons_zero, List.set_cons_succ]
          refine wpAnyR_pure (i := 5) (oi := _) ?v5 rfl rfl (by kernel_rfl) (by decide) (fun _ _ _ h => h) rfl ?hy5 (fun _ => S0.out) ?rest5
          case hy5 => (intro W; go_simp; (try with_reducible rfl))
          simp only [List.setIfInBounds_toArray, List.set_cons_zero, List.set_cons_succ]
          refine wpAnyR_pure (i := 7) (oi := _) ?v7 rfl rfl (by kernel_rfl) (by decide) (fun _ _ _ h => h) rfl ?hy7 (fun _ => S0.out) ?rest7
          case hy7 => (intro W; go_simp; (try with_reducible rfl))
          simp only [List.setIfInBounds_toArray, List.set_cons_zero, List.set_cons_succ]
          refine wpAnyR_one (i := 4) (by kernel_rfl) rfl (fun K hK => ?_)
          go_simp
          refine (FaRel.pick_calls F0.out hgl (by omega) 3 (by omega)).mono ?_
          rintro e w4 ⟨v4, rfl, ⟨x4, rfl⟩, hf4⟩
          have F4 := Lib.hid hf4
          have S4 := Lib.hid (HS1.out _ (hf4.fact.cell 1))
          clear hf4
          refine hK.out _ _ (fun _ => S4.out) ?_
          clear hK K
          try simp only [List.setIfInBounds_toArray, List.set_cons_zero, List.set_cons_succ, Act.put]
          refine wpAnyR_one (i := 6) (by kernel_rfl) rfl (fun K hK => ?_)
          go_simp
          refine (FaRel.pick_calls F4.out hgl (by omega) 3 (by omega)).mono ?_
          rintro e w6 ⟨v6, rfl, ⟨x6, rfl⟩, hf6⟩
          have F6 := Lib.hid hf6
          have S6 := Lib.hid (HS1.out _ (hf6.fact.cell 1))
          clear hf6
          refine hK.out _ _ (fun _ => S6.out) ?_
          clear hK K
          try simp only [List.setIfInBounds_toArray, List.set_cons_zero, List.set_cons_succ, Act.put]
          refine wpAnyR_one (i := 8) (by kernel_rfl) rfl (fun K hK => ?_)
          go_simp
          refine (FaRel.pick_calls F6.out hgl (by omega) 6 (by omega)).mono ?_
          rintro e w8 ⟨v8, rfl, ⟨x8, rfl⟩, hf8⟩
          have F8 := Lib.hid hf8
          have S8 := Lib.hid (HS1.out _ ((hf8.alloc (.cells #[.int .i64 x4, .int .i64 x6, .int .i64 x8] 3)).fact.cell 1))
          clear hf8
          refine hK.out _ _ (fun _ => HS1.out _ (F8.out.fact.cell 1)) ?_
          clear hK K
          try simp only [List.setIfInBounds_toArray, List.set_cons_zero, List.set_cons_succ, Act.put]
          refine wpAnyR_one (i := 9) (by kernel_rfl) rfl (fun K hK => ?_)
          go_simp
          refine hK.out _ _ (fun _ => S8.out) ?_
          clear hK K
          try simp only [List.setIfInBounds_toArray, List.set_cons_zero, List.set_cons_succ, Act.put]
          refine wpAnyR_one (i := 10) (by kernel_rfl) rfl (fun K hK => ?_)
          go_simp
          refine (FaRel.num_calls F8.out hgl (by omega) x4 x6 x8).mono ?_
          rintro e w9 ⟨v9, rfl, ⟨x9, rfl⟩, hf9⟩
          have F9 := Lib.hid hf9
          clear hf9
          refine hK.out _ _ (fun _ => HS1.out _ (F9.out.fact.cell 1)) ?_
          clear hK K
          try simp only [List.setIfInBounds_toArray, List.set_cons_zero, List.set_cons_succ, Act.put]
          refine wpAnyR_one (i := 11) (by kernel_rfl) rfl (fun K hK => ?_)
          go_simp
          refine hK.out _ _ (fun _ => HS1.out _ ((F9.out.alloc _).fact.cell 1)) ?_
          clear hK K
          try simp only [List.setIfInBounds_toArray, List.set_cons_zero, List.set_cons_succ, Act.put]
          refine wpAnyR_one (i := 12) (by kernel_rfl) rfl (fun K hK => ?_)
          refine step_append_lies _ rfl (.tmp 27) (.tmp 37) 23 rfl (w.heap.size + 2) 3 i0 (.int .i64 0) 1 8 Tryz.underlying23 hi0 hz0 hz1 hz2 rfl (by decide) (.slice A xs.length c) xs.length (xs.map (Value.int .i64)) rfl ?c1 ⟨w9.heap.size, 0, none⟩ 1 1 [.int .i64 x9] rfl rfl ?c4 ?c2 (by omega) (by unfold maxLen; omega) (by omega) ?c3 _ rfl ?c5
          case c1 => exact (F9.out.alloc _).own
          case c4 => exact cell_one_new _ _ _
          case c2 => intro u hu; simp at hu; subst hu; rfl
          case c3 => exact (F9.out.alloc _).fact.lt
          case c5 =>
            intro g2 cap w5 hown hgr _ _
            have HST := Lib.hid (FaRel.push (F9.out.alloc _) hgl hgr hown)
            have hkf := FaRel.keepFact (F9.out.alloc _) hgr
            have e1 : w5.cell? ⟨w.heap.size + 1, 1, none⟩ = some (.slice A xs.length c) := hkf.cell 1
            have e2 := hkf.frozen 1
            clear hkf hown hgr
            refine hK.out _ _ (fun _ => HS1.out _ e1) ?_
            clear hK K
            try simp only [List.setIfInBounds_toArray, Act.put]
            refine wpAnyR_pure (i := 13) (oi := _) ?v13 rfl rfl (by kernel_rfl) (by decide) (fun _ _ _ h => h) rfl ?hy13 (fun _ => HS1.out _ e1) ?rest13
            case hy13 => (intro W; go_simp; (try with_reducible rfl))
            try simp only [List.setIfInBounds_toArray, List.set_cons_zero, List.set_cons_succ]
            refine wpAnyR_one (i := 14) (by kernel_rfl) rfl (fun K hK => ?_)
            go_simp
            refine hK.out _ _ (fun hf => absurd hf (by decide)) ?_
            clear hK K
            refine wpAnyR_done (by kernel_rfl) ?_
            go_wp2_with (fail)
            go_roundw
            case rel => exact ⟨xs.length + 1, _, _, _, _, by omega, by go_num, by simp, by omega, HST.out⟩
            case measure => simp [intOf]; omega
        · have hkn : xs.length = m := by omega
          have hdk : decide ((xs.length : Int) < (m : Int)) = false := by simp; omega
          go_wp2_with (fail)
          go_meet
          exact ⟨A, c, ((j : Int), xs), q, by show xs.length ≤ 2; omega, by omega, HR.out⟩
    · have hd : decide ((0 : Int) < ar.length) = false := by simpa using h0
      go_wp2_with (fail)
      go_meet
      exact ⟨none, 0, (0, []), p, by simp, by omega, HS.out⟩
  case rest =>
    obtain ⟨A, c, f, q, hfl, hq, hf⟩ := hcut
    have F0' := Lib.hid hf
    clear hf HS HV
    go_wp2_with (fail)
    refine (FaRel.pick_calls F0'.out hgl (by omega) 40 (by omega)).mono ?_
    rintro e w1 ⟨v1, rfl, ⟨x1, rfl⟩, hf1⟩
    have F1 := Lib.hid hf1
    clear hf1
    go_upto_if 42 with (fail)
    go_cut [] (fun wx => FaNow w wx g bs p 3 20)
    case first =>
      by_cases h1 : x1 = 0
      · subst h1
        go_wp2_with (fail)
        refine (FaRel.pick_calls F1.out hgl (by omega) 3 (by omega)).mono ?_
        rintro e w2 ⟨v2, rfl, ⟨x2, rfl⟩, hf2⟩
        have F2 := Lib.hid hf2
        clear hf2
        by_cases h2 : x2 = 0
        · subst h2
          go_wp2_with (fail)
          refine (FaRel.num_calls F2.out hgl (by omega) (-1) (ar.length : Int) 30).mono ?_
          rintro e w3 ⟨v3, rfl, ⟨x3, rfl⟩, hf3⟩
          have HF := Lib.hid (hf3.pred hgl x3)
          have k0 : w3.cell? ⟨w.heap.size + 1, 0, none⟩ = some (.int .i64 f.1) := hf3.fact.cell 0
          have k1 : w3.frozen? ⟨w.heap.size + 1, 0, none⟩ = false := hf3.fact.frozen 0
          clear hf3
          go_wp2_with (fail)
          go_meet
          exact ⟨A, c, (x3, f.2), _, by show f.2.length ≤ 3; omega, by omega, HF.out⟩
        · have hd2 : (x2 == 0) = false := by simpa using h2
          by_cases h3 : x2 = 1
          · subst h3
            go_upto_region 13 with (fail)
            obtain ⟨SS, hSS⟩ : ∃ SS : World → Prop, SS = (fun W => W.cell? ⟨w.heap.size + 1, 1, none⟩ = some (.slice A f.2.length c)) := ⟨_, rfl⟩
            have HS1 := Lib.hid (show ∀ W, W.cell? ⟨w.heap.size + 1, 1, none⟩ = some (.slice A f.2.length c) → SS W from by rw [hSS]; exact fun _ h => h)
            have HS2 := Lib.hid (show ∀ W, SS W → W.cell? ⟨w.heap.size + 1, 1, none⟩ = some (.slice A f.2.length c) from by rw [hSS]; exact fun _ h => h)
            clear hSS
            have F0 := Lib.hid F2.out.drew
            have S0 := Lib.hid (HS1.out _ (F0.out.fact.cell 1))
            refine wp_region_rel SS 8 9 (by kernel_rfl) rfl ?_
            refine wpAnyR_pure (i := 0) (oi := _) ?v0b rfl rfl (by kernel_rfl) (by decide) (fun _ _ _ h => h) rfl ?hy0b (fun _ => S0.out) ?rest0b
            case hy0b => (intro W; go_simp; (try with_reducible rfl))
            try simp only [List.setIfInBounds_toArray, List.set_cons_zero, List.set_cons_succ]
            refine wpAnyR_take (i := 1) (oi := _) ?v1b rfl rfl (by kernel_rfl) (fun _ _ _ h => h) rfl ?hy1b S0.out ?rest1b
            case hy1b => (intro W hW; have e1 := HS2.out W hW; go_simp; (try with_reducible rfl))
            try simp only [List.setIfInBounds_toArray, List.set_cons_zero, List.set_cons_succ]
            refine wpAnyR_pure (i := 2) (oi := _) ?v2b rfl rfl (by kernel_rfl) (by decide) (fun _ _ _ h => h) rfl ?hy2b (fun _ => S0.out) ?rest2b
            case hy2b => (intro W; go_simp; (try with_reducible rfl))
            try simp only [List.setIfInBounds_toArray, List.set_cons_zero, List.set_cons_succ]
            refine wpAnyR_one (i := 3) (by kernel_rfl) rfl (fun K hK => ?_)
            go_simp
            refine hK.out _ _ (fun _ => HS1.out _ ((F0.out.alloc _).fact.cell 1)) ?_
            clear hK K
            try simp only [List.setIfInBounds_toArray, List.set_cons_zero, List.set_cons_succ, Act.put]
            refine wpAnyR_one (i := 4) (by kernel_rfl) rfl (fun K hK => ?_)
            go_simp
            refine (FaRel.num_calls F0.out hgl (by omega) 0 6 (-1)).mono ?_
            rintro e w9 ⟨v9, rfl, ⟨x9, rfl⟩, hf9⟩
            have F9 := Lib.hid hf9
            clear hf9
            refine hK.out _ _ (fun _ => HS1.out _ (F9.out.fact.cell 1)) ?_
            clear hK K
            try simp only [List.setIfInBounds_toArray, List.set_cons_zero, List.set_cons_succ, Act.put]
            refine wpAnyR_one (i := 5) (by kernel_rfl) rfl (fun K hK => ?_)
            go_simp
            refine hK.out _ _ (fun _ => HS1.out _ ((F9.out.alloc _).fact.cell 1)) ?_
            clear hK K
            try simp only [List.setIfInBounds_toArray, List.set_cons_zero, List.set_cons_succ, Act.put]
            refine wpAnyR_one (i := 6) (by kernel_rfl) rfl (fun K hK => ?_)
            refine step_append_lies _ rfl (.tmp 56) (.tmp 60) 23 rfl (w.heap.size + 2) 3 i0 (.int .i64 0) 1 8 Tryz.underlying23 hi0 hz0 hz1 hz2 rfl (by decide) (.slice A f.2.length c) f.2.length (f.2.map (Value.int .i64)) rfl ?c1b ⟨w9.heap.size, 0, none⟩ 1 1 [.int .i64 x9] rfl rfl ?c4b ?c2b (by omega) (by unfold maxLen; omega) (by omega) ?c3b _ rfl ?c5b
            case c1b => exact (F9.out.alloc _).own
            case c4b => exact cell_one_new _ _ _
            case c2b => intro u hu; simp at hu; subst hu; rfl
            case c3b => exact (F9.out.alloc _).fact.lt
            case c5b =>
              intro g2 cap w5 hown hgr _ _
              have HST := Lib.hid (FaRel.push (P := f.1) (xs := f.2) (F9.out.alloc _) hgl hgr hown)
              have hkf := FaRel.keepFact (F9.out.alloc _) hgr
              have e1 : w5.cell? ⟨w.heap.size + 1, 1, none⟩ = some (.slice A f.2.length c) := hkf.cell 1
              have e2 := hkf.frozen 1
              clear hkf hown hgr
              refine hK.out _ _ (fun _ => HS1.out _ e1) ?_
              clear hK K
              try simp only [List.setIfInBounds_toArray, Act.put]
              refine wpAnyR_pure (i := 7) (oi := _) ?v7b rfl rfl (by kernel_rfl) (by decide) (fun _ _ _ h => h) rfl ?hy7b (fun _ => HS1.out _ e1) ?rest7b
              case hy7b => (intro W; go_simp; (try with_reducible rfl))
              try simp only [List.setIfInBounds_toArray, List.set_cons_zero, List.set_cons_succ]
              refine wpAnyR_one (i := 8) (by kernel_rfl) rfl (fun K hK => ?_)
              go_simp
              refine hK.out _ _ (fun hf => absurd hf (by decide)) ?_
              clear hK K
              refine wpAnyR_done (by kernel_rfl) ?_
              go_wp2_with (fail)
              go_meet
              exact ⟨_, _, (f.1, f.2 ++ [x9]), _, by simp; omega, by omega, HST.out⟩
          · have hd3 : (x2 == 1) = false := by simpa using h3
            have k1 : w2.cell? ⟨w.heap.size + 1, 1, none⟩ = some (.slice A f.2.length c) := F2.out.fact.cell 1
            by_cases hn0 : 0 < f.2.length
            · have hdn : decide ((0 : Int) < f.2.length) = true := by simpa using hn0
              obtain ⟨g2, rfl⟩ := F2.out.form hn0
              go_upto_region 15 with (fail)
              obtain ⟨SS, hSS⟩ : ∃ SS : World → Prop, SS = (fun W => W.cell? ⟨w.heap.size + 1, 1, none⟩ = some (.slice (some ⟨g2, 0, none⟩) f.2.length c)) := ⟨_, rfl⟩
              have HS1 := Lib.hid (show ∀ W, W.cell? ⟨w.heap.size + 1, 1, none⟩ = some (.slice (some ⟨g2, 0, none⟩) f.2.length c) → SS W from by rw [hSS]; exact fun _ h => h)
              have HS2 := Lib.hid (show ∀ W, SS W → W.cell? ⟨w.heap.size + 1, 1, none⟩ = some (.slice (some ⟨g2, 0, none⟩) f.2.length c) from by rw [hSS]; exact fun _ h => h)
              clear hSS
              have F0 := Lib.hid F2.out.drew
              have S0 := Lib.hid (HS1.out _ (F0.out.fact.cell 1))
              have hpos : (0 : Int) < (f.2.length : Int) := by omega
              refine wp_region_rel SS 6 7 (by kernel_rfl) rfl ?_
              refine wpAnyR_pure (i := 0) (oi := _) ?v0d rfl rfl (by kernel_rfl) (by decide) (fun _ _ _ h => h) rfl ?hy0d (fun _ => S0.out) ?rest0d
              case hy0d => (intro W; go_simp; (try with_reducible rfl))
              try simp only [List.setIfInBounds_toArray, List.set_cons_zero, List.set_cons_succ]
              refine wpAnyR_take (i := 1) (oi := _) ?v1d rfl rfl (by kernel_rfl) (fun _ _ _ h => h) rfl ?hy1d S0.out ?rest1d
              case hy1d => (intro W hW; have e1 := HS2.out W hW; go_simp; (try with_reducible rfl))
              try simp only [List.setIfInBounds_toArray, List.set_cons_zero, List.set_cons_succ]
              refine wpAnyR_pure (i := 2) (oi := _) ?v2d rfl rfl (by kernel_rfl) (by decide) (fun _ _ _ h => h) rfl ?hy2d (fun _ => S0.out) ?rest2d
              case hy2d => (intro W; go_simp; (try with_reducible rfl))
              try simp only [List.setIfInBounds_toArray, List.set_cons_zero, List.set_cons_succ]
              refine wpAnyR_one (i := 3) (by kernel_rfl) rfl (fun K hK => ?_)
              go_simp
              refine hK.out _ _ (fun _ => HS1.out _ ((F0.out.alloc _).fact.cell 1)) ?_
              clear hK K
              try simp only [List.setIfInBounds_toArray, List.set_cons_zero, List.set_cons_succ, Act.put]
              refine wpAnyR_one (i := 4) (by kernel_rfl) rfl (fun K hK => ?_)
              go_simp
              refine (FaRel.num_calls F0.out hgl (by omega) 6 (-1) 5).mono ?_
              rintro e w9 ⟨v9, rfl, ⟨x9, rfl⟩, hf9⟩
              have F9 := Lib.hid hf9
              have HST := Lib.hid (hf9.first hgl x9)
              obtain ⟨e1, e2⟩ := hf9.head hn0
              clear hf9
              refine hK.out _ _ (fun _ => HS1.out _ (F9.out.fact.cell 1)) ?_
              clear hK K
              try simp only [List.setIfInBounds_toArray, List.set_cons_zero, List.set_cons_succ, Act.put]
              refine wpAnyR_pure (i := 5) (oi := _) (.pointer (some ⟨g2, 0, none⟩)) rfl rfl (by kernel_rfl) (by decide) (fun _ _ _ h => h) rfl ?hy5d (fun _ => HS1.out _ (F9.out.fact.cell 1)) ?rest5d
              case hy5d => (intro W; go_simp; (try with_reducible rfl))
              try simp only [List.setIfInBounds_toArray, List.set_cons_zero, List.set_cons_succ]
              refine wpAnyR_one (i := 6) (by kernel_rfl) rfl (fun K hK => ?_)
              go_simp
              refine hK.out _ _ (fun hf => absurd hf (by decide)) ?_
              clear hK K
              refine wpAnyR_done (by kernel_rfl) ?_
              go_wp2_with (fail)
              go_meet
              exact ⟨_, _, (f.1, f.2.set 0 x9), _, by simp; omega, by omega, HST.out⟩
            · have hdn : decide ((0 : Int) < f.2.length) = false := by simpa using hn0
              go_wp2_with (fail)
              go_meet
              exact ⟨A, c, f, _, by omega, by omega, F2.out⟩
      · have hd1 : (x1 == 0) = false := by simpa using h1
        go_wp2_with (fail)
        go_meet
        exact ⟨A, c, f, _, by omega, by omega, F1.out⟩
    case rest =>
      obtain ⟨A, c, f, q, hfl, hq, hf⟩ := hcut
      have k0 : wc.cell? ⟨w.heap.size + 1, 0, none⟩ = some (.int .i64 f.1) := hf.fact.cell 0
      have k1 : wc.cell? ⟨w.heap.size + 1, 1, none⟩ = some (.slice A f.2.length c) := hf.fact.cell 1
      have j0 : wc.cell? ⟨w.heap.size, 0, none⟩ = some (.int .i64 0) := hf.res.cell 0
      have j1 : wc.cell? ⟨w.heap.size, 1, none⟩ = some (.slice none 0 0) := hf.res.cell 1
      have l0 := hf.res.frozen 0
      have l1 := hf.res.frozen 1
      obtain ⟨hd0, hd1, hd2, hd3⟩ := hf.done hgl
      have HD := Lib.hid (And.intro hd0 (And.intro hd1 hd2))
      obtain ⟨W, hW⟩ : ∃ W, W = (wc.setCell ⟨w.heap.size, 0, none⟩ (.int .i64 f.1)).setCell ⟨w.heap.size, 1, none⟩ (.slice A f.2.length c) := ⟨_, rfl⟩
      rw [← hW] at HD
      have d0 : W.cell? ⟨w.heap.size, 0, none⟩ = some (.int .i64 f.1) := by rw [hW, hd3.cell 0]; rfl
      have d1 : W.cell? ⟨w.heap.size, 1, none⟩ = some (.slice A f.2.length c) := by rw [hW, hd3.cell 1]; rfl
      have HW := Lib.hid hW
      clear hW hd0 hd1 hd2 hd3 hf
      go_wp2_with (fail)
      rw [← HW.out]
      refine bodyPost_ret (v := .agg #[.int .i64 f.1, .slice A f.2.length c]) (by simp [results, Tryz.results154, go_sem, d0, d1]) rfl ?_
      obtain ⟨h1, h2, h3⟩ := HD.out
      exact ⟨A, c, f, q, rfl, hfl, by omega, h1, h2, h3⟩

end Go.Proofs.YtokmmloakahkhaaGreatDoor
/-
  A fact drawn, its arguments in a row of the call's own.
-/
namespace Go.Proofs.YtokmmloakahkhaaGreatDoor
open Go.RowKit

theorem OwnInts.offG {w W : World} {lo hi g : Nat} {v : Value} {xs : List Int} (h : OwnInts w lo hi v xs) (k : Only g (g + 1) w W) (hg : g < lo) : OwnInts W lo hi v xs :=
  h.kept fun b hb => k.block b (h.1.lt b hb).2 (.inr (by have := (h.1.lt b hb).1; omega))
theorem DrRel.ints {w wr : World} {g : Nat} {bs : List Nat} {p k : Nat} {A : Option Addr} {c : Nat} {xs : List Int} (h : DrRel w wr g bs p k A c xs) : OwnInts wr w.heap.size wr.heap.size (.slice A k c) xs :=
  ⟨by rw [h.len]; exact h.own, fun b hb => (h.own.lt b hb).2⟩

theorem l1Fact_own (g : Nat) (bs : List Nat) (p lo hi : Nat) (v : Value) (ar : List Int) (w : World) (h : Rdr w g bs p) (hp : p ≤ 1048576) (ha : OwnInts w lo hi v ar) (hg : g < lo) (hh : hi ≤ w.heap.size) (hr : ∀ x ∈ ar, 0 ≤ x ∧ x ≤ 2) (hl : ar.length ≤ 1048576) :
    Calls Tryz.prog 154 #[.pointer (some ⟨g, 0, none⟩), v] w fun e w' => ∃ (A : Option Addr) (c : Nat) (f : LFact) (q : Nat), e = .returned (.agg #[.int .i64 f.1, .slice A f.2.length c]) ∧ f.2.length ≤ 3 ∧ q ≤ p + 20 ∧
      OwnInts w' w.heap.size w'.heap.size (.slice A f.2.length c) f.2 ∧ Rdr w' g bs q ∧ Only g (g + 1) w w' :=
  (l1Fact_any g bs p v ar w h hp (ha.rd.more hh) (fun _ k => (ha.offG k hg).rd.more (Nat.le_trans hh k.size)) hr hl).mono fun _ _ ⟨A, c, f, q, he, hf, hq, ho, hR, hO⟩ =>
    ⟨A, c, f, q, he, hf, hq, (show OwnInts _ _ _ _ _ from ⟨ho, fun b hb => (ho.lt b hb).2⟩).mono (Nat.le_add_right _ 2) (Nat.le_refl _), hR, hO⟩

end Go.Proofs.YtokmmloakahkhaaGreatDoor
/-
  A row of integers that a draw makes: the words; the walk of l3Draw.
-/
namespace Go.Proofs.YtokmmloakahkhaaGreatDoor
open Go.RowKit

/-- What a draw of integers keeps: the row lies from w on, the reader is read on. -/
structure DrI (w wr : World) (g : Nat) (bs : List Nat) (q : Nat) (A : Option Addr) (c : Nat) (xs : List Int) : Prop where
  own : OwnInts wr w.heap.size wr.heap.size (.slice A xs.length c) xs
  rdr : Rdr wr g bs q
  only : Only g (g + 1) w wr
section
variable {w wr w' w4 : World} {g q : Nat} {bs : List Nat} {A : Option Addr} {c : Nat} {xs : List Int}
theorem DrI.empty (h : Rdr w g bs q) : DrI w (w.alloc (.cells #[] 3)) g bs q (some ⟨w.heap.size, 0, none⟩) 0 [] :=
  ⟨⟨World.ownsRow_made w #[] 0 (Nat.le_refl _) (by decide) rfl, fun b hb => by simp [Value.ownBlock] at hb; subst hb; simp⟩, h.below (below1 _ _) h.lt, Only.of_below (below1 _ _)⟩
theorem DrI.on (h : DrI w wr g bs q A c xs) (hb : Below wr.heap.size wr w') : DrI w w' g bs q A c xs :=
  ⟨(h.own.below hb (Nat.le_refl _)).mono (Nat.le_refl _) hb.size, h.rdr.below hb h.rdr.lt, h.only.trans (Only.of_below hb)⟩
theorem DrI.pick (h : DrI w wr g bs q A c xs) (hg : g < w.heap.size) (hk : Picked wr w' g bs q) : DrI w w' g bs (q + 1) A c xs :=
  ⟨(h.own.only hk.2 (.inr (by omega))).mono (Nat.le_refl _) hk.2.size, hk.1, h.only.trans hk.2⟩
theorem DrI.low (h : DrI w wr g bs q A c xs) (hg : wr.grownBy w' (Value.slice A xs.length c).ownBlock) : ∀ b, b < w.heap.size → w'.heap[b]? = wr.heap[b]? := fun b hb =>
  hg.block b (by have := h.only.size; omega) (fun e => by have := (h.own.lt e.symm).1; omega)
theorem DrI.push {g2 cap : Nat} {x : Int} {o : Obj} (h : DrI w wr g bs q A c xs) (hgw : g < w.heap.size) (hg : (wr.alloc o).grownBy w4 (Value.slice A xs.length c).ownBlock)
    (hown : w4.ownsRow w.heap.size 3 1 (.slice (some ⟨g2, 0, none⟩) (xs.length + 1) cap) (xs.length + 1) (xs.map (Value.int .i64) ++ [.int .i64 x])) : DrI w w4 g bs q (some ⟨g2, 0, none⟩) cap (xs ++ [x]) := by
  have hg2 := grown_from_alloc hg
  have hlow := h.low hg2
  have hl : (xs ++ [x]).length = xs.length + 1 := by simp
  refine ⟨?_, h.rdr.same fun k hk => hlow k (by omega), ?_⟩
  · rw [hl]
    exact ⟨by simpa using hown, fun b hb => (hown.lt b hb).2⟩
  · exact ⟨hg2.os.trans h.only.os, hg2.tape.trans h.only.tape, hg2.output.trans h.only.output, Nat.le_trans h.only.size hg2.size, fun b hb hn => (hlow b hb).trans (h.only.block b hb hn)⟩
theorem DrI.form (h : DrI w wr g bs q A c xs) (hn : 0 < xs.length) : ∃ b, A = some ⟨b, 0, none⟩ ∧ w.heap.size ≤ b := by
  rcases h.own.1.2 with ⟨e, h0⟩ | ⟨b, cap, cur, e, hb, _⟩
  · omega
  · injection e with e _ _
    exact ⟨b, e, hb⟩
theorem DrI.cap (h : DrI w wr g bs q A c xs) : xs.length ≤ c := by
  obtain ⟨A', c', e, hc, _⟩ := h.own.rd
  injection e with _ _ e
  omega
theorem DrI.cell {b : Nat} (h : DrI w wr g bs q (some ⟨b, 0, none⟩) c xs) {j : Nat} (hj : j < xs.length) : wr.cell? ⟨b, j, none⟩ = some (.int .i64 xs[j]) ∧ wr.frozen? ⟨b, j, none⟩ = false := by
  refine ⟨?_, h.own.1.frozenAt j⟩
  rw [h.own.1.cellAt j (by omega)]
  simp [hj]
theorem DrI.set {b : Nat} (h : DrI w wr g bs q (some ⟨b, 0, none⟩) c xs) (hgw : g < w.heap.size) {j : Nat} (hj : j < xs.length) (x : Int) : DrI w (wr.setCell ⟨b, j, none⟩ (.int .i64 x)) g bs q (some ⟨b, 0, none⟩) c (xs.set j x) := by
  have hb := (h.own.lt (g := b) rfl)
  refine ⟨?_, h.rdr.same fun k hk => Below.heap_setCell _ _ _ _ (by show k ≠ b; omega), ⟨h.only.os, h.only.tape, h.only.output, by simpa using h.only.size, fun k hk hn => (Below.heap_setCell _ _ _ _ (by show k ≠ b; omega)).trans (h.only.block k hk hn)⟩⟩
  have := h.own.store rfl hj x
  simpa using this
theorem DrI.take {b n : Nat} (h : DrI w wr g bs q (some ⟨b, 0, none⟩) c xs) (hn : n ≤ xs.length) : DrI w wr g bs q (some ⟨b, 0, none⟩) c (xs.take n) := by
  refine ⟨?_, h.rdr, h.only⟩
  have hl : (xs.take n).length = n := by rw [List.length_take]; omega
  rw [hl]
  refine ⟨⟨by first | (simp; done) | (simp; omega), .inr ?_⟩, h.own.2⟩
  rcases h.own.1.2 with ⟨e, _⟩ | ⟨b', cap, cur, e, hb, hg, hnc, hcm, hcs, ht⟩
  · cases e
  · injection e with e1 e2 e3
    injection e1 with e1
    injection e1 with e1 _ _
    subst e1
    subst e3
    refine ⟨b, c, cur, by rw [hl], hb, hg, by omega, hcm, hcs, ?_⟩
    rw [hl]
    have := congrArg (List.take n) ht
    rw [List.take_take] at this
    simp only [Nat.mul_one] at this ⊢
    rw [show min n xs.length = n by omega] at this
    rw [this, List.map_take]
theorem DrI.same (h : DrI w wr g bs q A c xs) : RdInts wr wr.heap.size (.slice A xs.length c) xs := h.own.rd
end

end Go.Proofs.YtokmmloakahkhaaGreatDoor
/-
  An atom drawn: the words; the walk of l2Draw.
-/
namespace Go.Proofs.YtokmmloakahkhaaGreatDoor
open Go.RowKit

/-- What l2Draw keeps: r is the result's block, r + 1 the fact's. -/
structure AoRel (w wr : World) (g : Nat) (bs : List Nat) (p : Nat) (A : Option Addr) (c : Nat) (f : LFact) : Prop where
  res : Blk wr w.heap.size 35 #[.int .i64 0, .slice none 0 0]
  fact : Blk wr (w.heap.size + 1) 35 #[.int .i64 f.1, .slice A f.2.length c]
  own : wr.ownsRow (w.heap.size + 2) 3 1 (.slice A f.2.length c) f.2.length (f.2.map (Value.int .i64))
  rdr : Rdr wr g bs p
  only : Only g (g + 1) w wr

theorem AoRel.start {w : World} {g : Nat} {bs : List Nat} {p : Nat} (h : Rdr w g bs p) :
    AoRel w ((w.alloc (Obj.cells #[Value.int IntKind.i64 0, Value.slice none 0 0] 35)).alloc (Obj.cells #[Value.int IntKind.i64 0, Value.slice none 0 0] 35)) g bs p none 0 (0, []) :=
  ⟨(Blk.new w _ _).alloc _, by simpa using Blk.new (w.alloc (Obj.cells #[Value.int IntKind.i64 0, Value.slice none 0 0] 35)) 35 #[.int .i64 0, .slice none 0 0], World.ownsRow_nil _ _ _ _, h.below (below2 w _ _) h.lt, Only.of_below (below2 w _ _)⟩

/-- A pick keeps the rest. -/
theorem AoRel.pick {w wr w' : World} {g : Nat} {bs : List Nat} {p : Nat} {A : Option Addr} {c : Nat} {f : LFact} (h : AoRel w wr g bs p A c f) (hg : g < w.heap.size) (hk : Picked wr w' g bs p) : AoRel w w' g bs (p + 1) A c f :=
  ⟨h.res.only hk.2 (by omega), h.fact.only hk.2 (by omega), ownsRow_only h.own (fun b hb => hk.2.block b (h.own.lt b hb).2 (by have := (h.own.lt b hb).1; omega)), hk.1, h.only.trans hk.2⟩

/-- The predicate stored. -/
theorem AoRel.pred {w wr : World} {g : Nat} {bs : List Nat} {p : Nat} {A : Option Addr} {c : Nat} {f : LFact} (h : AoRel w wr g bs p A c f) (hg : g < w.heap.size) (x : Int) : AoRel w (wr.setCell ⟨w.heap.size + 1, 0, none⟩ (.int .i64 x)) g bs p A c (x, f.2) :=
  ⟨h.res.far (by show w.heap.size ≠ w.heap.size + 1; omega) _, h.fact.set_ 0 _, ownsRow_only h.own (fun b hb => Below.heap_setCell _ _ _ _ (by have := (h.own.lt b hb).1; show b ≠ w.heap.size + 1; omega)),
    h.rdr.same fun k hk => Below.heap_setCell _ _ _ _ (by show k ≠ w.heap.size + 1; omega),
    ⟨h.only.os, h.only.tape, h.only.output, by simpa using h.only.size, fun k hk hn => (Below.heap_setCell _ _ _ _ (by show k ≠ w.heap.size + 1; omega)).trans (h.only.block k hk hn)⟩⟩

/-- A new block keeps all. -/
theorem AoRel.alloc {w wr : World} {g : Nat} {bs : List Nat} {p : Nat} {A : Option Addr} {c : Nat} {f : LFact} (h : AoRel w wr g bs p A c f) (o : Obj) : AoRel w (wr.alloc o) g bs p A c f :=
  ⟨h.res.alloc o, h.fact.alloc o, h.own.alloc o, h.rdr.below (below1 wr o) h.rdr.lt, h.only.trans (Only.of_below (below1 wr o))⟩
theorem AoRel.drewN {w wr : World} {g : Nat} {bs : List Nat} {p : Nat} {A : Option Addr} {c : Nat} {f : LFact} (h : AoRel w wr g bs p A c f) (n : Nat) : AoRel w (wr.drewN n) g bs p A c f :=
  ⟨h.res, h.fact, h.own, h.rdr, ⟨h.only.os, h.only.tape, h.only.output, h.only.size, h.only.block⟩⟩

theorem AoRel.drew {w wr : World} {g : Nat} {bs : List Nat} {p : Nat} {A : Option Addr} {c : Nat} {f : LFact} (h : AoRel w wr g bs p A c f) : AoRel w wr.drew g bs p A c f :=
  ⟨h.res, h.fact, h.own, h.rdr, ⟨h.only.os, h.only.tape, h.only.output, h.only.size, h.only.block⟩⟩

theorem AoRel.push {w wr w4 : World} {g : Nat} {bs : List Nat} {p : Nat} {A : Option Addr} {c : Nat} {P : Int} {xs : List Int} (h : AoRel w wr g bs p A c (P, xs)) (hg : g < w.heap.size)
    (hgr : wr.grownBy w4 (Value.slice A xs.length c).ownBlock) {g2 cap : Nat} {x : Int} (hown : w4.ownsRow (w.heap.size + 2) 3 1 (.slice (some ⟨g2, 0, none⟩) (xs.length + 1) cap) (xs.length + 1) (xs.map (Value.int .i64) ++ [.int .i64 x])) :
    AoRel w (w4.setCell ⟨w.heap.size + 1, 1, none⟩ (.slice (some ⟨g2, 0, none⟩) (xs.length + 1) cap)) g bs p (some ⟨g2, 0, none⟩) cap (P, xs ++ [x]) := by
  have hs := h.fact.lt
  have hlow : ∀ b, b < w.heap.size + 2 → w4.heap[b]? = wr.heap[b]? := fun b hb => hgr.block b (by omega) (fun e => by have := (h.own.lt b e.symm).1; omega)
  have hlow2 : ∀ b, b < w.heap.size + 1 → (w4.setCell ⟨w.heap.size + 1, 1, none⟩ (.slice (some ⟨g2, 0, none⟩) (xs.length + 1) cap)).heap[b]? = wr.heap[b]? := fun b hb =>
    (Below.heap_setCell _ _ _ _ (by show b ≠ w.heap.size + 1; omega)).trans (hlow b (by omega))
  refine ⟨(hlow2 _ (by omega)).trans h.res, ?_, ?_, h.rdr.same fun k hk => hlow2 k (by omega), ⟨hgr.os.trans h.only.os, hgr.tape.trans h.only.tape, hgr.output.trans h.only.output, Nat.le_trans h.only.size (Nat.le_trans hgr.size (by simp)), fun k hk hn => (hlow2 k (by omega)).trans (h.only.block k hk hn)⟩⟩
  · have := (show Blk w4 (w.heap.size + 1) 35 _ from (hlow _ (by omega)).trans h.fact).set_ 1 (.slice (some ⟨g2, 0, none⟩) (xs.length + 1) cap)
    simpa using this
  · simpa using ownsRow_only hown (fun b hb => Below.heap_setCell _ _ _ _ (by have := (hown.lt b hb).1; show b ≠ w.heap.size + 1; omega))

theorem AoRel.keepFact {w wr w4 : World} {g : Nat} {bs : List Nat} {p : Nat} {A : Option Addr} {c : Nat} {f : LFact} (h : AoRel w wr g bs p A c f) (hgr : wr.grownBy w4 (Value.slice A f.2.length c).ownBlock) : Blk w4 (w.heap.size + 1) 35 #[.int .i64 f.1, .slice A f.2.length c] :=
  (hgr.block _ h.fact.lt (fun e => by have := (h.own.lt _ e.symm).1; omega)).trans h.fact

/-- A row of one or more begins at its block. -/
theorem AoRel.form {w W : World} {g : Nat} {bs : List Nat} {q : Nat} {A : Option Addr} {c : Nat} {f : LFact} (h : AoRel w W g bs q A c f) (hn : 0 < f.2.length) : ∃ g2, A = some ⟨g2, 0, none⟩ := by
  obtain ⟨g2, cap, e, _⟩ := h.own.form hn
  injection e with e1 _ _
  exact ⟨g2, e1⟩
theorem AoRel.head {w W : World} {g : Nat} {bs : List Nat} {q g2 c : Nat} {f : LFact} (h : AoRel w W g bs q (some ⟨g2, 0, none⟩) c f) (hn : 0 < f.2.length) : W.cell? ⟨g2, 0, none⟩ = some (.int .i64 (f.2[0]'hn)) ∧ W.frozen? ⟨g2, 0, none⟩ = false := by
  refine ⟨?_, h.own.frozenAt 0⟩
  rw [h.own.cellAt 0 (by omega)]
  simp [hn]
/-- The first place is set anew. -/
theorem AoRel.first {w W : World} {g : Nat} {bs : List Nat} {q g2 c : Nat} {f : LFact} (h : AoRel w W g bs q (some ⟨g2, 0, none⟩) c f) (hg : g < w.heap.size) (x : Int) :
    AoRel w (W.setCell ⟨g2, 0, none⟩ (.int .i64 x)) g bs q (some ⟨g2, 0, none⟩) c (f.1, f.2.set 0 x) := by
  have hb := (h.own.lt g2 rfl).1
  have hs := h.own.stored 0 (.int .i64 x)
  refine ⟨h.res.far (by show w.heap.size ≠ g2; omega) _, ?_, ?_, h.rdr.same fun k hk => Below.heap_setCell _ _ _ _ (by show k ≠ g2; omega),
    ⟨h.only.os, h.only.tape, h.only.output, by simpa using h.only.size, fun k hk hn => (Below.heap_setCell _ _ _ _ (by show k ≠ g2; omega)).trans (h.only.block k hk hn)⟩⟩
  · simpa using h.fact.far (p := ⟨g2, 0, none⟩) (by show w.heap.size + 1 ≠ g2; omega) (.int .i64 x)
  · have := hs.1
    rw [← List.map_set] at this
    simpa using this
/-- The result is laid. -/
theorem AoRel.done {w W : World} {g : Nat} {bs : List Nat} {q : Nat} {A : Option Addr} {c : Nat} {f : LFact} (h : AoRel w W g bs q A c f) (hg : g < w.heap.size) :
    ((W.setCell ⟨w.heap.size, 0, none⟩ (.int .i64 f.1)).setCell ⟨w.heap.size, 1, none⟩ (.slice A f.2.length c)).ownsRow (w.heap.size + 2) 3 1 (.slice A f.2.length c) f.2.length (f.2.map (Value.int .i64)) ∧
    Rdr ((W.setCell ⟨w.heap.size, 0, none⟩ (.int .i64 f.1)).setCell ⟨w.heap.size, 1, none⟩ (.slice A f.2.length c)) g bs q ∧
    Only g (g + 1) w ((W.setCell ⟨w.heap.size, 0, none⟩ (.int .i64 f.1)).setCell ⟨w.heap.size, 1, none⟩ (.slice A f.2.length c)) ∧
    Blk ((W.setCell ⟨w.heap.size, 0, none⟩ (.int .i64 f.1)).setCell ⟨w.heap.size, 1, none⟩ (.slice A f.2.length c)) w.heap.size 35 #[.int .i64 f.1, .slice A f.2.length c] := by
  have hb : ∀ k, k ≠ w.heap.size → ((W.setCell ⟨w.heap.size, 0, none⟩ (.int .i64 f.1)).setCell ⟨w.heap.size, 1, none⟩ (.slice A f.2.length c)).heap[k]? = W.heap[k]? := fun k hk =>
    (Below.heap_setCell _ _ _ _ (by show k ≠ w.heap.size; exact hk)).trans (Below.heap_setCell _ _ _ _ (by show k ≠ w.heap.size; exact hk))
  refine ⟨ownsRow_only h.own (fun b hb' => hb b (by have := (h.own.lt b hb').1; omega)), h.rdr.same fun k hk => hb k (by omega), ⟨h.only.os, h.only.tape, h.only.output, by simpa using h.only.size, fun k hk hn => (hb k (by omega)).trans (h.only.block k hk hn)⟩, ?_⟩
  have := (h.res.set_ 0 (.int .i64 f.1)).set_ 1 (.slice A f.2.length c)
  simpa using this


theorem AoRel.startAt {w : World} {g : Nat} {bs : List Nat} {p : Nat} (h : Rdr w g bs p) (x : Int) :
    AoRel w ((w.alloc (Obj.cells #[Value.int IntKind.i64 0, Value.slice none 0 0] 35)).alloc (Obj.cells #[Value.int IntKind.i64 x, Value.slice none 0 0] 35)) g bs p none 0 (x, []) :=
  ⟨(Blk.new w _ _).alloc _, by simpa using Blk.new (w.alloc (Obj.cells #[Value.int IntKind.i64 0, Value.slice none 0 0] 35)) 35 #[.int .i64 x, .slice none 0 0], World.ownsRow_nil _ _ _ _, h.below (below2 w _ _) h.lt, Only.of_below (below2 w _ _)⟩

set_option maxHeartbeats 4000000 in
set_option maxRecDepth 100000 in
theorem l2Draw_any (g : Nat) (bs : List Nat) (p lo hi j m n : Nat) (v : Value) (ar : List Int) (w : World) (h : Rdr w g bs p) (hp : p ≤ 1048576) (ha : OwnInts w lo hi v ar) (hg : g < lo) (hh : hi ≤ w.heap.size) (hj : j < ar.length) (hm : ar[j] = (m : Int)) (hm2 : m ≤ 2) (hl : ar.length ≤ 1048576) (hn : n ≤ 1048576) :
    Calls Tryz.prog 188 #[.pointer (some ⟨g, 0, none⟩), v, .int .i64 j, .int .i64 n] w fun e w' => ∃ (A : Option Addr) (c : Nat) (xs : List Int) (q : Nat), e = .returned (.agg #[.int .i64 j, .slice A xs.length c]) ∧ xs.length ≤ 2 ∧ q ≤ p + 6 ∧
      OwnInts w' w.heap.size w'.heap.size (.slice A xs.length c) xs ∧ Rdr w' g bs q ∧ Only g (g + 1) w w' := by
  obtain ⟨i0, hi0, hz0, hz1, hz2⟩ := info_parts Tryz.infoInt
  have hgl := h.lt
  have HOW := Lib.hid ha
  have HM := Lib.hid hm
  have HS := Lib.hid (AoRel.startAt h (j : Int))
  obtain ⟨A0, c0, hv0⟩ := ha.form
  subst hv0
  clear h ha hm
  go_enter Tryz.func188, Tryz.ntmps188
  go_wp2_with (fail)
  go_loopw [10] (fun i wr => ∃ (k : Nat) (A : Option Addr) (c : Nat) (xs : List Int) (q : Nat), k ≤ m ∧ i = .int .i64 k ∧ xs.length = k ∧ q ≤ p + 3 * k ∧ AoRel w wr g bs q A c ((j : Int), xs)) (fun i _ => m - (intOf i).toNat)
  case atStart => exact ⟨0, none, 0, [], p, Nat.zero_le _, rfl, rfl, by omega, HS.out⟩
  case round =>
    obtain ⟨k, A, c, xs, q, hk, rfl, hxl, hq, hfr⟩ := hrel
    have HXL := Lib.hid hxl
    have hxl2 : xs.length ≤ 2 := by omega
    have how := HOW.out.only hfr.only (.inr (by omega))
    obtain ⟨A', c', e0, hc', hcell⟩ := how.rd
    injection e0 with e1 e3 e2
    clear e3
    subst e1
    subst e2
    obtain ⟨b, o, rfl, hbB, hx⟩ := hcell (by omega)
    have k3 : wr.cell? ⟨b, o + j, none⟩ = some (.int .i64 (m : Int)) := by rw [hx j hj, HM.out]
    have HR := Lib.hid hfr
    clear hcell hx hfr how hxl
    by_cases hlt : k < m
    · go_wp2_with (fail)
      refine (pick_any g bs q 3 _ HR.out.rdr (by omega) (by omega)).mono ?_
      rintro e w1 ⟨⟨x1, rfl, _⟩, hp1⟩
      have H1 := Lib.hid (HR.out.pick hgl hp1)
      clear hp1
      by_cases hn0 : 0 < n
      · have hnb : decide ((0 : Int) < (n : Int)) = true := by simpa using hn0
        go_wp2_with (fail)
        refine (pick_any g bs (q + 1) 5 _ H1.out.rdr (by omega) (by omega)).mono ?_
        rintro e w2 ⟨⟨x2, rfl, _⟩, hp2⟩
        have H2 := Lib.hid (H1.out.pick hgl hp2)
        clear hp2
        by_cases hx2 : 0 < x2
        · have hxb : decide (0 < x2) = true := by simpa using hx2
          go_wp2_with (fail)
          refine (pick_any g bs (q + 1 + 1) n _ H2.out.rdr (by omega) (by omega)).mono ?_
          rintro e w3 ⟨⟨x3, rfl, hx3⟩, hp3⟩
          have hx3r : 0 ≤ x3 ∧ x3 < n := hx3.1 (by omega)
          obtain ⟨wS, rfl⟩ : ∃ wS, wS = w3 := ⟨_, rfl⟩
          have H3 := Lib.hid (H2.out.pick hgl hp3)
          have hw3 : IntKind.i64.wrap (-1 - x3) = -1 - x3 := by
            unfold IntKind.wrap
            simp [IntKind.bits, IntKind.signed] <;> omega
          clear hp3 hx3
          have a1 : wS.cell? ⟨w.heap.size + 1, 1, none⟩ = some (.slice A xs.length c) := H3.out.fact.cell 1
          go_wp2_with (at_builtin; refine wpList_append_lies _ rfl (.tmp 36) (.tmp 38) 23 rfl (w.heap.size + 2) 3 i0 (.int .i64 0) 1 8 Tryz.underlying23 hi0 hz0 hz1 hz2 rfl (by decide) (.slice A xs.length c) xs.length (xs.map (Value.int .i64)) rfl ?c1 ⟨wS.heap.size, 0, none⟩ 1 1 [.int .i64 (-1 - x3)] rfl rfl (cell_one_new _ _ _) ?c2 (by omega) (by unfold maxLen; omega) (by omega) ?c3 _ rfl ?_)
          case c1 => exact (H3.out.alloc _).own
          case c2 => intro u hu; simp at hu; subst hu; rfl
          case c3 => exact (H3.out.alloc _).fact.lt
          intro g2 cap w5 hown hgr _ _
          have HST := Lib.hid (AoRel.push (H3.out.alloc _) hgl hgr hown)
          have hkf := AoRel.keepFact (H3.out.alloc _) hgr
          have e1 : w5.cell? ⟨w.heap.size + 1, 1, none⟩ = some (.slice A xs.length c) := hkf.cell 1
          have e2 := hkf.frozen 1
          clear hkf hown hgr
          go_wp2_with (fail)
          go_roundw
          case rel => exact ⟨k + 1, _, _, xs ++ [(-1 - x3)], q + 1 + 1 + 1, by omega, by go_num, by simp; exact HXL.out, by omega, by simpa using HST.out⟩
          case measure => simp [intOf]; omega
        · have hxb : decide (0 < x2) = false := by simpa using hx2
          obtain ⟨wS, rfl⟩ : ∃ wS, wS = w2 := ⟨_, rfl⟩
          have a1 : wS.cell? ⟨w.heap.size + 1, 1, none⟩ = some (.slice A xs.length c) := H2.out.fact.cell 1
          go_wp2_with (at_builtin; refine wpList_append_lies _ rfl (.tmp 36) (.tmp 38) 23 rfl (w.heap.size + 2) 3 i0 (.int .i64 0) 1 8 Tryz.underlying23 hi0 hz0 hz1 hz2 rfl (by decide) (.slice A xs.length c) xs.length (xs.map (Value.int .i64)) rfl ?c1 ⟨wS.heap.size, 0, none⟩ 1 1 [.int .i64 x1] rfl rfl (cell_one_new _ _ _) ?c2 (by omega) (by unfold maxLen; omega) (by omega) ?c3 _ rfl ?_)
          case c1 => exact (H2.out.alloc _).own
          case c2 => intro u hu; simp at hu; subst hu; rfl
          case c3 => exact (H2.out.alloc _).fact.lt
          intro g2 cap w5 hown hgr _ _
          have HST := Lib.hid (AoRel.push (H2.out.alloc _) hgl hgr hown)
          have hkf := AoRel.keepFact (H2.out.alloc _) hgr
          have e1 : w5.cell? ⟨w.heap.size + 1, 1, none⟩ = some (.slice A xs.length c) := hkf.cell 1
          have e2 := hkf.frozen 1
          clear hkf hown hgr
          go_wp2_with (fail)
          go_roundw
          case rel => exact ⟨k + 1, _, _, xs ++ [x1], q + 1 + 1, by omega, by go_num, by simp; exact HXL.out, by omega, by simpa using HST.out⟩
          case measure => simp [intOf]; omega
      · have hnb : decide ((0 : Int) < (n : Int)) = false := by simpa using hn0
        obtain ⟨wS, rfl⟩ : ∃ wS, wS = w1 := ⟨_, rfl⟩
        have a1 : wS.cell? ⟨w.heap.size + 1, 1, none⟩ = some (.slice A xs.length c) := H1.out.fact.cell 1
        go_wp2_with (at_builtin; refine wpList_append_lies _ rfl (.tmp 36) (.tmp 38) 23 rfl (w.heap.size + 2) 3 i0 (.int .i64 0) 1 8 Tryz.underlying23 hi0 hz0 hz1 hz2 rfl (by decide) (.slice A xs.length c) xs.length (xs.map (Value.int .i64)) rfl ?c1 ⟨wS.heap.size, 0, none⟩ 1 1 [.int .i64 x1] rfl rfl (cell_one_new _ _ _) ?c2 (by omega) (by unfold maxLen; omega) (by omega) ?c3 _ rfl ?_)
        case c1 => exact (H1.out.alloc _).own
        case c2 => intro u hu; simp at hu; subst hu; rfl
        case c3 => exact (H1.out.alloc _).fact.lt
        intro g2 cap w5 hown hgr _ _
        have HST := Lib.hid (AoRel.push (H1.out.alloc _) hgl hgr hown)
        have hkf := AoRel.keepFact (H1.out.alloc _) hgr
        have e1 : w5.cell? ⟨w.heap.size + 1, 1, none⟩ = some (.slice A xs.length c) := hkf.cell 1
        have e2 := hkf.frozen 1
        clear hkf hown hgr
        go_wp2_with (fail)
        go_roundw
        case rel => exact ⟨k + 1, _, _, xs ++ [x1], q + 1, by omega, by go_num, by simp; exact HXL.out, by omega, by simpa using HST.out⟩
        case measure => simp [intOf]; omega
    · have hkn : xs.length = m := by have := HXL.out; omega
      have hf := HR.out
      have q0 : wr.cell? ⟨w.heap.size + 1, 0, none⟩ = some (.int .i64 (j : Int)) := hf.fact.cell 0
      have q1 : wr.cell? ⟨w.heap.size + 1, 1, none⟩ = some (.slice A xs.length c) := hf.fact.cell 1
      have j0 : wr.cell? ⟨w.heap.size, 0, none⟩ = some (.int .i64 0) := hf.res.cell 0
      have j1 : wr.cell? ⟨w.heap.size, 1, none⟩ = some (.slice none 0 0) := hf.res.cell 1
      have l0 := hf.res.frozen 0
      have l1 := hf.res.frozen 1
      obtain ⟨hd0, hd1, hd2, hd3⟩ := hf.done hgl
      have HD := Lib.hid (And.intro hd0 (And.intro hd1 hd2))
      obtain ⟨W, hW⟩ : ∃ W, W = (wr.setCell ⟨w.heap.size, 0, none⟩ (.int .i64 (j : Int))).setCell ⟨w.heap.size, 1, none⟩ (.slice A xs.length c) := ⟨_, rfl⟩
      have HD := Lib.hid (show W.ownsRow (w.heap.size + 2) 3 1 (.slice A xs.length c) xs.length (xs.map (Value.int .i64)) ∧ Rdr W g bs q ∧ Only g (g + 1) w W from by rw [hW]; exact HD.out)
      have d0 : W.cell? ⟨w.heap.size, 0, none⟩ = some (.int .i64 (j : Int)) := by rw [hW]; exact hd3.cell 0
      have d1 : W.cell? ⟨w.heap.size, 1, none⟩ = some (.slice A xs.length c) := by rw [hW]; exact hd3.cell 1
      have HW := Lib.hid hW
      clear hW hd0 hd1 hd2 hd3 hf hkn
      go_wp2_with (fail)
      rw [← HW.out]
      refine bodyPost_ret (v := .agg #[.int .i64 (j : Int), .slice A xs.length c]) (by simp [results, Tryz.results188, go_sem, d0, d1]) rfl ?_
      obtain ⟨h1, h2, h3⟩ := HD.out
      exact ⟨A, c, xs, rfl, hxl2, q, by omega, (show OwnInts _ _ _ _ _ from ⟨h1, fun b hb => (h1.lt b hb).2⟩).mono (Nat.le_add_right _ 2) (Nat.le_refl _), h2, h3⟩

end Go.Proofs.YtokmmloakahkhaaGreatDoor
/-
  The walks of isTerm, areTerms, l2Terms.
-/
namespace Go.Proofs.YtokmmloakahkhaaGreatDoor
open Go.RowKit

theorem isTerm_any (n : Int) (w : World) : Calls Tryz.prog 94 #[.int .i64 n] w fun e w' => e = .returned (.bool (termOk n)) ∧ w = w' := by
  by_cases h1 : isVarB n = true
  · have HE := Lib.hid (show termOk n = true by simp [isVarB] at h1; simp [termOk]; omega)
    go_enter Tryz.func94, Tryz.ntmps94
    go_wp2_with (go_at_call 134; refine (isVar_is h1 _).mono ?_; rintro e w' ⟨rfl, rfl⟩)
    go_ret
    exact ⟨ret_bool HE.out.symm, rfl⟩
  · have h2 : isVarB n = false := by simpa using h1
    by_cases h3 : 0 ≤ n
    · have hd : decide (0 ≤ n) = true := by simpa using h3
      by_cases h4 : n ≤ 5
      · have HE := Lib.hid (show termOk n = true by simp [termOk]; omega)
        go_enter Tryz.func94, Tryz.ntmps94
        go_wp2_with (go_at_call 134; refine (isVar_is h2 _).mono ?_; rintro e w' ⟨rfl, rfl⟩)
        go_ret
        exact ⟨ret_bool HE.out.symm, rfl⟩
      · have HE := Lib.hid (show termOk n = false by simp [termOk]; omega)
        go_enter Tryz.func94, Tryz.ntmps94
        go_wp2_with (go_at_call 134; refine (isVar_is h2 _).mono ?_; rintro e w' ⟨rfl, rfl⟩)
        go_ret
        exact ⟨ret_bool (by rw [HE.out]; simp; omega), rfl⟩
    · have hd : decide (0 ≤ n) = false := by simpa using h3
      have HE := Lib.hid (show termOk n = false by simp [isVarB] at h2; simp [termOk]; omega)
      go_enter Tryz.func94, Tryz.ntmps94
      go_wp2_with (go_at_call 134; refine (isVar_is h2 _).mono ?_; rintro e w' ⟨rfl, rfl⟩)
      go_ret
      exact ⟨ret_bool HE.out.symm, rfl⟩

theorem isTerm_is {n : Int} {b : Bool} (h : termOk n = b) (w : World) : Calls Tryz.prog 94 #[.int .i64 n] w fun e w' => e = .returned (.bool b) ∧ w = w' := h ▸ isTerm_any n w

set_option maxHeartbeats 400000 in
theorem areTerms_any (v : Value) (xs : List Int) (B : Nat) (w : World) (h : RdInts w B v xs) (hr : xs.length ≤ 1048576) :
    Calls Tryz.prog 46 #[v] w fun e w' => e = .returned (.bool (xs.all termOk)) ∧ w = w' := by
  obtain ⟨A, c, rfl, hc, ha⟩ := h
  go_enter Tryz.func46, Tryz.ntmps46
  go_wp2_with (fail)
  go_loop [4, 7] (fun _ i => ∃ k : Nat, k ≤ xs.length ∧ i = .int .i64 k ∧ AllTo termOk xs k) (fun _ i => xs.length - (intOf i).toNat)
  case atStart => exact ⟨0, Nat.zero_le _, rfl, AllTo.start⟩
  case round =>
    obtain ⟨k, hk, rfl, hs⟩ := hrel
    by_cases hlt : k < xs.length
    · obtain ⟨b, o, rfl, hbB, hx⟩ := ha (by omega)
      have hck : w.cell? ⟨b, o + k, none⟩ = some (.int .i64 xs[k]) := hx k hlt
      clear hx ha
      by_cases he : termOk xs[k] = true
      · have HS := Lib.hid (hs.step hlt he)
        clear hs
        go_wp2_with (go_at_call 94; refine (isTerm_is he _).mono ?_; rintro e w' ⟨rfl, rfl⟩)
        go_round
        case rel => exact ⟨k + 1, by omega, by go_num, HS.out⟩
        case measure => simp [intOf]; omega
      · have he' : termOk xs[k] = false := by simpa using he
        have HE := Lib.hid (all_not hlt he')
        clear hs he
        go_wp2_with (go_at_call 94; refine (isTerm_is he' _).mono ?_; rintro e w' ⟨rfl, rfl⟩)
        go_ret
        exact ⟨ret_bool HE.out.symm, rfl⟩
    · have HE := Lib.hid (hs.done (by omega))
      clear hs ha
      go_wp2_with (fail)
      go_ret
      exact ⟨ret_bool HE.out.symm, rfl⟩

set_option maxHeartbeats 400000 in
theorem l2Terms_any (v : Value) (xs : List Int) (B : Nat) (w : World) (h : RdInts w B v xs) (hr : xs.length ≤ 1048576) :
    Calls Tryz.prog 98 #[v] w fun e w' => e = .returned (.bool (xs.all termOk)) ∧ w = w' := by
  obtain ⟨A, c, rfl, hc, ha⟩ := h
  go_enter Tryz.func98, Tryz.ntmps98
  go_wp2_with (fail)
  go_loop [3] (fun i => ∃ k : Nat, k ≤ xs.length ∧ i = .int .i64 k ∧ AllTo termOk xs k) (fun i => xs.length - (intOf i).toNat)
  case atStart => exact ⟨0, Nat.zero_le _, rfl, AllTo.start⟩
  case round =>
    obtain ⟨k, hk, rfl, hs⟩ := hrel
    by_cases hlt : k < xs.length
    · obtain ⟨b, o, rfl, hbB, hx⟩ := ha (by omega)
      have hck : w.cell? ⟨b, o + k, none⟩ = some (.int .i64 xs[k]) := hx k hlt
      clear hx ha
      by_cases he : -4 ≤ xs[k] ∧ xs[k] ≤ 5
      · have HS := Lib.hid (hs.step hlt (by simpa [termOk] using he))
        have HK := Lib.hid (l1In_yes he)
        clear hs he
        go_wp2_with (go_at_call 55; refine (HK.out _).mono ?_; rintro e w' ⟨rfl, rfl⟩)
        go_round
        case rel => exact ⟨k + 1, by omega, by go_num, HS.out⟩
        case measure => simp [intOf]; omega
      · have HE := Lib.hid (all_not hlt (show termOk xs[k] = false by simpa [termOk] using he))
        have HK := Lib.hid (l1In_no he)
        clear hs he
        go_wp2_with (go_at_call 55; refine (HK.out _).mono ?_; rintro e w' ⟨rfl, rfl⟩)
        go_ret
        exact ⟨ret_bool HE.out.symm, rfl⟩
    · have HE := Lib.hid (hs.done (by omega))
      clear hs ha
      go_wp2_with (fail)
      go_ret
      exact ⟨ret_bool HE.out.symm, rfl⟩

end Go.Proofs.YtokmmloakahkhaaGreatDoor
/-
  The walks of isTerm, areTerms, l2Terms, atomFits, and of both AtomOk.
-/
namespace Go.Proofs.YtokmmloakahkhaaGreatDoor
open Go.RowKit

def atomFits (ar : List Int) (f : LFact) : Bool := decide (0 ≤ f.1 ∧ f.1 < ar.length ∧ (f.2.length : Int) = ar.getD f.1.toNat 0) && f.2.all termOk
def atomOk (ar : List Int) (f : LFact) : Bool := arityOk ar && atomFits ar f

set_option maxHeartbeats 1000000 in
set_option maxRecDepth 100000 in
theorem atomFits_any (v v2 : Value) (ar : List Int) (f : LFact) (w : World) (h : RdInts w w.heap.size v ar) (h2 : RdFact w w.heap.size v2 f) (hn : f.2.length ≤ 1048576) :
    Calls Tryz.prog 83 #[v, v2] w fun e w' => e = .returned (.bool (atomFits ar f)) ∧ Below w.heap.size w w' := by
  obtain ⟨pp, xs⟩ := f
  obtain ⟨A, c, rfl, hc, h⟩ := h
  obtain ⟨a, rfl, h2⟩ := h2
  have HT := Lib.hid (fun n (O : Obj) => quiet_left (areTerms_any a xs w.heap.size ((w.alloc O).drewN n) ((h2.below (below1 w O) (Nat.le_refl _)).below (bdrewN (Below.refl _ _) _) (Nat.le_refl _)) hn))
  obtain ⟨A2, c2, rfl, hc2, h2⟩ := h2
  by_cases h0 : pp < 0
  · have hd : decide (0 ≤ pp) = false := by simpa using h0
    have HE := Lib.hid (show atomFits ar (pp, xs) = false by simp [atomFits]; omega)
    go_enter Tryz.func83, Tryz.ntmps83
    go_wp2_with (fail)
    go_quiet (fail)
    go_wp2_with (fail)
    go_ret
    exact ⟨ret_bool HE.out.symm, bdrewN (below1 _ _) _⟩
  · have hd : decide (0 ≤ pp) = true := by simpa using h0
    obtain ⟨p, rfl⟩ := Int.eq_ofNat_of_zero_le (Int.not_lt.1 h0)
    by_cases h1 : (ar.length : Int) ≤ p
    · have hd1 : decide (p < ar.length) = false := by simp; omega
      have HE := Lib.hid (show atomFits ar ((p : Int), xs) = false by simp [atomFits]; omega)
      go_enter Tryz.func83, Tryz.ntmps83
      go_wp2_with (fail)
      go_quiet (fail)
      go_wp2_with (fail)
      go_ret
      exact ⟨ret_bool HE.out.symm, bdrewN (below1 _ _) _⟩
    · have hlt : p < ar.length := by omega
      have hltI : (p : Int) < (ar.length : Int) := by omega
      have hd1 : decide ((p : Int) < (ar.length : Int)) = true := by simpa using hltI
      obtain ⟨b, o, rfl, hbB, hx⟩ := h (by omega)
      have hck : ∀ O, (w.alloc O).cell? ⟨b, o + p, none⟩ = some (.int .i64 ar[p]) := fun O => (World.cell?_alloc_lt w O ⟨b, o + p, none⟩ hbB).trans (hx p hlt)
      by_cases h3 : (xs.length : Int) = ar[p]
      · have hd3 : ((xs.length : Int) == ar[p]) = true := by simp [h3]
        have H3 := Lib.hid (show atomFits ar ((p : Int), xs) = xs.all termOk by simp [atomFits, hlt, h3])
        clear h3 hx h
        go_enter Tryz.func83, Tryz.ntmps83
        go_wp2_with (fail)
        go_quiet ((go_at_call 46; exact HT.out _ _))
        go_wp2_with (fail)
        go_ret
        exact ⟨ret_bool H3.out.symm, bdrewN (below1 _ _) _⟩
      · have hd3 : ((xs.length : Int) == ar[p]) = false := by simp [h3]
        have HE := Lib.hid (show atomFits ar ((p : Int), xs) = false by simp [atomFits, hlt, h3])
        clear h3 hx h
        go_enter Tryz.func83, Tryz.ntmps83
        go_wp2_with (fail)
        go_quiet (fail)
        go_wp2_with (fail)
        go_ret
        exact ⟨ret_bool HE.out.symm, bdrewN (below1 _ _) _⟩

set_option maxHeartbeats 1000000 in
set_option maxRecDepth 100000 in
theorem specAtomOk_any (v v2 : Value) (ar : List Int) (f : LFact) (w : World) (h : RdInts w w.heap.size v ar) (h2 : RdFact w w.heap.size v2 f) (hr : ar.length ≤ 1048576) (hn : f.2.length ≤ 1048576) :
    Calls Tryz.prog 87 #[v, v2] w fun e w' => e = .returned (.bool (atomOk ar f)) ∧ Below w.heap.size w w' := by
  have H := Lib.hid h
  obtain ⟨pp, xs⟩ := f
  obtain ⟨A, c, rfl, hc, h⟩ := h
  obtain ⟨a, rfl, h2⟩ := h2
  have HT := Lib.hid (fun n (O : Obj) => quiet_left (l2Terms_any a xs w.heap.size ((w.alloc O).drewN n) ((h2.below (below1 w O) (Nat.le_refl _)).below (bdrewN (Below.refl _ _) _) (Nat.le_refl _)) hn))
  obtain ⟨A2, c2, rfl, hc2, h2⟩ := h2
  by_cases ha : arityOk ar = true
  · have CA : ∀ W, Below w.heap.size w W → Calls Tryz.prog 39 #[.slice A ar.length c] W fun e w' => e = .returned (.bool true) ∧ w' = W := fun W hW =>
      (specArityOk_any _ ar W (H.out.on hW) (by omega)).mono fun e w' ⟨he, hw⟩ => ⟨by rw [he, ha], hw.symm⟩
    have HCA := Lib.hid CA
    have HA := Lib.hid ha
    clear CA ha
    by_cases hp : 0 ≤ pp ∧ pp ≤ (ar.length : Int) - 1
    · have HCL := Lib.hid (l1In_yes hp)
      obtain ⟨p, rfl⟩ := Int.eq_ofNat_of_zero_le hp.1
      have hlt : p < ar.length := by omega
      have hltI : (p : Int) < (ar.length : Int) := by omega
      obtain ⟨b, o, rfl, hbB, hx⟩ := h (by omega)
      have hck : ∀ O, (w.alloc O).cell? ⟨b, o + p, none⟩ = some (.int .i64 ar[p]) := fun O => (World.cell?_alloc_lt w O ⟨b, o + p, none⟩ hbB).trans (hx p hlt)
      clear hp
      by_cases h3 : (xs.length : Int) = ar[p]
      · have hd3 : ((xs.length : Int) == ar[p]) = true := by simp [h3]
        have H3 := Lib.hid (show atomOk ar ((p : Int), xs) = xs.all termOk by simp [atomOk, HA.out, atomFits, hlt, h3])
        clear h3 hx h
        go_enter Tryz.func87, Tryz.ntmps87
        go_wp2_with (fail)
        go_quiet (first | (go_at_call 39; exact Calls.quiet_of_same (HCA.out _ (bdrewN (below1 _ _) _))) | (go_at_call 55; exact quiet_left (HCL.out _)) | (go_at_call 98; exact HT.out _ _))
        go_wp2_with (fail)
        go_ret
        exact ⟨ret_bool H3.out.symm, bdrewN (below1 _ _) _⟩
      · have hd3 : ((xs.length : Int) == ar[p]) = false := by simp [h3]
        have HE := Lib.hid (show atomOk ar ((p : Int), xs) = false by simp [atomOk, atomFits, hlt, h3])
        clear h3 hx h
        go_enter Tryz.func87, Tryz.ntmps87
        go_wp2_with (fail)
        go_quiet (first | (go_at_call 39; exact Calls.quiet_of_same (HCA.out _ (bdrewN (below1 _ _) _))) | (go_at_call 55; exact quiet_left (HCL.out _)))
        go_wp2_with (fail)
        go_ret
        exact ⟨ret_bool HE.out.symm, bdrewN (below1 _ _) _⟩
    · have HCL := Lib.hid (l1In_no hp)
      have HE := Lib.hid (show atomOk ar (pp, xs) = false by simp [atomOk, atomFits]; omega)
      clear hp
      go_enter Tryz.func87, Tryz.ntmps87
      go_wp2_with (fail)
      go_quiet (first | (go_at_call 39; exact Calls.quiet_of_same (HCA.out _ (bdrewN (below1 _ _) _))) | (go_at_call 55; exact quiet_left (HCL.out _)))
      go_wp2_with (fail)
      go_ret
      exact ⟨ret_bool HE.out.symm, bdrewN (below1 _ _) _⟩
  · have CA : ∀ W, Below w.heap.size w W → Calls Tryz.prog 39 #[.slice A ar.length c] W fun e w' => e = .returned (.bool false) ∧ w' = W := fun W hW =>
      (specArityOk_any _ ar W (H.out.on hW) (by omega)).mono fun e w' ⟨he, hw⟩ => ⟨by rw [he, show arityOk ar = false by simpa using ha], hw.symm⟩
    have HCA := Lib.hid CA
    have HE := Lib.hid (show atomOk ar (pp, xs) = false by simp [atomOk, ha])
    clear CA ha
    go_enter Tryz.func87, Tryz.ntmps87
    go_wp2_with (fail)
    go_quiet (first | (go_at_call 39; exact Calls.quiet_of_same (HCA.out _ (bdrewN (below1 _ _) _))))
    go_wp2_with (fail)
    go_ret
    exact ⟨ret_bool HE.out.symm, bdrewN (below1 _ _) _⟩

end Go.Proofs.YtokmmloakahkhaaGreatDoor
/-
  Renaming, in plain words: what each variable becomes, in the order in which they come.
-/
namespace Go.Proofs.YtokmmloakahkhaaGreatDoor
open Go.RowKit

/-- What the four variables have become (0: nothing yet), and how many have come. -/
abbrev Ren := List Int × Nat
def renStep (s : Ren) (t : Int) : Ren := if isVarB t && s.1.getD (-1 - t).toNat 0 == 0 then (s.1.set (-1 - t).toNat (-1 - (s.2 : Int)), s.2 + 1) else s
def renList (s : Ren) (xs : List Int) : Ren := xs.foldl renStep s
def look (s : Ren) (t : Int) : Int := if isVarB t then s.1.getD (-1 - t).toNat 0 else t
/-- What comes out while the variables come. -/
def renOut (s : Ren) (xs : List Int) : List Int := (List.range xs.length).map fun j => look (renList s (xs.take (j + 1))) (xs.getD j 0)
def renBody (s : Ren) (ls : List LLit) : Ren := ls.foldl (fun s l => renList s l.2.2) s
def ren0 : Ren := ([0, 0, 0, 0], 0)
def renRule (r : LRule) : Ren := renBody (renList ren0 r.1.2) r.2
def lookLit (s : Ren) (l : LLit) : LLit := (l.1, (l.2.1, l.2.2.map (look s)))
def termsOk (r : LRule) : Bool := (r.2.all fun l => l.2.2.all termOk) && r.1.2.all termOk
def renamed (r : LRule) : LRule := if termsOk r then ((r.1.1, r.1.2.map (look (renRule r))), r.2.map (lookLit (renRule r))) else ((0, []), [])

theorem var_lt {t : Int} (h : isVarB t = true) : (-1 - t).toNat < 4 := by simp [isVarB] at h; omega
theorem renStep_len {s : Ren} {t : Int} (h : s.1.length = 4) : (renStep s t).1.length = 4 := by
  unfold renStep
  split <;> simp [h]
theorem renList_len : ∀ (xs : List Int) {s : Ren}, s.1.length = 4 → (renList s xs).1.length = 4
  | [], _, h => h
  | _ :: xs, _, h => renList_len xs (renStep_len h)
theorem renList_take {xs : List Int} {k : Nat} (s : Ren) (h : k < xs.length) : renList s (xs.take (k + 1)) = renStep (renList s (xs.take k)) xs[k] := by
  unfold renList
  rw [take_snoc xs k h, List.foldl_append]
  rfl
theorem renBody_take {ls : List LLit} {k : Nat} (s : Ren) (h : k < ls.length) : renBody s (ls.take (k + 1)) = renList (renBody s (ls.take k)) ls[k].2.2 := by
  unfold renBody
  rw [take_snoc ls k h, List.foldl_append]
  rfl
theorem renBody_len : ∀ (ls : List LLit) {s : Ren}, s.1.length = 4 → (renBody s ls).1.length = 4
  | [], _, h => h
  | l :: ls, _, h => renBody_len ls (renList_len l.2.2 h)

/-- What has come stays as it is. -/
def Ext (s s' : Ren) : Prop := ∀ i, s.1.getD i 0 ≠ 0 → s'.1.getD i 0 = s.1.getD i 0
theorem Ext.refl (s : Ren) : Ext s s := fun _ _ => rfl
theorem Ext.trans {s s1 s2 : Ren} (h : Ext s s1) (k : Ext s1 s2) : Ext s s2 := fun i hi => by
  have := h i hi
  rw [k i (by rw [this]; exact hi), this]
theorem Ext.step (s : Ren) (t : Int) : Ext s (renStep s t) := fun i hi => by
  unfold renStep
  split
  · rename_i h
    simp only [Bool.and_eq_true, beq_iff_eq] at h
    have hne : (-1 - t).toNat ≠ i := fun e => hi (e ▸ h.2)
    simp only [List.getD_eq_getElem?_getD, List.getElem?_set_ne hne]
  · rfl
theorem Ext.list : ∀ (xs : List Int) (s : Ren), Ext s (renList s xs)
  | [], s => Ext.refl s
  | t :: xs, s => (Ext.step s t).trans (Ext.list xs _)
theorem Ext.body : ∀ (ls : List LLit) (s : Ren), Ext s (renBody s ls)
  | [], s => Ext.refl s
  | l :: ls, s => (Ext.list l.2.2 s).trans (Ext.body ls _)
theorem renList_append (s : Ren) (xs ys : List Int) : renList s (xs ++ ys) = renList (renList s xs) ys := by simp [renList, List.foldl_append]
theorem renBody_append (s : Ren) (xs ys : List LLit) : renBody s (xs ++ ys) = renBody (renBody s xs) ys := by simp [renBody, List.foldl_append]
/-- A variable that has come has become something. -/
theorem renStep_ne {s : Ren} {t : Int} (h : s.1.length = 4) (hv : isVarB t = true) : (renStep s t).1.getD (-1 - t).toNat 0 ≠ 0 := by
  have h4 := var_lt hv
  unfold renStep
  split
  · rw [List.getD_eq_getElem?_getD, List.getElem?_set_self (by omega)]
    simp
    omega
  · rename_i hn
    intro e
    exact hn (by rw [hv, e]; rfl)
theorem look_ext {s S : Ren} {t : Int} (h : s.1.length = 4) (he : Ext (renStep s t) S) : look (renStep s t) t = look S t := by
  unfold look
  split
  · rename_i hv
    exact (he _ (renStep_ne h hv)).symm
  · rfl
theorem renOut_eq {s S : Ren} {xs : List Int} (h : s.1.length = 4) (he : Ext (renList s xs) S) : renOut s xs = xs.map (look S) := by
  apply List.ext_getElem (by simp [renOut])
  intro j h1 h2
  have hj : j < xs.length := by simpa using h2
  simp only [renOut, List.getElem_map, List.getElem_range]
  rw [renList_take s hj]
  have e1 : xs.getD j 0 = xs[j] := by simp [hj]
  rw [e1]
  refine look_ext (renList_len _ h) (Ext.trans ?_ he)
  rw [← renList_take s hj]
  have := renList_append s (xs.take (j + 1)) (xs.drop (j + 1))
  rw [List.take_append_drop] at this
  rw [this]
  exact Ext.list _ _
theorem renOut_length (s : Ren) (xs : List Int) : (renOut s xs).length = xs.length := by simp [renOut]

/-- The program's way: while they come. -/
def renLits (s : Ren) (ls : List LLit) : List LLit := (List.range ls.length).map fun j => ((ls.getD j (0, (0, []))).1, ((ls.getD j (0, (0, []))).2.1, renOut (renBody s (ls.take j)) (ls.getD j (0, (0, []))).2.2))
theorem renLits_eq {s S : Ren} {ls : List LLit} (h : s.1.length = 4) (he : Ext (renBody s ls) S) : renLits s ls = ls.map (lookLit S) := by
  apply List.ext_getElem (by simp [renLits])
  intro j h1 h2
  have hj : j < ls.length := by simpa using h2
  have e1 : ls.getD j (0, (0, [])) = ls[j] := by simp [hj]
  simp only [renLits, List.getElem_map, List.getElem_range, e1, lookLit]
  congr 2
  refine renOut_eq (renBody_len _ h) (Ext.trans ?_ he)
  rw [← renBody_take s hj]
  have := renBody_append s (ls.take (j + 1)) (ls.drop (j + 1))
  rw [List.take_append_drop] at this
  rw [this]
  exact Ext.body _ _
theorem renamed_yes {r : LRule} (h : termsOk r = true) : renamed r = ((r.1.1, renOut ren0 r.1.2), renLits (renList ren0 r.1.2) r.2) := by
  unfold renamed
  rw [if_pos h]
  have h0 : ren0.1.length = 4 := rfl
  rw [renOut_eq (S := renRule r) h0 (Ext.body _ _), renLits_eq (S := renRule r) (renList_len _ h0) (Ext.refl _)]
theorem renamed_no {r : LRule} (h : termsOk r = false) : renamed r = ((0, []), []) := by
  unfold renamed
  rw [h]
  rfl
theorem renamed_head (r : LRule) : (renamed r).1.2.length ≤ r.1.2.length := by
  unfold renamed
  split <;> simp
theorem renamed_szR (r : LRule) : szR (renamed r) ≤ szR r := by
  unfold renamed
  split
  · unfold szR totL
    simp only [List.length_map, List.map_map]
    have : ((fun l : LLit => l.2.2.length) ∘ lookLit (renRule r)) = fun l : LLit => l.2.2.length := by
      funext l
      simp [lookLit]
    rw [this]
    omega
  · simp [szR, totL]

end Go.Proofs.YtokmmloakahkhaaGreatDoor
/-
  The walks of litFits and of both LitOk.
-/
namespace Go.Proofs.YtokmmloakahkhaaGreatDoor
open Go.RowKit

def litFits (ar : List Int) (l : LLit) : Bool :=
  if l.1 = 0 ∨ l.1 = 1 then atomFits ar l.2 else if l.1 = 2 ∨ l.1 = 3 then (decide (l.2.1 = 0) && decide (l.2.2.length = 2) && l.2.2.all termOk) else false
def litOk (ar : List Int) (l : LLit) : Bool := arityOk ar && litFits ar l

/-- An atom that compares two terms. -/
def comparesB (f : LFact) : Bool := decide (f.1 = 0) && decide (f.2.length = 2) && f.2.all termOk

set_option maxHeartbeats 1000000 in
set_option maxRecDepth 100000 in
theorem comparesTerms_any (v : Value) (f : LFact) (w : World) (h : RdFact w w.heap.size v f) (hn : f.2.length ≤ 1048576) :
    Calls Tryz.prog 129 #[v] w fun e w' => e = .returned (.bool (comparesB f)) ∧ Below w.heap.size w w' := by
  obtain ⟨pp, xs⟩ := f
  obtain ⟨a, rfl, h2⟩ := h
  have H2 := Lib.hid (h2.on (below1 w (.cells #[.int .i64 pp, a] 35)))
  obtain ⟨A2, c2, rfl, hc2, _⟩ := h2
  have CT := Lib.hid (areTerms_any _ xs _ _ H2.out hn)
  by_cases hp : pp = 0
  · subst hp
    by_cases hx : xs.length = 2
    · have hx2 : ((xs.length : Int) == 2) = true := by simp; omega
      have HE2 := Lib.hid (show comparesB (0, xs) = xs.all termOk by simp [comparesB, hx])
      clear hx
      go_enter Tryz.func129, Tryz.ntmps129
      go_wp2_with (go_at_call 46; refine CT.out.mono ?_; rintro e w5 ⟨rfl, rfl⟩)
      go_ret
      exact ⟨ret_bool HE2.out.symm, below1 _ _⟩
    · have hx2 : ((xs.length : Int) == 2) = false := by simp; omega
      have HE2 := Lib.hid (show comparesB (0, xs) = false by simp [comparesB, hx])
      clear hx
      go_enter Tryz.func129, Tryz.ntmps129
      go_wp2_with (fail)
      go_ret
      exact ⟨ret_bool HE2.out.symm, below1 _ _⟩
  · have hp2 : (pp == 0) = false := by simpa using hp
    have HE2 := Lib.hid (show comparesB (pp, xs) = false by simp [comparesB, hp])
    clear hp
    go_enter Tryz.func129, Tryz.ntmps129
    go_wp2_with (fail)
    go_ret
    exact ⟨ret_bool HE2.out.symm, below1 _ _⟩

set_option maxHeartbeats 1000000 in
set_option maxRecDepth 100000 in
theorem litFits_any (v v2 : Value) (ar : List Int) (l : LLit) (w : World) (h : RdInts w w.heap.size v ar) (h2 : RdLit w w.heap.size v2 l) (hn : l.2.2.length ≤ 1048576) :
    Calls Tryz.prog 84 #[v, v2] w fun e w' => e = .returned (.bool (litFits ar l)) ∧ Below w.heap.size w w' := by
  have H := Lib.hid h
  obtain ⟨kd, pp, xs⟩ := l
  obtain ⟨A, c, rfl, hc, _⟩ := h
  obtain ⟨a, rfl, h2⟩ := h2
  have H2 := Lib.hid (h2.on (below1 w (.cells #[.int .i64 kd, .int .i64 pp, a] 91)))
  obtain ⟨A2, c2, rfl, hc2, _⟩ := h2
  by_cases ka : kd = 0 ∨ kd = 1
  · have HE := Lib.hid (show litFits ar (kd, pp, xs) = atomFits ar (pp, xs) by simp [litFits, ka])
    rcases ka with rfl | rfl
    all_goals
      go_enter Tryz.func84, Tryz.ntmps84
      go_wp2_with (go_at_call 83; refine (atomFits_any _ _ ar (pp, xs) _ (H.out.on (below1 _ _)) ⟨_, rfl, H2.out⟩ hn).mono ?_; rintro e w5 ⟨rfl, hb5⟩)
      go_ret
      exact ⟨ret_bool HE.out.symm, bthen (below1 _ _) hb5⟩
  · have k0 : (kd == 0) = false := by simp; omega
    have k1 : (kd == 1) = false := by simp; omega
    by_cases kb : kd = 2 ∨ kd = 3
    · have HE := Lib.hid (show litFits ar (kd, pp, xs) = comparesB (pp, xs) by simp [litFits, comparesB, ka, kb])
      clear ka k0 k1
      rcases kb with rfl | rfl
      all_goals
        go_enter Tryz.func84, Tryz.ntmps84
        go_wp2_with (go_at_call 129; refine (comparesTerms_any _ (pp, xs) _ ⟨_, rfl, H2.out⟩ hn).mono ?_; rintro e w5 ⟨rfl, hb5⟩)
        go_ret
        exact ⟨ret_bool HE.out.symm, bthen (below1 _ _) hb5⟩
    · have k2 : (kd == 2) = false := by simp; omega
      have k3 : (kd == 3) = false := by simp; omega
      have HE := Lib.hid (show litFits ar (kd, pp, xs) = false by simp [litFits, ka, kb])
      clear ka kb
      go_enter Tryz.func84, Tryz.ntmps84
      go_wp2_with (fail)
      go_ret
      exact ⟨ret_bool HE.out.symm, below1 _ _⟩

set_option maxHeartbeats 1000000 in
set_option maxRecDepth 100000 in
theorem specLitOk_any (v v2 : Value) (ar : List Int) (l : LLit) (w : World) (h : RdInts w w.heap.size v ar) (h2 : RdLit w w.heap.size v2 l) (hr : ar.length ≤ 1048576) (hn : l.2.2.length ≤ 1048576) :
    Calls Tryz.prog 86 #[v, v2] w fun e w' => e = .returned (.bool (litOk ar l)) ∧ Below w.heap.size w w' := by
  have H := Lib.hid h
  obtain ⟨kd, pp, xs⟩ := l
  obtain ⟨A, c, rfl, hc, _⟩ := h
  obtain ⟨a, rfl, h2⟩ := h2
  have H2 := Lib.hid (h2.on (below1 w (.cells #[.int .i64 kd, .int .i64 pp, a] 91)))
  obtain ⟨A2, c2, rfl, hc2, _⟩ := h2
  by_cases ka : kd = 0 ∨ kd = 1
  · have HE := Lib.hid (show litOk ar (kd, pp, xs) = atomOk ar (pp, xs) by simp [litOk, atomOk, litFits, ka])
    rcases ka with rfl | rfl
    all_goals
      go_enter Tryz.func86, Tryz.ntmps86
      go_wp2_with (go_at_call 87; refine (specAtomOk_any _ _ ar (pp, xs) _ (H.out.on (below1 _ _)) ⟨_, rfl, H2.out⟩ hr hn).mono ?_; rintro e w5 ⟨rfl, hb5⟩)
      go_ret
      exact ⟨ret_bool HE.out.symm, bthen (below1 _ _) hb5⟩
  · have k0 : (kd == 0) = false := by simp; omega
    have k1 : (kd == 1) = false := by simp; omega
    by_cases ha : arityOk ar = true
    · have CA := Lib.hid ((specArityOk_any _ ar _ (H.out.on (below1 w (.cells #[.int .i64 kd, .int .i64 pp, .slice A2 xs.length c2] 91))) (by omega)).mono fun e w' (hh : e = .returned (.bool (arityOk ar)) ∧ _ = w') => (⟨by rw [hh.1, ha], hh.2⟩ : e = .returned (.bool true) ∧ _ = w'))
      have HA := Lib.hid ha
      clear ha
      by_cases kb : kd = 2 ∨ kd = 3
      · have HE := Lib.hid (show litOk ar (kd, pp, xs) = (decide (pp = 0) && decide (xs.length = 2) && xs.all termOk) by simp [litOk, HA.out, litFits, ka, kb])
        clear ka k0 k1
        have CT := Lib.hid (l2Terms_any _ xs _ _ H2.out hn)
        by_cases hp : pp = 0
        · subst hp
          by_cases hx : xs.length = 2
          · have hx2 : ((xs.length : Int) == 2) = true := by simp; omega
            have HE2 := Lib.hid (show litOk ar (kd, 0, xs) = xs.all termOk by rw [HE.out]; simp [hx])
            clear hx
            rcases kb with rfl | rfl
            all_goals
              go_enter Tryz.func86, Tryz.ntmps86
              go_wp2_with (first | (go_at_call 39; refine CA.out.mono ?_; rintro e w5 ⟨rfl, rfl⟩) | (go_at_call 98; refine CT.out.mono ?_; rintro e w5 ⟨rfl, rfl⟩))
              go_ret
              exact ⟨ret_bool HE2.out.symm, below1 _ _⟩
          · have hx2 : ((xs.length : Int) == 2) = false := by simp; omega
            have HE2 := Lib.hid (show litOk ar (kd, 0, xs) = false by rw [HE.out]; simp [hx])
            clear hx
            rcases kb with rfl | rfl
            all_goals
              go_enter Tryz.func86, Tryz.ntmps86
              go_wp2_with (go_at_call 39; refine CA.out.mono ?_; rintro e w5 ⟨rfl, rfl⟩)
              go_ret
              exact ⟨ret_bool HE2.out.symm, below1 _ _⟩
        · have hp2 : (pp == 0) = false := by simpa using hp
          have HE2 := Lib.hid (show litOk ar (kd, pp, xs) = false by rw [HE.out]; simp [hp])
          clear hp
          rcases kb with rfl | rfl
          all_goals
            go_enter Tryz.func86, Tryz.ntmps86
            go_wp2_with (go_at_call 39; refine CA.out.mono ?_; rintro e w5 ⟨rfl, rfl⟩)
            go_ret
            exact ⟨ret_bool HE2.out.symm, below1 _ _⟩
      · have k2 : (kd == 2) = false := by simp; omega
        have k3 : (kd == 3) = false := by simp; omega
        have HE := Lib.hid (show litOk ar (kd, pp, xs) = false by simp [litOk, litFits, ka, kb])
        clear ka kb
        go_enter Tryz.func86, Tryz.ntmps86
        go_wp2_with (go_at_call 39; refine CA.out.mono ?_; rintro e w5 ⟨rfl, rfl⟩)
        go_ret
        exact ⟨ret_bool HE.out.symm, below1 _ _⟩
    · have CA := Lib.hid ((specArityOk_any _ ar _ (H.out.on (below1 w (.cells #[.int .i64 kd, .int .i64 pp, .slice A2 xs.length c2] 91))) (by omega)).mono fun e w' (hh : e = .returned (.bool (arityOk ar)) ∧ _ = w') => (⟨by rw [hh.1, show arityOk ar = false by simpa using ha], hh.2⟩ : e = .returned (.bool false) ∧ _ = w'))
      have HE := Lib.hid (show litOk ar (kd, pp, xs) = false by simp [litOk, ha])
      clear ha ka
      go_enter Tryz.func86, Tryz.ntmps86
      go_wp2_with (go_at_call 39; refine CA.out.mono ?_; rintro e w5 ⟨rfl, rfl⟩)
      go_ret
      exact ⟨ret_bool HE.out.symm, below1 _ _⟩

end Go.Proofs.YtokmmloakahkhaaGreatDoor
/-
  The walks of yesVars and of the program's RuleSafe.
-/
namespace Go.Proofs.YtokmmloakahkhaaGreatDoor
open Go.RowKit

set_option maxHeartbeats 400000 in
theorem yesVars_any (v : Value) (ls : List LLit) (w : World) (h : RdLits w w.heap.size v ls) (hr : ls.length ≤ 1048576) (ht : totL ls ≤ 1048576) :
    Calls Tryz.prog 90 #[v] w fun e w' => e = .returned (.int .u64 (yesMask ls : Nat)) ∧ Below w.heap.size w w' := by
  have H := Lib.hid h
  obtain ⟨A, c, rfl, hc, _⟩ := h
  go_enter Tryz.func90, Tryz.ntmps90
  go_wp2_with (fail)
  go_loopw [3, 5, 8] (fun m _ i wr => ∃ (k : Nat) (z : Int), k ≤ ls.length ∧ i = .int .i64 k ∧ m = .int .u64 z ∧ z = (yesMask (ls.take k) : Nat) ∧ Below w.heap.size w wr) (fun _ _ i _ => ls.length - (intOf i).toNat)
  case atStart => exact ⟨0, 0, Nat.zero_le _, rfl, rfl, rfl, Below.refl _ _⟩
  case round =>
    obtain ⟨k, z, hk, rfl, rfl, hz, hbe⟩ := hrel
    by_cases hlt : k < ls.length
    · obtain ⟨b, o, u0, u1, u2, rfl, hbB, k0, k1, k2, rfl, rfl, p3⟩ := (H.out.on hbe).get hlt
      have HA := Lib.hid p3
      obtain ⟨A3, c3, rfl, hc3, _⟩ := p3
      have hle := len_le_totL ls k hlt
      have hml := yesMask_lt k ls hk
      by_cases h0 : ls[k].1 = 0
      · have hd : (ls[k].1 == 0) = true := by simpa using h0
        have HZ := Lib.hid (show bits .or .u64 z ((maskOf ls[k].2.2 : Nat) : Int) = (yesMask (ls.take (k + 1)) : Nat) by rw [hz, or_word hml (maskOf_lt _), yesMask_take hlt, if_pos h0])
        clear hz hml h0
        go_wp2_with (go_at_call 106; refine (argVars_any _ ls[k].2.2 _ _ (HA.out.on (below1 _ _)) (by omega)).mono ?_; rintro e w' ⟨rfl, rfl⟩)
        go_roundw
        case rel => exact ⟨k + 1, _, by omega, by go_num, rfl, HZ.out, bthen hbe (below1 _ _)⟩
        case measure => simp [intOf]; omega
      · have hd : (ls[k].1 == 0) = false := by simpa using h0
        have HZ := Lib.hid (show z = (yesMask (ls.take (k + 1)) : Nat) by rw [hz, yesMask_take hlt, if_neg h0])
        clear hz hml h0
        go_wp2_with (fail)
        go_roundw
        case rel => exact ⟨k + 1, _, by omega, by go_num, rfl, HZ.out, bthen hbe (below1 _ _)⟩
        case measure => simp [intOf]; omega
    · have HE := Lib.hid (show z = (yesMask ls : Nat) by rw [hz, show k = ls.length by omega, List.take_length])
      clear hz
      go_wp2_with (fail)
      go_ret
      exact ⟨ret_int HE.out, hbe⟩

/-- What RuleSafe answers. -/
def ruleSafe (r : LRule) : Bool := bits .andNot .u64 ((ruleMask r : Nat) : Int) ((yesMask r.2 : Nat) : Int) == 0

end Go.Proofs.YtokmmloakahkhaaGreatDoor
/-
  The specification's sets of variables: rows of four bools. The walks of l2Mark, l2Marks.
-/
namespace Go.Proofs.YtokmmloakahkhaaGreatDoor
open Go.RowKit

/-- Block g is the row of the bits of m. -/
def MkRow (w : World) (g m : Nat) : Prop := Blk w g 4 #[.bool (m.testBit 0), .bool (m.testBit 1), .bool (m.testBit 2), .bool (m.testBit 3)]
theorem MkRow.cell {w : World} {g m : Nat} (h : MkRow w g m) {i : Nat} (hi : i < 4) : w.cell? ⟨g, i, none⟩ = some (.bool (m.testBit i)) := by
  rw [Blk.cell h i]
  match i, hi with
  | 0, _ => rfl
  | 1, _ => rfl
  | 2, _ => rfl
  | 3, _ => rfl
theorem MkRow.frozen {w : World} {g m : Nat} (h : MkRow w g m) (i : Nat) : w.frozen? ⟨g, i, none⟩ = false := Blk.frozen h i
theorem MkRow.lt {w : World} {g m : Nat} (h : MkRow w g m) : g < w.heap.size := Blk.lt h
theorem MkRow.below {B : Nat} {w w' : World} {g m : Nat} (h : MkRow w g m) (hb : Below B w w') (hg : g < B) : MkRow w' g m := Blk.below h hb hg
theorem MkRow.set {w : World} {g m : Nat} (h : MkRow w g m) {j : Nat} (hj : j < 4) : MkRow (w.setCell ⟨g, j, none⟩ (.bool true)) g (m ||| 2 ^ j) := by
  have h2 := Blk.set_ h j (.bool true)
  unfold MkRow
  match j, hj with
  | 0, _ => simpa [Nat.testBit_or, show Nat.testBit 1 1 = false from rfl, show Nat.testBit 1 2 = false from rfl, show Nat.testBit 1 3 = false from rfl] using h2
  | 1, _ => simpa [Nat.testBit_or, show Nat.testBit 2 1 = true from rfl, show Nat.testBit 2 2 = false from rfl, show Nat.testBit 2 3 = false from rfl] using h2
  | 2, _ => simpa [Nat.testBit_or, show Nat.testBit 4 1 = false from rfl, show Nat.testBit 4 2 = true from rfl, show Nat.testBit 4 3 = false from rfl] using h2
  | 3, _ => simpa [Nat.testBit_or, show Nat.testBit 8 1 = false from rfl, show Nat.testBit 8 2 = false from rfl, show Nat.testBit 8 3 = true from rfl] using h2
theorem maskFrom_take {xs : List Int} {m k : Nat} (h : k < xs.length) : maskFrom m (xs.take (k + 1)) = orV (maskFrom m (xs.take k)) xs[k] := by
  unfold maskFrom
  rw [take_snoc xs k h, List.foldl_append]
  rfl
theorem MkRow.var {w : World} {g m : Nat} (h : MkRow w g m) {t : Int} {j : Nat} (hj : j < 4) (ht : t = -1 - (j : Int)) : MkRow (w.setCell ⟨g, j, none⟩ (.bool true)) g (orV m t) := by
  have hv : isVarB t = true := by simp [isVarB]; omega
  have hn : (-1 - t).toNat = j := by omega
  unfold orV
  rw [if_pos hv, hn]
  exact h.set hj

set_option maxHeartbeats 400000 in
theorem l2Mark_any (g m : Nat) (v : Value) (xs : List Int) (w : World) (hm : MkRow w g m) (h : RdInts w g v xs) (hr : xs.length ≤ 1048576) :
    Calls Tryz.prog 131 #[.slice (some ⟨g, 0, none⟩) 4 4, v] w fun e w' => e = .returned (.tuple #[]) ∧ MkRow w' g (maskFrom m xs) ∧ Only g (g + 1) w w' := by
  have H := Lib.hid h
  have HM := Lib.hid hm
  clear hm
  obtain ⟨A, c, rfl, hc, _⟩ := h
  go_enter Tryz.func131, Tryz.ntmps131
  go_wp2_with (fail)
  go_loopw [4] (fun i wr => ∃ k : Nat, k ≤ xs.length ∧ i = .int .i64 k ∧ MkRow wr g (maskFrom m (xs.take k)) ∧ Only g (g + 1) w wr) (fun i _ => xs.length - (intOf i).toNat)
  case atStart => exact ⟨0, Nat.zero_le _, rfl, HM.out, Only.refl _ _ _⟩
  case round =>
    obtain ⟨k, hk, rfl, hx, hon⟩ := hrel
    have hg := HM.out.lt
    by_cases hlt : k < xs.length
    · obtain ⟨A', c', e, _, hr2⟩ := H.out.below (hon.below (Nat.le_refl g) (by omega)) (Nat.le_refl g)
      injection e with e1 _ e3
      subst e1
      subst e3
      obtain ⟨b, o, rfl, hbB, hr2⟩ := hr2 (by omega)
      have hck : wr.cell? ⟨b, o + k, none⟩ = some (.int .i64 xs[k]) := hr2 k hlt
      have htk := maskFrom_take (m := m) hlt
      clear hr2
      by_cases he : -4 ≤ xs[k] ∧ xs[k] ≤ -1
      · have hv : xs[k] = -1 - ((0 : Nat) : Int) ∨ xs[k] = -1 - ((1 : Nat) : Int) ∨ xs[k] = -1 - ((2 : Nat) : Int) ∨ xs[k] = -1 - ((3 : Nat) : Int) := by omega
        have c0 := hx.cell (i := 0) (by omega)
        have c1 := hx.cell (i := 1) (by omega)
        have c2 := hx.cell (i := 2) (by omega)
        have c3 := hx.cell (i := 3) (by omega)
        have f0 := hx.frozen 0
        have f1 := hx.frozen 1
        have f2 := hx.frozen 2
        have f3 := hx.frozen 3
        have HK := Lib.hid (l1In_yes he)
        have HX := Lib.hid (And.intro hx (And.intro hon htk))
        clear he hx hon htk
        rcases hv with hv | hv | hv | hv
        all_goals
          have HV := Lib.hid hv
          rw [hv] at hck
          simp at hck
          clear hv
        · go_wp2_with (go_at_call 55; refine (l1In_yes (by omega) _).mono ?_; rintro e w' ⟨rfl, rfl⟩)
          go_roundw
          case rel => exact ⟨k + 1, by omega, by go_num, by rw [HX.out.2.2]; exact HX.out.1.var (by omega) HV.out, HX.out.2.1.setCell (by simp) _⟩
          case measure => simp [intOf]; omega
        · go_wp2_with (go_at_call 55; refine (l1In_yes (by omega) _).mono ?_; rintro e w' ⟨rfl, rfl⟩)
          go_roundw
          case rel => exact ⟨k + 1, by omega, by go_num, by rw [HX.out.2.2]; exact HX.out.1.var (by omega) HV.out, HX.out.2.1.setCell (by simp) _⟩
          case measure => simp [intOf]; omega
        · go_wp2_with (go_at_call 55; refine (l1In_yes (by omega) _).mono ?_; rintro e w' ⟨rfl, rfl⟩)
          go_roundw
          case rel => exact ⟨k + 1, by omega, by go_num, by rw [HX.out.2.2]; exact HX.out.1.var (by omega) HV.out, HX.out.2.1.setCell (by simp) _⟩
          case measure => simp [intOf]; omega
        · go_wp2_with (go_at_call 55; refine (l1In_yes (by omega) _).mono ?_; rintro e w' ⟨rfl, rfl⟩)
          go_roundw
          case rel => exact ⟨k + 1, by omega, by go_num, by rw [HX.out.2.2]; exact HX.out.1.var (by omega) HV.out, HX.out.2.1.setCell (by simp) _⟩
          case measure => simp [intOf]; omega
      · have HK := Lib.hid (l1In_no he)
        have HX := Lib.hid (show MkRow wr g (maskFrom m (xs.take (k + 1))) by rw [htk]; unfold orV; rw [if_neg (by simp [isVarB]; omega)]; exact hx)
        clear he hx htk
        go_wp2_with (go_at_call 55; refine (HK.out _).mono ?_; rintro e w' ⟨rfl, rfl⟩)
        go_roundw
        case rel => exact ⟨k + 1, by omega, by go_num, HX.out, hon⟩
        case measure => simp [intOf]; omega
    · have HX := Lib.hid (show MkRow wr g (maskFrom m xs) by rw [show k = xs.length by omega, List.take_length] at hx; exact hx)
      clear hx
      go_wp2_with (fail)
      go_end0
      exact ⟨rfl, HX.out, hon⟩

theorem MkRow.only {lo hi : Nat} {w w' : World} {g m : Nat} (h : MkRow w g m) (ho : Only lo hi w w') (hg : g < lo ∨ hi ≤ g) : MkRow w' g m := (ho.block g h.lt hg).trans h
theorem made4 : madeCells #[Value.bool false] 4 = #[.bool false, .bool false, .bool false, .bool false] := by
  apply Array.ext
  · simp [madeCells]
  · intro i h1 h2
    simp [madeCells]
    match i, h2 with
    | 0, _ => rfl
    | 1, _ => rfl
    | 2, _ => rfl
    | 3, _ => rfl
theorem MkRow.made (w : World) : MkRow (w.alloc (.cells (madeCells #[.bool false] 4) 4)) w.heap.size 0 := by
  rw [made4]
  exact Blk.new w _ _
theorem Tryz.infoBool : (Tryz.prog.info? 4).map (fun i => (i.zero, i.size, i.bytes)) = some (some (.bool false), 1, 1) := by kernel_rfl

theorem make4 (W : World) : (Instr.makeSlice 171 (.int .i64 4) (.int .i64 4)).run Tryz.prog W = .ok (.slice (some ⟨W.heap.size, 0, none⟩) 4 4) (W.alloc (.cells (madeCells #[.bool false] 4) 4)) := by
  obtain ⟨i0, hi0, hz0, hz1, hz2⟩ := info_parts Tryz.infoBool
  have hmk := run_make_rowN (P := Tryz.prog) 171 4 i0 (.bool false) Tryz.underlying171 hi0 hz0 .i64 .i64 4 4 (Nat.le_refl _) (by rw [hz2]; omega) (by omega) W
  rw [hz1] at hmk
  simp only [Value.cells, Nat.mul_one] at hmk
  exact hmk

set_option maxHeartbeats 1000000 in
set_option maxRecDepth 100000 in
theorem l2Marks_any (v : Value) (r : LRule) (w : World) (h : RdRule w w.heap.size v r) (hr : szR r ≤ 1048576) :
    Calls Tryz.prog 132 #[v] w fun e w' => ∃ g, e = .returned (.slice (some ⟨g, 0, none⟩) 4 4) ∧ MkRow w' g (ruleMask r) ∧ w.heap.size ≤ g ∧ Below w.heap.size w w' := by
  have hmk := make4
  obtain ⟨a, b, rfl, h, h2⟩ := h
  unfold szR at hr
  have H := Lib.hid h
  have H2 := Lib.hid h2
  obtain ⟨A, c, rfl, hc, _⟩ := h
  obtain ⟨A2, c2, rfl, hcc, _⟩ := h2
  go_enter Tryz.func132, Tryz.ntmps132
  go_wp2_with (fail)
  obtain ⟨w1, hw1⟩ : ∃ w1, w1 = w.alloc (Obj.cells #[Value.int IntKind.i64 r.1.1, Value.slice A r.1.2.length c, Value.slice A2 r.2.length c2] 38) := ⟨_, rfl⟩
  have B1 : Below w.heap.size w w1 := by rw [hw1]; exact below1 _ _
  have s1 : w1.heap.size = w.heap.size + 1 := by rw [hw1]; simp
  have x1 : Blk w1 w.heap.size 38 #[.int .i64 r.1.1, .slice A r.1.2.length c, .slice A2 r.2.length c2] := by rw [hw1]; exact Blk.new w _ _
  obtain ⟨w2, hw2⟩ : ∃ w2, w2 = w1.alloc (Obj.cells (madeCells #[Value.bool false] 4) 4) := ⟨_, rfl⟩
  have m2 : MkRow w2 (w.heap.size + 1) 0 := by rw [hw2, ← s1]; exact MkRow.made _
  have b2 : Below w1.heap.size w1 w2 := by rw [hw2]; exact below1 _ _
  have x2 := x1.below b2 x1.lt
  have B2 := bthen B1 b2
  rw [← hw1, ← hw2]
  clear hw1 hw2
  refine (l2Mark_any (w.heap.size + 1) 0 _ r.1.2 _ m2 ((H.out.below B2 (Nat.le_refl _)).more (by omega)) (by omega)).mono ?_
  rintro e w3 ⟨rfl, m3, on3⟩
  have x3 := x2.only on3 (.inl (by omega))
  have B3 : Below w.heap.size w w3 := Only.then_ B2 on3 (by omega)
  have q3 : w3.cell? ⟨w.heap.size, 2, none⟩ = some (.slice A2 r.2.length c2) := x3.cell 2
  rw [maskFrom_eq, Nat.zero_or] at m3
  clear x1 x2 m2
  go_wp2_with (fail)
  go_loopw [4] (fun i wr => ∃ k : Nat, k ≤ r.2.length ∧ i = .int .i64 k ∧ MkRow wr (w.heap.size + 1) (maskOf r.1.2 ||| bodyMask (r.2.take k)) ∧ Only (w.heap.size + 1) (w.heap.size + 2) w3 wr) (fun i _ => r.2.length - (intOf i).toNat)
  case atStart => exact ⟨0, Nat.zero_le _, rfl, by simpa [bodyMask] using m3, Only.refl _ _ _⟩
  case round =>
    obtain ⟨k, hk, rfl, hm, hon⟩ := hrel
    have BW : Below w.heap.size w wr := Only.then_ B3 hon (by omega)
    have xr := x3.only hon (.inl (by omega))
    have q2 : wr.cell? ⟨w.heap.size, 2, none⟩ = some (.slice A2 r.2.length c2) := xr.cell 2
    clear q3
    by_cases hlt : k < r.2.length
    · obtain ⟨b, o, u0, u1, u2, rfl, hbB, k0, k1, k2, rfl, rfl, p3⟩ := (H2.out.below BW (Nat.le_refl _)).get hlt
      have HA := Lib.hid p3
      obtain ⟨A3, c3, rfl, hc3, _⟩ := p3
      have hle := len_le_totL r.2 k hlt
      go_wp2_with (fail)
      refine (l2Mark_any (w.heap.size + 1) _ _ r.2[k].2.2 _ hm (HA.out.more (by omega)) (by omega)).mono ?_
      rintro e w4 ⟨rfl, m4, on4⟩
      rw [maskFrom_eq, Nat.or_assoc, ← bodyMask_take hlt] at m4
      go_wp2_with (fail)
      go_roundw
      case rel => exact ⟨k + 1, by omega, by go_num, m4, hon.trans on4⟩
      case measure => simp [intOf]; omega
    · have HX := Lib.hid (show MkRow wr (w.heap.size + 1) (ruleMask r) by rw [show k = r.2.length by omega, List.take_length] at hm; exact hm)
      clear hm
      go_wp2_with (fail)
      go_ret
      exact ⟨_, rfl, HX.out, by omega, BW⟩

end Go.Proofs.YtokmmloakahkhaaGreatDoor
/-
  The walk of the specification's RuleSafe.
-/
namespace Go.Proofs.YtokmmloakahkhaaGreatDoor
open Go.RowKit

def safeTo (a b k : Nat) : Bool := (List.range k).all fun i => !(a.testBit i && !b.testBit i)
theorem safe_bits : ∀ a b : Fin 16, (bits .andNot .u64 ((a.val : Nat) : Int) ((b.val : Nat) : Int) == 0) = safeTo a.val b.val 4 := by decide +kernel
theorem ruleSafe_eq (r : LRule) : ruleSafe r = safeTo (ruleMask r) (yesMask r.2) 4 := safe_bits ⟨ruleMask r, ruleMask_lt r⟩ ⟨yesMask r.2, yesMask_lt' r.2⟩
theorem safeTo_step {a b k : Nat} (h : safeTo a b k = true) (e : (a.testBit k && !b.testBit k) = false) : safeTo a b (k + 1) = true := by
  unfold safeTo at h ⊢
  rw [List.range_succ, List.all_append, h, Bool.true_and]
  simp only [List.all_cons, List.all_nil, e]
  rfl
theorem safeTo_not {a b k : Nat} (hk : k < 4) (e : (a.testBit k && !b.testBit k) = true) : safeTo a b 4 = false := by
  unfold safeTo
  rw [List.all_eq_false]
  exact ⟨k, List.mem_range.2 hk, by simp [e]⟩

set_option maxHeartbeats 1000000 in
set_option maxRecDepth 100000 in
theorem specRuleSafe_any (v : Value) (r : LRule) (w : World) (h : RdRule w w.heap.size v r) (hr : szR r ≤ 1048576) :
    Calls Tryz.prog 88 #[v] w fun e w' => e = .returned (.bool (ruleSafe r)) ∧ Below w.heap.size w w' := by
  have hmk := make4
  obtain ⟨a, b, rfl, h, h2⟩ := h
  have hsz := hr
  unfold szR at hr
  have H := Lib.hid h
  have H2 := Lib.hid h2
  obtain ⟨A, c, rfl, hc, _⟩ := h
  obtain ⟨A2, c2, rfl, hcc, _⟩ := h2
  go_enter Tryz.func88, Tryz.ntmps88
  go_wp2_with (fail)
  obtain ⟨w1, hw1⟩ : ∃ w1, w1 = w.alloc (Obj.cells #[Value.int IntKind.i64 r.1.1, Value.slice A r.1.2.length c, Value.slice A2 r.2.length c2] 38) := ⟨_, rfl⟩
  have B1 : Below w.heap.size w w1 := by rw [hw1]; exact below1 _ _
  have s1 : w1.heap.size = w.heap.size + 1 := by rw [hw1]; simp
  have x1 : Blk w1 w.heap.size 38 #[.int .i64 r.1.1, .slice A r.1.2.length c, .slice A2 r.2.length c2] := by rw [hw1]; exact Blk.new w _ _
  obtain ⟨w2, hw2⟩ : ∃ w2, w2 = w1.alloc (Obj.cells (madeCells #[Value.bool false] 4) 4) := ⟨_, rfl⟩
  have m2 : MkRow w2 (w.heap.size + 1) 0 := by rw [hw2, ← s1]; exact MkRow.made _
  have b2 : Below w1.heap.size w1 w2 := by rw [hw2]; exact below1 _ _
  have x2 := x1.below b2 x1.lt
  have B2 := bthen B1 b2
  have s2 : w2.heap.size = w.heap.size + 2 := by rw [hw2]; simp [s1]
  rw [← hw1, ← hw2]
  clear hw1 hw2
  go_loopw [4] (fun i wr => ∃ k : Nat, k ≤ r.2.length ∧ i = .int .i64 k ∧ MkRow wr (w.heap.size + 1) (yesMask (r.2.take k)) ∧ Only (w.heap.size + 1) (w.heap.size + 2) w2 wr) (fun i _ => r.2.length - (intOf i).toNat)
  case atStart => exact ⟨0, Nat.zero_le _, rfl, by simpa [yesMask] using m2, Only.refl _ _ _⟩
  case round =>
    obtain ⟨k, hk, rfl, hm, hon⟩ := hrel
    have BW : Below w.heap.size w wr := Only.then_ B2 hon (by omega)
    have xr := x2.only hon (.inl (by omega))
    have q0 : wr.cell? ⟨w.heap.size, 0, none⟩ = some (.int .i64 r.1.1) := xr.cell 0
    have q1 : wr.cell? ⟨w.heap.size, 1, none⟩ = some (.slice A r.1.2.length c) := xr.cell 1
    have q2 : wr.cell? ⟨w.heap.size, 2, none⟩ = some (.slice A2 r.2.length c2) := xr.cell 2
    by_cases hlt : k < r.2.length
    · obtain ⟨b, o, u0, u1, u2, rfl, hbB, k0, k1, k2, rfl, rfl, p3⟩ := (H2.out.below BW (Nat.le_refl _)).get hlt
      have HA := Lib.hid p3
      obtain ⟨A3, c3, rfl, hc3, _⟩ := p3
      have hle := len_le_totL r.2 k hlt
      have hty := yesMask_take hlt
      by_cases h0 : r.2[k].1 = 0
      · have hd : (r.2[k].1 == 0) = true := by simpa using h0
        rw [if_pos h0] at hty
        clear h0
        go_wp2_with (fail)
        refine (l2Mark_any (w.heap.size + 1) _ _ r.2[k].2.2 _ hm (HA.out.more (by omega)) (by omega)).mono ?_
        rintro e w4 ⟨rfl, m4, on4⟩
        rw [maskFrom_eq, ← hty] at m4
        clear hty
        go_wp2_with (fail)
        go_roundw
        case rel => exact ⟨k + 1, by omega, by go_num, m4, hon.trans on4⟩
        case measure => simp [intOf]; omega
      · have hd : (r.2[k].1 == 0) = false := by simpa using h0
        rw [if_neg h0] at hty
        rw [← hty] at hm
        have HM := Lib.hid hm
        clear hty hm h0
        go_wp2_with (fail)
        go_roundw
        case rel => exact ⟨k + 1, by omega, by go_num, HM.out, hon⟩
        case measure => simp [intOf]; omega
    · have HX := Lib.hid (show MkRow wr (w.heap.size + 1) (yesMask r.2) by rw [show k = r.2.length by omega, List.take_length] at hm; exact hm)
      have hgs := hm.lt
      clear hm
      go_wp2_with (fail)
      refine (l2Marks_any _ r _ ⟨_, _, rfl, H.out.on BW, H2.out.on BW⟩ hsz).mono ?_
      rintro e w5 ⟨g2, rfl, m5, hg2, hb5⟩
      have B5 := bthen BW hb5
      have y5 := HX.out.below hb5 hgs
      have HE := Lib.hid (ruleSafe_eq r)
      go_wp2_with (fail)
      go_loop [6] (fun i => ∃ k : Nat, k ≤ 4 ∧ i = .int .i64 k ∧ safeTo (ruleMask r) (yesMask r.2) k = true) (fun i => 4 - (intOf i).toNat)
      case atStart => exact ⟨0, Nat.zero_le _, rfl, by simp [safeTo]⟩
      case round =>
        obtain ⟨j, hj, rfl, hs⟩ := hrel
        by_cases hjl : j < 4
        · have c5 := m5.cell hjl
          have d5 := y5.cell hjl
          cases ha : (ruleMask r).testBit j
          · rw [ha] at c5
            have HS := Lib.hid (safeTo_step hs (by rw [ha]; rfl))
            clear hs ha
            go_wp2_with (fail)
            go_round
            case rel => exact ⟨j + 1, by omega, by go_num, HS.out⟩
            case measure => simp [intOf]; omega
          · rw [ha] at c5
            cases hb : (yesMask r.2).testBit j
            · rw [hb] at d5
              have HS := Lib.hid (safeTo_not hjl (show ((ruleMask r).testBit j && !(yesMask r.2).testBit j) = true by rw [ha, hb]; rfl))
              clear hs ha hb
              go_wp2_with (fail)
              go_ret
              exact ⟨ret_bool (by rw [HE.out, HS.out]), B5⟩
            · rw [hb] at d5
              have HS := Lib.hid (safeTo_step hs (by rw [ha, hb]; rfl))
              clear hs ha hb
              go_wp2_with (fail)
              go_round
              case rel => exact ⟨j + 1, by omega, by go_num, HS.out⟩
              case measure => simp [intOf]; omega
        · have HS := Lib.hid (show safeTo (ruleMask r) (yesMask r.2) 4 = true by rw [show j = 4 by omega] at hs; exact hs)
          clear hs
          go_wp2_with (fail)
          go_ret
          exact ⟨ret_bool (by rw [HE.out, HS.out]), B5⟩

end Go.Proofs.YtokmmloakahkhaaGreatDoor
/-
  ruleVars.
-/
namespace Go.Proofs.YtokmmloakahkhaaGreatDoor
open Go.RowKit

set_option maxHeartbeats 400000 in
theorem ruleVars_any (v : Value) (r : LRule) (w : World) (h : RdRule w w.heap.size v r) (hr : szR r ≤ 1048576) :
    Calls Tryz.prog 130 #[v] w fun e w' => e = .returned (.int .u64 (ruleMask r : Nat)) ∧ Below w.heap.size w w' := by
  obtain ⟨a, b, rfl, h, h2⟩ := h
  unfold szR at hr
  have HW := Lib.hid (show bits .or .u64 ((maskOf r.1.2 : Nat) : Int) ((bodyMask r.2 : Nat) : Int) = (ruleMask r : Nat) from or_word (maskOf_lt _) (bodyMask_lt' _))
  obtain ⟨w1, hw1⟩ : ∃ w1, w1 = w.alloc (Obj.cells #[Value.int IntKind.i64 r.1.1, a, b] 38) := ⟨_, rfl⟩
  have B1 : Below w.heap.size w w1 := by rw [hw1]; exact below1 _ _
  have C1 := Lib.hid (fun x : Later w1 => later_same (argVars_any a r.1.2 _ x.val ((h.on B1).on x.2) (by omega)))
  have C2 := Lib.hid (fun x : Later w1 => later_of (bodyVars_any b r.2 x.val ((h2.on B1).on x.2) (by omega) (by omega)))
  obtain ⟨A, c, rfl, hc, _⟩ := h
  obtain ⟨A2, c2, rfl, hc2, _⟩ := h2
  have x1 : Blk w1 w.heap.size 38 #[.int .i64 r.1.1, .slice A r.1.2.length c, .slice A2 r.2.length c2] := by rw [hw1]; exact Blk.new w _ _
  have M1 := later_cell (x1.cell 1 : w1.cell? ⟨w.heap.size, 1, none⟩ = some (.slice A r.1.2.length c))
  have M2 := later_cell (x1.cell 2 : w1.cell? ⟨w.heap.size, 2, none⟩ = some (.slice A2 r.2.length c2))
  go_enter Tryz.func130, Tryz.ntmps130
  go_wp2_with (fail)
  rw [← hw1]
  clear hw1
  refine wp_region_later (by kernel_rfl) (by kernel_rfl) ?_
  repeat (go_big_quiet_step (first | (go_at_call 106; exact C1.out _) | (go_at_call 89; exact C2.out _)))
  refine wpQuiet_nil ?_
  rintro _ ⟨xq, rfl⟩
  go_wp2_with (fail)
  go_ret
  exact ⟨ret_int HW.out, bthen B1 xq.2⟩

end Go.Proofs.YtokmmloakahkhaaGreatDoor
