/-
  Texts that the claim's last one imports, laid together: part 3 of 6. No condition of its own.
-/
import Derived.OrdersHeld
import Derived.Deep.RegionHeld3
import Derived.Deep.RegionWith
import Derived.Deep.RegionLaw
import Derived.Laws.BitsAllLaws
import Derived.Deep.DeepCutAuto
import Derived.Test.YtchincemlilnoaaMRt1
import Derived.Test.YtchincemlilnoaaMRt2
/-
  Regions that draw their order and end in a store to a cell that they load: the condition on the world holds until operation t has come up, and is released then. Laws of any program.
-/
namespace Go.Proofs.Ytchincemlilnoaa
open Go

section
variable {P : Program} {ops : Array Oper} {Q : Exit → Act → World → Prop} {md : Region.Mode} {S : World → Prop} {t : Nat}

/-- Whatever order is picked from here on, and S holds behind each operation that is carried out, until t has come up. -/
def wpAnyR (P : Program) (md : Region.Mode) (ops : Array Oper) (Q : Exit → Act → World → Prop) (S : World → Prop) (t : Nat) : Nat → Array Bool → Act → World → Prop
  | 0, listed, a, w => Region.ready md ops listed = [] ∧ Q .normal a w
  | fuel + 1, listed, a, w =>
    (Region.ready md ops listed = [] → Q .normal a w) ∧
    ∀ i ∈ Region.ready md ops listed, wpOp P ops Q i (fun a' w' => ((listed.setIfInBounds i true).getD t true = false → S w') ∧ wpAnyR P md ops Q S t fuel (listed.setIfInBounds i true) a' w') a w

theorem wpAny_of_rel : ∀ (fuel : Nat) (listed : Array Bool) (a : Act) (w : World), wpAnyR P md ops Q S t fuel listed a w → wpAny P md ops Q fuel listed a w
  | 0, _, _, _, h => h
  | fuel + 1, _, _, _, h => ⟨h.1, fun i hi => wpOp_mono (fun a' w' h' => wpAny_of_rel fuel _ a' w' h'.2) (h.2 i hi)⟩

/-- None of D has come up, and each waits for i or for one of D. -/
def blockedB (md : Region.Mode) (ops : Array Oper) (listed : Array Bool) (i : Nat) (D : List Nat) : Bool :=
  !D.contains i && D.all fun d => !listed.getD d true && ((ops[d]?).map fun o => o.after.any fun e => Region.binds md e && (e.on == i || D.contains e.on)).getD false

/-- None of D may come up while i has not. -/
theorem not_ready_of_blocked {listed : Array Bool} {i : Nat} {D : List Nat} (h : blockedB md ops listed i D = true) (hi : listed.getD i true = false) {d : Nat} (hd : d ∈ D) : d ∉ Region.ready md ops listed := by
  intro hr
  obtain ⟨_, o, ho, hall⟩ := mem_ready.1 hr
  simp only [blockedB, Bool.and_eq_true, List.all_eq_true] at h
  have h2 := (h.2 d hd).2
  rw [ho] at h2
  simp only [Option.map_some, Option.getD_some, Array.any_eq_true', Bool.and_eq_true, Bool.or_eq_true, beq_iff_eq] at h2
  obtain ⟨e, he, hb, hon⟩ := h2
  have hl := hall e he hb
  have un : ∀ k : Nat, listed.getD k true = false → listed.getD k false = true → False := by
    intro k h1 h2
    rcases Nat.lt_or_ge k listed.size with h' | h'
    · simp [h'] at h1 h2
      rw [h1] at h2
      cases h2
    · simp [Array.getElem?_eq_none h'] at h1
  rcases hon with e1 | e1
  · rw [e1] at hl
    exact un i hi hl
  · have h3 := (h.2 e.on (by simpa using e1)).1
    exact un _ (by simpa using h3) hl

theorem blocked_set {listed : Array Bool} {i j : Nat} {D : List Nat} (h : blockedB md ops listed i D = true) (hj : j ∉ D) : blockedB md ops (listed.setIfInBounds j true) i D = true := by
  simp only [blockedB, Bool.and_eq_true, List.all_eq_true] at h ⊢
  refine ⟨h.1, fun d hd => ?_⟩
  have := h.2 d hd
  refine ⟨?_, this.2⟩
  rw [getD_set_ne true (show j ≠ d from fun e => hj (by rw [e]; exact hd))]
  exact this.1

theorem wpAnyR_first {i : Nat} {oi : Oper} {v : Value} {D : List Nat} (hi : ops[i]? = some oi) (hsel : ∀ (j : Nat) (o : Oper) cs b, ops[j]? = some o → o.op ≠ .select cs b)
    (hQ : ∀ c a w, Q (.panic c) (a.put oi.dst v) w → Q (.panic c) a w) (ht : t ∈ D) :
    ∀ (fuel : Nat) (listed : Array Bool) (a : Act) (w : World),
      (∀ j oj, ops[j]? = some oj → j ≠ i → listed.getD j true = false → (∀ e ∈ oj.after, Region.binds md e = true → e.on ≠ i) → oi.apart ops oj = true) →
      i ∈ Region.ready md ops listed → blockedB md ops listed i D = true → YieldsIf P ops S oi v a → S w →
      wpAnyR P md ops Q S t fuel (listed.setIfInBounds i true) (a.put oi.dst v) w → wpAnyR P md ops Q S t (fuel + 1) listed a w := by
  intro fuel
  induction fuel with
  | zero =>
    intro listed a w _ hr hbl hy hS H
    refine ⟨fun h => (by rw [h] at hr; cases hr), fun j hj => ?_⟩
    by_cases hji : j = i
    · subst hji; exact hy.wpOp hi hS ⟨fun _ => hS, H⟩
    · have := ready_mono hj hji
      rw [H.1] at this
      cases this
  | succ fuel ih =>
    intro listed a w hfree hr hbl hy hS H
    refine ⟨fun h => (by rw [h] at hr; cases hr), fun j hj => ?_⟩
    by_cases hji : j = i
    · subst hji; exact hy.wpOp hi hS ⟨fun _ => hS, H⟩
    · have h1 := H.2 j (ready_mono hj hji)
      have hjD : j ∉ D := fun hd => not_ready_of_blocked hbl (mem_ready.1 hr).1 hd hj
      have hiD : i ∉ D := by
        simp only [blockedB, Bool.and_eq_true] at hbl
        simpa using hbl.1
      have htl : listed.getD t true = false := by
        simp only [blockedB, Bool.and_eq_true, List.all_eq_true] at hbl
        simpa using (hbl.2 t ht).1
      have htl2 : ((listed.setIfInBounds i true).setIfInBounds j true).getD t true = false := by
        rw [getD_set_ne true (show j ≠ t from fun e => hjD (by rw [e]; exact ht)), getD_set_ne true (show i ≠ t from fun e => hiD (by rw [e]; exact ht))]
        exact htl
      obtain ⟨hjun, oj, hoj, hall⟩ := mem_ready.1 hj
      have hnot : ∀ e ∈ oj.after, Region.binds md e = true → e.on ≠ i := fun e he hb heq => by
        have h1 := hall e he hb
        have h0 := (mem_ready.1 hr).1
        rw [heq] at h1
        rcases Nat.lt_or_ge i listed.size with h' | h'
        · simp [h'] at h0 h1; rw [h0] at h1; cases h1
        · simp [Array.getElem?_eq_none h'] at h1
      have h2 := wpOp_putIf hoj (hfree j oj hoj hji hjun hnot) (fun cs b => hsel i oi cs b hi) (fun cs b => hsel j oj cs b hoj) hQ hy h1
      have hfree' : ∀ k ok, ops[k]? = some ok → k ≠ i → (listed.setIfInBounds j true).getD k true = false →
          (∀ e ∈ ok.after, Region.binds md e = true → e.on ≠ i) → oi.apart ops ok = true := fun k ok hk hki hun hno => by
        refine hfree k ok hk hki ?_ hno
        by_cases hjk : j = k
        · subst hjk; exact hjun
        · rw [getD_set_ne true hjk] at hun; exact hun
      refine wpOp_mono (fun a' w' h3 => ⟨fun _ => h3.2.1 htl2, ih (listed.setIfInBounds j true) a' w' hfree' (ready_mono hr (Ne.symm hji)) (blocked_set hbl hjD) h3.1 (h3.2.1 htl2) ?_⟩) h2
      rw [Array.setIfInBounds_comm _ _ hji]
      exact h3.2.2

/-- What waits for i, at once or over others. -/
def descOf (md : Region.Mode) (ops : Array Oper) (i : Nat) : List Nat :=
  (List.range ops.size).foldl (fun D k => if ((ops[k]?).map fun o => o.after.any fun e => Region.binds md e && (e.on == i || D.contains e.on)).getD false then D ++ [k] else D) []
/-- All that is asked of a take, as one Bool. -/
def takeOk (md : Region.Mode) (ops : Array Oper) (listed : Array Bool) (i t : Nat) : Bool :=
  Region.noSelect ops && Region.free md ops listed i && (Region.ready md ops listed).contains i && blockedB md ops listed i (descOf md ops i) && (descOf md ops i).contains t
def pureOk (md : Region.Mode) (ops : Array Oper) (listed : Array Bool) (i : Nat) : Bool :=
  Region.noSelect ops && Region.free md ops listed i && (Region.ready md ops listed).contains i

/-- Take number i first: what it reads holds in every world that meets S, and t waits for it. -/
theorem wpAnyR_take {i d : Nat} {oi : Oper} (v : Value) {fuel : Nat} {listed : Array Bool} {a : Act} {w : World} (hi : ops[i]? = some oi) (hd : oi.dst = some d)
    (hok : takeOk md ops listed i t = true)
    (hQ : ∀ c a w, Q (.panic c) (a.put oi.dst v) w → Q (.panic c) a w) (hw : Region.wanted oi (yielded ops a.tmps) = true) (hy : ∀ w, S w → (execOp a.eval oi).run P w = .ok (.value v) w) (hS : S w)
    (h : wpAnyR P md ops Q S t fuel (listed.setIfInBounds i true) { a with tmps := a.tmps.setIfInBounds d v } w) : wpAnyR P md ops Q S t (fuel + 1) listed a w := by
  have h : wpAnyR P md ops Q S t fuel (listed.setIfInBounds i true) (a.put oi.dst v) w := by rw [hd]; exact h
  simp only [takeOk, Bool.and_eq_true] at hok
  obtain ⟨⟨⟨⟨h1, h2⟩, h3⟩, h4⟩, h5⟩ := hok
  exact wpAnyR_first hi (Region.noSelect_spec h1) hQ (by simpa using h5) fuel listed a w (Region.free_spec hi h2) (by simpa using h3) h4 (.inl ⟨hw, hy⟩) hS h

theorem wpAnyR_first0 {i : Nat} {oi : Oper} {v : Value} (hi : ops[i]? = some oi) (hsel : ∀ (j : Nat) (o : Oper) cs b, ops[j]? = some o → o.op ≠ .select cs b)
    (hQ : ∀ c a w, Q (.panic c) (a.put oi.dst v) w → Q (.panic c) a w) :
    ∀ (fuel : Nat) (listed : Array Bool) (a : Act) (w : World),
      (∀ j oj, ops[j]? = some oj → j ≠ i → listed.getD j true = false → (∀ e ∈ oj.after, Region.binds md e = true → e.on ≠ i) → oi.apart ops oj = true) →
      i ∈ Region.ready md ops listed → YieldsIf P ops (fun _ => True) oi v a → (listed.getD t true = false → S w) → t ≠ i →
      wpAnyR P md ops Q S t fuel (listed.setIfInBounds i true) (a.put oi.dst v) w → wpAnyR P md ops Q S t (fuel + 1) listed a w := by
  intro fuel
  induction fuel with
  | zero =>
    intro listed a w _ hr hy hS hti H
    refine ⟨fun h => (by rw [h] at hr; cases hr), fun j hj => ?_⟩
    by_cases hji : j = i
    · subst hji; exact hy.wpOp hi trivial ⟨fun h => hS (by rwa [getD_set_ne true (Ne.symm hti)] at h), H⟩
    · have := ready_mono hj hji
      rw [H.1] at this
      cases this
  | succ fuel ih =>
    intro listed a w hfree hr hy hS hti H
    refine ⟨fun h => (by rw [h] at hr; cases hr), fun j hj => ?_⟩
    by_cases hji : j = i
    · subst hji; exact hy.wpOp hi trivial ⟨fun h => hS (by rwa [getD_set_ne true (Ne.symm hti)] at h), H⟩
    · have h1 := H.2 j (ready_mono hj hji)
      obtain ⟨hjun, oj, hoj, hall⟩ := mem_ready.1 hj
      have hnot : ∀ e ∈ oj.after, Region.binds md e = true → e.on ≠ i := fun e he hb heq => by
        have h1 := hall e he hb
        have h0 := (mem_ready.1 hr).1
        rw [heq] at h1
        rcases Nat.lt_or_ge i listed.size with h' | h'
        · simp [h'] at h0 h1; rw [h0] at h1; cases h1
        · simp [Array.getElem?_eq_none h'] at h1
      have h2 := wpOp_putIf hoj (hfree j oj hoj hji hjun hnot) (fun cs b => hsel i oi cs b hi) (fun cs b => hsel j oj cs b hoj) hQ hy h1
      have hfree' : ∀ k ok, ops[k]? = some ok → k ≠ i → (listed.setIfInBounds j true).getD k true = false →
          (∀ e ∈ ok.after, Region.binds md e = true → e.on ≠ i) → oi.apart ops ok = true := fun k ok hk hki hun hno => by
        refine hfree k ok hk hki ?_ hno
        by_cases hjk : j = k
        · subst hjk; exact hjun
        · rw [getD_set_ne true hjk] at hun; exact hun
      have hback : ∀ {W : World}, (((listed.setIfInBounds i true).setIfInBounds j true).getD t true = false → S W) → ((listed.setIfInBounds j true).getD t true = false → S W) := fun h hl => h (by
        rw [Array.setIfInBounds_comm _ _ (Ne.symm hji), getD_set_ne true (Ne.symm hti)]
        exact hl)
      refine wpOp_mono (fun a' w' h3 => ⟨hback h3.2.1, ih (listed.setIfInBounds j true) a' w' hfree' (ready_mono hr (Ne.symm hji)) h3.1 (hback h3.2.1) hti ?_⟩) h2
      rw [Array.setIfInBounds_comm _ _ hji]
      exact h3.2.2
/-- Take number i first: it yields its value in whatever world. -/
theorem wpAnyR_pure {i d : Nat} {oi : Oper} (v : Value) {fuel : Nat} {listed : Array Bool} {a : Act} {w : World} (hi : ops[i]? = some oi) (hd : oi.dst = some d)
    (hok : pureOk md ops listed i = true) (hti : t ≠ i)
    (hQ : ∀ c a w, Q (.panic c) (a.put oi.dst v) w → Q (.panic c) a w) (hw : Region.wanted oi (yielded ops a.tmps) = true) (hy : ∀ w, (execOp a.eval oi).run P w = .ok (.value v) w) (hS : listed.getD t true = false → S w)
    (h : wpAnyR P md ops Q S t fuel (listed.setIfInBounds i true) { a with tmps := a.tmps.setIfInBounds d v } w) : wpAnyR P md ops Q S t (fuel + 1) listed a w := by
  have h : wpAnyR P md ops Q S t fuel (listed.setIfInBounds i true) (a.put oi.dst v) w := by rw [hd]; exact h
  simp only [pureOk, Bool.and_eq_true] at hok
  obtain ⟨⟨h1, h2⟩, h3⟩ := hok
  exact wpAnyR_first0 hi (Region.noSelect_spec h1) hQ fuel listed a w (Region.free_spec hi h2) (by simpa using h3) (.inl ⟨hw, fun w _ => hy w⟩) hS hti h

/-- The one that may come up. -/
theorem wpAnyR_one {i : Nat} {o : Oper} {fuel : Nat} {listed : Array Bool} {a : Act} {w : World} (hr : Region.ready md ops listed = [i]) (ho : ops[i]? = some o)
    (h : ∀ K' : Act → World → Prop, Shut (∀ a w, ((listed.setIfInBounds i true).getD t true = false → S w) → wpAnyR P md ops Q S t fuel (listed.setIfInBounds i true) a w → K' a w) → if Region.wanted o (yielded ops a.tmps) = true then Oper.wp P o a w K' Q else K' (a.put o.dst undef) w) :
    wpAnyR P md ops Q S t (fuel + 1) listed a w := by
  refine ⟨fun h0 => (by rw [hr] at h0; cases h0), fun j hj => ?_⟩
  rw [hr] at hj
  obtain rfl : j = i := by simpa using hj
  exact wpOp_step ho (fun K' hK => h K' (fun a w hS hW => hK a w ⟨hS, hW⟩))

/-- The two that may come up. -/
theorem wpAnyR_two {i j : Nat} {oi oj : Oper} {fuel : Nat} {listed : Array Bool} {a : Act} {w : World} (hr : Region.ready md ops listed = [i, j]) (hi : ops[i]? = some oi) (hj : ops[j]? = some oj)
    (h1 : ∀ K' : Act → World → Prop, Shut (∀ a w, ((listed.setIfInBounds i true).getD t true = false → S w) → wpAnyR P md ops Q S t fuel (listed.setIfInBounds i true) a w → K' a w) → if Region.wanted oi (yielded ops a.tmps) = true then Oper.wp P oi a w K' Q else K' (a.put oi.dst undef) w)
    (h2 : ∀ K' : Act → World → Prop, Shut (∀ a w, ((listed.setIfInBounds j true).getD t true = false → S w) → wpAnyR P md ops Q S t fuel (listed.setIfInBounds j true) a w → K' a w) → if Region.wanted oj (yielded ops a.tmps) = true then Oper.wp P oj a w K' Q else K' (a.put oj.dst undef) w) :
    wpAnyR P md ops Q S t (fuel + 1) listed a w := by
  refine ⟨fun h0 => (by rw [hr] at h0; cases h0), fun k hk => ?_⟩
  rw [hr] at hk
  rcases List.mem_cons.1 hk with rfl | hk
  · exact wpOp_step hi (fun K' hK => h1 K' (fun a w hS hW => hK a w ⟨hS, hW⟩))
  · obtain rfl : k = j := by simpa using hk
    exact wpOp_step hj (fun K' hK => h2 K' (fun a w hS hW => hK a w ⟨hS, hW⟩))

theorem wpAnyR_done {fuel : Nat} {listed : Array Bool} {a : Act} {w : World} (hr : Region.ready md ops listed = []) (h : Q .normal a w) : wpAnyR P md ops Q S t fuel listed a w := by
  cases fuel with
  | zero => exact ⟨hr, h⟩
  | succ fuel => exact ⟨fun _ => h, fun j hj => (by rw [hr] at hj; cases hj)⟩

theorem wp_region_rel (S : World → Prop) (t n : Nat) {id : Nat} {a : Act} {w : World} (hm : P.follows .mixedOrders = true) (hn : ops.size = n)
    (h : wpAnyR P .any ops Q S t n (Array.replicate n false) a w.drew) : (Code.region id ops true).wp P Q a w :=
  wp_region_any hm (wpAny_of_rel _ _ _ _ (hn ▸ h))

end
end Go.Proofs.Ytchincemlilnoaa
/-
  RelPick of the specification; l9Col.
-/
namespace Go.Proofs.Ytchincemlilnoaa
open Go.RowKit

def colIn (m : Int) (c : Int) : Bool := decide (0 ≤ c ∧ c < m)
/-- What a row has in a column. -/
def rowI (row : List Int) (c : Int) : Int := row.getD c.toNat 0
open Classical in
noncomputable def pickR (r : LRel) (col c : Int) : LRel := if RelP r ∧ colIn r.1 col = true then (r.1, r.2.filter fun row => rowI row col == c) else (0, [])
theorem pickR_yes {r : LRel} {col c : Int} (h : relB r = true) (h2 : colIn r.1 col = true) : pickR r col c = (r.1, r.2.filter fun row => rowI row col == c) := by
  unfold pickR; rw [if_pos ⟨relB_iff.1 h, h2⟩]
theorem pickR_no {r : LRel} {col c : Int} (h : relB r = false) : pickR r col c = (0, []) := by
  unfold pickR; rw [if_neg (by rintro ⟨h1, _⟩; rw [relB_true h1] at h; cases h)]
theorem pickR_col {r : LRel} {col c : Int} (h : colIn r.1 col = false) : pickR r col c = (0, []) := by
  unfold pickR; rw [if_neg (by rintro ⟨_, h1⟩; rw [h1] at h; cases h)]
theorem filter_take_yes {α : Type} {p : α → Bool} {xs : List α} {k : Nat} (h : k < xs.length) (e : p xs[k] = true) : (xs.take (k + 1)).filter p = (xs.take k).filter p ++ [xs[k]] := by
  rw [take_snoc xs k h, List.filter_append]; simp [e]
theorem filter_take_no {α : Type} {p : α → Bool} {xs : List α} {k : Nat} (h : k < xs.length) (e : p xs[k] = false) : (xs.take (k + 1)).filter p = (xs.take k).filter p := by
  rw [take_snoc xs k h, List.filter_append]; simp [e]
theorem filter_len_le {α : Type} (p : α → Bool) (xs : List α) (k : Nat) : ((xs.take k).filter p).length ≤ xs.length := by
  refine Nat.le_trans (List.length_filter_le _ _) ?_
  simp
  omega
theorem RelP.row {r : LRel} (h : RelP r) {k : Nat} (hk : k < r.2.length) : (r.2[k].length : Int) = r.1 := (h.rows k hk hk).1

theorem l9Col_is {b : Bool} (v : Value) (r : LRel) (col : Int) (hb : colIn r.1 col = b) (w : World) (h : RdRel w w.heap.size v r) (h0 : 0 ≤ r.1) (h6 : r.1 ≤ 6) :
    Calls Try.prog 63 #[v, .int .i64 col] w fun e w' => e = .returned (.bool b) ∧ Below w.heap.size w w' := by
  obtain ⟨a, rfl, h⟩ := h
  obtain ⟨A, c, rfl, hc, _⟩ := h
  obtain ⟨m, xss⟩ := r
  simp only at h0 h6
  have CL := Lib.hid (fun W => l1In_any col 0 (m - 1) W)
  have HE := Lib.hid (show decide (0 ≤ col ∧ col ≤ m - 1) = b by rw [← hb]; exact decide_eq_decide.2 ⟨fun h => ⟨h.1, by have := h.2; show col < m; omega⟩, fun h => ⟨h.1, by have : col < m := h.2; omega⟩⟩)
  rw [HE.out] at CL
  go_enter Try.func63, Try.ntmps63
  go_wp2_with (go_at_call 47; refine (CL.out _).mono ?_; rintro e w' ⟨rfl, rfl⟩)
  go_ret
  exact ⟨rfl, below1 _ _⟩

set_option maxHeartbeats 4000000 in
set_option maxRecDepth 100000 in
theorem specRelPick_any (v : Value) (r : LRel) (col cc : Int) (R : LRel) (hR : R = pickR r col cc) (w : World) (h : RdRel w w.heap.size v r) (hs : szRows r.2 ≤ 1048576) :
    Calls Try.prog 26 #[v, .int .i64 col, .int .i64 cc] w fun e w' => ∃ A' c', e = .returned (.agg #[.int .i64 R.1, .slice A' R.2.length c']) ∧ OwnRows w' w.heap.size w'.heap.size (.slice A' R.2.length c') R.2 ∧ Below w.heap.size w w' := by
  have HR := Lib.hid hR
  clear hR
  obtain ⟨a, rfl, h⟩ := h
  have H := Lib.hid h
  obtain ⟨A, c, rfl, hc, _⟩ := h
  obtain ⟨m, xss⟩ := r
  have HS := Lib.hid hs
  unfold szRows at hs
  simp only at H hc hs HR
  obtain ⟨i0, hi0, hz0, hz1, hz2⟩ := info_parts Try.infoIntS
  obtain ⟨ok, hok⟩ : ∃ ok, ok = relB (m, xss) := ⟨_, rfl⟩
  go_enter Try.func26, Try.ntmps26
  go_wp2_with fail
  obtain ⟨w3, hw3⟩ : ∃ w3, w3 = ((w.alloc (Obj.cells #[Value.int IntKind.i64 m, Value.slice A xss.length c] 27)).alloc (Obj.cells #[Value.int IntKind.i64 0, Value.slice none 0 0] 27)).alloc (Obj.cells #[Value.int IntKind.i64 m, Value.slice none 0 0] 27) := ⟨_, rfl⟩
  have B3 : Below w.heap.size w w3 := by rw [hw3]; exact below3 _ _ _ _
  have s3 : w3.heap.size = w.heap.size + 3 := by rw [hw3]; simp
  have x0 : Blk w3 w.heap.size 27 #[.int .i64 m, .slice A xss.length c] := by rw [hw3]; exact ((Blk.new w _ _).alloc _).alloc _
  have x1 : Blk w3 (w.heap.size + 1) 27 #[.int .i64 0, .slice none 0 0] := by
    rw [hw3]
    simpa using (Blk.new (w.alloc (Obj.cells #[Value.int IntKind.i64 m, Value.slice A xss.length c] 27)) 27 #[.int .i64 0, .slice none 0 0]).alloc _
  have x2 : Blk w3 (w.heap.size + 2) 27 #[.int .i64 m, .slice none 0 0] := by
    rw [hw3]
    simpa using Blk.new ((w.alloc (Obj.cells #[Value.int IntKind.i64 m, Value.slice A xss.length c] 27)).alloc (Obj.cells #[Value.int IntKind.i64 0, Value.slice none 0 0] 27)) 27 #[.int .i64 m, .slice none 0 0]
  rw [← hw3]
  clear hw3
  have CR := specRelOk_any _ (m, xss) _ ⟨_, rfl, H.out.on B3⟩ HS.out
  rw [← hok] at CR
  refine CR.mono ?_
  rintro e w4 ⟨rfl, hb4⟩
  have B4 := bthen B3 hb4
  have s4 := hb4.size
  have y0 := x0.below hb4 x0.lt
  have y1 := x1.below hb4 x1.lt
  have y2 := x2.below hb4 x2.lt
  clear x0 x1 x2 CR
  have q0 : w4.cell? ⟨w.heap.size, 0, none⟩ = some (.int .i64 m) := y0.cell 0
  have q1 : w4.cell? ⟨w.heap.size, 1, none⟩ = some (.slice A xss.length c) := y0.cell 1
  have b1c0 : w4.cell? ⟨w.heap.size + 1, 0, none⟩ = some (.int .i64 0) := y1.cell 0
  have b1c1 : w4.cell? ⟨w.heap.size + 1, 1, none⟩ = some (.slice none 0 0) := y1.cell 1
  have b1f0 := y1.frozen 0
  have b1f1 := y1.frozen 1
  have HOK := Lib.hid hok
  clear hok
  cases ok
  · have HE := Lib.hid (show R = (0, []) by rw [HR.out]; exact pickR_no HOK.out.symm)
    clear q0 q1
    go_wp2_with fail
    refine bodyPost_ret (v := .agg #[.int .i64 0, .slice none 0 0]) (by simp [results, Try.results26, go_sem, b1c0, b1c1]) rfl ?_
    rw [HE.out]
    exact ⟨none, 0, rfl, OwnRows.none _ _ _, (B4.setCell (by simp) _).setCell (by simp) _⟩
  · have hp : RelP (m, xss) := relB_iff.1 HOK.out.symm
    have hm0 : 0 ≤ m := hp.lo
    have hm6 : m ≤ 6 := hp.hi
    have hmany : xss.length ≤ 2000 := hp.many
    have HP := Lib.hid hp
    clear hp
    go_wp2_with fail
    obtain ⟨cb, hcb⟩ : ∃ cb, cb = colIn m col := ⟨_, rfl⟩
    refine (l9Col_is _ (m, xss) col hcb.symm _ ⟨_, rfl, H.out.on B4⟩ hm0 hm6).mono ?_
    rintro e w5 ⟨rfl, hb5⟩
    have B5 := bthen B4 hb5
    have s5 := hb5.size
    have z0 := y0.below hb5 y0.lt
    have z1 := y1.below hb5 y1.lt
    have z2 := y2.below hb5 y2.lt
    clear y0 y1 y2 q0 q1 b1c0 b1c1 b1f0 b1f1
    have b1c0 : w5.cell? ⟨w.heap.size + 1, 0, none⟩ = some (.int .i64 0) := z1.cell 0
    have b1c1 : w5.cell? ⟨w.heap.size + 1, 1, none⟩ = some (.slice none 0 0) := z1.cell 1
    have b1f0 := z1.frozen 0
    have b1f1 := z1.frozen 1
    have HCB := Lib.hid hcb
    clear hcb
    cases cb
    · have HE := Lib.hid (show R = (0, []) by rw [HR.out]; exact pickR_col HCB.out.symm)
      go_wp2_with fail
      refine bodyPost_ret (v := .agg #[.int .i64 0, .slice none 0 0]) (by simp [results, Try.results26, go_sem, b1c0, b1c1]) rfl ?_
      rw [HE.out]
      exact ⟨none, 0, rfl, OwnRows.none _ _ _, (B5.setCell (by simp) _).setCell (by simp) _⟩
    · have hcol : 0 ≤ col ∧ col < m := by simpa [colIn] using HCB.out.symm
      obtain ⟨j, rfl⟩ := Int.eq_ofNat_of_zero_le hcol.1
      have hj : (j : Int) < m := hcol.2
      have HC := Lib.hid hcol
      clear hcol b1c0 b1c1 b1f0 b1f1
      obtain ⟨p, hp⟩ : ∃ p : List Int → Bool, p = fun row => rowI row (j : Int) == cc := ⟨_, rfl⟩
      have HPP := Lib.hid hp
      have HF := Lib.hid (show R = (m, xss.filter p) by rw [HR.out, hp]; exact pickR_yes HOK.out.symm HCB.out.symm)
      clear hp
      have HO := Lib.hid (show OutAt w5.heap.size (w.heap.size + 2) w5 m [] none 0 [] from OutAt.empty z2 (by omega) (Nat.le_refl _))
      have HX := Lib.hid (And.intro z0 z1)
      clear z0 z1 z2
      go_wp2_with fail
      go_loopw [8] (fun i wr => ∃ (k : Nat) (A' : Option Addr) (c' : Nat) (av : List Value), k ≤ xss.length ∧ i = .int .i64 k ∧ OutAt w5.heap.size (w.heap.size + 2) wr m ((xss.take k).filter p) A' c' av ∧ Below (w.heap.size + 2) w5 wr) (fun i _ => xss.length - (intOf i).toNat)
      case atStart => exact ⟨0, none, 0, [], Nat.zero_le _, rfl, by simpa using HO.out, Below.refl _ _⟩
      case round =>
        obtain ⟨k, A', c', av, hk, rfl, hout, hbe⟩ := hrel
        have HOUT := Lib.hid hout
        have HBE := Lib.hid hbe
        have xr := HX.out.1.below hbe (by omega)
        have q1 : wr.cell? ⟨w.heap.size, 1, none⟩ = some (.slice A xss.length c) := xr.cell 1
        have BW := Lib.hid (show Below w.heap.size w wr from B5.trans (hbe.mono (by omega)))
        have hsw := hbe.size
        clear hout hbe xr
        by_cases hlt : k < xss.length
        · obtain ⟨b, o, A2, c2, rfl, hbB, k0, r0⟩ := (H.out.below BW.out (Nat.le_refl _)).get hlt
          have hln := totSS_at xss k hlt
          have hrow := HP.out.row hlt
          simp only at hrow
          have hjl : j < xss[k].length := by omega
          have HR0 := Lib.hid r0
          obtain ⟨_, _, e3, _, hxx⟩ := r0
          injection e3 with e3 _ e4
          subst e3 e4
          obtain ⟨b4, o4, rfl, hb4', hx⟩ := hxx (by omega)
          have hck : wr.cell? ⟨b4, o4 + j, none⟩ = some (.int .i64 xss[k][j]) := hx j hjl
          have hri : rowI xss[k] (j : Int) = xss[k][j] := by simp [rowI, hjl]
          have hkz : (0 : Int) ≤ (k : Int) := by omega
          have hki : (k : Int) < (xss.length : Int) := by omega
          clear hx hxx
          by_cases he : xss[k][j] = cc
          · have e1 : (xss[k][j] == cc) = true := by simp [he]
            have HN := Lib.hid (show (xss.take (k + 1)).filter p = (xss.take k).filter p ++ [xss[k]] from filter_take_yes hlt (by rw [HPP.out]; simp [hri, he]))
            have hfl := filter_len_le p xss k
            clear he hri
            go_upto_region 8 with fail
            obtain ⟨M, hM⟩ : ∃ M, M = (xss.take k).filter p := ⟨_, rfl⟩
            rw [← hM] at HOUT HN hfl
            clear hM
            have q2 : wr.cell? ⟨w.heap.size + 2, 1, none⟩ = some (.slice A' M.length c') := HOUT.out.box.cell 1
            obtain ⟨SS, hSS⟩ : ∃ SS : World → Prop, SS = (fun W => W.cell? ⟨w.heap.size + 2, 1, none⟩ = some (.slice A' M.length c') ∧ W.cell? ⟨w.heap.size, 1, none⟩ = some (.slice (some ⟨b, o, none⟩) xss.length c) ∧ W.cell? ⟨b, o + k, none⟩ = some (.slice (some ⟨b4, o4, none⟩) xss[k].length c2)) := ⟨_, rfl⟩
            have HSS := Lib.hid (show ∀ W, Below w5.heap.size wr W → SS W from by
              rw [hSS]
              exact fun W hW => ⟨(hW.cell (p := ⟨w.heap.size + 2, 1, none⟩) (by simp; omega)).trans q2, (hW.cell (p := ⟨w.heap.size, 1, none⟩) (by simp; omega)).trans q1, (hW.cell (p := ⟨b, o + k, none⟩) (by simp; omega)).trans k0⟩)
            have HB := Lib.hid (show ∀ W, SS W → (W.cell? ⟨w.heap.size + 2, 1, none⟩ = some (.slice A' M.length c') ∧ W.cell? ⟨w.heap.size, 1, none⟩ = some (.slice (some ⟨b, o, none⟩) xss.length c) ∧ W.cell? ⟨b, o + k, none⟩ = some (.slice (some ⟨b4, o4, none⟩) xss[k].length c2)) from by rw [hSS]; exact fun W hW => hW)
            clear hSS q1 q2 k0 hck
            refine wp_region_rel SS 11 12 (by kernel_rfl) rfl ?_
            have S0 := Lib.hid (HSS.out _ ((Below.refl w5.heap.size wr).drew))
            refine wpAnyR_pure (i := 0) (oi := _) ?va0 rfl rfl (by kernel_rfl) (by decide) (fun _ _ _ h => h) rfl ?hya0 (fun _ => S0.out) ?resta0
            case hya0 => (intro W; go_simp; (try with_reducible rfl))
            try simp only [List.setIfInBounds_toArray, List.set_cons_zero, List.set_cons_succ]
            refine wpAnyR_take (i := 1) (oi := _) ?va1 rfl rfl (by kernel_rfl) (fun _ _ _ h => h) rfl ?hya1 S0.out ?resta1
            case hya1 => (intro W hW; obtain ⟨E0, E1, E2⟩ := HB.out W hW; go_simp; (try with_reducible rfl))
            try simp only [List.setIfInBounds_toArray, List.set_cons_zero, List.set_cons_succ]
            refine wpAnyR_pure (i := 2) (oi := _) ?va2 rfl rfl (by kernel_rfl) (by decide) (fun _ _ _ h => h) rfl ?hya2 (fun _ => S0.out) ?resta2
            case hya2 => (intro W; go_simp; (try with_reducible rfl))
            try simp only [List.setIfInBounds_toArray, List.set_cons_zero, List.set_cons_succ]
            refine wpAnyR_take (i := 3) (oi := _) ?va3 rfl rfl (by kernel_rfl) (fun _ _ _ h => h) rfl ?hya3 S0.out ?resta3
            case hya3 => (intro W hW; obtain ⟨E0, E1, E2⟩ := HB.out W hW; go_simp; (try with_reducible rfl))
            try simp only [List.setIfInBounds_toArray, List.set_cons_zero, List.set_cons_succ]
            refine wpAnyR_pure (i := 4) (oi := _) ?va4 rfl rfl (by kernel_rfl) (by decide) (fun _ _ _ h => h) rfl ?hya4 (fun _ => S0.out) ?resta4
            case hya4 => (intro W; go_simp; (try with_reducible rfl))
            try simp only [List.setIfInBounds_toArray, List.set_cons_zero, List.set_cons_succ]
            refine wpAnyR_pure (i := 5) (oi := _) ?va5 rfl rfl (by kernel_rfl) (by decide) (fun _ _ _ h => h) rfl ?hya5 (fun _ => S0.out) ?resta5
            case hya5 => (intro W; go_simp; (try with_reducible rfl))
            try simp only [List.setIfInBounds_toArray, List.set_cons_zero, List.set_cons_succ]
            refine wpAnyR_take (i := 6) (oi := _) ?va6 rfl rfl (by kernel_rfl) (fun _ _ _ h => h) rfl ?hya6 S0.out ?resta6
            case hya6 => (intro W hW; obtain ⟨E0, E1, E2⟩ := HB.out W hW; go_simp; (try with_reducible rfl))
            try simp only [List.setIfInBounds_toArray, List.set_cons_zero, List.set_cons_succ]
            refine wpAnyR_one (i := 7) (by kernel_rfl) rfl (fun K hK => ?_)
            try rw [if_pos (show Region.wanted _ _ = true from rfl)]
            go_simp
            refine (l3Copy_any (.slice (some ⟨b4, o4, none⟩) xss[k].length c2) xss[k] _ ((HR0.out.more (by omega)).on (Below.refl _ _).drew) (by omega)).mono ?_
            rintro e W4 ⟨A6, c6, rfl, ho6, hb6⟩
            have hb4w : Below wr.heap.size wr W4 := bthen (Below.refl _ _).drew hb6
            have S1 := Lib.hid (HSS.out _ (hb4w.mono hsw))
            refine hK.out _ _ (fun _ => S1.out) ?_
            clear hK K
            try simp only [List.setIfInBounds_toArray, List.set_cons_zero, List.set_cons_succ, Act.put]
            refine wpAnyR_one (i := 8) (by kernel_rfl) rfl (fun K hK => ?_)
            try rw [if_pos (show Region.wanted _ _ = true from rfl)]
            go_simp
            have S2 := Lib.hid (HSS.out _ ((bthen hb4w (below1 W4 (Obj.cells #[Value.slice A6 xss[k].length c6] 42))).mono hsw))
            refine hK.out _ _ (fun _ => S2.out) ?_
            clear hK K
            try simp only [List.setIfInBounds_toArray, List.set_cons_zero, List.set_cons_succ, Act.put]
            refine wpAnyR_one (i := 9) (by kernel_rfl) rfl (fun K hK => ?_)
            refine step_append_lies _ rfl (.tmp 40) (.tmp 47) 22 rfl w5.heap.size 42 i0 (.slice none 0 0) 1 24 Try.underlying22 hi0 hz0 hz1 hz2 rfl (by decide) (.slice A' M.length c') M.length av rfl ?c1 ⟨W4.heap.size, 0, none⟩ 1 1 [.slice A6 xss[k].length c6] rfl rfl ?c4 ?c2 (by omega) (by unfold maxLen; omega) (by omega) ?c3 _ rfl ?c5
            case c1 => exact (HOUT.out.on hb4w).row.alloc _
            case c4 => exact World.news_of_block (cs := #[.slice A6 xss[k].length c6]) (heap_alloc_new W4 _)
            case c2 => intro u hu; simp at hu; subst hu; rfl
            case c3 => have := hb4w.size; simp; omega
            case c5 =>
            intro g2 cap w7 hown hgr hat _
            have hpush := HOUT.out.push (xs := xss[k]) hb4w ho6 hgr hown
            have hgrown := HOUT.out.grown hb4w hgr
            have S3 := Lib.hid (HSS.out w7 hgrown)
            have hbx := HOUT.out.box.below hgrown (by omega)
            have g1 : w7.cell? ⟨w.heap.size + 2, 1, none⟩ = some (.slice A' M.length c') := hbx.cell 1
            have g1f := hbx.frozen 1
            have HPU := Lib.hid hpush
            clear hpush hown hgr hat hgrown hbx
            refine hK.out _ _ (fun _ => S3.out) ?_
            clear hK K
            try simp only [List.setIfInBounds_toArray, Act.put]
            refine wpAnyR_pure (i := 10) (oi := _) ?vb10 rfl rfl (by kernel_rfl) (by decide) (fun _ _ _ h => h) rfl ?hyb10 (fun _ => S3.out) ?restb10
            case hyb10 => (intro W; go_simp; (try with_reducible rfl))
            try simp only [List.setIfInBounds_toArray, List.set_cons_zero, List.set_cons_succ]
            refine wpAnyR_one (i := 11) (by kernel_rfl) rfl (fun K hK => ?_)
            go_simp
            refine hK.out _ _ (fun hf => absurd hf (by decide)) ?_
            clear hK K
            refine wpAnyR_done (by kernel_rfl) ?_
            go_wp2_with fail
            go_roundw
            case rel => exact ⟨k + 1, _, _, _, by omega, by go_num, by rw [HN.out]; exact HPU.out.1, HBE.out.trans HPU.out.2⟩
            case measure => simp [intOf]; omega
          · have e1 : (xss[k][j] == cc) = false := by simp [he]
            have HN := Lib.hid (show (xss.take (k + 1)).filter p = (xss.take k).filter p from filter_take_no hlt (by rw [HPP.out]; simp [hri, he]))
            clear he hri
            go_wp2_with fail
            go_roundw
            case rel => exact ⟨k + 1, _, _, _, by omega, by go_num, by rw [HN.out]; exact HOUT.out, HBE.out⟩
            case measure => simp [intOf]; omega
        · have hkn : k = xss.length := by omega
          have HO2 := Lib.hid (show OutAt w5.heap.size (w.heap.size + 2) wr m (xss.filter p) A' c' av by have := HOUT.out; rw [hkn, List.take_length] at this; exact this)
          have z1 := HX.out.2.below HBE.out (by omega)
          have b1c0 : wr.cell? ⟨w.heap.size + 1, 0, none⟩ = some (.int .i64 0) := z1.cell 0
          have b1c1 : wr.cell? ⟨w.heap.size + 1, 1, none⟩ = some (.slice none 0 0) := z1.cell 1
          have b1f0 := z1.frozen 0
          have b1f1 := z1.frozen 1
          have d0 : wr.cell? ⟨w.heap.size + 2, 0, none⟩ = some (.int .i64 m) := HO2.out.box.cell 0
          have d1 : wr.cell? ⟨w.heap.size + 2, 1, none⟩ = some (.slice A' (xss.filter p).length c') := HO2.out.box.cell 1
          obtain ⟨M, hM⟩ : ∃ M, M = xss.filter p := ⟨_, rfl⟩
          rw [← hM] at HO2 d1 HF
          clear hkn hM HOUT z1
          go_wp2_with fail
          refine bodyPost_ret (v := .agg #[.int .i64 m, .slice A' M.length c']) (by simp [results, Try.results26, go_sem, b1c0, b1c1]) rfl ?_
          rw [HF.out]
          refine ⟨A', c', rfl, ?_, (BW.out.setCell (by simp) _).setCell (by simp) _⟩
          have hrw := HO2.out.rows
          have h1 := (hrw.only (Only.setCell (Only.refl 0 (w.heap.size + 3) wr) (p := ⟨w.heap.size + 1, 0, none⟩) ⟨Nat.zero_le _, by simp⟩ (.int .i64 m)) (.inr (by omega)))
          have h2 := (h1.only (Only.setCell (Only.refl 0 (w.heap.size + 3) _) (p := ⟨w.heap.size + 1, 1, none⟩) ⟨Nat.zero_le _, by simp⟩ (.slice A' M.length c')) (.inr (by omega)))
          exact h2.mono (by omega) (by simp)

end Go.Proofs.Ytchincemlilnoaa
/-
  rowsThat by the closure of RelPick: the rows for which it says true.
-/
namespace Go.Proofs.Ytchincemlilnoaa
open Go.RowKit

set_option maxHeartbeats 4000000 in
set_option maxRecDepth 100000 in
theorem rowsThatPick_any (v : Value) (r : LRel) (p1 p2 : Nat) (p : List Int → Bool) (w : World) (h : RdRel w w.heap.size v r) (hs : szRows r.2 ≤ 1048576)
    (hcl : ∀ (W : World) (u : Value) (k : Nat) (hk : k < r.2.length), Below w.heap.size w W → RdInts W W.heap.size u r.2[k] → Calls Try.prog 66 #[u, .pointer (some ⟨p1, 0, none⟩), .pointer (some ⟨p2, 0, none⟩)] W fun e w' => e = .returned (.bool (p r.2[k])) ∧ Below W.heap.size W w') :
    Calls Try.prog 65 #[v, .func (.func 66) #[] #[.pointer (some ⟨p1, 0, none⟩), .pointer (some ⟨p2, 0, none⟩)]] w fun e w' =>
      ∃ A' c', e = .returned (.agg #[.int .i64 r.1, .slice A' (r.2.filter p).length c']) ∧ OwnRows w' w.heap.size w'.heap.size (.slice A' (r.2.filter p).length c') (r.2.filter p) ∧ Below w.heap.size w w' := by
  obtain ⟨a, rfl, h⟩ := h
  have H := Lib.hid h
  obtain ⟨A, c, rfl, hc, _⟩ := h
  obtain ⟨m, xss⟩ := r
  unfold szRows at hs
  simp only at H hc hs hcl
  have HCL := Lib.hid hcl
  clear hcl
  obtain ⟨F, hF⟩ : ∃ F, F = xss.filter p := ⟨_, rfl⟩
  rw [← hF]
  have HF := Lib.hid hF
  clear hF
  obtain ⟨i0, hi0, hz0, hz1, hz2⟩ := info_parts Try.infoIntS
  obtain ⟨i1, hi1, hy0, hy1, hy2⟩ := info_parts Try.infoInt
  go_enter Try.func65, Try.ntmps65
  go_wp2_with fail
  obtain ⟨w3, hw3⟩ : ∃ w3, w3 = ((w.alloc (Obj.cells #[Value.int IntKind.i64 m, Value.slice A xss.length c] 27)).alloc (Obj.cells #[Value.int IntKind.i64 0, Value.slice none 0 0] 27)).alloc (Obj.cells #[Value.int IntKind.i64 m, Value.slice none 0 0] 27) := ⟨_, rfl⟩
  have B3 : Below w.heap.size w w3 := by rw [hw3]; exact below3 _ _ _ _
  have s3 : w3.heap.size = w.heap.size + 3 := by rw [hw3]; simp
  have x1 : Blk w3 (w.heap.size + 1) 27 #[.int .i64 0, .slice none 0 0] := by
    rw [hw3]
    simpa using (Blk.new (w.alloc (Obj.cells #[Value.int IntKind.i64 m, Value.slice A xss.length c] 27)) 27 #[.int .i64 0, .slice none 0 0]).alloc _
  have x2 : Blk w3 (w.heap.size + 2) 27 #[.int .i64 m, .slice none 0 0] := by
    rw [hw3]
    simpa using Blk.new ((w.alloc (Obj.cells #[Value.int IntKind.i64 m, Value.slice A xss.length c] 27)).alloc (Obj.cells #[Value.int IntKind.i64 0, Value.slice none 0 0] 27)) 27 #[.int .i64 m, .slice none 0 0]
  rw [← hw3]
  clear hw3
  have HO := Lib.hid (show OutAt w3.heap.size (w.heap.size + 2) w3 m [] none 0 [] from OutAt.empty x2 (by omega) (Nat.le_refl _))
  have HX := Lib.hid x1
  have HB3 := Lib.hid B3
  clear x1 x2 B3
  go_loopw [7, 14] (fun _ i wr => ∃ (k : Nat) (A' : Option Addr) (c' : Nat) (av : List Value), k ≤ xss.length ∧ i = .int .i64 k ∧ OutAt w3.heap.size (w.heap.size + 2) wr m ((xss.take k).filter p) A' c' av ∧ Below (w.heap.size + 2) w3 wr) (fun _ i _ => xss.length - (intOf i).toNat)
  case atStart => exact ⟨0, none, 0, [], Nat.zero_le _, rfl, by simpa using HO.out, Below.refl _ _⟩
  case round =>
    obtain ⟨k, A', c', av, hk, rfl, hout, hbe⟩ := hrel
    have HOUT := Lib.hid hout
    have HBE := Lib.hid hbe
    have BW := Lib.hid (show Below w.heap.size w wr from HB3.out.trans (hbe.mono (by omega)))
    have hsw := hbe.size
    clear hout hbe
    by_cases hlt : k < xss.length
    · obtain ⟨b, o, A2, c2, rfl, hbB, k0, r0⟩ := (H.out.below BW.out (Nat.le_refl _)).get hlt
      have hln := totSS_at xss k hlt
      obtain ⟨bp, hbp⟩ : ∃ bp, bp = p xss[k] := ⟨_, rfl⟩
      have hsw2 : w.heap.size ≤ wr.heap.size := by omega
      have CL := HCL.out wr (.slice A2 xss[k].length c2) k hlt BW.out (r0.more hsw2)
      rw [← hbp] at CL
      have HC := Lib.hid CL
      have HBP := Lib.hid hbp
      have HR0 := Lib.hid r0
      clear CL hbp r0
      cases bp
      · have HN := Lib.hid (show (xss.take (k + 1)).filter p = (xss.take k).filter p from filter_take_no hlt HBP.out.symm)
        go_wp2_with (go_at_call 66; refine HC.out.mono ?_; rintro e w2 ⟨rfl, hb2⟩; have HB2 := Lib.hid hb2; clear hb2)
        have hs2 := HB2.out.size
        have HO2 := Lib.hid (HOUT.out.on HB2.out)
        have HBE2 := Lib.hid (HBE.out.trans (HB2.out.mono (show w.heap.size + 2 ≤ wr.heap.size by omega)))
        have HR2 := Lib.hid ((HR0.out.more hsw2).on HB2.out)
        clear HOUT
        go_roundw
        case rel => exact ⟨k + 1, _, _, _, by omega, by go_num, by rw [HN.out]; exact HO2.out, HBE2.out⟩
        case measure => simp [intOf]; omega
      · have HN := Lib.hid (show (xss.take (k + 1)).filter p = (xss.take k).filter p ++ [xss[k]] from filter_take_yes hlt HBP.out.symm)
        have hfl := filter_len_le p xss k
        go_upto_region 6 with (go_at_call 66; refine HC.out.mono ?_; rintro e w2 ⟨rfl, hb2⟩; have HB2 := Lib.hid hb2; clear hb2)
        have hs2 := HB2.out.size
        have HO2 := Lib.hid (HOUT.out.on HB2.out)
        have HBE2 := Lib.hid (HBE.out.trans (HB2.out.mono (show w.heap.size + 2 ≤ wr.heap.size by omega)))
        have HR2 := Lib.hid ((HR0.out.more hsw2).on HB2.out)
        clear HOUT
        obtain ⟨M, hM⟩ : ∃ M, M = (xss.take k).filter p := ⟨_, rfl⟩
        rw [← hM] at HO2 HN hfl
        clear hM
        have q2 : w2.cell? ⟨w.heap.size + 2, 1, none⟩ = some (.slice A' M.length c') := HO2.out.box.cell 1
        obtain ⟨SS, hSS⟩ : ∃ SS : World → Prop, SS = (fun W => W.cell? ⟨w.heap.size + 2, 1, none⟩ = some (.slice A' M.length c')) := ⟨_, rfl⟩
        have HSS := Lib.hid (show ∀ W, Below w3.heap.size w2 W → SS W from by
          rw [hSS]
          exact fun W hW => (hW.cell (p := ⟨w.heap.size + 2, 1, none⟩) (by simp; omega)).trans q2)
        have HB := Lib.hid (show ∀ W, SS W → (W.cell? ⟨w.heap.size + 2, 1, none⟩ = some (.slice A' M.length c') ∧ True) from by rw [hSS]; exact fun W hW => ⟨hW, trivial⟩)
        clear hSS q2
        refine wp_region_rel SS 7 8 (by kernel_rfl) rfl ?_
        obtain ⟨wy, hwy⟩ : ∃ wy, wy = w2.drew := ⟨_, rfl⟩
        have HBY := Lib.hid (show Below w2.heap.size w2 wy by rw [hwy]; exact (Below.refl _ _).drew)
        rw [← hwy]
        clear hwy
        have hsy := HBY.out.size
        have S0 := Lib.hid (HSS.out _ (HBY.out.mono (show w3.heap.size ≤ w2.heap.size by omega)))
        refine wpAnyR_pure (i := 0) (oi := _) ?va0 rfl rfl (by kernel_rfl) (by decide) (fun _ _ _ h => h) rfl ?hya0 (fun _ => S0.out) ?resta0
        case hya0 => (intro W; go_simp; (try with_reducible rfl))
        try simp only [List.setIfInBounds_toArray, List.set_cons_zero, List.set_cons_succ]
        refine wpAnyR_take (i := 1) (oi := _) ?va1 rfl rfl (by kernel_rfl) (fun _ _ _ h => h) rfl ?hya1 S0.out ?resta1
        case hya1 => (intro W hW; obtain ⟨E0, _⟩ := HB.out W hW; go_simp; (try with_reducible rfl))
        try simp only [List.setIfInBounds_toArray, List.set_cons_zero, List.set_cons_succ]
        refine wpAnyR_pure (i := 2) (oi := _) ?va2 rfl rfl (by kernel_rfl) (by decide) (fun _ _ _ h => h) rfl ?hya2 (fun _ => S0.out) ?resta2
        case hya2 => (intro W; go_simp; (try with_reducible rfl))
        try simp only [List.setIfInBounds_toArray, List.set_cons_zero, List.set_cons_succ]
        refine wpAnyR_one (i := 3) (by kernel_rfl) rfl (fun K hK => ?_)
        refine step_append_rd _ rfl (.const (.slice none 0 0)) (.tmp 23) 42 rfl wy.heap.size 3 i1 (.int .i64 0) 8 Try.underlying42 hi1 hy0 hy1 hy2 rfl (.slice none 0 0) 0 [] rfl (World.ownsRow_nil _ _ _ _) wy.heap.size _ xss[k] rfl ?d1 (by unfold maxLen; omega) (by omega) (Nat.le_refl _) ?d2
        case d1 => exact HR2.out.on HBY.out
        case d2 =>
        intro A6 c6 w6 hown6 hg6 hat6
        have HO6 := Lib.hid (show OwnInts w6 wy.heap.size w6.heap.size (.slice A6 xss[k].length c6) xss[k] from ⟨by simpa using hown6, fun g hg' => (hown6.lt g (by simpa using hg')).2⟩)
        have HB6 := Lib.hid (show Below wy.heap.size wy w6 from Below.grown (Below.refl _ _) hg6 (Nat.le_refl _) (fun k hk => by cases hk))
        have HB26 := Lib.hid (bthen HBY.out HB6.out)
        have S1 := Lib.hid (HSS.out w6 (HB26.out.mono (show w3.heap.size ≤ w2.heap.size by omega)))
        simp only [Nat.zero_add]
        clear hown6 hg6 hat6
        refine hK.out _ _ (fun _ => S1.out) ?_
        clear hK K
        try simp only [List.setIfInBounds_toArray, Act.put]
        refine wpAnyR_one (i := 4) (by kernel_rfl) rfl (fun K hK => ?_)
        try rw [if_pos (show Region.wanted _ _ = true from rfl)]
        go_simp
        have S2 := Lib.hid (HSS.out _ ((bthen HB26.out (below1 w6 (Obj.cells #[Value.slice A6 xss[k].length c6] 42))).mono (show w3.heap.size ≤ w2.heap.size by omega)))
        refine hK.out _ _ (fun _ => S2.out) ?_
        clear hK K
        try simp only [List.setIfInBounds_toArray, List.set_cons_zero, List.set_cons_succ, Act.put]
        refine wpAnyR_one (i := 5) (by kernel_rfl) rfl (fun K hK => ?_)
        refine step_append_lies _ rfl (.tmp 22) (.tmp 25) 22 rfl w3.heap.size 42 i0 (.slice none 0 0) 1 24 Try.underlying22 hi0 hz0 hz1 hz2 rfl (by decide) (.slice A' M.length c') M.length av rfl ?c1 ⟨w6.heap.size, 0, none⟩ 1 1 [.slice A6 xss[k].length c6] rfl rfl ?c4 ?c2 (by omega) (by unfold maxLen; omega) (by omega) ?c3 _ rfl ?c5
        case c1 => exact (HO2.out.on HB26.out).row.alloc _
        case c4 => exact World.news_of_block (cs := #[.slice A6 xss[k].length c6]) (heap_alloc_new w6 _)
        case c2 => intro u hu; simp at hu; subst hu; rfl
        case c3 => have := HB26.out.size; simp; omega
        case c5 =>
        intro g2 cap w7 hown hgr hat _
        have hpush := HO2.out.push (xs := xss[k]) HB26.out (HO6.out.mono hsy (Nat.le_refl _)) hgr hown
        have hgrown := HO2.out.grown HB26.out hgr
        have S3 := Lib.hid (HSS.out w7 hgrown)
        have hbx := HO2.out.box.below hgrown (by omega)
        have g1 : w7.cell? ⟨w.heap.size + 2, 1, none⟩ = some (.slice A' M.length c') := hbx.cell 1
        have g1f := hbx.frozen 1
        have HPU := Lib.hid hpush
        clear hpush hown hgr hat hgrown hbx
        refine hK.out _ _ (fun _ => S3.out) ?_
        clear hK K
        try simp only [List.setIfInBounds_toArray, Act.put]
        refine wpAnyR_pure (i := 6) (oi := _) ?vb6 rfl rfl (by kernel_rfl) (by decide) (fun _ _ _ h => h) rfl ?hyb6 (fun _ => S3.out) ?restb6
        case hyb6 => (intro W; go_simp; (try with_reducible rfl))
        try simp only [List.setIfInBounds_toArray, List.set_cons_zero, List.set_cons_succ]
        refine wpAnyR_one (i := 7) (by kernel_rfl) rfl (fun K hK => ?_)
        go_simp
        refine hK.out _ _ (fun hf => absurd hf (by decide)) ?_
        clear hK K
        refine wpAnyR_done (by kernel_rfl) ?_
        go_wp2_with fail
        go_roundw
        case rel => exact ⟨k + 1, _, _, _, by omega, by go_num, by rw [HN.out]; exact HPU.out.1, HBE2.out.trans HPU.out.2⟩
        case measure => simp [intOf]; omega
    · have hkn : k = xss.length := by omega
      have HO2 := Lib.hid (show OutAt w3.heap.size (w.heap.size + 2) wr m (xss.filter p) A' c' av by have := HOUT.out; rw [hkn, List.take_length] at this; exact this)
      have z1 := HX.out.below HBE.out (by omega)
      have b1c0 : wr.cell? ⟨w.heap.size + 1, 0, none⟩ = some (.int .i64 0) := z1.cell 0
      have b1c1 : wr.cell? ⟨w.heap.size + 1, 1, none⟩ = some (.slice none 0 0) := z1.cell 1
      have b1f0 := z1.frozen 0
      have b1f1 := z1.frozen 1
      have d0 : wr.cell? ⟨w.heap.size + 2, 0, none⟩ = some (.int .i64 m) := HO2.out.box.cell 0
      have d1 : wr.cell? ⟨w.heap.size + 2, 1, none⟩ = some (.slice A' (xss.filter p).length c') := HO2.out.box.cell 1
      rw [← HF.out] at HO2 d1
      clear hkn HOUT z1
      go_wp2_with fail
      refine bodyPost_ret (v := .agg #[.int .i64 m, .slice A' F.length c']) (by simp [results, Try.results65, go_sem, b1c0, b1c1]) rfl ?_
      refine ⟨A', c', rfl, ?_, (BW.out.setCell (by simp) _).setCell (by simp) _⟩
      have hrw := HO2.out.rows
      have h1 := (hrw.only (Only.setCell (Only.refl 0 (w.heap.size + 3) wr) (p := ⟨w.heap.size + 1, 0, none⟩) ⟨Nat.zero_le _, by simp⟩ (.int .i64 m)) (.inr (by omega)))
      have h2 := (h1.only (Only.setCell (Only.refl 0 (w.heap.size + 3) _) (p := ⟨w.heap.size + 1, 1, none⟩) ⟨Nat.zero_le _, by simp⟩ (.slice A' F.length c')) (.inr (by omega)))
      exact h2.mono (by omega) (by simp)

end Go.Proofs.Ytchincemlilnoaa
/-
  rowsThat by the closure of RelSame: the rows for which it says true.
-/
namespace Go.Proofs.Ytchincemlilnoaa
open Go.RowKit

set_option maxHeartbeats 4000000 in
set_option maxRecDepth 100000 in
theorem rowsThatSame_any (v : Value) (r : LRel) (p1 p2 : Nat) (p : List Int → Bool) (w : World) (h : RdRel w w.heap.size v r) (hs : szRows r.2 ≤ 1048576)
    (hcl : ∀ (W : World) (u : Value) (k : Nat) (hk : k < r.2.length), Below w.heap.size w W → RdInts W W.heap.size u r.2[k] → Calls Try.prog 67 #[u, .pointer (some ⟨p1, 0, none⟩), .pointer (some ⟨p2, 0, none⟩)] W fun e w' => e = .returned (.bool (p r.2[k])) ∧ Below W.heap.size W w') :
    Calls Try.prog 65 #[v, .func (.func 67) #[] #[.pointer (some ⟨p1, 0, none⟩), .pointer (some ⟨p2, 0, none⟩)]] w fun e w' =>
      ∃ A' c', e = .returned (.agg #[.int .i64 r.1, .slice A' (r.2.filter p).length c']) ∧ OwnRows w' w.heap.size w'.heap.size (.slice A' (r.2.filter p).length c') (r.2.filter p) ∧ Below w.heap.size w w' := by
  obtain ⟨a, rfl, h⟩ := h
  have H := Lib.hid h
  obtain ⟨A, c, rfl, hc, _⟩ := h
  obtain ⟨m, xss⟩ := r
  unfold szRows at hs
  simp only at H hc hs hcl
  have HCL := Lib.hid hcl
  clear hcl
  obtain ⟨F, hF⟩ : ∃ F, F = xss.filter p := ⟨_, rfl⟩
  rw [← hF]
  have HF := Lib.hid hF
  clear hF
  obtain ⟨i0, hi0, hz0, hz1, hz2⟩ := info_parts Try.infoIntS
  obtain ⟨i1, hi1, hy0, hy1, hy2⟩ := info_parts Try.infoInt
  go_enter Try.func65, Try.ntmps65
  go_wp2_with fail
  obtain ⟨w3, hw3⟩ : ∃ w3, w3 = ((w.alloc (Obj.cells #[Value.int IntKind.i64 m, Value.slice A xss.length c] 27)).alloc (Obj.cells #[Value.int IntKind.i64 0, Value.slice none 0 0] 27)).alloc (Obj.cells #[Value.int IntKind.i64 m, Value.slice none 0 0] 27) := ⟨_, rfl⟩
  have B3 : Below w.heap.size w w3 := by rw [hw3]; exact below3 _ _ _ _
  have s3 : w3.heap.size = w.heap.size + 3 := by rw [hw3]; simp
  have x1 : Blk w3 (w.heap.size + 1) 27 #[.int .i64 0, .slice none 0 0] := by
    rw [hw3]
    simpa using (Blk.new (w.alloc (Obj.cells #[Value.int IntKind.i64 m, Value.slice A xss.length c] 27)) 27 #[.int .i64 0, .slice none 0 0]).alloc _
  have x2 : Blk w3 (w.heap.size + 2) 27 #[.int .i64 m, .slice none 0 0] := by
    rw [hw3]
    simpa using Blk.new ((w.alloc (Obj.cells #[Value.int IntKind.i64 m, Value.slice A xss.length c] 27)).alloc (Obj.cells #[Value.int IntKind.i64 0, Value.slice none 0 0] 27)) 27 #[.int .i64 m, .slice none 0 0]
  rw [← hw3]
  clear hw3
  have HO := Lib.hid (show OutAt w3.heap.size (w.heap.size + 2) w3 m [] none 0 [] from OutAt.empty x2 (by omega) (Nat.le_refl _))
  have HX := Lib.hid x1
  have HB3 := Lib.hid B3
  clear x1 x2 B3
  go_loopw [7, 14] (fun _ i wr => ∃ (k : Nat) (A' : Option Addr) (c' : Nat) (av : List Value), k ≤ xss.length ∧ i = .int .i64 k ∧ OutAt w3.heap.size (w.heap.size + 2) wr m ((xss.take k).filter p) A' c' av ∧ Below (w.heap.size + 2) w3 wr) (fun _ i _ => xss.length - (intOf i).toNat)
  case atStart => exact ⟨0, none, 0, [], Nat.zero_le _, rfl, by simpa using HO.out, Below.refl _ _⟩
  case round =>
    obtain ⟨k, A', c', av, hk, rfl, hout, hbe⟩ := hrel
    have HOUT := Lib.hid hout
    have HBE := Lib.hid hbe
    have BW := Lib.hid (show Below w.heap.size w wr from HB3.out.trans (hbe.mono (by omega)))
    have hsw := hbe.size
    clear hout hbe
    by_cases hlt : k < xss.length
    · obtain ⟨b, o, A2, c2, rfl, hbB, k0, r0⟩ := (H.out.below BW.out (Nat.le_refl _)).get hlt
      have hln := totSS_at xss k hlt
      obtain ⟨bp, hbp⟩ : ∃ bp, bp = p xss[k] := ⟨_, rfl⟩
      have hsw2 : w.heap.size ≤ wr.heap.size := by omega
      have CL := HCL.out wr (.slice A2 xss[k].length c2) k hlt BW.out (r0.more hsw2)
      rw [← hbp] at CL
      have HC := Lib.hid CL
      have HBP := Lib.hid hbp
      have HR0 := Lib.hid r0
      clear CL hbp r0
      cases bp
      · have HN := Lib.hid (show (xss.take (k + 1)).filter p = (xss.take k).filter p from filter_take_no hlt HBP.out.symm)
        go_wp2_with (go_at_call 67; refine HC.out.mono ?_; rintro e w2 ⟨rfl, hb2⟩; have HB2 := Lib.hid hb2; clear hb2)
        have hs2 := HB2.out.size
        have HO2 := Lib.hid (HOUT.out.on HB2.out)
        have HBE2 := Lib.hid (HBE.out.trans (HB2.out.mono (show w.heap.size + 2 ≤ wr.heap.size by omega)))
        have HR2 := Lib.hid ((HR0.out.more hsw2).on HB2.out)
        clear HOUT
        go_roundw
        case rel => exact ⟨k + 1, _, _, _, by omega, by go_num, by rw [HN.out]; exact HO2.out, HBE2.out⟩
        case measure => simp [intOf]; omega
      · have HN := Lib.hid (show (xss.take (k + 1)).filter p = (xss.take k).filter p ++ [xss[k]] from filter_take_yes hlt HBP.out.symm)
        have hfl := filter_len_le p xss k
        go_upto_region 6 with (go_at_call 67; refine HC.out.mono ?_; rintro e w2 ⟨rfl, hb2⟩; have HB2 := Lib.hid hb2; clear hb2)
        have hs2 := HB2.out.size
        have HO2 := Lib.hid (HOUT.out.on HB2.out)
        have HBE2 := Lib.hid (HBE.out.trans (HB2.out.mono (show w.heap.size + 2 ≤ wr.heap.size by omega)))
        have HR2 := Lib.hid ((HR0.out.more hsw2).on HB2.out)
        clear HOUT
        obtain ⟨M, hM⟩ : ∃ M, M = (xss.take k).filter p := ⟨_, rfl⟩
        rw [← hM] at HO2 HN hfl
        clear hM
        have q2 : w2.cell? ⟨w.heap.size + 2, 1, none⟩ = some (.slice A' M.length c') := HO2.out.box.cell 1
        obtain ⟨SS, hSS⟩ : ∃ SS : World → Prop, SS = (fun W => W.cell? ⟨w.heap.size + 2, 1, none⟩ = some (.slice A' M.length c')) := ⟨_, rfl⟩
        have HSS := Lib.hid (show ∀ W, Below w3.heap.size w2 W → SS W from by
          rw [hSS]
          exact fun W hW => (hW.cell (p := ⟨w.heap.size + 2, 1, none⟩) (by simp; omega)).trans q2)
        have HB := Lib.hid (show ∀ W, SS W → (W.cell? ⟨w.heap.size + 2, 1, none⟩ = some (.slice A' M.length c') ∧ True) from by rw [hSS]; exact fun W hW => ⟨hW, trivial⟩)
        clear hSS q2
        refine wp_region_rel SS 7 8 (by kernel_rfl) rfl ?_
        obtain ⟨wy, hwy⟩ : ∃ wy, wy = w2.drew := ⟨_, rfl⟩
        have HBY := Lib.hid (show Below w2.heap.size w2 wy by rw [hwy]; exact (Below.refl _ _).drew)
        rw [← hwy]
        clear hwy
        have hsy := HBY.out.size
        have S0 := Lib.hid (HSS.out _ (HBY.out.mono (show w3.heap.size ≤ w2.heap.size by omega)))
        refine wpAnyR_pure (i := 0) (oi := _) ?va0 rfl rfl (by kernel_rfl) (by decide) (fun _ _ _ h => h) rfl ?hya0 (fun _ => S0.out) ?resta0
        case hya0 => (intro W; go_simp; (try with_reducible rfl))
        try simp only [List.setIfInBounds_toArray, List.set_cons_zero, List.set_cons_succ]
        refine wpAnyR_take (i := 1) (oi := _) ?va1 rfl rfl (by kernel_rfl) (fun _ _ _ h => h) rfl ?hya1 S0.out ?resta1
        case hya1 => (intro W hW; obtain ⟨E0, _⟩ := HB.out W hW; go_simp; (try with_reducible rfl))
        try simp only [List.setIfInBounds_toArray, List.set_cons_zero, List.set_cons_succ]
        refine wpAnyR_pure (i := 2) (oi := _) ?va2 rfl rfl (by kernel_rfl) (by decide) (fun _ _ _ h => h) rfl ?hya2 (fun _ => S0.out) ?resta2
        case hya2 => (intro W; go_simp; (try with_reducible rfl))
        try simp only [List.setIfInBounds_toArray, List.set_cons_zero, List.set_cons_succ]
        refine wpAnyR_one (i := 3) (by kernel_rfl) rfl (fun K hK => ?_)
        refine step_append_rd _ rfl (.const (.slice none 0 0)) (.tmp 23) 42 rfl wy.heap.size 3 i1 (.int .i64 0) 8 Try.underlying42 hi1 hy0 hy1 hy2 rfl (.slice none 0 0) 0 [] rfl (World.ownsRow_nil _ _ _ _) wy.heap.size _ xss[k] rfl ?d1 (by unfold maxLen; omega) (by omega) (Nat.le_refl _) ?d2
        case d1 => exact HR2.out.on HBY.out
        case d2 =>
        intro A6 c6 w6 hown6 hg6 hat6
        have HO6 := Lib.hid (show OwnInts w6 wy.heap.size w6.heap.size (.slice A6 xss[k].length c6) xss[k] from ⟨by simpa using hown6, fun g hg' => (hown6.lt g (by simpa using hg')).2⟩)
        have HB6 := Lib.hid (show Below wy.heap.size wy w6 from Below.grown (Below.refl _ _) hg6 (Nat.le_refl _) (fun k hk => by cases hk))
        have HB26 := Lib.hid (bthen HBY.out HB6.out)
        have S1 := Lib.hid (HSS.out w6 (HB26.out.mono (show w3.heap.size ≤ w2.heap.size by omega)))
        simp only [Nat.zero_add]
        clear hown6 hg6 hat6
        refine hK.out _ _ (fun _ => S1.out) ?_
        clear hK K
        try simp only [List.setIfInBounds_toArray, Act.put]
        refine wpAnyR_one (i := 4) (by kernel_rfl) rfl (fun K hK => ?_)
        try rw [if_pos (show Region.wanted _ _ = true from rfl)]
        go_simp
        have S2 := Lib.hid (HSS.out _ ((bthen HB26.out (below1 w6 (Obj.cells #[Value.slice A6 xss[k].length c6] 42))).mono (show w3.heap.size ≤ w2.heap.size by omega)))
        refine hK.out _ _ (fun _ => S2.out) ?_
        clear hK K
        try simp only [List.setIfInBounds_toArray, List.set_cons_zero, List.set_cons_succ, Act.put]
        refine wpAnyR_one (i := 5) (by kernel_rfl) rfl (fun K hK => ?_)
        refine step_append_lies _ rfl (.tmp 22) (.tmp 25) 22 rfl w3.heap.size 42 i0 (.slice none 0 0) 1 24 Try.underlying22 hi0 hz0 hz1 hz2 rfl (by decide) (.slice A' M.length c') M.length av rfl ?c1 ⟨w6.heap.size, 0, none⟩ 1 1 [.slice A6 xss[k].length c6] rfl rfl ?c4 ?c2 (by omega) (by unfold maxLen; omega) (by omega) ?c3 _ rfl ?c5
        case c1 => exact (HO2.out.on HB26.out).row.alloc _
        case c4 => exact World.news_of_block (cs := #[.slice A6 xss[k].length c6]) (heap_alloc_new w6 _)
        case c2 => intro u hu; simp at hu; subst hu; rfl
        case c3 => have := HB26.out.size; simp; omega
        case c5 =>
        intro g2 cap w7 hown hgr hat _
        have hpush := HO2.out.push (xs := xss[k]) HB26.out (HO6.out.mono hsy (Nat.le_refl _)) hgr hown
        have hgrown := HO2.out.grown HB26.out hgr
        have S3 := Lib.hid (HSS.out w7 hgrown)
        have hbx := HO2.out.box.below hgrown (by omega)
        have g1 : w7.cell? ⟨w.heap.size + 2, 1, none⟩ = some (.slice A' M.length c') := hbx.cell 1
        have g1f := hbx.frozen 1
        have HPU := Lib.hid hpush
        clear hpush hown hgr hat hgrown hbx
        refine hK.out _ _ (fun _ => S3.out) ?_
        clear hK K
        try simp only [List.setIfInBounds_toArray, Act.put]
        refine wpAnyR_pure (i := 6) (oi := _) ?vb6 rfl rfl (by kernel_rfl) (by decide) (fun _ _ _ h => h) rfl ?hyb6 (fun _ => S3.out) ?restb6
        case hyb6 => (intro W; go_simp; (try with_reducible rfl))
        try simp only [List.setIfInBounds_toArray, List.set_cons_zero, List.set_cons_succ]
        refine wpAnyR_one (i := 7) (by kernel_rfl) rfl (fun K hK => ?_)
        go_simp
        refine hK.out _ _ (fun hf => absurd hf (by decide)) ?_
        clear hK K
        refine wpAnyR_done (by kernel_rfl) ?_
        go_wp2_with fail
        go_roundw
        case rel => exact ⟨k + 1, _, _, _, by omega, by go_num, by rw [HN.out]; exact HPU.out.1, HBE2.out.trans HPU.out.2⟩
        case measure => simp [intOf]; omega
    · have hkn : k = xss.length := by omega
      have HO2 := Lib.hid (show OutAt w3.heap.size (w.heap.size + 2) wr m (xss.filter p) A' c' av by have := HOUT.out; rw [hkn, List.take_length] at this; exact this)
      have z1 := HX.out.below HBE.out (by omega)
      have b1c0 : wr.cell? ⟨w.heap.size + 1, 0, none⟩ = some (.int .i64 0) := z1.cell 0
      have b1c1 : wr.cell? ⟨w.heap.size + 1, 1, none⟩ = some (.slice none 0 0) := z1.cell 1
      have b1f0 := z1.frozen 0
      have b1f1 := z1.frozen 1
      have d0 : wr.cell? ⟨w.heap.size + 2, 0, none⟩ = some (.int .i64 m) := HO2.out.box.cell 0
      have d1 : wr.cell? ⟨w.heap.size + 2, 1, none⟩ = some (.slice A' (xss.filter p).length c') := HO2.out.box.cell 1
      rw [← HF.out] at HO2 d1
      clear hkn HOUT z1
      go_wp2_with fail
      refine bodyPost_ret (v := .agg #[.int .i64 m, .slice A' F.length c']) (by simp [results, Try.results65, go_sem, b1c0, b1c1]) rfl ?_
      refine ⟨A', c', rfl, ?_, (BW.out.setCell (by simp) _).setCell (by simp) _⟩
      have hrw := HO2.out.rows
      have h1 := (hrw.only (Only.setCell (Only.refl 0 (w.heap.size + 3) wr) (p := ⟨w.heap.size + 1, 0, none⟩) ⟨Nat.zero_le _, by simp⟩ (.int .i64 m)) (.inr (by omega)))
      have h2 := (h1.only (Only.setCell (Only.refl 0 (w.heap.size + 3) _) (p := ⟨w.heap.size + 1, 1, none⟩) ⟨Nat.zero_le _, by simp⟩ (.slice A' F.length c')) (.inr (by omega)))
      exact h2.mono (by omega) (by simp)

end Go.Proofs.Ytchincemlilnoaa
/-
  RelSame of the specification.
-/
namespace Go.Proofs.Ytchincemlilnoaa
open Go.RowKit

open Classical in
noncomputable def sameR (r : LRel) (a b : Int) : LRel := if RelP r ∧ colIn r.1 a = true ∧ colIn r.1 b = true then (r.1, r.2.filter fun row => rowI row a == rowI row b) else (0, [])
theorem sameR_yes {r : LRel} {a b : Int} (h : relB r = true) (h2 : colIn r.1 a = true) (h3 : colIn r.1 b = true) : sameR r a b = (r.1, r.2.filter fun row => rowI row a == rowI row b) := by
  unfold sameR; rw [if_pos ⟨relB_iff.1 h, h2, h3⟩]
theorem sameR_no {r : LRel} {a b : Int} (h : relB r = false) : sameR r a b = (0, []) := by
  unfold sameR; rw [if_neg (by rintro ⟨h1, _⟩; rw [relB_true h1] at h; cases h)]
theorem sameR_col {r : LRel} {a b : Int} (h : colIn r.1 a = false) : sameR r a b = (0, []) := by
  unfold sameR; rw [if_neg (by rintro ⟨_, h1, _⟩; rw [h1] at h; cases h)]
theorem sameR_col2 {r : LRel} {a b : Int} (h : colIn r.1 b = false) : sameR r a b = (0, []) := by
  unfold sameR; rw [if_neg (by rintro ⟨_, _, h1⟩; rw [h1] at h; cases h)]

set_option maxHeartbeats 4000000 in
set_option maxRecDepth 100000 in
theorem specRelSame_any (v : Value) (r : LRel) (col cc : Int) (R : LRel) (hR : R = sameR r col cc) (w : World) (h : RdRel w w.heap.size v r) (hs : szRows r.2 ≤ 1048576) :
    Calls Try.prog 28 #[v, .int .i64 col, .int .i64 cc] w fun e w' => ∃ A' c', e = .returned (.agg #[.int .i64 R.1, .slice A' R.2.length c']) ∧ OwnRows w' w.heap.size w'.heap.size (.slice A' R.2.length c') R.2 ∧ Below w.heap.size w w' := by
  have HR := Lib.hid hR
  clear hR
  obtain ⟨a, rfl, h⟩ := h
  have H := Lib.hid h
  obtain ⟨A, c, rfl, hc, _⟩ := h
  obtain ⟨m, xss⟩ := r
  have HS := Lib.hid hs
  unfold szRows at hs
  simp only at H hc hs HR
  obtain ⟨i0, hi0, hz0, hz1, hz2⟩ := info_parts Try.infoIntS
  obtain ⟨ok, hok⟩ : ∃ ok, ok = relB (m, xss) := ⟨_, rfl⟩
  go_enter Try.func28, Try.ntmps28
  go_wp2_with fail
  obtain ⟨w3, hw3⟩ : ∃ w3, w3 = ((w.alloc (Obj.cells #[Value.int IntKind.i64 m, Value.slice A xss.length c] 27)).alloc (Obj.cells #[Value.int IntKind.i64 0, Value.slice none 0 0] 27)).alloc (Obj.cells #[Value.int IntKind.i64 m, Value.slice none 0 0] 27) := ⟨_, rfl⟩
  have B3 : Below w.heap.size w w3 := by rw [hw3]; exact below3 _ _ _ _
  have s3 : w3.heap.size = w.heap.size + 3 := by rw [hw3]; simp
  have x0 : Blk w3 w.heap.size 27 #[.int .i64 m, .slice A xss.length c] := by rw [hw3]; exact ((Blk.new w _ _).alloc _).alloc _
  have x1 : Blk w3 (w.heap.size + 1) 27 #[.int .i64 0, .slice none 0 0] := by
    rw [hw3]
    simpa using (Blk.new (w.alloc (Obj.cells #[Value.int IntKind.i64 m, Value.slice A xss.length c] 27)) 27 #[.int .i64 0, .slice none 0 0]).alloc _
  have x2 : Blk w3 (w.heap.size + 2) 27 #[.int .i64 m, .slice none 0 0] := by
    rw [hw3]
    simpa using Blk.new ((w.alloc (Obj.cells #[Value.int IntKind.i64 m, Value.slice A xss.length c] 27)).alloc (Obj.cells #[Value.int IntKind.i64 0, Value.slice none 0 0] 27)) 27 #[.int .i64 m, .slice none 0 0]
  rw [← hw3]
  clear hw3
  have CR := specRelOk_any _ (m, xss) _ ⟨_, rfl, H.out.on B3⟩ HS.out
  rw [← hok] at CR
  refine CR.mono ?_
  rintro e w4 ⟨rfl, hb4⟩
  have B4 := bthen B3 hb4
  have s4 := hb4.size
  have y0 := x0.below hb4 x0.lt
  have y1 := x1.below hb4 x1.lt
  have y2 := x2.below hb4 x2.lt
  clear x0 x1 x2 CR
  have q0 : w4.cell? ⟨w.heap.size, 0, none⟩ = some (.int .i64 m) := y0.cell 0
  have q1 : w4.cell? ⟨w.heap.size, 1, none⟩ = some (.slice A xss.length c) := y0.cell 1
  have b1c0 : w4.cell? ⟨w.heap.size + 1, 0, none⟩ = some (.int .i64 0) := y1.cell 0
  have b1c1 : w4.cell? ⟨w.heap.size + 1, 1, none⟩ = some (.slice none 0 0) := y1.cell 1
  have b1f0 := y1.frozen 0
  have b1f1 := y1.frozen 1
  have HOK := Lib.hid hok
  clear hok
  cases ok
  · have HE := Lib.hid (show R = (0, []) by rw [HR.out]; exact sameR_no HOK.out.symm)
    clear q0 q1
    go_wp2_with fail
    refine bodyPost_ret (v := .agg #[.int .i64 0, .slice none 0 0]) (by simp [results, Try.results28, go_sem, b1c0, b1c1]) rfl ?_
    rw [HE.out]
    exact ⟨none, 0, rfl, OwnRows.none _ _ _, (B4.setCell (by simp) _).setCell (by simp) _⟩
  · have hp : RelP (m, xss) := relB_iff.1 HOK.out.symm
    have hm0 : 0 ≤ m := hp.lo
    have hm6 : m ≤ 6 := hp.hi
    have hmany : xss.length ≤ 2000 := hp.many
    have HP := Lib.hid hp
    clear hp
    go_wp2_with fail
    obtain ⟨cb, hcb⟩ : ∃ cb, cb = colIn m col := ⟨_, rfl⟩
    refine (l9Col_is _ (m, xss) col hcb.symm _ ⟨_, rfl, H.out.on B4⟩ hm0 hm6).mono ?_
    rintro e w5 ⟨rfl, hb5⟩
    have B5 := bthen B4 hb5
    have s5 := hb5.size
    have z0 := y0.below hb5 y0.lt
    have z1 := y1.below hb5 y1.lt
    have z2 := y2.below hb5 y2.lt
    clear y0 y1 y2 q0 q1 b1c0 b1c1 b1f0 b1f1
    have q0 : w5.cell? ⟨w.heap.size, 0, none⟩ = some (.int .i64 m) := z0.cell 0
    have q1 : w5.cell? ⟨w.heap.size, 1, none⟩ = some (.slice A xss.length c) := z0.cell 1
    have b1c0 : w5.cell? ⟨w.heap.size + 1, 0, none⟩ = some (.int .i64 0) := z1.cell 0
    have b1c1 : w5.cell? ⟨w.heap.size + 1, 1, none⟩ = some (.slice none 0 0) := z1.cell 1
    have b1f0 := z1.frozen 0
    have b1f1 := z1.frozen 1
    have HCB := Lib.hid hcb
    clear hcb
    cases cb
    · have HE := Lib.hid (show R = (0, []) by rw [HR.out]; exact sameR_col HCB.out.symm)
      go_wp2_with fail
      refine bodyPost_ret (v := .agg #[.int .i64 0, .slice none 0 0]) (by simp [results, Try.results28, go_sem, b1c0, b1c1]) rfl ?_
      rw [HE.out]
      exact ⟨none, 0, rfl, OwnRows.none _ _ _, (B5.setCell (by simp) _).setCell (by simp) _⟩
    · go_wp2_with fail
      obtain ⟨cd, hcd⟩ : ∃ cd, cd = colIn m cc := ⟨_, rfl⟩
      refine (l9Col_is _ (m, xss) cc hcd.symm _ ⟨_, rfl, H.out.on B5⟩ hm0 hm6).mono ?_
      rintro e w6 ⟨rfl, hb6⟩
      have B6 := bthen B5 hb6
      have s6 := hb6.size
      have t0 := z0.below hb6 z0.lt
      have t1 := z1.below hb6 z1.lt
      have t2 := z2.below hb6 z2.lt
      clear z0 z1 z2 q0 q1 b1c0 b1c1 b1f0 b1f1
      have b1c0 : w6.cell? ⟨w.heap.size + 1, 0, none⟩ = some (.int .i64 0) := t1.cell 0
      have b1c1 : w6.cell? ⟨w.heap.size + 1, 1, none⟩ = some (.slice none 0 0) := t1.cell 1
      have b1f0 := t1.frozen 0
      have b1f1 := t1.frozen 1
      have HCD := Lib.hid hcd
      clear hcd
      cases cd
      · have HE := Lib.hid (show R = (0, []) by rw [HR.out]; exact sameR_col2 HCD.out.symm)
        go_wp2_with fail
        refine bodyPost_ret (v := .agg #[.int .i64 0, .slice none 0 0]) (by simp [results, Try.results28, go_sem, b1c0, b1c1]) rfl ?_
        rw [HE.out]
        exact ⟨none, 0, rfl, OwnRows.none _ _ _, (B6.setCell (by simp) _).setCell (by simp) _⟩
      have hcol : 0 ≤ col ∧ col < m := by simpa [colIn] using HCB.out.symm
      obtain ⟨j, rfl⟩ := Int.eq_ofNat_of_zero_le hcol.1
      have hj : (j : Int) < m := hcol.2
      have HC := Lib.hid hcol
      have hcol2 : 0 ≤ cc ∧ cc < m := by simpa [colIn] using HCD.out.symm
      obtain ⟨j2, rfl⟩ := Int.eq_ofNat_of_zero_le hcol2.1
      have hj2 : (j2 : Int) < m := hcol2.2
      have HC2 := Lib.hid hcol2
      clear hcol hcol2 b1c0 b1c1 b1f0 b1f1
      obtain ⟨p, hp⟩ : ∃ p : List Int → Bool, p = fun row => rowI row (j : Int) == rowI row (j2 : Int) := ⟨_, rfl⟩
      have HPP := Lib.hid hp
      have HF := Lib.hid (show R = (m, xss.filter p) by rw [HR.out, hp]; exact sameR_yes HOK.out.symm HCB.out.symm HCD.out.symm)
      clear hp
      have HO := Lib.hid (show OutAt w6.heap.size (w.heap.size + 2) w6 m [] none 0 [] from OutAt.empty t2 (by omega) (Nat.le_refl _))
      have HX := Lib.hid (And.intro t0 t1)
      clear t0 t1 t2
      go_wp2_with fail
      go_loopw [8] (fun i wr => ∃ (k : Nat) (A' : Option Addr) (c' : Nat) (av : List Value), k ≤ xss.length ∧ i = .int .i64 k ∧ OutAt w6.heap.size (w.heap.size + 2) wr m ((xss.take k).filter p) A' c' av ∧ Below (w.heap.size + 2) w6 wr) (fun i _ => xss.length - (intOf i).toNat)
      case atStart => exact ⟨0, none, 0, [], Nat.zero_le _, rfl, by simpa using HO.out, Below.refl _ _⟩
      case round =>
        obtain ⟨k, A', c', av, hk, rfl, hout, hbe⟩ := hrel
        have HOUT := Lib.hid hout
        have HBE := Lib.hid hbe
        have xr := HX.out.1.below hbe (by omega)
        have q1 : wr.cell? ⟨w.heap.size, 1, none⟩ = some (.slice A xss.length c) := xr.cell 1
        have BW := Lib.hid (show Below w.heap.size w wr from B6.trans (hbe.mono (by omega)))
        have hsw := hbe.size
        clear hout hbe xr
        by_cases hlt : k < xss.length
        · obtain ⟨b, o, A2, c2, rfl, hbB, k0, r0⟩ := (H.out.below BW.out (Nat.le_refl _)).get hlt
          have hln := totSS_at xss k hlt
          have hrow := HP.out.row hlt
          simp only at hrow
          have hjl : j < xss[k].length := by omega
          have hjl2 : j2 < xss[k].length := by omega
          have HR0 := Lib.hid r0
          obtain ⟨_, _, e3, _, hxx⟩ := r0
          injection e3 with e3 _ e4
          subst e3 e4
          obtain ⟨b4, o4, rfl, hb4', hx⟩ := hxx (by omega)
          have hck : wr.cell? ⟨b4, o4 + j, none⟩ = some (.int .i64 xss[k][j]) := hx j hjl
          have hck2 : wr.cell? ⟨b4, o4 + j2, none⟩ = some (.int .i64 xss[k][j2]) := hx j2 hjl2
          have hri2 : rowI xss[k] (j2 : Int) = xss[k][j2] := by simp [rowI, hjl2]
          have hri : rowI xss[k] (j : Int) = xss[k][j] := by simp [rowI, hjl]
          have hkz : (0 : Int) ≤ (k : Int) := by omega
          have hki : (k : Int) < (xss.length : Int) := by omega
          clear hx hxx
          go_upto_region 7 with fail
          have M0 := later_cell k0
          have M1 := later_cell q1
          have M2 := later_cell hck
          have M3 := later_cell hck2
          have KK := Lib.hid (And.intro k0 q1)
          clear k0 q1 hck hck2
          refine wp_region_later (by kernel_rfl) (by kernel_rfl) ?_
          repeat (go_big_quiet_step (fail))
          refine wpQuiet_nil ?_
          rintro _ ⟨xq, rfl⟩
          obtain ⟨wy, hwy⟩ : ∃ wy, wy = xq.val := ⟨_, rfl⟩
          have HBY := Lib.hid (show Below wr.heap.size wr wy from hwy ▸ xq.2)
          rw [← hwy]
          clear M0 M1 M2 M3 hwy
          clear xq
          have k0 : wy.cell? ⟨b, o + k, none⟩ = some (.slice (some ⟨b4, o4, none⟩) xss[k].length c2) := (HBY.out.cell (World.block_lt_of_cell? _ _ KK.out.1)).trans KK.out.1
          have q1 : wy.cell? ⟨w.heap.size, 1, none⟩ = some (.slice (some ⟨b, o, none⟩) xss.length c) := (HBY.out.cell (World.block_lt_of_cell? _ _ KK.out.2)).trans KK.out.2
          have hsy := HBY.out.size
          have HOY := Lib.hid (HOUT.out.on HBY.out)
          have HBEY := Lib.hid (HBE.out.trans (HBY.out.mono (by omega)))
          have HRY := Lib.hid (HR0.out.more (show w.heap.size ≤ wr.heap.size by omega) |>.on HBY.out)
          clear HOUT HR0
          by_cases he : xss[k][j] = xss[k][j2]
          · have e1 : (xss[k][j] == xss[k][j2]) = true := by simp [he]
            have HN := Lib.hid (show (xss.take (k + 1)).filter p = (xss.take k).filter p ++ [xss[k]] from filter_take_yes hlt (by rw [HPP.out]; simp [hri, hri2, he]))
            have hfl := filter_len_le p xss k
            clear he hri hri2
            go_upto_region 8 with fail
            obtain ⟨M, hM⟩ : ∃ M, M = (xss.take k).filter p := ⟨_, rfl⟩
            rw [← hM] at HOY HN hfl
            clear hM
            have q2 : wy.cell? ⟨w.heap.size + 2, 1, none⟩ = some (.slice A' M.length c') := HOY.out.box.cell 1
            obtain ⟨SS, hSS⟩ : ∃ SS : World → Prop, SS = (fun W => W.cell? ⟨w.heap.size + 2, 1, none⟩ = some (.slice A' M.length c') ∧ W.cell? ⟨w.heap.size, 1, none⟩ = some (.slice (some ⟨b, o, none⟩) xss.length c) ∧ W.cell? ⟨b, o + k, none⟩ = some (.slice (some ⟨b4, o4, none⟩) xss[k].length c2)) := ⟨_, rfl⟩
            have HSS := Lib.hid (show ∀ W, Below w6.heap.size wy W → SS W from by
              rw [hSS]
              exact fun W hW => ⟨(hW.cell (p := ⟨w.heap.size + 2, 1, none⟩) (by simp; omega)).trans q2, (hW.cell (p := ⟨w.heap.size, 1, none⟩) (by simp; omega)).trans q1, (hW.cell (p := ⟨b, o + k, none⟩) (by simp; omega)).trans k0⟩)
            have HB := Lib.hid (show ∀ W, SS W → (W.cell? ⟨w.heap.size + 2, 1, none⟩ = some (.slice A' M.length c') ∧ W.cell? ⟨w.heap.size, 1, none⟩ = some (.slice (some ⟨b, o, none⟩) xss.length c) ∧ W.cell? ⟨b, o + k, none⟩ = some (.slice (some ⟨b4, o4, none⟩) xss[k].length c2)) from by rw [hSS]; exact fun W hW => hW)
            clear hSS q1 q2 k0
            refine wp_region_rel SS 11 12 (by kernel_rfl) rfl ?_
            have S0 := Lib.hid (HSS.out _ ((Below.refl w6.heap.size wy).drew))
            refine wpAnyR_pure (i := 0) (oi := _) ?va0 rfl rfl (by kernel_rfl) (by decide) (fun _ _ _ h => h) rfl ?hya0 (fun _ => S0.out) ?resta0
            case hya0 => (intro W; go_simp; (try with_reducible rfl))
            try simp only [List.setIfInBounds_toArray, List.set_cons_zero, List.set_cons_succ]
            refine wpAnyR_take (i := 1) (oi := _) ?va1 rfl rfl (by kernel_rfl) (fun _ _ _ h => h) rfl ?hya1 S0.out ?resta1
            case hya1 => (intro W hW; obtain ⟨E0, E1, E2⟩ := HB.out W hW; go_simp; (try with_reducible rfl))
            try simp only [List.setIfInBounds_toArray, List.set_cons_zero, List.set_cons_succ]
            refine wpAnyR_pure (i := 2) (oi := _) ?va2 rfl rfl (by kernel_rfl) (by decide) (fun _ _ _ h => h) rfl ?hya2 (fun _ => S0.out) ?resta2
            case hya2 => (intro W; go_simp; (try with_reducible rfl))
            try simp only [List.setIfInBounds_toArray, List.set_cons_zero, List.set_cons_succ]
            refine wpAnyR_take (i := 3) (oi := _) ?va3 rfl rfl (by kernel_rfl) (fun _ _ _ h => h) rfl ?hya3 S0.out ?resta3
            case hya3 => (intro W hW; obtain ⟨E0, E1, E2⟩ := HB.out W hW; go_simp; (try with_reducible rfl))
            try simp only [List.setIfInBounds_toArray, List.set_cons_zero, List.set_cons_succ]
            refine wpAnyR_pure (i := 4) (oi := _) ?va4 rfl rfl (by kernel_rfl) (by decide) (fun _ _ _ h => h) rfl ?hya4 (fun _ => S0.out) ?resta4
            case hya4 => (intro W; go_simp; (try with_reducible rfl))
            try simp only [List.setIfInBounds_toArray, List.set_cons_zero, List.set_cons_succ]
            refine wpAnyR_pure (i := 5) (oi := _) ?va5 rfl rfl (by kernel_rfl) (by decide) (fun _ _ _ h => h) rfl ?hya5 (fun _ => S0.out) ?resta5
            case hya5 => (intro W; go_simp; (try with_reducible rfl))
            try simp only [List.setIfInBounds_toArray, List.set_cons_zero, List.set_cons_succ]
            refine wpAnyR_take (i := 6) (oi := _) ?va6 rfl rfl (by kernel_rfl) (fun _ _ _ h => h) rfl ?hya6 S0.out ?resta6
            case hya6 => (intro W hW; obtain ⟨E0, E1, E2⟩ := HB.out W hW; go_simp; (try with_reducible rfl))
            try simp only [List.setIfInBounds_toArray, List.set_cons_zero, List.set_cons_succ]
            refine wpAnyR_one (i := 7) (by kernel_rfl) rfl (fun K hK => ?_)
            try rw [if_pos (show Region.wanted _ _ = true from rfl)]
            go_simp
            refine (l3Copy_any (.slice (some ⟨b4, o4, none⟩) xss[k].length c2) xss[k] _ (HRY.out.on (Below.refl _ _).drew) (by omega)).mono ?_
            rintro e W4 ⟨A6, c6, rfl, ho6, hb6⟩
            have hb4w : Below wy.heap.size wy W4 := bthen (Below.refl _ _).drew hb6
            have S1 := Lib.hid (HSS.out _ (hb4w.mono (by omega)))
            refine hK.out _ _ (fun _ => S1.out) ?_
            clear hK K
            try simp only [List.setIfInBounds_toArray, List.set_cons_zero, List.set_cons_succ, Act.put]
            refine wpAnyR_one (i := 8) (by kernel_rfl) rfl (fun K hK => ?_)
            try rw [if_pos (show Region.wanted _ _ = true from rfl)]
            go_simp
            have S2 := Lib.hid (HSS.out _ ((bthen hb4w (below1 W4 (Obj.cells #[Value.slice A6 xss[k].length c6] 42))).mono (by omega)))
            refine hK.out _ _ (fun _ => S2.out) ?_
            clear hK K
            try simp only [List.setIfInBounds_toArray, List.set_cons_zero, List.set_cons_succ, Act.put]
            refine wpAnyR_one (i := 9) (by kernel_rfl) rfl (fun K hK => ?_)
            refine step_append_lies _ rfl (.tmp 53) (.tmp 60) 22 rfl w6.heap.size 42 i0 (.slice none 0 0) 1 24 Try.underlying22 hi0 hz0 hz1 hz2 rfl (by decide) (.slice A' M.length c') M.length av rfl ?c1 ⟨W4.heap.size, 0, none⟩ 1 1 [.slice A6 xss[k].length c6] rfl rfl ?c4 ?c2 (by omega) (by unfold maxLen; omega) (by omega) ?c3 _ rfl ?c5
            case c1 => exact (HOY.out.on hb4w).row.alloc _
            case c4 => exact World.news_of_block (cs := #[.slice A6 xss[k].length c6]) (heap_alloc_new W4 _)
            case c2 => intro u hu; simp at hu; subst hu; rfl
            case c3 => have := hb4w.size; simp; omega
            case c5 =>
            intro g2 cap w7 hown hgr hat _
            have hpush := HOY.out.push (xs := xss[k]) hb4w ho6 hgr hown
            have hgrown := HOY.out.grown hb4w hgr
            have S3 := Lib.hid (HSS.out w7 hgrown)
            have hbx := HOY.out.box.below hgrown (by omega)
            have g1 : w7.cell? ⟨w.heap.size + 2, 1, none⟩ = some (.slice A' M.length c') := hbx.cell 1
            have g1f := hbx.frozen 1
            have HPU := Lib.hid hpush
            clear hpush hown hgr hat hgrown hbx
            refine hK.out _ _ (fun _ => S3.out) ?_
            clear hK K
            try simp only [List.setIfInBounds_toArray, Act.put]
            refine wpAnyR_pure (i := 10) (oi := _) ?vb10 rfl rfl (by kernel_rfl) (by decide) (fun _ _ _ h => h) rfl ?hyb10 (fun _ => S3.out) ?restb10
            case hyb10 => (intro W; go_simp; (try with_reducible rfl))
            try simp only [List.setIfInBounds_toArray, List.set_cons_zero, List.set_cons_succ]
            refine wpAnyR_one (i := 11) (by kernel_rfl) rfl (fun K hK => ?_)
            go_simp
            refine hK.out _ _ (fun hf => absurd hf (by decide)) ?_
            clear hK K
            refine wpAnyR_done (by kernel_rfl) ?_
            go_wp2_with fail
            go_roundw
            case rel => exact ⟨k + 1, _, _, _, by omega, by go_num, by rw [HN.out]; exact HPU.out.1, HBEY.out.trans HPU.out.2⟩
            case measure => simp [intOf]; omega
          · have e1 : (xss[k][j] == xss[k][j2]) = false := by simp [he]
            have HN := Lib.hid (show (xss.take (k + 1)).filter p = (xss.take k).filter p from filter_take_no hlt (by rw [HPP.out]; simp [hri, hri2, he]))
            clear he hri hri2
            go_wp2_with fail
            go_roundw
            case rel => exact ⟨k + 1, _, _, _, by omega, by go_num, by rw [HN.out]; exact HOY.out, HBEY.out⟩
            case measure => simp [intOf]; omega
        · have hkn : k = xss.length := by omega
          have HO2 := Lib.hid (show OutAt w6.heap.size (w.heap.size + 2) wr m (xss.filter p) A' c' av by have := HOUT.out; rw [hkn, List.take_length] at this; exact this)
          have t1 := HX.out.2.below HBE.out (by omega)
          have b1c0 : wr.cell? ⟨w.heap.size + 1, 0, none⟩ = some (.int .i64 0) := t1.cell 0
          have b1c1 : wr.cell? ⟨w.heap.size + 1, 1, none⟩ = some (.slice none 0 0) := t1.cell 1
          have b1f0 := t1.frozen 0
          have b1f1 := t1.frozen 1
          have d0 : wr.cell? ⟨w.heap.size + 2, 0, none⟩ = some (.int .i64 m) := HO2.out.box.cell 0
          have d1 : wr.cell? ⟨w.heap.size + 2, 1, none⟩ = some (.slice A' (xss.filter p).length c') := HO2.out.box.cell 1
          obtain ⟨M, hM⟩ : ∃ M, M = xss.filter p := ⟨_, rfl⟩
          rw [← hM] at HO2 d1 HF
          clear hkn hM HOUT t1
          go_wp2_with fail
          refine bodyPost_ret (v := .agg #[.int .i64 m, .slice A' M.length c']) (by simp [results, Try.results28, go_sem, b1c0, b1c1]) rfl ?_
          rw [HF.out]
          refine ⟨A', c', rfl, ?_, (BW.out.setCell (by simp) _).setCell (by simp) _⟩
          have hrw := HO2.out.rows
          have h1 := (hrw.only (Only.setCell (Only.refl 0 (w.heap.size + 3) wr) (p := ⟨w.heap.size + 1, 0, none⟩) ⟨Nat.zero_le _, by simp⟩ (.int .i64 m)) (.inr (by omega)))
          have h2 := (h1.only (Only.setCell (Only.refl 0 (w.heap.size + 3) _) (p := ⟨w.heap.size + 1, 1, none⟩) ⟨Nat.zero_le _, by simp⟩ (.slice A' M.length c')) (.inr (by omega)))
          exact h2.mono (by omega) (by simp)

end Go.Proofs.Ytchincemlilnoaa
/-
  RelPick and RelSame of the program; hasColumns, the closures.
-/
namespace Go.Proofs.Ytchincemlilnoaa
open Go.RowKit

/-- The first k columns are there. -/
def ColsTo (m : Int) (cols : List Int) (k : Nat) : Prop := ∀ j (h : j < cols.length), j < k → colIn m cols[j] = true
theorem ColsTo.all {m : Int} {cols : List Int} (h : ColsTo m cols cols.length) : cols.all (colIn m) = true := by
  rw [List.all_eq_true]
  intro f hf
  obtain ⟨j, hj, rfl⟩ := List.getElem_of_mem hf
  exact h j hj hj
theorem ColsTo.step {m : Int} {cols : List Int} {k : Nat} (h : ColsTo m cols k) (hk : k < cols.length) (e : colIn m cols[k] = true) : ColsTo m cols (k + 1) := fun j hj hlt => by
  by_cases h2 : j = k
  · subst h2; exact e
  · exact h j hj (by omega)
theorem cols_not {m : Int} {cols : List Int} {k : Nat} (hk : k < cols.length) (e : colIn m cols[k] = false) : cols.all (colIn m) = false := by
  rw [List.all_eq_false]
  exact ⟨cols[k], List.getElem_mem hk, by rw [e]; simp⟩

set_option maxHeartbeats 1000000 in
set_option maxRecDepth 100000 in
theorem hasColumns_is {b : Bool} (v v2 : Value) (r : LRel) (cols : List Int) (hb : cols.all (colIn r.1) = b) (w : World) (h : RdRel w w.heap.size v r) (h2 : RdInts w w.heap.size v2 cols) (hn : cols.length ≤ 1048576) :
    Calls Try.prog 64 #[v, v2] w fun e w' => e = .returned (.bool b) ∧ Below w.heap.size w w' := by
  have HB := Lib.hid hb
  clear hb
  obtain ⟨a, rfl, h⟩ := h
  obtain ⟨A, c, rfl, hc, _⟩ := h
  obtain ⟨A2, c2, rfl, hc2, hx⟩ := h2
  obtain ⟨m, xss⟩ := r
  simp only at hc HB
  go_enter Try.func64, Try.ntmps64
  go_wp2_with fail
  obtain ⟨w1, hw1⟩ : ∃ w1, w1 = w.alloc (Obj.cells #[Value.int IntKind.i64 m, Value.slice A xss.length c] 27) := ⟨_, rfl⟩
  have B1 : Below w.heap.size w w1 := by rw [hw1]; exact below1 _ _
  have x0 : Blk w1 w.heap.size 27 #[.int .i64 m, .slice A xss.length c] := by rw [hw1]; exact Blk.new _ _ _
  rw [← hw1]
  have q0 : w1.cell? ⟨w.heap.size, 0, none⟩ = some (.int .i64 m) := x0.cell 0
  have hgl := x0.lt
  clear hw1 x0
  go_loop [6, 9] (fun _ i => ∃ k : Nat, k ≤ cols.length ∧ i = .int .i64 k ∧ ColsTo m cols k) (fun _ i => cols.length - (intOf i).toNat)
  case atStart => exact ⟨0, Nat.zero_le _, rfl, fun j _ hj => absurd hj (by omega)⟩
  case round =>
    obtain ⟨k, hk, rfl, hs⟩ := hrel
    by_cases hlt : k < cols.length
    · obtain ⟨b2, o2, rfl, hb2, hxx⟩ := hx (by omega)
      have k0 : w1.cell? ⟨b2, o2 + k, none⟩ = some (.int .i64 cols[k]) := (B1.cell (p := ⟨b2, o2 + k, none⟩) hb2).trans (hxx k hlt)
      have HS := Lib.hid hs
      obtain ⟨x, hxe⟩ : ∃ x, x = cols[k] := ⟨_, rfl⟩
      rw [← hxe] at k0
      have HXE := Lib.hid hxe
      clear hxx hs hxe
      by_cases h0 : x < 0
      · have d0 : decide (x < 0) = true := decide_eq_true h0
        have HE := Lib.hid (show b = false by rw [← HB.out]; exact cols_not hlt (by rw [← HXE.out]; unfold colIn; exact decide_eq_false (by omega)))
        clear h0
        go_wp2_with fail
        go_ret
        exact ⟨ret_bool HE.out.symm, B1⟩
      · have d0 : decide (x < 0) = false := decide_eq_false h0
        by_cases h1 : m ≤ x
        · have d1 : decide (m ≤ x) = true := decide_eq_true h1
          have HE := Lib.hid (show b = false by rw [← HB.out]; exact cols_not hlt (by rw [← HXE.out]; unfold colIn; exact decide_eq_false (by omega)))
          clear h0 h1
          go_wp2_with fail
          go_ret
          exact ⟨ret_bool HE.out.symm, B1⟩
        · have d1 : decide (m ≤ x) = false := decide_eq_false h1
          have HN := Lib.hid (HS.out.step hlt (by rw [← HXE.out]; unfold colIn; exact decide_eq_true (by omega)))
          clear h0 h1
          go_wp2_with fail
          go_round
          case rel => exact ⟨k + 1, by omega, by go_num, HN.out⟩
          case measure => simp [intOf]; omega
    · have hkn : k = cols.length := by omega
      have HE := Lib.hid (show b = true by rw [← HB.out]; exact ColsTo.all (by rw [← hkn]; exact hs))
      clear hkn hs
      go_wp2_with fail
      go_ret
      exact ⟨ret_bool HE.out.symm, B1⟩

theorem szRows_filter (p : List Int → Bool) : ∀ xss : List (List Int), szRows (xss.filter p) ≤ szRows xss
  | [] => by simp
  | x :: xss => by
    have := szRows_filter p xss
    unfold szRows totSS at this ⊢
    by_cases h : p x = true
    · rw [List.filter_cons_of_pos h]
      simp only [List.length_cons, List.map_cons, List.sum_cons]
      omega
    · rw [List.filter_cons_of_neg h]
      simp only [List.length_cons, List.map_cons, List.sum_cons]
      omega
theorem pickR_sz (r : LRel) (col c : Int) : szRows (pickR r col c).2 ≤ szRows r.2 := by
  unfold pickR
  split
  · exact szRows_filter _ _
  · simp [szRows, totSS]
theorem sameR_sz (r : LRel) (a b : Int) : szRows (sameR r a b).2 ≤ szRows r.2 := by
  unfold sameR
  split
  · exact szRows_filter _ _
  · simp [szRows, totSS]
theorem rdInts_one (w : World) (a : Int) : RdInts (w.alloc (.cells #[.int .i64 a] 3)) (w.alloc (.cells #[.int .i64 a] 3)).heap.size (.slice (some ⟨w.heap.size, 0, none⟩) 1 1) [a] := by
  have hb := Blk.new w 3 #[.int .i64 a]
  refine ⟨_, 1, rfl, by simp, fun _ => ⟨w.heap.size, 0, rfl, by simp, fun k hk => ?_⟩⟩
  match k, hk with
  | 0, _ => exact hb.cell 0
theorem rowI_at {row : List Int} {j : Nat} (h : j < row.length) : rowI row (j : Int) = row[j] := by simp [rowI, h]

set_option maxHeartbeats 1000000 in
theorem pickCl_any (u : Value) (row : List Int) (p1 p2 j : Nat) (cc : Int) (w : World) (h : RdInts w w.heap.size u row) (hj : j < row.length) (h1 : w.cell? ⟨p1, 0, none⟩ = some (.int .i64 j)) (h2 : w.cell? ⟨p2, 0, none⟩ = some (.int .i64 cc)) :
    Calls Try.prog 66 #[u, .pointer (some ⟨p1, 0, none⟩), .pointer (some ⟨p2, 0, none⟩)] w fun e w' => e = .returned (.bool (rowI row j == cc)) ∧ Below w.heap.size w w' := by
  rw [rowI_at hj]
  obtain ⟨A, c, rfl, hc, hx⟩ := h
  obtain ⟨b, o, rfl, hb, hxx⟩ := hx (by omega)
  have k0 : w.cell? ⟨b, o + j, none⟩ = some (.int .i64 row[j]) := hxx j hj
  have hjz : (0 : Int) ≤ (j : Int) := by omega
  have hji : (j : Int) < (row.length : Int) := by omega
  clear hx hxx
  go_enter Try.func66, Try.ntmps66
  go_wp2_with fail
  go_quiet (fail)
  go_wp2_with fail
  go_ret
  exact ⟨rfl, bdrewN (Below.refl _ _) _⟩
set_option maxHeartbeats 1000000 in
theorem sameCl_any (u : Value) (row : List Int) (p1 p2 j j2 : Nat) (w : World) (h : RdInts w w.heap.size u row) (hj : j < row.length) (hj2 : j2 < row.length) (h1 : w.cell? ⟨p1, 0, none⟩ = some (.int .i64 j)) (h2 : w.cell? ⟨p2, 0, none⟩ = some (.int .i64 j2)) :
    Calls Try.prog 67 #[u, .pointer (some ⟨p1, 0, none⟩), .pointer (some ⟨p2, 0, none⟩)] w fun e w' => e = .returned (.bool (rowI row j == rowI row j2)) ∧ Below w.heap.size w w' := by
  rw [rowI_at hj, rowI_at hj2]
  obtain ⟨A, c, rfl, hc, hx⟩ := h
  obtain ⟨b, o, rfl, hb, hxx⟩ := hx (by omega)
  have k0 : w.cell? ⟨b, o + j, none⟩ = some (.int .i64 row[j]) := hxx j hj
  have k1 : w.cell? ⟨b, o + j2, none⟩ = some (.int .i64 row[j2]) := hxx j2 hj2
  have hjz : (0 : Int) ≤ (j : Int) := by omega
  have hji : (j : Int) < (row.length : Int) := by omega
  have hjz2 : (0 : Int) ≤ (j2 : Int) := by omega
  have hji2 : (j2 : Int) < (row.length : Int) := by omega
  clear hx hxx
  go_enter Try.func67, Try.ntmps67
  go_wp2_with fail
  go_quiet (fail)
  go_wp2_with fail
  go_ret
  exact ⟨rfl, bdrewN (Below.refl _ _) _⟩

end Go.Proofs.Ytchincemlilnoaa
/-
  Tables of facts: a word for each predicate.
-/
namespace Go.Proofs.Ytchincemlilnoaa
open Go.RowKit

/-- The words of a table, with one fact more. -/
def setBit (T : List Nat) (p n : Nat) : List Nat := T.set p (T.getD p 0 ||| 2 ^ n)
def tabCells (T : List Nat) : Array Value := (T.map fun x => Value.int .u64 ((x : Nat) : Int)).toArray
end Go.Proofs.Ytchincemlilnoaa
/-
  l3Consts.
-/
namespace Go.Proofs.Ytchincemlilnoaa
open Go.RowKit

def constsL (fs : List LFact) : Bool := fs.all fun f => f.2.all constOk
/-- 'the first k facts have constants alone'. -/
def ConstsFs (fs : List LFact) (k : Nat) : Prop := ∀ j (h : j < fs.length), j < k → fs[j].2.all constOk = true
theorem ConstsFs.all {fs : List LFact} (h : ConstsFs fs fs.length) : constsL fs = true := by
  unfold constsL
  rw [List.all_eq_true]
  intro f hf
  obtain ⟨j, hj, rfl⟩ := List.getElem_of_mem hf
  exact h j hj hj
theorem ConstsFs.step {fs : List LFact} {k : Nat} (h : ConstsFs fs k) (hk : k < fs.length) (e : fs[k].2.all constOk = true) : ConstsFs fs (k + 1) := fun j hj hlt => by
  by_cases h2 : j = k
  · subst h2; exact e
  · exact h j hj (by omega)
theorem constsL_not {fs : List LFact} {k j : Nat} (hk : k < fs.length) (hj : j < fs[k].2.length) (e : constOk fs[k].2[j] = false) : constsL fs = false := by
  unfold constsL
  rw [List.all_eq_false]
  exact ⟨fs[k], List.getElem_mem hk, by rw [consts_not hj e]; simp⟩

set_option maxHeartbeats 1000000 in
set_option maxRecDepth 100000 in
theorem l3Consts_any (v : Value) (fs : List LFact) (B : Nat) (w : World) (h : RdFacts w B v fs) (hn : fs.length ≤ 1048576) (ht : tot fs ≤ 1048576) :
    Calls Try.prog 53 #[v] w fun e w' => e = .returned (.bool (constsL fs)) ∧ w = w' := by
  have H := Lib.hid h
  obtain ⟨A, c, rfl, hc, _⟩ := h
  go_enter Try.func53, Try.ntmps53
  go_wp2_with (fail)
  go_loop [3, 4] (fun i _ => ∃ k : Nat, k ≤ fs.length ∧ i = .int .i64 k ∧ ConstsFs fs k) (fun i _ => fs.length - (intOf i).toNat)
  case atStart => exact ⟨0, Nat.zero_le _, rfl, fun j _ hj => absurd hj (by omega)⟩
  case round =>
    obtain ⟨k, hk, rfl, hs⟩ := hrel
    by_cases hlt : k < fs.length
    · obtain ⟨b, o, A3, c3, rfl, hbB, k1, k2, k3⟩ := H.out.get hlt
      have hln := len_le_tot fs k hlt
      obtain ⟨_, _, e3, _, hx⟩ := k3
      injection e3 with e3 _ e4
      subst e3 e4
      have HS := Lib.hid hs
      clear hs
      go_wp2_with (fail)
      go_loop [4] (fun i => ∃ j : Nat, j ≤ fs[k].2.length ∧ i = .int .i64 j ∧ ConstsTo fs[k].2 j) (fun i => fs[k].2.length - (intOf i).toNat)
      case atStart => exact ⟨0, Nat.zero_le _, rfl, fun j hj => absurd hj (by omega)⟩
      case round =>
        obtain ⟨j, hj, rfl, hs⟩ := hrel
        by_cases hltj : j < fs[k].2.length
        · obtain ⟨b4, o4, rfl, _, hx⟩ := hx (by omega)
          have hck : w.cell? ⟨b4, o4 + j, none⟩ = some (.int .i64 fs[k].2[j]) := hx j hltj
          clear hx
          by_cases he : 0 ≤ fs[k].2[j] ∧ fs[k].2[j] ≤ 5
          · have HT := Lib.hid (hs.step (by simpa [hltj, constOk] using he))
            have HK := Lib.hid (l1In_yes he)
            clear hs he
            go_wp2_with (go_at_call 47; refine (HK.out _).mono ?_; rintro e w' ⟨rfl, rfl⟩)
            go_round
            case rel => exact ⟨j + 1, by omega, by go_num, HT.out⟩
            case measure => simp [intOf]; omega
          · have HE := Lib.hid (constsL_not hlt hltj (by simpa [constOk] using he))
            have HK := Lib.hid (l1In_no he)
            clear hs he
            go_wp2_with (go_at_call 47; refine (HK.out _).mono ?_; rintro e w' ⟨rfl, rfl⟩)
            go_ret
            exact ⟨ret_bool HE.out.symm, rfl⟩
        · have hjn : j = fs[k].2.length := by omega
          have HE := Lib.hid (HS.out.step hlt (ConstsTo.all (by rw [← hjn]; exact hs)))
          clear hs hjn hx
          go_wp2_with (fail)
          go_round
          case rel => exact ⟨k + 1, by omega, by go_num, HE.out⟩
          case measure => simp [intOf]; omega
    · have hkn : k = fs.length := by omega
      have HE := Lib.hid (show constsL fs = true from ConstsFs.all (by rw [← hkn]; exact hs))
      clear hkn hs
      go_wp2_with (fail)
      go_ret
      exact ⟨ret_bool HE.out.symm, rfl⟩

theorem l3Consts_is {fs : List LFact} {b : Bool} (e : constsL fs = b) (v : Value) (B : Nat) (w : World) (h : RdFacts w B v fs) (hn : fs.length ≤ 1048576) (ht : tot fs ≤ 1048576) :
    Calls Try.prog 53 #[v] w fun e w' => e = .returned (.bool b) ∧ w = w' := e ▸ l3Consts_any v fs B w h hn ht

end Go.Proofs.Ytchincemlilnoaa
/-
  A table of facts is filled: constantsNumber, addAll.
-/
namespace Go.Proofs.Ytchincemlilnoaa
open Go.RowKit

/-- The number of which constants are the digits. -/
def numF (xs : List Int) : Nat := xs.foldl (fun n c => n * 6 + c.toNat) 0
theorem numF_take {xs : List Int} {k : Nat} (h : k < xs.length) : numF (xs.take (k + 1)) = numF (xs.take k) * 6 + xs[k].toNat := by
  unfold numF
  rw [take_snoc xs k h, List.foldl_append]
  rfl
theorem numF_lt {xs : List Int} (hc : xs.all constOk = true) : ∀ k, k ≤ xs.length → numF (xs.take k) < 6 ^ k
  | 0, _ => by simp [numF]
  | k + 1, hk => by
    have ih := numF_lt hc k (by omega)
    rw [numF_take (by omega), Nat.pow_succ]
    have : 0 ≤ xs[k] ∧ xs[k] ≤ 5 := by simpa [constOk] using List.all_eq_true.1 hc _ (List.getElem_mem (show k < xs.length by omega))
    omega

set_option maxHeartbeats 1000000 in
set_option maxRecDepth 100000 in
theorem constantsNumber_any (v : Value) (xs : List Int) (B : Nat) (w : World) (h : RdInts w B v xs) (hc : xs.all constOk = true) (hl : xs.length ≤ 2) :
    Calls Try.prog 58 #[v] w fun e w' => e = .returned (.int .i64 (numF xs : Nat)) ∧ w = w' := by
  obtain ⟨A, c, rfl, hcc, ha⟩ := h
  have HC := Lib.hid hc
  clear hc
  go_enter Try.func58, Try.ntmps58
  go_wp2_with fail
  go_loopw [3, 8] (fun m i wr => ∃ (k n : Nat), k ≤ xs.length ∧ i = .int .i64 k ∧ m = .int .i64 n ∧ n = numF (xs.take k) ∧ wr = w) (fun _ i _ => xs.length - (intOf i).toNat)
  case atStart => exact ⟨0, 0, by simp [numF]⟩
  case round =>
    obtain ⟨k, n, hk, rfl, rfl, hn, rfl⟩ := hrel
    by_cases hlt : k < xs.length
    · obtain ⟨b, o, rfl, hbB, hx⟩ := ha (by omega)
      have hck : wr.cell? ⟨b, o + k, none⟩ = some (.int .i64 xs[k]) := hx k hlt
      have hb : 0 ≤ xs[k] ∧ xs[k] ≤ 5 := by simpa [constOk] using List.all_eq_true.1 HC.out _ (List.getElem_mem hlt)
      have hn6 : n < 36 := by
        have := numF_lt HC.out k hk
        have h2 : (6 : Nat) ^ k ≤ 6 ^ 2 := Nat.pow_le_pow_right (by decide) (by omega)
        rw [hn]
        omega
      obtain ⟨x, hx2⟩ : ∃ x : Nat, xs[k] = (x : Int) := ⟨xs[k].toNat, by omega⟩
      have HN := Lib.hid (show numF (xs.take (k + 1)) = n * 6 + x by rw [numF_take hlt, hn, hx2]; rfl)
      have hxl : x ≤ 5 := by omega
      rw [hx2] at hck
      clear hx hx2 hb hn
      go_wp2_with fail
      go_roundw
      case rel => exact ⟨k + 1, n * 6 + x, by omega, by go_num, by go_num, HN.out.symm, by first | trivial | rfl⟩
      case measure => simp [intOf]; omega
    · have HE := Lib.hid (show n = numF xs by rw [hn, show k = xs.length by omega, List.take_length])
      clear hn ha
      go_wp2_with fail
      go_ret
      exact ⟨ret_int (by rw [HE.out]), rfl⟩

/-- The facts of a table's predicates. -/
def TabFact (f : LFact) : Prop := 0 ≤ f.1 ∧ f.1 < 24 ∧ f.2.all constOk = true ∧ f.2.length ≤ 2
def tabWith (T : List Nat) (fs : List LFact) : List Nat := fs.foldl (fun T f => setBit T f.1.toNat (numF f.2)) T
theorem tabWith_take {T : List Nat} {fs : List LFact} {k : Nat} (h : k < fs.length) : tabWith T (fs.take (k + 1)) = setBit (tabWith T (fs.take k)) fs[k].1.toNat (numF fs[k].2) := by
  unfold tabWith
  rw [take_snoc fs k h, List.foldl_append]
  rfl
theorem numF_64 {xs : List Int} (hc : xs.all constOk = true) (hl : xs.length ≤ 2) : numF xs < 64 := by
  have := numF_lt hc xs.length (Nat.le_refl _)
  rw [List.take_length] at this
  have h2 : (6 : Nat) ^ xs.length ≤ 6 ^ 2 := Nat.pow_le_pow_right (by decide) hl
  omega

end Go.Proofs.Ytchincemlilnoaa
/-
  Columns of relations: both sides' small functions.
-/
namespace Go.Proofs.Ytchincemlilnoaa
open Go.RowKit

/-- What a row has in some columns. -/
def pickC (row cols : List Int) : List Int := cols.map (rowI row)
theorem pickC_length (row cols : List Int) : (pickC row cols).length = cols.length := by simp [pickC]
theorem rowI_in {row : List Int} {c : Int} (h0 : 0 ≤ c) (h1 : c < row.length) : ∃ j : Nat, c = (j : Int) ∧ ∃ h : j < row.length, rowI row c = row[j] := by
  obtain ⟨j, rfl⟩ := Int.eq_ofNat_of_zero_le h0
  exact ⟨j, rfl, by omega, rowI_at (by omega)⟩
theorem pickC_ok {row cols : List Int} (hr : row.all constOk = true) (hc : cols.all (colIn row.length) = true) : (pickC row cols).all constOk = true := by
  rw [List.all_eq_true] at hr hc ⊢
  intro x hx
  obtain ⟨c, hcm, rfl⟩ := List.mem_map.1 hx
  have := hc c hcm
  have h2 : 0 ≤ c ∧ c < (row.length : Int) := by simpa [colIn] using this
  obtain ⟨j, rfl, hj, e⟩ := rowI_in h2.1 h2.2
  rw [e]
  exact hr _ (List.getElem_mem hj)
theorem cols_at {m : Int} {cols : List Int} (h : cols.all (colIn m) = true) {k : Nat} (hk : k < cols.length) : 0 ≤ cols[k] ∧ cols[k] < m := by
  have := List.all_eq_true.1 h _ (List.getElem_mem hk)
  simpa [colIn] using this
/-- A relation has all columns, and these are no more than there may be. -/
def colsB (m : Int) (cols : List Int) : Bool := cols.all (colIn m) && decide (cols.length ≤ 6)

set_option maxHeartbeats 2000000 in
set_option maxRecDepth 100000 in
theorem l9Cols_is {b : Bool} (v v2 : Value) (r : LRel) (cols : List Int) (hb : colsB r.1 cols = b) (w : World) (h : RdRel w w.heap.size v r) (h2 : RdInts w w.heap.size v2 cols) (h0 : 0 ≤ r.1) (h6 : r.1 ≤ 6) (hn : cols.length ≤ 1048576) :
    Calls Try.prog 68 #[v, v2] w fun e w' => e = .returned (.bool b) ∧ Below w.heap.size w w' := by
  have HB := Lib.hid hb
  clear hb
  obtain ⟨a, rfl, h⟩ := h
  have H := Lib.hid h
  obtain ⟨A, c, rfl, hc, _⟩ := h
  have H2 := Lib.hid h2
  obtain ⟨A2, c2, rfl, hc2, _⟩ := h2
  obtain ⟨m, xss⟩ := r
  simp only at hc HB h0 h6 H
  go_enter Try.func68, Try.ntmps68
  go_wp2_with fail
  obtain ⟨w1, hw1⟩ : ∃ w1, w1 = w.alloc (Obj.cells #[Value.int IntKind.i64 m, Value.slice A xss.length c] 27) := ⟨_, rfl⟩
  have B1 : Below w.heap.size w w1 := by rw [hw1]; exact below1 _ _
  have x0 : Blk w1 w.heap.size 27 #[.int .i64 m, .slice A xss.length c] := by rw [hw1]; exact Blk.new _ _ _
  rw [← hw1]
  have HX := Lib.hid x0
  clear hw1 x0
  go_loopw [5] (fun i wr => ∃ k : Nat, k ≤ cols.length ∧ i = .int .i64 k ∧ ColsTo m cols k ∧ Below w1.heap.size w1 wr) (fun i _ => cols.length - (intOf i).toNat)
  case atStart => exact ⟨0, Nat.zero_le _, rfl, fun j _ hj => absurd hj (by omega), Below.refl _ _⟩
  case round =>
    obtain ⟨k, hk, rfl, hs, hbe⟩ := hrel
    have HS := Lib.hid hs
    have HBW := Lib.hid (bthen B1 hbe)
    have HBE := Lib.hid hbe
    by_cases hlt : k < cols.length
    · obtain ⟨A3, c3, e3, _, hx⟩ := H2.out.on HBW.out
      injection e3 with e3 _ e4
      subst e3 e4
      obtain ⟨b2, o2, rfl, hb2, hxx⟩ := hx (by omega)
      have k0 : wr.cell? ⟨b2, o2 + k, none⟩ = some (.int .i64 cols[k]) := hxx k hlt
      have xr := HX.out.below hbe HX.out.lt
      have q0 : wr.cell? ⟨w.heap.size, 0, none⟩ = some (.int .i64 m) := xr.cell 0
      have q1 : wr.cell? ⟨w.heap.size, 1, none⟩ = some (.slice A xss.length c) := xr.cell 1
      obtain ⟨x, hxe⟩ : ∃ x, x = cols[k] := ⟨_, rfl⟩
      rw [← hxe] at k0
      have HXE := Lib.hid hxe
      obtain ⟨bz, hbz⟩ : ∃ bz, bz = colIn m x := ⟨_, rfl⟩
      have CC := Lib.hid (fun q : Later wr => l9Col_is (.agg #[.int .i64 m, .slice A xss.length c]) (m, xss) x hbz.symm q.val ⟨_, rfl, H.out.on (bthen HBW.out q.2)⟩ h0 h6)
      have HBZ := Lib.hid hbz
      have hkz : (0 : Int) ≤ (k : Int) := by omega
      have hki : (k : Int) < (cols.length : Int) := by omega
      clear hxx hs hxe hbe hbz xr hx
      cases bz
      · have HE := Lib.hid (show b = false by rw [← HB.out]; unfold colsB; rw [cols_not hlt (by rw [← HXE.out]; exact HBZ.out.symm)]; rfl)
        go_upto_region 4 with fail
        have M0 := later_cell k0
        have M1 := later_cell q0
        have M2 := later_cell q1
        clear k0 q0 q1
        refine wp_region_later (by kernel_rfl) (by kernel_rfl) ?_
        repeat (go_big_quiet_step ((go_at_call 63; exact later_of (CC.out _))))
        refine wpQuiet_nil ?_
        rintro _ ⟨xq, rfl⟩
        go_wp2_with fail
        go_ret
        exact ⟨ret_bool HE.out.symm, bthen HBW.out xq.2⟩
      · have HN := Lib.hid (HS.out.step hlt (by rw [← HXE.out]; exact HBZ.out.symm))
        go_upto_region 4 with fail
        have M0 := later_cell k0
        have M1 := later_cell q0
        have M2 := later_cell q1
        clear k0 q0 q1
        refine wp_region_later (by kernel_rfl) (by kernel_rfl) ?_
        repeat (go_big_quiet_step ((go_at_call 63; exact later_of (CC.out _))))
        refine wpQuiet_nil ?_
        rintro _ ⟨xq, rfl⟩
        go_wp2_with fail
        go_roundw
        case rel => exact ⟨k + 1, by omega, by go_num, HN.out, bthen HBE.out xq.2⟩
        case measure => simp [intOf]; omega
    · have hkn : k = cols.length := by omega
      have HE := Lib.hid (show decide ((cols.length : Int) ≤ 6) = b by
        rw [← HB.out]
        unfold colsB
        rw [ColsTo.all (by rw [← hkn]; exact hs)]
        simp only [Bool.true_and]
        exact decide_eq_decide.2 (by omega))
      clear hkn hs hbe
      go_wp2_with fail
      go_ret
      exact ⟨ret_bool HE.out, HBW.out⟩

/-- Two rows have the same in pairs of columns, the first k. -/
def FitTo (x y left right : List Int) (k : Nat) : Prop := ∀ j (h : j < left.length) (h' : j < right.length), j < k → rowI x left[j] = rowI y right[j]
theorem FitTo.step {x y left right : List Int} {k : Nat} (h : FitTo x y left right k) (hk : k < left.length) (hk' : k < right.length) (e : rowI x left[k] = rowI y right[k]) : FitTo x y left right (k + 1) := fun j hj hj' hlt => by
  by_cases h2 : j = k
  · subst h2; exact e
  · exact h j hj hj' (by omega)
theorem FitTo.all {x y left right : List Int} (h : FitTo x y left right left.length) (hl : left.length = right.length) : pickC x left = pickC y right := by
  apply List.ext_getElem
  · simp [pickC, hl]
  · intro j h1 h2
    simp [pickC] at h1 h2
    simpa [pickC] using h j h1 h2 h1
theorem fit_not {x y left right : List Int} {k : Nat} (hk : k < left.length) (hk' : k < right.length) (e : rowI x left[k] ≠ rowI y right[k]) : pickC x left ≠ pickC y right := fun h => e (by
  have h2 : (pickC x left)[k]'(by simpa [pickC] using hk) = (pickC y right)[k]'(by simpa [pickC] using hk') := by simp only [h]
  simpa [pickC] using h2)

set_option maxHeartbeats 2000000 in
set_option maxRecDepth 100000 in
theorem l9Fit_is {b : Bool} (v0 v1 v2 v3 : Value) (x y left right : List Int) (hb : decide (pickC x left = pickC y right) = b) (w : World) (h0 : RdInts w w.heap.size v0 x) (h1 : RdInts w w.heap.size v1 y) (h2 : RdInts w w.heap.size v2 left) (h3 : RdInts w w.heap.size v3 right)
    (hl : left.length = right.length) (hc : left.all (colIn x.length) = true) (hc2 : right.all (colIn y.length) = true) (hn : left.length ≤ 1048576) :
    Calls Try.prog 71 #[v0, v1, v2, v3] w fun e w' => e = .returned (.bool b) ∧ Below w.heap.size w w' := by
  have HB := Lib.hid hb
  have HC := Lib.hid hc
  have HC2 := Lib.hid hc2
  have H0 := Lib.hid h0
  have H1 := Lib.hid h1
  have H2 := Lib.hid h2
  have H3 := Lib.hid h3
  have HL := Lib.hid hl
  clear hb hc hc2
  obtain ⟨A0, c0, rfl, _, _⟩ := h0
  obtain ⟨A1, c1, rfl, _, _⟩ := h1
  obtain ⟨A2, c2, rfl, hcl, _⟩ := h2
  obtain ⟨A3, c3, rfl, _, _⟩ := h3
  clear hl
  go_enter Try.func71, Try.ntmps71
  go_wp2_with fail
  go_loopw [9] (fun i wr => ∃ k : Nat, k ≤ left.length ∧ i = .int .i64 k ∧ FitTo x y left right k ∧ Below w.heap.size w wr) (fun i _ => left.length - (intOf i).toNat)
  case atStart => exact ⟨0, Nat.zero_le _, rfl, fun j _ _ hj => absurd hj (by omega), Below.refl _ _⟩
  case round =>
    obtain ⟨k, hk, rfl, hs, hbe⟩ := hrel
    have HS := Lib.hid hs
    have HBE := Lib.hid hbe
    clear hs hbe
    by_cases hlt : k < left.length
    · have hlt2 : k < right.length := by have := HL.out; omega
      obtain ⟨u0, u1⟩ := cols_at HC.out hlt
      obtain ⟨t0, t1⟩ := cols_at HC2.out hlt2
      obtain ⟨j, ej, hj, rj⟩ := rowI_in u0 u1
      obtain ⟨j2, ej2, hj2, rj2⟩ := rowI_in t0 t1
      obtain ⟨_, _, e3, _, hx⟩ := H2.out.on HBE.out
      injection e3 with e3 _ e4
      subst e3 e4
      obtain ⟨b2, o2, rfl, hb2, hxx⟩ := hx (by omega)
      have k0 : wr.cell? ⟨b2, o2 + k, none⟩ = some (.int .i64 (j : Int)) := by rw [← ej]; exact hxx k hlt
      obtain ⟨_, _, e3, _, hx3⟩ := H3.out.on HBE.out
      injection e3 with e3 _ e4
      subst e3 e4
      obtain ⟨b3, o3, rfl, hb3, hxx3⟩ := hx3 (by omega)
      have k1 : wr.cell? ⟨b3, o3 + k, none⟩ = some (.int .i64 (j2 : Int)) := by rw [← ej2]; exact hxx3 k hlt2
      obtain ⟨_, _, e3, _, hx4⟩ := H0.out.on HBE.out
      injection e3 with e3 _ e4
      subst e3 e4
      obtain ⟨b4, o4, rfl, hb4, hxx4⟩ := hx4 (by omega)
      have k2 : wr.cell? ⟨b4, o4 + j, none⟩ = some (.int .i64 x[j]) := hxx4 j hj
      obtain ⟨_, _, e3, _, hx5⟩ := H1.out.on HBE.out
      injection e3 with e3 _ e4
      subst e3 e4
      obtain ⟨b5, o5, rfl, hb5, hxx5⟩ := hx5 (by omega)
      have k3 : wr.cell? ⟨b5, o5 + j2, none⟩ = some (.int .i64 y[j2]) := hxx5 j2 hj2
      have hkz : (0 : Int) ≤ (k : Int) := by omega
      have hki : (k : Int) < (left.length : Int) := by omega
      have hki2 : (k : Int) < (right.length : Int) := by omega
      have hjz : (0 : Int) ≤ (j : Int) := by omega
      have hji : (j : Int) < (x.length : Int) := by omega
      have hjz2 : (0 : Int) ≤ (j2 : Int) := by omega
      have hji2 : (j2 : Int) < (y.length : Int) := by omega
      have HJ := Lib.hid (And.intro rj rj2)
      clear hx hxx hx3 hxx3 hx4 hxx4 hx5 hxx5 u0 u1 t0 t1 ej ej2 rj rj2
      go_upto_region 4 with fail
      have M0 := later_cell k0
      have M1 := later_cell k1
      have M2 := later_cell k2
      have M3 := later_cell k3
      clear k0 k1 k2 k3
      by_cases he : x[j] = y[j2]
      · have e1 : (x[j] != y[j2]) = false := by simp [he]
        have HN := Lib.hid (HS.out.step hlt hlt2 (by rw [HJ.out.1, HJ.out.2]; exact he))
        clear he
        refine wp_region_later (by kernel_rfl) (by kernel_rfl) ?_
        repeat (go_big_quiet_step (fail))
        refine wpQuiet_nil ?_
        rintro _ ⟨xq, rfl⟩
        go_wp2_with fail
        go_roundw
        case rel => exact ⟨k + 1, by omega, by go_num, HN.out, bthen HBE.out xq.2⟩
        case measure => simp [intOf]; omega
      · have e1 : (x[j] != y[j2]) = true := by simp [he]
        have HE := Lib.hid (show b = false by rw [← HB.out]; exact decide_eq_false (fit_not hlt hlt2 (by rw [HJ.out.1, HJ.out.2]; exact he)))
        clear he
        refine wp_region_later (by kernel_rfl) (by kernel_rfl) ?_
        repeat (go_big_quiet_step (fail))
        refine wpQuiet_nil ?_
        rintro _ ⟨xq, rfl⟩
        go_wp2_with fail
        go_ret
        exact ⟨ret_bool HE.out.symm, bthen HBE.out xq.2⟩
    · have HE := Lib.hid (show b = true by rw [← HB.out]; exact decide_eq_true (FitTo.all (by have := HS.out; rw [show k = left.length by omega] at this; exact this) HL.out))
      go_wp2_with fail
      go_ret
      exact ⟨ret_bool HE.out.symm, HBE.out⟩

theorem key_lt {row cols : List Int} (hr : row.all constOk = true) (hc : cols.all (colIn row.length) = true) {k : Nat} (hk : k ≤ cols.length) : numF ((pickC row cols).take k) < 6 ^ k := numF_lt (pickC_ok hr hc) k (by rw [pickC_length]; exact hk)

set_option maxHeartbeats 1000000 in
set_option maxRecDepth 100000 in
theorem columnsNumber_any (v v2 : Value) (row cols : List Int) (B : Nat) (w : World) (h : RdInts w B v row) (h2 : RdInts w B v2 cols) (hr : row.all constOk = true) (hc : cols.all (colIn row.length) = true) (hn : cols.length ≤ 6) :
    Calls Try.prog 74 #[v, v2] w fun e w' => e = .returned (.int .i64 (numF (pickC row cols) : Nat)) ∧ w = w' := by
  obtain ⟨A, c, rfl, hcc, ha⟩ := h
  obtain ⟨A2, c2, rfl, hcc2, ha2⟩ := h2
  have HR := Lib.hid hr
  have HC := Lib.hid hc
  clear hr hc
  go_enter Try.func74, Try.ntmps74
  go_wp2_with fail
  go_loop [5, 7, 10] (fun m _ i => ∃ (k n : Nat), k ≤ cols.length ∧ i = .int .i64 k ∧ m = .int .i64 n ∧ n = numF ((pickC row cols).take k)) (fun _ _ i => cols.length - (intOf i).toNat)
  case atStart => exact ⟨0, 0, by simp [numF]⟩
  case round =>
    obtain ⟨k, n, hk, rfl, rfl, hn0⟩ := hrel
    by_cases hlt : k < cols.length
    · obtain ⟨u0, u1⟩ := cols_at HC.out hlt
      obtain ⟨j, ej, hj, rj⟩ := rowI_in u0 u1
      obtain ⟨b2, o2, rfl, hb2, hx2⟩ := ha2 (by omega)
      obtain ⟨b, o, rfl, hbB, hx⟩ := ha (by omega)
      have k0 : w.cell? ⟨b2, o2 + k, none⟩ = some (.int .i64 (j : Int)) := by rw [← ej]; exact hx2 k hlt
      have hb : 0 ≤ row[j] ∧ row[j] ≤ 5 := by simpa [constOk] using List.all_eq_true.1 HR.out _ (List.getElem_mem hj)
      obtain ⟨x, hxe⟩ : ∃ x : Nat, row[j] = (x : Int) := ⟨row[j].toNat, by omega⟩
      have k1 : w.cell? ⟨b, o + j, none⟩ = some (.int .i64 (x : Int)) := by rw [← hxe]; exact hx j hj
      have hn6 : n < 46656 := by
        have := key_lt HR.out HC.out hk
        have h2 : (6 : Nat) ^ k ≤ 6 ^ 6 := Nat.pow_le_pow_right (by decide) (by omega)
        rw [hn0]
        omega
      have HN := Lib.hid (show numF ((pickC row cols).take (k + 1)) = n * 6 + x by
        rw [numF_take (by rw [pickC_length]; exact hlt), hn0]
        congr 1
        simp [pickC, rj, hxe])
      have hxl : x ≤ 5 := by omega
      have hjz : (0 : Int) ≤ (j : Int) := by omega
      have hji : (j : Int) < (row.length : Int) := by omega
      clear hx hx2 hb hn0 ej rj u0 u1 hxe
      go_wp2_with fail
      go_round
      case rel => exact ⟨k + 1, n * 6 + x, by omega, by go_num, by go_num, HN.out.symm⟩
      case measure => simp [intOf]; omega
    · have HE := Lib.hid (show n = numF (pickC row cols) by rw [hn0, show k = (pickC row cols).length by rw [pickC_length]; omega, List.take_length])
      clear hn0 ha ha2
      go_wp2_with fail
      go_ret
      exact ⟨ret_int (by rw [HE.out]), rfl⟩

end Go.Proofs.Ytchincemlilnoaa
/-
  Pairs of columns of two relations: l9Pairs, pairsFit.
-/
namespace Go.Proofs.Ytchincemlilnoaa
open Go.RowKit

/-- Two relations, and pairs of columns of them. -/
noncomputable def pairsB (a b : LRel) (left right : List Int) : Bool := relB a && (relB b && (decide (left.length = right.length) && (colsB a.1 left && colsB b.1 right)))
structure PairsP (a b : LRel) (left right : List Int) : Prop where
  ra : RelP a
  rb : RelP b
  len : left.length = right.length
  cl : left.all (colIn a.1) = true
  cr : right.all (colIn b.1) = true
  few : left.length ≤ 6
theorem pairsB_iff {a b : LRel} {left right : List Int} : pairsB a b left right = true ↔ PairsP a b left right := by
  unfold pairsB colsB
  simp only [Bool.and_eq_true, decide_eq_true_iff, relB_iff]
  constructor
  · rintro ⟨h1, h2, h3, ⟨h4, h5⟩, h6, _⟩
    exact ⟨h1, h2, h3, h4, h6, h5⟩
  · rintro ⟨h1, h2, h3, h4, h5, h6⟩
    exact ⟨h1, h2, h3, ⟨h4, h6⟩, h5, by omega⟩

set_option maxHeartbeats 4000000 in
set_option maxRecDepth 100000 in
theorem l9Pairs_is {z : Bool} (v0 v1 v2 v3 : Value) (a b : LRel) (left right : List Int) (hz : pairsB a b left right = z) (w : World) (h0 : RdRel w w.heap.size v0 a) (h1 : RdRel w w.heap.size v1 b) (h2 : RdInts w w.heap.size v2 left) (h3 : RdInts w w.heap.size v3 right)
    (s0 : szRows a.2 ≤ 1048576) (s1 : szRows b.2 ≤ 1048576) (s2 : left.length ≤ 1048576) (s3 : right.length ≤ 1048576) :
    Calls Try.prog 70 #[v0, v1, v2, v3] w fun e w' => e = .returned (.bool z) ∧ Below w.heap.size w w' := by
  have HZ := Lib.hid hz
  clear hz
  obtain ⟨a0, rfl, h0⟩ := h0
  have H0 := Lib.hid h0
  obtain ⟨A, c, rfl, _, _⟩ := h0
  obtain ⟨a1, rfl, h1⟩ := h1
  have H1 := Lib.hid h1
  obtain ⟨A1, c1, rfl, _, _⟩ := h1
  have H2 := Lib.hid h2
  obtain ⟨A2, c2, rfl, _, _⟩ := h2
  have H3 := Lib.hid h3
  obtain ⟨A3, c3, rfl, _, _⟩ := h3
  obtain ⟨m, xss⟩ := a
  obtain ⟨n, yss⟩ := b
  simp only at H0 H1 s0 s1 HZ
  go_enter Try.func70, Try.ntmps70
  go_wp2_with fail
  obtain ⟨w2, hw2⟩ : ∃ w2, w2 = (w.alloc (Obj.cells #[Value.int IntKind.i64 m, Value.slice A xss.length c] 27)).alloc (Obj.cells #[Value.int IntKind.i64 n, Value.slice A1 yss.length c1] 27) := ⟨_, rfl⟩
  have B2 : Below w.heap.size w w2 := by rw [hw2]; exact below2 _ _ _
  have x0 : Blk w2 w.heap.size 27 #[.int .i64 m, .slice A xss.length c] := by rw [hw2]; exact (Blk.new w _ _).alloc _
  have x1 : Blk w2 (w.heap.size + 1) 27 #[.int .i64 n, .slice A1 yss.length c1] := by
    rw [hw2]
    simpa using Blk.new (w.alloc (Obj.cells #[Value.int IntKind.i64 m, Value.slice A xss.length c] 27)) 27 #[.int .i64 n, .slice A1 yss.length c1]
  rw [← hw2]
  clear hw2
  obtain ⟨ok, hok⟩ : ∃ ok, ok = relB (m, xss) := ⟨_, rfl⟩
  have CR := specRelOk_any _ (m, xss) _ ⟨_, rfl, H0.out.on B2⟩ s0
  rw [← hok] at CR
  refine CR.mono ?_
  rintro e w3 ⟨rfl, hb3⟩
  have B3 := bthen B2 hb3
  have y0 := x0.below hb3 x0.lt
  have y1 := x1.below hb3 x1.lt
  clear x0 x1 CR
  have HOK := Lib.hid hok
  clear hok
  cases ok
  · have HE := Lib.hid (show z = false by rw [← HZ.out]; unfold pairsB; rw [← HOK.out]; rfl)
    go_wp2_with fail
    go_ret
    exact ⟨ret_bool HE.out.symm, B3⟩
  have hpa : RelP (m, xss) := relB_iff.1 HOK.out.symm
  have q0 : w3.cell? ⟨w.heap.size + 1, 0, none⟩ = some (.int .i64 n) := y1.cell 0
  have q1 : w3.cell? ⟨w.heap.size + 1, 1, none⟩ = some (.slice A1 yss.length c1) := y1.cell 1
  have HPA := Lib.hid hpa
  clear hpa
  go_wp2_with fail
  obtain ⟨ok2, hok2⟩ : ∃ ok, ok = relB (n, yss) := ⟨_, rfl⟩
  have CR := specRelOk_any _ (n, yss) _ ⟨_, rfl, H1.out.on B3⟩ s1
  rw [← hok2] at CR
  refine CR.mono ?_
  rintro e w4 ⟨rfl, hb4⟩
  have B4 := bthen B3 hb4
  have z0 := y0.below hb4 y0.lt
  have z1 := y1.below hb4 y1.lt
  clear y0 y1 CR q0 q1
  have HOK2 := Lib.hid hok2
  clear hok2
  cases ok2
  · have HE := Lib.hid (show z = false by rw [← HZ.out]; unfold pairsB; rw [← HOK.out, ← HOK2.out]; rfl)
    go_wp2_with fail
    go_ret
    exact ⟨ret_bool HE.out.symm, B4⟩
  have HPB := Lib.hid (show RelP (n, yss) from relB_iff.1 HOK2.out.symm)
  by_cases hl : ¬ left.length = right.length
  · have e1 : ((left.length : Int) == (right.length : Int)) = false := by simp; omega
    have HE := Lib.hid (show z = false by rw [← HZ.out]; unfold pairsB; rw [← HOK.out, ← HOK2.out, decide_eq_false hl]; rfl)
    clear hl
    go_wp2_with fail
    go_ret
    exact ⟨ret_bool HE.out.symm, B4⟩
  have e1 : ((left.length : Int) == (right.length : Int)) = true := by simp; omega
  have HL := Lib.hid (Classical.not_not.1 hl)
  clear hl
  have q0 : w4.cell? ⟨w.heap.size, 0, none⟩ = some (.int .i64 m) := z0.cell 0
  have q1 : w4.cell? ⟨w.heap.size, 1, none⟩ = some (.slice A xss.length c) := z0.cell 1
  go_wp2_with fail
  obtain ⟨cl, hcl⟩ : ∃ cl, cl = colsB m left := ⟨_, rfl⟩
  refine (l9Cols_is _ _ (m, xss) left hcl.symm _ ⟨_, rfl, H0.out.on B4⟩ (H2.out.on B4) HPA.out.lo HPA.out.hi s2).mono ?_
  rintro e w5 ⟨rfl, hb5⟩
  have B5 := bthen B4 hb5
  have t1 := z1.below hb5 z1.lt
  clear z0 z1 q0 q1
  have HCL := Lib.hid hcl
  clear hcl
  cases cl
  · have HE := Lib.hid (show z = false by rw [← HZ.out]; unfold pairsB; rw [← HOK.out, ← HOK2.out, decide_eq_true HL.out]; simp only; rw [← HCL.out]; rfl)
    go_wp2_with fail
    go_ret
    exact ⟨ret_bool HE.out.symm, B5⟩
  have q0 : w5.cell? ⟨w.heap.size + 1, 0, none⟩ = some (.int .i64 n) := t1.cell 0
  have q1 : w5.cell? ⟨w.heap.size + 1, 1, none⟩ = some (.slice A1 yss.length c1) := t1.cell 1
  clear t1
  go_wp2_with fail
  obtain ⟨cr, hcr⟩ : ∃ cr, cr = colsB n right := ⟨_, rfl⟩
  have HE := Lib.hid (show cr = z by rw [← HZ.out]; unfold pairsB; rw [← HOK.out, ← HOK2.out, decide_eq_true HL.out]; simp only; rw [← HCL.out, hcr]; rfl)
  refine (l9Cols_is _ _ (n, yss) right hcr.symm _ ⟨_, rfl, H1.out.on B5⟩ (H3.out.on B5) HPB.out.lo HPB.out.hi s3).mono ?_
  rintro e w6 ⟨rfl, hb6⟩
  have B6 := bthen B5 hb6
  clear hcr q0 q1
  go_wp2_with fail
  go_ret
  exact ⟨ret_bool HE.out, B6⟩

set_option maxHeartbeats 4000000 in
set_option maxRecDepth 100000 in
theorem pairsFit_is {z : Bool} (v0 v1 v2 v3 : Value) (a b : LRel) (left right : List Int) (hz : pairsB a b left right = z) (w : World) (h0 : RdRel w w.heap.size v0 a) (h1 : RdRel w w.heap.size v1 b) (h2 : RdInts w w.heap.size v2 left) (h3 : RdInts w w.heap.size v3 right)
    (s0 : szRows a.2 ≤ 1048576) (s1 : szRows b.2 ≤ 1048576) (s2 : left.length ≤ 1048576) (s3 : right.length ≤ 1048576) :
    Calls Try.prog 72 #[v0, v1, v2, v3] w fun e w' => e = .returned (.bool z) ∧ Below w.heap.size w w' := by
  have HZ := Lib.hid hz
  clear hz
  obtain ⟨a0, rfl, h0⟩ := h0
  have H0 := Lib.hid h0
  obtain ⟨A, c, rfl, _, _⟩ := h0
  obtain ⟨a1, rfl, h1⟩ := h1
  have H1 := Lib.hid h1
  obtain ⟨A1, c1, rfl, _, _⟩ := h1
  have H2 := Lib.hid h2
  obtain ⟨A2, c2, rfl, _, _⟩ := h2
  have H3 := Lib.hid h3
  obtain ⟨A3, c3, rfl, _, _⟩ := h3
  obtain ⟨m, xss⟩ := a
  obtain ⟨n, yss⟩ := b
  simp only at H0 H1 s0 s1 HZ
  go_enter Try.func72, Try.ntmps72
  go_wp2_with fail
  obtain ⟨w2, hw2⟩ : ∃ w2, w2 = (w.alloc (Obj.cells #[Value.int IntKind.i64 m, Value.slice A xss.length c] 27)).alloc (Obj.cells #[Value.int IntKind.i64 n, Value.slice A1 yss.length c1] 27) := ⟨_, rfl⟩
  have B2 : Below w.heap.size w w2 := by rw [hw2]; exact below2 _ _ _
  have x0 : Blk w2 w.heap.size 27 #[.int .i64 m, .slice A xss.length c] := by rw [hw2]; exact (Blk.new w _ _).alloc _
  have x1 : Blk w2 (w.heap.size + 1) 27 #[.int .i64 n, .slice A1 yss.length c1] := by
    rw [hw2]
    simpa using Blk.new (w.alloc (Obj.cells #[Value.int IntKind.i64 m, Value.slice A xss.length c] 27)) 27 #[.int .i64 n, .slice A1 yss.length c1]
  rw [← hw2]
  clear hw2
  obtain ⟨ok, hok⟩ : ∃ ok, ok = relB (m, xss) := ⟨_, rfl⟩
  have CR := implRelOk_any _ (m, xss) _ ⟨_, rfl, H0.out.on B2⟩ s0
  rw [← hok] at CR
  refine CR.mono ?_
  rintro e w3 ⟨rfl, hb3⟩
  have B3 := bthen B2 hb3
  have y0 := x0.below hb3 x0.lt
  have y1 := x1.below hb3 x1.lt
  clear x0 x1 CR
  have HOK := Lib.hid hok
  clear hok
  cases ok
  · have HE := Lib.hid (show z = false by rw [← HZ.out]; unfold pairsB; rw [← HOK.out]; rfl)
    go_wp2_with fail
    go_ret
    exact ⟨ret_bool HE.out.symm, B3⟩
  have q0 : w3.cell? ⟨w.heap.size + 1, 0, none⟩ = some (.int .i64 n) := y1.cell 0
  have q1 : w3.cell? ⟨w.heap.size + 1, 1, none⟩ = some (.slice A1 yss.length c1) := y1.cell 1
  go_wp2_with fail
  obtain ⟨ok2, hok2⟩ : ∃ ok, ok = relB (n, yss) := ⟨_, rfl⟩
  have CR := implRelOk_any _ (n, yss) _ ⟨_, rfl, H1.out.on B3⟩ s1
  rw [← hok2] at CR
  refine CR.mono ?_
  rintro e w4 ⟨rfl, hb4⟩
  have B4 := bthen B3 hb4
  have z0 := y0.below hb4 y0.lt
  have z1 := y1.below hb4 y1.lt
  clear y0 y1 CR q0 q1
  have HOK2 := Lib.hid hok2
  clear hok2
  cases ok2
  · have HE := Lib.hid (show z = false by rw [← HZ.out]; unfold pairsB; rw [← HOK.out, ← HOK2.out]; rfl)
    go_wp2_with fail
    go_ret
    exact ⟨ret_bool HE.out.symm, B4⟩
  by_cases hl : ¬ left.length = right.length
  · have e1 : ((left.length : Int) != (right.length : Int)) = true := by simp; omega
    have HE := Lib.hid (show z = false by rw [← HZ.out]; unfold pairsB; rw [← HOK.out, ← HOK2.out, decide_eq_false hl]; rfl)
    clear hl
    go_wp2_with fail
    go_ret
    exact ⟨ret_bool HE.out.symm, B4⟩
  have e1 : ((left.length : Int) != (right.length : Int)) = false := by simp; omega
  have HL := Lib.hid (Classical.not_not.1 hl)
  clear hl
  by_cases h6 : 6 < left.length
  · have e2 : decide ((6 : Int) < (left.length : Int)) = true := decide_eq_true (by omega)
    have HE := Lib.hid (show z = false by
      rw [← HZ.out]
      unfold pairsB colsB
      rw [← HOK.out, ← HOK2.out, decide_eq_true HL.out]
      rw [decide_eq_false (show ¬ left.length ≤ 6 by omega)]
      simp)
    clear h6
    go_wp2_with fail
    go_ret
    exact ⟨ret_bool HE.out.symm, B4⟩
  have e2 : decide ((6 : Int) < (left.length : Int)) = false := decide_eq_false (by omega)
  have H6 := Lib.hid (show left.length ≤ 6 by omega)
  clear h6
  have q0 : w4.cell? ⟨w.heap.size, 0, none⟩ = some (.int .i64 m) := z0.cell 0
  have q1 : w4.cell? ⟨w.heap.size, 1, none⟩ = some (.slice A xss.length c) := z0.cell 1
  go_wp2_with fail
  obtain ⟨cl, hcl⟩ : ∃ cl, cl = left.all (colIn m) := ⟨_, rfl⟩
  refine (hasColumns_is _ _ (m, xss) left hcl.symm _ ⟨_, rfl, H0.out.on B4⟩ (H2.out.on B4) s2).mono ?_
  rintro e w5 ⟨rfl, hb5⟩
  have B5 := bthen B4 hb5
  have t1 := z1.below hb5 z1.lt
  clear z0 z1 q0 q1
  have HCL := Lib.hid hcl
  clear hcl
  cases cl
  · have HE := Lib.hid (show z = false by
      rw [← HZ.out]
      unfold pairsB colsB
      rw [← HOK.out, ← HOK2.out, decide_eq_true HL.out]
      simp only
      rw [← HCL.out]
      rfl)
    go_wp2_with fail
    go_ret
    exact ⟨ret_bool HE.out.symm, B5⟩
  have q0 : w5.cell? ⟨w.heap.size + 1, 0, none⟩ = some (.int .i64 n) := t1.cell 0
  have q1 : w5.cell? ⟨w.heap.size + 1, 1, none⟩ = some (.slice A1 yss.length c1) := t1.cell 1
  clear t1
  go_wp2_with fail
  obtain ⟨cr, hcr⟩ : ∃ cr, cr = right.all (colIn n) := ⟨_, rfl⟩
  have HE := Lib.hid (show cr = z by
    rw [← HZ.out]
    unfold pairsB colsB
    rw [← HOK.out, ← HOK2.out, decide_eq_true HL.out, decide_eq_true H6.out, decide_eq_true (show right.length ≤ 6 by have := HL.out; have := H6.out; omega)]
    simp only
    rw [← HCL.out, ← hcr]
    simp)
  refine (hasColumns_is _ _ (n, yss) right hcr.symm _ ⟨_, rfl, H1.out.on B5⟩ (H3.out.on B5) s3).mono ?_
  rintro e w6 ⟨rfl, hb6⟩
  have B6 := bthen B5 hb6
  clear hcr q0 q1
  go_wp2_with fail
  go_ret
  exact ⟨ret_bool HE.out, B6⟩

end Go.Proofs.Ytchincemlilnoaa
