/-
  Texts that the claim's last one imports, laid together: part 1 of 3. No condition of its own.
-/
import Derived.OrdersHeld
import Derived.Deep.RegionHeld3
import Derived.Test.YtebincnejcmocaaGreatMSo7
import Derived.Test.YtebincnejcmocaaGreatMSo2
import Derived.Test.YtebincnejcmocaaGreatMSo6
import Derived.Test.YtebincnejcmocaaGreatMSo5
import Derived.Test.YtebincnejcmocaaGreatMSo1
import Derived.Test.YtebincnejcmocaaGreatMSo3
import Derived.StillTailTactics
import Derived.Deep.QuietTactic
import Derived.BigQuiet
import Derived.Test.YtebincnejcmocaaGreatChecked
import Derived.ProofKit
import Derived.OpenShut
import Derived.ChangeOld
import Derived.WalkKit
import Derived.Deep.Slices
import Derived.Deep.Fields
import Derived.ChangeSame
import Derived.Lib.SmallJoins
import Derived.KernelRfl
import Derived.Deep.RegionWith
import Derived.Deep.RegionLaw
import Derived.Laws.BitsAllLaws
import Derived.Deep.DeepCutAuto
import Derived.Laws.CopyOwn
import Derived.Deep.WholeRow
/-
  Regions that draw their order and end in a store to a cell that they load: the condition on the world holds until operation t has come up, and is released then. Laws of any program.
-/
namespace Go.Proofs.YtebincnejcmocaaGreat
open Go

section
variable {P : Program} {ops : Array Oper} {Q : Exit → Act → World → Prop} {md : Region.Mode} {S : World → Prop} {t : Nat}

/-- Whatever order is picked from here on, and S holds behind each operation that is carried out, until t has come up. -/
def wpAnyR (P : Program) (md : Region.Mode) (ops : Array Oper) (Q : Exit → Act → World → Prop) (S : World → Prop) (t : Nat) : Nat → Array Bool → Act → World → Prop
  | 0, listed, a, w => Region.ready md ops listed = [] ∧ Q .normal a w
  | fuel + 1, listed, a, w =>
    (Region.ready md ops listed = [] → Q .normal a w) ∧
    ∀ i ∈ Region.ready md ops listed, wpOp P ops Q i (fun a' w' => ((listed.setIfInBounds i true).getD t true = false → S w') ∧ wpAnyR P md ops Q S t fuel (listed.setIfInBounds i true) a' w') a w

theorem wpAny_of_rel : ∀ (fuel : Nat) (listed : Array Bool) (a : Act) (w : World), wpAnyR P md ops Q S t fuel listed a w → wpAny P md ops Q fuel listed a w
  | 0, _, _, _, h => h
  | fuel + 1, _, _, _, h => ⟨h.1, fun i hi => wpOp_mono (fun a' w' h' => wpAny_of_rel fuel _ a' w' h'.2) (h.2 i hi)⟩

/-- None of D has come up, and each waits for i or for one of D. -/
def blockedB (md : Region.Mode) (ops : Array Oper) (listed : Array Bool) (i : Nat) (D : List Nat) : Bool :=
  !D.contains i && D.all fun d => !listed.getD d true && ((ops[d]?).map fun o => o.after.any fun e => Region.binds md e && (e.on == i || D.contains e.on)).getD false

/-- None of D may come up while i has not. -/
theorem not_ready_of_blocked {listed : Array Bool} {i : Nat} {D : List Nat} (h : blockedB md ops listed i D = true) (hi : listed.getD i true = false) {d : Nat} (hd : d ∈ D) : d ∉ Region.ready md ops listed := by
  intro hr
  obtain ⟨_, o, ho, hall⟩ := mem_ready.1 hr
  simp only [blockedB, Bool.and_eq_true, List.all_eq_true] at h
  have h2 := (h.2 d hd).2
  rw [ho] at h2
  simp only [Option.map_some, Option.getD_some, Array.any_eq_true', Bool.and_eq_true, Bool.or_eq_true, beq_iff_eq] at h2
  obtain ⟨e, he, hb, hon⟩ := h2
  have hl := hall e he hb
  have un : ∀ k : Nat, listed.getD k true = false → listed.getD k false = true → False := by
    intro k h1 h2
    rcases Nat.lt_or_ge k listed.size with h' | h'
    · simp [h'] at h1 h2
      rw [h1] at h2
      cases h2
    · simp [Array.getElem?_eq_none h'] at h1
  rcases hon with e1 | e1
  · rw [e1] at hl
    exact un i hi hl
  · have h3 := (h.2 e.on (by simpa using e1)).1
    exact un _ (by simpa using h3) hl

theorem blocked_set {listed : Array Bool} {i j : Nat} {D : List Nat} (h : blockedB md ops listed i D = true) (hj : j ∉ D) : blockedB md ops (listed.setIfInBounds j true) i D = true := by
  simp only [blockedB, Bool.and_eq_true, List.all_eq_true] at h ⊢
  refine ⟨h.1, fun d hd => ?_⟩
  have := h.2 d hd
  refine ⟨?_, this.2⟩
  rw [getD_set_ne true (show j ≠ d from fun e => hj (by rw [e]; exact hd))]
  exact this.1

theorem wpAnyR_first {i : Nat} {oi : Oper} {v : Value} {D : List Nat} (hi : ops[i]? = some oi) (hsel : ∀ (j : Nat) (o : Oper) cs b, ops[j]? = some o → o.op ≠ .select cs b)
    (hQ : ∀ c a w, Q (.panic c) (a.put oi.dst v) w → Q (.panic c) a w) (ht : t ∈ D) :
    ∀ (fuel : Nat) (listed : Array Bool) (a : Act) (w : World),
      (∀ j oj, ops[j]? = some oj → j ≠ i → listed.getD j true = false → (∀ e ∈ oj.after, Region.binds md e = true → e.on ≠ i) → oi.apart ops oj = true) →
      i ∈ Region.ready md ops listed → blockedB md ops listed i D = true → YieldsIf P ops S oi v a → S w →
      wpAnyR P md ops Q S t fuel (listed.setIfInBounds i true) (a.put oi.dst v) w → wpAnyR P md ops Q S t (fuel + 1) listed a w := by
  intro fuel
  induction fuel with
  | zero =>
    intro listed a w _ hr hbl hy hS H
    refine ⟨fun h => (by rw [h] at hr; cases hr), fun j hj => ?_⟩
    by_cases hji : j = i
    · subst hji; exact hy.wpOp hi hS ⟨fun _ => hS, H⟩
    · have := ready_mono hj hji
      rw [H.1] at this
      cases this
  | succ fuel ih =>
    intro listed a w hfree hr hbl hy hS H
    refine ⟨fun h => (by rw [h] at hr; cases hr), fun j hj => ?_⟩
    by_cases hji : j = i
    · subst hji; exact hy.wpOp hi hS ⟨fun _ => hS, H⟩
    · have h1 := H.2 j (ready_mono hj hji)
      have hjD : j ∉ D := fun hd => not_ready_of_blocked hbl (mem_ready.1 hr).1 hd hj
      have hiD : i ∉ D := by
        simp only [blockedB, Bool.and_eq_true] at hbl
        simpa using hbl.1
      have htl : listed.getD t true = false := by
        simp only [blockedB, Bool.and_eq_true, List.all_eq_true] at hbl
        simpa using (hbl.2 t ht).1
      have htl2 : ((listed.setIfInBounds i true).setIfInBounds j true).getD t true = false := by
        rw [getD_set_ne true (show j ≠ t from fun e => hjD (by rw [e]; exact ht)), getD_set_ne true (show i ≠ t from fun e => hiD (by rw [e]; exact ht))]
        exact htl
      obtain ⟨hjun, oj, hoj, hall⟩ := mem_ready.1 hj
      have hnot : ∀ e ∈ oj.after, Region.binds md e = true → e.on ≠ i := fun e he hb heq => by
        have h1 := hall e he hb
        have h0 := (mem_ready.1 hr).1
        rw [heq] at h1
        rcases Nat.lt_or_ge i listed.size with h' | h'
        · simp [h'] at h0 h1; rw [h0] at h1; cases h1
        · simp [Array.getElem?_eq_none h'] at h1
      have h2 := wpOp_putIf hoj (hfree j oj hoj hji hjun hnot) (fun cs b => hsel i oi cs b hi) (fun cs b => hsel j oj cs b hoj) hQ hy h1
      have hfree' : ∀ k ok, ops[k]? = some ok → k ≠ i → (listed.setIfInBounds j true).getD k true = false →
          (∀ e ∈ ok.after, Region.binds md e = true → e.on ≠ i) → oi.apart ops ok = true := fun k ok hk hki hun hno => by
        refine hfree k ok hk hki ?_ hno
        by_cases hjk : j = k
        · subst hjk; exact hjun
        · rw [getD_set_ne true hjk] at hun; exact hun
      refine wpOp_mono (fun a' w' h3 => ⟨fun _ => h3.2.1 htl2, ih (listed.setIfInBounds j true) a' w' hfree' (ready_mono hr (Ne.symm hji)) (blocked_set hbl hjD) h3.1 (h3.2.1 htl2) ?_⟩) h2
      rw [Array.setIfInBounds_comm _ _ hji]
      exact h3.2.2

/-- What waits for i, at once or over others. -/
def descOf (md : Region.Mode) (ops : Array Oper) (i : Nat) : List Nat :=
  (List.range ops.size).foldl (fun D k => if ((ops[k]?).map fun o => o.after.any fun e => Region.binds md e && (e.on == i || D.contains e.on)).getD false then D ++ [k] else D) []
/-- All that is asked of a take, as one Bool. -/
def takeOk (md : Region.Mode) (ops : Array Oper) (listed : Array Bool) (i t : Nat) : Bool :=
  Region.noSelect ops && Region.free md ops listed i && (Region.ready md ops listed).contains i && blockedB md ops listed i (descOf md ops i) && (descOf md ops i).contains t
def pureOk (md : Region.Mode) (ops : Array Oper) (listed : Array Bool) (i : Nat) : Bool :=
  Region.noSelect ops && Region.free md ops listed i && (Region.ready md ops listed).contains i

/-- Take number i first: what it reads holds in every world that meets S, and t waits for it. -/
theorem wpAnyR_take {i d : Nat} {oi : Oper} (v : Value) {fuel : Nat} {listed : Array Bool} {a : Act} {w : World} (hi : ops[i]? = some oi) (hd : oi.dst = some d)
    (hok : takeOk md ops listed i t = true)
    (hQ : ∀ c a w, Q (.panic c) (a.put oi.dst v) w → Q (.panic c) a w) (hw : Region.wanted oi (yielded ops a.tmps) = true) (hy : ∀ w, S w → (execOp a.eval oi).run P w = .ok (.value v) w) (hS : S w)
    (h : wpAnyR P md ops Q S t fuel (listed.setIfInBounds i true) { a with tmps := a.tmps.setIfInBounds d v } w) : wpAnyR P md ops Q S t (fuel + 1) listed a w := by
  have h : wpAnyR P md ops Q S t fuel (listed.setIfInBounds i true) (a.put oi.dst v) w := by rw [hd]; exact h
  simp only [takeOk, Bool.and_eq_true] at hok
  obtain ⟨⟨⟨⟨h1, h2⟩, h3⟩, h4⟩, h5⟩ := hok
  exact wpAnyR_first hi (Region.noSelect_spec h1) hQ (by simpa using h5) fuel listed a w (Region.free_spec hi h2) (by simpa using h3) h4 (.inl ⟨hw, hy⟩) hS h

theorem wpAnyR_first0 {i : Nat} {oi : Oper} {v : Value} (hi : ops[i]? = some oi) (hsel : ∀ (j : Nat) (o : Oper) cs b, ops[j]? = some o → o.op ≠ .select cs b)
    (hQ : ∀ c a w, Q (.panic c) (a.put oi.dst v) w → Q (.panic c) a w) :
    ∀ (fuel : Nat) (listed : Array Bool) (a : Act) (w : World),
      (∀ j oj, ops[j]? = some oj → j ≠ i → listed.getD j true = false → (∀ e ∈ oj.after, Region.binds md e = true → e.on ≠ i) → oi.apart ops oj = true) →
      i ∈ Region.ready md ops listed → YieldsIf P ops (fun _ => True) oi v a → (listed.getD t true = false → S w) → t ≠ i →
      wpAnyR P md ops Q S t fuel (listed.setIfInBounds i true) (a.put oi.dst v) w → wpAnyR P md ops Q S t (fuel + 1) listed a w := by
  intro fuel
  induction fuel with
  | zero =>
    intro listed a w _ hr hy hS hti H
    refine ⟨fun h => (by rw [h] at hr; cases hr), fun j hj => ?_⟩
    by_cases hji : j = i
    · subst hji; exact hy.wpOp hi trivial ⟨fun h => hS (by rwa [getD_set_ne true (Ne.symm hti)] at h), H⟩
    · have := ready_mono hj hji
      rw [H.1] at this
      cases this
  | succ fuel ih =>
    intro listed a w hfree hr hy hS hti H
    refine ⟨fun h => (by rw [h] at hr; cases hr), fun j hj => ?_⟩
    by_cases hji : j = i
    · subst hji; exact hy.wpOp hi trivial ⟨fun h => hS (by rwa [getD_set_ne true (Ne.symm hti)] at h), H⟩
    · have h1 := H.2 j (ready_mono hj hji)
      obtain ⟨hjun, oj, hoj, hall⟩ := mem_ready.1 hj
      have hnot : ∀ e ∈ oj.after, Region.binds md e = true → e.on ≠ i := fun e he hb heq => by
        have h1 := hall e he hb
        have h0 := (mem_ready.1 hr).1
        rw [heq] at h1
        rcases Nat.lt_or_ge i listed.size with h' | h'
        · simp [h'] at h0 h1; rw [h0] at h1; cases h1
        · simp [Array.getElem?_eq_none h'] at h1
      have h2 := wpOp_putIf hoj (hfree j oj hoj hji hjun hnot) (fun cs b => hsel i oi cs b hi) (fun cs b => hsel j oj cs b hoj) hQ hy h1
      have hfree' : ∀ k ok, ops[k]? = some ok → k ≠ i → (listed.setIfInBounds j true).getD k true = false →
          (∀ e ∈ ok.after, Region.binds md e = true → e.on ≠ i) → oi.apart ops ok = true := fun k ok hk hki hun hno => by
        refine hfree k ok hk hki ?_ hno
        by_cases hjk : j = k
        · subst hjk; exact hjun
        · rw [getD_set_ne true hjk] at hun; exact hun
      have hback : ∀ {W : World}, (((listed.setIfInBounds i true).setIfInBounds j true).getD t true = false → S W) → ((listed.setIfInBounds j true).getD t true = false → S W) := fun h hl => h (by
        rw [Array.setIfInBounds_comm _ _ (Ne.symm hji), getD_set_ne true (Ne.symm hti)]
        exact hl)
      refine wpOp_mono (fun a' w' h3 => ⟨hback h3.2.1, ih (listed.setIfInBounds j true) a' w' hfree' (ready_mono hr (Ne.symm hji)) h3.1 (hback h3.2.1) hti ?_⟩) h2
      rw [Array.setIfInBounds_comm _ _ hji]
      exact h3.2.2
/-- Take number i first: it yields its value in whatever world. -/
theorem wpAnyR_pure {i d : Nat} {oi : Oper} (v : Value) {fuel : Nat} {listed : Array Bool} {a : Act} {w : World} (hi : ops[i]? = some oi) (hd : oi.dst = some d)
    (hok : pureOk md ops listed i = true) (hti : t ≠ i)
    (hQ : ∀ c a w, Q (.panic c) (a.put oi.dst v) w → Q (.panic c) a w) (hw : Region.wanted oi (yielded ops a.tmps) = true) (hy : ∀ w, (execOp a.eval oi).run P w = .ok (.value v) w) (hS : listed.getD t true = false → S w)
    (h : wpAnyR P md ops Q S t fuel (listed.setIfInBounds i true) { a with tmps := a.tmps.setIfInBounds d v } w) : wpAnyR P md ops Q S t (fuel + 1) listed a w := by
  have h : wpAnyR P md ops Q S t fuel (listed.setIfInBounds i true) (a.put oi.dst v) w := by rw [hd]; exact h
  simp only [pureOk, Bool.and_eq_true] at hok
  obtain ⟨⟨h1, h2⟩, h3⟩ := hok
  exact wpAnyR_first0 hi (Region.noSelect_spec h1) hQ fuel listed a w (Region.free_spec hi h2) (by simpa using h3) (.inl ⟨hw, fun w _ => hy w⟩) hS hti h

/-- The one that may come up. -/
theorem wpAnyR_one {i : Nat} {o : Oper} {fuel : Nat} {listed : Array Bool} {a : Act} {w : World} (hr : Region.ready md ops listed = [i]) (ho : ops[i]? = some o)
    (h : ∀ K' : Act → World → Prop, Shut (∀ a w, ((listed.setIfInBounds i true).getD t true = false → S w) → wpAnyR P md ops Q S t fuel (listed.setIfInBounds i true) a w → K' a w) → if Region.wanted o (yielded ops a.tmps) = true then Oper.wp P o a w K' Q else K' (a.put o.dst undef) w) :
    wpAnyR P md ops Q S t (fuel + 1) listed a w := by
  refine ⟨fun h0 => (by rw [hr] at h0; cases h0), fun j hj => ?_⟩
  rw [hr] at hj
  obtain rfl : j = i := by simpa using hj
  exact wpOp_step ho (fun K' hK => h K' (fun a w hS hW => hK a w ⟨hS, hW⟩))

/-- The two that may come up. -/
theorem wpAnyR_two {i j : Nat} {oi oj : Oper} {fuel : Nat} {listed : Array Bool} {a : Act} {w : World} (hr : Region.ready md ops listed = [i, j]) (hi : ops[i]? = some oi) (hj : ops[j]? = some oj)
    (h1 : ∀ K' : Act → World → Prop, Shut (∀ a w, ((listed.setIfInBounds i true).getD t true = false → S w) → wpAnyR P md ops Q S t fuel (listed.setIfInBounds i true) a w → K' a w) → if Region.wanted oi (yielded ops a.tmps) = true then Oper.wp P oi a w K' Q else K' (a.put oi.dst undef) w)
    (h2 : ∀ K' : Act → World → Prop, Shut (∀ a w, ((listed.setIfInBounds j true).getD t true = false → S w) → wpAnyR P md ops Q S t fuel (listed.setIfInBounds j true) a w → K' a w) → if Region.wanted oj (yielded ops a.tmps) = true then Oper.wp P oj a w K' Q else K' (a.put oj.dst undef) w) :
    wpAnyR P md ops Q S t (fuel + 1) listed a w := by
  refine ⟨fun h0 => (by rw [hr] at h0; cases h0), fun k hk => ?_⟩
  rw [hr] at hk
  rcases List.mem_cons.1 hk with rfl | hk
  · exact wpOp_step hi (fun K' hK => h1 K' (fun a w hS hW => hK a w ⟨hS, hW⟩))
  · obtain rfl : k = j := by simpa using hk
    exact wpOp_step hj (fun K' hK => h2 K' (fun a w hS hW => hK a w ⟨hS, hW⟩))

theorem wpAnyR_done {fuel : Nat} {listed : Array Bool} {a : Act} {w : World} (hr : Region.ready md ops listed = []) (h : Q .normal a w) : wpAnyR P md ops Q S t fuel listed a w := by
  cases fuel with
  | zero => exact ⟨hr, h⟩
  | succ fuel => exact ⟨fun _ => h, fun j hj => (by rw [hr] at hj; cases hj)⟩

theorem wp_region_rel (S : World → Prop) (t n : Nat) {id : Nat} {a : Act} {w : World} (hm : P.follows .mixedOrders = true) (hn : ops.size = n)
    (h : wpAnyR P .any ops Q S t n (Array.replicate n false) a w.drew) : (Code.region id ops true).wp P Q a w :=
  wp_region_any hm (wpAny_of_rel _ _ _ _ (hn ▸ h))

end
end Go.Proofs.YtebincnejcmocaaGreat
/-
  The specification's l4Of, l4All: the heads of rules.
-/
namespace Go.Proofs.YtebincnejcmocaaGreat
open Go.RowKit

/-- The heads for the first k lists. -/
def headsTo (a : LFact) (S : List (List Int)) : Nat → List LFact
  | 0 => []
  | k + 1 => if headOk a (S.getD k []) then factsWith (headsTo a S k) (headOf a (S.getD k [])) else headsTo a S k
theorem headsTo_yes {a : LFact} {S : List (List Int)} {k : Nat} (h : k < S.length) (e : headOk a S[k] = true) : headsTo a S (k + 1) = factsWith (headsTo a S k) (headOf a S[k]) := by
  have hd : S.getD k [] = S[k] := by simp [h]
  show (if _ then _ else _) = _
  rw [hd, if_pos e]
theorem headsTo_no {a : LFact} {S : List (List Int)} {k : Nat} (h : k < S.length) (e : headOk a S[k] = false) : headsTo a S (k + 1) = headsTo a S k := by
  have hd : S.getD k [] = S[k] := by simp [h]
  show (if _ then _ else _) = _
  rw [hd, if_neg (by rw [e]; simp)]
theorem headsTo_bound {a : LFact} {S : List (List Int)} (ha : a.2.length ≤ 2) : ∀ k, (headsTo a S k).length ≤ k ∧ tot (headsTo a S k) ≤ k * 2
  | 0 => ⟨Nat.le_refl _, Nat.le_refl _⟩
  | k + 1 => by
    have ih := headsTo_bound (S := S) ha k
    show List.length (if _ then _ else _) ≤ _ ∧ tot (if _ then _ else _) ≤ _
    split
    · have hb := factsWith_bound (headsTo a S k) (headOf a (S.getD k []))
      have hl := headOf_length a (S.getD k [])
      omega
    · omega
/-- The heads of a rule. -/
def headsL (r : LRule) (gs : List LFact) : List LFact := headsTo r.1 (solsOf gs r.2) (solsOf gs r.2).length

end Go.Proofs.YtebincnejcmocaaGreat
/-
  The walks of FactsOf: the program's and the specification's.
-/
namespace Go.Proofs.YtebincnejcmocaaGreat
open Go.RowKit

def factsOf (fs : List LFact) (p : Int) : List LFact := fs.filter fun f => f.1 == p
theorem factsOf_yes {fs : List LFact} {p : Int} {k : Nat} (h : k < fs.length) (e : fs[k].1 = p) : factsOf (fs.take (k + 1)) p = factsOf (fs.take k) p ++ [fs[k]] := by
  unfold factsOf
  rw [take_snoc fs k h, List.filter_append]
  congr 1
  simp [e]
theorem factsOf_no {fs : List LFact} {p : Int} {k : Nat} (h : k < fs.length) (e : fs[k].1 ≠ p) : factsOf (fs.take (k + 1)) p = factsOf (fs.take k) p := by
  unfold factsOf
  rw [take_snoc fs k h, List.filter_append, List.filter_cons_of_neg (by simpa using e)]
  simp
theorem factsOf_length (fs : List LFact) (p : Int) (k : Nat) : (factsOf (fs.take k) p).length ≤ k := by
  have h1 := List.length_filter_le (fun f : LFact => f.1 == p) (fs.take k)
  have h2 : (fs.take k).length ≤ k := by rw [List.length_take]; omega
  unfold factsOf
  omega

end Go.Proofs.YtebincnejcmocaaGreat
/-
  What FactsWith and FactsOf leave, plain mathematics.
-/
namespace Go.Proofs.YtebincnejcmocaaGreat
open Go.RowKit

theorem withStep_mem (f : LFact) : ∀ (l : List LFact) (out : List LFact) (b : Bool), (b = true → f ∈ out) → ∀ x, x ∈ endW f (l.foldl (withStep f) (out, b)) ↔ x ∈ out ∨ x ∈ l ∨ x = f
  | [], out, b, hb, x => by
    cases b
    · simp [endW]
    · have := hb rfl
      simp only [List.foldl_nil, endW, if_true, List.not_mem_nil, false_or]
      constructor
      · exact .inl
      · rintro (h | rfl) <;> assumption
  | g :: l, out, b, hb, x => by
    rw [List.foldl_cons]
    have e : withStep f (out, b) g = ((withStep f (out, b) g).1, (withStep f (out, b) g).2) := rfl
    rw [e, withStep_mem f l _ _ ?_ x]
    · unfold withStep
      cases b
      · rcases Int.lt_trichotomy (factOrder f g) 0 with h1 | h1 | h1
        · simp [show factOrder f g ≤ 0 by omega, show factOrder f g ≠ 0 by omega]
          grind
        · have e2 := order_eq h1
          subst e2
          simp [order_refl]
          grind
        · simp [show ¬ factOrder f g ≤ 0 by omega, show factOrder f g ≠ 0 by omega]
          grind
      · have hf := hb rfl
        by_cases h1 : factOrder f g = 0
        · have e2 := order_eq h1
          subst e2
          simp [order_refl]
          grind
        · simp [h1]
          grind
    · intro hb2
      unfold withStep at hb2 ⊢
      cases b
      · have h1 : factOrder f g ≤ 0 := by simpa using hb2
        simp [h1]
      · exact List.mem_append_left _ (by simpa using hb rfl)
theorem factsWith_mem (fs : List LFact) (f x : LFact) : x ∈ factsWith fs f ↔ x ∈ fs ∨ x = f := by
  have := withStep_mem f fs [] false (by simp) x
  unfold endW at this
  unfold factsWith withTo
  rw [List.take_length]
  simpa using this
theorem has_mem (ys : List LFact) (f : LFact) : factsHas ys f = decide (f ∈ ys) := by
  unfold factsHas
  by_cases h : f ∈ ys
  · rw [decide_eq_true h]
    exact List.any_eq_true.2 ⟨f, h, by rw [order_refl]; rfl⟩
  · rw [decide_eq_false h]
    refine List.any_eq_false.2 fun g hg e => h ?_
    have e0 : factOrder g f = 0 := by simpa using e
    rw [← order_eq e0]
    exact hg
theorem with_has_new (fs : List LFact) (f : LFact) : factsHas (factsWith fs f) f = true := by
  rw [has_mem]
  exact decide_eq_true ((factsWith_mem fs f f).2 (.inr rfl))
theorem with_has_old (fs : List LFact) (f : LFact) {k : Nat} (h : k < fs.length) : factsHas (factsWith fs f) fs[k] = true := by
  rw [has_mem]
  exact decide_eq_true ((factsWith_mem fs f _).2 (.inl (List.getElem_mem h)))
theorem factsOf_few (fs : List LFact) (p : Int) : (factsOf fs p).length ≤ fs.length ∧ tot (factsOf fs p) ≤ tot fs := by
  refine ⟨List.length_filter_le _ _, ?_⟩
  unfold factsOf
  induction fs with
  | nil => simp
  | cons g fs ih =>
    rw [List.filter_cons, tot_cons]
    split
    · rw [tot_cons]; omega
    · omega

end Go.Proofs.YtebincnejcmocaaGreat
/-
  The walks of isTerm, areTerms, l2Terms, atomFits, and of both AtomOk.
-/
namespace Go.Proofs.YtebincnejcmocaaGreat
open Go.RowKit

def atomFits (ar : List Int) (f : LFact) : Bool := decide (0 ≤ f.1 ∧ f.1 < ar.length ∧ (f.2.length : Int) = ar.getD f.1.toNat 0) && f.2.all termOk
def atomOk (ar : List Int) (f : LFact) : Bool := arityOk ar && atomFits ar f

end Go.Proofs.YtebincnejcmocaaGreat
/-
  The walks of litFits and of both LitOk.
-/
namespace Go.Proofs.YtebincnejcmocaaGreat
open Go.RowKit

def litFits (ar : List Int) (l : LLit) : Bool :=
  if l.1 = 0 ∨ l.1 = 1 then atomFits ar l.2 else if l.1 = 2 ∨ l.1 = 3 then (decide (l.2.1 = 0) && decide (l.2.2.length = 2) && l.2.2.all termOk) else false
def litOk (ar : List Int) (l : LLit) : Bool := arityOk ar && litFits ar l

end Go.Proofs.YtebincnejcmocaaGreat
/-
  The walks of szRule, toRule, eqRule.
-/
namespace Go.Proofs.YtebincnejcmocaaGreat
open Go.RowKit

/-- What is asked of a rule that came in. -/
def ruleLens (r : LRule) : Prop := r.1.2.length ≤ 9223372036854775807 ∧ r.2.length ≤ 9223372036854775807 ∧ ∀ k (h : k < r.2.length), r.2[k].2.2.length ≤ 9223372036854775807

theorem OwnInts.far {w : World} {lo hi : Nat} {v : Value} {xs : List Int} (h : OwnInts w lo hi v xs) {p : Addr} (hp : p.block < lo) (u : Value) : OwnInts (w.setCell p u) lo hi v xs := h.set (.inl hp) u
theorem OwnLits.far {w : World} {lo hi : Nat} {v : Value} {ls : List LLit} (h : OwnLits w lo hi v ls) {p : Addr} (hp : p.block < lo) (u : Value) : OwnLits (w.setCell p u) lo hi v ls :=
  h.keep fun g h1 _ => Below.heap_setCell _ _ _ _ (by omega)

end Go.Proofs.YtebincnejcmocaaGreat
/-
  ruleVars.
-/
namespace Go.Proofs.YtebincnejcmocaaGreat
open Go.RowKit

end Go.Proofs.YtebincnejcmocaaGreat
/-
  The program's RuleSafe.
-/
namespace Go.Proofs.YtebincnejcmocaaGreat
open Go.RowKit

end Go.Proofs.YtebincnejcmocaaGreat
/-
  The walks of ruleFits and of both RuleOk.
-/
namespace Go.Proofs.YtebincnejcmocaaGreat
open Go.RowKit

def ruleFits (ar : List Int) (r : LRule) : Bool := atomFits ar r.1 && (decide (r.2.length ≤ 4) && (r.2.all (litFits ar) && ruleSafe r))
def ruleOk (ar : List Int) (r : LRule) : Bool := arityOk ar && ruleFits ar r

theorem ruleOk_spec (ar : List Int) (r : LRule) : ruleOk ar r = (r.2.all (litOk ar) && (atomOk ar r.1 && (decide (r.2.length ≤ 4) && ruleSafe r))) := by
  unfold ruleOk ruleFits atomOk
  by_cases ha : arityOk ar = true
  · have : r.2.all (litOk ar) = r.2.all (litFits ar) := by
      congr 1
      funext l
      unfold litOk
      rw [ha, Bool.true_and]
    rw [this, ha]
    cases atomFits ar r.1 <;> cases r.2.all (litFits ar) <;> cases decide (r.2.length ≤ 4) <;> rfl
  · have ha' : arityOk ar = false := by simpa using ha
    rw [ha']
    simp

end Go.Proofs.YtebincnejcmocaaGreat
/-
  The heads of all rules: how many they are, and the specification's l4All.
-/
namespace Go.Proofs.YtebincnejcmocaaGreat
open Go.RowKit

theorem place_short {ar : List Int} {p : Int} {n : Nat} (ha : arityOk ar = true) (h : 0 ≤ p ∧ p < ar.length ∧ (n : Int) = ar.getD p.toNat 0) : n ≤ 2 := by
  obtain ⟨h0, h1, h2⟩ := h
  simp only [arityOk, Bool.and_eq_true, List.all_eq_true] at ha
  have hlt : p.toNat < ar.length := by omega
  have hp := ha.2 _ (List.getElem_mem hlt)
  simp only [placeOk, decide_eq_true_eq] at hp
  have hd : ar.getD p.toNat 0 = ar[p.toNat] := by simp [hlt]
  rw [hd] at h2
  omega
theorem fits_parts {ar : List Int} {f : LFact} (h : factFits ar f = true) : (0 ≤ f.1 ∧ f.1 < ar.length ∧ (f.2.length : Int) = ar.getD f.1.toNat 0) ∧ f.2.all constOk = true := by
  simp only [factFits, Bool.and_eq_true, decide_eq_true_eq] at h
  exact h
theorem fits_short {ar : List Int} {f : LFact} (ha : arityOk ar = true) (h : factFits ar f = true) : f.2.length ≤ 2 := place_short ha (fits_parts h).1
/-- A fact's number. -/
def encF (f : LFact) : Nat := f.1.toNat * 64 + (match f.2 with | [] => 0 | [x] => x.toNat + 1 | x :: y :: _ => x.toNat + 1 + 7 * (y.toNat + 1))
theorem const_range {x : Int} (h : constOk x = true) : 0 ≤ x ∧ x ≤ 5 := by simpa [constOk] using h
theorem encF_lt {ar : List Int} {f : LFact} (ha : arityOk ar = true) (h : factFits ar f = true) : encF f < 1536 := by
  have hs := fits_short ha h
  obtain ⟨⟨h0, h1, _⟩, h2⟩ := fits_parts h
  have hl : ar.length ≤ 24 := by simp only [arityOk, Bool.and_eq_true, decide_eq_true_eq] at ha; exact ha.1
  obtain ⟨p, xs⟩ := f
  rcases xs with _ | ⟨x, _ | ⟨y, _ | ⟨z, xs⟩⟩⟩
  · simp only [encF] at *; omega
  · simp only [List.all_cons, Bool.and_eq_true] at h2
    have := const_range h2.1
    simp only [encF] at *; omega
  · simp only [List.all_cons, Bool.and_eq_true] at h2
    have := const_range h2.1
    have := const_range h2.2.1
    simp only [encF] at *; omega
  · simp at hs
theorem split64 {a b c d : Nat} (e : a * 64 + c = b * 64 + d) (hc : c < 64) (hd : d < 64) : a = b ∧ c = d := by omega
theorem split7 {a b c d : Nat} (e : a + 1 + 7 * (c + 1) = b + 1 + 7 * (d + 1)) (ha : a < 6) (hb : b < 6) : a = b ∧ c = d := by omega
theorem encF_inj {ar : List Int} {f g : LFact} (ha : arityOk ar = true) (hf : factFits ar f = true) (hg : factFits ar g = true) (e : encF f = encF g) : f = g := by
  have hs := fits_short ha hf
  have hs' := fits_short ha hg
  obtain ⟨⟨h0, _, _⟩, h2⟩ := fits_parts hf
  obtain ⟨⟨h0', _, _⟩, h2'⟩ := fits_parts hg
  obtain ⟨p, xs⟩ := f
  obtain ⟨q, ys⟩ := g
  rcases xs with _ | ⟨x, _ | ⟨y, _ | ⟨z, xs⟩⟩⟩ <;> rcases ys with _ | ⟨x', _ | ⟨y', _ | ⟨z', ys⟩⟩⟩ <;> (try (simp at hs; done)) <;> (try (simp at hs'; done)) <;>
    simp only [List.all_cons, List.all_nil, Bool.and_eq_true, and_true] at h2 h2' <;> simp only [encF] at e h0 h0'
  · obtain ⟨e1, _⟩ := split64 e (by omega) (by omega); simp; omega
  · have := const_range h2'; obtain ⟨_, e2⟩ := split64 e (by omega) (by omega); omega
  · have := const_range h2'.1; have := const_range h2'.2; obtain ⟨_, e2⟩ := split64 e (by omega) (by omega); omega
  · have := const_range h2; obtain ⟨_, e2⟩ := split64 e (by omega) (by omega); omega
  · have := const_range h2; have := const_range h2'; obtain ⟨e1, e2⟩ := split64 e (by omega) (by omega); simp; omega
  · have := const_range h2; have := const_range h2'.1; have := const_range h2'.2; obtain ⟨_, e2⟩ := split64 e (by omega) (by omega); omega
  · have := const_range h2.1; have := const_range h2.2; obtain ⟨_, e2⟩ := split64 e (by omega) (by omega); omega
  · have := const_range h2.1; have := const_range h2.2; have := const_range h2'; obtain ⟨_, e2⟩ := split64 e (by omega) (by omega); omega
  · have := const_range h2.1; have := const_range h2.2; have := const_range h2'.1; have := const_range h2'.2
    obtain ⟨e1, e2⟩ := split64 e (by omega) (by omega)
    obtain ⟨e3, e4⟩ := split7 e2 (by omega) (by omega)
    simp; omega
theorem tot_short : ∀ {l : List LFact}, (∀ f ∈ l, f.2.length ≤ 2) → tot l ≤ l.length * 2
  | [], _ => by simp [tot]
  | f :: l, h => by
    have h1 := h f (List.mem_cons_self ..)
    have h2 := tot_short fun g hg => h g (List.mem_cons_of_mem _ hg)
    rw [tot_cons, List.length_cons]
    omega
/-- Facts that fit, no two alike: few. -/
theorem facts_few {ar : List Int} {l : List LFact} (ha : arityOk ar = true) (hn : l.Nodup) (h : ∀ f ∈ l, factFits ar f = true) : l.length ≤ 1536 ∧ tot l ≤ 3072 := by
  have h1 := nodup_len 1536 (l.map encF) (by
    unfold List.Nodup
    rw [List.pairwise_map]
    exact List.Pairwise.imp_of_mem (fun {a b} hx hy hne e => hne (encF_inj ha (h a hx) (h b hy) e)) hn) fun x hx => by
      obtain ⟨b, hb, rfl⟩ := List.mem_map.1 hx
      exact encF_lt ha (h b hb)
  rw [List.length_map] at h1
  have h2 := tot_short fun f hf => fits_short ha (h f hf)
  omega

theorem headOf_fits {ar : List Int} {a : LFact} {bs : List Int} (ha : atomFits ar a = true) (e : headOk a bs = true) : factFits ar (headOf a bs) = true := by
  rw [headOf_yes e]
  simp only [atomFits, Bool.and_eq_true, decide_eq_true_eq] at ha
  simp only [headOk, Bool.and_eq_true] at e
  simp only [factFits, Bool.and_eq_true, decide_eq_true_eq, List.length_map]
  exact ⟨ha.1, e.2⟩
theorem headsTo_asc (a : LFact) (S : List (List Int)) : ∀ k, Asc (headsTo a S k)
  | 0 => List.Pairwise.nil
  | k + 1 => by
    have ih := headsTo_asc a S k
    show Asc (if _ then _ else _)
    split
    · exact (foldWith [headOf a (S.getD k [])] _ ih).1
    · exact ih
theorem headsTo_fits {ar : List Int} {a : LFact} {S : List (List Int)} (ha : atomFits ar a = true) : ∀ k, ∀ f ∈ headsTo a S k, factFits ar f = true
  | 0 => fun f hf => by cases hf
  | k + 1 => by
    have ih := headsTo_fits (S := S) ha k
    intro f hf
    have hf : f ∈ (if headOk a (S.getD k []) then factsWith (headsTo a S k) (headOf a (S.getD k [])) else headsTo a S k) := hf
    split at hf
    · rename_i e
      rcases (factsWith_mem _ _ _).1 hf with h | rfl
      · exact ih f h
      · exact headOf_fits ha e
    · exact ih f hf
theorem headsL_fits {ar : List Int} {r : LRule} (gs : List LFact) (h : ruleFits ar r = true) : ∀ f ∈ headsL r gs, factFits ar f = true := by
  simp only [ruleFits, Bool.and_eq_true] at h
  exact headsTo_fits h.1 _
theorem headsL_few {ar : List Int} {r : LRule} (gs : List LFact) (ha : arityOk ar = true) (h : ruleFits ar r = true) : (headsL r gs).length ≤ 1536 ∧ tot (headsL r gs) ≤ 3072 :=
  facts_few ha (asc_nodup (headsTo_asc _ _ _)) (headsL_fits gs h)
/-- The heads of rules. -/
def headsAll (rs : List LRule) (gs : List LFact) : List LFact := setOf (rs.flatMap fun r => headsL r gs)
theorem setOf_more (xs ys : List LFact) : setOf (setOf xs ++ ys) = setOf (xs ++ ys) :=
  (setOf_asc _).unique (setOf_asc _) fun f => by rw [setOf_mem, setOf_mem, List.mem_append, List.mem_append, setOf_mem]
theorem headsAll_snoc (rs : List LRule) (gs : List LFact) (k : Nat) (h : k < rs.length) : headsAll (rs.take (k + 1)) gs = setOf (headsAll (rs.take k) gs ++ headsL rs[k] gs) := by
  unfold headsAll
  rw [take_snoc rs k h, List.flatMap_append, setOf_more]
  simp
theorem headsAll_fits {ar : List Int} {rs : List LRule} (gs : List LFact) (h : ∀ r ∈ rs, ruleFits ar r = true) : ∀ f ∈ headsAll rs gs, factFits ar f = true := by
  intro f hf
  obtain ⟨r, hr, hm⟩ := List.mem_flatMap.1 ((setOf_mem _ _).1 hf)
  exact headsL_fits gs (h r hr) f hm
theorem headsAll_few {ar : List Int} {rs : List LRule} (gs : List LFact) (ha : arityOk ar = true) (h : ∀ r ∈ rs, ruleFits ar r = true) : (headsAll rs gs).length ≤ 1536 ∧ tot (headsAll rs gs) ≤ 3072 :=
  facts_few ha (asc_nodup (setOf_asc _)) (headsAll_fits gs h)
theorem lit_terms {ar : List Int} {l : LLit} (h : litFits ar l = true) : l.2.2.all termOk = true := by
  unfold litFits at h
  split at h
  · simp only [atomFits, Bool.and_eq_true] at h; exact h.2
  · split at h
    · simp only [Bool.and_eq_true] at h; exact h.2
    · cases h

end Go.Proofs.YtebincnejcmocaaGreat
/-
  What comes in, opened: rules.
-/
namespace Go.Proofs.YtebincnejcmocaaGreat
open Go.ChangeShapes Go.WideShapes Go.ChangeAt Go.RowKit Go.Joins Go.Deep

section
variable {H : Type} {enc : TypeId × Value → H} {W : World}

def ruleFitsIn (r : LRule) : Prop := r.1.2.length ≤ maxLen ∧ bodyFits r.2

def InRule (W : World) (v : Value) (r : LRule) : Prop := RdRule W W.heap.size v r ∧ ruleFitsIn r

end

end Go.Proofs.YtebincnejcmocaaGreat
/-
  What comes in, opened: integers, atoms, literals, rules, programs.
-/
namespace Go.Proofs.YtebincnejcmocaaGreat
open Go.ChangeShapes Go.WideShapes Go.ChangeAt Go.RowKit Go.Joins Go.Deep

/-- A program: its predicates' places, its rules. -/
abbrev LProg := List Int × List LRule
def RdProg (w : World) (B : Nat) (v : Value) (p : LProg) : Prop := ∃ a b, v = .agg #[a, b] ∧ RdInts w B a p.1 ∧ RdRules w B b p.2
theorem RdProg.on {w w' : World} {v : Value} {p : LProg} (h : RdProg w w.heap.size v p) (hb : Below w.heap.size w w') : RdProg w' w'.heap.size v p := by
  obtain ⟨a, b, rfl, h1, h2⟩ := h
  exact ⟨a, b, rfl, h1.on hb, h2.on hb⟩

section
variable {H : Type} {enc : TypeId × Value → H} {W : World}

def InProg (W : World) (v : Value) (p : LProg) : Prop := RdProg W W.heap.size v p ∧ p.1.length ≤ maxLen ∧ p.2.length ≤ maxLen ∧ ∀ k (h : k < p.2.length), ruleFitsIn p.2[k]

end

end Go.Proofs.YtebincnejcmocaaGreat
/-
  The walks over lists of rules and programs: szRuleS, toRuleS, eqRuleS, szProgram, toProgram, eqProgram.
-/
namespace Go.Proofs.YtebincnejcmocaaGreat
open Go.RowKit

theorem Tryz.infoRule : (Tryz.prog.info? 79).map (fun i => (i.zero, i.size, i.bytes)) = some (some (.agg #[.int .i64 0, .slice none 0 0, .slice none 0 0]), 3, 56) := by kernel_rfl

/-- What szProgram counts. -/
def szP (p : LProg) : Nat := p.1.length + (p.2.length + totR p.2)
def progLens (p : LProg) : Prop := p.1.length ≤ 9223372036854775807 ∧ p.2.length ≤ 9223372036854775807 ∧ ∀ k (h : k < p.2.length), ruleLens p.2[k]

theorem OwnRules.below {w w' : World} {lo hi B : Nat} {v : Value} {rs : List LRule} (h : OwnRules w lo hi v rs) (hb : Below B w w') (hB : hi ≤ B) : OwnRules w' lo hi v rs := h.keep fun g _ h2 => hb.block g (by omega)
theorem OwnRules.far {w : World} {lo hi : Nat} {v : Value} {rs : List LRule} (h : OwnRules w lo hi v rs) {p : Addr} (hp : p.block < lo) (u : Value) : OwnRules (w.setCell p u) lo hi v rs :=
  h.keep fun g h1 _ => Below.heap_setCell _ _ _ _ (by omega)

end Go.Proofs.YtebincnejcmocaaGreat
/-
  The walks of both ProgramOk, of l2Has, and of both Positive.
-/
namespace Go.Proofs.YtebincnejcmocaaGreat
open Go.RowKit

def progOk (p : LProg) : Bool := arityOk p.1 && (decide (p.2.length ≤ 60) && p.2.all (ruleFits p.1))
theorem progOk_spec (p : LProg) : progOk p = (p.2.all (ruleOk p.1) && (arityOk p.1 && decide (p.2.length ≤ 60))) := by
  unfold progOk
  by_cases ha : arityOk p.1 = true
  · have : p.2.all (ruleOk p.1) = p.2.all (ruleFits p.1) := by
      congr 1
      funext r
      unfold ruleOk
      rw [ha, Bool.true_and]
    rw [this, ha]
    cases p.2.all (ruleFits p.1) <;> cases decide (p.2.length ≤ 60) <;> rfl
  · have ha' : arityOk p.1 = false := by simpa using ha
    rw [ha']
    simp

end Go.Proofs.YtebincnejcmocaaGreat
/-
  The walk of the specification's FactOk.
-/
namespace Go.Proofs.YtebincnejcmocaaGreat
open Go.RowKit

end Go.Proofs.YtebincnejcmocaaGreat
/-
  The walks of FactsOk: the program's and the specification's.
-/
namespace Go.Proofs.YtebincnejcmocaaGreat
open Go.RowKit

def roundOk (ar : List Int) (fs : List LFact) (k : Nat) : Bool := factFits ar (fs.getD k (0, [])) && (decide (k = 0) || decide (factOrder (fs.getD (k - 1) (0, [])) (fs.getD k (0, [])) < 0))
def factsOk (ar : List Int) (fs : List LFact) : Bool := arityOk ar && (List.range fs.length).all (roundOk ar fs)
def OkTo (ar : List Int) (fs : List LFact) (k : Nat) : Prop := (List.range k).all (roundOk ar fs) = true
theorem OkTo.step {ar : List Int} {fs : List LFact} {k : Nat} (h : OkTo ar fs k) (e : roundOk ar fs k = true) : OkTo ar fs (k + 1) := by
  unfold OkTo at h ⊢
  rw [List.range_succ, List.all_append, h]
  simp [e]
theorem round_not {ar : List Int} {fs : List LFact} {k : Nat} (hk : k < fs.length) (e : roundOk ar fs k = false) : factsOk ar fs = false := by
  unfold factsOk
  have : (List.range fs.length).all (roundOk ar fs) = false := by
    rw [List.all_eq_false]
    exact ⟨k, List.mem_range.2 hk, by simp [e]⟩
  rw [this, Bool.and_false]
theorem getD_at {α : Type} {l : List α} {k : Nat} (h : k < l.length) {d : α} : l.getD k d = l[k] := by simp [h]
theorem round_first {ar : List Int} {fs : List LFact} {k : Nat} (hk : k < fs.length) (h : factFits ar fs[k] = true) (h0 : k = 0) : roundOk ar fs k = true := by
  unfold roundOk
  rw [getD_at hk, h]
  simp [h0]
theorem round_next {ar : List Int} {fs : List LFact} {j : Nat} (hk : j + 1 < fs.length) (hj : j < fs.length) (h : factFits ar fs[j + 1] = true) : roundOk ar fs (j + 1) = decide (factOrder fs[j] fs[j + 1] < 0) := by
  unfold roundOk
  rw [getD_at hk, h, Nat.add_sub_cancel, getD_at hj]
  simp
theorem round_unfit {ar : List Int} {fs : List LFact} {k : Nat} (hk : k < fs.length) (h : factFits ar fs[k] = false) : roundOk ar fs k = false := by
  unfold roundOk
  rw [getD_at hk, h]
  simp
theorem later_fact {w0 : World} {v : Value} {f : LFact} (h : RdFact w0 w0.heap.size v f) (x : Later w0) : RdFact x.val x.val.heap.size v f := h.on x.2
theorem later_ints {w0 : World} {v : Value} {f : List Int} (h : RdInts w0 w0.heap.size v f) (x : Later w0) : RdInts x.val x.val.heap.size v f := h.on x.2

end Go.Proofs.YtebincnejcmocaaGreat
/-
  The specification's l1Pick, FactsBoth and FactsLess.
-/
namespace Go.Proofs.YtebincnejcmocaaGreat
open Go.RowKit

theorem filter_tot_le (p : LFact → Bool) : ∀ l : List LFact, tot (l.filter p) ≤ tot l
  | [] => by simp [tot]
  | f :: l => by
    have := filter_tot_le p l
    by_cases h : p f = true <;> simp [h, tot_cons] <;> omega

/-- The facts of a list that another has, or has not. -/
def pickL (xs ys : List LFact) (b : Bool) : List LFact := setOf (xs.filter fun f => factsHas ys f == b)
theorem pickL_bound (xs ys : List LFact) (b : Bool) : (pickL xs ys b).length ≤ xs.length ∧ tot (pickL xs ys b) ≤ tot xs := by
  have h := setOf_bound (xs.filter fun f => factsHas ys f == b)
  have h1 := List.length_filter_le (fun f => factsHas ys f == b) xs
  have h2 := filter_tot_le (fun f => factsHas ys f == b) xs
  unfold pickL
  omega
theorem pickL_yes {xs ys : List LFact} {b : Bool} {k : Nat} (h : k < xs.length) (e : factsHas ys xs[k] = b) : pickL (xs.take (k + 1)) ys b = factsWith (pickL (xs.take k) ys b) xs[k] := by
  unfold pickL
  rw [take_snoc xs k h, List.filter_append, ← setOf_snoc]
  simp [e]
theorem pickL_no {xs ys : List LFact} {b : Bool} {k : Nat} (h : k < xs.length) (e : factsHas ys xs[k] ≠ b) : pickL (xs.take (k + 1)) ys b = pickL (xs.take k) ys b := by
  unfold pickL
  rw [take_snoc xs k h, List.filter_append]
  simp [e]

end Go.Proofs.YtebincnejcmocaaGreat
/-
  The specification's Consequences and Closed.
-/
namespace Go.Proofs.YtebincnejcmocaaGreat
open Go.RowKit

/-- The heads that follow. -/
def consL (p : LProg) (fs : List LFact) : List LFact := if progOk p && factsOk p.1 fs then headsAll p.2 fs else []
def closedL (p : LProg) (fs : List LFact) : Bool := progOk p && (factsOk p.1 fs && decide ((pickL (headsAll p.2 fs) fs false).length = 0))

theorem factsOk_parts {ar : List Int} {fs : List LFact} (h : factsOk ar fs = true) : arityOk ar = true ∧ (∀ f ∈ fs, factFits ar f = true) ∧ Asc fs := by
  simp only [factsOk, Bool.and_eq_true, List.all_eq_true, List.mem_range] at h
  obtain ⟨h1, h2⟩ := h
  refine ⟨h1, fun f hf => ?_, ?_⟩
  · obtain ⟨k, hk, rfl⟩ := List.getElem_of_mem hf
    have := h2 k hk
    unfold roundOk at this
    rw [getD_at hk, Bool.and_eq_true] at this
    exact this.1
  · have hs : ∀ k (h0 : k + 1 < fs.length), factOrder (fs[k]'(by omega)) fs[k + 1] < 0 := fun k h0 => by
      have := h2 (k + 1) h0
      unfold roundOk at this
      rw [getD_at h0, Nat.add_sub_cancel, getD_at (show k < fs.length by omega), Bool.and_eq_true] at this
      simpa using this.2
    have hd : ∀ d k (h0 : k + d + 1 < fs.length), factOrder (fs[k]'(by omega)) fs[k + d + 1] < 0 := fun d => by
      induction d with
      | zero => intro k h0; exact hs k h0
      | succ d ih =>
        intro k h0
        exact order_less (ih k (by omega)) (hs (k + d + 1) h0)
    unfold Asc
    rw [List.pairwise_iff_getElem]
    intro i j hi hj hij
    obtain ⟨d, rfl⟩ : ∃ d, j = i + d + 1 := ⟨j - i - 1, by omega⟩
    exact hd d i hj
theorem prog_parts {p : LProg} (h : progOk p = true) : arityOk p.1 = true ∧ p.2.length ≤ 60 ∧ ∀ r ∈ p.2, ruleFits p.1 r = true := by
  simp only [progOk, Bool.and_eq_true, decide_eq_true_eq, List.all_eq_true] at h
  exact ⟨h.1, h.2.1, h.2.2⟩

end Go.Proofs.YtebincnejcmocaaGreat
/-
  The heads of a rule by its solutions: plain mathematics.
-/
namespace Go.Proofs.YtebincnejcmocaaGreat
open Go.RowKit

theorem safeTo_or {a b y : Nat} (h : safeTo (a ||| b) y 4 = true) : safeTo b y 4 = true := by
  rw [safeTo_iff] at h ⊢
  intro v hv hb
  exact h v hv (by rw [Nat.testBit_or, hb, Bool.or_true])
/-- A rule that fits has a body that can be asked. -/
theorem fits_body {ar : List Int} {r : LRule} (h : ruleFits ar r = true) : bodySafe r.2 = true := by
  simp only [ruleFits, Bool.and_eq_true, decide_eq_true_eq] at h
  obtain ⟨_, h4, hl, hs⟩ := h
  unfold bodySafe
  rw [Bool.and_eq_true, Bool.and_eq_true, decide_eq_true_eq, List.all_eq_true]
  refine ⟨⟨fun l hm => ?_, h4⟩, ?_⟩
  · have hf := List.all_eq_true.1 hl l hm
    refine litFine_yes ?_ (lit_terms hf)
    unfold litFits at hf
    split at hf
    · omega
    · split at hf
      · omega
      · cases hf
  · rw [ruleSafe_eq] at hs ⊢
    rw [ruleMask_body]
    exact safeTo_or hs
/-- The variables of the head stand in an atom that is to hold. -/
theorem fits_head {ar : List Int} {r : LRule} (h : ruleFits ar r = true) : ∀ v, v < 4 → (maskOf r.1.2).testBit v = true → ∃ l ∈ r.2, l.1 = 0 ∧ (maskOf l.2.2).testBit v = true := by
  simp only [ruleFits, Bool.and_eq_true, decide_eq_true_eq] at h
  obtain ⟨_, _, _, hs⟩ := h
  rw [ruleSafe_eq, safeTo_iff] at hs
  intro v hv hm
  have := hs v hv (by unfold ruleMask; rw [Nat.testBit_or, hm, Bool.true_or])
  unfold yesMask at this
  rw [yesMask_bit] at this
  simpa using this
/-- A solution makes a head. -/
theorem sols_head {ar : List Int} {r : LRule} {fs : List LFact} {S : List (List Int)} (h : ruleFits ar r = true) (hS : IsSols (questL fs r.2) S) : ∀ b ∈ S, headOk r.1 b = true := by
  intro b hb
  obtain ⟨h1, h2, _⟩ := (hS.2 b).1 hb
  have hf := h
  simp only [ruleFits, atomFits, Bool.and_eq_true, decide_eq_true_eq] at hf
  refine headOk_yes h1 hf.1.2 (List.all_eq_true.2 fun x hx => ?_)
  obtain ⟨t, ht, rfl⟩ := List.mem_map.1 hx
  have htk : termOk t = true := List.all_eq_true.1 hf.1.2 t ht
  have hbd := termVal_bounds h1 htk
  rcases term_cases htk with h' | ⟨v, hv, rfl⟩
  · rw [termVal_const h'.1]
    simp [constOk]
    exact h'
  · have hm : (maskOf r.1.2).testBit v = true := by unfold maskOf; rw [maskFrom_bit hv]; exact .inr ht
    obtain ⟨l, hl, _, hlm⟩ := fits_head h v hv hm
    have hne := (h2 v hv).2 ⟨(l, fs), List.mem_map.2 ⟨l, hl, rfl⟩, hlm⟩
    rw [termVal_v] at hbd ⊢
    unfold constOk
    exact decide_eq_true (by omega)
theorem headsTo_mem (a : LFact) (S : List (List Int)) (f : LFact) : ∀ k, k ≤ S.length → (f ∈ headsTo a S k ↔ ∃ b ∈ S.take k, headOk a b = true ∧ f = headOf a b)
  | 0, _ => by simp [headsTo]
  | k + 1, hk => by
    have ih := headsTo_mem a S f k (by omega)
    have hlt : k < S.length := by omega
    rw [take_snoc S k hlt]
    cases e : headOk a S[k]
    · rw [headsTo_no hlt e, ih]
      constructor
      · rintro ⟨b, hb, h⟩; exact ⟨b, List.mem_append_left _ hb, h⟩
      · rintro ⟨b, hb, h⟩
        rcases List.mem_append.1 hb with hb | hb
        · exact ⟨b, hb, h⟩
        · obtain rfl : b = S[k] := by simpa using hb
          rw [e] at h; cases h.1
    · rw [headsTo_yes hlt e, factsWith_mem, ih]
      constructor
      · rintro (⟨b, hb, h⟩ | rfl)
        · exact ⟨b, List.mem_append_left _ hb, h⟩
        · exact ⟨S[k], List.mem_append_right _ (List.mem_singleton_self _), e, rfl⟩
      · rintro ⟨b, hb, h⟩
        rcases List.mem_append.1 hb with hb | hb
        · exact .inl ⟨b, hb, h⟩
        · obtain rfl : b = S[k] := by simpa using hb
          exact .inr h.2
/-- The heads, by whatever list of the solutions. -/
theorem headsL_mem {ar : List Int} {r : LRule} {fs : List LFact} {S : List (List Int)} (h : ruleFits ar r = true) (hS : IsSols (questL fs r.2) S) (hc : ∀ f ∈ fs, f.2.all constOk = true) (hn : fs.Nodup) (f : LFact) :
    f ∈ headsL r fs ↔ ∃ b ∈ S, f = (r.1.1, r.1.2.map (termVal b)) := by
  obtain ⟨_, h2⟩ := solsOf_is (fs := fs) (gs := fs) (SafeB.of (fits_body h)) hc hn (fun _ => Iff.rfl)
  unfold headsL
  rw [headsTo_mem _ _ _ _ (Nat.le_refl _), List.take_length]
  constructor
  · rintro ⟨b, hb, e, rfl⟩
    exact ⟨b, (hS.2 b).2 ((h2.2 b).1 hb), headOf_yes e⟩
  · rintro ⟨b, hb, rfl⟩
    have e := sols_head h hS b hb
    exact ⟨b, (h2.2 b).2 ((hS.2 b).1 hb), e, (headOf_yes e).symm⟩

end Go.Proofs.YtebincnejcmocaaGreat
/-
  Tables of facts: a word for each predicate.
-/
namespace Go.Proofs.YtebincnejcmocaaGreat
open Go.RowKit

/-- The words of a table, with one fact more. -/
def setBit (T : List Nat) (p n : Nat) : List Nat := T.set p (T.getD p 0 ||| 2 ^ n)
def tabCells (T : List Nat) : Array Value := (T.map fun x => Value.int .u64 ((x : Nat) : Int)).toArray
end Go.Proofs.YtebincnejcmocaaGreat
/-
  A table of facts is filled: constantsNumber, addAll.
-/
namespace Go.Proofs.YtebincnejcmocaaGreat
open Go.RowKit

/-- The number of which constants are the digits. -/
def numF (xs : List Int) : Nat := xs.foldl (fun n c => n * 6 + c.toNat) 0
theorem numF_take {xs : List Int} {k : Nat} (h : k < xs.length) : numF (xs.take (k + 1)) = numF (xs.take k) * 6 + xs[k].toNat := by
  unfold numF
  rw [take_snoc xs k h, List.foldl_append]
  rfl
theorem numF_lt {xs : List Int} (hc : xs.all constOk = true) : ∀ k, k ≤ xs.length → numF (xs.take k) < 6 ^ k
  | 0, _ => by simp [numF]
  | k + 1, hk => by
    have ih := numF_lt hc k (by omega)
    rw [numF_take (by omega), Nat.pow_succ]
    have : 0 ≤ xs[k] ∧ xs[k] ≤ 5 := by simpa [constOk] using List.all_eq_true.1 hc _ (List.getElem_mem (show k < xs.length by omega))
    omega

/-- The facts of a table's predicates. -/
def TabFact (f : LFact) : Prop := 0 ≤ f.1 ∧ f.1 < 24 ∧ f.2.all constOk = true ∧ f.2.length ≤ 2
def tabWith (T : List Nat) (fs : List LFact) : List Nat := fs.foldl (fun T f => setBit T f.1.toNat (numF f.2)) T
theorem tabWith_take {T : List Nat} {fs : List LFact} {k : Nat} (h : k < fs.length) : tabWith T (fs.take (k + 1)) = setBit (tabWith T (fs.take k)) fs[k].1.toNat (numF fs[k].2) := by
  unfold tabWith
  rw [take_snoc fs k h, List.foldl_append]
  rfl
theorem numF_64 {xs : List Int} (hc : xs.all constOk = true) (hl : xs.length ≤ 2) : numF xs < 64 := by
  have := numF_lt hc xs.length (Nat.le_refl _)
  rw [List.take_length] at this
  have h2 : (6 : Nat) ^ xs.length ≤ 6 ^ 2 := Nat.pow_le_pow_right (by decide) hl
  omega

end Go.Proofs.YtebincnejcmocaaGreat
/-
  The walk of headsIn.
-/
namespace Go.Proofs.YtebincnejcmocaaGreat
open Go.RowKit

def zeroT : List Nat := List.replicate 24 0
def hdOf (r : LRule) (b : List Int) : LFact := (r.1.1, r.1.2.map (termVal b))
theorem tabWith_snoc (T : List Nat) (fs : List LFact) (f : LFact) : tabWith T (fs ++ [f]) = setBit (tabWith T fs) f.1.toNat (numF f.2) := by
  unfold tabWith
  rw [List.foldl_append]
  rfl
end Go.Proofs.YtebincnejcmocaaGreat
/-
  hasAll: a table has all of another one.
-/
namespace Go.Proofs.YtebincnejcmocaaGreat
open Go.RowKit

def wordIn (T2 T : List Nat) (p : Nat) : Bool := bits .andNot .u64 ((T2.getD p 0 : Nat) : Int) ((T.getD p 0 : Nat) : Int) == 0
def tabIn (T2 T : List Nat) : Bool := (List.range 24).all (wordIn T2 T)

end Go.Proofs.YtebincnejcmocaaGreat
/-
  The walk of the program's FactsOk.
-/
namespace Go.Proofs.YtebincnejcmocaaGreat
open Go.RowKit

end Go.Proofs.YtebincnejcmocaaGreat
/-
  The program's Closed, by its tables.
-/
namespace Go.Proofs.YtebincnejcmocaaGreat
open Go.RowKit

/-- What the program's Closed answers. -/
def ClosedT (p : LProg) (fs : List LFact) (R : Bool) : Prop := ((progOk p && factsOk p.1 fs) = false ∧ R = false) ∨ ((progOk p && factsOk p.1 fs) = true ∧ ∃ F, (∀ f, f ∈ F ↔ f ∈ headsAll p.2 fs) ∧ R = tabIn (tabWith zeroT F) (tabWith zeroT fs))

theorem tabWith_len (T : List Nat) (fs : List LFact) : (tabWith T fs).length = T.length := by
  induction fs generalizing T with
  | nil => rfl
  | cons f fs ih =>
    show (tabWith (setBit T f.1.toNat (numF f.2)) fs).length = _
    rw [ih]
    simp [setBit]
theorem tabCells_one (T : List Nat) : (tabCells T).all (·.oneCell') = true := by
  unfold tabCells
  rw [List.all_toArray, List.all_map, List.all_eq_true]
  intro x _
  rfl

end Go.Proofs.YtebincnejcmocaaGreat
/-
  Tables by their bits: one table stands in another as its facts do.
-/
namespace Go.Proofs.YtebincnejcmocaaGreat
open Go.RowKit

theorem setBit_bit {T : List Nat} {p q m n : Nat} (hp : p < T.length) : ((setBit T q m).getD p 0).testBit n = true ↔ (T.getD p 0).testBit n = true ∨ (q = p ∧ m = n) := by
  unfold setBit
  by_cases e : q = p
  · subst e
    have h1 : (T.set q (T.getD q 0 ||| 2 ^ m)).getD q 0 = T.getD q 0 ||| 2 ^ m := by simp [List.getD_eq_getElem?_getD, hp]
    rw [h1, Nat.testBit_or, Bool.or_eq_true, Nat.testBit_two_pow, decide_eq_true_eq]
    simp
  · have h1 : (T.set q (T.getD q 0 ||| 2 ^ m)).getD p 0 = T.getD p 0 := by simp [List.getD_eq_getElem?_getD, List.getElem?_set_ne e]
    rw [h1]
    simp [e]
theorem tabWith_bit {p n : Nat} : ∀ (fs : List LFact) (T : List Nat), p < T.length → (((tabWith T fs).getD p 0).testBit n = true ↔ (T.getD p 0).testBit n = true ∨ ∃ f ∈ fs, f.1.toNat = p ∧ numF f.2 = n)
  | [], T, _ => by simp [tabWith]
  | f :: fs, T, hp => by
    have e : tabWith T (f :: fs) = tabWith (setBit T f.1.toNat (numF f.2)) fs := rfl
    rw [e, tabWith_bit fs _ (by simpa [setBit] using hp), setBit_bit hp]
    constructor
    · rintro ((h | h) | ⟨g, hg, h⟩)
      · exact .inl h
      · exact .inr ⟨f, List.mem_cons_self .., h⟩
      · exact .inr ⟨g, List.mem_cons_of_mem _ hg, h⟩
    · rintro (h | ⟨g, hg, h⟩)
      · exact .inl (.inl h)
      · rcases List.mem_cons.1 hg with rfl | hg
        · exact .inl (.inr h)
        · exact .inr ⟨g, hg, h⟩
theorem zero_bit {p n : Nat} : (zeroT.getD p 0).testBit n = false := by
  have : zeroT.getD p 0 = 0 := by
    by_cases hp : p < zeroT.length
    · rw [getD_at hp]
      exact (List.mem_replicate.1 (List.getElem_mem hp)).2
    · simp [List.getD_eq_getElem?_getD, List.getElem?_eq_none (by omega : zeroT.length ≤ p)]
  rw [this, Nat.zero_testBit]
theorem numF_inj {xs ys : List Int} (hx : xs.all constOk = true) (hy : ys.all constOk = true) (hl : xs.length = ys.length) (h2 : xs.length ≤ 2) (e : numF xs = numF ys) : xs = ys := by
  rcases xs with _ | ⟨x, _ | ⟨y, _ | ⟨z, xs⟩⟩⟩ <;> rcases ys with _ | ⟨x', _ | ⟨y', _ | ⟨z', ys⟩⟩⟩ <;> (try (simp at hl; done)) <;> (try (simp at h2; done))
  · rfl
  · simp only [List.all_cons, List.all_nil, Bool.and_true] at hx hy
    have := const_range hx
    have := const_range hy
    simp [numF] at e
    simp; omega
  · simp only [List.all_cons, List.all_nil, Bool.and_true, Bool.and_eq_true] at hx hy
    have := const_range hx.1
    have := const_range hx.2
    have := const_range hy.1
    have := const_range hy.2
    simp [numF] at e
    simp; omega
/-- A fact's bit tells the fact. -/
theorem fact_of_bit {ar : List Int} {f g : LFact} (ha : arityOk ar = true) (hf : factFits ar f = true) (hg : factFits ar g = true) (e1 : f.1.toNat = g.1.toNat) (e2 : numF f.2 = numF g.2) : f = g := by
  obtain ⟨⟨h0, _, hl⟩, hc⟩ := fits_parts hf
  obtain ⟨⟨h0', _, hl'⟩, hc'⟩ := fits_parts hg
  have e : f.1 = g.1 := by omega
  rw [← e] at hl'
  exact Prod.ext e (numF_inj hc hc' (by omega) (fits_short ha hf) e2)

end Go.Proofs.YtebincnejcmocaaGreat
/-
  What the program's Closed answers by its tables is what the specification's answers.
-/
namespace Go.Proofs.YtebincnejcmocaaGreat
open Go.RowKit

theorem word_in {a b : Nat} (ha : a < 18446744073709551616) (hb : b < 18446744073709551616) : (bits .andNot .u64 (a : Int) (b : Int) == 0) = true ↔ ∀ n, a.testBit n = true → b.testBit n = true := by
  have e : (18446744073709551615 - b : Nat) = 2 ^ 64 - (b + 1) := by omega
  have hb' : b < 2 ^ 64 := hb
  rw [u64_andNot_nat a b ha hb, beq_iff_eq, e]
  constructor
  · intro h n hn
    have h0 : a &&& (2 ^ 64 - (b + 1)) = 0 := by exact_mod_cast h
    have h1 := congrArg (fun y => y.testBit n) h0
    simp only [Nat.testBit_and, Nat.zero_testBit, hn, Bool.true_and, Nat.testBit_two_pow_sub_succ hb'] at h1
    have hlt : n < 64 := by
      apply Classical.byContradiction
      intro h64
      have h2 := Nat.ge_two_pow_of_testBit hn
      have h3 : (2 : Nat) ^ 64 ≤ 2 ^ n := Nat.pow_le_pow_right (by decide) (by omega)
      omega
    simpa [hlt] using h1
  · intro h
    have h0 : a &&& (2 ^ 64 - (b + 1)) = 0 := by
      apply Nat.eq_of_testBit_eq
      intro n
      rw [Nat.testBit_and, Nat.zero_testBit, Nat.testBit_two_pow_sub_succ hb']
      cases hn : a.testBit n
      · rfl
      · rw [h n hn]
        simp
    rw [h0]
    rfl
theorem setBit_lt {T : List Nat} {p n : Nat} (h : ∀ x ∈ T, x < 18446744073709551616) (hn : n < 64) : ∀ x ∈ setBit T p n, x < 18446744073709551616 := by
  intro x hx
  rcases List.mem_or_eq_of_mem_set hx with h4 | rfl
  · exact h x h4
  · refine Nat.or_lt_two_pow (n := 64) ?_ (Nat.pow_lt_pow_right (by decide) hn)
    by_cases hp : p < T.length
    · rw [getD_at hp]
      exact h _ (List.getElem_mem hp)
    · simp [List.getD_eq_getElem?_getD, List.getElem?_eq_none (by omega : T.length ≤ p)]
theorem tabWith_lt : ∀ (fs : List LFact) (T : List Nat), (∀ x ∈ T, x < 18446744073709551616) → (∀ f ∈ fs, numF f.2 < 64) → ∀ x ∈ tabWith T fs, x < 18446744073709551616
  | [], _, h, _ => h
  | f :: fs, T, h, hf => tabWith_lt fs (setBit T f.1.toNat (numF f.2)) (setBit_lt h (hf f (List.mem_cons_self ..))) (fun g hg => hf g (List.mem_cons_of_mem _ hg))
theorem word_lt {T : List Nat} {p : Nat} (h : ∀ x ∈ T, x < 18446744073709551616) : T.getD p 0 < 18446744073709551616 := by
  by_cases hp : p < T.length
  · rw [getD_at hp]
    exact h _ (List.getElem_mem hp)
  · simp [List.getD_eq_getElem?_getD, List.getElem?_eq_none (by omega : T.length ≤ p)]
theorem zeroT_lt : ∀ x ∈ zeroT, x < 18446744073709551616 := fun x hx => by
  obtain ⟨_, rfl⟩ := List.mem_replicate.1 hx
  decide

theorem pickL_in (a b : List LFact) (t : Bool) (f : LFact) : f ∈ pickL a b t ↔ f ∈ a ∧ decide (f ∈ b) = t := by
  unfold pickL
  rw [setOf_mem, List.mem_filter, factsHas_in]
  simp

/-- One table of facts stands in another as its facts do. -/
theorem tabIn_facts {ar : List Int} (ha : arityOk ar = true) {F fs : List LFact} (hF : ∀ f ∈ F, factFits ar f = true) (hf : ∀ f ∈ fs, factFits ar f = true) : tabIn (tabWith zeroT F) (tabWith zeroT fs) = true ↔ ∀ f ∈ F, f ∈ fs := by
  have hl : ar.length ≤ 24 := by simp only [arityOk, Bool.and_eq_true, decide_eq_true_eq] at ha; exact ha.1
  have h64 : ∀ f, factFits ar f = true → numF f.2 < 64 := fun f h => numF_64 (fits_parts h).2 (fits_short ha h)
  have hz : ∀ p : Nat, p < 24 → p < zeroT.length := fun p hp => by simpa [zeroT] using hp
  unfold tabIn
  rw [List.all_eq_true]
  have hw : ∀ p, p < 24 → (wordIn (tabWith zeroT F) (tabWith zeroT fs) p = true ↔ ∀ n, (∃ f ∈ F, f.1.toNat = p ∧ numF f.2 = n) → ∃ f ∈ fs, f.1.toNat = p ∧ numF f.2 = n) := fun p hp => by
    unfold wordIn
    rw [word_in (word_lt (tabWith_lt F _ zeroT_lt fun f h => h64 f (hF f h))) (word_lt (tabWith_lt fs _ zeroT_lt fun f h => h64 f (hf f h)))]
    simp only [tabWith_bit _ _ (hz p hp), zero_bit, Bool.false_eq_true, false_or]
  constructor
  · intro h f hm
    have hp := (fits_parts (hF f hm)).1
    have h1 := (hw f.1.toNat (by omega)).1 (h _ (List.mem_range.2 (by omega))) (numF f.2) ⟨f, hm, rfl, rfl⟩
    obtain ⟨g, hg, e1, e2⟩ := h1
    rw [fact_of_bit ha (hF f hm) (hf g hg) e1.symm e2.symm]
    exact hg
  · intro h p hp
    rw [hw p (List.mem_range.1 hp)]
    rintro n ⟨f, hm, e⟩
    exact ⟨f, h f hm, e⟩

theorem closedT_eq {p : LProg} {fs : List LFact} {R : Bool} (h : ClosedT p fs R) : R = closedL p fs := by
  rcases h with ⟨h1, rfl⟩ | ⟨h1, F, hF, rfl⟩
  · unfold closedL
    rw [← Bool.and_assoc, h1, Bool.false_and]
  · rw [Bool.and_eq_true] at h1
    obtain ⟨har, _, hfit⟩ := prog_parts h1.1
    obtain ⟨_, hff, _⟩ := factsOk_parts h1.2
    unfold closedL
    rw [h1.1, h1.2, Bool.true_and, Bool.true_and, Bool.eq_iff_iff, tabIn_facts har (fun f h => headsAll_fits fs hfit f ((hF f).1 h)) hff, decide_eq_true_eq, List.length_eq_zero_iff, List.eq_nil_iff_forall_not_mem]
    constructor
    · intro h f hm
      rw [pickL_in] at hm
      have := h f ((hF f).2 hm.1)
      simp [this] at hm
    · intro h f hm
      apply Classical.byContradiction
      intro hn
      exact h f ((pickL_in _ _ _ _).2 ⟨(hF f).1 hm, by simpa using hn⟩)

end Go.Proofs.YtebincnejcmocaaGreat
/-
  Rounds that bring facts: plain mathematics.
-/
namespace Go.Proofs.YtebincnejcmocaaGreat
open Go.RowKit

/-- What makes a body hold in facts. -/
def DomL (ls : List LLit) (b : List Int) : Prop := ∀ v, v < 4 → (b.getD v (-1) ≠ -1 ↔ ∃ l ∈ ls, (maskOf l.2.2).testBit v = true)
def SolOf (fs : List LFact) (ls : List LLit) (b : List Int) : Prop := bindOk b = true ∧ DomL ls b ∧ ∀ l ∈ ls, litHolds fs l b = true
theorem isSols_iff {fs : List LFact} {ls : List LLit} {S : List (List Int)} : IsSols (questL fs ls) S ↔ S.Nodup ∧ ∀ b, b ∈ S ↔ SolOf fs ls b := by
  have e : ∀ b, (bindOk b = true ∧ (∀ v, v < 4 → (b.getD v (-1) ≠ -1 ↔ ∃ q ∈ questL fs ls, (maskOf q.1.2.2).testBit v = true)) ∧ ∀ q ∈ questL fs ls, holdsQ q b = true) ↔ SolOf fs ls b := fun b => by
    have e1 : ∀ v, (∃ q ∈ questL fs ls, (maskOf q.1.2.2).testBit v = true) ↔ ∃ l ∈ ls, (maskOf l.2.2).testBit v = true := fun v => by
      constructor
      · rintro ⟨q, hq, h⟩
        obtain ⟨l, hl, rfl⟩ := List.mem_map.1 hq
        exact ⟨l, hl, h⟩
      · rintro ⟨l, hl, h⟩
        exact ⟨(l, fs), List.mem_map.2 ⟨l, hl, rfl⟩, h⟩
    have e2 : (∀ q ∈ questL fs ls, holdsQ q b = true) ↔ ∀ l ∈ ls, litHolds fs l b = true := by
      constructor
      · intro h l hl
        exact h (l, fs) (List.mem_map.2 ⟨l, hl, rfl⟩)
      · intro h q hq
        obtain ⟨l, hl, rfl⟩ := List.mem_map.1 hq
        exact h l hl
    unfold SolOf DomL
    rw [e2]
    refine and_congr_right fun _ => and_congr_left fun _ => ?_
    exact forall_congr' fun v => forall_congr' fun _ => by rw [e1 v]
  unfold IsSols
  exact and_congr_right fun _ => forall_congr' fun b => by rw [e b]

theorem hold_yes {fs : List LFact} {l : LLit} {b : List Int} (h : l.1 = 0) : litHolds fs l b = true ↔ headOk l.2 b = true ∧ headOf l.2 b ∈ fs := by
  unfold litHolds
  rw [if_neg (by omega), factsHas_in, h]
  cases headOk l.2 b <;> simp
theorem hold_no {fs : List LFact} {l : LLit} {b : List Int} (h : l.1 = 1) : litHolds fs l b = true ↔ headOk l.2 b = true ∧ headOf l.2 b ∉ fs := by
  unfold litHolds
  rw [if_neg (by omega), factsHas_in, h]
  cases headOk l.2 b <;> simp
theorem hold_cmp {fs gs : List LFact} {l : LLit} {b : List Int} (h : l.1 = 2 ∨ l.1 = 3) : litHolds fs l b = litHolds gs l b := by
  unfold litHolds
  rw [if_pos h, if_pos h]

/-- The facts of one predicate. -/
def ofP (L : List LFact) (p : Int) : List LFact := L.filter fun f => decide (f.1 = p)
theorem ofP_mem {L : List LFact} {p : Int} {f : LFact} : f ∈ ofP L p ↔ f ∈ L ∧ f.1 = p := by simp [ofP]
theorem ofP_append (L M : List LFact) (p : Int) : ofP (L ++ M) p = ofP L p ++ ofP M p := by simp [ofP]
theorem ofP_len (L : List LFact) (p : Int) : (ofP L p).length ≤ L.length := List.length_filter_le _ _
theorem take_mid {L : List LFact} {o e : Nat} (h : o ≤ e) : L.take e = L.take o ++ (L.take e).drop o := by
  have h1 := (List.take_append_drop o (L.take e)).symm
  rw [List.take_take, Nat.min_eq_left h] at h1
  exact h1
theorem ofP_take (L : List LFact) (p : Int) (n : Nat) : ofP (L.take n) p = (ofP L p).take (ofP (L.take n) p).length := by
  have h := congrArg (fun x => ofP x p) (List.take_append_drop n L)
  simp only [ofP_append] at h
  rw [← h, List.take_left']
  rfl
theorem ofP_take_le (L : List LFact) (p : Int) (n : Nat) : (ofP (L.take n) p).length ≤ (ofP L p).length := by
  have h := congrArg (fun x => ofP x p) (List.take_append_drop n L)
  simp only [ofP_append] at h
  rw [← h, List.length_append]
  omega
theorem head_pred {a : LFact} {b : List Int} (h : headOk a b = true) : (headOf a b).1 = a.1 := by rw [headOf_yes h]
theorem hold_ofP {fs : List LFact} {l : LLit} {b : List Int} : litHolds (ofP fs l.2.1) l b = litHolds fs l b := by
  unfold litHolds
  split
  · rfl
  · rw [factsHas_in, factsHas_in]
    cases h : headOk l.2 b
    · rfl
    · congr 2
      exact decide_eq_decide.2 (by rw [ofP_mem]; exact ⟨fun h => h.1, fun h2 => ⟨h2, head_pred h⟩⟩)

/-- The facts of which a literal is asked: all, old ones, new ones. -/
abbrev LAge := List LFact × List LFact × List LFact
def litD (ls : List LLit) (j : Nat) : LLit := ls.getD j (0, 0, [])
def ageD (ag : List LAge) (j : Nat) : LAge := ag.getD j ([], [], [])
theorem litD_lt {ls : List LLit} {j : Nat} (h : j < ls.length) : litD ls j = ls[j] := by simp [litD, h]
theorem ageD_lt {ag : List LAge} {j : Nat} (h : j < ag.length) : ageD ag j = ag[j] := by simp [ageD, h]
theorem litD_mem {ls : List LLit} {j : Nat} (h : j < ls.length) : litD ls j ∈ ls := by rw [litD_lt h]; exact List.getElem_mem h
def qAt (ls : List LLit) (ag : List LAge) (i j : Nat) : LQ := (litD ls j, if j < i ∧ (litD ls j).1 = 0 then (ageD ag j).2.1 else (ageD ag j).1)
def freshTo (ls : List LLit) (ag : List LAge) (i k : Nat) : List LQ := (litD ls i, (ageD ag i).2.2) :: (List.range k).flatMap fun j => if j = i then [] else [qAt ls ag i j]
theorem freshTo_zero (ls : List LLit) (ag : List LAge) (i : Nat) : freshTo ls ag i 0 = [(litD ls i, (ageD ag i).2.2)] := by simp [freshTo]
theorem freshTo_same (ls : List LLit) (ag : List LAge) (i : Nat) : freshTo ls ag i (i + 1) = freshTo ls ag i i := by simp [freshTo, List.range_succ]
theorem freshTo_snoc (ls : List LLit) (ag : List LAge) {i k : Nat} (h : k ≠ i) : freshTo ls ag i (k + 1) = freshTo ls ag i k ++ [qAt ls ag i k] := by simp [freshTo, List.range_succ, h]
theorem freshTo_len (ls : List LLit) (ag : List LAge) (i : Nat) : ∀ k, (freshTo ls ag i k).length ≤ k + 1 ∧ (i < k → (freshTo ls ag i k).length = k) ∧ (k ≤ i → (freshTo ls ag i k).length = k + 1)
  | 0 => by simp [freshTo_zero]
  | k + 1 => by
    obtain ⟨h1, h2, h3⟩ := freshTo_len ls ag i k
    by_cases e : k = i
    · subst e
      rw [freshTo_same]
      refine ⟨by omega, fun _ => h3 (Nat.le_refl _), fun h => absurd h (by omega)⟩
    · rw [freshTo_snoc ls ag e, List.length_append, List.length_singleton]
      refine ⟨by omega, fun h => ?_, fun h => ?_⟩
      · rw [h2 (by omega)]
      · rw [h3 (by omega)]
theorem freshTo_mem {ls : List LLit} {ag : List LAge} {i k : Nat} {q : LQ} : q ∈ freshTo ls ag i k ↔ q = (litD ls i, (ageD ag i).2.2) ∨ ∃ j, j < k ∧ j ≠ i ∧ q = qAt ls ag i j := by
  unfold freshTo
  rw [List.mem_cons, List.mem_flatMap]
  refine or_congr_right ?_
  constructor
  · rintro ⟨j, hj, h⟩
    split at h
    · cases h
    · rename_i e
      exact ⟨j, List.mem_range.1 hj, e, by simpa using h⟩
  · rintro ⟨j, hj, e, rfl⟩
    exact ⟨j, List.mem_range.2 hj, by rw [if_neg e]; exact List.mem_singleton_self _⟩
/-- The body holds with atom i among the new facts, and those ahead of it among the old ones. -/
def FreshAt (ls : List LLit) (ag : List LAge) (i : Nat) (b : List Int) : Prop :=
  litHolds (ageD ag i).2.2 (litD ls i) b = true ∧ ∀ j, j < ls.length → j ≠ i → litHolds (qAt ls ag i j).2 (litD ls j) b = true
theorem freshQ_dom {ls : List LLit} {ag : List LAge} {i v : Nat} (hi : i < ls.length) : (∃ q ∈ freshTo ls ag i ls.length, (maskOf q.1.2.2).testBit v = true) ↔ ∃ l ∈ ls, (maskOf l.2.2).testBit v = true := by
  constructor
  · rintro ⟨q, hq, h⟩
    rcases freshTo_mem.1 hq with rfl | ⟨j, hj, _, rfl⟩
    · exact ⟨_, litD_mem hi, h⟩
    · exact ⟨_, litD_mem hj, h⟩
  · rintro ⟨l, hl, h⟩
    obtain ⟨j, hj, rfl⟩ := List.getElem_of_mem hl
    rw [← litD_lt hj] at h
    by_cases e : j = i
    · subst e
      exact ⟨_, freshTo_mem.2 (.inl rfl), h⟩
    · exact ⟨_, freshTo_mem.2 (.inr ⟨j, hj, e, rfl⟩), h⟩
theorem freshQ_is {ls : List LLit} {ag : List LAge} {i : Nat} (hi : i < ls.length) {S : List (List Int)} (h : IsSols (freshTo ls ag i ls.length) S) : S.Nodup ∧ ∀ b, b ∈ S ↔ bindOk b = true ∧ DomL ls b ∧ FreshAt ls ag i b := by
  refine ⟨h.1, fun b => ?_⟩
  rw [h.2 b]
  refine and_congr_right fun _ => and_congr ?_ ?_
  · exact forall_congr' fun v => forall_congr' fun _ => by rw [freshQ_dom hi]
  · constructor
    · intro hq
      exact ⟨hq _ (freshTo_mem.2 (.inl rfl)), fun j hj e => hq (qAt ls ag i j) (freshTo_mem.2 (.inr ⟨j, hj, e, rfl⟩))⟩
    · rintro ⟨h1, h2⟩ q hq
      rcases freshTo_mem.1 hq with rfl | ⟨j, hj, e, rfl⟩
      · exact h1
      · exact h2 j hj e
theorem freshQ_safe {ls : List LLit} {ag : List LAge} {i : Nat} (hi : i < ls.length) (h : SafeB ls) : SafeQ (freshTo ls ag i ls.length) := fun q hq v hv hm => by
  have hl : ∃ l ∈ ls, (maskOf l.2.2).testBit v = true := (freshQ_dom (ag := ag) hi).1 ⟨q, hq, hm⟩
  obtain ⟨l, hl, hm⟩ := hl
  obtain ⟨l', hl', h0, hm'⟩ := h.safe l hl v hv hm
  obtain ⟨j, hj, rfl⟩ := List.getElem_of_mem hl'
  rw [← litD_lt hj] at h0 hm'
  by_cases e : j = i
  · subst e
    exact ⟨_, freshTo_mem.2 (.inl rfl), h0, hm'⟩
  · exact ⟨_, freshTo_mem.2 (.inr ⟨j, hj, e, rfl⟩), h0, hm'⟩
/-- What is asked of the facts of an age. -/
structure AgeOk (a : LAge) : Prop where
  consts : ∀ f ∈ a.1, f.2.all constOk = true
  len : a.1.length ≤ 1048576
  tot : tot a.1 ≤ 1048576
  constsO : ∀ f ∈ a.2.1, f.2.all constOk = true
  lenO : a.2.1.length ≤ 1048576
  totO : Go.Proofs.YtebincnejcmocaaGreat.tot a.2.1 ≤ 1048576
  constsF : ∀ f ∈ a.2.2, f.2.all constOk = true
  lenF : a.2.2.length ≤ 1048576
  totF : Go.Proofs.YtebincnejcmocaaGreat.tot a.2.2 ≤ 1048576
theorem freshQ_ok {ls : List LLit} {ag : List LAge} {i : Nat} (hi : i < ls.length) (hl : ag.length = ls.length) (h : SafeB ls) (ht : totL ls ≤ 1048576) (ha : ∀ a ∈ ag, AgeOk a) : ∀ q ∈ freshTo ls ag i ls.length, QOk q := fun q hq => by
  have key : ∀ j, j < ls.length → ((litD ls j).1 = 0 ∨ (litD ls j).1 = 1 ∨ (litD ls j).1 = 2 ∨ (litD ls j).1 = 3) ∧ (litD ls j).2.2.all termOk = true ∧ (litD ls j).2.2.length ≤ 1048576 ∧ AgeOk (ageD ag j) := fun j hj => by
    have hk := h.kind _ (litD_mem hj)
    refine ⟨by omega, h.terms _ (litD_mem hj), ?_, by rw [ageD_lt (by omega)]; exact ha _ (List.getElem_mem _)⟩
    rw [litD_lt hj]
    exact Nat.le_trans (len_le_totL ls j hj) ht
  rcases freshTo_mem.1 hq with rfl | ⟨j, hj, e, rfl⟩
  · obtain ⟨k1, k2, k3, k4⟩ := key i hi
    exact ⟨k1, k2, k4.constsF, k3, k4.lenF, k4.totF⟩
  · obtain ⟨k1, k2, k3, k4⟩ := key j hj
    unfold qAt
    by_cases e2 : j < i ∧ (litD ls j).1 = 0
    · rw [if_pos e2]
      exact ⟨k1, k2, k4.constsO, k3, k4.lenO, k4.totO⟩
    · rw [if_neg e2]
      exact ⟨k1, k2, k4.consts, k3, k4.len, k4.tot⟩

/-- The new solutions, body by body. -/
def FreshSol (ls : List LLit) (ag : List LAge) (b : List Int) : Prop := bindOk b = true ∧ DomL ls b ∧ ∃ i, i < ls.length ∧ (litD ls i).1 = 0 ∧ FreshAt ls ag i b
/-- .. up to the literal k. -/
def FreshSolTo (ls : List LLit) (ag : List LAge) (k : Nat) (b : List Int) : Prop := bindOk b = true ∧ DomL ls b ∧ ∃ i, i < k ∧ (litD ls i).1 = 0 ∧ FreshAt ls ag i b
theorem fresh_all {ls : List LLit} {ag : List LAge} {b : List Int} (h : SafeB ls) (ha : ∀ j, j < ls.length → ∀ f, f ∈ (ageD ag j).1 ↔ f ∈ (ageD ag j).2.1 ∨ f ∈ (ageD ag j).2.2) :
    FreshSol ls ag b ↔ bindOk b = true ∧ DomL ls b ∧ (∀ j, j < ls.length → litHolds (ageD ag j).1 (litD ls j) b = true) ∧ ∃ i, i < ls.length ∧ (litD ls i).1 = 0 ∧ litHolds (ageD ag i).2.2 (litD ls i) b = true := by
  unfold FreshSol
  refine and_congr_right fun _ => and_congr_right fun _ => ?_
  constructor
  · rintro ⟨i, hi, h0, h1, h2⟩
    refine ⟨fun j hj => ?_, i, hi, h0, h1⟩
    by_cases e : j = i
    · subst e
      rw [hold_yes h0] at h1 ⊢
      exact ⟨h1.1, (ha j hj _).2 (.inr h1.2)⟩
    · have h3 := h2 j hj e
      unfold qAt at h3
      by_cases e2 : j < i ∧ (litD ls j).1 = 0
      · rw [if_pos e2, hold_yes e2.2] at h3
        rw [hold_yes e2.2]
        exact ⟨h3.1, (ha j hj _).2 (.inl h3.2)⟩
      · rw [if_neg e2] at h3
        exact h3
  · rintro ⟨hall, hex⟩
    -- the least one
    have least : ∀ n, (∃ i, i < n ∧ i < ls.length ∧ (litD ls i).1 = 0 ∧ litHolds (ageD ag i).2.2 (litD ls i) b = true) → ∃ i, i < ls.length ∧ (litD ls i).1 = 0 ∧ litHolds (ageD ag i).2.2 (litD ls i) b = true ∧ ∀ j, j < i → (litD ls j).1 = 0 → litHolds (ageD ag j).2.2 (litD ls j) b = false := by
      intro n
      induction n with
      | zero => rintro ⟨i, hi, _⟩; omega
      | succ n ih =>
        rintro ⟨i, hi, h1, h2, h3⟩
        by_cases hl : ∃ j, j < i ∧ (litD ls j).1 = 0 ∧ litHolds (ageD ag j).2.2 (litD ls j) b = true
        · obtain ⟨j, hj, h4, h5⟩ := hl
          exact ih ⟨j, by omega, by omega, h4, h5⟩
        · refine ⟨i, h1, h2, h3, fun j hj h4 => ?_⟩
          cases h5 : litHolds (ageD ag j).2.2 (litD ls j) b
          · rfl
          · exact absurd ⟨j, hj, h4, h5⟩ hl
    obtain ⟨i0, g1, g2, g3⟩ := hex
    obtain ⟨i, hi, h0, h1, hmin⟩ := least (i0 + 1) ⟨i0, Nat.lt_succ_self _, g1, g2, g3⟩
    refine ⟨i, hi, h0, h1, fun j hj e => ?_⟩
    unfold qAt
    by_cases e2 : j < i ∧ (litD ls j).1 = 0
    · rw [if_pos e2]
      have h4 := hall j hj
      have h5 := hmin j e2.1 e2.2
      rw [hold_yes e2.2] at h4
      show litHolds _ (litD ls j) b = true
      rw [hold_yes e2.2]
      refine ⟨h4.1, ?_⟩
      rcases (ha j hj _).1 h4.2 with h6 | h6
      · exact h6
      · rw [(hold_yes e2.2).2 ⟨h4.1, h6⟩] at h5
        cases h5
    · rw [if_neg e2]
      exact hall j hj
theorem fresh_apart {ls : List LLit} {ag : List LAge} {b : List Int} {i j : Nat} (hi : i < ls.length) (hij : i < j) (h0 : (litD ls i).1 = 0) (hd : ∀ f, f ∈ (ageD ag i).2.1 → f ∉ (ageD ag i).2.2) (h1 : FreshAt ls ag i b) (h2 : FreshAt ls ag j b) : False := by
  have h3 := h2.2 i hi (by omega)
  unfold qAt at h3
  rw [if_pos ⟨hij, h0⟩, hold_yes h0] at h3
  have h4 := (hold_yes h0).1 h1.1
  exact hd _ h3.2 h4.2

/-- The ages of what has grown. -/
def ageOf (L : List LFact) (o e : Nat) (p : Int) : LAge := (ofP (L.take e) p, ofP (L.take o) p, (ofP (L.take e) p).drop (ofP (L.take o) p).length)
def agesOf (L : List LFact) (o e : Nat) (ls : List LLit) : List LAge := ls.map fun l => ageOf L o e l.2.1
theorem agesOf_at {L : List LFact} {o e j : Nat} {ls : List LLit} (h : j < ls.length) : ageD (agesOf L o e ls) j = ageOf L o e (litD ls j).2.1 := by
  rw [ageD_lt (by simpa [agesOf] using h), litD_lt h]
  simp [agesOf]
theorem ageOf_split {L : List LFact} {o e : Nat} (h : o ≤ e) (p : Int) : (ageOf L o e p).1 = (ageOf L o e p).2.1 ++ (ageOf L o e p).2.2 := by
  unfold ageOf
  have h1 := congrArg (fun x => ofP x p) (take_mid (L := L) h)
  simp only [ofP_append] at h1
  show ofP (L.take e) p = ofP (L.take o) p ++ (ofP (L.take e) p).drop (ofP (L.take o) p).length
  rw [h1, List.drop_left']
  rfl
theorem solOf_mono_neg {L : List LFact} {o e : Nat} (h : o ≤ e) {f : LFact} (hf : f ∈ L.take o) : f ∈ L.take e := by
  rw [take_mid h]
  exact List.mem_append_left _ hf
/-- A solution uses a new fact, or was one before. -/
theorem fresh_or_old {L : List LFact} {o e : Nat} (h : o ≤ e) {ls : List LLit} (hs : SafeB ls) {b : List Int} : (SolOf (L.take e) ls b → FreshSol ls (agesOf L o e ls) b ∨ SolOf (L.take o) ls b) ∧ (FreshSol ls (agesOf L o e ls) b → SolOf (L.take e) ls b) := by
  have hspl : ∀ j, j < ls.length → ∀ f, f ∈ (ageD (agesOf L o e ls) j).1 ↔ f ∈ (ageD (agesOf L o e ls) j).2.1 ∨ f ∈ (ageD (agesOf L o e ls) j).2.2 := fun j hj f => by
    rw [agesOf_at hj, ageOf_split h, List.mem_append]
  rw [fresh_all hs hspl]
  have hat : ∀ j, j < ls.length → litHolds (ageD (agesOf L o e ls) j).1 (litD ls j) b = litHolds (L.take e) (litD ls j) b := fun j hj => by
    rw [agesOf_at hj]
    exact hold_ofP
  constructor
  · rintro ⟨h1, h2, h3⟩
    by_cases hex : ∃ i, i < ls.length ∧ (litD ls i).1 = 0 ∧ litHolds (ageD (agesOf L o e ls) i).2.2 (litD ls i) b = true
    · exact .inl ⟨h1, h2, fun j hj => by rw [hat j hj]; exact h3 _ (litD_mem hj), hex⟩
    · refine .inr ⟨h1, h2, fun l hl => ?_⟩
      obtain ⟨j, hj, rfl⟩ := List.getElem_of_mem hl
      rw [← litD_lt hj]
      have h4 := h3 _ (litD_mem hj)
      have hk := hs.kind _ (litD_mem hj)
      rcases (by omega : (litD ls j).1 = 0 ∨ (litD ls j).1 = 1 ∨ ((litD ls j).1 = 2 ∨ (litD ls j).1 = 3)) with e0 | e0 | e0
      · rw [hold_yes e0] at h4 ⊢
        refine ⟨h4.1, ?_⟩
        have h5 : headOf (litD ls j).2 b ∈ (ageOf L o e (litD ls j).2.1).1 := ofP_mem.2 ⟨h4.2, head_pred h4.1⟩
        rw [ageOf_split h] at h5
        rcases List.mem_append.1 h5 with h6 | h6
        · exact (ofP_mem.1 h6).1
        · exact absurd ⟨j, hj, e0, by rw [agesOf_at hj, hold_yes e0]; exact ⟨h4.1, h6⟩⟩ hex
      · rw [hold_no e0] at h4 ⊢
        exact ⟨h4.1, fun hc => h4.2 (solOf_mono_neg h hc)⟩
      · rw [hold_cmp (gs := L.take e) e0]
        exact h4
  · rintro ⟨h1, h2, h3, _⟩
    refine ⟨h1, h2, fun l hl => ?_⟩
    obtain ⟨j, hj, rfl⟩ := List.getElem_of_mem hl
    rw [← litD_lt hj, ← hat j hj]
    exact h3 j hj

/-- The head of a rule, for a solution. -/
def hdOf' (r : LRule) (b : List Int) : LFact := (r.1.1, r.1.2.map (termVal b))
theorem headsL_sol {ar : List Int} {r : LRule} {fs : List LFact} (h : ruleFits ar r = true) (hc : ∀ f ∈ fs, f.2.all constOk = true) (hn : fs.Nodup) (f : LFact) : f ∈ headsL r fs ↔ ∃ b, SolOf fs r.2 b ∧ f = hdOf' r b := by
  obtain ⟨_, h2⟩ := solsOf_is (fs := fs) (gs := fs) (SafeB.of (fits_body h)) hc hn (fun _ => Iff.rfl)
  rw [headsL_mem h h2 hc hn]
  have h3 := (isSols_iff.1 h2).2
  constructor
  · rintro ⟨b, hb, e⟩; exact ⟨b, (h3 b).1 hb, e⟩
  · rintro ⟨b, hb, e⟩; exact ⟨b, (h3 b).2 hb, e⟩
theorem headsAll_sol {ar : List Int} {rs : List LRule} {fs : List LFact} (h : ∀ r ∈ rs, ruleFits ar r = true) (hc : ∀ f ∈ fs, f.2.all constOk = true) (hn : fs.Nodup) (f : LFact) : f ∈ headsAll rs fs ↔ ∃ r ∈ rs, ∃ b, SolOf fs r.2 b ∧ f = hdOf' r b := by
  unfold headsAll
  rw [setOf_mem, List.mem_flatMap]
  constructor
  · rintro ⟨r, hr, hf⟩; exact ⟨r, hr, (headsL_sol (h r hr) hc hn f).1 hf⟩
  · rintro ⟨r, hr, hf⟩; exact ⟨r, hr, (headsL_sol (h r hr) hc hn f).2 hf⟩
theorem solOf_same {fs gs : List LFact} (h : ∀ f, f ∈ fs ↔ f ∈ gs) (ls : List LLit) (b : List Int) : SolOf fs ls b ↔ SolOf gs ls b := by
  unfold SolOf
  refine and_congr_right fun _ => and_congr_right fun _ => forall_congr' fun l => forall_congr' fun _ => ?_
  rw [litHolds_same h]

theorem nodup_sub {α : Type} [DecidableEq α] : ∀ {l m : List α}, l.Nodup → (∀ x ∈ l, x ∈ m) → l.length ≤ m.length
  | [], _, _, _ => Nat.zero_le _
  | x :: l, m, hn, hs => by
    rw [List.nodup_cons] at hn
    have h1 := nodup_sub (m := m.erase x) hn.2 fun y hy => (List.mem_erase_of_ne (show y ≠ x from fun e => by subst e; exact hn.1 hy)).2 (hs y (List.mem_cons_of_mem _ hy))
    have hx := hs x List.mem_cons_self
    rw [List.length_erase_of_mem hx] at h1
    have := List.length_pos_of_mem hx
    simp only [List.length_cons]
    omega
theorem setOf_len {L : List LFact} (h : L.Nodup) : (setOf L).length = L.length :=
  Nat.le_antisymm (nodup_sub (asc_nodup (setOf_asc L)) fun x hx => (setOf_mem L x).1 hx) (nodup_sub h fun x hx => (setOf_mem L x).2 hx)

/-- A list grows by what it has not yet. -/
def Brings (L : List LFact) (X : LFact → Prop) (L' : List LFact) : Prop := (∃ N, L' = L ++ N) ∧ L'.Nodup ∧ ∀ f, f ∈ L' ↔ f ∈ L ∨ X f
theorem Brings.refl {L : List LFact} (h : L.Nodup) {X : LFact → Prop} (hX : ∀ f, X f → f ∈ L) : Brings L X L := ⟨⟨[], by simp⟩, h, fun f => ⟨.inl, fun h => h.elim id (hX f)⟩⟩
theorem Brings.trans {L L1 L2 : List LFact} {X Y Z : LFact → Prop} (h : Brings L X L1) (h2 : Brings L1 Y L2) (hZ : ∀ f, Z f ↔ X f ∨ Y f) : Brings L Z L2 := by
  obtain ⟨⟨N, e⟩, _, m1⟩ := h
  obtain ⟨⟨N2, e2⟩, n2, m2⟩ := h2
  exact ⟨⟨N ++ N2, by rw [e2, e, List.append_assoc]⟩, n2, fun f => by rw [m2, m1, hZ, or_assoc]⟩
theorem Brings.step {L : List LFact} {f : LFact} (h : L.Nodup) (hf : f ∉ L) : Brings L (fun g => g = f) (L ++ [f]) :=
  ⟨⟨[f], rfl⟩, by
    rw [List.nodup_append]
    exact ⟨h, by simp, fun a ha b hb e => hf (by rw [List.mem_singleton.1 hb] at e; exact e ▸ ha)⟩, fun g => by simp⟩

def stepL (rs : List LRule) (F : List LFact) : List LFact := setOf (F ++ headsAll rs F)
def iterL (rs : List LRule) (F : List LFact) : Nat → List LFact
  | 0 => F
  | n + 1 => stepL rs (iterL rs F n)
/-- m rounds bring more facts, and the next one none. -/
def RoundsM (rs : List LRule) (F : List LFact) (m : Nat) : Prop := (∀ k, k < m → (iterL rs F (k + 1)).length ≠ (iterL rs F k).length) ∧ (iterL rs F (m + 1)).length = (iterL rs F m).length
theorem RoundsM.unique {rs : List LRule} {F : List LFact} {m n : Nat} (h : RoundsM rs F m) (h2 : RoundsM rs F n) : m = n := by
  rcases Nat.lt_trichotomy m n with h3 | h3 | h3
  · exact absurd h.2 (h2.1 m h3)
  · exact h3
  · exact absurd h2.2 (h.1 n h3)
theorem iter_succ (rs : List LRule) (F : List LFact) : ∀ n, iterL rs F (n + 1) = iterL rs (stepL rs F) n
  | 0 => rfl
  | n + 1 => by
    show stepL rs (iterL rs F (n + 1)) = stepL rs (iterL rs (stepL rs F) n)
    rw [iter_succ rs F n]

/-- Facts that fit, each once. -/
structure FitL (ar : List Int) (L : List LFact) : Prop where
  nodup : L.Nodup
  fits : ∀ f ∈ L, factFits ar f = true
theorem FitL.take {ar : List Int} {L : List LFact} (h : FitL ar L) (n : Nat) : FitL ar (L.take n) := ⟨List.Nodup.sublist (List.take_sublist _ _) h.nodup, fun f hf => h.fits f (List.mem_of_mem_take hf)⟩
theorem FitL.consts {ar : List Int} {L : List LFact} (h : FitL ar L) : ∀ f ∈ L, f.2.all constOk = true := fun f hf => (fits_parts (h.fits f hf)).2
theorem FitL.set {ar : List Int} {L : List LFact} (h : ∀ f ∈ L, factFits ar f = true) : FitL ar (setOf L) := ⟨asc_nodup (setOf_asc L), fun f hf => h f ((setOf_mem L f).1 hf)⟩
theorem stepL_fit {ar : List Int} {rs : List LRule} {F : List LFact} (h : ∀ r ∈ rs, ruleFits ar r = true) (hF : FitL ar F) : FitL ar (stepL rs F) :=
  FitL.set fun f hf => by
    rcases List.mem_append.1 hf with h1 | h1
    · exact hF.fits f h1
    · exact headsAll_fits F h f h1
theorem iterL_fit {ar : List Int} {rs : List LRule} {F : List LFact} (h : ∀ r ∈ rs, ruleFits ar r = true) (hF : FitL ar F) : ∀ n, FitL ar (iterL rs F n)
  | 0 => hF
  | n + 1 => stepL_fit h (iterL_fit h hF n)
/-- The same facts have the same heads. -/
theorem headsAll_same {ar : List Int} {rs : List LRule} {F G : List LFact} (h : ∀ r ∈ rs, ruleFits ar r = true) (hF : FitL ar F) (hG : FitL ar G) (e : ∀ f, f ∈ F ↔ f ∈ G) (f : LFact) : f ∈ headsAll rs F ↔ f ∈ headsAll rs G := by
  rw [headsAll_sol h hF.consts hF.nodup, headsAll_sol h hG.consts hG.nodup]
  constructor
  · rintro ⟨r, hr, b, hb, e2⟩; exact ⟨r, hr, b, (solOf_same e _ _).1 hb, e2⟩
  · rintro ⟨r, hr, b, hb, e2⟩; exact ⟨r, hr, b, (solOf_same e _ _).2 hb, e2⟩
theorem stepL_mem {rs : List LRule} {F : List LFact} (f : LFact) : f ∈ stepL rs F ↔ f ∈ F ∨ f ∈ headsAll rs F := by unfold stepL; rw [setOf_mem, List.mem_append]

/-- A round over what is new brings all that the rules say. -/
theorem round_brings {ar : List Int} {rs : List LRule} {L L' : List LFact} {o e : Nat} (h : ∀ r ∈ rs, ruleFits ar r = true) (hL : FitL ar L) (ho : o ≤ e) (he : e = L.length) (hb : ∀ f, f ∈ headsAll rs (L.take o) → f ∈ L)
    (hB : Brings L (fun f => ∃ r ∈ rs, ∃ b, FreshSol r.2 (agesOf L o e r.2) b ∧ f = hdOf' r b) L') : ∀ f, f ∈ L' ↔ f ∈ L ∨ f ∈ headsAll rs L := by
  intro f
  have hte : L.take e = L := by rw [he, List.take_length]
  rw [hB.2.2 f, headsAll_sol h hL.consts hL.nodup]
  constructor
  · rintro (h1 | ⟨r, hr, b, hb, e2⟩)
    · exact .inl h1
    · refine .inr ⟨r, hr, b, ?_, e2⟩
      have := (fresh_or_old (L := L) ho (SafeB.of (fits_body (h r hr))) (b := b)).2 hb
      rw [hte] at this
      exact this
  · rintro (h1 | ⟨r, hr, b, h2, e2⟩)
    · exact .inl h1
    · rw [← hte] at h2
      rcases (fresh_or_old (L := L) ho (SafeB.of (fits_body (h r hr))) (b := b)).1 h2 with h3 | h3
      · exact .inr ⟨r, hr, b, h3, e2⟩
      · exact .inl (hb f ((headsAll_sol h (hL.take o).consts (hL.take o).nodup f).2 ⟨r, hr, b, h3, e2⟩))

theorem brings_pre {L L' : List LFact} {X : LFact → Prop} (h : Brings L X L') : L'.take L.length = L ∧ L.length ≤ L'.length := by
  obtain ⟨⟨N, e⟩, _⟩ := h
  subst e
  simp
theorem lastD_snoc (E : List Nat) (x : Nat) : (E ++ [x]).getLastD 0 = x := by simp
/-- Within growOn: j rounds have been ended. -/
structure OnInv (ar : List Int) (rs : List LRule) (L0 : List LFact) (E0 : List Nat) (L : List LFact) (E : List Nat) (e j : Nat) : Prop where
  fit : FitL ar L
  pre : ∃ N, L = L0 ++ N
  ends : ∃ M, E = E0 ++ M ∧ M.length = j ∧ ∀ k, k < j → M.getD k 0 ≤ L.length ∧ ∀ f, f ∈ L.take (M.getD k 0) ↔ f ∈ iterL rs (setOf L0) k
  last : E.getLastD 0 = e
  le : e ≤ L.length
  heads : ∀ f, f ∈ headsAll rs (L.take e) → f ∈ L
  now : ∀ f, f ∈ L ↔ f ∈ iterL rs (setOf L0) j
  grow : ∀ k, k + 1 < j → (iterL rs (setOf L0) (k + 1)).length ≠ (iterL rs (setOf L0) k).length
  zero : j = 0 → L = L0
  up : E.Pairwise (· < ·)
  ub : ∀ x ∈ E, x ≤ e
  first : 0 < j → E0.getLastD 0 < L0.length
  lst : 0 < j → (iterL rs (setOf L0) (j - 1)).length = e
theorem OnInv.start {ar : List Int} {rs : List LRule} {L : List LFact} {E : List Nat} {e : Nat} (hL : FitL ar L) (he : E.getLastD 0 = e) (hl : e ≤ L.length) (hh : ∀ f, f ∈ headsAll rs (L.take e) → f ∈ L) (hu : E.Pairwise (· < ·)) (hb : ∀ x ∈ E, x ≤ e) : OnInv ar rs L E L E e 0 :=
  ⟨hL, ⟨[], by simp⟩, ⟨[], by simp, rfl, fun k hk => absurd hk (by omega)⟩, he, hl, hh, fun f => (setOf_mem L f).symm, fun k hk => absurd hk (by omega), fun _ => rfl, hu, hb, fun h => absurd h (by omega), fun h => absurd h (by omega)⟩
theorem set_len {ar : List Int} {F G : List LFact} (hF : FitL ar F) (hG : FitL ar G) (h : ∀ f, f ∈ F ↔ f ∈ G) : F.length = G.length :=
  Nat.le_antisymm (nodup_sub hF.nodup fun x hx => (h x).1 hx) (nodup_sub hG.nodup fun x hx => (h x).2 hx)
theorem OnInv.step {ar : List Int} {rs : List LRule} {L0 L L' : List LFact} {E0 E : List Nat} {e j : Nat} (hr : ∀ r ∈ rs, ruleFits ar r = true) (h0 : FitL ar L0) (h : OnInv ar rs L0 E0 L E e j) (hlt : e < L.length)
    (hf : FitL ar L') (hB : Brings L (fun f => ∃ r ∈ rs, ∃ b, FreshSol r.2 (agesOf L e L.length r.2) b ∧ f = hdOf' r b) L') : OnInv ar rs L0 E0 L' (E ++ [L.length]) L.length (j + 1) := by
  obtain ⟨hp, hpl⟩ := brings_pre hB
  have hm := round_brings hr h.fit h.le rfl h.heads hB
  have hS : FitL ar (setOf L0) := FitL.set h0.fits
  have hi := iterL_fit hr hS
  have hlen : (iterL rs (setOf L0) j).length = L.length := (set_len h.fit (hi j) h.now).symm
  refine ⟨hf, ?_, ?_, lastD_snoc _ _, hpl, ?_, ?_, ?_, fun e => absurd e (by omega), ?_, ?_, fun _ => ?_, fun _ => by simpa using hlen⟩
  · obtain ⟨N, e1⟩ := h.pre
    obtain ⟨N2, e2⟩ := hB.1
    exact ⟨N ++ N2, by rw [e2, e1, List.append_assoc]⟩
  · obtain ⟨M, e1, e2, e3⟩ := h.ends
    refine ⟨M ++ [L.length], by rw [e1, List.append_assoc], by simp [e2], fun k hk => ?_⟩
    by_cases hkj : k < j
    · obtain ⟨g1, g2⟩ := e3 k hkj
      have e4 : (M ++ [L.length]).getD k 0 = M.getD k 0 := by
        simp only [List.getD_eq_getElem?_getD]
        rw [List.getElem?_append_left (by omega)]
      rw [e4]
      refine ⟨by omega, fun f => ?_⟩
      rw [← g2 f]
      obtain ⟨N2, e5⟩ := hB.1
      rw [e5, List.take_append_of_le_length g1]
    · have e4 : (M ++ [L.length]).getD k 0 = L.length := by
        have : k = M.length := by omega
        subst this
        simp
      rw [e4]
      refine ⟨hpl, fun f => ?_⟩
      rw [hp, show k = j by omega]
      exact h.now f
  · intro f hfh
    rw [hp] at hfh
    exact (hm f).2 (.inr hfh)
  · intro f
    rw [hm f]
    show _ ↔ f ∈ stepL rs (iterL rs (setOf L0) j)
    rw [stepL_mem, h.now f, headsAll_same hr h.fit (hi j) h.now]
  · intro k hk
    by_cases e1 : k + 1 < j
    · exact h.grow k e1
    · have e2 : k + 1 = j := by omega
      have h3 := h.lst (by omega)
      rw [e2, hlen, show k = j - 1 by omega, h3]
      omega
  · rw [List.pairwise_append]
    exact ⟨h.up, by simp, fun a ha b hb => by
      have := h.ub a ha
      rw [List.mem_singleton.1 hb]
      omega⟩
  · intro x hx
    rcases List.mem_append.1 hx with h1 | h1
    · have := h.ub x h1
      omega
    · rw [List.mem_singleton.1 h1]
      exact Nat.le_refl _
  · by_cases e1 : 0 < j
    · exact h.first e1
    · have e2 : j = 0 := by omega
      subst e2
      obtain ⟨M, e3, e4, _⟩ := h.ends
      have e5 : M = [] := List.eq_nil_of_length_eq_zero e4
      subst e5
      rw [List.append_nil] at e3
      rw [← e3, h.last, ← h.zero rfl]
      exact hlt

/-- What growOn has done. -/
structure GrewOn (ar : List Int) (rs : List LRule) (L0 : List LFact) (E0 : List Nat) (L : List LFact) (E : List Nat) (m : Nat) : Prop where
  fit : FitL ar L
  pre : ∃ N, L = L0 ++ N
  rounds : RoundsM rs (setOf L0) m
  now : ∀ f, f ∈ L ↔ f ∈ iterL rs (setOf L0) m
  last : E.getLastD 0 = L.length
  up : E.Pairwise (· < ·)
  ub : ∀ x ∈ E, x ≤ L.length
  ends : (m = 0 ∧ E = E0 ∧ L = L0) ∨ (E0.getLastD 0 < L0.length ∧ ∃ M, E = E0 ++ M ∧ M.length = m + 1 ∧ ∀ k, k ≤ m → M.getD k 0 ≤ L.length ∧ ∀ f, f ∈ L.take (M.getD k 0) ↔ f ∈ iterL rs (setOf L0) k)
theorem OnInv.done {ar : List Int} {rs : List LRule} {L0 L : List LFact} {E0 E : List Nat} {e j : Nat} (hr : ∀ r ∈ rs, ruleFits ar r = true) (h0 : FitL ar L0) (h : OnInv ar rs L0 E0 L E e j) (hge : e = L.length) : ∃ m, GrewOn ar rs L0 E0 L E m := by
  have hS : FitL ar (setOf L0) := FitL.set h0.fits
  have hi := iterL_fit hr hS
  have hlen : (iterL rs (setOf L0) j).length = L.length := (set_len h.fit (hi j) h.now).symm
  have hte : L.take e = L := by rw [hge, List.take_length]
  obtain ⟨M, e1, e2, e3⟩ := h.ends
  by_cases hj : j = 0
  · subst hj
    have hz := h.zero rfl
    subst hz
    have hM : M = [] := List.eq_nil_of_length_eq_zero e2
    subst hM
    rw [List.append_nil] at e1
    subst e1
    refine ⟨0, h.fit, ⟨[], by simp⟩, ⟨fun k hk => absurd hk (by omega), ?_⟩, h.now, by rw [h.last, hge], h.up, fun x hx => by have := h.ub x hx; omega, .inl ⟨rfl, rfl, rfl⟩⟩
    refine set_len (hi 1) (hi 0) fun f => ?_
    show f ∈ stepL rs (setOf L) ↔ f ∈ setOf L
    rw [stepL_mem]
    refine ⟨fun h1 => h1.elim id fun h2 => ?_, .inl⟩
    have := h.heads f
    rw [hte] at this
    exact (setOf_mem L f).2 (this ((headsAll_same hr hS h.fit (setOf_mem L) f).1 h2))
  · have hl := h.lst (by omega)
    refine ⟨j - 1, h.fit, h.pre, ⟨fun k hk => h.grow k (by omega), ?_⟩, fun f => ?_, by rw [h.last, hge], h.up, fun x hx => by have := h.ub x hx; omega, .inr ⟨h.first (by omega), M, e1, by omega, fun k hk => e3 k (by omega)⟩⟩
    · rw [show j - 1 + 1 = j by omega, hlen, hl, hge]
    · obtain ⟨g1, g2⟩ := e3 (j - 1) (by omega)
      have hL : E.getLastD 0 = M.getD (j - 1) 0 := by
        rw [e1]
        have hM : M ≠ [] := fun e => by rw [e] at e2; simp at e2; omega
        obtain ⟨M', x, rfl⟩ : ∃ M' x, M = M' ++ [x] := ⟨M.dropLast, M.getLast hM, (List.dropLast_concat_getLast hM).symm⟩
        rw [← List.append_assoc, lastD_snoc]
        have e5 : j - 1 = M'.length := by rw [← e2]; simp
        rw [e5]
        simp
      have := g2 f
      rw [← hL, h.last, hte] at this
      exact this

/-- What growBy has done. -/
structure GrewBy (ar : List Int) (rs : List LRule) (L0 : List LFact) (E0 : List Nat) (L : List LFact) (E : List Nat) (m : Nat) : Prop where
  fit : FitL ar L
  pre : ∃ N, L = L0 ++ N
  rounds : RoundsM rs (setOf L0) m
  now : ∀ f, f ∈ L ↔ f ∈ iterL rs (setOf L0) m
  last : E.getLastD 0 = L.length
  up : E.Pairwise (· < ·)
  ub : ∀ x ∈ E, x ≤ L.length
  ends : ∃ M, E = E0 ++ M ∧ M.length = m ∧ ∀ k, k < m → M.getD k 0 ≤ L.length ∧ ∀ f, f ∈ L.take (M.getD k 0) ↔ f ∈ iterL rs (setOf L0) (k + 1)
theorem GrewBy.of {ar : List Int} {rs : List LRule} {L0 L1 L : List LFact} {E0 E : List Nat} {m : Nat} (hr : ∀ r ∈ rs, ruleFits ar r = true) (h0 : FitL ar L0) (h1 : FitL ar L1) (hl : E0.getLastD 0 = L0.length) (hpre : ∃ N, L1 = L0 ++ N)
    (hm : ∀ f, f ∈ L1 ↔ f ∈ L0 ∨ f ∈ headsAll rs L0) (h : GrewOn ar rs L1 E0 L E m) : ∃ m', GrewBy ar rs L0 E0 L E m' := by
  have hS : FitL ar (setOf L0) := FitL.set h0.fits
  have hi := iterL_fit hr hS
  have hst : setOf L1 = stepL rs (setOf L0) := by
    refine (setOf_asc L1).unique (setOf_asc _) fun f => ?_
    rw [stepL_mem, setOf_mem, setOf_mem, hm f, headsAll_same hr hS h0 (setOf_mem L0)]
  have hit : ∀ n, iterL rs (setOf L1) n = iterL rs (setOf L0) (n + 1) := fun n => by rw [hst, iter_succ]
  obtain ⟨N1, hN1⟩ := hpre
  have hpre2 : ∃ N, L = L0 ++ N := by
    obtain ⟨N, e⟩ := h.pre
    exact ⟨N1 ++ N, by rw [e, hN1, List.append_assoc]⟩
  rcases h.ends with ⟨e1, e2, e3⟩ | ⟨e1, M, e2, e3, e4⟩
  · subst e1 e2 e3
    have hN : N1 = [] := by
      have := h.last
      rw [hl, hN1, List.length_append] at this
      exact List.eq_nil_of_length_eq_zero (by omega)
    subst hN
    rw [List.append_nil] at hN1
    subst hN1
    exact ⟨0, h.fit, ⟨[], by simp⟩, h.rounds, h.now, h.last, h.up, h.ub, [], by simp, rfl, fun k hk => absurd hk (by omega)⟩
  · refine ⟨m + 1, h.fit, hpre2, ⟨fun k hk => ?_, ?_⟩, fun f => by rw [h.now f, hit], h.last, h.up, h.ub, M, e2, e3, fun k hk => ?_⟩
    · rcases k with _ | k
      · rw [← hit 0]
        show (setOf L1).length ≠ (setOf L0).length
        rw [setOf_len h0.nodup, setOf_len h1.nodup]
        omega
      · rw [← hit, ← hit]
        exact h.rounds.1 k (by omega)
    · rw [← hit, ← hit]
      exact h.rounds.2
    · obtain ⟨g1, g2⟩ := e4 k (by omega)
      exact ⟨g1, fun f => by rw [g2 f, hit]⟩

/-- How many rounds bring more. -/
def firstM (rs : List LRule) (F : List LFact) : Nat → Nat → Nat
  | 0, k => k
  | n + 1, k => if (iterL rs F (k + 1)).length = (iterL rs F k).length then k else firstM rs F n (k + 1)
theorem firstM_is {rs : List LRule} {F : List LFact} {m : Nat} (h : RoundsM rs F m) : ∀ n k, k ≤ m → m ≤ k + n → firstM rs F n k = m
  | 0, k, h1, h2 => by show k = m; omega
  | n + 1, k, h1, h2 => by
    show (if _ then _ else _) = m
    by_cases e : k = m
    · subst e
      rw [if_pos h.2]
    · rw [if_neg (h.1 k (by omega))]
      exact firstM_is h n (k + 1) (by omega) (by omega)
theorem iter_len_mono {rs : List LRule} {F : List LFact} {m : Nat} (h : ∀ k, k < m → (iterL rs F (k + 1)).length ≠ (iterL rs F k).length) (hF : F.Nodup) (hn : ∀ k, (iterL rs F k).Nodup) : ∀ k, k ≤ m → k ≤ (iterL rs F k).length
  | 0, _ => Nat.zero_le _
  | k + 1, hk => by
    have ih := iter_len_mono h hF hn k (by omega)
    have h1 := h k (by omega)
    have h2 := nodup_sub (hn k) (m := iterL rs F (k + 1)) fun f hf => (stepL_mem f).2 (.inl hf)
    omega
theorem RoundsM.few {ar : List Int} {rs : List LRule} {F : List LFact} {m : Nat} (har : arityOk ar = true) (hr : ∀ r ∈ rs, ruleFits ar r = true) (hF : FitL ar F) (h : RoundsM rs F m) : m ≤ 1536 := by
  have hi := iterL_fit hr hF
  have h1 := iter_len_mono h.1 hF.nodup (fun k => (hi k).nodup) m (Nat.le_refl _)
  have h2 := (facts_few har (hi m).nodup (hi m).fits).1
  omega
def roundsM (rs : List LRule) (F : List LFact) : Nat := firstM rs F 2000 0
theorem roundsM_is {ar : List Int} {rs : List LRule} {F : List LFact} {m : Nat} (har : arityOk ar = true) (hr : ∀ r ∈ rs, ruleFits ar r = true) (hF : FitL ar F) (h : RoundsM rs F m) : roundsM rs F = m :=
  firstM_is h 2000 0 (Nat.zero_le _) (by have := h.few har hr hF; omega)
/-- The facts behind each round. -/
def roundsFrom (rs : List LRule) (F : List LFact) : List (List LFact) := (List.range (roundsM rs F + 1)).map (iterL rs F)
def leastFrom (rs : List LRule) (F : List LFact) : List LFact := iterL rs F (roundsM rs F)

end Go.Proofs.YtebincnejcmocaaGreat
/-
  The solutions that use a new fact: plain mathematics. No walk.
-/
namespace Go.Proofs.YtebincnejcmocaaGreat
open Go.RowKit

/-- A solution uses a new fact. -/
def usesF (fr : List LFact) (ls : List LLit) (b : List Int) : Bool := ls.any fun l => decide (l.1 = 0) && (headOk l.2 b && factsHas fr (headOf l.2 b))
def freshL (fs fr : List LFact) (ls : List LLit) : List (List Int) := if bodySafe ls && (constsL fs && constsL fr) then (solsOf (setOf (fs ++ fr)) ls).filter (usesF fr ls) else []
/-- What is asked of each literal. -/
def agesL (fs fr : List LFact) (n : Nat) : List LAge := List.replicate n (fs ++ fr, pickL fs fr false, fr)
theorem agesL_at {fs fr : List LFact} {n j : Nat} (h : j < n) : ageD (agesL fs fr n) j = (fs ++ fr, pickL fs fr false, fr) := by simp [ageD, agesL, List.getD_eq_getElem?_getD, h]
theorem pickF_in (a b : List LFact) (f : LFact) : f ∈ pickL a b false ↔ f ∈ a ∧ f ∉ b := by
  unfold pickL
  rw [setOf_mem, List.mem_filter, factsHas_in]
  simp
theorem usesF_iff {fr : List LFact} {ls : List LLit} {b : List Int} : usesF fr ls b = true ↔ ∃ i, i < ls.length ∧ (litD ls i).1 = 0 ∧ litHolds fr (litD ls i) b = true := by
  unfold usesF
  rw [List.any_eq_true]
  constructor
  · rintro ⟨l, hl, h⟩
    obtain ⟨i, hi, rfl⟩ := List.getElem_of_mem hl
    simp only [Bool.and_eq_true, decide_eq_true_eq] at h
    refine ⟨i, hi, by rw [litD_lt hi]; exact h.1, ?_⟩
    rw [litD_lt hi, hold_yes h.1]
    have h2 := h.2.2
    rw [factsHas_in] at h2
    exact ⟨h.2.1, by simpa using h2⟩
  · rintro ⟨i, hi, h0, h1⟩
    refine ⟨ls[i], List.getElem_mem hi, ?_⟩
    rw [litD_lt hi] at h0 h1
    rw [hold_yes h0] at h1
    simp only [Bool.and_eq_true, decide_eq_true_eq]
    exact ⟨h0, h1.1, by rw [factsHas_in]; simpa using h1.2⟩
theorem consts_append {fs fr : List LFact} (h : constsL fs = true) (h2 : constsL fr = true) : ∀ f ∈ fs ++ fr, f.2.all constOk = true := fun f hf => by
  rcases List.mem_append.1 hf with hf | hf
  · exact consts_of h f hf
  · exact consts_of h2 f hf
theorem freshL_all {fs fr : List LFact} {ls : List LLit} (h : bodySafe ls = true) (hc : constsL fs = true) (hc2 : constsL fr = true) : UpB (solsOf (setOf (fs ++ fr)) ls) ∧ IsSols (questL (fs ++ fr) ls) (solsOf (setOf (fs ++ fr)) ls) :=
  solsOf_is (SafeB.of h) (fun f hf => consts_append hc hc2 f ((setOf_mem _ f).1 hf)) (asc_nodup (setOf_asc _)) (setOf_mem _)
theorem freshL_yes {fs fr : List LFact} {ls : List LLit} (h : bodySafe ls = true) (hc : constsL fs = true) (hc2 : constsL fr = true) : freshL fs fr ls = (solsOf (setOf (fs ++ fr)) ls).filter (usesF fr ls) := by
  unfold freshL
  rw [h, hc, hc2]
  rfl
theorem freshL_is {fs fr : List LFact} {ls : List LLit} (h : bodySafe ls = true) (hc : constsL fs = true) (hc2 : constsL fr = true) {S : List (List Int)} (hu : UpB S) (hs : ∀ b, b ∈ S ↔ FreshSol ls (agesL fs fr ls.length) b) : S = freshL fs fr ls := by
  rw [freshL_yes h hc hc2]
  obtain ⟨h1, h2⟩ := freshL_all h hc hc2
  refine hu.unique (List.Pairwise.filter _ h1) fun b => ?_
  rw [hs b, List.mem_filter, (isSols_iff.1 h2).2 b]
  rw [fresh_all (SafeB.of h) fun j hj f => by
    rw [agesL_at hj]
    show f ∈ fs ++ fr ↔ f ∈ pickL fs fr false ∨ f ∈ fr
    rw [List.mem_append, pickF_in]
    constructor
    · rintro (h3 | h3)
      · by_cases h4 : f ∈ fr
        · exact .inr h4
        · exact .inl ⟨h3, h4⟩
      · exact .inr h3
    · rintro (h3 | h3)
      · exact .inl h3.1
      · exact .inr h3]
  rw [usesF_iff]
  unfold SolOf
  constructor
  · rintro ⟨a1, a2, a3, i, hi, a4, a5⟩
    refine ⟨⟨a1, a2, fun l hl => ?_⟩, i, hi, a4, ?_⟩
    · obtain ⟨j, hj, rfl⟩ := List.getElem_of_mem hl
      have := a3 j hj
      rw [agesL_at hj, litD_lt hj] at this
      exact this
    · rw [agesL_at hi] at a5
      exact a5
  · rintro ⟨⟨a1, a2, a3⟩, i, hi, a4, a5⟩
    refine ⟨a1, a2, fun j hj => ?_, i, hi, a4, ?_⟩
    · rw [agesL_at hj]
      exact a3 _ (litD_mem hj)
    · rw [agesL_at hi]
      exact a5
theorem freshL_sz (fs fr : List LFact) (ls : List LLit) : szRows (freshL fs fr ls) ≤ 1048576 ∧ (∀ b ∈ freshL fs fr ls, bindOk b = true) ∧ (freshL fs fr ls).length ≤ 65536 := by
  unfold freshL
  split
  · rename_i h
    rw [Bool.and_eq_true, Bool.and_eq_true] at h
    obtain ⟨_, h2⟩ := freshL_all h.1 h.2.1 h.2.2
    have hl := binds_len h2.1 h2.ok
    have hf := List.length_filter_le (usesF fr ls) (solsOf (setOf (fs ++ fr)) ls)
    have hok : ∀ b ∈ (solsOf (setOf (fs ++ fr)) ls).filter (usesF fr ls), bindOk b = true := fun b hb => h2.ok b (List.mem_filter.1 hb).1
    have ht := totSS_few (n := 65536) (xss := (solsOf (setOf (fs ++ fr)) ls).filter (usesF fr ls)) (by omega) (m := 4) fun b hb => by rw [bindOk_len (hok b hb)]; exact Nat.le_refl _
    refine ⟨?_, hok, by omega⟩
    unfold szRows
    omega
  · simp [szRows, totSS]

end Go.Proofs.YtebincnejcmocaaGreat
/-
  What has grown, in memory: a block of 98 cells, and 26 rows.
-/
namespace Go.Proofs.YtebincnejcmocaaGreat
open Go.RowKit

/-- A fact with the header of its row. -/
abbrev FV := LFact × Value
def flatX (X : List FV) : List Value := X.flatMap fun x => [.int .i64 x.1.1, x.2]
theorem flatX_len (X : List FV) : (flatX X).length = X.length * 2 := by
  induction X with
  | nil => rfl
  | cons x X ih =>
    show (_ ++ flatX X).length = _
    rw [List.length_append, ih, List.length_cons, List.length_cons, List.length_cons, List.length_nil]
    omega
theorem flatX_append (X Y : List FV) : flatX (X ++ Y) = flatX X ++ flatX Y := by simp [flatX]
theorem flatX_one (f : LFact) (a : Value) : flatX [(f, a)] = [.int .i64 f.1, a] := rfl
theorem flatX_at : ∀ (X : List FV) (k : Nat) (h : k < X.length), (flatX X)[k * 2]? = some (.int .i64 X[k].1.1) ∧ (flatX X)[k * 2 + 1]? = some X[k].2
  | [], _, h => absurd h (by simp)
  | x :: X, 0, _ => by simp [flatX]
  | x :: X, k + 1, h => by
    obtain ⟨h1, h2⟩ := flatX_at X k (by simpa using h)
    have e : flatX (x :: X) = .int .i64 x.1.1 :: x.2 :: flatX X := rfl
    rw [e, show (k + 1) * 2 = k * 2 + 1 + 1 by omega, show k * 2 + 1 + 1 + 1 = (k * 2 + 1) + 1 + 1 by omega]
    simp only [List.getElem?_cons_succ, List.getElem_cons_succ]
    exact ⟨h1, h2⟩

def wdN (x : Nat) : Value := .int .u64 ((x : Nat) : Int)
def inN (x : Nat) : Value := .int .i64 ((x : Nat) : Int)
/-- The cells of the block. -/
structure GrCells (cs : Array Value) (R : Nat → Value) (T : List Nat) (O La : Nat → Nat) : Prop where
  size : cs.size = 98
  list : cs[0]? = some (R 0)
  ends : cs[1]? = some (R 1)
  tab : ∀ p, p < 24 → cs[2 + p]? = some (wdN (T.getD p 0))
  pred : ∀ p, p < 24 → cs[26 + p * 3]? = some (R (2 + p))
  old : ∀ p, p < 24 → cs[26 + p * 3 + 1]? = some (inN (O p))
  lat : ∀ p, p < 24 → cs[26 + p * 3 + 2]? = some (inN (La p))
def updF {α : Type} (F : Nat → α) (r : Nat) (v : α) : Nat → α := fun s => if s = r then v else F s
theorem updF_same {α : Type} (F : Nat → α) (r : Nat) (v : α) : updF F r v r = v := if_pos rfl
theorem updF_ne {α : Type} (F : Nat → α) {r s : Nat} (v : α) (h : s ≠ r) : updF F r v s = F s := if_neg h
section
variable {cs : Array Value} {R : Nat → Value} {T : List Nat} {O La : Nat → Nat} {i p : Nat} {u : Value}
theorem set_at_ne (h : i ≠ p) : (cs.setIfInBounds i u)[p]? = cs[p]? := by rw [Array.getElem?_setIfInBounds, if_neg h]
theorem set_at_same (h : i < cs.size) : (cs.setIfInBounds i u)[i]? = some u := by rw [Array.getElem?_setIfInBounds, if_pos rfl, if_pos h]
theorem GrCells.setList (h : GrCells cs R T O La) (u : Value) : GrCells (cs.setIfInBounds 0 u) (updF R 0 u) T O La where
  size := by simpa using h.size
  list := by rw [updF_same]; exact set_at_same (by rw [h.size]; omega)
  ends := by rw [updF_ne R u (by omega), set_at_ne (by omega)]; exact h.ends
  tab p hp := by rw [set_at_ne (by omega)]; exact h.tab p hp
  pred p hp := by rw [updF_ne R u (by omega), set_at_ne (by omega)]; exact h.pred p hp
  old p hp := by rw [set_at_ne (by omega)]; exact h.old p hp
  lat p hp := by rw [set_at_ne (by omega)]; exact h.lat p hp
theorem GrCells.setEnds (h : GrCells cs R T O La) (u : Value) : GrCells (cs.setIfInBounds 1 u) (updF R 1 u) T O La where
  size := by simpa using h.size
  list := by rw [updF_ne R u (by omega), set_at_ne (by omega)]; exact h.list
  ends := by rw [updF_same]; exact set_at_same (by rw [h.size]; omega)
  tab p hp := by rw [set_at_ne (by omega)]; exact h.tab p hp
  pred p hp := by rw [updF_ne R u (by omega), set_at_ne (by omega)]; exact h.pred p hp
  old p hp := by rw [set_at_ne (by omega)]; exact h.old p hp
  lat p hp := by rw [set_at_ne (by omega)]; exact h.lat p hp
theorem GrCells.setPred (h : GrCells cs R T O La) (hp : p < 24) (u : Value) : GrCells (cs.setIfInBounds (26 + p * 3) u) (updF R (2 + p) u) T O La where
  size := by simpa using h.size
  list := by rw [updF_ne R u (by omega), set_at_ne (by omega)]; exact h.list
  ends := by rw [updF_ne R u (by omega), set_at_ne (by omega)]; exact h.ends
  tab q hq := by rw [set_at_ne (by omega)]; exact h.tab q hq
  pred q hq := by
    by_cases e : q = p
    · subst e
      rw [updF_same]
      exact set_at_same (by rw [h.size]; omega)
    · rw [updF_ne R u (by omega), set_at_ne (by omega)]
      exact h.pred q hq
  old q hq := by rw [set_at_ne (by omega)]; exact h.old q hq
  lat q hq := by rw [set_at_ne (by omega)]; exact h.lat q hq
theorem GrCells.setTab (h : GrCells cs R T O La) (hT : T.length = 24) (hp : p < 24) (x : Nat) : GrCells (cs.setIfInBounds (2 + p) (wdN x)) R (T.set p x) O La where
  size := by simpa using h.size
  list := by rw [set_at_ne (by omega)]; exact h.list
  ends := by rw [set_at_ne (by omega)]; exact h.ends
  tab q hq := by
    by_cases e : q = p
    · subst e
      rw [set_at_same (by rw [h.size]; omega)]
      simp [hT, hq]
    · rw [set_at_ne (by omega), h.tab q hq]
      simp only [List.getD_eq_getElem?_getD]
      rw [List.getElem?_set_ne (by omega)]
  pred q hq := by rw [set_at_ne (by omega)]; exact h.pred q hq
  old q hq := by rw [set_at_ne (by omega)]; exact h.old q hq
  lat q hq := by rw [set_at_ne (by omega)]; exact h.lat q hq
theorem GrCells.setOld (h : GrCells cs R T O La) (hp : p < 24) (x : Nat) : GrCells (cs.setIfInBounds (26 + p * 3 + 1) (inN x)) R T (updF O p x) La where
  size := by simpa using h.size
  list := by rw [set_at_ne (by omega)]; exact h.list
  ends := by rw [set_at_ne (by omega)]; exact h.ends
  tab q hq := by rw [set_at_ne (by omega)]; exact h.tab q hq
  pred q hq := by rw [set_at_ne (by omega)]; exact h.pred q hq
  old q hq := by
    by_cases e : q = p
    · subst e
      rw [updF_same]
      exact set_at_same (by rw [h.size]; omega)
    · rw [updF_ne O x e, set_at_ne (by omega)]
      exact h.old q hq
  lat q hq := by rw [set_at_ne (by omega)]; exact h.lat q hq
theorem GrCells.setLat (h : GrCells cs R T O La) (hp : p < 24) (x : Nat) : GrCells (cs.setIfInBounds (26 + p * 3 + 2) (inN x)) R T O (updF La p x) where
  size := by simpa using h.size
  list := by rw [set_at_ne (by omega)]; exact h.list
  ends := by rw [set_at_ne (by omega)]; exact h.ends
  tab q hq := by rw [set_at_ne (by omega)]; exact h.tab q hq
  pred q hq := by rw [set_at_ne (by omega)]; exact h.pred q hq
  old q hq := by rw [set_at_ne (by omega)]; exact h.old q hq
  lat q hq := by
    by_cases e : q = p
    · subst e
      rw [updF_same]
      exact set_at_same (by rw [h.size]; omega)
    · rw [updF_ne La x e, set_at_ne (by omega)]
      exact h.lat q hq
end

/-- A block of one of the rows. -/
def RB (R : Nat → Value) (b : Nat) : Prop := ∃ r, r < 26 ∧ (R r).ownBlock = some b
/-- A header that reads as the fact's constants, in no block that the growth writes. -/
def ArgOk (w : World) (g : Nat) (R : Nat → Value) (x : FV) : Prop := RdInts w w.heap.size x.2 x.1.2 ∧ (0 < x.1.2.length → ∀ b, x.2.ownBlock = some b → b ≠ g ∧ ¬ RB R b)
/-- What a step of the growth keeps: all but its block and its rows; a row that moves, moves to new memory. -/
structure KeepR (g : Nat) (w : World) (R : Nat → Value) (w' : World) (R' : Nat → Value) : Prop where
  below : Below g w w'
  keep : ∀ k, k < w.heap.size → k ≠ g → ¬ RB R k → w'.heap[k]? = w.heap[k]?
  rows : ∀ b, RB R' b → RB R b ∨ w.heap.size ≤ b
theorem KeepR.refl (g : Nat) (w : World) (R : Nat → Value) : KeepR g w R w R := ⟨Below.refl _ _, fun _ _ _ _ => rfl, fun _ h => .inl h⟩
theorem KeepR.trans {g : Nat} {w w1 w2 : World} {R R1 R2 : Nat → Value} (h : KeepR g w R w1 R1) (k : KeepR g w1 R1 w2 R2) : KeepR g w R w2 R2 := by
  have hs := h.below.size
  refine ⟨h.below.trans k.below, fun j h1 h2 h3 => (k.keep j (by omega) h2 fun e => ?_).trans (h.keep j h1 h2 h3), fun b hb => ?_⟩
  · rcases h.rows j e with e2 | e2
    · exact h3 e2
    · omega
  · rcases k.rows b hb with e | e
    · exact h.rows b e
    · exact .inr (by omega)
theorem KeepR.of_below {g : Nat} {w w' : World} {R : Nat → Value} (h : Below w.heap.size w w') (hg : g ≤ w.heap.size) : KeepR g w R w' R := ⟨h.mono hg, fun k h1 _ _ => h.block k h1, fun _ h => .inl h⟩
theorem KeepR.setG {g : Nat} {w w' : World} {R R' : Nat → Value} (h : KeepR g w R w' R') (i : Nat) (u : Value) : KeepR g w R (w'.setCell ⟨g, i, none⟩ u) R' :=
  ⟨h.below.setCell (Nat.le_refl _) _, fun k h1 h2 h3 => (Below.heap_setCell _ _ _ k h2).trans (h.keep k h1 h2 h3), h.rows⟩

theorem rdInts_only {w w' : World} {B B' : Nat} {v : Value} {xs : List Int} (h : RdInts w B v xs) (hB : B ≤ B') (hk : 0 < xs.length → ∀ b, v.ownBlock = some b → w'.heap[b]? = w.heap[b]?) : RdInts w' B' v xs := by
  obtain ⟨A, c, rfl, hc, h⟩ := h
  refine ⟨A, c, rfl, hc, fun h0 => ?_⟩
  obtain ⟨b, o, rfl, hb, hx⟩ := h h0
  refine ⟨b, o, rfl, by omega, fun k hk' => ?_⟩
  rw [World.cell?_of_block (hk h0 b rfl)]
  exact hx k hk'

section
variable {w w' w4 : World} {g r i : Nat} {XL : List FV} {E : List Nat} {XP : Nat → List FV} {O La : Nat → Nat} {T : List Nat} {R : Nat → Value} {v' u : Value}
theorem ArgOk.on {x : FV} (h : ArgOk w g R x) (hb : Below w.heap.size w w') : ArgOk w' g R x := ⟨h.1.on hb, h.2⟩
/-- A row has grown, and its header is set anew. -/
structure Grew (w : World) (g : Nat) (R : Nat → Value) (r i : Nat) (v' : Value) (w4 : World) : Prop where
  grown : w.grownBy w4 (R r).ownBlock
  at_ : ∀ b, v'.ownBlock = some b → (R r).ownBlock = some b ∨ w.heap.size ≤ b
theorem Grew.rb (_k : Grew w g R r i v' w4) {b : Nat} (hb : RB (updF R r v') b) : RB R b ∨ v'.ownBlock = some b := by
  obtain ⟨s, hs, e⟩ := hb
  by_cases h : s = r
  · subst h
    rw [updF_same] at e
    exact .inr e
  · rw [updF_ne R v' h] at e
    exact .inl ⟨s, hs, e⟩
theorem Grew.new (_k : Grew w g R r i v' w4) {n size : Nat} {e : TypeId} {xs : List Value} (ho : w4.ownsRow (g + 1) e size v' n xs) : (w4.setCell ⟨g, i, none⟩ u).ownsRow (g + 1) e size (updF R r v' r) n xs := by
  rw [updF_same]
  exact ownsRow_only ho fun b hb => Below.heap_setCell _ _ _ b (by have := (ho.lt b hb).1; show b ≠ g; omega)
end

end Go.Proofs.YtebincnejcmocaaGreat
/-
  A fact's bit in the table of what has grown.
-/
namespace Go.Proofs.YtebincnejcmocaaGreat
open Go.RowKit

theorem KeepR.drew {g : Nat} {w w' : World} {R R' : Nat → Value} (h : KeepR g w R w' R') : KeepR g w R w'.drew R' := ⟨h.below.drew, h.keep, h.rows⟩
section
variable {w : World} {g p : Nat} {XL : List FV} {E : List Nat} {XP : Nat → List FV} {O La : Nat → Nat} {T : List Nat} {R : Nat → Value}
end

end Go.Proofs.YtebincnejcmocaaGreat
/-
  A fact is taken in behind the others.
-/
namespace Go.Proofs.YtebincnejcmocaaGreat
open Go.RowKit

theorem ArgOk.keep {w w' : World} {g : Nat} {R R' : Nat → Value} {x : FV} (h : ArgOk w g R x) (k : KeepR g w R w' R') : ArgOk w' g R' x := by
  have hs := k.below.size
  have hlt : 0 < x.1.2.length → ∀ b, x.2.ownBlock = some b → b < w.heap.size := fun h0 b hb => by
    obtain ⟨A, c, e, _, h1⟩ := h.1
    obtain ⟨b2, o, rfl, hb2, _⟩ := h1 h0
    rw [e] at hb
    have : b2 = b := by simpa [Value.ownBlock] using hb
    omega
  refine ⟨rdInts_only h.1 hs fun h0 b hb => k.keep b (hlt h0 b hb) (h.2 h0 b hb).1 (h.2 h0 b hb).2, fun h0 b hb => ⟨(h.2 h0 b hb).1, fun e => ?_⟩⟩
  rcases k.rows b e with e2 | e2
  · exact (h.2 h0 b hb).2 e2
  · have := hlt h0 b hb
    omega

end Go.Proofs.YtebincnejcmocaaGreat
/-
  What has grown, in memory, by its facts in the order in which they come and the ends of its rounds.
-/
namespace Go.Proofs.YtebincnejcmocaaGreat
open Go.RowKit

def factsX (X : List FV) : List LFact := X.map (·.1)
def ofX (X : List FV) (p : Nat) : List FV := X.filter fun x => decide (x.1.1 = (p : Int))
theorem factsX_len (X : List FV) : (factsX X).length = X.length := by simp [factsX]
theorem factsX_append (X Y : List FV) : factsX (X ++ Y) = factsX X ++ factsX Y := by simp [factsX]
theorem ofX_append (X Y : List FV) (p : Nat) : ofX (X ++ Y) p = ofX X p ++ ofX Y p := by simp [ofX]
theorem ofX_facts (X : List FV) (p : Nat) : factsX (ofX X p) = ofP (factsX X) p := by
  induction X with
  | nil => rfl
  | cons x X ih =>
    unfold ofX factsX ofP at ih ⊢
    by_cases e : x.1.1 = (p : Int)
    · simp [List.filter_cons, e]
      simpa using ih
    · simp [List.filter_cons, e]
      simpa using ih
theorem ofX_len (X : List FV) (p : Nat) : (ofX X p).length = (ofP (factsX X) p).length := by rw [← ofX_facts, factsX_len]
theorem ofX_le (X : List FV) (p : Nat) : (ofX X p).length ≤ X.length := List.length_filter_le _ _
theorem ofX_push (X : List FV) (p : Nat) (xs : List Int) (a : Value) : updF (ofX X) p (ofX X p ++ [(((p : Int), xs), a)]) = ofX (X ++ [(((p : Int), xs), a)]) := by
  funext q
  rw [ofX_append]
  by_cases e : q = p
  · subst e
    rw [updF_same]
    simp [ofX]
  · rw [updF_ne _ _ e]
    have : ¬ ((p : Int) = (q : Int)) := by omega
    simp [ofX, this]
/-- How many facts of each predicate came among the first n. -/
def cntX (X : List FV) (n : Nat) (p : Nat) : Nat := (ofP ((factsX X).take n) p).length
theorem cntX_push (X : List FV) (x : FV) {n : Nat} (h : n ≤ X.length) : cntX (X ++ [x]) n = cntX X n := by
  funext p
  unfold cntX
  rw [factsX_append, List.take_append_of_le_length (by rw [factsX_len]; exact h)]
theorem cntX_all (X : List FV) (p : Nat) : cntX X X.length p = (ofX X p).length := by
  unfold cntX
  rw [List.take_of_length_le (by rw [factsX_len]; exact Nat.le_refl _), ← ofX_len]
section
variable {w w' : World} {g o e : Nat} {X : List FV} {E : List Nat} {R : Nat → Value}
end
/-- A bit tells whether the fact is there. -/
theorem bit_fact {ar : List Int} {L : List LFact} {f : LFact} (ha : arityOk ar = true) (hL : ∀ x ∈ L, factFits ar x = true) (hf : factFits ar f = true) : ((tabWith zeroT L).getD f.1.toNat 0).testBit (numF f.2) = true ↔ f ∈ L := by
  have hp : f.1.toNat < zeroT.length := by
    have h1 := (fits_parts hf).1
    have h2 : ar.length ≤ 24 := by simp only [arityOk, Bool.and_eq_true, decide_eq_true_eq] at ha; exact ha.1
    simp [zeroT]
    omega
  rw [tabWith_bit _ _ hp, zero_bit]
  constructor
  · rintro (h | ⟨x, hx, h1, h2⟩)
    · cases h
    · rw [fact_of_bit ha hf (hL x hx) h1.symm h2.symm]
      exact hx
  · intro h
    exact .inr ⟨f, h, rfl, rfl⟩
theorem setBit_same {T : List Nat} {p n : Nat} (hp : p < T.length) (h : (T.getD p 0).testBit n = true) : setBit T p n = T := by
  unfold setBit
  have e : T.getD p 0 ||| 2 ^ n = T.getD p 0 := by
    apply Nat.eq_of_testBit_eq
    intro i
    rw [Nat.testBit_or, Nat.testBit_two_pow]
    by_cases e : n = i
    · subst e; rw [h]; rfl
    · simp [e]
  rw [e]
  have e2 : T.getD p 0 = T[p] := by simp [hp]
  rw [e2, List.set_getElem_self]
theorem fit24 {ar : List Int} {f : LFact} (ha : arityOk ar = true) (hf : factFits ar f = true) : 0 ≤ f.1 ∧ f.1 < 24 ∧ f.2.length ≤ 2 ∧ numF f.2 < 64 := by
  have h1 := fits_parts hf
  have h2 : ar.length ≤ 24 := by simp only [arityOk, Bool.and_eq_true, decide_eq_true_eq] at ha; exact ha.1
  have h3 := fits_short ha hf
  exact ⟨h1.1.1, by omega, h3, numF_64 h1.2 h3⟩
/-- A row of the facts of one predicate is read as facts. -/
theorem rdX {w : World} {g : Nat} {R : Nat → Value} {v : Value} {X : List FV} (h : w.ownsRow (g + 1) 52 2 v X.length (flatX X)) (ha : ∀ x ∈ X, ArgOk w g R x) {n : Nat} (hn : n ≤ X.length) {A : Option Addr} {c : Nat} (hv : v = .slice A X.length c) {c' : Nat} (hc : n ≤ c') :
    RdFacts w w.heap.size (.slice A n c') ((factsX X).take n) := by
  subst hv
  have hl : ((factsX X).take n).length = n := by simp [factsX]; omega
  refine ⟨A, c', by rw [hl], by rw [hl]; exact hc, fun h0 => ?_⟩
  rw [hl] at h0
  have hcells := @World.ownsRow.cells w (g + 1) 52 2 _ X.length (flatX X) h
  rcases h.2 with ⟨e, e0⟩ | ⟨b, cap, cur, e, hb, hg, _⟩
  · omega
  · injection e with e1 _ _
    subst e1
    refine ⟨b, 0, rfl, Blk.lt hg, fun k hk => ?_⟩
    have hkX : k < X.length := by rw [hl] at hk; omega
    obtain ⟨c0, c1⟩ := flatX_at X k hkX
    have d0 := hcells (g := b) rfl (k * 2) _ c0
    have d1 := hcells (g := b) rfl (k * 2 + 1) _ c1
    rw [Go.WideShapes.add_plain] at d0 d1
    have e3 : ((factsX X).take n)[k] = X[k].1 := by simp [factsX]
    rw [e3]
    exact ⟨X[k].2, d0, d1, (ha _ (List.getElem_mem hkX)).1⟩

end Go.Proofs.YtebincnejcmocaaGreat
/-
  Facts are brought, as far as they are not there yet.
-/
namespace Go.Proofs.YtebincnejcmocaaGreat
open Go.RowKit

theorem FitL.snoc {ar : List Int} {L : List LFact} {f : LFact} (h : FitL ar L) (hf : factFits ar f = true) (hn : f ∉ L) : FitL ar (L ++ [f]) :=
  ⟨(Brings.step h.nodup hn).2.1, fun g hg => by
    rcases List.mem_append.1 hg with hg | hg
    · exact h.fits g hg
    · rw [List.mem_singleton.1 hg]; exact hf⟩
theorem Brings.fit {ar : List Int} {L L' : List LFact} {X : LFact → Prop} (h : Brings L X L') (hL : FitL ar L) (hX : ∀ f, X f → factFits ar f = true) : FitL ar L' :=
  ⟨h.2.1, fun f hf => ((h.2.2 f).1 hf).elim (hL.fits f) (hX f)⟩
theorem Brings.cast {L L' : List LFact} {X Y : LFact → Prop} (h : Brings L X L') (e : ∀ f, X f ↔ Y f) : Brings L Y L' := ⟨h.1, h.2.1, fun f => by rw [h.2.2, e]⟩
end Go.Proofs.YtebincnejcmocaaGreat
/-
  The heads of a rule for solutions are brought, aa far aa they are not there yet.
-/
namespace Go.Proofs.YtebincnejcmocaaGreat
open Go.RowKit

theorem rdW_only {w w' : World} {B B' : Nat} {v : Value} {S : List (List Int)} (h : RdW w B v S) (hB : B ≤ B') (hk : 0 < S.length → ∀ b, v.ownBlock = some b → w'.heap[b]? = w.heap[b]?) : RdW w' B' v S := by
  obtain ⟨A, c, rfl, hc, h⟩ := h
  refine ⟨A, c, rfl, hc, fun h0 => ?_⟩
  obtain ⟨b, o, rfl, hb, hx⟩ := h h0
  refine ⟨b, o, rfl, by omega, fun k hk' => ?_⟩
  rw [World.cell?_of_block (hk h0 b rfl)]
  exact hx k hk'
/-- Solutions that are read, in no block that the growth writes. -/
def SolOk (w : World) (g : Nat) (R : Nat → Value) (v : Value) (S : List (List Int)) : Prop := RdW w w.heap.size v S ∧ (0 < S.length → ∀ b, v.ownBlock = some b → b ≠ g ∧ ¬ RB R b)
theorem SolOk.keep {w w' : World} {g : Nat} {R R' : Nat → Value} {v : Value} {S : List (List Int)} (h : SolOk w g R v S) (k : KeepR g w R w' R') : SolOk w' g R' v S := by
  have hs := k.below.size
  have hlt : 0 < S.length → ∀ b, v.ownBlock = some b → b < w.heap.size := fun h0 b hb => by
    obtain ⟨A, c, e, _, h1⟩ := h.1
    obtain ⟨b2, o, rfl, hb2, _⟩ := h1 h0
    rw [e] at hb
    have : b2 = b := by simpa [Value.ownBlock] using hb
    omega
  refine ⟨rdW_only h.1 hs fun h0 b hb => k.keep b (hlt h0 b hb) (h.2 h0 b hb).1 (h.2 h0 b hb).2, fun h0 b hb => ⟨(h.2 h0 b hb).1, fun e => ?_⟩⟩
  rcases k.rows b e with e2 | e2
  · exact (h.2 h0 b hb).2 e2
  · have := hlt h0 b hb
    omega
end Go.Proofs.YtebincnejcmocaaGreat
