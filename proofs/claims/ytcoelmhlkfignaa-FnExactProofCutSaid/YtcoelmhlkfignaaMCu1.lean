/-
  Texts that the claim's last one imports, laid together: part 1 of 2. No condition of its own.
-/
import Derived.Test.YtcoelmhlkfignaaMUs3
import Derived.Test.YtcoelmhlkfignaaMUs1
import Derived.Maps.AppendAt
import Derived.Deep.AppendLies
import Derived.Deep.DeepCutAuto
import Derived.OrdersHeld
import Derived.Deep.RegionHeld3
/-
  The relation of a loop that collects steps.
-/
namespace Go.Proofs.Ytcoelmhlkfignaa
open Go.RowKit

/-- Steps are collected in blocks from lo on, each with rows of its own. -/
structure ColSt (lo : Nat) (w wr : World) (ss : List LStep) (A : Option Addr) (c : Nat) (av : List Value) : Prop where
  below : Below w.heap.size w wr
  lo1 : w.heap.size ≤ lo
  lo2 : lo ≤ wr.heap.size
  own : OwnSX wr lo wr.heap.size (.slice A ss.length c) (heads ss) (leaves ss) av
section
variable {lo : Nat} {w wr w2 w4 : World} {ss ss' : List LStep} {A : Option Addr} {c g cap : Nat} {av : List Value} {s : LStep} {a b d : Value} {o : Obj}
theorem ColSt.nil (hb : Below w.heap.size w wr) (h1 : w.heap.size ≤ lo) (h2 : lo ≤ wr.heap.size) : ColSt lo w wr [] none 0 [] := ⟨hb, h1, h2, ⟨.nil, World.ownsRow_nil _ _ _ _, fun g hg => (by cases hg), rfl⟩⟩
theorem ColSt.empty (hb : Below w.heap.size w wr) (h1 : w.heap.size ≤ lo) (h2 : lo ≤ wr.heap.size) : ColSt lo w (wr.alloc (.cells #[] 46)) [] (some ⟨wr.heap.size, 0, none⟩) 0 [] :=
  ⟨hb.alloc hb.size _, h1, by simp; omega, ⟨.nil, World.ownsRow_made wr #[] 0 h2 (by decide) rfl, fun g hg => (by simp [Value.ownBlock] at hg; subst hg; simp), rfl⟩⟩
theorem ColSt.on (h : ColSt lo w wr ss A c av) (hb : Below wr.heap.size wr w2) : ColSt lo w w2 ss A c av :=
  ⟨bthen h.below hb, h.lo1, Nat.le_trans h.lo2 hb.size, (h.own.below hb (Nat.le_refl _)).mono (Nat.le_refl _) hb.size⟩
theorem ColSt.far (h : ColSt lo w wr ss A c av) {p : Addr} (h1 : w.heap.size ≤ p.block) (h2 : p.block < lo) (u : Value) : ColSt lo w (wr.setCell p u) ss A c av :=
  ⟨h.below.setCell h1 _, h.lo1, by simpa using h.lo2, by
    have hk : Only p.block (p.block + 1) wr (wr.setCell p u) := (Only.refl _ _ _).setCell (by simp) _
    have := h.own.only hk (.inr (by omega))
    simpa using this⟩
theorem ColSt.steps (h : ColSt lo w wr ss A c av) : OwnSteps wr w.heap.size wr.heap.size (.slice A ss.length c) ss := ⟨av, h.own.mono h.lo1 (Nat.le_refl _)⟩
/-- A row of integers elsewhere has grown. -/
theorem ColSt.grown {v : Value} {n : Nat} {xs : List Value} (h : ColSt lo w wr ss A c av) (hr : wr.ownsRow lo 3 1 v n xs) (hne : ∀ i (h : i < av.length) g, av[i].ownBlock = some g → v.ownBlock ≠ some g) (hg : wr.grownBy w4 v.ownBlock) : ColSt lo w w4 ss A c av := by
  have hrow : ∀ q, (Value.slice A ss.length c).ownBlock = some q → some q ≠ v.ownBlock := fun q hq e => by
    rcases hr.2 with ⟨rfl, _⟩ | ⟨g1, c1, cur1, rfl, _, h1, _⟩
    · cases e
    · have e1 : q = g1 := by simpa [Value.ownBlock] using e
      subst e1
      exact blk_ne_row h.own.row (show Blk wr q 3 cur1 from h1) (by decide) hq
  refine ⟨h.below.grown hg h.below.size (fun k hk => Nat.le_trans h.lo1 (hr.lt k hk).1), h.lo1, Nat.le_trans h.lo2 hg.size, ⟨⟨h.own.args.len, fun i h1 h2 => ?_, h.own.args.apart⟩, ?_, fun q hq => Nat.lt_of_lt_of_le (h.own.lt q hq) hg.size, h.own.n⟩⟩
  · have h0 := h.own.args.own i h1 h2
    exact (h0.kept fun q hq => hg.block q (h0.lt hq).2.2 (fun e => hne i h2 q hq e.symm)).mono (Nat.le_refl _) hg.size
  · exact ownsRow_only h.own.row fun q hq => hg.block q (h.own.row.lt q hq).2 (hrow q hq)
theorem ColSt.push (h : ColSt lo w wr ss A c av) (e : ss' = ss ++ [s]) (hb : Below wr.heap.size wr w2)
    (ha : OwnInts w2 wr.heap.size w2.heap.size a s.1.2) (hbb : OwnInts w2 wr.heap.size w2.heap.size b s.2.2.1) (hd : OwnInts w2 wr.heap.size w2.heap.size d s.2.2.2)
    (hab : ∀ g, a.ownBlock = some g → b.ownBlock ≠ some g) (had : ∀ g, a.ownBlock = some g → d.ownBlock ≠ some g) (hbd : ∀ g, b.ownBlock = some g → d.ownBlock ≠ some g)
    (hg : (w2.alloc o).grownBy w4 (Value.slice A ss.length c).ownBlock) (hown : w4.ownsRow lo 46 5 (.slice (some ⟨g, 0, none⟩) (ss.length + 1) cap) (ss.length + 1) (flat5 (heads ss) av ++ [.int .i64 s.1.1, a, .int .i64 s.2.1, b, d])) :
    ColSt lo w w4 ss' (some ⟨g, 0, none⟩) cap (av ++ [a, b, d]) ∧ ss.length + 1 = ss'.length := by
  subst e
  have hg' := grown_from_alloc hg
  have hl : ss.length + 1 = (ss ++ [s]).length := by simp
  have hargs := (h.own.args.below hb (Nat.le_refl _)).snoc3 ha hbb hd hab had hbd h.lo2 hb.size
  have hrow2 := ownsRow_below h.own.row h.own.lt hb (Nat.le_refl _)
  have hlen : av.length = (heads ss).length * 3 := h.own.len
  have h1 := h.lo1
  have h2 := h.lo2
  have hz := hb.size
  refine ⟨⟨((bthen h.below hb).alloc (bthen h.below hb).size _).grown hg (by have := (bthen h.below hb).size; simp; omega) (fun k hk => Nat.le_trans h1 (h.own.row.lt k hk).1), h1, by have := hg'.size; omega, ⟨?_, ?_, fun g hg2 => ?_, ?_⟩⟩, hl⟩
  · rw [leaves_append]
    exact ⟨hargs.len, fun i h1 h3 => ((hargs.own i h1 h3).kept fun q hq => hg'.block q ((hargs.own i h1 h3).lt hq).2.2 (fun e => stepsT_ne hrow2 e.symm (hargs.own i h1 h3) hq)).mono (Nat.le_refl _) hg'.size, hargs.apart⟩
  · rw [heads_append, flat5_append _ _ hlen, ← hl]
    simp only [List.length_append, heads_length]
    exact hown
  · rw [← hl] at hg2
    exact (hown.lt g hg2).2
  · rw [leaves_length, heads_length]
end

end Go.Proofs.Ytcoelmhlkfignaa
/-
  The steps that one of them needs, and what is left of a proof: plain mathematics. No walk.
-/
namespace Go.Proofs.Ytcoelmhlkfignaa
open Go.RowKit

/-- A step needs another one, at once or over others, or is it. -/
inductive NeedR (ss : List LStep) : Nat → Nat → Prop
  | refl (i : Nat) : NeedR ss i i
  | step {i f l : Nat} : (f : Int) ∈ fromsAt ss i → NeedR ss f l → NeedR ss i l
noncomputable def needB (ss : List LStep) (i l : Nat) : Bool := @decide (NeedR ss i l) (Classical.propDecidable _)
theorem needB_iff {ss : List LStep} {i l : Nat} : needB ss i l = true ↔ NeedR ss i l := by
  unfold needB
  exact @decide_eq_true_iff _ (Classical.propDecidable _)
theorem NeedR.trans {ss : List LStep} {i j l : Nat} (h : NeedR ss i j) (k : NeedR ss j l) : NeedR ss i l := by
  induction h with
  | refl => exact k
  | step h1 _ ih => exact .step h1 (ih k)
theorem from_lt {ss : List LStep} (hf : formed ss = true) {i f : Nat} (h : (f : Int) ∈ fromsAt ss i) : f < i := by
  by_cases hi : i < ss.length
  · rw [fromsAt_eq hi] at h
    have := aheadB_bound (formed_at hf hi) h
    omega
  · have e : fromsAt ss i = [] := by simp [fromsAt, List.getElem?_eq_none (Nat.le_of_not_lt hi)]
    rw [e] at h
    cases h
theorem NeedR.le {ss : List LStep} (hf : formed ss = true) {i l : Nat} (h : NeedR ss i l) : l ≤ i := by
  induction h with
  | refl => exact Nat.le_refl _
  | step h1 _ ih => have := from_lt hf h1; omega
/-- What is marked has all that it names marked, up to a step. -/
def ClosedM (ss : List LStep) (M : Nat → Bool) (lo hi : Nat) : Prop := ∀ j, lo < j → j ≤ hi → M j = true → ∀ f : Nat, (f : Int) ∈ fromsAt ss j → M f = true
theorem closed_need {ss : List LStep} (hf : formed ss = true) {M : Nat → Bool} {hi i l : Nat} (hc : ClosedM ss M 0 hi) (hr : NeedR ss i l) : i ≤ hi → M i = true → M l = true := by
  induction hr with
  | refl => exact fun _ h => h
  | step h1 _ ih =>
    intro hi' hm
    have := from_lt hf h1
    exact ih (by omega) (hc _ (by omega) hi' hm _ h1)
def setM (M : Nat → Bool) (f : Nat) (l : Nat) : Bool := if l = f then true else M l
theorem setM_self (M : Nat → Bool) (f : Nat) : setM M f f = true := by simp [setM]
theorem setM_of {M : Nat → Bool} {f l : Nat} (h : M l = true) : setM M f l = true := by unfold setM; split <;> simp [h]
theorem setM_iff {M : Nat → Bool} {f l : Nat} : setM M f l = true ↔ l = f ∨ M l = true := by unfold setM; split <;> simp [*]

/-- What neededBy has marked when the steps behind i are done, and the first m of those that i names. -/
structure NbAt (ss : List LStep) (at_ i m : Nat) (M : Nat → Bool) : Prop where
  sub : ∀ l, M l = true → NeedR ss at_ l
  me : M at_ = true
  done : ClosedM ss M i at_
  now : M i = true → ∀ q (h : q < (fromsAt ss i).length), q < m → M (fromsAt ss i)[q].toNat = true
theorem NbAt.start (ss : List LStep) (at_ : Nat) : NbAt ss at_ at_ 0 (setM (fun _ => false) at_) :=
  ⟨fun l h => (by
    rcases setM_iff.1 h with rfl | h1
    · exact .refl _
    · cases h1), setM_self _ _, fun j h1 h2 => (by omega), fun _ q _ h => (by omega)⟩
theorem NbAt.mark {ss : List LStep} (hf : formed ss = true) {at_ i m : Nat} {M : Nat → Bool} (h : NbAt ss at_ i m M) (hi : M i = true) (hm : m < (fromsAt ss i).length) : NbAt ss at_ i (m + 1) (setM M (fromsAt ss i)[m].toNat) := by
  have hmem : (fromsAt ss i)[m] ∈ fromsAt ss i := List.getElem_mem hm
  have hin : i < ss.length := by
    apply Classical.byContradiction
    intro hn
    have e : fromsAt ss i = [] := by simp [fromsAt, List.getElem?_eq_none (Nat.le_of_not_lt hn)]
    rw [e] at hm
    simp at hm
  have hb := aheadB_bound (formed_at hf hin) (by rw [← fromsAt_eq hin]; exact hmem)
  have hcast : (((fromsAt ss i)[m].toNat : Nat) : Int) ∈ fromsAt ss i := by rw [Int.toNat_of_nonneg hb.1]; exact hmem
  refine ⟨fun l hl => ?_, setM_of h.me, fun j h1 h2 h3 f hfj => ?_, fun _ q hq hqm => ?_⟩
  · rcases setM_iff.1 hl with rfl | h1
    · exact (h.sub i hi).trans (.step hcast (.refl _))
    · exact h.sub l h1
  · rcases setM_iff.1 h3 with e | h4
    · omega
    · exact setM_of (h.done j h1 h2 h4 f hfj)
  · by_cases e : q = m
    · subst e
      exact setM_self _ _
    · exact setM_of (h.now hi q hq (by omega))
theorem NbAt.next {ss : List LStep} {at_ i m : Nat} {M : Nat → Bool} (h : NbAt ss at_ (i + 1) m M) (hm : M (i + 1) = true → m = (fromsAt ss (i + 1)).length) : NbAt ss at_ i 0 M := by
  refine ⟨h.sub, h.me, fun j h1 h2 h3 f hfj => ?_, fun _ q _ hq => (by omega)⟩
  by_cases e : j = i + 1
  · subst e
    obtain ⟨q, hq, e2⟩ := List.getElem_of_mem hfj
    have := h.now h3 q hq (by rw [hm h3]; exact hq)
    rw [e2] at this
    simpa using this
  · exact h.done j (by omega) h2 h3 f hfj
theorem NbAt.need {ss : List LStep} (hf : formed ss = true) {at_ m : Nat} {M : Nat → Bool} (h : NbAt ss at_ 0 m M) (l : Nat) : M l = needB ss at_ l := by
  have : M l = true ↔ needB ss at_ l = true := by
    rw [needB_iff]
    exact ⟨h.sub l, fun hr => closed_need hf h.done hr (Nat.le_refl _) h.me⟩
  cases h1 : M l <;> cases h2 : needB ss at_ l <;> simp_all

/-- How many of the first k are needed. -/
def cntN (N : Nat → Bool) (k : Nat) : Nat := ((List.range k).filter N).length
theorem cntN_yes {N : Nat → Bool} {k : Nat} (h : N k = true) : cntN N (k + 1) = cntN N k + 1 := by simp [cntN, List.range_succ, List.filter_append, h]
theorem cntN_no {N : Nat → Bool} {k : Nat} (h : N k = false) : cntN N (k + 1) = cntN N k := by simp [cntN, List.range_succ, List.filter_append, h]
theorem cntN_le (N : Nat → Bool) (k : Nat) : cntN N k ≤ k := by
  have := List.length_filter_le N (List.range k)
  simpa [cntN] using this
/-- A step with fitting numbers. -/
def cutStep (N : Nat → Bool) (s : LStep) : LStep := (s.1, s.2.1, s.2.2.1, s.2.2.2.map fun f => ((cntN N f.toNat : Nat) : Int))
def noStep : LStep := ((0, []), 0, [], [])
def cutTo (ss : List LStep) (N : Nat → Bool) (k : Nat) : List LStep := ((List.range k).filter N).map fun i => cutStep N (ss.getD i noStep)
theorem cutTo_yes {ss : List LStep} {N : Nat → Bool} {k : Nat} (hk : k < ss.length) (h : N k = true) : cutTo ss N (k + 1) = cutTo ss N k ++ [cutStep N ss[k]] := by
  unfold cutTo
  rw [List.range_succ, List.filter_append, List.map_append]
  congr 1
  simp [h, List.getD_eq_getElem?_getD, hk]
theorem cutTo_no {ss : List LStep} {N : Nat → Bool} {k : Nat} (h : N k = false) : cutTo ss N (k + 1) = cutTo ss N k := by
  unfold cutTo
  rw [List.range_succ, List.filter_append, List.map_append]
  simp [h]
theorem cutTo_len (ss : List LStep) (N : Nat → Bool) (k : Nat) : (cutTo ss N k).length = cntN N k := by simp [cutTo, cntN]
theorem cutStep_sz (N : Nat → Bool) (s : LStep) : szSt (cutStep N s) = szSt s := by simp [szSt, cutStep]
theorem cutTo_tot (ss : List LStep) (N : Nat → Bool) : ∀ k, k ≤ ss.length → totS (cutTo ss N k) ≤ totS (ss.take k)
  | 0, _ => by simp [cutTo, totS]
  | k + 1, h => by
    have ih := cutTo_tot ss N k (by omega)
    have ht := totS_take ss k (by omega)
    cases e : N k
    · rw [cutTo_no e]
      omega
    · rw [cutTo_yes (by omega) e, totS_append, ht]
      have : totS [cutStep N ss[k]] = szSt ss[k] := by simp [totS, cutStep_sz]
      omega
def cutOk (ss : List LStep) (at_ : Int) : Bool := formed ss && decide (0 ≤ at_ ∧ at_ < (ss.length : Int))
noncomputable def cutL (ss : List LStep) (at_ : Int) : List LStep := if cutOk ss at_ = true then cutTo ss (needB ss at_.toNat) (at_.toNat + 1) else []
theorem cutL_bound (ss : List LStep) (at_ : Int) : (cutL ss at_).length ≤ ss.length ∧ totS (cutL ss at_) ≤ totS ss := by
  unfold cutL
  split
  · rename_i h
    unfold cutOk at h
    simp only [Bool.and_eq_true, decide_eq_true_eq] at h
    have h1 : at_.toNat + 1 ≤ ss.length := by omega
    have h2 := cutTo_len ss (needB ss at_.toNat) (at_.toNat + 1)
    have h3 := cntN_le (needB ss at_.toNat) (at_.toNat + 1)
    have h4 := cutTo_tot ss (needB ss at_.toNat) (at_.toNat + 1) h1
    have h5 := totS_append (ss.take (at_.toNat + 1)) (ss.drop (at_.toNat + 1))
    rw [List.take_append_drop] at h5
    omega
  · simp [totS]

/-- What l8Need has marked behind the first m of those that a step names. -/
def NkAt (ss : List LStep) (M0 : Nat → Bool) (i m : Nat) (M : Nat → Bool) : Prop := ∀ l, M l = true ↔ M0 l = true ∨ l = i ∨ ∃ q, ∃ h : q < (fromsAt ss i).length, q < m ∧ NeedR ss (fromsAt ss i)[q].toNat l
/-- Closed at all steps up to i. -/
def ClosedTo (ss : List LStep) (M : Nat → Bool) (i : Nat) : Prop := ∀ j, j ≤ i → M j = true → ∀ f : Nat, (f : Int) ∈ fromsAt ss j → M f = true
theorem ClosedTo.need {ss : List LStep} (hf : formed ss = true) {M : Nat → Bool} {i l : Nat} (hc : ClosedTo ss M i) (hm : M i = true) (hr : NeedR ss i l) : M l = true :=
  closed_need hf (hi := i) (fun j _ h2 h3 => hc j h2 h3) hr (Nat.le_refl _) hm
theorem NkAt.start {ss : List LStep} (M : Nat → Bool) (i : Nat) : NkAt ss M i 0 (setM M i) := fun l => by
  rw [setM_iff]
  constructor
  · rintro (h | h)
    · exact .inr (.inl h)
    · exact .inl h
  · rintro (h | h | ⟨q, _, h, _⟩)
    · exact .inr h
    · exact .inl h
    · omega
theorem NkAt.closed {ss : List LStep} {M0 M : Nat → Bool} {i m f : Nat} (h : NkAt ss M0 i m M) (hc : ClosedTo ss M0 i) (hfi : f < i) : ClosedTo ss M f := by
  intro j hj hm g hg
  rcases (h j).1 hm with h1 | h1 | ⟨q, hq, h1, h2⟩
  · exact (h g).2 (.inl (hc j (by omega) h1 g hg))
  · omega
  · exact (h g).2 (.inr (.inr ⟨q, hq, h1, h2.trans (.step hg (.refl _))⟩))
theorem NkAt.next {ss : List LStep} {M0 M M' : Nat → Bool} {i m : Nat} (h : NkAt ss M0 i m M) (hm : m < (fromsAt ss i).length) (h' : ∀ l, M' l = true ↔ M l = true ∨ NeedR ss (fromsAt ss i)[m].toNat l) : NkAt ss M0 i (m + 1) M' := fun l => by
  rw [h' l, h l]
  constructor
  · rintro ((h1 | h1 | ⟨q, hq, h1, h2⟩) | h1)
    · exact .inl h1
    · exact .inr (.inl h1)
    · exact .inr (.inr ⟨q, hq, by omega, h2⟩)
    · exact .inr (.inr ⟨m, hm, by omega, h1⟩)
  · rintro (h1 | h1 | ⟨q, hq, h1, h2⟩)
    · exact .inl (.inl h1)
    · exact .inl (.inr (.inl h1))
    · by_cases e : q = m
      · subst e
        exact .inr h2
      · exact .inl (.inr (.inr ⟨q, hq, by omega, h2⟩))
theorem NkAt.done {ss : List LStep} (hf : formed ss = true) {M0 M : Nat → Bool} {i : Nat} (h : NkAt ss M0 i (fromsAt ss i).length M) : ∀ l, M l = true ↔ M0 l = true ∨ NeedR ss i l := fun l => by
  rw [h l]
  constructor
  · rintro (h1 | h1 | ⟨q, hq, _, h2⟩)
    · exact .inl h1
    · exact .inr (h1 ▸ .refl _)
    · have hin : i < ss.length := by
        apply Classical.byContradiction
        intro hn
        have e : fromsAt ss i = [] := by simp [fromsAt, List.getElem?_eq_none (Nat.le_of_not_lt hn)]
        rw [e] at hq
        simp at hq
      have hb := aheadB_bound (formed_at hf hin) (by rw [← fromsAt_eq hin]; exact List.getElem_mem hq)
      exact .inr (.step (by rw [Int.toNat_of_nonneg hb.1]; exact List.getElem_mem hq) h2)
  · rintro (h1 | h1)
    · exact .inl h1
    · cases h1 with
      | refl => exact .inr (.inl rfl)
      | step h1 h2 =>
        obtain ⟨q, hq, e⟩ := List.getElem_of_mem h1
        exact .inr (.inr ⟨q, hq, hq, by rw [e]; simpa using h2⟩)

end Go.Proofs.Ytcoelmhlkfignaa
/-
  The specification's ProofCut: the row of places beside the steps collected, and the step under way.
-/
namespace Go.Proofs.Ytcoelmhlkfignaa
open Go.RowKit

/-- How many of those ahead are needed, for each of the first k. -/
def plsN (N : Nat → Bool) (k : Nat) : List Int := (List.range k).map fun j => ((cntN N j : Nat) : Int)
theorem plsN_len (N : Nat → Bool) (k : Nat) : (plsN N k).length = k := by simp [plsN]
theorem plsN_next (N : Nat → Bool) (k : Nat) : plsN N (k + 1) = plsN N k ++ [((cntN N k : Nat) : Int)] := by simp [plsN, List.range_succ]
theorem plsN_at (N : Nat → Bool) {k j : Nat} (h' : j < (plsN N k).length) : (plsN N k)[j] = ((cntN N j : Nat) : Int) := by simp [plsN]

/-- The places of the first k, beside steps whose rows lie in av; the marks. -/
structure PlSt (lo g n : Nat) (N : Nat → Bool) (wr : World) (k : Nat) (A : Option Addr) (c : Nat) (av : List Value) : Prop where
  own : OwnInts wr lo wr.heap.size (.slice A (plsN N k).length c) (plsN N k)
  ne : ∀ i (h : i < av.length) q, av[i].ownBlock = some q → (Value.slice A (plsN N k).length c).ownBlock ≠ some q
  marks : wr.rowIs g 4 n (fun j => .bool (N j))
  glo : g < lo

section
variable {lo g n k c g2 cap : Nat} {N : Nat → Bool} {w wr w2 w4 : World} {A : Option Addr} {av : List Value} {o : Obj} {ss ss' : List LStep} {A' : Option Addr} {c' : Nat}

theorem PlSt.on (h : PlSt lo g n N wr k A c av) (hb : Below wr.heap.size wr w2) : PlSt lo g n N w2 k A c av :=
  ⟨(h.own.below hb (Nat.le_refl _)).mono (Nat.le_refl _) hb.size, h.ne, h.marks.of_block (hb.block g h.marks.lt), h.glo⟩

/-- The place of one step more. -/
theorem PlSt.push (h : PlSt lo g n N wr k A c av) (hc : ColSt lo w wr ss A' c' av)
    (hg : (wr.alloc o).grownBy w4 (Value.slice A (plsN N k).length c).ownBlock) (hown : w4.ownsRow lo 3 1 (.slice (some ⟨g2, 0, none⟩) ((plsN N k).length + 1) cap) ((plsN N k).length + 1) ((plsN N k).map (Value.int .i64) ++ [.int .i64 ((cntN N k : Nat) : Int)]))
    (hat : (Value.slice A (plsN N k).length c).ownBlock = some g2 ∨ g2 = wr.heap.size + 1) :
    PlSt lo g n N w4 (k + 1) (some ⟨g2, 0, none⟩) cap av ∧ ColSt lo w w4 ss A' c' av ∧ (plsN N k).length + 1 = (plsN N (k + 1)).length := by
  have hg' := grown_from_alloc hg
  have hl : (plsN N k).length + 1 = (plsN N (k + 1)).length := by rw [plsN_next]; simp
  refine ⟨⟨?_, fun i hi q hq e => ?_, h.marks.of_block (hg'.block g h.marks.lt fun e => ?_), h.glo⟩, hc.grown h.own.1 h.ne hg', hl⟩
  · refine ⟨?_, fun q hq => (hown.lt q (by rw [hl]; exact hq)).2⟩
    rw [← hl, plsN_next]
    simpa using hown
  · have e2 : g2 = q := by simpa [Value.ownBlock] using e
    subst e2
    rcases hat with hat | hat
    · exact h.ne i hi _ hq hat
    · have := (hc.own.args.own i (by rw [← hc.own.args.len]; exact hi) hi).lt hq
      omega
  · have := (h.own.1.lt g e.symm).1
    have := h.glo
    omega

/-- A step has been collected: the places stay. -/
theorem PlSt.kept (h : PlSt lo g n N wr k A c av) (hc : ColSt lo w wr ss A' c' av) (hb : Below wr.heap.size wr w2) {ps : List Value} (hps : ∀ i (h : i < ps.length) q, ps[i].ownBlock = some q → wr.heap.size ≤ q)
    (hg : (w2.alloc o).grownBy w4 (Value.slice A' ss.length c').ownBlock) : PlSt lo g n N w4 k A c (av ++ ps) := by
  have hg' := grown_from_alloc hg
  have h2 := h.on hb
  have hrow : ∀ q, (Value.slice A (plsN N k).length c).ownBlock = some q → some q ≠ (Value.slice A' ss.length c').ownBlock := fun q hq e => by
    rcases h.own.1.2 with ⟨e0, _⟩ | ⟨g1, c1, cur1, e0, _, h1, _⟩
    · rw [e0] at hq; cases hq
    · have e1 : g1 = q := by rw [e0] at hq; simpa [Value.ownBlock] using hq
      subst e1
      exact blk_ne_row hc.own.row (show Blk wr g1 3 cur1 from h1) (by decide) e.symm
  refine ⟨(h2.own.kept fun q hq => hg'.block q (h2.own.lt hq).2.2 (hrow q hq)).mono (Nat.le_refl _) hg'.size, fun i hi q hq e => ?_, h2.marks.of_block (hg'.block g h2.marks.lt fun e => ?_), h.glo⟩
  · by_cases hia : i < av.length
    · rw [List.getElem_append_left hia] at hq
      exact h.ne i hia q hq e
    · rw [List.getElem_append_right (by omega)] at hq
      have := hps _ _ q hq
      have := (h.own.lt e).2.2
      omega
  · have := (hc.own.row.lt g e.symm).1
    have := h.glo
    omega

/-- The step under way: k of those it names are told. -/
structure BoxSt (w wr : World) (gb : Nat) (s : LStep) (fs : List Int) (P1 : Option Addr) (d1 : Nat) (P2 : Option Addr) (d2 : Nat) (P3 : Option Addr) (d3 : Nat) : Prop where
  below : Below w.heap.size w wr
  lo : w.heap.size ≤ gb
  blk : Blk wr gb 46 #[.int .i64 s.1.1, .slice P1 s.1.2.length d1, .int .i64 s.2.1, .slice P2 s.2.2.1.length d2, .slice P3 fs.length d3]
  o1 : OwnInts wr w.heap.size wr.heap.size (.slice P1 s.1.2.length d1) s.1.2
  o2 : OwnInts wr w.heap.size wr.heap.size (.slice P2 s.2.2.1.length d2) s.2.2.1
  o3 : OwnInts wr w.heap.size wr.heap.size (.slice P3 fs.length d3) fs
  n12 : ∀ q, (Value.slice P1 s.1.2.length d1).ownBlock = some q → (Value.slice P2 s.2.2.1.length d2).ownBlock ≠ some q
  n13 : ∀ q, (Value.slice P1 s.1.2.length d1).ownBlock = some q → (Value.slice P3 fs.length d3).ownBlock ≠ some q
  n23 : ∀ q, (Value.slice P2 s.2.2.1.length d2).ownBlock = some q → (Value.slice P3 fs.length d3).ownBlock ≠ some q

theorem BoxSt.step {gb : Nat} {s : LStep} {fs : List Int} {P1 P2 P3 : Option Addr} {d1 d2 d3 : Nat} {x : Int} (h : BoxSt w wr gb s fs P1 d1 P2 d2 P3 d3)
    (hg : wr.grownBy w4 (Value.slice P3 fs.length d3).ownBlock) (hown : w4.ownsRow w.heap.size 3 1 (.slice (some ⟨g2, 0, none⟩) (fs.length + 1) cap) (fs.length + 1) (fs.map (Value.int .i64) ++ [.int .i64 x]))
    (hat : (Value.slice P3 fs.length d3).ownBlock = some g2 ∨ wr.heap.size ≤ g2) :
    BoxSt w (w4.setCell ⟨gb, 4, none⟩ (.slice (some ⟨g2, 0, none⟩) (fs.length + 1) cap)) gb s (fs ++ [x]) P1 d1 P2 d2 (some ⟨g2, 0, none⟩) cap := by
  have hl : (fs ++ [x]).length = fs.length + 1 := by simp
  have b4 : Blk w4 gb 46 #[.int .i64 s.1.1, .slice P1 s.1.2.length d1, .int .i64 s.2.1, .slice P2 s.2.2.1.length d2, .slice P3 fs.length d3] :=
    (hg.block _ h.blk.lt (fun e => blk_ne_row h.o3.1 h.blk (by decide) e.symm)).trans h.blk
  have k1 := (h.o1.kept fun q hq => hg.block q (h.o1.lt hq).2.2 (fun e => h.n13 q hq e.symm)).mono (Nat.le_refl _) hg.size
  have k2 := (h.o2.kept fun q hq => hg.block q (h.o2.lt hq).2.2 (fun e => h.n23 q hq e.symm)).mono (Nat.le_refl _) hg.size
  have s1 : ∀ {v : Value} {m : Nat} {xs : List Value} {lo : Nat}, w4.ownsRow lo 3 1 v m xs → (w4.setCell ⟨gb, 4, none⟩ (.slice (some ⟨g2, 0, none⟩) (fs.length + 1) cap)).ownsRow lo 3 1 v m xs := fun hr =>
    ownsRow_only hr (fun b hb => Below.heap_setCell _ _ _ _ (fun e => blk_ne_row hr b4 (by decide) (by rw [hb, e])))
  refine ⟨(h.below.grown hg h.below.size (fun q hq => (h.o3.1.lt q hq).1)).setCell h.lo _, h.lo, ?_, ⟨s1 k1.1, by simpa using k1.2⟩, ⟨s1 k2.1, by simpa using k2.2⟩, ?_, h.n12, fun q hq e => ?_, fun q hq e => ?_⟩
  · rw [hl]
    simpa using b4.set_ 4 (.slice (some ⟨g2, 0, none⟩) (fs.length + 1) cap)
  · rw [hl]
    refine ⟨s1 (by simpa using hown), fun q hq => ?_⟩
    have := (hown.lt q hq).2
    simpa using this
  · have e2 : g2 = q := by simpa [Value.ownBlock] using e
    subst e2
    rcases hat with hat | hat
    · exact h.n13 _ hq hat
    · have := (h.o1.lt hq).2.2
      omega
  · have e2 : g2 = q := by simpa [Value.ownBlock] using e
    subst e2
    rcases hat with hat | hat
    · exact h.n23 _ hq hat
    · have := (h.o2.lt hq).2.2
      omega

/-- The step as it is made: its two rows copied, none told yet. -/
theorem BoxSt.made {W : World} {gb l1 h1 l2 h2 : Nat} {s : LStep} {P1 P2 : Option Addr} {d1 d2 : Nat} (hb : Below w.heap.size w W) (hgb : w.heap.size ≤ gb)
    (X : Blk W gb 46 #[.int .i64 0, .slice none 0 0, .int .i64 0, .slice none 0 0, .slice none 0 0])
    (o1 : OwnInts W l1 h1 (.slice P1 s.1.2.length d1) s.1.2) (o2 : OwnInts W l2 h2 (.slice P2 s.2.2.1.length d2) s.2.2.1) (hl : w.heap.size ≤ l1) (h12 : h1 ≤ l2) (hll : l1 ≤ h1) (hh : h2 ≤ W.heap.size) (hlh : h1 ≤ W.heap.size)
    (g1 : gb < l1 ∨ h1 ≤ gb) (gg2 : gb < l2 ∨ h2 ≤ gb) :
    BoxSt w (((((W.setCell ⟨gb, 0, none⟩ (.int .i64 s.1.1)).setCell ⟨gb, 1, none⟩ (.slice P1 s.1.2.length d1)).setCell ⟨gb, 2, none⟩ (.int .i64 s.2.1)).setCell ⟨gb, 3, none⟩ (.slice P2 s.2.2.1.length d2)).setCell ⟨gb, 4, none⟩ (.slice none 0 0)) gb s [] P1 d1 P2 d2 none 0 := by
  refine ⟨((((hb.setCell hgb _).setCell hgb _).setCell hgb _).setCell hgb _).setCell hgb _, hgb, ?_, ?_, ?_, ?_, fun q hq e => ?_, fun q hq e => (by cases e), fun q hq e => (by cases e)⟩
  · simpa using ((((X.set_ 0 (.int .i64 s.1.1)).set_ 1 (.slice P1 s.1.2.length d1)).set_ 2 (.int .i64 s.2.1)).set_ 3 (.slice P2 s.2.2.1.length d2)).set_ 4 (.slice none 0 0)
  · exact (((((o1.set (p := ⟨gb, 0, none⟩) g1 _).set (p := ⟨gb, 1, none⟩) g1 _).set (p := ⟨gb, 2, none⟩) g1 _).set (p := ⟨gb, 3, none⟩) g1 _).set (p := ⟨gb, 4, none⟩) g1 _).mono hl (by simpa using hlh)
  · exact (((((o2.set (p := ⟨gb, 0, none⟩) gg2 _).set (p := ⟨gb, 1, none⟩) gg2 _).set (p := ⟨gb, 2, none⟩) gg2 _).set (p := ⟨gb, 3, none⟩) gg2 _).set (p := ⟨gb, 4, none⟩) gg2 _).mono (by omega) (by simpa using hh)
  · exact ⟨World.ownsRow_nil _ _ _ _, fun q hq => (by cases hq)⟩
  · have e1 := o1.lt hq
    have e2 := o2.lt e
    omega
end

end Go.Proofs.Ytcoelmhlkfignaa
/-
  The relation of a loop that collects integers.
-/
namespace Go.Proofs.Ytcoelmhlkfignaa
open Go.RowKit

/-- The relation of a loop that collects integers. -/
structure ColI (w wr : World) (xs : List Int) (A : Option Addr) (c : Nat) : Prop where
  below : Below w.heap.size w wr
  own : OwnInts wr w.heap.size wr.heap.size (.slice A xs.length c) xs
theorem ColI.nil {w wr : World} (hb : Below w.heap.size w wr) : ColI w wr [] none 0 := ⟨hb, World.ownsRow_nil _ _ _ _, fun g hg => by cases hg⟩
theorem ColI.empty {w wr : World} (hb : Below w.heap.size w wr) : ColI w (wr.alloc (.cells #[] 3)) [] (some ⟨wr.heap.size, 0, none⟩) 0 :=
  ⟨hb.alloc hb.size _, World.ownsRow_made wr #[] 0 hb.size (by decide) rfl, fun g hg => by simp [Value.ownBlock] at hg; subst hg; simp⟩
theorem ColI.push {w wr w2 w4 : World} {xs : List Int} {A : Option Addr} {c g cap : Nat} {x : Int} {o : Obj} (h : ColI w wr xs A c) (hb : Below wr.heap.size wr w2)
    (hg : (w2.alloc o).grownBy w4 (Value.slice A xs.length c).ownBlock) (hown : w4.ownsRow w.heap.size 3 1 (.slice (some ⟨g, 0, none⟩) (xs.length + 1) cap) (xs.length + 1) (xs.map (Value.int .i64) ++ [.int .i64 x])) :
    ColI w w4 (xs ++ [x]) (some ⟨g, 0, none⟩) cap := by
  have hl : (xs ++ [x]).length = xs.length + 1 := by simp
  refine ⟨((bthen h.below hb).alloc (bthen h.below hb).size _).grown hg (by have := (bthen h.below hb).size; simp; omega) (fun k hk => (h.own.1.lt k hk).1), ?_⟩
  rw [hl]
  exact ⟨by simpa using hown, fun b hb' => (hown.lt b hb').2⟩
theorem news1 (w : World) (x : Value) (t : TypeId) : ∀ j u, [x][j]? = some u → (w.alloc (.cells #[x] t)).cell? ((⟨w.heap.size, 0, none⟩ : Addr).add j) = some u := World.news_of_block (cs := #[x]) (heap_alloc_new w _)
theorem news1s (w : World) (x : Value) (t : TypeId) (n : Nat) (hn : w.heap.size = n) : ∀ j u, [x][j]? = some u → (w.alloc (.cells #[x] t)).cell? ((⟨n, 0, none⟩ : Addr).add j) = some u := hn ▸ news1 w x t

end Go.Proofs.Ytcoelmhlkfignaa
/-
  The specification's l3Copy alone (as in SpecMatch, for seats that have no more).
-/
namespace Go.Proofs.Ytcoelmhlkfignaa
open Go.RowKit

set_option maxHeartbeats 1000000 in
set_option maxRecDepth 100000 in
theorem l3Copy_any (v : Value) (xs : List Int) (w : World) (h : RdInts w w.heap.size v xs) (hr : xs.length ≤ 1048576) :
    Calls Try.prog 34 #[v] w fun e w' => ∃ A' c', e = .returned (.slice A' xs.length c') ∧ OwnInts w' w.heap.size w'.heap.size (.slice A' xs.length c') xs ∧ Below w.heap.size w w' := by
  obtain ⟨i0, hi0, hz0, hz1, hz2⟩ := info_parts Try.infoInt
  have H := Lib.hid h
  obtain ⟨A, c, rfl, hc, _⟩ := h
  have C0 := Lib.hid (ColI.empty (Below.refl w.heap.size w))
  go_enter Try.func34, Try.ntmps34
  go_wp2_with (fail)
  go_loopw [3, 4] (fun o i wr => ∃ (k : Nat) (A' : Option Addr) (c' : Nat), k ≤ xs.length ∧ i = .int .i64 k ∧ o = .slice A' (xs.take k).length c' ∧ ColI w wr (xs.take k) A' c') (fun _ i _ => xs.length - (intOf i).toNat)
  case atStart => exact ⟨0, _, 0, Nat.zero_le _, rfl, rfl, C0.out⟩
  case round =>
    obtain ⟨k, A', c', hk, rfl, rfl, hr'⟩ := hrel
    have hln : (xs.take k).length ≤ k := by simp; omega
    by_cases hlt : k < xs.length
    · have hre := H.out.below hr'.below (Nat.le_refl _)
      obtain ⟨A3, c3, e3, _, hx⟩ := hre
      injection e3 with e3 _ e4
      subst e3 e4
      obtain ⟨b, o, rfl, hbB, hx⟩ := hx (by omega)
      have hck : wr.cell? ⟨b, o + k, none⟩ = some (.int .i64 xs[k]) := hx k hlt
      have HS := Lib.hid (take_snoc xs k hlt)
      have HP := Lib.hid hr'
      clear hx hr'
      obtain ⟨x, hx⟩ : ∃ x, x = xs[k] := ⟨_, rfl⟩
      rw [← hx] at hck HS
      clear hx
      obtain ⟨zs, hzs⟩ : ∃ zs, zs = xs.take k := ⟨_, rfl⟩
      have HZ := Lib.hid hzs
      rw [← hzs] at HP hln ⊢
      clear hzs
      go_wp2_with (at_builtin; refine wpList_append_lies _ rfl (.tmp 12) (.tmp 17) 38 rfl w.heap.size 3 i0 (.int .i64 0) 1 8 Try.underlying38 hi0 hz0 hz1 hz2 rfl (by decide) (.slice A' zs.length c') zs.length (zs.map (Value.int .i64)) rfl ?c1 ⟨_, 0, none⟩ 1 1 [.int .i64 x] rfl rfl (news1s _ _ _ _ (by simp)) ?c2 (by omega) (by unfold maxLen; omega) (by omega) ?c3 _ rfl ?_)
      case c1 => exact HP.out.own.1.alloc _
      case c2 => first | rfl | (intro u hu; simp at hu; subst hu; rfl)
      case c3 => have := HP.out.below.size; simp; omega
      intro g cap w4 hown hg _ _
      have hcol := HP.out.push (Below.refl _ _) hg hown
      rw [HZ.out, ← HS.out] at hcol
      have hlen : zs.length + 1 = (xs.take (k + 1)).length := by rw [HS.out, HZ.out]; simp
      rw [hlen]
      have HC := Lib.hid hcol
      clear hcol hlen hown hg
      go_wp2_with (fail)
      go_roundw
      case rel => exact ⟨k + 1, _, _, by omega, by go_num, rfl, HC.out⟩
      case measure => simp [intOf]; omega
    · have hkn : k = xs.length := by omega
      have HZ := Lib.hid (show xs.take k = xs by rw [hkn, List.take_length])
      have HO := Lib.hid hr'
      rw [HZ.out] at HO ⊢
      clear hkn hr'
      go_wp2_with (fail)
      go_ret
      exact ⟨_, _, rfl, HO.out.own, HO.out.below⟩

end Go.Proofs.Ytcoelmhlkfignaa
/-
  The walks of neededBy and l8Need.
-/
namespace Go.Proofs.Ytcoelmhlkfignaa
open Go.RowKit

theorem Try.infoBoolP : (Try.prog.info? 4).map (fun i => (i.zero, i.size, i.bytes)) = some (some (.bool false), 1, 1) := by kernel_rfl

theorem setM_row {w : World} {g n f : Nat} {M : Nat → Bool} (h : w.rowIs g 4 n (fun j => .bool (M j))) : (w.setCell ⟨g, f, none⟩ (.bool true)).rowIs g 4 n (fun j => .bool (setM M f j)) := by
  refine (h.set f _).congr fun j _ => ?_
  unfold setM
  by_cases e : j = f
  · rw [if_pos e, if_pos e]
  · rw [if_neg e, if_neg e]

set_option maxHeartbeats 2000000 in
set_option maxRecDepth 100000 in
theorem neededBy_any (v : Value) (ss : List LStep) (a : Nat) (w : World) (h : RdSteps w w.heap.size v ss) (hl : ss.length ≤ 1048576) (ht : totS ss ≤ 1048576) (ha : a < ss.length) (hf : formed ss = true) :
    Calls Try.prog 35 #[v, .int .i64 (a : Int)] w fun e w' => e = .returned (.slice (some ⟨w.heap.size, 0, none⟩) (a + 1) (a + 1)) ∧ w'.rowIs w.heap.size 4 (a + 1) (fun j => .bool (needB ss a j)) ∧ Below w.heap.size w w' := by
  have hmk := run_make_row' (P := Try.prog) 54 4 (.bool false) 1 Try.underlying54 Try.infoBoolP rfl .i64 .i64 (a + 1) (by omega) (by omega)
  rw [show ((a + 1 : Nat) : Int) = (a : Int) + 1 by omega] at hmk
  have H := Lib.hid h
  have HF := Lib.hid hf
  obtain ⟨A, c, rfl, hc, _⟩ := h
  obtain ⟨g, hg⟩ : ∃ g, g = w.heap.size := ⟨_, rfl⟩
  have HG := Lib.hid hg
  obtain ⟨n, hn⟩ : ∃ n, n = a + 1 := ⟨_, rfl⟩
  have HN := Lib.hid hn
  have han : (a : Int) < (n : Int) := by omega
  have han' : a < n := by omega
  rw [← hn] at hmk ⊢
  rw [← hg]
  clear hn hf hg
  go_enter Try.func35, Try.ntmps35
  go_upto_region 2 with fail
  obtain ⟨w1, hw1⟩ : ∃ w1, w1 = w.alloc (Obj.cells (madeCells #[Value.bool false] n) 4) := ⟨_, rfl⟩
  have HR1 := Lib.hid (show w1.rowIs g 4 n (fun j => .bool ((fun _ => false : Nat → Bool) j)) from by rw [hw1, HG.out]; exact World.rowIs_made _ _ _ _)
  have HB1 := Lib.hid (show Below w.heap.size w w1 by rw [hw1]; exact below1 _ _)
  have c1 := HR1.out.cell han'
  have f1 := HR1.out.frozen a
  rw [← hw1]
  rw [← HG.out]
  clear hw1
  have HR2 := Lib.hid (setM_row (f := a) HR1.out)
  have HB2 := Lib.hid (show Below w.heap.size w (w1.setCell ⟨g, a, none⟩ (.bool true)) from HB1.out.setCell (by rw [HG.out]; exact Nat.le_refl _) _)
  have HS := Lib.hid (NbAt.start ss a)
  go_wp2_with (fail)
  go_loopw [6] (fun i wr => ∃ (k : Nat) (M : Nat → Bool), k ≤ a ∧ i = .int .i64 k ∧ wr.rowIs g 4 n (fun j => .bool (M j)) ∧ NbAt ss a k 0 M ∧ Below w.heap.size w wr) (fun i _ => (intOf i).toNat)
  case atStart => exact ⟨a, _, Nat.le_refl _, rfl, HR2.out, HS.out, HB2.out⟩
  case round =>
    obtain ⟨k, M, hk, rfl, hrow, hnb, hbe⟩ := hrel
    have HROW := Lib.hid hrow
    have HNB := Lib.hid hnb
    have HBE := Lib.hid hbe
    clear hrow hnb hbe c1 f1
    by_cases hpos : 0 < k
    · obtain ⟨i, rfl⟩ : ∃ i, k = i + 1 := ⟨k - 1, by omega⟩
      have hkn : i + 1 < n := by have := HN.out; omega
      have hki : ((i + 1 : Nat) : Int) < (n : Int) := by omega
      have hks : i + 1 < ss.length := by omega
      have q0 := HROW.out.cell hkn
      obtain ⟨mk, hmk2⟩ : ∃ mk, mk = M (i + 1) := ⟨_, rfl⟩
      rw [← hmk2] at q0
      obtain ⟨b, o, A1, c1, A2, c2, A3, c3, rfl, hbB, ⟨k0, k1, k2, k3, k4⟩, r1, r2, r3⟩ := H.out.get hks
      have k4 := (HBE.out.cell (p := ⟨b, o + (i + 1) * 5 + 4, none⟩) hbB).trans k4
      have HR := Lib.hid r3
      have hln := szSt_le_totS ss (i + 1) hks
      unfold szSt at hln
      have HFE := Lib.hid (fromsAt_eq hks)
      have hkp : (0 : Int) < ((i + 1 : Nat) : Int) := by omega
      have hsub : ((i + 1 : Nat) : Int) - 1 = (i : Int) := by omega
      clear r1 r2 r3 k0 k1 k2 k3 hbB
      cases mk
      · have HNX := Lib.hid (HNB.out.next fun h => by rw [← hmk2] at h; cases h)
        clear hmk2
        go_wp2_with (fail)
        go_roundw
        case rel => exact ⟨i, M, by omega, by first | go_num | (congr 1), HROW.out, HNX.out, HBE.out⟩
        case measure => simp [intOf]
      · have HMI := Lib.hid hmk2.symm
        clear hmk2
        obtain ⟨wo, rfl⟩ : ∃ wo, wo = wr := ⟨_, rfl⟩
        go_wp2_with (fail)
        go_loopw [30] (fun x ws => ∃ (m : Nat) (M' : Nat → Bool), m ≤ ss[i + 1].2.2.2.length ∧ x = .int .i64 m ∧ ws.rowIs g 4 n (fun j => .bool (M' j)) ∧ (NbAt ss a (i + 1) m M' ∧ M' (i + 1) = true) ∧ Below w.heap.size w ws) (fun x _ => ss[i + 1].2.2.2.length - (intOf x).toNat)
        case atStart => exact ⟨0, M, Nat.zero_le _, rfl, HROW.out, ⟨HNB.out, HMI.out⟩, HBE.out⟩
        case round =>
          obtain ⟨m, M', hm, rfl, hrow, hnb, hbe⟩ := hrel
          have HROW2 := Lib.hid hrow
          have HNB2 := Lib.hid hnb
          have HBE2 := Lib.hid hbe
          clear hrow hnb hbe
          by_cases hlm : m < ss[i + 1].2.2.2.length
          · obtain ⟨b', o', rfl, hb', q1⟩ := (HR.out.below HBE2.out (Nat.le_refl _)).getS hlm
            obtain ⟨z0, z1⟩ := aheadB_at (formed_at HF.out hks) hlm
            obtain ⟨fn, hfn⟩ : ∃ n : Nat, ss[i + 1].2.2.2[m] = (n : Int) := ⟨ss[i + 1].2.2.2[m].toNat, by omega⟩
            rw [hfn] at q1 z0 z1
            have hfn2 : fn < n := by omega
            have hfi : (fn : Int) < (n : Int) := by omega
            have c2 := HROW2.out.cell hfn2
            have f2 := HROW2.out.frozen fn
            have HNX := Lib.hid (show (wr.setCell ⟨g, fn, none⟩ (.bool true)).rowIs g 4 n (fun j => .bool (setM M' fn j)) ∧ (NbAt ss a (i + 1) (m + 1) (setM M' fn) ∧ setM M' fn (i + 1) = true) ∧ Below w.heap.size w (wr.setCell ⟨g, fn, none⟩ (.bool true)) from by
              have h1 := HNB2.out.1.mark HF.out HNB2.out.2 (m := m) (by rw [HFE.out]; exact hlm)
              have e : (fromsAt ss (i + 1))[m]'(by rw [HFE.out]; exact hlm) = (fn : Int) := by simp only [HFE.out]; exact hfn
              rw [e] at h1
              exact ⟨setM_row HROW2.out, ⟨by simpa using h1, setM_of HNB2.out.2⟩, HBE2.out.setCell (by rw [HG.out]; exact Nat.le_refl _) _⟩)
            clear hfn hb'
            go_wp2_with (fail)
            go_roundw
            case rel => exact ⟨m + 1, _, by omega, by go_num, HNX.out.1, HNX.out.2.1, HNX.out.2.2⟩
            case measure => simp [intOf]; omega
          · have HNX := Lib.hid (HNB2.out.1.next fun _ => by rw [HFE.out]; omega)
            go_wp2_with (fail)
            go_roundw
            case rel => exact ⟨i, M', by omega, by first | go_num | (congr 1), HROW2.out, HNX.out, HBE2.out⟩
            case measure => simp [intOf]
    · have hk0 : k = 0 := by omega
      subst hk0
      have HE := Lib.hid (show wr.rowIs g 4 n (fun j => .bool (needB ss a j)) from HROW.out.congr fun j _ => by rw [HNB.out.need HF.out j])
      go_wp2_with (fail)
      go_ret
      exact ⟨rfl, HE.out, by rw [HG.out]; exact HBE.out⟩

set_option maxHeartbeats 2000000 in
set_option maxRecDepth 100000 in
theorem l8Need_any (ss : List LStep) (g : Nat) (hl : ss.length ≤ 1048576) (ht : totS ss ≤ 1048576) (hf : formed ss = true) : ∀ (d i : Nat) (_ : i < d) (_ : i < ss.length) (M : Nat → Bool) (v : Value) (w : World), RdSteps w g v ss → w.rowIs g 4 ss.length (fun j => .bool (M j)) → ClosedTo ss M i →
    Calls Try.prog 32 #[v, .int .i64 (i : Int), .slice (some ⟨g, 0, none⟩) ss.length ss.length] w fun e w' => e = .returned (.tuple #[]) ∧ ∃ M' : Nat → Bool, w'.rowIs g 4 ss.length (fun j => .bool (M' j)) ∧ (∀ l, M' l = true ↔ M l = true ∨ NeedR ss i l) ∧ Only g (g + 1) w w'
  | 0, i, hd, _, _, _, _, _, _, _ => absurd hd (by omega)
  | d + 1, i, hd, hi, M, v, w, h, hrow, hcl => by
    have IH := Lib.hid (l8Need_any ss g hl ht hf d)
    have H := Lib.hid h
    have HROW := Lib.hid hrow
    have HCL := Lib.hid hcl
    have HF := Lib.hid hf
    obtain ⟨A, c, rfl, hc, _⟩ := h
    have hgw := hrow.lt
    have c0 := hrow.cell hi
    have f0 := hrow.frozen i
    obtain ⟨mi, hmi⟩ : ∃ mi, mi = M i := ⟨_, rfl⟩
    rw [← hmi] at c0
    have hii : (i : Int) < (ss.length : Int) := by omega
    obtain ⟨b, o, A1, c1, A2, c2, A3, c3, rfl, hbB, ⟨k0, k1, k2, k3, k4⟩, r1, r2, r3⟩ := H.out.get hi
    have HR := Lib.hid r3
    have HK4 := Lib.hid (And.intro hbB k4)
    have hln := szSt_le_totS ss i hi
    unfold szSt at hln
    have HFE := Lib.hid (fromsAt_eq hi)
    clear hrow hcl hf r1 r2 r3 k0 k1 k2 k3 k4
    cases mi
    · have HS := Lib.hid (NkAt.start (ss := ss) M i)
      have HR2 := Lib.hid (setM_row (f := i) HROW.out)
      have HO2 := Lib.hid (show Only g (g + 1) w (w.setCell ⟨g, i, none⟩ (.bool true)) from (Only.refl _ _ _).setCell (by simp) _)
      clear hmi
      go_enter Try.func32, Try.ntmps32
      go_wp2_with (fail)
      go_loopw [6] (fun x wr => ∃ (m : Nat) (M' : Nat → Bool), m ≤ ss[i].2.2.2.length ∧ x = .int .i64 m ∧ wr.rowIs g 4 ss.length (fun j => .bool (M' j)) ∧ NkAt ss M i m M' ∧ Only g (g + 1) w wr) (fun x _ => ss[i].2.2.2.length - (intOf x).toNat)
      case atStart => exact ⟨0, _, Nat.zero_le _, rfl, HR2.out, HS.out, HO2.out⟩
      case round =>
        obtain ⟨m, M', hm, rfl, hrow, hmk, hon⟩ := hrel
        have HROW2 := Lib.hid hrow
        have HMK := Lib.hid hmk
        have HON := Lib.hid hon
        have HBW := Lib.hid (show Below g w wr from hon.below (Nat.le_refl _) (Nat.le_of_lt hgw))
        clear hrow hmk hon c0 f0
        have k4 : wr.cell? ⟨b, o + i * 5 + 4, none⟩ = some (.slice A3 ss[i].2.2.2.length c3) := (HBW.out.cell (p := ⟨b, o + i * 5 + 4, none⟩) HK4.out.1).trans HK4.out.2
        by_cases hlm : m < ss[i].2.2.2.length
        · obtain ⟨b', o', rfl, hb', q1⟩ := (HR.out.below HBW.out (Nat.le_refl _)).getS hlm
          obtain ⟨z0, z1⟩ := aheadB_at (formed_at HF.out hi) hlm
          obtain ⟨fn, hfn⟩ : ∃ n : Nat, ss[i].2.2.2[m] = (n : Int) := ⟨ss[i].2.2.2[m].toNat, by omega⟩
          rw [hfn] at q1 z0 z1
          have hfi : fn < i := by omega
          have CN := Lib.hid (IH.out fn (by omega) (by omega) M' (.slice (some ⟨b, o, none⟩) ss.length c) wr (H.out.below HBW.out (Nat.le_refl _)) HROW2.out (HMK.out.closed HCL.out hfi))
          have HNX := Lib.hid (show ∀ M2 : Nat → Bool, (∀ l, M2 l = true ↔ M' l = true ∨ NeedR ss fn l) → NkAt ss M i (m + 1) M2 from fun M2 h2 => by
            have hm2 : m < (fromsAt ss i).length := by rw [HFE.out]; exact hlm
            have e : (fromsAt ss i)[m] = (fn : Int) := by simp only [HFE.out]; exact hfn
            exact HMK.out.next hm2 fun l => by rw [e]; simpa using h2 l)
          clear hfn hb'
          go_wp2_with (go_at_call 32; refine CN.out.mono ?_; rintro e w4 ⟨rfl, M4, r4, m4, o4⟩; have H4 := Lib.hid (And.intro r4 (And.intro m4 o4)); clear r4 m4 o4)
          go_roundw
          case rel => exact ⟨m + 1, M4, by omega, by go_num, H4.out.1, HNX.out M4 H4.out.2.1, HON.out.trans H4.out.2.2⟩
          case measure => simp [intOf]; omega
        · have HE := Lib.hid (show ∀ l, M' l = true ↔ M l = true ∨ NeedR ss i l from NkAt.done HF.out (by
            have e : m = (fromsAt ss i).length := by rw [HFE.out]; omega
            rw [← e]
            exact HMK.out))
          go_wp2_with (fail)
          go_end0
          exact ⟨rfl, M', HROW2.out, HE.out, HON.out⟩
    · have HE := Lib.hid (show ∀ l, M l = true ↔ M l = true ∨ NeedR ss i l from fun l => ⟨.inl, fun h => by
        rcases h with h | h
        · exact h
        · exact HCL.out.need HF.out hmi.symm h⟩)
      clear hmi
      go_enter Try.func32, Try.ntmps32
      go_wp2_with (fail)
      refine bodyPost_ret (v := .tuple #[]) (by simp [results, Try.results32, go_sem]) rfl ?_
      exact ⟨rfl, M, HROW.out, HE.out, Only.refl _ _ _⟩

end Go.Proofs.Ytcoelmhlkfignaa
/-
  Regions that draw their order and end in a store to a cell that they load: the condition on the world holds until operation t has come up, and is released then. Laws of any program.
-/
namespace Go.Proofs.Ytcoelmhlkfignaa
open Go

section
variable {P : Program} {ops : Array Oper} {Q : Exit → Act → World → Prop} {md : Region.Mode} {S : World → Prop} {t : Nat}

/-- Whatever order is picked from here on, and S holds behind each operation that is carried out, until t has come up. -/
def wpAnyR (P : Program) (md : Region.Mode) (ops : Array Oper) (Q : Exit → Act → World → Prop) (S : World → Prop) (t : Nat) : Nat → Array Bool → Act → World → Prop
  | 0, listed, a, w => Region.ready md ops listed = [] ∧ Q .normal a w
  | fuel + 1, listed, a, w =>
    (Region.ready md ops listed = [] → Q .normal a w) ∧
    ∀ i ∈ Region.ready md ops listed, wpOp P ops Q i (fun a' w' => ((listed.setIfInBounds i true).getD t true = false → S w') ∧ wpAnyR P md ops Q S t fuel (listed.setIfInBounds i true) a' w') a w

theorem wpAny_of_rel : ∀ (fuel : Nat) (listed : Array Bool) (a : Act) (w : World), wpAnyR P md ops Q S t fuel listed a w → wpAny P md ops Q fuel listed a w
  | 0, _, _, _, h => h
  | fuel + 1, _, _, _, h => ⟨h.1, fun i hi => wpOp_mono (fun a' w' h' => wpAny_of_rel fuel _ a' w' h'.2) (h.2 i hi)⟩

/-- None of D has come up, and each waits for i or for one of D. -/
def blockedB (md : Region.Mode) (ops : Array Oper) (listed : Array Bool) (i : Nat) (D : List Nat) : Bool :=
  !D.contains i && D.all fun d => !listed.getD d true && ((ops[d]?).map fun o => o.after.any fun e => Region.binds md e && (e.on == i || D.contains e.on)).getD false

/-- None of D may come up while i has not. -/
theorem not_ready_of_blocked {listed : Array Bool} {i : Nat} {D : List Nat} (h : blockedB md ops listed i D = true) (hi : listed.getD i true = false) {d : Nat} (hd : d ∈ D) : d ∉ Region.ready md ops listed := by
  intro hr
  obtain ⟨_, o, ho, hall⟩ := mem_ready.1 hr
  simp only [blockedB, Bool.and_eq_true, List.all_eq_true] at h
  have h2 := (h.2 d hd).2
  rw [ho] at h2
  simp only [Option.map_some, Option.getD_some, Array.any_eq_true', Bool.and_eq_true, Bool.or_eq_true, beq_iff_eq] at h2
  obtain ⟨e, he, hb, hon⟩ := h2
  have hl := hall e he hb
  have un : ∀ k : Nat, listed.getD k true = false → listed.getD k false = true → False := by
    intro k h1 h2
    rcases Nat.lt_or_ge k listed.size with h' | h'
    · simp [h'] at h1 h2
      rw [h1] at h2
      cases h2
    · simp [Array.getElem?_eq_none h'] at h1
  rcases hon with e1 | e1
  · rw [e1] at hl
    exact un i hi hl
  · have h3 := (h.2 e.on (by simpa using e1)).1
    exact un _ (by simpa using h3) hl

theorem blocked_set {listed : Array Bool} {i j : Nat} {D : List Nat} (h : blockedB md ops listed i D = true) (hj : j ∉ D) : blockedB md ops (listed.setIfInBounds j true) i D = true := by
  simp only [blockedB, Bool.and_eq_true, List.all_eq_true] at h ⊢
  refine ⟨h.1, fun d hd => ?_⟩
  have := h.2 d hd
  refine ⟨?_, this.2⟩
  rw [getD_set_ne true (show j ≠ d from fun e => hj (by rw [e]; exact hd))]
  exact this.1

theorem wpAnyR_first {i : Nat} {oi : Oper} {v : Value} {D : List Nat} (hi : ops[i]? = some oi) (hsel : ∀ (j : Nat) (o : Oper) cs b, ops[j]? = some o → o.op ≠ .select cs b)
    (hQ : ∀ c a w, Q (.panic c) (a.put oi.dst v) w → Q (.panic c) a w) (ht : t ∈ D) :
    ∀ (fuel : Nat) (listed : Array Bool) (a : Act) (w : World),
      (∀ j oj, ops[j]? = some oj → j ≠ i → listed.getD j true = false → (∀ e ∈ oj.after, Region.binds md e = true → e.on ≠ i) → oi.apart ops oj = true) →
      i ∈ Region.ready md ops listed → blockedB md ops listed i D = true → YieldsIf P ops S oi v a → S w →
      wpAnyR P md ops Q S t fuel (listed.setIfInBounds i true) (a.put oi.dst v) w → wpAnyR P md ops Q S t (fuel + 1) listed a w := by
  intro fuel
  induction fuel with
  | zero =>
    intro listed a w _ hr hbl hy hS H
    refine ⟨fun h => (by rw [h] at hr; cases hr), fun j hj => ?_⟩
    by_cases hji : j = i
    · subst hji; exact hy.wpOp hi hS ⟨fun _ => hS, H⟩
    · have := ready_mono hj hji
      rw [H.1] at this
      cases this
  | succ fuel ih =>
    intro listed a w hfree hr hbl hy hS H
    refine ⟨fun h => (by rw [h] at hr; cases hr), fun j hj => ?_⟩
    by_cases hji : j = i
    · subst hji; exact hy.wpOp hi hS ⟨fun _ => hS, H⟩
    · have h1 := H.2 j (ready_mono hj hji)
      have hjD : j ∉ D := fun hd => not_ready_of_blocked hbl (mem_ready.1 hr).1 hd hj
      have hiD : i ∉ D := by
        simp only [blockedB, Bool.and_eq_true] at hbl
        simpa using hbl.1
      have htl : listed.getD t true = false := by
        simp only [blockedB, Bool.and_eq_true, List.all_eq_true] at hbl
        simpa using (hbl.2 t ht).1
      have htl2 : ((listed.setIfInBounds i true).setIfInBounds j true).getD t true = false := by
        rw [getD_set_ne true (show j ≠ t from fun e => hjD (by rw [e]; exact ht)), getD_set_ne true (show i ≠ t from fun e => hiD (by rw [e]; exact ht))]
        exact htl
      obtain ⟨hjun, oj, hoj, hall⟩ := mem_ready.1 hj
      have hnot : ∀ e ∈ oj.after, Region.binds md e = true → e.on ≠ i := fun e he hb heq => by
        have h1 := hall e he hb
        have h0 := (mem_ready.1 hr).1
        rw [heq] at h1
        rcases Nat.lt_or_ge i listed.size with h' | h'
        · simp [h'] at h0 h1; rw [h0] at h1; cases h1
        · simp [Array.getElem?_eq_none h'] at h1
      have h2 := wpOp_putIf hoj (hfree j oj hoj hji hjun hnot) (fun cs b => hsel i oi cs b hi) (fun cs b => hsel j oj cs b hoj) hQ hy h1
      have hfree' : ∀ k ok, ops[k]? = some ok → k ≠ i → (listed.setIfInBounds j true).getD k true = false →
          (∀ e ∈ ok.after, Region.binds md e = true → e.on ≠ i) → oi.apart ops ok = true := fun k ok hk hki hun hno => by
        refine hfree k ok hk hki ?_ hno
        by_cases hjk : j = k
        · subst hjk; exact hjun
        · rw [getD_set_ne true hjk] at hun; exact hun
      refine wpOp_mono (fun a' w' h3 => ⟨fun _ => h3.2.1 htl2, ih (listed.setIfInBounds j true) a' w' hfree' (ready_mono hr (Ne.symm hji)) (blocked_set hbl hjD) h3.1 (h3.2.1 htl2) ?_⟩) h2
      rw [Array.setIfInBounds_comm _ _ hji]
      exact h3.2.2

/-- What waits for i, at once or over others. -/
def descOf (md : Region.Mode) (ops : Array Oper) (i : Nat) : List Nat :=
  (List.range ops.size).foldl (fun D k => if ((ops[k]?).map fun o => o.after.any fun e => Region.binds md e && (e.on == i || D.contains e.on)).getD false then D ++ [k] else D) []
/-- All that is asked of a take, as one Bool. -/
def takeOk (md : Region.Mode) (ops : Array Oper) (listed : Array Bool) (i t : Nat) : Bool :=
  Region.noSelect ops && Region.free md ops listed i && (Region.ready md ops listed).contains i && blockedB md ops listed i (descOf md ops i) && (descOf md ops i).contains t
def pureOk (md : Region.Mode) (ops : Array Oper) (listed : Array Bool) (i : Nat) : Bool :=
  Region.noSelect ops && Region.free md ops listed i && (Region.ready md ops listed).contains i

/-- Take number i first: what it reads holds in every world that meets S, and t waits for it. -/
theorem wpAnyR_take {i d : Nat} {oi : Oper} (v : Value) {fuel : Nat} {listed : Array Bool} {a : Act} {w : World} (hi : ops[i]? = some oi) (hd : oi.dst = some d)
    (hok : takeOk md ops listed i t = true)
    (hQ : ∀ c a w, Q (.panic c) (a.put oi.dst v) w → Q (.panic c) a w) (hw : Region.wanted oi (yielded ops a.tmps) = true) (hy : ∀ w, S w → (execOp a.eval oi).run P w = .ok (.value v) w) (hS : S w)
    (h : wpAnyR P md ops Q S t fuel (listed.setIfInBounds i true) { a with tmps := a.tmps.setIfInBounds d v } w) : wpAnyR P md ops Q S t (fuel + 1) listed a w := by
  have h : wpAnyR P md ops Q S t fuel (listed.setIfInBounds i true) (a.put oi.dst v) w := by rw [hd]; exact h
  simp only [takeOk, Bool.and_eq_true] at hok
  obtain ⟨⟨⟨⟨h1, h2⟩, h3⟩, h4⟩, h5⟩ := hok
  exact wpAnyR_first hi (Region.noSelect_spec h1) hQ (by simpa using h5) fuel listed a w (Region.free_spec hi h2) (by simpa using h3) h4 (.inl ⟨hw, hy⟩) hS h

theorem wpAnyR_first0 {i : Nat} {oi : Oper} {v : Value} (hi : ops[i]? = some oi) (hsel : ∀ (j : Nat) (o : Oper) cs b, ops[j]? = some o → o.op ≠ .select cs b)
    (hQ : ∀ c a w, Q (.panic c) (a.put oi.dst v) w → Q (.panic c) a w) :
    ∀ (fuel : Nat) (listed : Array Bool) (a : Act) (w : World),
      (∀ j oj, ops[j]? = some oj → j ≠ i → listed.getD j true = false → (∀ e ∈ oj.after, Region.binds md e = true → e.on ≠ i) → oi.apart ops oj = true) →
      i ∈ Region.ready md ops listed → YieldsIf P ops (fun _ => True) oi v a → (listed.getD t true = false → S w) → t ≠ i →
      wpAnyR P md ops Q S t fuel (listed.setIfInBounds i true) (a.put oi.dst v) w → wpAnyR P md ops Q S t (fuel + 1) listed a w := by
  intro fuel
  induction fuel with
  | zero =>
    intro listed a w _ hr hy hS hti H
    refine ⟨fun h => (by rw [h] at hr; cases hr), fun j hj => ?_⟩
    by_cases hji : j = i
    · subst hji; exact hy.wpOp hi trivial ⟨fun h => hS (by rwa [getD_set_ne true (Ne.symm hti)] at h), H⟩
    · have := ready_mono hj hji
      rw [H.1] at this
      cases this
  | succ fuel ih =>
    intro listed a w hfree hr hy hS hti H
    refine ⟨fun h => (by rw [h] at hr; cases hr), fun j hj => ?_⟩
    by_cases hji : j = i
    · subst hji; exact hy.wpOp hi trivial ⟨fun h => hS (by rwa [getD_set_ne true (Ne.symm hti)] at h), H⟩
    · have h1 := H.2 j (ready_mono hj hji)
      obtain ⟨hjun, oj, hoj, hall⟩ := mem_ready.1 hj
      have hnot : ∀ e ∈ oj.after, Region.binds md e = true → e.on ≠ i := fun e he hb heq => by
        have h1 := hall e he hb
        have h0 := (mem_ready.1 hr).1
        rw [heq] at h1
        rcases Nat.lt_or_ge i listed.size with h' | h'
        · simp [h'] at h0 h1; rw [h0] at h1; cases h1
        · simp [Array.getElem?_eq_none h'] at h1
      have h2 := wpOp_putIf hoj (hfree j oj hoj hji hjun hnot) (fun cs b => hsel i oi cs b hi) (fun cs b => hsel j oj cs b hoj) hQ hy h1
      have hfree' : ∀ k ok, ops[k]? = some ok → k ≠ i → (listed.setIfInBounds j true).getD k true = false →
          (∀ e ∈ ok.after, Region.binds md e = true → e.on ≠ i) → oi.apart ops ok = true := fun k ok hk hki hun hno => by
        refine hfree k ok hk hki ?_ hno
        by_cases hjk : j = k
        · subst hjk; exact hjun
        · rw [getD_set_ne true hjk] at hun; exact hun
      have hback : ∀ {W : World}, (((listed.setIfInBounds i true).setIfInBounds j true).getD t true = false → S W) → ((listed.setIfInBounds j true).getD t true = false → S W) := fun h hl => h (by
        rw [Array.setIfInBounds_comm _ _ (Ne.symm hji), getD_set_ne true (Ne.symm hti)]
        exact hl)
      refine wpOp_mono (fun a' w' h3 => ⟨hback h3.2.1, ih (listed.setIfInBounds j true) a' w' hfree' (ready_mono hr (Ne.symm hji)) h3.1 (hback h3.2.1) hti ?_⟩) h2
      rw [Array.setIfInBounds_comm _ _ hji]
      exact h3.2.2
/-- Take number i first: it yields its value in whatever world. -/
theorem wpAnyR_pure {i d : Nat} {oi : Oper} (v : Value) {fuel : Nat} {listed : Array Bool} {a : Act} {w : World} (hi : ops[i]? = some oi) (hd : oi.dst = some d)
    (hok : pureOk md ops listed i = true) (hti : t ≠ i)
    (hQ : ∀ c a w, Q (.panic c) (a.put oi.dst v) w → Q (.panic c) a w) (hw : Region.wanted oi (yielded ops a.tmps) = true) (hy : ∀ w, (execOp a.eval oi).run P w = .ok (.value v) w) (hS : listed.getD t true = false → S w)
    (h : wpAnyR P md ops Q S t fuel (listed.setIfInBounds i true) { a with tmps := a.tmps.setIfInBounds d v } w) : wpAnyR P md ops Q S t (fuel + 1) listed a w := by
  have h : wpAnyR P md ops Q S t fuel (listed.setIfInBounds i true) (a.put oi.dst v) w := by rw [hd]; exact h
  simp only [pureOk, Bool.and_eq_true] at hok
  obtain ⟨⟨h1, h2⟩, h3⟩ := hok
  exact wpAnyR_first0 hi (Region.noSelect_spec h1) hQ fuel listed a w (Region.free_spec hi h2) (by simpa using h3) (.inl ⟨hw, fun w _ => hy w⟩) hS hti h

/-- The one that may come up. -/
theorem wpAnyR_one {i : Nat} {o : Oper} {fuel : Nat} {listed : Array Bool} {a : Act} {w : World} (hr : Region.ready md ops listed = [i]) (ho : ops[i]? = some o)
    (h : ∀ K' : Act → World → Prop, Shut (∀ a w, ((listed.setIfInBounds i true).getD t true = false → S w) → wpAnyR P md ops Q S t fuel (listed.setIfInBounds i true) a w → K' a w) → if Region.wanted o (yielded ops a.tmps) = true then Oper.wp P o a w K' Q else K' (a.put o.dst undef) w) :
    wpAnyR P md ops Q S t (fuel + 1) listed a w := by
  refine ⟨fun h0 => (by rw [hr] at h0; cases h0), fun j hj => ?_⟩
  rw [hr] at hj
  obtain rfl : j = i := by simpa using hj
  exact wpOp_step ho (fun K' hK => h K' (fun a w hS hW => hK a w ⟨hS, hW⟩))

/-- The two that may come up. -/
theorem wpAnyR_two {i j : Nat} {oi oj : Oper} {fuel : Nat} {listed : Array Bool} {a : Act} {w : World} (hr : Region.ready md ops listed = [i, j]) (hi : ops[i]? = some oi) (hj : ops[j]? = some oj)
    (h1 : ∀ K' : Act → World → Prop, Shut (∀ a w, ((listed.setIfInBounds i true).getD t true = false → S w) → wpAnyR P md ops Q S t fuel (listed.setIfInBounds i true) a w → K' a w) → if Region.wanted oi (yielded ops a.tmps) = true then Oper.wp P oi a w K' Q else K' (a.put oi.dst undef) w)
    (h2 : ∀ K' : Act → World → Prop, Shut (∀ a w, ((listed.setIfInBounds j true).getD t true = false → S w) → wpAnyR P md ops Q S t fuel (listed.setIfInBounds j true) a w → K' a w) → if Region.wanted oj (yielded ops a.tmps) = true then Oper.wp P oj a w K' Q else K' (a.put oj.dst undef) w) :
    wpAnyR P md ops Q S t (fuel + 1) listed a w := by
  refine ⟨fun h0 => (by rw [hr] at h0; cases h0), fun k hk => ?_⟩
  rw [hr] at hk
  rcases List.mem_cons.1 hk with rfl | hk
  · exact wpOp_step hi (fun K' hK => h1 K' (fun a w hS hW => hK a w ⟨hS, hW⟩))
  · obtain rfl : k = j := by simpa using hk
    exact wpOp_step hj (fun K' hK => h2 K' (fun a w hS hW => hK a w ⟨hS, hW⟩))

theorem wpAnyR_done {fuel : Nat} {listed : Array Bool} {a : Act} {w : World} (hr : Region.ready md ops listed = []) (h : Q .normal a w) : wpAnyR P md ops Q S t fuel listed a w := by
  cases fuel with
  | zero => exact ⟨hr, h⟩
  | succ fuel => exact ⟨fun _ => h, fun j hj => (by rw [hr] at hj; cases hj)⟩

theorem wp_region_rel (S : World → Prop) (t n : Nat) {id : Nat} {a : Act} {w : World} (hm : P.follows .mixedOrders = true) (hn : ops.size = n)
    (h : wpAnyR P .any ops Q S t n (Array.replicate n false) a w.drew) : (Code.region id ops true).wp P Q a w :=
  wp_region_any hm (wpAny_of_rel _ _ _ _ (hn ▸ h))

end
end Go.Proofs.Ytcoelmhlkfignaa
/-
  The walk of copyStep.
-/
namespace Go.Proofs.Ytcoelmhlkfignaa
open Go.RowKit

/-- A row of integers that make laid and a loop filled. -/
theorem rowIs_own {w : World} {g lo hi n : Nat} {xs : List Int} (h : w.rowIs g 3 n (fun j => .int .i64 (xs.getD j 0))) (hn : xs.length = n) (hlo : lo ≤ g) (hhi : g < hi) (hm : n ≤ maxLen) : OwnInts w lo hi (.slice (some ⟨g, 0, none⟩) n n) xs := by
  subst hn
  exact OwnInts.of_rowIs h hlo hhi hm

set_option maxHeartbeats 4000000 in
set_option maxRecDepth 100000 in
theorem copyStep_any (v : Value) (s : LStep) (gp np : Nat) (N : Nat → Nat) (w : World) (h : RdStep w w.heap.size v s) (hp : w.rowIs gp 3 np (fun j => .int .i64 ((N j : Nat) : Int)) ∨ s.2.2.2 = []) (hf : ∀ f ∈ s.2.2.2, 0 ≤ f ∧ f < (np : Int)) (hs : szSt s ≤ 1048576) :
    Calls Try.prog 36 #[v, .slice (some ⟨gp, 0, none⟩) np np] w fun e w' => ∃ P1 d1 P2 d2 P3 d3, e = .returned (.agg #[.int .i64 s.1.1, .slice P1 s.1.2.length d1, .int .i64 s.2.1, .slice P2 s.2.2.1.length d2, .slice P3 s.2.2.2.length d3]) ∧
      (OwnInts w' w.heap.size w'.heap.size (.slice P1 s.1.2.length d1) s.1.2 ∧ OwnInts w' w.heap.size w'.heap.size (.slice P2 s.2.2.1.length d2) s.2.2.1 ∧ OwnInts w' w.heap.size w'.heap.size (.slice P3 s.2.2.2.length d3) (s.2.2.2.map fun f => ((N f.toNat : Nat) : Int))) ∧
      ((∀ g, (Value.slice P1 s.1.2.length d1).ownBlock = some g → (Value.slice P2 s.2.2.1.length d2).ownBlock ≠ some g) ∧ (∀ g, (Value.slice P1 s.1.2.length d1).ownBlock = some g → (Value.slice P3 s.2.2.2.length d3).ownBlock ≠ some g) ∧ (∀ g, (Value.slice P2 s.2.2.1.length d2).ownBlock = some g → (Value.slice P3 s.2.2.2.length d3).ownBlock ≠ some g)) ∧ Below w.heap.size w w' := by
  obtain ⟨i0, hi0, hz0, hz1, hz2⟩ := info_parts Try.infoInt
  obtain ⟨x, y, z, rfl, h1, h2, h3⟩ := h
  unfold szSt at hs
  have hmk := run_make_row' (P := Try.prog) 38 3 (.int .i64 0) 8 Try.underlying38 Try.infoInt rfl .i64 .i64 s.2.2.2.length (by omega) (by omega)
  have H1 := Lib.hid h1
  have H2 := Lib.hid h2
  have H3 := Lib.hid h3
  have HP := Lib.hid hp
  have HF := Lib.hid hf
  obtain ⟨A1, c1, rfl, _, _⟩ := h1
  obtain ⟨A2, c2, rfl, _, _⟩ := h2
  obtain ⟨A3, c3, rfl, _, _⟩ := h3
  obtain ⟨F, hF⟩ : ∃ F, F = s.2.2.2.map fun f => ((N f.toNat : Nat) : Int) := ⟨_, rfl⟩
  have HFF := Lib.hid hF
  have HFL := Lib.hid (show F.length = s.2.2.2.length by rw [hF]; simp)
  rw [← hF]
  clear hp hf hF
  go_enter Try.func36, Try.ntmps36
  go_upto_region 2 with fail
  obtain ⟨w2, hw2⟩ : ∃ w2, w2 = (w.alloc (Obj.cells #[Value.int IntKind.i64 s.1.1, Value.slice A1 s.1.2.length c1, Value.int IntKind.i64 s.2.1, Value.slice A2 s.2.2.1.length c2, Value.slice A3 s.2.2.2.length c3] 46)).alloc (Obj.cells #[Value.int .i64 0, .slice none 0 0, .int .i64 0, .slice none 0 0, .slice none 0 0] 46) := ⟨_, rfl⟩
  have B2 : Below w.heap.size w w2 := by rw [hw2]; exact below2 _ _ _
  have s2 : w2.heap.size = w.heap.size + 2 := by rw [hw2]; simp
  have Y0 : Blk w2 w.heap.size 46 #[.int .i64 s.1.1, .slice A1 s.1.2.length c1, .int .i64 s.2.1, .slice A2 s.2.2.1.length c2, .slice A3 s.2.2.2.length c3] := by rw [hw2]; exact (Blk.new w _ _).alloc _
  have Y1 : Blk w2 (w.heap.size + 1) 46 #[.int .i64 0, .slice none 0 0, .int .i64 0, .slice none 0 0, .slice none 0 0] := by
    rw [hw2]
    simpa using Blk.new (w.alloc (Obj.cells #[Value.int IntKind.i64 s.1.1, Value.slice A1 s.1.2.length c1, Value.int IntKind.i64 s.2.1, Value.slice A2 s.2.2.1.length c2, Value.slice A3 s.2.2.2.length c3] 46)) 46 #[.int .i64 0, .slice none 0 0, .int .i64 0, .slice none 0 0, .slice none 0 0]
  obtain ⟨bs, hbs⟩ : ∃ bs, bs = w.heap.size := ⟨_, rfl⟩
  obtain ⟨gf, hgf0⟩ : ∃ gf, gf = w.heap.size + 1 + 1 := ⟨_, rfl⟩
  have hgf : gf = w2.heap.size := by omega
  obtain ⟨w3, hw3⟩ : ∃ w3, w3 = w2.alloc (Obj.cells (madeCells #[Value.int .i64 0] s.2.2.2.length) 3) := ⟨_, rfl⟩
  have HB3 := Lib.hid (show Below bs w w3 by rw [hw3, hbs]; exact bthen B2 (below1 _ _))
  have HSZ := Lib.hid (show bs = w.heap.size ∧ gf = bs + 2 ∧ w3.heap.size = gf + 1 by rw [hw3, hgf, hbs]; exact ⟨rfl, s2, by simp⟩)
  have X0 := Lib.hid (show Blk w3 bs 46 #[.int .i64 s.1.1, .slice A1 s.1.2.length c1, .int .i64 s.2.1, .slice A2 s.2.2.1.length c2, .slice A3 s.2.2.2.length c3] by rw [hw3, hbs]; exact Y0.alloc _)
  have X1 := Lib.hid (show Blk w3 (bs + 1) 46 #[.int .i64 0, .slice none 0 0, .int .i64 0, .slice none 0 0, .slice none 0 0] by rw [hw3, hbs]; exact Y1.alloc _)
  have HR0 := Lib.hid (show w3.rowIs gf 3 s.2.2.2.length (fun j => if j < 0 then .int .i64 (F.getD j 0) else .int .i64 0) from by
    rw [hw3, hgf]
    exact (World.rowIs_made w2 _ _ _).congr fun j _ => by simp)
  have x4 : w3.cell? ⟨bs, 4, none⟩ = some (.slice A3 s.2.2.2.length c3) := X0.out.cell 4
  rw [← hw2, ← hw3, ← hgf0, ← hbs]
  clear hw2 hw3 hgf hgf0 hbs B2 s2 Y0 Y1
  go_wp2_with fail
  go_loopw [15] (fun i wr => ∃ k : Nat, k ≤ s.2.2.2.length ∧ i = .int .i64 k ∧ wr.rowIs gf 3 s.2.2.2.length (fun j => if j < k then .int .i64 (F.getD j 0) else .int .i64 0) ∧ Below gf w3 wr) (fun i _ => s.2.2.2.length - (intOf i).toNat)
  case atStart => exact ⟨0, Nat.zero_le _, rfl, HR0.out, Below.refl _ _⟩
  case round =>
    obtain ⟨k, hk, rfl, hrow, hbe⟩ := hrel
    have HROW := Lib.hid hrow
    have HBE := Lib.hid hbe
    have HBW := Lib.hid (show Below w.heap.size w wr by have := HSZ.out; rw [← this.1]; exact HB3.out.trans (hbe.mono (by omega)))
    clear hrow hbe x4
    by_cases hlt : k < s.2.2.2.length
    · obtain ⟨b', o', rfl, hb', q0⟩ := (H3.out.below HBW.out (Nat.le_refl _)).getS hlt
      obtain ⟨z0, z1⟩ := HF.out _ (List.getElem_mem hlt)
      obtain ⟨fn, hfn⟩ : ∃ n : Nat, s.2.2.2[k] = (n : Int) := ⟨s.2.2.2[k].toNat, by omega⟩
      rw [hfn] at q0 z0 z1
      have hfp : fn < np := by omega
      have hpr : w.rowIs gp 3 np (fun j => .int .i64 ((N j : Nat) : Int)) := by
        rcases HP.out with h | h
        · exact h
        · rw [h] at hlt; simp at hlt
      have q1 := (hpr.of_block (HBW.out.block gp hpr.lt)).cell hfp
      have c1 := HROW.out.cell hlt
      have f1 := HROW.out.frozen k
      have HN := Lib.hid (show (wr.setCell ⟨gf, k, none⟩ (.int .i64 ((N fn : Nat) : Int))).rowIs gf 3 s.2.2.2.length (fun j => if j < k + 1 then .int .i64 (F.getD j 0) else .int .i64 0) ∧ Below gf w3 (wr.setCell ⟨gf, k, none⟩ (.int .i64 ((N fn : Nat) : Int))) from by
        refine ⟨(HROW.out.set k _).congr fun j hj => ?_, HBE.out.setCell (Nat.le_refl _) _⟩
        by_cases e : j = k
        · subst e
          rw [if_pos rfl, if_pos (by omega), HFF.out, List.getD_eq_getElem?_getD, List.getElem?_map, List.getElem?_eq_getElem hlt, hfn]
          simp
        · rw [if_neg e]
          by_cases h2 : j < k
          · rw [if_pos h2, if_pos (by omega)]
          · rw [if_neg h2, if_neg (by omega)])
      obtain ⟨nf, hnf⟩ : ∃ nf, nf = N fn := ⟨_, rfl⟩
      rw [← hnf] at q1 HN
      have c1' : ∃ u, wr.cell? ⟨gf, k, none⟩ = some u := ⟨_, c1⟩
      obtain ⟨u, c1'⟩ := c1'
      clear hpr hb' hfn hnf c1
      go_wp2_with fail
      go_roundw
      case rel => exact ⟨k + 1, by omega, by go_num, HN.out.1, HN.out.2⟩
      case measure => simp [intOf]; omega
    · have hkn : k = s.2.2.2.length := by omega
      have HO := Lib.hid (show wr.rowIs gf 3 s.2.2.2.length (fun j => .int .i64 (F.getD j 0)) from HROW.out.congr fun j hj => by rw [if_pos (by omega)])
      clear hkn HROW
      go_upto_region 7 with fail
      obtain ⟨wy, hwy⟩ : ∃ wy, wy = wr.drew := ⟨_, rfl⟩
      have hX0r : Blk wr bs 46 #[.int .i64 s.1.1, .slice A1 s.1.2.length c1, .int .i64 s.2.1, .slice A2 s.2.2.1.length c2, .slice A3 s.2.2.2.length c3] := X0.out.below HBE.out (by have := HSZ.out; omega)
      have hX1r : Blk wr (bs + 1) 46 #[.int .i64 0, .slice none 0 0, .int .i64 0, .slice none 0 0, .slice none 0 0] := X1.out.below HBE.out (by have := HSZ.out; omega)
      have hX0 : Blk wy bs 46 #[.int .i64 s.1.1, .slice A1 s.1.2.length c1, .int .i64 s.2.1, .slice A2 s.2.2.1.length c2, .slice A3 s.2.2.2.length c3] := by rw [hwy]; exact hX0r
      have hX1 : Blk wy (bs + 1) 46 #[.int .i64 0, .slice none 0 0, .int .i64 0, .slice none 0 0, .slice none 0 0] := by rw [hwy]; exact hX1r
      have HX0 := Lib.hid hX0
      have HX1 := Lib.hid hX1
      have HOY := Lib.hid (show wy.rowIs gf 3 s.2.2.2.length (fun j => .int .i64 (F.getD j 0)) by rw [hwy]; exact HO.out)
      have HBY := Lib.hid (show Below w.heap.size w wy by rw [hwy]; exact HBW.out.drew)
      have HSY := Lib.hid (show w3.heap.size ≤ wy.heap.size by rw [hwy]; exact HBE.out.size)
      obtain ⟨SS, hSS⟩ : ∃ SS : World → Prop, SS = (fun W => Below wy.heap.size wy W ∧ W.cell? ⟨bs, 0, none⟩ = some (.int .i64 s.1.1) ∧ W.cell? ⟨bs, 1, none⟩ = some (.slice A1 s.1.2.length c1) ∧ W.cell? ⟨bs, 2, none⟩ = some (.int .i64 s.2.1) ∧ W.cell? ⟨bs, 3, none⟩ = some (.slice A2 s.2.2.1.length c2)) := ⟨_, rfl⟩
      have HB := Lib.hid (show ∀ W, SS W → (Below wy.heap.size wy W ∧ W.cell? ⟨bs, 0, none⟩ = some (.int .i64 s.1.1) ∧ W.cell? ⟨bs, 1, none⟩ = some (.slice A1 s.1.2.length c1) ∧ W.cell? ⟨bs, 2, none⟩ = some (.int .i64 s.2.1) ∧ W.cell? ⟨bs, 3, none⟩ = some (.slice A2 s.2.2.1.length c2)) from by rw [hSS]; exact fun W hW => hW)
      have HS := Lib.hid (show ∀ W, Below wy.heap.size wy W → SS W from by
        rw [hSS]
        intro W hW
        have h := HX0.out.below hW HX0.out.lt
        exact ⟨hW, h.cell 0, h.cell 1, h.cell 2, h.cell 3⟩)
      have SB : SS wy := HS.out _ (Below.refl _ _)
      clear hX0 hX1 hSS hX0r hX1r
      refine wp_region_rel SS 10 11 (by kernel_rfl) rfl ?_
      rw [← hwy]
      clear hwy
      refine wpAnyR_pure (i := 0) (oi := _) ?va0 rfl rfl (by kernel_rfl) (by decide) (fun _ _ _ h => h) rfl ?hya0 (fun _ => SB) ?resta0
      case hya0 => (intro W; go_simp; (try with_reducible rfl))
      try simp only [List.setIfInBounds_toArray, List.set_cons_zero, List.set_cons_succ]
      refine wpAnyR_pure (i := 3) (oi := _) ?va3 rfl rfl (by kernel_rfl) (by decide) (fun _ _ _ h => h) rfl ?hya3 (fun _ => SB) ?resta3
      case hya3 => (intro W; go_simp; (try with_reducible rfl))
      try simp only [List.setIfInBounds_toArray, List.set_cons_zero, List.set_cons_succ]
      refine wpAnyR_pure (i := 5) (oi := _) ?va5 rfl rfl (by kernel_rfl) (by decide) (fun _ _ _ h => h) rfl ?hya5 (fun _ => SB) ?resta5
      case hya5 => (intro W; go_simp; (try with_reducible rfl))
      try simp only [List.setIfInBounds_toArray, List.set_cons_zero, List.set_cons_succ]
      refine wpAnyR_pure (i := 8) (oi := _) ?va8 rfl rfl (by kernel_rfl) (by decide) (fun _ _ _ h => h) rfl ?hya8 (fun _ => SB) ?resta8
      case hya8 => (intro W; go_simp; (try with_reducible rfl))
      try simp only [List.setIfInBounds_toArray, List.set_cons_zero, List.set_cons_succ]
      refine wpAnyR_take (i := 1) (oi := _) ?va1 rfl rfl (by kernel_rfl) (fun _ _ _ h => h) rfl ?hya1 SB ?resta1
      case hya1 => (intro W hW; obtain ⟨E, E0, E1, E2, E3⟩ := HB.out W hW; go_simp; (try with_reducible rfl))
      try simp only [List.setIfInBounds_toArray, List.set_cons_zero, List.set_cons_succ]
      refine wpAnyR_take (i := 4) (oi := _) ?va4 rfl rfl (by kernel_rfl) (fun _ _ _ h => h) rfl ?hya4 SB ?resta4
      case hya4 => (intro W hW; obtain ⟨E, E0, E1, E2, E3⟩ := HB.out W hW; go_simp; (try with_reducible rfl))
      try simp only [List.setIfInBounds_toArray, List.set_cons_zero, List.set_cons_succ]
      refine wpAnyR_take (i := 6) (oi := _) ?va6 rfl rfl (by kernel_rfl) (fun _ _ _ h => h) rfl ?hya6 SB ?resta6
      case hya6 => (intro W hW; obtain ⟨E, E0, E1, E2, E3⟩ := HB.out W hW; go_simp; (try with_reducible rfl))
      try simp only [List.setIfInBounds_toArray, List.set_cons_zero, List.set_cons_succ]
      refine wpAnyR_one (i := 2) (by kernel_rfl) rfl (fun K hK => ?_)
      try rw [if_pos (show Region.wanted _ _ = true from rfl)]
      go_simp
      go_at_call 43
      refine (copyFact_any _ s.1 _ ⟨_, rfl, H1.out.on HBY.out⟩ (by omega)).mono ?_
      rintro e w5 ⟨P1, d1, rfl, o1, b1⟩
      have HO1 := Lib.hid o1
      have HB1 := Lib.hid b1
      have S5 : SS w5 := HS.out _ b1
      clear o1 b1
      refine hK.out _ _ (fun _ => S5) ?_
      clear hK K
      try simp only [List.setIfInBounds_toArray, List.set_cons_zero, List.set_cons_succ, Act.put]
      refine wpAnyR_one (i := 7) (by kernel_rfl) rfl (fun K hK => ?_)
      refine step_append_rd _ rfl (.const (.slice none 0 0)) (.tmp 34) 38 rfl w5.heap.size 3 i0 (.int .i64 0) 8 Try.underlying38 hi0 hz0 hz1 hz2 rfl (.slice none 0 0) 0 [] rfl (World.ownsRow_nil _ _ _ _) w5.heap.size _ s.2.2.1 rfl ?d1 (by unfold maxLen; omega) (by omega) (Nat.le_refl _) ?d2
      case d1 => exact H2.out.on (bthen HBY.out HB1.out)
      case d2 =>
      intro A' c' w6 hown hg hat
      have HO6 := Lib.hid (show OwnInts w6 w5.heap.size w6.heap.size (.slice A' s.2.2.1.length c') s.2.2.1 from ⟨by simpa using hown, fun g hg' => (hown.lt g (by simpa using hg')).2⟩)
      have HB6 := Lib.hid (show Below w5.heap.size w5 w6 from Below.grown (Below.refl _ _) hg (Nat.le_refl _) (fun k hk => by cases hk))
      have S6 : SS w6 := HS.out _ (bthen HB1.out HB6.out)
      simp only [Nat.zero_add]
      clear hown hg hat
      refine hK.out _ _ (fun _ => S6) ?_
      clear hK K
      try simp only [List.setIfInBounds_toArray, Act.put]
      refine wpAnyR_pure (i := 9) (oi := _) ?va9 rfl rfl (by kernel_rfl) (by decide) (fun _ _ _ h => h) rfl ?hya9 (fun _ => S6) ?resta9
      case hya9 => (intro W; go_simp; (try with_reducible rfl))
      try simp only [List.setIfInBounds_toArray, List.set_cons_zero, List.set_cons_succ]
      have hY1 : Blk w6 (bs + 1) 46 #[.int .i64 0, .slice none 0 0, .int .i64 0, .slice none 0 0, .slice none 0 0] := (HX1.out.below HB1.out HX1.out.lt).below HB6.out (HX1.out.below HB1.out HX1.out.lt).lt
      have d0 : w6.cell? ⟨bs + 1, 0, none⟩ = some (.int .i64 0) := hY1.cell 0
      have d1' : w6.cell? ⟨bs + 1, 1, none⟩ = some (.slice none 0 0) := hY1.cell 1
      have d2' : w6.cell? ⟨bs + 1, 2, none⟩ = some (.int .i64 0) := hY1.cell 2
      have d3' : w6.cell? ⟨bs + 1, 3, none⟩ = some (.slice none 0 0) := hY1.cell 3
      have d4' : w6.cell? ⟨bs + 1, 4, none⟩ = some (.slice none 0 0) := hY1.cell 4
      have f0 := hY1.frozen 0
      have f1 := hY1.frozen 1
      have f2 := hY1.frozen 2
      have f3 := hY1.frozen 3
      have f4 := hY1.frozen 4
      have HY1 := Lib.hid hY1
      clear hY1
      refine wpAnyR_one (i := 10) (by kernel_rfl) rfl (fun K hK => ?_)
      go_simp
      refine hK.out _ _ (fun hf => absurd hf (by decide)) ?_
      clear hK K
      refine wpAnyR_done (by kernel_rfl) ?_
      go_wp2_with fail
      have hS := HSZ.out
      have hz1 := HB1.out.size
      have hz6 := HB6.out.size
      have hzy := HSY.out
      refine bodyPost_ret (v := .agg #[.int .i64 s.1.1, .slice P1 s.1.2.length d1, .int .i64 s.2.1, .slice A' s.2.2.1.length c', .slice (some ⟨gf, 0, none⟩) s.2.2.2.length s.2.2.2.length]) (by simp [results, Try.results36, go_sem, d0, d1', d2', d3', d4']) rfl ⟨_, _, _, _, _, _, rfl, ⟨?_, ?_, ?_⟩, ⟨?_, ?_, ?_⟩, ?_⟩
      · refine OwnInts.mono (lo := wy.heap.size) (hi := w6.heap.size) ?_ (by omega) (by simp)
        repeat (first | with_reducible exact (HO1.out.below HB6.out (Nat.le_refl _)).mono (Nat.le_refl _) hz6 | refine OwnInts.farS ?_ (by show bs + 1 < wy.heap.size; omega) _)
      · refine OwnInts.mono (lo := w5.heap.size) (hi := w6.heap.size) ?_ (by omega) (by simp)
        repeat (first | with_reducible exact HO6.out | refine OwnInts.farS ?_ (by show bs + 1 < w5.heap.size; omega) _)
      · refine rowIs_own ?_ HFL.out (by omega) (by simp; omega) (by unfold maxLen; omega)
        repeat (first | with_reducible exact (HOY.out.of_block (HB1.out.block gf (by omega))).of_block (HB6.out.block gf (by omega)) | refine World.rowIs.setOther ?_ (by show gf ≠ bs + 1; omega) _)
      · intro g hg hg'
        have := HO1.out.block hg
        have := HO6.out.block hg'
        omega
      · intro g hg hg'
        have := HO1.out.block hg
        simp [Value.ownBlock] at hg'
        omega
      · intro g hg hg'
        have := HO6.out.block hg
        simp [Value.ownBlock] at hg'
        omega
      · repeat (first | with_reducible exact (bthen (bthen HBY.out HB1.out) HB6.out) | refine Below.setCell ?_ (by show w.heap.size ≤ bs + 1; omega) _)

end Go.Proofs.Ytcoelmhlkfignaa
/-
  The walk of the program's ProofCut.
-/
namespace Go.Proofs.Ytcoelmhlkfignaa
open Go.RowKit

theorem cutL_no {ss : List LStep} {at_ : Int} (h : cutOk ss at_ = false) : cutL ss at_ = [] := by
  unfold cutL
  rw [if_neg (by rw [h]; decide)]
theorem cutL_yes {ss : List LStep} {a : Nat} (hf : formed ss = true) (ha : a < ss.length) : cutOk ss (a : Int) = true ∧ cutL ss (a : Int) = cutTo ss (needB ss a) (a + 1) := by
  have h : cutOk ss (a : Int) = true := by
    unfold cutOk
    rw [hf]
    simp
    omega
  refine ⟨h, ?_⟩
  unfold cutL
  rw [if_pos h]
  simp
theorem cutOk_range {ss : List LStep} {at_ : Int} (h : ¬ (0 ≤ at_ ∧ at_ < (ss.length : Int))) : cutOk ss at_ = false := by
  unfold cutOk
  rw [decide_eq_false h, Bool.and_false]
theorem cutOk_formed {ss : List LStep} {at_ : Int} (h : formed ss = false) : cutOk ss at_ = false := by
  unfold cutOk
  rw [h]
  rfl
theorem OwnSteps.nil (w : World) (lo hi : Nat) : OwnSteps w lo hi (.slice none 0 0) [] := ⟨[], .nil, World.ownsRow_nil _ _ _ _, fun g hg => (by cases hg), rfl⟩
theorem news5 (w : World) (u0 u1 u2 u3 u4 : Value) (t : TypeId) : ∀ j u, [u0, u1, u2, u3, u4][j]? = some u → (w.alloc (.cells #[u0, u1, u2, u3, u4] t)).cell? ((⟨w.heap.size, 0, none⟩ : Addr).add j) = some u := World.news_of_block (cs := #[u0, u1, u2, u3, u4]) (heap_alloc_new w _)

theorem needB_self (ss : List LStep) (a : Nat) : needB ss a a = true := needB_iff.2 (.refl a)
theorem cut_from {ss : List LStep} (hf : formed ss = true) {a k : Nat} (hk : k < ss.length) (hn : needB ss a k = true) : ∀ f ∈ ss[k].2.2.2, 0 ≤ f ∧ f < (k : Int) ∧ needB ss a f.toNat = true := fun f hfm => by
  have h := aheadB_bound (formed_at hf hk) hfm
  refine ⟨h.1, h.2, needB_iff.2 ((needB_iff.1 hn).trans (.step (f := f.toNat) ?_ (.refl _)))⟩
  rw [fromsAt_eq hk, Int.toNat_of_nonneg h.1]
  exact hfm
/-- The places a copied step is told in. -/
theorem cut_map {ss : List LStep} (hf : formed ss = true) {a k : Nat} (hk : k < ss.length) (hn : needB ss a k = true) {PL : Nat → Nat} (hPL : ∀ j, j < k → needB ss a j = true → PL j = cntN (needB ss a) j) (u : Nat) :
    (ss[k].2.2.2.map fun f => (((fun j => if j = k then u else PL j) f.toNat : Nat) : Int)) = (cutStep (needB ss a) ss[k]).2.2.2 := by
  unfold cutStep
  refine List.map_congr_left fun f hfm => ?_
  obtain ⟨h0, h1, h2⟩ := cut_from hf hk hn f hfm
  have e : f.toNat ≠ k := by omega
  simp only [e, if_false]
  rw [hPL _ (by omega) h2]

set_option maxHeartbeats 4000000 in
set_option maxRecDepth 100000 in
theorem implProofCut_any (v : Value) (ss : List LStep) (at_ : Int) (w : World) (h : RdSteps w w.heap.size v ss) (hl : ss.length ≤ 1048576) (ht : totS ss ≤ 1048576) :
    Calls Try.prog 18 #[v, .int .i64 at_] w fun e w' => ∃ A' c', e = .returned (.tuple #[.slice A' (cutL ss at_).length c', .bool (cutOk ss at_)]) ∧ OwnSteps w' w.heap.size w'.heap.size (.slice A' (cutL ss at_).length c') (cutL ss at_) ∧ Below w.heap.size w w' := by
  obtain ⟨i0, hi0, hz0, hz1, hz2⟩ := info_parts Try.infoStep
  have H := Lib.hid h
  obtain ⟨A, c, rfl, hc, _⟩ := h
  by_cases h1 : at_ < 0
  · have h0 := cutOk_range (ss := ss) (at_ := at_) (by omega)
    rw [cutL_no h0, h0]
    clear h0
    go_enter Try.func18, Try.ntmps18
    go_wp2_with (fail)
    refine bodyPost_ret (v := .tuple #[.slice none 0 0, .bool false]) (by simp [results, Try.results18, go_sem]) rfl ?_
    exact ⟨none, 0, rfl, OwnSteps.nil _ _ _, Below.refl _ _⟩
  · by_cases h2 : (ss.length : Int) ≤ at_
    · have h0 := cutOk_range (ss := ss) (at_ := at_) (by omega)
      rw [cutL_no h0, h0]
      clear h0
      go_enter Try.func18, Try.ntmps18
      go_wp2_with (fail)
      refine bodyPost_ret (v := .tuple #[.slice none 0 0, .bool false]) (by simp [results, Try.results18, go_sem]) rfl ?_
      exact ⟨none, 0, rfl, OwnSteps.nil _ _ _, Below.refl _ _⟩
    · obtain ⟨a, rfl⟩ : ∃ a : Nat, at_ = (a : Int) := ⟨at_.toNat, by omega⟩
      have ha : a < ss.length := by omega
      by_cases hf : formed ss = true
      · obtain ⟨e1, e2⟩ := cutL_yes hf ha
        rw [e2, e1]
        have CN := Lib.hid (show Calls Try.prog 23 #[.slice A ss.length c] w fun e w' => e = .returned (.bool true) ∧ Below w.heap.size w w' from by rw [← hf]; exact nameAhead_any _ ss _ H.out hl ht)
        have CB := Lib.hid (fun W (hW : Below w.heap.size w W) => neededBy_any (.slice A ss.length c) ss a W (H.out.on hW) hl ht ha hf)
        have HF := Lib.hid hf
        have hmk := run_make_row' (P := Try.prog) 38 3 (.int .i64 0) 8 Try.underlying38 Try.infoInt rfl .i64 .i64 (a + 1) (by omega) (by omega)
        rw [show ((a + 1 : Nat) : Int) = (a : Int) + 1 by omega] at hmk
        obtain ⟨N, hN⟩ : ∃ N, N = needB ss a := ⟨_, rfl⟩
        have HNE := Lib.hid hN
        obtain ⟨n, hn⟩ : ∃ n, n = a + 1 := ⟨_, rfl⟩
        have HNN := Lib.hid hn
        have hna : (n : Int) = (a : Int) + 1 := by omega
        have hns : n ≤ ss.length := by omega
        rw [← hn] at CB hmk ⊢
        rw [← hN] at CB ⊢
        clear hf e1 e2 hN hn
        go_enter Try.func18, Try.ntmps18
        go_upto_region 4 with (first
          | (go_at_call 23; refine CN.out.mono ?_; rintro e w1 ⟨rfl, b1⟩; have B1 := Lib.hid b1; clear b1)
          | (go_at_call 35; refine (CB.out _ B1.out).mono ?_; rintro e w2 ⟨rfl, r2, b2⟩; have R2 := Lib.hid r2; have B2 := Lib.hid (bthen B1.out b2); clear r2 b2))
        obtain ⟨gN, hgN⟩ : ∃ gN, gN = w1.heap.size := ⟨_, rfl⟩
        have HGN := Lib.hid (show gN < w2.heap.size by rw [hgN]; exact R2.out.lt)
        have HWN := Lib.hid (show w.heap.size ≤ gN by rw [hgN]; exact B1.out.size)
        rw [← hgN] at R2 ⊢
        clear hgN
        go_upto_region 5 with fail
        obtain ⟨gP, hgP⟩ : ∃ gP, gP = w2.heap.size := ⟨_, rfl⟩
        obtain ⟨w3, hw3⟩ : ∃ w3, w3 = w2.alloc (Obj.cells (madeCells #[Value.int .i64 0] n) 3) := ⟨_, rfl⟩
        have HR3 := Lib.hid (show w3.rowIs gP 3 n (fun j => .int .i64 (((fun _ => 0 : Nat → Nat) j : Nat) : Int)) from by rw [hw3, hgP]; exact World.rowIs_made _ _ _ _)
        have HN3 := Lib.hid (show w3.rowIs gN 4 n (fun j => .bool (N j)) from by rw [hw3]; exact R2.out.alloc _)
        have HB3 := Lib.hid (show Below w.heap.size w w3 by rw [hw3]; exact bthen B2.out (below1 _ _))
        have HZ := Lib.hid (show gN < gP ∧ w.heap.size ≤ gP ∧ w3.heap.size = gP + 1 by rw [hw3, hgP]; exact ⟨HGN.out, B2.out.size, by simp⟩)
        rw [← hw3, ← hgP]
        clear hw3 hgP
        have HC0 := Lib.hid (show ColSt (gP + 1) w w3 (cutTo ss N 0) none 0 [] from ColSt.nil HB3.out (by have := HZ.out; omega) (by have := HZ.out; omega))
        go_wp2_with fail
        go_loopw [8, 35] (fun o i wr => ∃ (k : Nat) (A' : Option Addr) (c' : Nat) (av : List Value) (PL : Nat → Nat), k ≤ n ∧ i = .int .i64 k ∧ o = .slice A' (cutTo ss N k).length c' ∧ ColSt (gP + 1) w wr (cutTo ss N k) A' c' av ∧ (wr.rowIs gN 4 n (fun j => .bool (N j)) ∧ wr.rowIs gP 3 n (fun j => .int .i64 ((PL j : Nat) : Int)) ∧ ∀ j, j < k → N j = true → PL j = cntN N j)) (fun _ i _ => n - (intOf i).toNat)
        case atStart => exact ⟨0, none, 0, [], _, Nat.zero_le _, rfl, rfl, HC0.out, HN3.out, HR3.out, fun j hj => absurd hj (by omega)⟩
        case round =>
          obtain ⟨k, A', c', av, PL, hk, rfl, rfl, hcol, hrN, hrP, hPL⟩ := hrel
          have HCOL := Lib.hid hcol
          have HRN := Lib.hid hrN
          have HRP := Lib.hid hrP
          have HPL := Lib.hid hPL
          clear hcol hrN hrP hPL
          have hcl : (cutTo ss N k).length ≤ k := by rw [cutTo_len]; exact cntN_le N k
          by_cases hlt : k < n
          · have hks : k < ss.length := by omega
            have hki : (k : Int) < (n : Int) := by omega
            obtain ⟨b, o, A1, c1, A2, c2, A3, c3, rfl, hbB, ⟨k0, k1, k2, k3, k4⟩, r1, r2, r3⟩ := H.out.get hks
            have BE := HCOL.out.below
            have k0 := (BE.cell (p := ⟨b, o + k * 5, none⟩) hbB).trans k0
            have k1 := (BE.cell (p := ⟨b, o + k * 5 + 1, none⟩) hbB).trans k1
            have k2 := (BE.cell (p := ⟨b, o + k * 5 + 2, none⟩) hbB).trans k2
            have k3 := (BE.cell (p := ⟨b, o + k * 5 + 3, none⟩) hbB).trans k3
            have k4 := (BE.cell (p := ⟨b, o + k * 5 + 4, none⟩) hbB).trans k4
            have hln := szSt_le_totS ss k hks
            have HRR := Lib.hid (And.intro r1 (And.intro r2 r3))
            have q0 := HRN.out.cell hlt
            have hgNl : gN < wr.heap.size := HRN.out.lt
            have hgPl : gP < wr.heap.size := HRP.out.lt
            obtain ⟨nk, hnk⟩ : ∃ nk, nk = N k := ⟨_, rfl⟩
            rw [← hnk] at q0
            clear r1 r2 r3 BE
            cases nk
            · have HS := Lib.hid (cutTo_no (ss := ss) hnk.symm)
              have HB1 := Lib.hid (below1 wr (Obj.cells #[Value.int IntKind.i64 ss[k].1.1, Value.slice A1 ss[k].1.2.length c1, Value.int IntKind.i64 ss[k].2.1, Value.slice A2 ss[k].2.2.1.length c2, Value.slice A3 ss[k].2.2.2.length c3] 46))
              have HPL2 := Lib.hid (show ∀ j, j < k + 1 → N j = true → PL j = cntN N j from fun j hj hn => by
                by_cases e : j = k
                · subst e; rw [← hnk] at hn; cases hn
                · exact HPL.out j (by omega) hn)
              clear hnk
              go_wp2_with fail
              go_roundw
              case rel => exact ⟨k + 1, _, _, av, PL, by omega, by go_num, by rw [HS.out], by rw [HS.out]; exact HCOL.out.on HB1.out, HRN.out.of_block (HB1.out.block _ HRN.out.lt), HRP.out.of_block (HB1.out.block _ HRP.out.lt), HPL2.out⟩
              case measure => simp [intOf]; omega
            · have HS := Lib.hid (cutTo_yes hks hnk.symm)
              have HNK := Lib.hid hnk.symm
              have cP := HRP.out.cell hlt
              have fP := HRP.out.frozen k
              obtain ⟨m, hm⟩ : ∃ m, m = (cutTo ss N k).length := ⟨_, rfl⟩
              have HM := Lib.hid hm
              have hmk2 : m ≤ k := by rw [hm]; exact hcl
              obtain ⟨Q, hQ⟩ : ∃ Q, Q = cutTo ss N k := ⟨_, rfl⟩
              have HQ := Lib.hid hQ
              have hQm : m = Q.length := by rw [hQ, hm]
              have HQM := Lib.hid hQm
              rw [← hQ] at HCOL HS hcl ⊢
              rw [← hQm] at hcl ⊢
              clear hm hnk hQ hQm hcl
              go_upto_region 11 with fail
              obtain ⟨w4, hw4⟩ : ∃ w4, w4 = (wr.setCell ⟨gP, k, none⟩ (.int .i64 (m : Int))).alloc (Obj.cells #[Value.int IntKind.i64 ss[k].1.1, Value.slice A1 ss[k].1.2.length c1, Value.int IntKind.i64 ss[k].2.1, Value.slice A2 ss[k].2.2.1.length c2, Value.slice A3 ss[k].2.2.2.length c3] 46) := ⟨_, rfl⟩
              have hcolM : Below wr.heap.size (wr.setCell ⟨gP, k, none⟩ (.int .i64 (m : Int))) w4 := by rw [hw4]; simpa using below1 (wr.setCell ⟨gP, k, none⟩ (.int .i64 (m : Int))) (Obj.cells #[Value.int IntKind.i64 ss[k].1.1, Value.slice A1 ss[k].1.2.length c1, Value.int IntKind.i64 ss[k].2.1, Value.slice A2 ss[k].2.2.1.length c2, Value.slice A3 ss[k].2.2.2.length c3] 46)
              have hz := HZ.out
              have HC4 := Lib.hid (show ColSt (gP + 1) w w4 Q A' c' av from (HCOL.out.far (p := ⟨gP, k, none⟩) hz.2.1 (Nat.lt_succ_self _) _).on (by simpa using hcolM))
              have HP4 := Lib.hid (show w4.rowIs gP 3 n (fun j => .int .i64 (((fun j => if j = k then m else PL j) j : Nat) : Int)) from by
                have := (HRP.out.set k (.int .i64 (m : Int))).of_block (hcolM.block gP hgPl)
                refine this.congr fun j hj => ?_
                by_cases e : j = k <;> simp [e])
              have HN4 := Lib.hid (show w4.rowIs gN 4 n (fun j => .bool (N j)) from (HRN.out.setOther (a := ⟨gP, k, none⟩) (by show gN ≠ gP; omega) _).of_block (hcolM.block gN hgNl))
              have hw4s : w4.heap.size = wr.heap.size + 1 := by rw [hw4]; simp
              have bW : Below w.heap.size w w4 := HC4.out.below
              have HPL2 := Lib.hid (show ∀ j, j < k + 1 → N j = true → (fun j => if j = k then m else PL j) j = cntN N j from fun j hj hn => by
                by_cases e : j = k
                · simp only [e, if_true]; rw [HQM.out, HQ.out, cutTo_len]
                · simp only [e, if_false]; exact HPL.out j (by omega) hn)
              have HCS := Lib.hid (copyStep_any (.agg #[.int .i64 ss[k].1.1, .slice A1 ss[k].1.2.length c1, .int .i64 ss[k].2.1, .slice A2 ss[k].2.2.1.length c2, .slice A3 ss[k].2.2.2.length c3]) ss[k] gP n (fun j => if j = k then m else PL j) w4 ⟨_, _, _, rfl, HRR.out.1.on bW, HRR.out.2.1.on bW, HRR.out.2.2.on bW⟩ (.inl HP4.out) (fun f hfm => by
                obtain ⟨h0, h1, _⟩ := cut_from HF.out hks (by rw [← HNE.out]; exact HNK.out) f hfm
                exact ⟨h0, by omega⟩) (by omega))
              have hcm := cut_map HF.out hks (by rw [← HNE.out]; exact HNK.out) (PL := PL) (by rw [← HNE.out]; exact HPL.out) m
              rw [← HNE.out] at hcm
              rw [hcm] at HCS
              have HCS := Lib.hid HCS.out
              have bx0 : w4.cell? ⟨wr.heap.size, 0, none⟩ = some (.int .i64 ss[k].1.1) := by rw [hw4]; simpa [Addr.add] using news5 (wr.setCell ⟨gP, k, none⟩ (.int .i64 (m : Int))) _ _ _ _ _ 46 0 _ rfl
              have bx1 : w4.cell? ⟨wr.heap.size, 1, none⟩ = some (.slice A1 ss[k].1.2.length c1) := by rw [hw4]; simpa [Addr.add] using news5 (wr.setCell ⟨gP, k, none⟩ (.int .i64 (m : Int))) _ _ _ _ _ 46 1 _ rfl
              have bx2 : w4.cell? ⟨wr.heap.size, 2, none⟩ = some (.int .i64 ss[k].2.1) := by rw [hw4]; simpa [Addr.add] using news5 (wr.setCell ⟨gP, k, none⟩ (.int .i64 (m : Int))) _ _ _ _ _ 46 2 _ rfl
              have bx3 : w4.cell? ⟨wr.heap.size, 3, none⟩ = some (.slice A2 ss[k].2.2.1.length c2) := by rw [hw4]; simpa [Addr.add] using news5 (wr.setCell ⟨gP, k, none⟩ (.int .i64 (m : Int))) _ _ _ _ _ 46 3 _ rfl
              have bx4 : w4.cell? ⟨wr.heap.size, 4, none⟩ = some (.slice A3 ss[k].2.2.2.length c3) := by rw [hw4]; simpa [Addr.add] using news5 (wr.setCell ⟨gP, k, none⟩ (.int .i64 (m : Int))) _ _ _ _ _ 46 4 _ rfl
              rw [← hw4]
              clear hcm hcolM hw4 cP fP q0 hz k0 k1 k2 k3 k4
              go_wp2_with (fail)
              refine HCS.out.mono ?_
              rintro e w5 ⟨P1, d1, P2, d2, P3, d3, rfl, ⟨o1, o2, o3⟩, ⟨n1, n2, n3⟩, hb5⟩
              have hz5 := hb5.size
              have O1 := Lib.hid o1
              have O2 := Lib.hid o2
              have O3 := Lib.hid o3
              have NN := Lib.hid (And.intro n1 (And.intro n2 n3))
              have HB5 := Lib.hid hb5
              clear o1 o2 o3 n1 n2 n3 hb5
              go_wp2_with (at_builtin; refine wpList_append_lies _ rfl (.tmp 49) (.tmp 53) 25 rfl (gP + 1) 46 i0 (.agg #[.int .i64 0, .slice none 0 0, .int .i64 0, .slice none 0 0, .slice none 0 0]) 5 88 Try.underlying25 hi0 hz0 hz1 hz2 rfl (by decide) (.slice A' m c') m (flat5 (heads Q) av) rfl ?c1 ⟨w5.heap.size, 0, none⟩ 1 1 [.int .i64 ss[k].1.1, .slice P1 ss[k].1.2.length d1, .int .i64 ss[k].2.1, .slice P2 ss[k].2.2.1.length d2, .slice P3 ss[k].2.2.2.length d3] rfl rfl (news5 _ _ _ _ _ _ _) ?c2 (by omega) (by unfold maxLen; omega) (by omega) ?c3 _ rfl ?_)
              case c1 =>
                have h0 := HC4.out.own
                rw [← HQM.out] at h0
                have h1 := ownsRow_below h0.row h0.lt HB5.out (Nat.le_refl _)
                rw [heads_length, ← HQM.out] at h1
                exact h1.alloc _
              case c2 => intro u hu; simp at hu; rcases hu with rfl | rfl | rfl | rfl | rfl <;> rfl
              case c3 => have := HC4.out.lo2; simp; omega
              intro g cap w6 hown hg _ _
              have HP := HC4.out
              rw [HQM.out] at hown hg
              have O3 := O3.out
              have hpush := HP.push HS.out HB5.out O1.out O2.out O3 NN.out.1 NN.out.2.1 NN.out.2.2 hg hown
              have hg' := grown_from_alloc hg
              have hne : ∀ q, q < gP + 1 → some q ≠ (Value.slice A' Q.length c').ownBlock := fun q hq e => by
                have := (HP.own.row.lt q e.symm).1
                omega
              have RN6 := Lib.hid ((HN4.out.of_block (HB5.out.block gN (by omega))).of_block (hg'.block gN (by omega) (hne gN (by have := HZ.out; omega))))
              have RP6 := Lib.hid ((HP4.out.of_block (HB5.out.block gP (by omega))).of_block (hg'.block gP (by omega) (hne gP (by omega))))
              have hml : m + 1 = (cutTo ss N (k + 1)).length := by rw [← hpush.2, HQM.out]
              rw [HQM.out] at hml
              have HC6 := Lib.hid hpush.1
              rw [HQM.out]
              have hk1 : k + 1 ≤ n := by omega
              clear hpush hown hg hg' HP O3 hne
              go_wp2_with (fail)
              go_roundw
              case rel => exact ⟨k + 1, _, _, _, _, hk1, by go_num, by rw [hml], HC6.out, RN6.out, RP6.out, HPL2.out⟩
              case measure => simp [intOf]; omega
          · have hkn : k = n := by omega
            subst hkn
            have HO := Lib.hid HCOL.out.steps
            have HB := Lib.hid HCOL.out.below
            clear hk hlt
            go_wp2_with (fail)
            refine bodyPost_ret (v := .tuple #[.slice A' (cutTo ss N k).length c', .bool true]) (by simp [results, Try.results18, go_sem]) rfl ?_
            exact ⟨_, _, rfl, HO.out, HB.out⟩
      · have hf' : formed ss = false := by simpa using hf
        have h0 := cutOk_formed (at_ := (a : Int)) hf'
        rw [cutL_no h0, h0]
        have CN := Lib.hid (show Calls Try.prog 23 #[.slice A ss.length c] w fun e w' => e = .returned (.bool false) ∧ Below w.heap.size w w' from by rw [← hf']; exact nameAhead_any _ ss _ H.out hl ht)
        clear h0 hf hf'
        go_enter Try.func18, Try.ntmps18
        go_wp2_with (go_at_call 23; refine CN.out.mono ?_; rintro e w1 ⟨rfl, b1⟩; have B1 := Lib.hid b1; clear b1)
        refine bodyPost_ret (v := .tuple #[.slice none 0 0, .bool false]) (by simp [results, Try.results18, go_sem]) rfl ?_
        exact ⟨none, 0, rfl, OwnSteps.nil _ _ _, B1.out⟩

end Go.Proofs.Ytcoelmhlkfignaa
