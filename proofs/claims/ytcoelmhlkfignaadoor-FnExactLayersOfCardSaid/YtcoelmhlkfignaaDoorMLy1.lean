/-
  The law FnExactLayersOf: for every input the call returns true, and each argument reads behind it as it read before. Conditions: none but the row's own.
-/
import Derived.Test.YtcoelmhlkfignaaDoorMRe2
import Derived.Test.YtcoelmhlkfignaaDoorMRe4
import Derived.Test.YtcoelmhlkfignaaDoorMRe5
import Derived.Test.YtcoelmhlkfignaaDoorMRe1
import Derived.Deep.RegionHeld3
import Derived.Deep.DeepCutAuto
import Derived.Deep.RegionWith
import Derived.Test.YtcoelmhlkfignaaDoorRows
import Derived.Test.YtcoelmhlkfignaaDoorCards
import Derived.Test.YtcoelmhlkfignaaDoorTie
import Derived.Lay
import Derived.SevenTiedAt
/-
  Layers: the least ones, group by group; plain mathematics.
-/
namespace Go.Proofs.YtcoelmhlkfignaaDoor

def maxTo (f : Nat → Nat) (l : List Nat) (b : Nat) : Nat := l.foldl (fun m x => max m (f x)) b
theorem maxTo_snoc (f : Nat → Nat) (l : List Nat) (x b : Nat) : maxTo f (l ++ [x]) b = max (maxTo f l b) (f x) := by simp [maxTo]
theorem maxTo_le {f : Nat → Nat} {c : Nat} : ∀ {l : List Nat} {b : Nat}, b ≤ c → (∀ x ∈ l, f x ≤ c) → maxTo f l b ≤ c
  | [], _, h, _ => h
  | x :: l, b, h, hx => by
    show maxTo f l (max b (f x)) ≤ c
    exact maxTo_le (Nat.max_le.2 ⟨h, hx x List.mem_cons_self⟩) fun y hy => hx y (List.mem_cons_of_mem _ hy)
theorem maxTo_base {f : Nat → Nat} : ∀ (l : List Nat) (b : Nat), b ≤ maxTo f l b
  | [], _ => Nat.le_refl _
  | x :: l, b => by
    show b ≤ maxTo f l (max b (f x))
    exact Nat.le_trans (Nat.le_max_left _ _) (maxTo_base l _)
theorem maxTo_ge {f : Nat → Nat} : ∀ {l : List Nat} {b x : Nat}, x ∈ l → f x ≤ maxTo f l b
  | y :: l, b, x, h => by
    show f x ≤ maxTo f l (max b (f y))
    rcases List.mem_cons.1 h with rfl | h
    · exact Nat.le_trans (Nat.le_max_right _ _) (maxTo_base l _)
    · exact maxTo_ge h
/-- The least layer of a predicate, by layers of those that it asks. -/
def leastL (yw nw : Nat → Nat) (lay : List Nat) (p : Nat) : Nat := maxTo (fun x => lay.getD x 0 + 1) (bitsN (nw p)) (maxTo (fun x => lay.getD x 0) (bitsN (yw p)) 0)
/-- A predicate of the group denies one of it. -/
def denies (nw : Nat → Nat) (g p : Nat) : Bool := nw p &&& g != 0
def groupL (yw nw : Nat → Nat) (lay : List Nat) (g : Nat) : Option (List Nat) :=
  if (bitsN g).any (denies nw g) then none else some (setAll lay (bitsN g) (maxTo (leastL yw nw lay) (bitsN g) 0))
def groupsL (yw nw : Nat → Nat) : List Nat → List Nat → Option (List Nat)
  | [], lay => some lay
  | g :: gs, lay => match groupL yw nw lay g with
    | none => none
    | some l => groupsL yw nw gs l
/-- Layers that fit. -/
def FitLay (yw nw : Nat → Nat) (n : Nat) (f : Nat → Nat) : Prop := ∀ u, u < n → (∀ x, has (yw u) x → f x ≤ f u) ∧ ∀ x, has (nw u) x → f x < f u
theorem FitLay.rch {yw nw ask : Nat → Nat} {n : Nat} {f : Nat → Nat} (h : FitLay yw nw n f) (ha : ∀ u x, has (ask u) x → has (yw u) x ∨ has (nw u) x) (hn : ∀ u x, has (ask u) x → x < n) : ∀ {u v : Nat}, u < n → Rch ask u v → f v ≤ f u := by
  have hstep : ∀ {u v : Nat}, u < n → has (ask u) v → f v ≤ f u := fun {u v} hu hv => by
    rcases ha u v hv with h1 | h1
    · exact (h u hu).1 v h1
    · exact Nat.le_of_lt ((h u hu).2 v h1)
  intro u v hu hr
  induction hr with
  | one h1 => exact hstep hu h1
  | step h1 _ ih => exact Nat.le_trans (ih (hn _ _ h1)) (hstep hu h1)
/-- After some of the groups. -/
structure LayInv (yw nw : Nat → Nat) (n : Nat) (gs : List Nat) (lay : List Nat) : Prop where
  len : lay.length = n
  fit : ∀ g ∈ gs, ∀ u, has g u → (∀ x, has (yw u) x → lay.getD x 0 ≤ lay.getD u 0) ∧ ∀ x, has (nw u) x → lay.getD x 0 < lay.getD u 0
  least : ∀ f, FitLay yw nw n f → ∀ g ∈ gs, ∀ u, has g u → lay.getD u 0 ≤ f u
  few : ∀ u, lay.getD u 0 ≤ gs.length
  zero : ∀ u, (∀ g ∈ gs, ¬ has g u) → lay.getD u 0 = 0
theorem LayInv.start (yw nw : Nat → Nat) (n : Nat) : LayInv yw nw n [] (List.replicate n 0) where
  len := by simp
  fit g hg := by cases hg
  least f _ g hg := by cases hg
  few u := by simp [List.getD_eq_getElem?_getD, List.getElem?_replicate]
              split <;> simp
  zero u _ := by simp [List.getD_eq_getElem?_getD, List.getElem?_replicate]
                 split <;> simp
/-- What the groups are to the links. -/
structure GroupsOk (yw nw ask : Nat → Nat) (n : Nat) (gs : List Nat) : Prop where
  asks : ∀ u x, has (ask u) x ↔ has (yw u) x ∨ has (nw u) x
  lim : ∀ u x, has (ask u) x → x < n
  n64 : n ≤ 24
  mem : ∀ g ∈ gs, ∀ u, has g u → u < n
  some : ∀ g ∈ gs, ∃ u, has g u
  tied : ∀ g ∈ gs, ∀ u v, has g u → has g v → u = v ∨ Rch ask u v
  apart : gs.Pairwise Apart
  order : ∀ i (h : i < gs.length) u x, has gs[i] u → has (ask u) x → ∃ j, ∃ h : j < gs.length, j ≤ i ∧ has gs[j] x
theorem denies_iff {nw : Nat → Nat} {g p : Nat} : denies nw g p = true ↔ ∃ x, has (nw p) x ∧ has g x := by
  unfold denies
  rw [bne_iff_ne]
  constructor
  · intro h
    apply Classical.byContradiction
    intro hc
    refine h (Nat.eq_of_testBit_eq fun i => ?_)
    rw [Nat.testBit_and, Nat.zero_testBit]
    cases h1 : (nw p).testBit i
    · rfl
    · cases h2 : g.testBit i
      · rfl
      · exact absurd ⟨i, h1, h2⟩ hc
  · rintro ⟨x, h1, h2⟩ e
    have := congrArg (fun y => y.testBit x) e
    simp only [Nat.testBit_and, Nat.zero_testBit] at this
    rw [h1, h2] at this
    cases this
section
variable {yw nw ask : Nat → Nat} {n : Nat} {gs : List Nat} {lay : List Nat}
theorem groupL_step (h : GroupsOk yw nw ask n gs) {k : Nat} (hk : k < gs.length) (hi : LayInv yw nw n (gs.take k) lay) : (∀ l, groupL yw nw lay gs[k] = some l → LayInv yw nw n (gs.take (k + 1)) l) ∧ (groupL yw nw lay gs[k] = none → ∀ f, ¬ FitLay yw nw n f) := by
  have hgm : gs[k] ∈ gs := List.getElem_mem hk
  have hb : ∀ u, u ∈ bitsN gs[k] ↔ has gs[k] u := fun u => by
    rw [bitsN_mem]
    exact ⟨fun h => h.2, fun hu => ⟨by have := h.mem _ hgm u hu; have := h.n64; omega, hu⟩⟩
  have hyb : ∀ u x, x ∈ bitsN (yw u) ↔ has (yw u) x := fun u x => by
    rw [bitsN_mem]
    exact ⟨fun h => h.2, fun hu => ⟨by have := h.lim u x ((h.asks u x).2 (.inl hu)); have := h.n64; omega, hu⟩⟩
  have hnb : ∀ u x, x ∈ bitsN (nw u) ↔ has (nw u) x := fun u x => by
    rw [bitsN_mem]
    exact ⟨fun h => h.2, fun hu => ⟨by have := h.lim u x ((h.asks u x).2 (.inr hu)); have := h.n64; omega, hu⟩⟩
  have htake : ∀ g, g ∈ gs.take (k + 1) ↔ g ∈ gs.take k ∨ g = gs[k] := fun g => by
    rw [List.take_succ_eq_append_getElem hk, List.mem_append, List.mem_singleton]
  -- the groups ahead are apart from this one
  have hap : ∀ g ∈ gs.take k, Apart g gs[k] := fun g hg => by
    obtain ⟨j, hj, e⟩ := List.getElem_of_mem hg
    rw [List.getElem_take] at e
    rw [← e]
    simp only [List.length_take] at hj
    exact List.pairwise_iff_getElem.1 h.apart j k (by omega) hk (by omega)
  have hz : ∀ u, has gs[k] u → lay.getD u 0 = 0 := fun u hu => hi.zero u fun g hg hgu => hap g hg u hgu hu
  have hask : ∀ u x, has gs[k] u → has (ask u) x → (∃ g ∈ gs.take k, has g x) ∨ has gs[k] x := fun u x hu hx => by
    obtain ⟨j, hj, hjk, hjx⟩ := h.order k hk u x hu hx
    by_cases e : j = k
    · subst e; exact .inr hjx
    · exact .inl ⟨gs[j], by
        have : j < (gs.take k).length := by simp; omega
        have e2 : (gs.take k)[j] = gs[j] := List.getElem_take
        exact e2 ▸ List.getElem_mem this, hjx⟩
  constructor
  · intro l hl
    unfold groupL at hl
    split at hl
    · cases hl
    · rename_i hd
      obtain ⟨m, hm⟩ : ∃ m, m = maxTo (leastL yw nw lay) (bitsN gs[k]) 0 := ⟨_, rfl⟩
      rw [← hm] at hl
      obtain rfl : setAll lay (bitsN gs[k]) m = l := by simpa using hl
      have hno : ∀ u, has gs[k] u → ∀ x, has (nw u) x → ¬ has gs[k] x := fun u hu x hx hgx => hd (List.any_eq_true.2 ⟨u, (hb u).2 hu, denies_iff.2 ⟨x, hx, hgx⟩⟩)
      have hat : ∀ u, u < n → (setAll lay (bitsN gs[k]) m).getD u 0 = if has gs[k] u then m else lay.getD u 0 := fun u hu => by
        rw [setAll_at m u _ _ (by rw [hi.len]; exact hu)]
        by_cases e : has gs[k] u
        · rw [if_pos ((hb u).2 e), if_pos e]
        · rw [if_neg (fun e2 => e ((hb u).1 e2)), if_neg e]
      have hge : ∀ u, ¬ u < n → (setAll lay (bitsN gs[k]) m).getD u 0 = 0 := fun u hu => by
        rw [List.getD_eq_getElem?_getD, List.getElem?_eq_none (by rw [setAll_len, hi.len]; omega)]
        rfl
      have hin : ∀ g ∈ gs.take k, ∀ u, has g u → u < n ∧ ¬ has gs[k] u := fun g hg u hu => ⟨h.mem g (List.mem_of_mem_take hg) u hu, fun e => hap g hg u hu e⟩
      have hold : ∀ g ∈ gs.take k, ∀ u, has g u → (setAll lay (bitsN gs[k]) m).getD u 0 = lay.getD u 0 := fun g hg u hu => by
        obtain ⟨h1, h2⟩ := hin g hg u hu
        rw [hat u h1, if_neg h2]
      have hmL : ∀ u, has gs[k] u → leastL yw nw lay u ≤ m := fun u hu => by rw [hm]; exact maxTo_ge ((hb u).2 hu)
      have hY : ∀ u x, has (yw u) x → lay.getD x 0 ≤ leastL yw nw lay u := fun u x hx => by
        unfold leastL
        exact Nat.le_trans (maxTo_ge (f := fun x => lay.getD x 0) ((hyb u x).2 hx)) (maxTo_base _ _)
      have hN : ∀ u x, has (nw u) x → lay.getD x 0 + 1 ≤ leastL yw nw lay u := fun u x hx => by
        unfold leastL
        exact maxTo_ge (f := fun x => lay.getD x 0 + 1) ((hnb u x).2 hx)
      refine ⟨by rw [setAll_len, hi.len], fun g hg u hu => ?_, fun f hf g hg u hu => ?_, fun u => ?_, fun u hu => ?_⟩
      · rcases (htake g).1 hg with hg | rfl
        · rw [hold g hg u hu]
          have hu' := hin g hg u hu
          obtain ⟨j0, hj0, e0⟩ := List.getElem_of_mem hg
          have hasked : ∀ x, has (ask u) x → ∃ g' ∈ gs.take k, has g' x := fun x hx => by
            rw [List.getElem_take] at e0
            simp only [List.length_take] at hj0
            obtain ⟨j, hj, hjk, hjx⟩ := h.order j0 (by omega) u x (by rw [e0]; exact hu) hx
            exact ⟨gs[j], by
              have : j < (gs.take k).length := by simp; omega
              have e2 : (gs.take k)[j] = gs[j] := List.getElem_take
              exact e2 ▸ List.getElem_mem this, hjx⟩
          obtain ⟨f1, f2⟩ := hi.fit g hg u hu
          refine ⟨fun x hx => ?_, fun x hx => ?_⟩
          · obtain ⟨g', hg', hgx⟩ := hasked x ((h.asks u x).2 (.inl hx))
            rw [hold g' hg' x hgx]
            exact f1 x hx
          · obtain ⟨g', hg', hgx⟩ := hasked x ((h.asks u x).2 (.inr hx))
            rw [hold g' hg' x hgx]
            exact f2 x hx
        · have hun := h.mem _ hgm u hu
          rw [hat u hun, if_pos hu]
          refine ⟨fun x hx => ?_, fun x hx => ?_⟩
          · rcases hask u x hu ((h.asks u x).2 (.inl hx)) with ⟨g', hg', hgx⟩ | hgx
            · rw [hold g' hg' x hgx]
              exact Nat.le_trans (hY u x hx) (hmL u hu)
            · rw [hat x (h.mem _ hgm x hgx), if_pos hgx]
              exact Nat.le_refl _
          · rcases hask u x hu ((h.asks u x).2 (.inr hx)) with ⟨g', hg', hgx⟩ | hgx
            · rw [hold g' hg' x hgx]
              exact Nat.lt_of_lt_of_le (Nat.lt_succ_self _) (Nat.le_trans (hN u x hx) (hmL u hu))
            · exact absurd hgx (hno u hu x hx)
      · rcases (htake g).1 hg with hg | rfl
        · rw [hold g hg u hu]
          exact hi.least f hf g hg u hu
        · have hun := h.mem _ hgm u hu
          rw [hat u hun, if_pos hu, hm]
          have hsame : ∀ v, has gs[k] v → f v ≤ f u := fun v hv => by
            rcases h.tied _ hgm u v hu hv with rfl | hr
            · exact Nat.le_refl _
            · exact hf.rch (fun u x hx => (h.asks u x).1 hx) h.lim hun hr
          refine maxTo_le (Nat.zero_le _) fun v hv => Nat.le_trans ?_ (hsame v ((hb v).1 hv))
          have hv' := (hb v).1 hv
          have hvn := h.mem _ hgm v hv'
          unfold leastL
          refine maxTo_le (maxTo_le (Nat.zero_le _) fun x hx => ?_) fun x hx => ?_
          · have hx' := (hyb v x).1 hx
            rcases hask v x hv' ((h.asks v x).2 (.inl hx')) with ⟨g', hg', hgx⟩ | hgx
            · exact Nat.le_trans (hi.least f hf g' hg' x hgx) ((hf v hvn).1 x hx')
            · show lay.getD x 0 ≤ f v
              rw [hz x hgx]
              exact Nat.zero_le _
          · have hx' := (hnb v x).1 hx
            rcases hask v x hv' ((h.asks v x).2 (.inr hx')) with ⟨g', hg', hgx⟩ | hgx
            · exact Nat.lt_of_le_of_lt (hi.least f hf g' hg' x hgx) ((hf v hvn).2 x hx')
            · exact absurd hgx (hno v hv' x hx')
      · have hlen : (gs.take (k + 1)).length = k + 1 := by simp; omega
        have hlen2 : (gs.take k).length = k := by simp; omega
        rw [hlen]
        by_cases hu : u < n
        · rw [hat u hu]
          split
          · rw [hm]
            refine maxTo_le (Nat.zero_le _) fun v hv => ?_
            unfold leastL
            have := hi.few
            rw [hlen2] at this
            exact maxTo_le (maxTo_le (Nat.zero_le _) fun x _ => Nat.le_succ_of_le (this x)) fun x _ => Nat.succ_le_succ (this x)
          · have := hi.few u
            omega
        · rw [hge u hu]
          omega
      · by_cases hun : u < n
        · rw [hat u hun, if_neg (hu gs[k] ((htake _).2 (.inr rfl)))]
          exact hi.zero u fun g hg => hu g ((htake g).2 (.inl hg))
        · exact hge u hun
  · intro hnone f hf
    unfold groupL at hnone
    split at hnone
    · rename_i hd
      obtain ⟨u, hu, hdu⟩ := List.any_eq_true.1 hd
      obtain ⟨x, hx, hgx⟩ := denies_iff.1 hdu
      have hu' := (hb u).1 hu
      have h1 := (hf u (h.mem _ hgm u hu')).2 x hx
      have h2 : f u ≤ f x := by
        rcases h.tied _ hgm x u hgx hu' with rfl | hr
        · exact Nat.le_refl _
        · exact hf.rch (fun u x hx => (h.asks u x).1 hx) h.lim (h.mem _ hgm x hgx) hr
      omega
    · cases hnone
theorem groupsL_from (h : GroupsOk yw nw ask n gs) : ∀ (d k : Nat) (lay : List Nat), d = gs.length - k → k ≤ gs.length → LayInv yw nw n (gs.take k) lay →
    (∀ l, groupsL yw nw (gs.drop k) lay = some l → LayInv yw nw n gs l) ∧ (groupsL yw nw (gs.drop k) lay = none → ∀ f, ¬ FitLay yw nw n f)
  | 0, k, lay, hd, hk, hi => by
    have e : k = gs.length := by omega
    subst e
    rw [List.drop_length]
    rw [List.take_length] at hi
    refine ⟨fun l hl => ?_, fun hl => by cases hl⟩
    obtain rfl : lay = l := by simpa [groupsL] using hl
    exact hi
  | d + 1, k, lay, hd, hk, hi => by
    have hlt : k < gs.length := by omega
    rw [List.drop_eq_getElem_cons hlt]
    obtain ⟨h1, h2⟩ := groupL_step h hlt hi
    show (∀ l, (match groupL yw nw lay gs[k] with | none => none | some l => groupsL yw nw (gs.drop (k + 1)) l) = some l → _) ∧ _
    have hcase : groupsL yw nw (gs[k] :: gs.drop (k + 1)) lay = match groupL yw nw lay gs[k] with | none => none | some l => groupsL yw nw (gs.drop (k + 1)) l := rfl
    rw [hcase]
    cases hg : groupL yw nw lay gs[k] with
    | none =>
      refine ⟨fun l hl => (by cases hl), fun _ => h2 hg⟩
    | some l1 => exact groupsL_from h d (k + 1) l1 (by omega) hlt (h1 l1 hg)
end

end Go.Proofs.YtcoelmhlkfignaaDoor
/-
  The least layers of a program: by its groups, and as what rounds over its links come to. Plain mathematics.
-/
namespace Go.Proofs.YtcoelmhlkfignaaDoor
open Go.RowKit

/-- The words of what heads ask, by a LitYes and by a LitNo. -/
def ywP (p : LProg) (u : Nat) : Nat := (askWords 0 (asksOf p.2)).getD u 0
def nwP (p : LProg) (u : Nat) : Nat := (askWords 1 (asksOf p.2)).getD u 0
def grpP (p : LProg) : List Nat := (walkF (askP p) p.1.length p.1.length).groups
def layL (p : LProg) : Option (List Nat) := groupsL (ywP p) (nwP p) (grpP p) (List.replicate p.1.length 0)

theorem layers_groups {p : LProg} (h : progOk p = true) : GroupsOk (ywP p) (nwP p) (askP p) p.1.length (grpP p) := by
  obtain ⟨hn, hf⟩ := asksOf_fits h
  obtain ⟨hi, hd, _⟩ := walk_all hn (askP_lt hf)
  have hdone : ∀ g ∈ grpP p, ∀ u, has g u → has (walkF (askP p) p.1.length p.1.length).done u := fun g hg u hu => (hi.told u).2 ⟨g, hg, hu⟩
  have hlt : ∀ g ∈ grpP p, ∀ u, has g u → u < p.1.length := fun g hg u hu => hi.lim u ((hi.sub u).2 (.inl (hdone g hg u hu)))
  refine ⟨fun u x => ?_, fun u x hx => askP_lt hf u x hx, hn, hlt, fun g hg => (hi.own g hg).1, fun g hg u v hu hv => ?_, hi.apartG, hi.order⟩
  · unfold askP askF
    exact has_or
  · have e := (hi.own g hg).2 u hu
    have h2 := (hi.grp u v (hdone g hg u hu)).1 (by rw [e]; exact hv)
    rcases h2 with h2 | h2
    · exact .inl h2.symm
    · exact .inr h2.1
theorem lay_told {p : LProg} (h : progOk p = true) {u : Nat} (hu : u < p.1.length) : ∃ g ∈ grpP p, has g u := by
  obtain ⟨hn, hf⟩ := asksOf_fits h
  obtain ⟨hi, hd, _⟩ := walk_all hn (askP_lt hf)
  exact (hi.told u).1 (hd u hu)
theorem lay_inv {p : LProg} (h : progOk p = true) : (∀ l, layL p = some l → LayInv (ywP p) (nwP p) p.1.length (grpP p) l) ∧ (layL p = none → ∀ f, ¬ FitLay (ywP p) (nwP p) p.1.length f) := by
  have := groupsL_from (layers_groups h) (grpP p).length 0 (List.replicate p.1.length 0) (by omega) (Nat.zero_le _) (by simpa using LayInv.start (ywP p) (nwP p) p.1.length)
  simpa [layL] using this
theorem lay_fit {p : LProg} (h : progOk p = true) {l : List Nat} (hl : layL p = some l) : FitLay (ywP p) (nwP p) p.1.length (fun u => l.getD u 0) := fun u hu => by
  obtain ⟨g, hg, hgu⟩ := lay_told h hu
  exact ((lay_inv h).1 l hl).fit g hg u hgu
theorem lay_least {p : LProg} (h : progOk p = true) {l : List Nat} (hl : layL p = some l) {f : Nat → Nat} (hf : FitLay (ywP p) (nwP p) p.1.length f) {u : Nat} (hu : u < p.1.length) : l.getD u 0 ≤ f u := by
  obtain ⟨g, hg, hgu⟩ := lay_told h hu
  exact ((lay_inv h).1 l hl).least f hf g hg u hgu
theorem grp_few {p : LProg} (h : progOk p = true) : (grpP p).length ≤ p.1.length := by
  obtain ⟨hn, hf⟩ := asksOf_fits h
  exact (walk_all hn (askP_lt hf)).1.groupsN
theorem lay_few {p : LProg} (h : progOk p = true) {l : List Nat} (hl : layL p = some l) (u : Nat) : l.getD u 0 ≤ p.1.length := by
  have h1 := ((lay_inv h).1 l hl).few u
  have h2 := grp_few h
  omega
theorem lay_len {p : LProg} (h : progOk p = true) {l : List Nat} (hl : layL p = some l) : l.length = p.1.length := ((lay_inv h).1 l hl).len

-- rounds over links
/-- What the rounds keep: at most whatever fits. -/
def LayUp (p : LProg) (out : List Nat) : Prop := out.length = p.1.length ∧ ∀ f, FitLay (ywP p) (nwP p) p.1.length f → ∀ u, u < p.1.length → out.getD u 0 ≤ f u
/-- What a predicate needs above another one. -/
def needL (p : LProg) (out : List Nat) (i k : Nat) : Nat := out.getD k 0 + (if 1 < cellV (asksOf p.2) i k then 1 else 0)
theorem cell_has {p : LProg} (h : progOk p = true) {i k : Nat} (hi : i < p.1.length) : (has (ywP p i) k ↔ asked 0 (asksOf p.2) i k = true) ∧ (has (nwP p i) k ↔ asked 1 (asksOf p.2) i k = true) := by
  obtain ⟨hn, hf⟩ := asksOf_fits h
  unfold ywP nwP
  rw [askWords_at (by omega), askWords_at (by omega)]
  exact ⟨has_mask (.inl rfl) i k _ hf, has_mask (.inr rfl) i k _ hf⟩
theorem cell_pos (ps : List LAsk) (i k : Nat) : (0 < cellV ps i k ↔ asked 0 ps i k = true ∨ asked 1 ps i k = true) ∧ (1 < cellV ps i k ↔ asked 1 ps i k = true) := by
  unfold cellV
  cases asked 0 ps i k <;> cases asked 1 ps i k <;> simp
theorem need_le {p : LProg} (h : progOk p = true) {f : Nat → Nat} (hf : FitLay (ywP p) (nwP p) p.1.length f) {out : List Nat} {i k : Nat} (hi : i < p.1.length) (hk : out.getD k 0 ≤ f k) (hc : 0 < cellV (asksOf p.2) i k) : needL p out i k ≤ f i := by
  obtain ⟨c1, c2⟩ := cell_has h (k := k) hi
  obtain ⟨d1, d2⟩ := cell_pos (asksOf p.2) i k
  unfold needL
  by_cases e : 1 < cellV (asksOf p.2) i k
  · rw [if_pos e]
    have := (hf i hi).2 k (c2.2 (d2.1 e))
    omega
  · rw [if_neg e]
    rcases d1.1 hc with e1 | e1
    · have := (hf i hi).1 k (c1.2 e1)
      omega
    · exact absurd (d2.2 e1) e
theorem LayUp.raise {p : LProg} (h : progOk p = true) {out : List Nat} (hu : LayUp p out) {i k : Nat} (hi : i < p.1.length) (hk : k < p.1.length) (hc : 0 < cellV (asksOf p.2) i k) : LayUp p (out.set i (needL p out i k)) := by
  refine ⟨by rw [List.length_set]; exact hu.1, fun f hf u hun => ?_⟩
  have hl := hu.1
  by_cases e : u = i
  · subst e
    rw [List.getD_eq_getElem?_getD, List.getElem?_set_self (by omega)]
    exact need_le h hf hi (hu.2 f hf k hk) hc
  · rw [List.getD_eq_getElem?_getD, List.getElem?_set_ne (Ne.symm e), ← List.getD_eq_getElem?_getD]
    exact hu.2 f hf u hun
theorem LayUp.zero (p : LProg) : LayUp p (List.replicate p.1.length 0) := ⟨by simp, fun f _ u hu => by simp [List.getD_eq_getElem?_getD, hu]⟩
/-- Past the predicates' number there are no layers. -/
theorem LayUp.none {p : LProg} (h : progOk p = true) {out : List Nat} (hu : LayUp p out) {i : Nat} (hi : i < p.1.length) (hg : p.1.length < out.getD i 0) : layL p = none := by
  cases hl : layL p with
  | none => rfl
  | some l =>
    have h1 := hu.2 _ (lay_fit h hl) i hi
    have h2 := lay_few h hl i
    omega
/-- Where nothing is to be raised there are the least layers. -/
theorem LayUp.done {p : LProg} (h : progOk p = true) {out : List Nat} (hu : LayUp p out) (hfit : ∀ i, i < p.1.length → ∀ k, k < p.1.length → 0 < cellV (asksOf p.2) i k → needL p out i k ≤ out.getD i 0) : layL p = some out := by
  obtain ⟨hn, hf⟩ := asksOf_fits h
  have hF : FitLay (ywP p) (nwP p) p.1.length (fun u => out.getD u 0) := fun u hun => by
    refine ⟨fun x hx => ?_, fun x hx => ?_⟩
    · have ha := ((cell_has h hun).1).1 hx
      have hxn := (asked_lt (.inl rfl) hf ha).2
      have h1 := hfit u hun x hxn ((cell_pos _ u x).1.2 (.inl ha))
      unfold needL at h1
      show out.getD x 0 ≤ out.getD u 0
      omega
    · have ha := ((cell_has h hun).2).1 hx
      have hxn := (asked_lt (.inr rfl) hf ha).2
      have h1 := hfit u hun x hxn ((cell_pos _ u x).1.2 (.inr ha))
      unfold needL at h1
      rw [if_pos ((cell_pos _ u x).2.2 ha)] at h1
      show out.getD x 0 < out.getD u 0
      omega
  cases hl : layL p with
  | none => exact absurd hF ((lay_inv h).2 hl _)
  | some l =>
    have e : l = out := by
      apply List.ext_getElem
      · rw [lay_len h hl, hu.1]
      · intro u h1 h2
        have hun : u < p.1.length := by rw [← hu.1]; exact h2
        have k1 := hu.2 _ (lay_fit h hl) u hun
        have k2 := lay_least h hl hF hun
        simp only [List.getD_eq_getElem?_getD, List.getElem?_eq_getElem h1, List.getElem?_eq_getElem h2, Option.getD_some] at k1 k2
        omega
    rw [e]

end Go.Proofs.YtcoelmhlkfignaaDoor
/-
  The walk of leastLayer.
-/
namespace Go.Proofs.YtcoelmhlkfignaaDoor
open Go.RowKit

theorem bitsOf_nats (x : Nat) : bitsOf x = (bitsN x).map fun j : Nat => (j : Int) := rfl
theorem maxTo_take {f : Nat → Nat} {l : List Nat} {k b : Nat} (h : k < l.length) : maxTo f (l.take (k + 1)) b = max (maxTo f (l.take k) b) (f l[k]) := by rw [take_snoc l k h, maxTo_snoc]

set_option maxHeartbeats 2000000 in
set_option maxRecDepth 100000 in
theorem leastLayer_any (g gl n p y z : Nat) (lay : List Nat) (w : World) (cY : w.cell? ⟨g, p, none⟩ = some (wd64 y)) (cN : w.cell? ⟨g, 24 + p, none⟩ = some (wd64 z)) (hrow : w.rowIs gl 3 n (fun j => .int .i64 ((lay.getD j 0 : Nat) : Int))) (hp : p < 24)
    (hy : ∀ x ∈ bitsN y, x < n) (hz : ∀ x ∈ bitsN z, x < n) (hyl : y < 16777216) (hzl : z < 16777216) (hf : ∀ u, lay.getD u 0 ≤ 64) (hT : Tab w) :
    Calls Tryd.prog 41 #[.pointer (some ⟨g, 0, none⟩), .int .i64 (p : Int), .slice (some ⟨gl, 0, none⟩) n n] w fun e w' => e = .returned (.int .i64 ((maxTo (fun x => lay.getD x 0 + 1) (bitsN z) (maxTo (fun x => lay.getD x 0) (bitsN y) 0) : Nat) : Int)) ∧ Below w.heap.size w w' := by
  have HROW := Lib.hid hrow
  have HT := Lib.hid hT
  have HF := Lib.hid hf
  have hpi : (p : Int) < 24 := by omega
  obtain ⟨B, hB⟩ : ∃ B, B = bitsN y := ⟨_, rfl⟩
  obtain ⟨C, hC⟩ : ∃ C, C = bitsN z := ⟨_, rfl⟩
  obtain ⟨ms, hms⟩ : ∃ ms, ms = bitsOf y := ⟨_, rfl⟩
  obtain ⟨ns, hns⟩ : ∃ ns, ns = bitsOf z := ⟨_, rfl⟩
  have HMS := Lib.hid (show ms = B.map fun j : Nat => (j : Int) by rw [hms, hB]; rfl)
  have HNS := Lib.hid (show ns = C.map fun j : Nat => (j : Int) by rw [hns, hC]; rfl)
  have HML := Lib.hid (show ms.length = B.length by rw [HMS.out]; simp)
  have HNL := Lib.hid (show ns.length = C.length by rw [HNS.out]; simp)
  have hmsl : ms.length ≤ 64 := by rw [hms]; exact bitsOf_length _
  have hnsl : ns.length ≤ 64 := by rw [hns]; exact bitsOf_length _
  have CB := Lib.hid (bitNumbers_any y (by omega) w hT)
  have CC := Lib.hid (fun W (hW : Below w.heap.size w W) => bitNumbers_any z (by omega) W (HT.out.below hW))
  rw [← hms] at CB
  rw [← hns] at CC
  rw [← hB] at hy ⊢
  rw [← hC] at hz ⊢
  have HY := Lib.hid hy
  have HZ := Lib.hid hz
  obtain ⟨D, hD⟩ : ∃ D, D = maxTo (fun x => lay.getD x 0) B 0 := ⟨_, rfl⟩
  rw [← hD]
  have HD := Lib.hid hD
  clear hD
  have cY' : w.cell? ⟨g, p, none⟩ = some (.int .u64 (y : Int)) := cY
  have HCN := Lib.hid (show w.cell? ⟨g, 24 + p, none⟩ = some (.int .u64 (z : Int)) from cN)
  clear hrow hT hf hy hz hms hns hB hC cY cN
  go_enter Tryd.func41, Tryd.ntmps41
  go_wp2_with (go_at_call 32; refine CB.out.mono ?_; rintro e w1 ⟨A1, c1, rfl, o1, b1⟩; have HO1 := Lib.hid o1; have B1 := Lib.hid b1; clear o1 b1)
  go_loop [7, 20] (fun m i => ∃ (k : Nat) (q : Int), k ≤ ms.length ∧ i = .int .i64 k ∧ m = .int .i64 q ∧ q = ((maxTo (fun x => lay.getD x 0) (B.take k) 0 : Nat) : Int)) (fun _ i => ms.length - (intOf i).toNat)
  case atStart => exact ⟨0, 0, Nat.zero_le _, rfl, rfl, rfl⟩
  case round =>
    obtain ⟨k, q, hk, rfl, rfl, hq⟩ := hrel
    by_cases hlt : k < ms.length
    · have hkB : k < B.length := by rw [← HML.out]; exact hlt
      obtain ⟨bb, oo, rfl, hbb, k0⟩ := HO1.out.rd.at_ hlt
      obtain ⟨x, hx⟩ : ∃ x, x = B[k] := ⟨_, rfl⟩
      have hxk : ms[k] = (x : Int) := by rw [hx]; simp [HMS.out]
      rw [hxk] at k0
      have hxn : x < n := by rw [hx]; exact HY.out _ (List.getElem_mem hkB)
      have hxi : (x : Int) < (n : Int) := by omega
      have k1 := (HROW.out.of_block (B1.out.block gl HROW.out.lt)).cell hxn
      obtain ⟨d, hd⟩ : ∃ d, d = lay.getD x 0 := ⟨_, rfl⟩
      rw [← hd] at k1
      have HN := Lib.hid (show (if q < (d : Int) then (d : Int) else q) = ((maxTo (fun x => lay.getD x 0) (B.take (k + 1)) 0 : Nat) : Int) from by
        rw [maxTo_take hkB, ← hx, ← hd, hq]
        omega)
      clear hx hxk hd hq hbb
      go_wp2_with (fail)
      go_round
      case rel => exact ⟨k + 1, _, by omega, by go_num, rfl, HN.out⟩
      case measure => simp [intOf]; omega
    · have hkn : k = B.length := by rw [← HML.out]; omega
      have hqD : q = (D : Int) := by rw [hq, hkn, List.take_length, HD.out]
      subst hqD
      have hnk : w1.cell? ⟨g, 24 + p, none⟩ = some (.int .u64 (z : Int)) := (B1.out.cell (p := ⟨g, 24 + p, none⟩) (World.block_lt_of_cell? _ _ HCN.out)).trans HCN.out
      clear hq hkn
      go_wp2_with (go_at_call 32; refine (CC.out _ B1.out).mono ?_; rintro e w2 ⟨A2, c2, rfl, o2, b2⟩; have HO2 := Lib.hid o2; have B2 := Lib.hid (bthen B1.out b2); clear o2 b2)
      go_loop [7, 39] (fun m i => ∃ (k : Nat) (q : Int), k ≤ ns.length ∧ i = .int .i64 k ∧ m = .int .i64 q ∧ q = ((maxTo (fun x => lay.getD x 0 + 1) (C.take k) D : Nat) : Int)) (fun _ i => ns.length - (intOf i).toNat)
      case atStart => exact ⟨0, (D : Int), Nat.zero_le _, rfl, rfl, rfl⟩
      case round =>
        obtain ⟨k, q, hk, rfl, rfl, hq⟩ := hrel
        by_cases hlt : k < ns.length
        · have hkB : k < C.length := by rw [← HNL.out]; exact hlt
          obtain ⟨bb, oo, rfl, hbb, k0⟩ := HO2.out.rd.at_ hlt
          obtain ⟨x, hx⟩ : ∃ x, x = C[k] := ⟨_, rfl⟩
          have hxk : ns[k] = (x : Int) := by rw [hx]; simp [HNS.out]
          rw [hxk] at k0
          have hxn : x < n := by rw [hx]; exact HZ.out _ (List.getElem_mem hkB)
          have hxi : (x : Int) < (n : Int) := by omega
          have k1 := (HROW.out.of_block (B2.out.block gl HROW.out.lt)).cell hxn
          have hd64 := HF.out x
          obtain ⟨d, hd⟩ : ∃ d, d = lay.getD x 0 := ⟨_, rfl⟩
          rw [← hd] at k1 hd64
          have HN := Lib.hid (show (if q < (d : Int) + 1 then (d : Int) + 1 else q) = ((maxTo (fun x => lay.getD x 0 + 1) (C.take (k + 1)) D : Nat) : Int) from by
            rw [maxTo_take hkB, ← hx, ← hd, hq]
            omega)
          clear hx hxk hd hq hbb
          go_wp2_with (fail)
          go_round
          case rel => exact ⟨k + 1, _, by omega, by go_num, rfl, HN.out⟩
          case measure => simp [intOf]; omega
        · have HE := Lib.hid (show q = ((maxTo (fun x => lay.getD x 0 + 1) C D : Nat) : Int) by rw [hq, show k = C.length by rw [← HNL.out]; omega, List.take_length])
          clear hq
          go_wp2_with (fail)
          go_ret
          exact ⟨ret_int HE.out, B2.out⟩

end Go.Proofs.YtcoelmhlkfignaaDoor
/-
  The walk of the program's LayersOf.
-/
namespace Go.Proofs.YtcoelmhlkfignaaDoor
open Go.RowKit

/-- What LayersOf answers. -/
def layOk (p : LProg) : Bool := progOk p && (layL p).isSome
def layR (p : LProg) : List Int := if progOk p = true then ((layL p).getD []).map (fun n : Nat => (n : Int)) else []
theorem layR_few (p : LProg) : (layR p).length ≤ 24 := by
  unfold layR
  split
  · rename_i h
    cases hl : layL p with
    | none => simp
    | some l =>
      have h1 := lay_len h hl
      have h2 := (asksOf_fits h).1
      simp [h1]
      omega
  · simp
theorem layR_yes {p : LProg} (h : progOk p = true) {l : List Nat} (hl : layL p = some l) : layR p = l.map (fun n : Nat => (n : Int)) ∧ layOk p = true := by
  unfold layR layOk
  rw [if_pos h, hl, h]
  exact ⟨rfl, rfl⟩
theorem layR_no {p : LProg} (h : progOk p = false ∨ layL p = none) : layR p = [] ∧ layOk p = false := by
  unfold layR layOk
  rcases h with h | h
  · rw [if_neg (by rw [h]; decide), h]
    exact ⟨rfl, rfl⟩
  · rw [h]
    constructor
    · split <;> rfl
    · cases progOk p <;> rfl
theorem natRow (l : List Nat) (j : Nat) : (l.map (fun n : Nat => (n : Int))).getD j 0 = ((l.getD j 0 : Nat) : Int) := by
  rw [List.getD_eq_getElem?_getD, List.getD_eq_getElem?_getD, List.getElem?_map]
  cases l[j]? <;> rfl
theorem and24 {a b : Nat} (ha : a < 16777216) (hb : b < 16777216) : bits .and .u64 (a : Int) (b : Int) = ((a &&& b : Nat) : Int) := bits_and_u64_nat a b (by omega) (by omega)
theorem setAll_take {l B : List Nat} {m k : Nat} (h : k < B.length) : setAll l (B.take (k + 1)) m = (setAll l (B.take k) m).set B[k] m := by
  rw [take_snoc B k h]
  unfold setAll
  rw [List.foldl_append]
  rfl

set_option maxHeartbeats 4000000 in
set_option maxRecDepth 100000 in
theorem implLayersNo_any (v : Value) (p : LProg) (w : World) (hpo : progOk p = false) (h : RdProg w w.heap.size v p) (hs : szP p ≤ 1048576) :
    Calls Tryd.prog 21 #[v] w fun e w' => e = .returned (.tuple #[.slice none 0 0, .bool false]) ∧ Below w.heap.size w w' := by
  have HP := Lib.hid h
  obtain ⟨a, b, rfl, hA, hR⟩ := h
  obtain ⟨A, c, rfl, hcA, _⟩ := hA
  obtain ⟨A2, c2, rfl, hcR, _⟩ := hR
  obtain ⟨n, hn⟩ : ∃ n, n = p.1.length := ⟨_, rfl⟩
  have HNE := Lib.hid hn
  rw [← hn] at hcA ⊢
  clear hn
  go_enter Tryd.func21, Tryd.ntmps21
  go_upto_region 1 with fail
  obtain ⟨w1, hw1⟩ : ∃ w1, w1 = w.alloc (Obj.cells #[Value.slice A n c, Value.slice A2 p.2.length c2] 31) := ⟨_, rfl⟩
  have X1 : Blk w1 w.heap.size 31 #[.slice A n c, .slice A2 p.2.length c2] := by rw [hw1]; exact Blk.new _ _ _
  have B1 : Below w.heap.size w w1 := by rw [hw1]; exact below1 _ _
  rw [← hw1]
  clear hw1
  have x0 : w1.cell? ⟨w.heap.size, 0, none⟩ = some (.slice A n c) := X1.cell 0
  have x1 : w1.cell? ⟨w.heap.size, 1, none⟩ = some (.slice A2 p.2.length c2) := X1.cell 1
  have CW := Lib.hid (walkOf_no _ p w1 hpo (HP.out.on B1) hs)
  rw [← HNE.out] at CW
  clear X1
  go_wp2_with (go_at_call 31; refine CW.out.mono ?_; rintro e w2 ⟨rfl, b2⟩; have B2 := Lib.hid (bthen B1 b2); clear b2)
  refine bodyPost_ret (v := .tuple #[.slice none 0 0, .bool false]) (by simp [results, Tryd.results21, go_sem]) rfl ?_
  exact ⟨rfl, B2.out⟩

set_option maxHeartbeats 4000000 in
set_option maxRecDepth 100000 in
theorem implLayersYes_any (v : Value) (p : LProg) (w : World) (hpo : progOk p = true) (h : RdProg w w.heap.size v p) (hs : szP p ≤ 1048576) (hT : Tab w) :
    Calls Tryd.prog 21 #[v] w fun e w' => ∃ A' c', e = .returned (.tuple #[.slice A' (layR p).length c', .bool (layOk p)]) ∧ OwnInts w' w.heap.size w'.heap.size (.slice A' (layR p).length c') (layR p) ∧ Below w.heap.size w w' := by
  have HP := Lib.hid h
  have HT := Lib.hid hT
  have HPO := Lib.hid hpo
  obtain ⟨a, b, rfl, hA, hR⟩ := h
  obtain ⟨A, c, rfl, hcA, _⟩ := hA
  obtain ⟨A2, c2, rfl, hcR, _⟩ := hR
  obtain ⟨hn24, hfit⟩ := asksOf_fits hpo
  have hmk := run_make_row' (P := Tryd.prog) 22 3 (.int .i64 0) 8 Tryd.underlying22 Tryd.infoInt rfl .i64 .i64 p.1.length (by omega) (by omega)
  have CW0 := Lib.hid (fun W (hW : Below w.heap.size w W) => walkOf_yes _ p W hpo (HP.out.on hW) hs (HT.out.below hW))
  have HGO := Lib.hid (layers_groups hpo)
  have HLIM := Lib.hid (askP_lim hn24 hfit)
  have HLL := Lib.hid (show layL p = groupsL (ywP p) (nwP p) ((grpP p).drop 0) (List.replicate p.1.length 0) from rfl)
  have HI0 := Lib.hid (show LayInv (ywP p) (nwP p) p.1.length ((grpP p).take 0) (List.replicate p.1.length 0) from by simpa using LayInv.start (ywP p) (nwP p) p.1.length)
  have HGN := Lib.hid (grp_few hpo)
  obtain ⟨F, hF⟩ : ∃ F, F = walkF (askP p) p.1.length p.1.length := ⟨_, rfl⟩
  have HGS := Lib.hid (show F.groups = grpP p by rw [hF]; rfl)
  rw [← hF] at CW0
  obtain ⟨R, hR⟩ : ∃ R, R = layR p := ⟨_, rfl⟩
  obtain ⟨ok, hok⟩ : ∃ ok, ok = layOk p := ⟨_, rfl⟩
  rw [← hR, ← hok]
  have HR := Lib.hid (And.intro hR hok)
  obtain ⟨n, hn⟩ : ∃ n, n = p.1.length := ⟨_, rfl⟩
  have HNE := Lib.hid hn
  rw [← hn] at hcA hn24 hmk CW0 HGO HLL HI0 HGN ⊢
  clear hn hT hpo hF hfit hR hok
  go_enter Tryd.func21, Tryd.ntmps21
  go_upto_region 1 with fail
  obtain ⟨w1, hw1⟩ : ∃ w1, w1 = w.alloc (Obj.cells #[Value.slice A n c, Value.slice A2 p.2.length c2] 31) := ⟨_, rfl⟩
  have X1 : Blk w1 w.heap.size 31 #[.slice A n c, .slice A2 p.2.length c2] := by rw [hw1]; exact Blk.new _ _ _
  have B1 : Below w.heap.size w w1 := by rw [hw1]; exact below1 _ _
  rw [← hw1]
  clear hw1
  have x0 : w1.cell? ⟨w.heap.size, 0, none⟩ = some (.slice A n c) := X1.cell 0
  have x1 : w1.cell? ⟨w.heap.size, 1, none⟩ = some (.slice A2 p.2.length c2) := X1.cell 1
  have HX1 := Lib.hid X1
  have CW := Lib.hid (CW0.out w1 B1)
  clear X1 CW0
  go_upto_region 4 with (go_at_call 31; refine CW.out.mono ?_; rintro e w2 ⟨g, Ap, cp, Ag, cg, rfl, hgg, hgw, b2⟩; have B2 := Lib.hid (bthen B1 b2); have HG2 := Lib.hid hgw; have HX2 := Lib.hid (HX1.out.below b2 HX1.out.lt); have x20 : w2.cell? ⟨w.heap.size, 0, none⟩ = some (.slice A n c) := HX2.out.cell 0; clear b2 hgw)
  clear x0 x1
  have hg2 : g < w2.heap.size := HG2.out.lt
  go_upto_region 5 with fail
  obtain ⟨w3, hw3⟩ : ∃ w3, w3 = w2.alloc (Obj.cells (madeCells #[Value.int .i64 0] n) 3) := ⟨_, rfl⟩
  obtain ⟨gl, hgl⟩ : ∃ gl, gl = w2.heap.size := ⟨_, rfl⟩
  have HR3 := Lib.hid (show w3.rowIs gl 3 n (fun j => .int .i64 (((List.replicate n 0).getD j 0 : Nat) : Int)) from by
    rw [hw3, hgl]
    exact (World.rowIs_made _ _ _ _).congr fun j hj => by simp [List.getD_eq_getElem?_getD, hj])
  have HW3 := Lib.hid (show Below gl w2 w3 by rw [hw3, hgl]; exact below1 _ _)
  have k52 : w3.cell? ⟨g, 52, none⟩ = some (.slice Ag F.groups.length cg) := by
    rw [hw3]
    exact ((HG2.out.on (below1 _ _)).cellGroups)
  have hggl : g < gl := by rw [hgl]; exact hg2
  have hwgl : w.heap.size < gl := by rw [hgl]; exact HX2.out.lt
  rw [← hw3, ← hgl]
  have HGL := Lib.hid hgl
  clear hw3 hgl hg2 x20
  go_wp2_with fail
  go_loopw [31] (fun i wr => ∃ (k : Nat) (lay : List Nat), k ≤ F.groups.length ∧ i = .int .i64 k ∧ wr.rowIs gl 3 n (fun j => .int .i64 ((lay.getD j 0 : Nat) : Int)) ∧ (layL p = groupsL (ywP p) (nwP p) (F.groups.drop k) lay ∧ LayInv (ywP p) (nwP p) n (F.groups.take k) lay) ∧ Below gl w2 wr) (fun i _ => F.groups.length - (intOf i).toNat)
  case atStart => exact ⟨0, _, Nat.zero_le _, rfl, HR3.out, by rw [HGS.out]; exact ⟨HLL.out, HI0.out⟩, HW3.out⟩
  case round =>
    obtain ⟨k, lay, hk, rfl, hrow, hin, hbe⟩ := hrel
    have HROW := Lib.hid hrow
    have HIN := Lib.hid hin
    have HBE := Lib.hid hbe
    have HGW := Lib.hid (HG2.out.on (by rw [← HGL.out]; exact hbe))
    have HTW := Lib.hid (HT.out.below (bthen B2.out (by rw [← HGL.out]; exact hbe)))
    clear hrow hin hbe k52
    have hFl : F.groups.length ≤ 24 := by have h2 := HGN.out; rw [← HGS.out] at h2; omega
    by_cases hlt : k < F.groups.length
    · have hgr := HGW.out.groups
      obtain ⟨gx, cap, e, _, hgx⟩ := hgr.form (by omega)
      injection e with e1 e2 e3
      clear e2 e3
      subst e1
      obtain ⟨x, hx⟩ : ∃ x, x = F.groups[k] := ⟨_, rfl⟩
      have kx : wr.cell? ⟨gx, k, none⟩ = some (.int .u64 (x : Int)) := by
        rw [hgr.cellAt k (by omega), List.getElem?_map, List.getElem?_eq_getElem hlt, hx]
        rfl
      have hgk : k < (grpP p).length := by rw [← HGS.out]; exact hlt
      have hxg : x = (grpP p)[k] := by rw [hx]; simp only [HGS.out]
      have hxm : x ∈ grpP p := by rw [hxg]; exact List.getElem_mem hgk
      have hx24 : x < 16777216 := HGW.out.lim.groups x (by rw [hx]; exact List.getElem_mem hlt)
      have HMEM := Lib.hid (show ∀ u ∈ bitsN x, u < n from fun u hu => HGO.out.mem x hxm u (bitsN_mem.1 hu).2)
      have HST := Lib.hid (show (∀ l, groupL (ywP p) (nwP p) lay x = some l → LayInv (ywP p) (nwP p) n (F.groups.take (k + 1)) l) from by
        have h1 := (groupL_step HGO.out hgk (lay := lay) (by rw [← HGS.out]; exact HIN.out.2)).1
        rw [← hxg, ← HGS.out] at h1
        exact h1)
      have HNX := Lib.hid (show layL p = match groupL (ywP p) (nwP p) lay x with | none => none | some l => groupsL (ywP p) (nwP p) (F.groups.drop (k + 1)) l from by
        have h1 := HIN.out.1
        rw [List.drop_eq_getElem_cons hlt, ← hx] at h1
        exact h1)
      have HFEW := Lib.hid (show ∀ u, lay.getD u 0 ≤ 24 from fun u => by
        have h1 := HIN.out.2.few u
        have h2 := HGN.out
        rw [← HGS.out] at h2
        simp only [List.length_take] at h1
        omega)
      obtain ⟨B, hB⟩ : ∃ B, B = bitsN x := ⟨_, rfl⟩
      obtain ⟨ms, hms⟩ : ∃ ms, ms = bitsOf x := ⟨_, rfl⟩
      have HMS := Lib.hid (show ms = B.map fun j : Nat => (j : Int) by rw [hms, hB]; rfl)
      have HML := Lib.hid (show ms.length = B.length by rw [HMS.out]; simp)
      have hmsl : ms.length ≤ 64 := by rw [hms]; exact bitsOf_length _
      have HGL2 := Lib.hid (show groupL (ywP p) (nwP p) lay x = if B.any (denies (nwP p) x) then none else some (setAll lay B (maxTo (leastL (ywP p) (nwP p) lay) B 0)) by rw [hB]; rfl)
      have CB := Lib.hid (bitNumbers_any x (by omega) wr HTW.out)
      rw [← hms] at CB
      rw [← hB] at HMEM
      clear hgr hgx hx hxg hxm hgk hB hms
      go_wp2_with (go_at_call 32; refine CB.out.mono ?_; rintro e w4 ⟨A4, c4, rfl, o4, b4⟩; have HO4 := Lib.hid o4; have HB4 := Lib.hid (HBE.out.trans (b4.mono (Nat.le_of_lt HROW.out.lt))); have HR4 := Lib.hid (HROW.out.of_block (b4.block gl HROW.out.lt)); have HG4 := Lib.hid (HGW.out.on b4); have HT4 := Lib.hid (HTW.out.below b4); clear o4 b4)
      go_loopw [10, 39] (fun m i ws => ∃ (j : Nat) (q : Int), j ≤ ms.length ∧ i = .int .i64 j ∧ m = .int .i64 q ∧ q = ((maxTo (leastL (ywP p) (nwP p) lay) (B.take j) 0 : Nat) : Int) ∧ (B.take j).any (denies (nwP p) x) = false ∧ Below w4.heap.size w4 ws) (fun _ i _ => ms.length - (intOf i).toNat)
      case atStart => exact ⟨0, 0, Nat.zero_le _, rfl, rfl, rfl, rfl, Below.refl _ _⟩
      case round =>
        obtain ⟨j, q, hj, rfl, rfl, hq, hdn, hbt⟩ := hrel
        have HBT := Lib.hid hbt
        have HR5 := Lib.hid (HR4.out.of_block (hbt.block gl HR4.out.lt))
        have HG5 := Lib.hid (HG4.out.on hbt)
        have HT5 := Lib.hid (HT4.out.below hbt)
        have HDN := Lib.hid hdn
        clear hbt hdn
        by_cases hltj : j < ms.length
        · have hjB : j < B.length := by rw [← HML.out]; exact hltj
          obtain ⟨bb, oo, rfl, hbb, k0⟩ := (HO4.out.rd.on HBT.out).at_ hltj
          obtain ⟨P, hP⟩ : ∃ P, P = B[j] := ⟨_, rfl⟩
          have hPk : ms[j] = (P : Int) := by rw [hP]; simp [HMS.out]
          rw [hPk] at k0
          have hPn : P < n := by rw [hP]; exact HMEM.out _ (List.getElem_mem hjB)
          have hP24 : P < 24 := by omega
          have hPi : (P : Int) < 24 := by omega
          obtain ⟨y, hy⟩ : ∃ y, y = ywP p P := ⟨_, rfl⟩
          obtain ⟨z, hz⟩ : ∃ z, z = nwP p P := ⟨_, rfl⟩
          have hyl : y < 16777216 := by rw [hy]; exact HLIM.out.y P hP24
          have hzl : z < 16777216 := by rw [hz]; exact HLIM.out.n P hP24
          have cY : wr.cell? ⟨g, P, none⟩ = some (wd64 y) := by rw [hy]; exact HG5.out.cellYes hP24
          have cN : wr.cell? ⟨g, 24 + P, none⟩ = some (wd64 z) := by rw [hz]; exact HG5.out.cellNo hP24
          have cN' : wr.cell? ⟨g, 24 + P, none⟩ = some (.int .u64 (z : Int)) := cN
          have hyb : ∀ x ∈ bitsN y, x < n := fun x hx => HGO.out.lim P x ((HGO.out.asks P x).2 (.inl (by rw [← hy]; exact (bitsN_mem.1 hx).2)))
          have hzb : ∀ x ∈ bitsN z, x < n := fun x hx => HGO.out.lim P x ((HGO.out.asks P x).2 (.inr (by rw [← hz]; exact (bitsN_mem.1 hx).2)))
          have CL := leastLayer_any g gl n P y z lay wr cY cN HR5.out hP24 hyb hzb hyl hzl (fun u => by have := HFEW.out u; omega) HT5.out
          obtain ⟨m, hm⟩ : ∃ m, m = leastL (ywP p) (nwP p) lay P := ⟨_, rfl⟩
          rw [show maxTo (fun x => lay.getD x 0 + 1) (bitsN z) (maxTo (fun x => lay.getD x 0) (bitsN y) 0) = m by rw [hm, hy, hz]; rfl] at CL
          have HCL := Lib.hid CL
          have hband := and24 hzl hx24
          have HTK := Lib.hid (show maxTo (leastL (ywP p) (nwP p) lay) (B.take (j + 1)) 0 = max (maxTo (leastL (ywP p) (nwP p) lay) (B.take j) 0) m by rw [maxTo_take hjB, ← hP, hm])
          have HANY := Lib.hid (show (B.take (j + 1)).any (denies (nwP p) x) = (z &&& x != 0) by rw [take_snoc B j hjB, List.any_append, HDN.out, ← hP]; simp [denies, hz])
          have HMB := Lib.hid (show P ∈ B by rw [hP]; exact List.getElem_mem hjB)
          have HZ := Lib.hid hz
          clear cY cN hyb hzb CL hm hP hPk hbb hy hz
          by_cases hd : z &&& x = 0
          · have hd1 : (((z &&& x : Nat) : Int) != 0) = false := by simp [hd]
            have HN := Lib.hid (show (if q < (m : Int) then (m : Int) else q) = ((maxTo (leastL (ywP p) (nwP p) lay) (B.take (j + 1)) 0 : Nat) : Int) ∧ (B.take (j + 1)).any (denies (nwP p) x) = false from ⟨by rw [HTK.out, hq]; omega, by rw [HANY.out, hd]; rfl⟩)
            clear hq hd
            go_wp2_with (go_at_call 41; refine HCL.out.mono ?_; rintro e w6 ⟨rfl, b6⟩; have HB6 := Lib.hid (bthen HBT.out b6); clear b6)
            go_roundw
            case rel => exact ⟨j + 1, _, by omega, by go_num, rfl, HN.out.1, HN.out.2, HB6.out⟩
            case measure => simp [intOf]; omega
          · have hd1 : (((z &&& x : Nat) : Int) != 0) = true := by simp [hd]
            have HE := Lib.hid (show R = [] ∧ ok = false from by
              have h1 : B.any (denies (nwP p) x) = true := List.any_eq_true.2 ⟨P, HMB.out, by unfold denies; rw [← HZ.out]; simp [hd]⟩
              have h2 := HNX.out
              rw [HGL2.out, if_pos h1] at h2
              have h3 := layR_no (p := p) (.inr h2)
              rw [HR.out.1, HR.out.2]
              exact h3)
            have HBW := Lib.hid (show Below w.heap.size w wr from bthen B2.out (by rw [← HGL.out]; exact HB4.out.trans (HBT.out.mono (by have := HB4.out.size; have := HR4.out.lt; omega))))
            clear hq hd
            go_wp2_with fail
            refine bodyPost_ret (v := .tuple #[.slice none 0 0, .bool false]) (by simp [results, Tryd.results21, go_sem]) rfl ?_
            rw [HE.out.1, HE.out.2]
            exact ⟨none, 0, rfl, ⟨World.ownsRow_nil _ _ _ _, fun g hg => by cases hg⟩, HBW.out⟩
        · have hjB : j = B.length := by rw [← HML.out]; omega
          obtain ⟨m, hm⟩ : ∃ m, m = maxTo (leastL (ywP p) (nwP p) lay) B 0 := ⟨_, rfl⟩
          have hqm : q = (m : Int) := by rw [hq, hjB, List.take_length, hm]
          subst hqm
          have HANY := Lib.hid (show B.any (denies (nwP p) x) = false by have := HDN.out; rw [hjB, List.take_length] at this; exact this)
          have HLN := Lib.hid (show groupL (ywP p) (nwP p) lay x = some (setAll lay B m) by rw [HGL2.out, if_neg (by rw [HANY.out]; decide), hm])
          have HLE := Lib.hid (show lay.length = n from HIN.out.2.len)
          clear hq hjB hm
          obtain ⟨wo, rfl⟩ : ∃ wo, wo = wr := ⟨_, rfl⟩
          have HBO := Lib.hid (show Below gl w2 wo from HB4.out.trans (HBT.out.mono (by have := HB4.out.size; have := HR4.out.lt; omega)))
          go_wp2_with fail
          go_loopw [64] (fun i ws => ∃ (j : Nat), j ≤ ms.length ∧ i = .int .i64 j ∧ ws.rowIs gl 3 n (fun u => .int .i64 (((setAll lay (B.take j) m).getD u 0 : Nat) : Int)) ∧ (Below gl w2 ws ∧ Only gl (gl + 1) wo ws)) (fun i _ => ms.length - (intOf i).toNat)
          case atStart => exact ⟨0, Nat.zero_le _, rfl, HR5.out, HBO.out, Only.refl _ _ _⟩
          case round =>
            obtain ⟨j, hj, rfl, hr6, hb6, ho6⟩ := hrel
            by_cases hltj : j < ms.length
            · have hjB : j < B.length := by rw [← HML.out]; exact hltj
              have hrd4 := (HO4.out.rd.on HBT.out)
              obtain ⟨bb, oo, e4, hbb, k0⟩ := hrd4.at_ hltj
              have hbg : bb ≠ gl := fun e => by
                have h1 := (HO4.out.1.lt bb (by rw [e4]; rfl))
                have h2 := HROW.out.lt
                omega
              subst e4
              obtain ⟨P, hP⟩ : ∃ P, P = B[j] := ⟨_, rfl⟩
              have hPk : ms[j] = (P : Int) := by rw [hP]; simp [HMS.out]
              rw [hPk] at k0
              have k1 : wr.cell? ⟨bb, oo + j, none⟩ = some (.int .i64 (P : Int)) := (World.cell?_of_block (ho6.block bb hbb (by omega))).trans k0
              have hPn : P < n := by rw [hP]; exact HMEM.out _ (List.getElem_mem hjB)
              have hPi : (P : Int) < (n : Int) := by omega
              have c1 := hr6.cell hPn
              have f1 := hr6.frozen P
              have HN := Lib.hid (show (wr.setCell ⟨gl, P, none⟩ (.int .i64 (m : Int))).rowIs gl 3 n (fun u => .int .i64 (((setAll lay (B.take (j + 1)) m).getD u 0 : Nat) : Int)) ∧ Below gl w2 (wr.setCell ⟨gl, P, none⟩ (.int .i64 (m : Int))) ∧ Only gl (gl + 1) wo (wr.setCell ⟨gl, P, none⟩ (.int .i64 (m : Int))) from by
                refine ⟨(hr6.set P _).congr fun u hu => ?_, hb6.setCell (Nat.le_refl _) _, ho6.setCell (by simp) _⟩
                rw [setAll_take hjB, ← hP]
                by_cases e : u = P
                · subst e
                  rw [if_pos rfl, List.getD_eq_getElem?_getD, List.getElem?_set_self (by rw [setAll_len, HLE.out]; exact hPn)]
                  rfl
                · rw [if_neg e, List.getD_eq_getElem?_getD, List.getD_eq_getElem?_getD, List.getElem?_set_ne (Ne.symm e)])
              clear hr6 hb6 ho6 k0 hbb hbg hrd4 hPk hP
              go_wp2_with fail
              go_roundw
              case rel => exact ⟨j + 1, by omega, by go_num, HN.out.1, HN.out.2.1, HN.out.2.2⟩
              case measure => simp [intOf]; omega
            · have hjB : j = B.length := by rw [← HML.out]; omega
              have HN := Lib.hid (show wr.rowIs gl 3 n (fun u => .int .i64 (((setAll lay B m).getD u 0 : Nat) : Int)) ∧ (layL p = groupsL (ywP p) (nwP p) (F.groups.drop (k + 1)) (setAll lay B m) ∧ LayInv (ywP p) (nwP p) n (F.groups.take (k + 1)) (setAll lay B m)) ∧ Below gl w2 wr from by
                rw [hjB, List.take_length] at hr6
                have h2 := HNX.out
                rw [HLN.out] at h2
                exact ⟨hr6, ⟨h2, HST.out _ HLN.out⟩, hb6⟩)
              clear hr6 hb6 ho6 hjB
              go_wp2_with fail
              go_roundw
              case rel => exact ⟨k + 1, _, by omega, by go_num, HN.out.1, HN.out.2.1, HN.out.2.2⟩
              case measure => simp [intOf]; omega
    · have hkn : k = F.groups.length := by omega
      have HE := Lib.hid (show R = lay.map (fun n : Nat => (n : Int)) ∧ ok = true from by
        have h1 := HIN.out.1
        rw [hkn, List.drop_length] at h1
        have h2 := layR_yes HPO.out h1
        rw [HR.out.1, HR.out.2]
        exact h2)
      have HLE := Lib.hid (show R.length = n by rw [HE.out.1, List.length_map]; exact HIN.out.2.len)
      have HO := Lib.hid (show OwnInts wr w.heap.size wr.heap.size (.slice (some ⟨gl, 0, none⟩) n n) R from by
        have h1 : wr.rowIs gl 3 R.length (fun j => .int .i64 (R.getD j 0)) := by
          rw [HLE.out]
          exact HROW.out.congr fun j _ => by rw [HE.out.1, natRow]
        have h2 := OwnInts.of_rowIs h1 (Nat.le_of_lt hwgl) HROW.out.lt (by rw [HLE.out]; unfold maxLen; omega)
        rw [HLE.out] at h2
        exact h2)
      have HBW := Lib.hid (show Below w.heap.size w wr from bthen B2.out (by rw [← HGL.out]; exact HBE.out))
      clear hkn
      go_wp2_with fail
      refine bodyPost_ret (v := .tuple #[.slice (some ⟨gl, 0, none⟩) n n, .bool true]) (by simp [results, Tryd.results21, go_sem]) rfl ?_
      rw [HE.out.2, HLE.out]
      exact ⟨_, n, rfl, HO.out, HBW.out⟩

theorem implLayersOf_any (v : Value) (p : LProg) (w : World) (h : RdProg w w.heap.size v p) (hs : szP p ≤ 1048576) (hT : Tab w) :
    Calls Tryd.prog 21 #[v] w fun e w' => ∃ A' c', e = .returned (.tuple #[.slice A' (layR p).length c', .bool (layOk p)]) ∧ OwnInts w' w.heap.size w'.heap.size (.slice A' (layR p).length c') (layR p) ∧ Below w.heap.size w w' := by
  cases hpo : progOk p
  · refine (implLayersNo_any v p w hpo h hs).mono ?_
    rintro e w' ⟨rfl, hb⟩
    obtain ⟨h1, h2⟩ := layR_no (p := p) (.inl hpo)
    rw [h1, h2]
    exact ⟨none, 0, rfl, ⟨World.ownsRow_nil _ _ _ _, fun g hg => by cases hg⟩, hb⟩
  · exact implLayersYes_any v p w hpo h hs hT

end Go.Proofs.YtcoelmhlkfignaaDoor
/-
  The walk of the specification's l5Layers and LayersOf.
-/
namespace Go.Proofs.YtcoelmhlkfignaaDoor
open Go.RowKit

/-- How much is left to raise. -/
def defL (n : Nat) (out : List Nat) : Nat := (out.map fun x => n - x).sum
theorem defL_set {n x : Nat} : ∀ (out : List Nat) (i : Nat), i < out.length → out.getD i 0 < x → x ≤ n → defL n (out.set i x) < defL n out
  | [], i, h, _, _ => absurd h (by simp)
  | y :: out, 0, _, h1, h2 => by
    simp only [List.getD_cons_zero] at h1
    simp only [defL, List.set_cons_zero, List.map_cons, List.sum_cons]
    omega
  | y :: out, i + 1, h, h1, h2 => by
    have := defL_set out i (by simpa using h) (by simpa using h1) h2
    simp only [defL, List.set_cons_succ, List.map_cons, List.sum_cons] at this ⊢
    omega
def natAt (w : World) (g j : Nat) : Nat := match w.cell? ⟨g, j, none⟩ with | some (.int _ x) => x.toNat | _ => 0
def defW (w : World) (g n : Nat) : Nat := ((List.range n).map fun j => n - natAt w g j).sum
theorem defW_row {w : World} {g n : Nat} {out : List Nat} (h : w.rowIs g 3 n (fun j => .int .i64 ((out.getD j 0 : Nat) : Int))) (hl : out.length = n) : defW w g n = defL n out := by
  unfold defW defL
  congr 1
  apply List.ext_getElem
  · simp [hl]
  · intro j h1 h2
    have hj : j < n := by simpa using h1
    rw [List.getElem_map, List.getElem_map, List.getElem_range]
    unfold natAt
    rw [h.cell hj]
    simp [List.getD_eq_getElem?_getD, show j < out.length by omega]
theorem defW_drew (w : World) (g n : Nat) : defW w.drew g n = defW w g n := rfl
/-- What the rounds keep at every place. -/
structure RnAt (p : LProg) (n : Nat) (out0 out : List Nat) (b : Bool) (i k : Nat) : Prop where
  up : LayUp p out
  few : ∀ u, out.getD u 0 ≤ n
  same : b = false → out = out0 ∧ ∀ a c, a < n → c < n → (a < i ∨ (a = i ∧ c < k)) → 0 < cellV (asksOf p.2) a c → needL p out0 a c ≤ out0.getD a 0
  less : b = true → defL n out < defL n out0
theorem RnAt.row {p : LProg} {n i : Nat} {out0 out : List Nat} {b : Bool} (h : RnAt p n out0 out b i n) : RnAt p n out0 out b (i + 1) 0 := by
  refine ⟨h.up, h.few, fun hb => ⟨(h.same hb).1, fun a c ha hc hac h0 => (h.same hb).2 a c ha hc ?_ h0⟩, h.less⟩
  by_cases e : a = i
  · exact .inr ⟨e, hc⟩
  · exact .inl (by omega)
theorem RnAt.keep {p : LProg} {n i k : Nat} {out0 out : List Nat} {b : Bool} (h : RnAt p n out0 out b i k) (hf : 0 < cellV (asksOf p.2) i k → needL p out i k ≤ out.getD i 0) : RnAt p n out0 out b i (k + 1) :=
  ⟨h.up, h.few, fun hb => by
    obtain ⟨e, h1⟩ := h.same hb
    refine ⟨e, fun a c ha hc hac h0 => ?_⟩
    by_cases e2 : a = i ∧ c = k
    · obtain ⟨rfl, rfl⟩ := e2
      rw [← e]
      exact hf h0
    · exact h1 a c ha hc (by omega) h0, h.less⟩
theorem RnAt.raise {p : LProg} (hp : progOk p = true) {n i k : Nat} {out0 out : List Nat} {b : Bool} (hn : n = p.1.length) (h : RnAt p n out0 out b i k) (hi : i < n) (hk : k < n) (hc : 0 < cellV (asksOf p.2) i k) (hlt : out.getD i 0 < needL p out i k) (hm : needL p out i k ≤ n) : RnAt p n out0 (out.set i (needL p out i k)) true i (k + 1) := by
  subst hn
  have hl := h.up.1
  refine ⟨h.up.raise hp hi hk hc, fun u => ?_, fun hb => (by cases hb), fun _ => ?_⟩
  · by_cases e : u = i
    · subst e
      rw [List.getD_eq_getElem?_getD, List.getElem?_set_self (by omega)]
      exact hm
    · rw [List.getD_eq_getElem?_getD, List.getElem?_set_ne (Ne.symm e), ← List.getD_eq_getElem?_getD]
      exact h.few u
  · have h1 := defL_set (n := p.1.length) (x := needL p out i k) out i (by omega) hlt hm
    cases b with
    | false => rw [← (h.same rfl).1]; exact h1
    | true => have := h.less rfl; omega
theorem set_row {w : World} {g n i x : Nat} {out : List Nat} (h : w.rowIs g 3 n (fun j => .int .i64 ((out.getD j 0 : Nat) : Int))) (hl : out.length = n) (hi : i < n) : (w.setCell ⟨g, i, none⟩ (.int .i64 (x : Int))).rowIs g 3 n (fun j => .int .i64 (((out.set i x).getD j 0 : Nat) : Int)) := by
  refine (h.set i _).congr fun j hj => ?_
  by_cases e : j = i
  · subst e
    rw [if_pos rfl, List.getD_eq_getElem?_getD, List.getElem?_set_self (by omega)]
    rfl
  · rw [if_neg e, List.getD_eq_getElem?_getD, List.getD_eq_getElem?_getD, List.getElem?_set_ne (Ne.symm e)]

set_option maxHeartbeats 4000000 in
set_option maxRecDepth 100000 in
theorem l5Layers_any (v : Value) (p : LProg) (w : World) (hpo : progOk p = true) (h : RdProg w w.heap.size v p) (hs : szP p ≤ 1048576) :
    Calls Tryd.prog 40 #[v] w fun e w' => ∃ A' c', e = .returned (.tuple #[.slice A' (layR p).length c', .bool (layOk p)]) ∧ OwnInts w' w.heap.size w'.heap.size (.slice A' (layR p).length c') (layR p) ∧ Below w.heap.size w w' := by
  have HP := Lib.hid h
  have HPO := Lib.hid hpo
  obtain ⟨a, b, rfl, hA, hR⟩ := h
  obtain ⟨A, c, rfl, hcA, _⟩ := hA
  obtain ⟨A2, c2, rfl, hcR, _⟩ := hR
  obtain ⟨hn24, hfit⟩ := asksOf_fits hpo
  have hmk := run_make_row' (P := Tryd.prog) 22 3 (.int .i64 0) 8 Tryd.underlying22 Tryd.infoInt rfl .i64 .i64 p.1.length (by omega) (by omega)
  have CL := Lib.hid (fun W (hW : Below w.heap.size w W) => l5Links_any _ p W (HP.out.on hW) hs hn24 hfit)
  have HZ := Lib.hid (show RnAt p p.1.length [] (List.replicate p.1.length 0) true 0 0 ∨ True from .inr trivial)
  have HU0 := Lib.hid (LayUp.zero p)
  obtain ⟨R, hR⟩ : ∃ R, R = layR p := ⟨_, rfl⟩
  obtain ⟨ok, hok⟩ : ∃ ok, ok = layOk p := ⟨_, rfl⟩
  rw [← hR, ← hok]
  have HR := Lib.hid (And.intro hR hok)
  obtain ⟨T, hT⟩ : ∃ T, T = cellV (asksOf p.2) := ⟨_, rfl⟩
  have HTT := Lib.hid hT
  rw [← hT] at CL
  obtain ⟨n, hn⟩ : ∃ n, n = p.1.length := ⟨_, rfl⟩
  have HNE := Lib.hid hn
  rw [← hn] at hcA hn24 hmk CL HU0 ⊢
  clear hn hpo hfit hR hok hT HZ
  go_enter Tryd.func40, Tryd.ntmps40
  go_upto_region 1 with fail
  obtain ⟨w1, hw1⟩ : ∃ w1, w1 = w.alloc (Obj.cells #[Value.slice A n c, Value.slice A2 p.2.length c2] 31) := ⟨_, rfl⟩
  have X1 : Blk w1 w.heap.size 31 #[.slice A n c, .slice A2 p.2.length c2] := by rw [hw1]; exact Blk.new _ _ _
  have B1 : Below w.heap.size w w1 := by rw [hw1]; exact below1 _ _
  rw [← hw1]
  clear hw1
  have x0 : w1.cell? ⟨w.heap.size, 0, none⟩ = some (.slice A n c) := X1.cell 0
  have x1 : w1.cell? ⟨w.heap.size, 1, none⟩ = some (.slice A2 p.2.length c2) := X1.cell 1
  have CW := Lib.hid (CL.out w1 B1)
  clear X1 CL
  go_upto_region 2 with (go_at_call 45; refine CW.out.mono ?_; rintro e w2 ⟨g, rfl, hgw, hg1, hg2, b2⟩; have B2 := Lib.hid (bthen B1 b2); have HG2 := Lib.hid hgw; have HGB := Lib.hid hg2; clear b2 hgw)
  clear x0 x1
  go_upto_region 3 with fail
  obtain ⟨w3, hw3⟩ : ∃ w3, w3 = w2.alloc (Obj.cells (madeCells #[Value.int .i64 0] n) 3) := ⟨_, rfl⟩
  obtain ⟨gl, hgl⟩ : ∃ gl, gl = w2.heap.size := ⟨_, rfl⟩
  have HR3 := Lib.hid (show w3.rowIs gl 3 n (fun j => .int .i64 (((List.replicate n 0).getD j 0 : Nat) : Int)) from by
    rw [hw3, hgl]
    exact (World.rowIs_made _ _ _ _).congr fun j hj => by simp [List.getD_eq_getElem?_getD, hj])
  have HW3 := Lib.hid (show Below gl w2 w3 by rw [hw3, hgl]; exact below1 _ _)
  have HGG := Lib.hid (show g + 1 + n ≤ gl by rw [hgl]; exact hg2)
  have hwgl : w.heap.size ≤ gl := by rw [hgl]; exact B2.out.size
  rw [← hw3, ← hgl]
  have HGL := Lib.hid hgl
  clear hw3 hgl hg1 hg2
  go_wp2_with fail
  go_loopw [6] (fun a wr => ∃ (bb : Bool) (out : List Nat), a = .bool bb ∧ wr.rowIs gl 3 n (fun j => .int .i64 ((out.getD j 0 : Nat) : Int)) ∧ (LayUp p out ∧ ∀ u, out.getD u 0 ≤ n) ∧ (bb = false → ∀ i, i < n → ∀ k, k < n → 0 < T i k → needL p out i k ≤ out.getD i 0) ∧ Below gl w2 wr) (fun a wr => 2 * defW wr gl n + (match a with | .bool true => 1 | _ => 0))
  case atStart => exact ⟨true, _, rfl, HR3.out, ⟨HU0.out, fun u => by rw [List.getD_eq_getElem?_getD, List.getElem?_replicate]; split <;> simp⟩, fun h => (by cases h), HW3.out⟩
  case round =>
    obtain ⟨bb, out0, rfl, hrow, hup, hdn, hbe⟩ := hrel
    have HROW := Lib.hid hrow
    have HUP := Lib.hid hup
    have HBE := Lib.hid hbe
    have HDN := Lib.hid hdn
    have HD0 := Lib.hid (defW_row hrow (by rw [hup.1.1, ← HNE.out]))
    clear hrow hup hbe hdn
    cases bb
    · have HE := Lib.hid (show R = out0.map (fun n : Nat => (n : Int)) ∧ ok = true from by
        have h1 := HUP.out.1.done HPO.out (by rw [← HNE.out, ← HTT.out]; exact HDN.out rfl)
        have h2 := layR_yes HPO.out h1
        rw [HR.out.1, HR.out.2]
        exact h2)
      have HLE := Lib.hid (show R.length = n by rw [HE.out.1, List.length_map, HUP.out.1.1, ← HNE.out])
      have HO := Lib.hid (show OwnInts wr w.heap.size wr.heap.size (.slice (some ⟨gl, 0, none⟩) n n) R from by
        have h1 : wr.rowIs gl 3 R.length (fun j => .int .i64 (R.getD j 0)) := by
          rw [HLE.out]
          exact HROW.out.congr fun j _ => by rw [HE.out.1, natRow]
        have h2 := OwnInts.of_rowIs h1 hwgl HROW.out.lt (by rw [HLE.out]; unfold maxLen; omega)
        rw [HLE.out] at h2
        exact h2)
      have HBW := Lib.hid (show Below w.heap.size w wr from bthen B2.out (by rw [← HGL.out]; exact HBE.out))
      go_wp2_with fail
      refine bodyPost_ret (v := .tuple #[.slice (some ⟨gl, 0, none⟩) n n, .bool true]) (by simp [results, Tryd.results40, go_sem]) rfl ?_
      rw [HE.out.2, HLE.out]
      exact ⟨_, n, rfl, HO.out, HBW.out⟩
    · have HS0 := Lib.hid (show RnAt p n out0 out0 false 0 0 from ⟨HUP.out.1, HUP.out.2, fun _ => ⟨rfl, fun a c _ _ h => (by omega)⟩, fun h => (by cases h)⟩)
      obtain ⟨wa, rfl⟩ : ∃ wa, wa = wr := ⟨_, rfl⟩
      go_wp2_with fail
      go_loopw [6, 7] (fun a i ws => ∃ (bb : Bool) (out : List Nat) (i' : Nat), i' ≤ n ∧ i = .int .i64 i' ∧ a = .bool bb ∧ ws.rowIs gl 3 n (fun j => .int .i64 ((out.getD j 0 : Nat) : Int)) ∧ RnAt p n out0 out bb i' 0 ∧ Below gl w2 ws) (fun _ i _ => n - (intOf i).toNat)
      case atStart => exact ⟨false, out0, 0, Nat.zero_le _, rfl, rfl, HROW.out, HS0.out, HBE.out⟩
      case round =>
        obtain ⟨bb, out, i, hi, rfl, rfl, hrow, hrn, hbe⟩ := hrel
        have HR2 := Lib.hid hrow
        have HRN := Lib.hid hrn
        have HB2 := Lib.hid hbe
        clear hrow hrn hbe
        by_cases hlt : i < n
        · obtain ⟨wc, rfl⟩ : ∃ wc, wc = wr := ⟨_, rfl⟩
          have HRS := Lib.hid HRN.out
          go_wp2_with fail
          go_loopw [6, 8] (fun a k ws => ∃ (bb : Bool) (out : List Nat) (k' : Nat), k' ≤ n ∧ k = .int .i64 k' ∧ a = .bool bb ∧ ws.rowIs gl 3 n (fun j => .int .i64 ((out.getD j 0 : Nat) : Int)) ∧ RnAt p n out0 out bb i k' ∧ Below gl w2 ws) (fun _ k _ => n - (intOf k).toNat)
          case atStart => exact ⟨bb, out, 0, Nat.zero_le _, rfl, rfl, HR2.out, HRN.out, HB2.out⟩
          case round =>
            clear HR2 HRN HRS
            obtain ⟨bb, out, k, hk, rfl, rfl, hrow, hrn, hbe⟩ := hrel
            by_cases hlk : k < n
            · have hgrid := HG2.out.below hbe HGG.out
              have g0 := hgrid.head hlt
              have g1 := hgrid.cell hlt hlk
              have r0 := hrow.cell hlk
              have r1 := hrow.cell hlt
              have fz := hrow.frozen i
              obtain ⟨d, hd⟩ : ∃ d, d = out.getD k 0 := ⟨_, rfl⟩
              obtain ⟨e, he⟩ : ∃ e, e = out.getD i 0 := ⟨_, rfl⟩
              obtain ⟨t, ht⟩ : ∃ t, t = T i k := ⟨_, rfl⟩
              have hd24 : d ≤ n := by rw [hd]; exact hrn.few k
              have he24 : e ≤ n := by rw [he]; exact hrn.few i
              rw [← hd] at r0
              rw [← he] at r1
              rw [← ht] at g1
              have hti : (i : Int) < (n : Int) := by omega
              have hki : (k : Int) < (n : Int) := by omega
              have HROW2 := Lib.hid hrow
              have HRN2 := Lib.hid hrn
              have HB3 := Lib.hid hbe
              obtain ⟨nd, hnd⟩ : ∃ nd, nd = needL p out i k := ⟨_, rfl⟩
              have hnd1 : nd = d + (if 1 < t then 1 else 0) := by rw [hnd, hd, ht, HTT.out]; rfl
              have HND := Lib.hid hnd
              have HDD := Lib.hid (And.intro hd (And.intro he ht))
              have ht3 : t ≤ 3 := by rw [ht, HTT.out]; exact cellV_le _ _ _
              clear hd he ht hnd hrow hrn hbe hgrid
              by_cases hk0 : t = 0
              · have HN := Lib.hid (show RnAt p n out0 out bb i (k + 1) from HRN2.out.keep fun h0 => by rw [← HTT.out, ← HDD.out.2.2, hk0] at h0; omega)
                subst hk0
                clear hnd1
                go_wp2_with fail
                go_roundw
                case rel => exact ⟨bb, out, k + 1, by omega, by go_num, rfl, HROW2.out, HN.out, HB3.out⟩
                case measure => simp [intOf]; omega
              · have ht0 : 0 < t := by omega
                by_cases hlt2 : e < nd
                · have HM := Lib.hid (fun (hm : nd ≤ n) => (show RnAt p n out0 (out.set i nd) true i (k + 1) from by
                    rw [HND.out]
                    exact HRN2.out.raise HPO.out HNE.out hlt hlk (by rw [← HTT.out, ← HDD.out.2.2]; omega) (by rw [← HDD.out.2.1, ← HND.out]; exact hlt2) (by rw [← HND.out]; exact hm)))
                  have HUP2 := Lib.hid (show LayUp p (out.set i nd) from by
                    rw [HND.out]
                    exact HRN2.out.up.raise HPO.out (by rw [← HNE.out]; exact hlt) (by rw [← HNE.out]; exact hlk) (by rw [← HTT.out, ← HDD.out.2.2]; omega))
                  have HRW := Lib.hid (set_row (x := nd) HROW2.out (by rw [HRN2.out.up.1, ← HNE.out]) hlt)
                  have HBW := Lib.hid (show Below gl w2 (wr.setCell ⟨gl, i, none⟩ (.int .i64 (nd : Int))) from HB3.out.setCell (Nat.le_refl _) _)
                  by_cases hm : nd ≤ n
                  · have HN := Lib.hid (HM.out hm)
                    by_cases h1 : 1 < t
                    · rw [if_pos h1] at hnd1
                      subst hnd1
                      go_wp2_with fail
                      go_roundw
                      case rel => exact ⟨true, _, k + 1, by omega, by go_num, rfl, HRW.out, HN.out, HBW.out⟩
                      case measure => simp [intOf]; omega
                    · rw [if_neg h1, Nat.add_zero] at hnd1
                      subst hnd1
                      go_wp2_with fail
                      go_roundw
                      case rel => exact ⟨true, _, k + 1, by omega, by go_num, rfl, HRW.out, HN.out, HBW.out⟩
                      case measure => simp [intOf]; omega
                  · have HE := Lib.hid (show R = [] ∧ ok = false from by
                      have h1 := HUP2.out.none HPO.out (i := i) (by rw [← HNE.out]; exact hlt) (by rw [← HNE.out, List.getD_eq_getElem?_getD, List.getElem?_set_self (by rw [HRN2.out.up.1, ← HNE.out]; exact hlt)]; simp; omega)
                      have h3 := layR_no (p := p) (.inr h1)
                      rw [HR.out.1, HR.out.2]
                      exact h3)
                    have HBZ := Lib.hid (show Below w.heap.size w (wr.setCell ⟨gl, i, none⟩ (.int .i64 (nd : Int))) from bthen B2.out (by rw [← HGL.out]; exact HBW.out))
                    by_cases h1 : 1 < t
                    · rw [if_pos h1] at hnd1
                      subst hnd1
                      go_wp2_with fail
                      refine bodyPost_ret (v := .tuple #[.slice none 0 0, .bool false]) (by simp [results, Tryd.results40, go_sem]) rfl ?_
                      rw [HE.out.1, HE.out.2]
                      exact ⟨none, 0, rfl, ⟨World.ownsRow_nil _ _ _ _, fun g hg => by cases hg⟩, HBZ.out⟩
                    · rw [if_neg h1, Nat.add_zero] at hnd1
                      subst hnd1
                      omega
                · have HN := Lib.hid (show RnAt p n out0 out bb i (k + 1) from HRN2.out.keep fun h0 => by rw [← HND.out, ← HDD.out.2.1]; omega)
                  by_cases h1 : 1 < t
                  · rw [if_pos h1] at hnd1
                    subst hnd1
                    go_wp2_with fail
                    go_roundw
                    case rel => exact ⟨bb, out, k + 1, by omega, by go_num, rfl, HROW2.out, HN.out, HB3.out⟩
                    case measure => simp [intOf]; omega
                  · rw [if_neg h1, Nat.add_zero] at hnd1
                    subst hnd1
                    go_wp2_with fail
                    go_roundw
                    case rel => exact ⟨bb, out, k + 1, by omega, by go_num, rfl, HROW2.out, HN.out, HB3.out⟩
                    case measure => simp [intOf]; omega
            · have HN := Lib.hid (show RnAt p n out0 out bb (i + 1) 0 from RnAt.row (by have : k = n := by omega
                                                                                        rw [this] at hrn; exact hrn))
              have HROW2 := Lib.hid hrow
              clear hrow hrn
              go_wp2_with fail
              go_roundw
              case rel => exact ⟨bb, out, i + 1, by omega, by go_num, rfl, HROW2.out, HN.out, hbe⟩
              case measure => simp [intOf]; omega
        · have hin : i = n := by omega
          have HN := Lib.hid (show (bb = false → ∀ i, i < n → ∀ k, k < n → 0 < T i k → needL p out i k ≤ out.getD i 0) ∧ 2 * defW wr gl n + (if bb then 1 else 0) < 2 * defW wa gl n + 1 from by
            have h1 := defW_row HR2.out (by rw [HRN.out.up.1, ← HNE.out])
            rw [h1, HD0.out]
            refine ⟨fun hb i hi k hk h0 => ?_, ?_⟩
            · obtain ⟨e, h2⟩ := HRN.out.same hb
              rw [e]
              exact h2 i k hi hk (.inl (by omega)) (by rw [← HTT.out]; exact h0)
            · cases bb with
              | false => rw [(HRN.out.same rfl).1]; simp
              | true => have := HRN.out.less rfl; simp; omega)
          have HUF := Lib.hid (And.intro HRN.out.up HRN.out.few)
          clear hin
          go_wp2_with fail
          go_roundw
          case rel => exact ⟨bb, out, rfl, HR2.out, HUF.out, HN.out.1, HB2.out⟩
          case measure =>
            have := HN.out.2
            cases bb <;> simpa using this

set_option maxHeartbeats 2000000 in
set_option maxRecDepth 100000 in
theorem specLayersOf_any (v : Value) (p : LProg) (w : World) (h : RdProg w w.heap.size v p) (hs : szP p ≤ 1048576) :
    Calls Tryd.prog 20 #[v] w fun e w' => ∃ A' c', e = .returned (.tuple #[.slice A' (layR p).length c', .bool (layOk p)]) ∧ OwnInts w' w.heap.size w'.heap.size (.slice A' (layR p).length c') (layR p) ∧ Below w.heap.size w w' := by
  have HP := Lib.hid h
  obtain ⟨a, b, rfl, hA, hR⟩ := h
  obtain ⟨A, c, rfl, hcA, _⟩ := hA
  obtain ⟨A2, c2, rfl, hcR, _⟩ := hR
  obtain ⟨po, hpo⟩ : ∃ po, po = progOk p := ⟨_, rfl⟩
  have HPO := Lib.hid hpo
  obtain ⟨R, hR⟩ : ∃ R, R = layR p := ⟨_, rfl⟩
  obtain ⟨ok, hok⟩ : ∃ ok, ok = layOk p := ⟨_, rfl⟩
  rw [← hR, ← hok]
  have HR := Lib.hid (And.intro hR hok)
  clear hpo hR hok
  go_enter Tryd.func20, Tryd.ntmps20
  go_upto_region 1 with fail
  obtain ⟨w1, hw1⟩ : ∃ w1, w1 = w.alloc (Obj.cells #[Value.slice A p.1.length c, Value.slice A2 p.2.length c2] 31) := ⟨_, rfl⟩
  have X1 : Blk w1 w.heap.size 31 #[.slice A p.1.length c, .slice A2 p.2.length c2] := by rw [hw1]; exact Blk.new _ _ _
  have B1 : Below w.heap.size w w1 := by rw [hw1]; exact below1 _ _
  rw [← hw1]
  clear hw1
  have x0 : w1.cell? ⟨w.heap.size, 0, none⟩ = some (.slice A p.1.length c) := X1.cell 0
  have x1 : w1.cell? ⟨w.heap.size, 1, none⟩ = some (.slice A2 p.2.length c2) := X1.cell 1
  have HX1 := Lib.hid X1
  have CP := Lib.hid ((specProgramOk_any _ p w1 (HP.out.on B1) hs).mono fun e w' (hh : e = .returned (.bool (progOk p)) ∧ Below w1.heap.size w1 w') => (⟨by rw [hh.1, HPO.out], hh.2⟩ : e = .returned (.bool po) ∧ Below w1.heap.size w1 w'))
  clear X1
  cases po
  · have HE := Lib.hid (layR_no (p := p) (.inl HPO.out.symm))
    go_wp2_with (go_at_call 27; refine CP.out.mono ?_; rintro e w2 ⟨rfl, b2⟩; have B2 := Lib.hid (bthen B1 b2); clear b2)
    refine bodyPost_ret (v := .tuple #[.slice none 0 0, .bool false]) (by simp [results, Tryd.results20, go_sem]) rfl ?_
    rw [HR.out.1, HR.out.2, HE.out.1, HE.out.2]
    exact ⟨none, 0, rfl, ⟨World.ownsRow_nil _ _ _ _, fun g hg => by cases hg⟩, B2.out⟩
  · have HL := Lib.hid (fun W (hW : Below w.heap.size w W) => l5Layers_any _ p W HPO.out.symm (HP.out.on hW) hs)
    rw [← HR.out.1, ← HR.out.2] at HL
    go_wp2_with (first
      | (go_at_call 27; refine CP.out.mono ?_; rintro e w2 ⟨rfl, b2⟩; have B2 := Lib.hid (bthen B1 b2); have HX2 := Lib.hid (HX1.out.below b2 HX1.out.lt); have x20 : w2.cell? ⟨w.heap.size, 0, none⟩ = some (.slice A p.1.length c) := HX2.out.cell 0; have x21 : w2.cell? ⟨w.heap.size, 1, none⟩ = some (.slice A2 p.2.length c2) := HX2.out.cell 1; clear b2)
      | (go_at_call 40; refine (HL.out _ B2.out).mono ?_; rintro e w4 ⟨A4, c4, rfl, o4, b4⟩; have H4 := Lib.hid (o4.mono B2.out.size (Nat.le_refl _)); have B4 := Lib.hid (bthen B2.out b4); clear o4 b4))
    refine bodyPost_ret (v := .tuple #[.slice A4 R.length c4, .bool ok]) (by simp [results, Tryd.results20, go_sem]) rfl ?_
    exact ⟨A4, c4, rfl, H4.out, B4.out⟩

end Go.Proofs.YtcoelmhlkfignaaDoor
/-
  Marks on integers, in the one form that the laws' walks ask.
-/
namespace Go.Proofs.YtcoelmhlkfignaaDoor
open Go.RowKit

/-- The marks from k on stand in a row of integers, and end at z. -/
def HdInts (w : World) (lo hi : Nat) (v : Value) (xs : List Int) (k z : Int) : Prop := OwnInts w lo hi v (seqI k xs.length) ∧ z = k + xs.length ∧ 0 ≤ k ∧ k ≤ 4294967296 ∧ xs.length ≤ 1073741824
theorem HdInts.below {w w' : World} {lo hi B : Nat} {v : Value} {xs : List Int} {k z : Int} (h : HdInts w lo hi v xs k z) (hb : Below B w w') (hB : hi ≤ B) : HdInts w' lo hi v xs k z := ⟨h.1.below hb hB, h.2⟩
theorem HdInts.only {w w' : World} {lo hi lo' hi' : Nat} {v : Value} {xs : List Int} {k z : Int} (h : HdInts w lo hi v xs k z) (ho : Only lo' hi' w w') (hd : hi ≤ lo' ∨ hi' ≤ lo) : HdInts w' lo hi v xs k z := ⟨h.1.only ho hd, h.2⟩

theorem um_ints {v : Value} {xs : List Int} {lo hi : Nat} {w : World} (k : Int) (h : OwnInts w lo hi v xs) (hk0 : 0 ≤ k) (hk : k ≤ 4294967296) (hs : xs.length ≤ 1073741824) :
    Calls Tryd.prog 23 #[v, .int .i64 k] w fun e w' => ∃ z, e = .returned (.int .i64 z) ∧ k ≤ z ∧ z ≤ k + xs.length ∧ HdInts w' lo hi v xs k z ∧ Only lo hi w w' :=
  (markIntS_any v xs k lo hi w h hk0 (by omega)).mono fun _ _ ⟨he, ho, hg⟩ =>
    ⟨_, he, by omega, Int.le_refl _, ⟨ho, rfl, hk0, hk, hs⟩, Only.of_grown hg (fun g hg' => by have := h.lt hg'; omega)⟩

theorem uh_ints {v : Value} {xs : List Int} {lo hi : Nat} {w : World} {k z : Int} (h : HdInts w lo hi v xs k z) (hh : hi ≤ w.heap.size) :
    Calls Tryd.prog 24 #[v, .int .i64 k] w fun e w' => e = .returned (.int .i64 z) ∧ Below w.heap.size w w' :=
  (heldIntS_any v xs.length k w (h.1.rd.more hh) h.2.2.1 (by have := h.2.2.2.1; have := h.2.2.2.2; omega)).mono fun _ _ ⟨he, hw⟩ => ⟨by rw [he, h.2.1], hw ▸ Below.refl _ _⟩

end Go.Proofs.YtcoelmhlkfignaaDoor
/-
  The walk of the law on LayersOf (written by wip/genlaw.py).
-/
namespace Go.Proofs.YtcoelmhlkfignaaDoor
open Go.RowKit

set_option maxHeartbeats 4000000 in
set_option maxRecDepth 100000 in
theorem lawLayersOf_any (v0 : Value) (p : LProg) (w : World) (h0 : RdProg w w.heap.size v0 p) (n0 : progLens p) (hT : Tab w) :
    Calls Tryd.prog 5 #[v0] w fun e w' => e = .returned (.bool true) ∧ Below w.heap.size w w' := by
  have HT := Lib.hid hT
  clear hT
  have H0 := Lib.hid h0
  obtain ⟨_, _, rfl, ⟨A0, c0, rfl, hc0, _⟩, ⟨A0b, c0b, rfl, hc0b, _⟩⟩ := h0
  go_enter Tryd.func5, Tryd.ntmps5
  go_wp2_with (fail)
  obtain ⟨w1, hw_w1⟩ : ∃ W', W' = w.alloc (Obj.cells #[Value.slice A0 p.1.length c0, Value.slice A0b p.2.length c0b] 25) := ⟨_, rfl⟩
  rw [← hw_w1]
  have B_w1 : Below w.heap.size w w1 := by rw [hw_w1]; exact below1 _ _
  have bx0 : Blk w1 (w.heap.size + 0) 25 #[.slice A0 p.1.length c0, .slice A0b p.2.length c0b] := by
    rw [hw_w1]
    have := (Blk.new w 25 #[.slice A0 p.1.length c0, .slice A0b p.2.length c0b])
    simpa using this
  have bx0_l := bx0.lt
  rw [Nat.add_zero] at bx0 bx0_l
  have s_w1 := B_w1.size
  clear hw_w1
  refine (us_prog (H0.out.on B_w1) (by omega) (by omega) n0).mono ?_
  rintro e w2 ⟨z0, rfl, hz0, hbz0⟩
  have s_w2 := hbz0.size
  have bx0_1 := bx0.below hbz0 (by first | exact bx0.lt | omega)
  clear bx0
  have bx0_1_l := bx0_1.lt
  have B_w2 := bthen B_w1 hbz0
  rcases hz0 with rfl | ⟨zp0, zs0⟩
  · go_wp2_with (fail)
    go_ret
    exact ⟨rfl, B_w2⟩
  have zn0 : ¬ z0 < 0 := by omega
  have r0 : szP p ≤ 1048576 := by omega
  have zl0 : z0 ≤ 1048576 := by omega
  have ZS0 := Lib.hid zs0
  clear zs0 zn0
  have zn0 : ¬ z0 < 0 := by omega
  obtain ⟨R0, hR0⟩ : ∃ R, R = layR p := ⟨_, rfl⟩
  have HR0 := Lib.hid hR0
  obtain ⟨R1, hR1⟩ : ∃ R, R = layOk p := ⟨_, rfl⟩
  have HR1 := Lib.hid hR1
  have HRs0 := Lib.hid (show R0.length ≤ 1048576 by rw [hR0]; have := layR_few p; omega)
  have R0s := HRs0.out
  clear hR0 hR1
  have gb1 : (R1 != R1) = false := by simp
  have q1 : w2.cell? ⟨w.heap.size, 0, none⟩ = some (.slice A0 p.1.length c0) := bx0_1.cell 0
  have q2 : w2.cell? ⟨w.heap.size, 1, none⟩ = some (.slice A0b p.2.length c0b) := bx0_1.cell 1
  go_wp2_with (fail)
  clear q1 q2
  refine (toProgram_own _ p _ (H0.out.on B_w2) (by omega)).mono ?_
  rintro e w3 ⟨P1, d1, P1b, d1b, rfl, o1, hb1⟩
  have s_w3 := hb1.size
  have bx0_2 := bx0_1.below hb1 (by first | exact bx0_1.lt | omega)
  clear bx0_1
  have bx0_2_l := bx0_2.lt
  have B_w3 := bthen B_w2 hb1
  have q3 : w3.cell? ⟨w.heap.size, 0, none⟩ = some (.slice A0 p.1.length c0) := bx0_2.cell 0
  have q4 : w3.cell? ⟨w.heap.size, 1, none⟩ = some (.slice A0b p.2.length c0b) := bx0_2.cell 1
  go_wp2_with (fail)
  clear q3 q4
  refine (specLayersOf_any _ p _ (o1.rd.more (by omega)) (by omega)).mono ?_
  rw [← HR0.out]
  try rw [← HR1.out]
  rintro e w4 ⟨Q2_0, f2_0, rfl, o2_0, hb2⟩
  have s_w4 := hb2.size
  have bx0_3 := bx0_2.below hb2 (by first | exact bx0_2.lt | omega)
  clear bx0_2
  have bx0_3_l := bx0_3.lt
  have tw0_3 := o1.below hb2 (by omega)
  clear o1
  have B_w4 := bthen B_w3 hb2
  have q5 : w4.cell? ⟨w.heap.size, 0, none⟩ = some (.slice A0 p.1.length c0) := bx0_3.cell 0
  have q6 : w4.cell? ⟨w.heap.size, 1, none⟩ = some (.slice A0b p.2.length c0b) := bx0_3.cell 1
  go_wp2_with (fail)
  clear q5 q6
  refine (toProgram_own _ p _ (H0.out.on B_w4) (by omega)).mono ?_
  rintro e w5 ⟨P3, d3, P3b, d3b, rfl, o3, hb3⟩
  have s_w5 := hb3.size
  have bx0_4 := bx0_3.below hb3 (by first | exact bx0_3.lt | omega)
  clear bx0_3
  have bx0_4_l := bx0_4.lt
  have w0_4 := o2_0.below hb3 (by omega)
  clear o2_0
  have B_w5 := bthen B_w4 hb3
  have q7 : w5.cell? ⟨w.heap.size, 0, none⟩ = some (.slice A0 p.1.length c0) := bx0_4.cell 0
  have q8 : w5.cell? ⟨w.heap.size, 1, none⟩ = some (.slice A0b p.2.length c0b) := bx0_4.cell 1
  go_wp2_with (fail)
  clear q7 q8
  obtain ⟨w6, hw_w6⟩ : ∃ W', W' = w5.alloc (Obj.cells #[Value.slice P3 p.1.length d3, Value.slice P3b p.2.length d3b] 31) := ⟨_, rfl⟩
  rw [← hw_w6]
  have hb_w6 : Below w5.heap.size w5 w6 := by rw [hw_w6]; exact below1 _ _
  have bxx0_n : Blk w6 w5.heap.size 31 #[.slice P3 p.1.length d3, .slice P3b p.2.length d3b] := by rw [hw_w6]; exact Blk.new _ _ _
  have bxx0_nl := bxx0_n.lt
  clear hw_w6
  have s_w6 := hb_w6.size
  have bx0_5 := bx0_4.below hb_w6 (by first | exact bx0_4.lt | omega)
  clear bx0_4
  have bx0_5_l := bx0_5.lt
  have w0_5 := w0_4.below hb_w6 (by omega)
  clear w0_4
  have x0_5 := o3.below hb_w6 (by omega)
  clear o3
  have B_w6 := bthen B_w5 hb_w6
  refine (implLayersOf_any _ p _ (x0_5.rd.more (by omega)) (by omega) (HT.out.below B_w6)).mono ?_
  rw [← HR0.out]
  try rw [← HR1.out]
  rintro e w7 ⟨Q4_0, f4_0, rfl, o4_0, hb4⟩
  have s_w7 := hb4.size
  have bx0_6 := bx0_5.below hb4 (by first | exact bx0_5.lt | omega)
  clear bx0_5
  have bx0_6_l := bx0_6.lt
  have w0_6 := w0_5.below hb4 (by omega)
  clear w0_5
  have x0_6 := x0_5.below hb4 (by omega)
  clear x0_5
  have bxx0_6 := bxx0_n.below hb4 (by first | exact bxx0_n.lt | omega)
  clear bxx0_n
  have bxx0_6_l := bxx0_6.lt
  have B_w7 := bthen B_w6 hb4
  have q9 : w7.cell? ⟨w.heap.size, 0, none⟩ = some (.slice A0 p.1.length c0) := bx0_6.cell 0
  have q10 : w7.cell? ⟨w.heap.size, 1, none⟩ = some (.slice A0b p.2.length c0b) := bx0_6.cell 1
  have q11 : w7.cell? ⟨w5.heap.size, 0, none⟩ = some (.slice P3 p.1.length d3) := bxx0_6.cell 0
  have q12 : w7.cell? ⟨w5.heap.size, 1, none⟩ = some (.slice P3b p.2.length d3b) := bxx0_6.cell 1
  go_wp2_with (fail)
  clear q9 q10 q11 q12
  refine (eqIntS_any _ _ R0 R0 _ (o4_0.rd.more (by omega)) (w0_6.rd.more (by omega)) (by omega) (by omega)).mono ?_
  rintro e w8 ⟨rfl, hb5⟩
  rw [show decide (R0 = R0) = true by simp]
  have s_w8 := hb5.size
  have bx0_7 := bx0_6.below hb5 (by first | exact bx0_6.lt | omega)
  clear bx0_6
  have bx0_7_l := bx0_7.lt
  have w0_7 := w0_6.below hb5 (by omega)
  clear w0_6
  have x0_7 := x0_6.below hb5 (by omega)
  clear x0_6
  have bxx0_7 := bxx0_6.below hb5 (by first | exact bxx0_6.lt | omega)
  clear bxx0_6
  have bxx0_7_l := bxx0_7.lt
  have g0_7 := o4_0.below hb5 (by omega)
  clear o4_0
  have B_w8 := bthen B_w7 hb5
  have q13 : w8.cell? ⟨w.heap.size, 0, none⟩ = some (.slice A0 p.1.length c0) := bx0_7.cell 0
  have q14 : w8.cell? ⟨w.heap.size, 1, none⟩ = some (.slice A0b p.2.length c0b) := bx0_7.cell 1
  have q15 : w8.cell? ⟨w5.heap.size, 0, none⟩ = some (.slice P3 p.1.length d3) := bxx0_7.cell 0
  have q16 : w8.cell? ⟨w5.heap.size, 1, none⟩ = some (.slice P3b p.2.length d3b) := bxx0_7.cell 1
  go_upto_region 10 with fail
  clear q13 q14 q15 q16
  have HS_w8 := Lib.hid (show ∀ W, Below w8.heap.size w8 W → (Below w8.heap.size w8 W ∧ W.cell? ⟨w.heap.size, 0, none⟩ = some (.slice A0 p.1.length c0) ∧ W.cell? ⟨w.heap.size, 1, none⟩ = some (.slice A0b p.2.length c0b) ∧ W.cell? ⟨w5.heap.size, 0, none⟩ = some (.slice P3 p.1.length d3) ∧ W.cell? ⟨w5.heap.size, 1, none⟩ = some (.slice P3b p.2.length d3b)) from fun W hW => ⟨hW, (bx0_7.below hW bx0_7_l).cell 0, (bx0_7.below hW bx0_7_l).cell 1, (bxx0_7.below hW bxx0_7_l).cell 0, (bxx0_7.below hW bxx0_7_l).cell 1⟩)
  have RX_w8 := Lib.hid (show RdProg w8 w8.heap.size (.agg #[.slice P3 p.1.length d3, .slice P3b p.2.length d3b]) p from x0_7.rd.more (by omega))
  go_cut [45] (fun s wx => s = .bool false ∧ Below w8.heap.size w8 wx)
  case first =>
    go_region_held3 (fun W => Below w8.heap.size w8 W ∧ W.cell? ⟨w.heap.size, 0, none⟩ = some (.slice A0 p.1.length c0) ∧ W.cell? ⟨w.heap.size, 1, none⟩ = some (.slice A0b p.2.length c0b) ∧ W.cell? ⟨w5.heap.size, 0, none⟩ = some (.slice P3 p.1.length d3) ∧ W.cell? ⟨w5.heap.size, 1, none⟩ = some (.slice P3b p.2.length d3b))
      (first | exact HS_w8.out _ (Below.refl _ _) | exact HS_w8.out _ (Below.refl _ _).drew | exact HS_w8.out _ (bthen (And.left (by assumption)) (by assumption)))
      (first
        | (go_at_call 8; refine (toProgram_own _ p _ ?_ (by omega)).mono ?_; exact H0.out.on (bthen B_w8 (And.left (by assumption))); rintro e wf ⟨Af, cf, Ag, cg, rfl, hof, hbf⟩)
        | (go_at_call 11; refine (eqProgram_any _ _ p p _ ?_ ?_ (by omega) (by omega)).mono ?_; exact (RX_w8.out.on (And.left (by assumption))); exact hof.rd; rw [show decide (p = p) = true by simp]; rintro e wg ⟨rfl, hbg⟩))
    all_goals (go_wp2_with fail; go_meet; exact ⟨rfl, And.left (by assumption)⟩)
  case rest =>
    obtain ⟨rfl, hb6⟩ := hcut
    clear HS_w8 RX_w8
    generalize wc = w9 at *
    have s_w9 := hb6.size
    have bx0_8 := bx0_7.below hb6 (by first | exact bx0_7.lt | omega)
    clear bx0_7
    have bx0_8_l := bx0_8.lt
    have w0_8 := w0_7.below hb6 (by omega)
    clear w0_7
    have x0_8 := x0_7.below hb6 (by omega)
    clear x0_7
    have bxx0_8 := bxx0_7.below hb6 (by first | exact bxx0_7.lt | omega)
    clear bxx0_7
    have bxx0_8_l := bxx0_8.lt
    have g0_8 := g0_7.below hb6 (by omega)
    clear g0_7
    have B_w9 := bthen B_w8 hb6
    have q17 : w9.cell? ⟨w.heap.size, 0, none⟩ = some (.slice A0 p.1.length c0) := bx0_8.cell 0
    have q18 : w9.cell? ⟨w.heap.size, 1, none⟩ = some (.slice A0b p.2.length c0b) := bx0_8.cell 1
    have q19 : w9.cell? ⟨w5.heap.size, 0, none⟩ = some (.slice P3 p.1.length d3) := bxx0_8.cell 0
    have q20 : w9.cell? ⟨w5.heap.size, 1, none⟩ = some (.slice P3b p.2.length d3b) := bxx0_8.cell 1
    go_wp2_with (fail)
    clear q17 q18 q19 q20
    refine (um_prog 1 x0_8 (by omega) (by omega) (by omega)).mono ?_
    rintro e w10 ⟨k7, rfl, ka7, kb7, _, on7⟩
    have s_w10 := on7.size
    have bx0_9 := bx0_8.only on7 (by first | exact .inl (by omega) | exact .inr (by omega))
    clear bx0_8
    have bx0_9_l := bx0_9.lt
    have w0_9 := w0_8.only on7 (by first | exact .inl (by omega) | exact .inr (by omega))
    clear w0_8
    have bxx0_9 := bxx0_8.only on7 (by first | exact .inl (by omega) | exact .inr (by omega))
    clear bxx0_8
    have bxx0_9_l := bxx0_9.lt
    have g0_9 := g0_8.only on7 (by first | exact .inl (by omega) | exact .inr (by omega))
    clear g0_8
    have B_w10 := Only.then_ B_w9 on7 (by omega)
    have kn : ¬ k7 < 0 := by omega
    have kd : decide (k7 < 0) = false := by simp; omega
    have q21 : w10.cell? ⟨w.heap.size, 0, none⟩ = some (.slice A0 p.1.length c0) := bx0_9.cell 0
    have q22 : w10.cell? ⟨w.heap.size, 1, none⟩ = some (.slice A0b p.2.length c0b) := bx0_9.cell 1
    have q23 : w10.cell? ⟨w5.heap.size, 0, none⟩ = some (.slice P3 p.1.length d3) := bxx0_9.cell 0
    have q24 : w10.cell? ⟨w5.heap.size, 1, none⟩ = some (.slice P3b p.2.length d3b) := bxx0_9.cell 1
    go_wp2_with (fail)
    clear q21 q22 q23 q24
    refine (eqIntS_any _ _ R0 R0 _ (g0_9.rd.more (by omega)) (w0_9.rd.more (by omega)) (by omega) (by omega)).mono ?_
    rintro e w11 ⟨rfl, hb8⟩
    rw [show decide (R0 = R0) = true by simp]
    have s_w11 := hb8.size
    have bx0_10 := bx0_9.below hb8 (by first | exact bx0_9.lt | omega)
    clear bx0_9
    have bx0_10_l := bx0_10.lt
    have w0_10 := w0_9.below hb8 (by omega)
    clear w0_9
    have bxx0_10 := bxx0_9.below hb8 (by first | exact bxx0_9.lt | omega)
    clear bxx0_9
    have bxx0_10_l := bxx0_10.lt
    have g0_10 := g0_9.below hb8 (by omega)
    clear g0_9
    have B_w11 := bthen B_w10 hb8
    have q25 : w11.cell? ⟨w.heap.size, 0, none⟩ = some (.slice A0 p.1.length c0) := bx0_10.cell 0
    have q26 : w11.cell? ⟨w.heap.size, 1, none⟩ = some (.slice A0b p.2.length c0b) := bx0_10.cell 1
    have q27 : w11.cell? ⟨w5.heap.size, 0, none⟩ = some (.slice P3 p.1.length d3) := bxx0_10.cell 0
    have q28 : w11.cell? ⟨w5.heap.size, 1, none⟩ = some (.slice P3b p.2.length d3b) := bxx0_10.cell 1
    go_wp2_with (fail)
    clear q25 q26 q27 q28
    refine (um_ints 1 g0_10 (by omega) (by omega) (by have := HRs0.out; omega)).mono ?_
    rintro e w12 ⟨m9, rfl, ma9, mb9, hd9, on9⟩
    have mb9' := HRs0.out
    have s_w12 := on9.size
    have bx0_11 := bx0_10.only on9 (by first | exact .inl (by omega) | exact .inr (by omega))
    clear bx0_10
    have bx0_11_l := bx0_11.lt
    have w0_11 := w0_10.only on9 (by first | exact .inl (by omega) | exact .inr (by omega))
    clear w0_10
    have bxx0_11 := bxx0_10.only on9 (by first | exact .inl (by omega) | exact .inr (by omega))
    clear bxx0_10
    have bxx0_11_l := bxx0_11.lt
    have B_w12 := Only.then_ B_w11 on9 (by omega)
    have mn : ¬ m9 < 0 := by omega
    have me : (m9 != m9) = false := by simp
    have q29 : w12.cell? ⟨w.heap.size, 0, none⟩ = some (.slice A0 p.1.length c0) := bx0_11.cell 0
    have q30 : w12.cell? ⟨w.heap.size, 1, none⟩ = some (.slice A0b p.2.length c0b) := bx0_11.cell 1
    have q31 : w12.cell? ⟨w5.heap.size, 0, none⟩ = some (.slice P3 p.1.length d3) := bxx0_11.cell 0
    have q32 : w12.cell? ⟨w5.heap.size, 1, none⟩ = some (.slice P3b p.2.length d3b) := bxx0_11.cell 1
    go_wp2_with (fail)
    clear q29 q30 q31 q32
    refine (uh_ints hd9 (by omega)).mono ?_
    rintro e w13 ⟨rfl, hb10⟩
    have s_w13 := hb10.size
    have bx0_12 := bx0_11.below hb10 (by first | exact bx0_11.lt | omega)
    clear bx0_11
    have bx0_12_l := bx0_12.lt
    have w0_12 := w0_11.below hb10 (by omega)
    clear w0_11
    have bxx0_12 := bxx0_11.below hb10 (by first | exact bxx0_11.lt | omega)
    clear bxx0_11
    have bxx0_12_l := bxx0_12.lt
    have d0_12 := hd9.below hb10 (by omega)
    clear hd9
    have B_w13 := bthen B_w12 hb10
    have q33 : w13.cell? ⟨w.heap.size, 0, none⟩ = some (.slice A0 p.1.length c0) := bx0_12.cell 0
    have q34 : w13.cell? ⟨w.heap.size, 1, none⟩ = some (.slice A0b p.2.length c0b) := bx0_12.cell 1
    have q35 : w13.cell? ⟨w5.heap.size, 0, none⟩ = some (.slice P3 p.1.length d3) := bxx0_12.cell 0
    have q36 : w13.cell? ⟨w5.heap.size, 1, none⟩ = some (.slice P3b p.2.length d3b) := bxx0_12.cell 1
    go_wp2_with (fail)
    clear q33 q34 q35 q36
    refine (toProgram_own _ p _ (H0.out.on B_w13) (by omega)).mono ?_
    rintro e w14 ⟨P11, d11, P11b, d11b, rfl, o11, hb11⟩
    have s_w14 := hb11.size
    have bx0_13 := bx0_12.below hb11 (by first | exact bx0_12.lt | omega)
    clear bx0_12
    have bx0_13_l := bx0_13.lt
    have w0_13 := w0_12.below hb11 (by omega)
    clear w0_12
    have bxx0_13 := bxx0_12.below hb11 (by first | exact bxx0_12.lt | omega)
    clear bxx0_12
    have bxx0_13_l := bxx0_13.lt
    have d0_13 := d0_12.below hb11 (by omega)
    clear d0_12
    have B_w14 := bthen B_w13 hb11
    have q37 : w14.cell? ⟨w.heap.size, 0, none⟩ = some (.slice A0 p.1.length c0) := bx0_13.cell 0
    have q38 : w14.cell? ⟨w.heap.size, 1, none⟩ = some (.slice A0b p.2.length c0b) := bx0_13.cell 1
    have q39 : w14.cell? ⟨w5.heap.size, 0, none⟩ = some (.slice P3 p.1.length d3) := bxx0_13.cell 0
    have q40 : w14.cell? ⟨w5.heap.size, 1, none⟩ = some (.slice P3b p.2.length d3b) := bxx0_13.cell 1
    go_wp2_with (fail)
    clear q37 q38 q39 q40
    refine (implLayersOf_any _ p _ (o11.rd.more (by omega)) (by omega) (HT.out.below B_w14)).mono ?_
    rw [← HR0.out]
    try rw [← HR1.out]
    rintro e w15 ⟨Q12_0, f12_0, rfl, o12_0, hb12⟩
    have s_w15 := hb12.size
    have bx0_14 := bx0_13.below hb12 (by first | exact bx0_13.lt | omega)
    clear bx0_13
    have bx0_14_l := bx0_14.lt
    have w0_14 := w0_13.below hb12 (by omega)
    clear w0_13
    have bxx0_14 := bxx0_13.below hb12 (by first | exact bxx0_13.lt | omega)
    clear bxx0_13
    have bxx0_14_l := bxx0_14.lt
    have d0_14 := d0_13.below hb12 (by omega)
    clear d0_13
    have th0_14 := o11.below hb12 (by omega)
    clear o11
    have B_w15 := bthen B_w14 hb12
    have q41 : w15.cell? ⟨w.heap.size, 0, none⟩ = some (.slice A0 p.1.length c0) := bx0_14.cell 0
    have q42 : w15.cell? ⟨w.heap.size, 1, none⟩ = some (.slice A0b p.2.length c0b) := bx0_14.cell 1
    have q43 : w15.cell? ⟨w5.heap.size, 0, none⟩ = some (.slice P3 p.1.length d3) := bxx0_14.cell 0
    have q44 : w15.cell? ⟨w5.heap.size, 1, none⟩ = some (.slice P3b p.2.length d3b) := bxx0_14.cell 1
    go_wp2_with (fail)
    clear q41 q42 q43 q44
    refine (eqIntS_any _ _ R0 R0 _ (o12_0.rd.more (by omega)) (w0_14.rd.more (by omega)) (by omega) (by omega)).mono ?_
    rintro e w16 ⟨rfl, hb13⟩
    rw [show decide (R0 = R0) = true by simp]
    have s_w16 := hb13.size
    have bx0_15 := bx0_14.below hb13 (by first | exact bx0_14.lt | omega)
    clear bx0_14
    have bx0_15_l := bx0_15.lt
    have w0_15 := w0_14.below hb13 (by omega)
    clear w0_14
    have bxx0_15 := bxx0_14.below hb13 (by first | exact bxx0_14.lt | omega)
    clear bxx0_14
    have bxx0_15_l := bxx0_15.lt
    have d0_15 := d0_14.below hb13 (by omega)
    clear d0_14
    have h0_15 := o12_0.below hb13 (by omega)
    clear o12_0
    have B_w16 := bthen B_w15 hb13
    have q45 : w16.cell? ⟨w.heap.size, 0, none⟩ = some (.slice A0 p.1.length c0) := bx0_15.cell 0
    have q46 : w16.cell? ⟨w.heap.size, 1, none⟩ = some (.slice A0b p.2.length c0b) := bx0_15.cell 1
    have q47 : w16.cell? ⟨w5.heap.size, 0, none⟩ = some (.slice P3 p.1.length d3) := bxx0_15.cell 0
    have q48 : w16.cell? ⟨w5.heap.size, 1, none⟩ = some (.slice P3b p.2.length d3b) := bxx0_15.cell 1
    go_wp2_with (fail)
    clear q45 q46 q47 q48
    refine (uh_ints d0_15 (by omega)).mono ?_
    rintro e w17 ⟨rfl, hb14⟩
    have s_w17 := hb14.size
    have bx0_16 := bx0_15.below hb14 (by first | exact bx0_15.lt | omega)
    clear bx0_15
    have bx0_16_l := bx0_16.lt
    have w0_16 := w0_15.below hb14 (by omega)
    clear w0_15
    have bxx0_16 := bxx0_15.below hb14 (by first | exact bxx0_15.lt | omega)
    clear bxx0_15
    have bxx0_16_l := bxx0_16.lt
    have d0_16 := d0_15.below hb14 (by omega)
    clear d0_15
    have h0_16 := h0_15.below hb14 (by omega)
    clear h0_15
    have B_w17 := bthen B_w16 hb14
    have q49 : w17.cell? ⟨w.heap.size, 0, none⟩ = some (.slice A0 p.1.length c0) := bx0_16.cell 0
    have q50 : w17.cell? ⟨w.heap.size, 1, none⟩ = some (.slice A0b p.2.length c0b) := bx0_16.cell 1
    have q51 : w17.cell? ⟨w5.heap.size, 0, none⟩ = some (.slice P3 p.1.length d3) := bxx0_16.cell 0
    have q52 : w17.cell? ⟨w5.heap.size, 1, none⟩ = some (.slice P3b p.2.length d3b) := bxx0_16.cell 1
    go_wp2_with (fail)
    clear q49 q50 q51 q52
    go_ret
    exact ⟨rfl, B_w17⟩

theorem lawLayersOf_in (v0 : Value) (p : LProg) (w : World) (h0 : InProg w v0 p) (hT : Tab w) : Calls Tryd.prog 5 #[v0] w fun e w' => e = .returned (.bool true) ∧ Below w.heap.size w w' :=
  lawLayersOf_any v0 p w h0.1 (progLens_in h0.2) hT

end Go.Proofs.YtcoelmhlkfignaaDoor
namespace Go.Proofs.YtcoelmhlkfignaaDoor
open Go.ChangeShapes Go.WideShapes Go.ChangeAt Go.RowKit

set_option maxRecDepth 100000 in
theorem fnExactLayersOf_lifted (os : Os) (started : os.Started) (H : Type) (enc : TypeId × Value → H) :
    ReturnsInHanded {} Tryd.checked os 5 .any (fun w args => (Rows.fnExactLayersOfSpec.pre enc Tryd.prog Tryd.f5 [] false w args ∧ laidMetH Tryd.prog laidTabs w) ∧ sizedMet enc Tryd.prog Tryd.f5 (OpenSpec.ofChange Rows.fnExactLayersOfSpec) false w args) (Rows.fnExactLayersOfSpec.post enc Tryd.prog Tryd.f5 false true false false) := by
  refine returnsInHanded_of_change_and (C := Tryd.checked) (X := fun w _ => laidMetH Tryd.prog laidTabs w) (fun _ _ _ hh h => h.of_heap hh) Tryd.own started (by kernel_rfl) Tryd.func5
    (ChangeSpec.witness_shaped (enc := enc) (C := Tryd.checked) (os := os) (X := fun w _ => laidMetH Tryd.prog laidTabs w) false (World.laidAll Tryd.prog os laidTabs) #[.agg #[.slice none 0 0, .slice none 0 0]] 8 (World.laidAll_os _ _ _)
      (World.shaped_of_ZipB (by kernel_rfl) (by kernel_rfl)) (by kernel_rfl) (by kernel_rfl) (by kernel_rfl)
      (by rw [MakeChecks.laidMetH_plain _ _ _ (by kernel_rfl)]; exact laidMet_laidAll _ (by kernel_rfl) (by kernel_rfl))) ?_
  intro W base args ds gs before hval0 hW _ _ hL _
  have hval : ∀ (j : Nat) t v, Tryd.f5.params[j]? = some t → args[j]? = some v → Value.okWide Tryd.prog W .any base t v := hval0
  have hW' := hW
  obtain ⟨p, q, hA0, hV, rfl, hfz, hnd⟩ := hW
  have hA : DataW.TrodAll enc Tryd.prog W 0 (fun _ => true) true Tryd.f5.params.toList args.toList ds p := hA0
  rw [Tryd.params5] at hA hval
  obtain ⟨v0, vs0, d0, ds0, p0, q0, hargs, rfl, rfl, h0, r0⟩ := trodAll_cons hA
  obtain ⟨rfl, rfl, rfl⟩ := trodAll_nil r0
  obtain rfl : args = #[v0] := by cases args; simp_all
  obtain ⟨rfl, rfl⟩ := trodVars_none hV
  have lt0 : ∀ x ∈ p0, x.block < W.heap.size := by obtain ⟨m, hm⟩ := h0; exact DataW.trod_lt m _ _ _ hm
  obtain ⟨x0, w0⟩ := open_inProg (hval 0 25 v0 rfl rfl) h0
  clear hA0 hval0
  refine (lawLayersOf_in v0 x0 W w0 (tab_of_laid hL)).mono fun e W' ⟨he, bel⟩ => ?_
  subst he
  exact ⟨_, rfl, _, _, _, [], _, [], hW', trodAll_mk1 (shut_bool Tryd.underlying4 _), (trodAll_cons_mk (Below.trod Tryd.laidOut (by kernel_rfl) (of_decide_eq_true (by kernel_rfl)) h0 bel lt0) trodAll_mk0), rfl, bel.frame _, fun h => by cases h⟩

theorem fnExactLayersOf_holds : Rows.FnExactLayersOfSaid :=
  OpenClaim.holds_of_wide 5 Tryd.f5 rfl rfl rfl rfl rfl rfl rfl ⟨rfl, rfl, rfl, rfl, rfl⟩ rfl rfl rfl rfl rfl (by kernel_rfl) Tryd.func5 (by kernel_rfl)
    (of_decide_eq_true (by kernel_rfl)) (by unfold Func.isWrapper; rw [if_neg (of_decide_eq_false (by kernel_rfl))]; exact ⟨rfl, rfl⟩)
    (fun os started H enc _ => fnExactLayersOf_lifted os started H enc)

theorem fnExactLayersOfCard_holds : Rows.FnExactLayersOfCardSaid :=
  Claim7.holds_tied_plain_at .later [] [.data, .data] true (true, "89069972cc508f8cf5f997ce4745a7925f42ae071dd32f0e4fe41eb750c03e8f") false fnExactLayersOf_holds (fun _ h => by cases h) (by kernel_rfl) (fun _ h => by cases h) fnExactLayersOf_row_tie rfl ⟨rfl, rfl⟩ (by kernel_rfl) rfl
    (fun f fn hf hfn => by
      obtain rfl : f = 5 := Option.some.inj ((show Tryd.prog.funcNamed "loop.example/wholerules/laws.FnExactLayersOf" = some 5 by kernel_rfl).symm.trans hf) |>.symm
      obtain rfl : fn = Tryd.f5 := (Option.some.inj (Tryd.func5.symm.trans hfn)).symm
      exact ⟨by kernel_rfl, fun j t ht => by
        rw [Tryd.params5] at ht
        have hm : t ∈ [25] := by simpa using Array.mem_of_getElem? ht
        have hall : ([25].all fun u => !Tryd.prog.wantsStandIn u) = true := by kernel_rfl
        exact (show Tryd.prog.wantsStandIn t = false by simpa using List.all_eq_true.1 hall t hm)⟩)
    (by kernel_rfl)

end Go.Proofs.YtcoelmhlkfignaaDoor
