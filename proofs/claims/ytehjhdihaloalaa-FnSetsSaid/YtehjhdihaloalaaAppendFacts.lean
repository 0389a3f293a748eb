/-
  append of a slice of facts that is read, nil and empty let in, onto a row of the call's own: the headers are shared.
-/
import Derived.Test.YtehjhdihaloalaaAppend
import Derived.Test.YtehjhdihaloalaaHas
namespace Go.Proofs.Ytehjhdihaloalaa
open Go.RowKit

/-- The headers av read as the facts' rows. -/
def RdArgs (w : World) (B : Nat) (av : List Value) (fs : List LFact) : Prop := av.length = fs.length ∧ ∀ k (_ : k < fs.length) (h' : k < av.length) (h : k < fs.length), RdInts w B av[k] fs[k].2
theorem RdArgs.nil (w : World) (B : Nat) : RdArgs w B [] [] := ⟨rfl, fun k h => absurd h (by simp)⟩
theorem RdArgs.on {w w' : World} {av : List Value} {fs : List LFact} (h : RdArgs w w.heap.size av fs) (hb : Below w.heap.size w w') : RdArgs w' w'.heap.size av fs := ⟨h.1, fun k h1 h2 h3 => (h.2 k h1 h2 h3).on hb⟩
theorem RdArgs.append {w : World} {B : Nat} {av av2 : List Value} {fs fs2 : List LFact} (h : RdArgs w B av fs) (h2 : RdArgs w B av2 fs2) : RdArgs w B (av ++ av2) (fs ++ fs2) := by
  refine ⟨by simp [h.1, h2.1], fun k _ h' hk => ?_⟩
  by_cases e : k < fs.length
  · have e' : k < av.length := by rw [h.1]; exact e
    rw [List.getElem_append_left e', List.getElem_append_left e]
    exact h.2 k e e' e
  · have e' : ¬ k < av.length := by rw [h.1]; exact e
    have l1 := h.1
    simp only [List.length_append] at h' hk
    rw [List.getElem_append_right (by omega), List.getElem_append_right (by omega)]
    have := h2.2 (k - fs.length) (by omega) (by omega) (by omega)
    simpa [l1] using this
theorem flat_append : ∀ (fs : List LFact) (av : List Value) (_ : av.length = fs.length) (fs2 : List LFact) (av2 : List Value), flat (fs ++ fs2) (av ++ av2) = flat fs av ++ flat fs2 av2
  | [], [], _, _, _ => by simp [flat]
  | [], _ :: _, h, _, _ => by simp at h
  | _ :: _, [], h, _, _ => by simp at h
  | f :: fs, a :: av, h, fs2, av2 => by simp [flat, flat_append fs av (by simpa using h) fs2 av2]

/-- What is read at a slice of facts, cell by cell. -/
def CellsAt (w : World) (A : Option Addr) (cs : List Value) : Prop := (A = none → cs = []) ∧ ∀ ad, A = some ad → ∀ j u, cs[j]? = some u → w.cell? (ad.add j) = some u

theorem flat_get (fs : List LFact) (av : List Value) (h : av.length = fs.length) (j : Nat) (u : Value) (hu : (flat fs av)[j]? = some u) :
    ∃ k, ∃ (hk : k < fs.length) (hk' : k < av.length), (j = k * 2 ∧ u = .int .i64 fs[k].1) ∨ (j = k * 2 + 1 ∧ u = av[k]) := by
  have hl := flat_length fs av h
  have hj : j < fs.length * 2 := by
    rcases Nat.lt_or_ge j (fs.length * 2) with h1 | h1
    · exact h1
    · rw [List.getElem?_eq_none (by omega)] at hu
      cases hu
  have hk : j / 2 < fs.length := by omega
  obtain ⟨c0, c1⟩ := flat_at fs av h (j / 2) hk (by omega)
  refine ⟨j / 2, hk, by omega, ?_⟩
  by_cases e : j % 2 = 0
  · left
    have e1 : j = j / 2 * 2 := by omega
    refine ⟨e1, ?_⟩
    rw [e1, c0] at hu
    exact (Option.some.inj hu).symm
  · right
    have e1 : j = j / 2 * 2 + 1 := by omega
    refine ⟨e1, ?_⟩
    rw [e1, c1] at hu
    exact (Option.some.inj hu).symm

theorem RdFacts.heads {w : World} {B : Nat} {v : Value} {fs : List LFact} (h : RdFacts w B v fs) : ∃ A c av, v = .slice A fs.length c ∧ RdArgs w B av fs ∧ CellsAt w A (flat fs av) := by
  obtain ⟨A, c, rfl, hc, h⟩ := h
  rcases Nat.eq_zero_or_pos fs.length with h0 | h0
  · have : fs = [] := List.eq_nil_of_length_eq_zero h0
    subst this
    exact ⟨A, c, [], rfl, RdArgs.nil _ _, fun _ => rfl, fun ad _ j u hu => by simp [flat] at hu⟩
  · obtain ⟨b, o, rfl, hb, hx⟩ := h h0
    let av : List Value := (List.finRange fs.length).map fun k => (hx k.1 k.2).choose
    have hl : av.length = fs.length := by simp [av]
    have hav : ∀ k (h : k < fs.length) (h' : k < av.length), av[k] = (hx k h).choose := fun k h h' => by simp [av]
    refine ⟨_, c, av, rfl, ⟨hl, fun k _ h' hk => ?_⟩, fun e => (by cases e), fun ad e j u hu => ?_⟩
    · rw [hav k hk h']
      exact (hx k hk).choose_spec.2.2
    · injection e with e
      subst e
      obtain ⟨k, hk, hk', h1⟩ := flat_get fs av hl j u hu
      rw [Go.WideShapes.add_plain]
      rcases h1 with ⟨rfl, rfl⟩ | ⟨rfl, rfl⟩
      · exact (hx k hk).choose_spec.1
      · rw [hav k hk hk']
        exact (hx k hk).choose_spec.2.1

theorem flat_one (fs : List LFact) (av : List Value) {w : World} {B : Nat} (h : RdArgs w B av fs) : ∀ u ∈ flat fs av, u.oneCell' = true := by
  intro u hu
  obtain ⟨j, hj, e⟩ := List.getElem_of_mem hu
  obtain ⟨k, hk, hk', h1⟩ := flat_get fs av h.1 j u (by rw [List.getElem?_eq_getElem hj, e])
  rcases h1 with ⟨_, rfl⟩ | ⟨_, rfl⟩
  · rfl
  · obtain ⟨A, c, e, _⟩ := h.2 k hk hk' hk
    rw [e]
    rfl

theorem run_append_facts {P : Program} (w : World) (base : Nat) (t ty e : TypeId) (i : TypeInfo) (z : Value) (bytes : Nat) (ht : P.underlying t = some (.slice e)) (hi : P.info? e = some i) (hz : i.zero = some z)
    (hsize : i.size = 2) (hby : i.bytes = bytes) (hzs : z.cells.size = 2)
    (v : Value) (n : Nat) (xs : List Value) (hown : w.ownsRow base e 2 v n xs) (A : Option Addr) (c : Nat) (fs : List LFact) (av : List Value) (B : Nat) (ha : RdArgs w B av fs) (hx : CellsAt w A (flat fs av))
    (h63 : n + fs.length ≤ maxLen) (hbytes : (n + fs.length) * bytes ≤ 140737488355328) (hbase : base ≤ w.heap.size) :
    ∃ A' c' w', (Builtin.append_ #[t, t] ty #[v, .slice A fs.length c]).run P w = .ok (.slice A' (n + fs.length) c') w' ∧ w'.ownsRow base e 2 (.slice A' (n + fs.length) c') (n + fs.length) (xs ++ flat fs av) ∧ w.grownBy w' v.ownBlock ∧
      ((Value.slice A' (n + fs.length) c').ownBlock = v.ownBlock ∨ (Value.slice A' (n + fs.length) c').ownBlock = some w.heap.size) := by
  have hform : ∀ {w' : World} {v' : Value} {m : Nat} {zs : List Value}, w'.ownsRow base e 2 v' m zs → ∃ A c, v' = .slice A m c := by
    intro w' v' m zs h
    rcases h.2 with ⟨rfl, h0⟩ | ⟨g, cap, _, rfl, _⟩
    · exact ⟨none, 0, by rw [h0]⟩
    · exact ⟨_, _, rfl⟩
  rcases A with _ | ad
  · have h0 := hx.1 rfl
    have hl := flat_length fs av ha.1
    rw [h0] at hl
    have hfs : fs = [] := List.eq_nil_of_length_eq_zero (by simp at hl; omega)
    subst hfs
    obtain ⟨A', c', hv⟩ := hform hown
    refine ⟨A', c', w, ?_, by simpa [flat, ← hv] using hown, World.grownBy.refl w _, .inl (by simp only [List.length_nil, Nat.add_zero]; rw [hv])⟩
    simp only [List.length_nil, Nat.add_zero]
    rw [← hv]
    exact run_append_nilsrc w base t ty e i 2 ht hi v n xs hown c
  · obtain ⟨v', w', hrun, h2, h3, _, h5⟩ := run_append_own_at (P := P) w base t ty e i z 2 bytes ht hi hz hsize hby hzs (by decide) v n xs hown ad fs.length c (flat fs av) (flat_length fs av ha.1) (hx.2 ad rfl)
      (flat_one fs av ha) h63 hbytes hbase
    obtain ⟨A', c', hv⟩ := hform h2
    subst hv
    exact ⟨A', c', w', hrun, h2, h3, h5⟩

theorem wpList_append_facts {P : Program} {w : World} {ops : Array Oper} {rest : List Oper} {o : Oper} {a : Act} {Q : Exit → Act → World → Prop} (hgd : o.guard = none) (s x : Operand) (t : TypeId)
    (ho : o.op = .call { callee := .builtin .append, args := #[s, x], argTypes := #[t, t] })
    (base : Nat) (e : TypeId) (i : TypeInfo) (z : Value) (bytes : Nat) (ht : P.underlying t = some (.slice e)) (hi : P.info? e = some i) (hz : i.zero = some z)
    (hsize : i.size = 2) (hby : i.bytes = bytes) (hzs : z.cells.size = 2)
    (v : Value) (n : Nat) (xs : List Value) (hs : a.eval s = v) (hown : w.ownsRow base e 2 v n xs) (A : Option Addr) (c : Nat) (fs : List LFact) (av : List Value) (B : Nat) (hx : a.eval x = .slice A fs.length c) (ha : RdArgs w B av fs) (hc : CellsAt w A (flat fs av))
    (h63 : n + fs.length ≤ maxLen) (hbytes : (n + fs.length) * bytes ≤ 140737488355328) (hbase : base ≤ w.heap.size)
    (h : ∀ A' c' w', w'.ownsRow base e 2 (.slice A' (n + fs.length) c') (n + fs.length) (xs ++ flat fs av) → w.grownBy w' v.ownBlock →
      ((Value.slice A' (n + fs.length) c').ownBlock = v.ownBlock ∨ (Value.slice A' (n + fs.length) c').ownBlock = some w.heap.size) → wpList P ops Q rest (a.put o.dst (.slice A' (n + fs.length) c')) w') : wpList P ops Q (o :: rest) a w := by
  refine wpList_plain hgd fun _ hK => ?_
  obtain ⟨A', c', w', hrun, h2, h3, h4⟩ := run_append_facts (P := P) w base t o.type e i z bytes ht hi hz hsize hby hzs v n xs hown A c fs av B ha hc h63 hbytes hbase
  unfold Oper.wp execOp
  simp only [ho, resolve, invoke, builtin, Sem.run_bind, Sem.run_pure, Result.andThen_ok, List.map_toArray, List.map_cons, List.map_nil, hs, hx, hrun]
  exact hK _ _ (h A' c' w' h2 h3 h4)

end Go.Proofs.Ytehjhdihaloalaa
